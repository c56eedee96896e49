/-
  What the program's Step answers at an operation that reckons and does not trap. Conditions: words are words; the tables lie where they lie; what reckon answers is given.
-/
import Derived.Test.YtcdlhfodeckleaaDoorStSmall
namespace Go.Proofs.YtcdlhfodeckleaaDoor.Lt
open Go.RowKit Wd

/-- a context and a want are told -/
def StR (w : World) (pc : Int) (r : List Int) (ks : List Int) (wt : Array Value) (e : Ending) (w' : World) : Prop := ∃ ao n cap, e = .returned (.tuple #[.agg (cC pc r (.slice ao n cap)), .agg wt]) ∧ Ow eI 1 3 w.heap.size w' (.slice ao n cap) ks ∧ Gr w w'
/-- the five variables of Step in a world: the program, the context, the surroundings, what is told -/
structure Vs (w : World) (b : Nat) (P C E R T : Array Value) : Prop where
  p : w.heap[b]? = some (.cells P 26 (0, 0))
  c : w.heap[b + 1]? = some (.cells C 30 (0, 0))
  e : w.heap[b + 2]? = some (.cells E 44 (0, 0))
  r : w.heap[b + 3]? = some (.cells R 30 (0, 0))
  t : w.heap[b + 4]? = some (.cells T 49 (0, 0))
theorem Vs.gr {w w' : World} {b : Nat} {P C E R T : Array Value} (h : Vs w b P C E R T) (g : Gr w w') : Vs w' b P C E R T := ⟨gr_blk h.p g, gr_blk h.c g, gr_blk h.e g, gr_blk h.r g, gr_blk h.t g⟩
theorem Vs.only {w w' : World} {b : Nat} {P C C' E R T : Array Value} (h : Vs w b P C E R T) (g : Ch (Only (b + 1)) w w') (hc : w'.heap[b + 1]? = some (.cells C' 30 (0, 0))) : Vs w' b P C' E R T :=
  ⟨(g.block _ (lt_of_block h.p) (fun q => by have q1 : b = b + 1 := q; omega)).trans h.p, hc, (g.block _ (lt_of_block h.e) (fun q => by have q1 : b + 2 = b + 1 := q; omega)).trans h.e, (g.block _ (lt_of_block h.r) (fun q => by have q1 : b + 3 = b + 1 := q; omega)).trans h.r, (g.block _ (lt_of_block h.t) (fun q => by have q1 : b + 4 = b + 1 := q; omega)).trans h.t⟩
theorem vs_new (w : World) (P C E R T : Array Value) : Vs (((((w.alloc (.cells P 26)).alloc (.cells C 30)).alloc (.cells E 44)).alloc (.cells R 30)).alloc (.cells T 49)) w.heap.size P C E R T := by
  refine ⟨al_blk (al_blk (al_blk (al_blk (MapKept.heap_alloc w _).1 _) _) _) _, ?_, ?_, ?_, ?_⟩
  · exact al_blk (al_blk (al_blk (by simpa using (MapKept.heap_alloc (w.alloc (.cells P 26)) (.cells C 30)).1) _) _) _
  · exact al_blk (al_blk (by simpa using (MapKept.heap_alloc ((w.alloc (.cells P 26)).alloc (.cells C 30)) (.cells E 44)).1) _) _
  · exact al_blk (by simpa using (MapKept.heap_alloc (((w.alloc (.cells P 26)).alloc (.cells C 30)).alloc (.cells E 44)) (.cells R 30)).1) _
  · simpa using (MapKept.heap_alloc ((((w.alloc (.cells P 26)).alloc (.cells C 30)).alloc (.cells E 44)).alloc (.cells R 30)) (.cells T 49)).1
theorem p3_cells {w : World} {X : Nat} {a b c : Value} {T : TypeId} (h : w.heap[X]? = some (.cells #[a, b, c] T (0, 0))) : w.cell? ⟨X, 0, none⟩ = some a ∧ w.cell? ⟨X, 1, none⟩ = some b ∧ w.cell? ⟨X, 2, none⟩ = some c ∧ X < w.heap.size := ⟨(cell_of h 0).trans rfl, (cell_of h 1).trans rfl, (cell_of h 2).trans rfl, lt_of_block h⟩
theorem one11 : (#[.int .i64 0, .int .i64 0, .int .i64 0, .int .i64 0, .int .i64 0, .int .i64 0, .int .i64 0, .int .i64 0, .int .i64 0, .int .i64 0, .int .i64 0] : Array Value).all (·.oneCell') = true := by simp [Value.oneCell']
theorem cC_size {pc : Int} {r : List Int} {v : Value} (hr : r.length = 16) : (cC pc r v).size = 18 := by simp [cC, hr]
theorem cC_one {pc : Int} {r : List Int} {ao : Option Addr} {n cap : Nat} : (cC pc r (.slice ao n cap)).all (·.oneCell') = true := by
  rw [Array.all_eq_true_iff_forall_mem]
  intro x hx
  unfold cC at hx
  simp at hx
  rcases hx with rfl | ⟨y, _, rfl⟩ | rfl <;> rfl
theorem cC_get {pc : Int} {r : List Int} {v : Value} {a : Nat} {x : Int} (h : r[a]? = some x) : (cC pc r v)[1 + a]? = some (.int .i64 x) := by
  have ha := (List.getElem?_eq_some_iff.1 h).1
  unfold cC
  rw [List.getElem?_toArray, Nat.add_comm, List.getElem?_cons_succ, List.getElem?_append_left (by simpa using ha), List.getElem?_map, h]
  rfl
theorem cC_set {pc : Int} {r : List Int} {v : Value} {a : Nat} (ha : a < r.length) (u : Int) : (cC pc r v).setIfInBounds (1 + a) (.int .i64 u) = cC pc (r.set a u) v := by
  unfold cC
  rw [List.setIfInBounds_toArray, Nat.add_comm, List.set_cons_succ, List.set_append_left _ _ (by simpa using ha), List.map_set]
theorem ctx_size' {c : Array Value} (h : c.size = 18) : (Tryd.prog.info? 30).map (·.size) = some c.size := by rw [h]; exact ctx_size
set_option maxHeartbeats 2000000 in
set_option maxRecDepth 20000 in
theorem step_reckon (P : Nat → Prop) (w : World) (aoc aof aot : Option Addr) (nc nf nt cac caf cat : Nat) (cs : List Int) (h : Ls eU P w (.slice aoc nc cac) cs) (hu : U32s cs) (hg : Glb w) (hcl : nc ≤ 35184372088832) (pc : Int) (r : List Int) (hr : r.length = 16) (ao : Option Addr) (n cap : Nat) (ks : List Int) (hk : Ls eI P w (.slice ao n cap) ks) (hn : n ≤ 17592186044416) (ck sl gn : Int)
    (o1 o2 o3 o4 im : Int) (hI : nI cs pc = (o1, o2, o3, o4, im)) (hB : nB cs pc = true) (h2 : 2 ≤ o1) (h16 : o1 ≤ 16) (h8 : o1 ≠ 8) (h9 : o1 ≠ 9) (a : Nat) (ha : o2 = (a : Int)) (hal : a < 16) (u : Int)
    (HR : ∀ W : World, Calls Tryd.prog 36 #[.agg #[.int .i64 o1, .int .i64 o2, .int .i64 o3, .int .i64 o4, .int .i64 im], .agg (r.map (Value.int .i64)).toArray] W fun e w' => e = .returned (.int .i64 u) ∧ Gr W w') :
    Calls Tryd.prog 16 #[.agg #[.slice aoc nc cac, .slice aof nf caf, .slice aot nt cat], .agg (cC pc r (.slice ao n cap)), .agg #[.int .u64 ck, .int .i64 sl, .int .i64 gn]] w (StR w (pc + 1) (r.set a u) ks #[.int .i64 0, .int .i64 0, .int .i64 0, .int .i64 0, .int .i64 0, .int .i64 0, .int .i64 0, .int .i64 0, .int .i64 0, .int .i64 0, .int .i64 0]) := by
  have hlen := h.len.1
  have hpc : 0 ≤ pc ∧ pc < (nc : Int) := by
    unfold nB at hB
    split at hB
    · rename_i q; rw [hlen]; exact q
    · cases hB
  have HA := hid (fun (W : World) (p : Gr w W) => apart_any P W pc r hr ao n cap ks (hk.gr p) hn)
  have HN := hid (fun (W : World) (p : Gr w W) => pnext9_any P W aoc aof aot nc nf nt cac caf cat cs (h.gr p) hu (hg.gr p) pc)
  rw [hI, hB] at HN
  unfold iV at HN
  simp only at HN
  have HT := hid (fun (W : World) (ao2 : Option Addr) (n2 cap2 : Nat) => traps_no W aoc aof aot nc nf nt cac caf cat pc r hr ao2 n2 cap2 o1 o2 o3 o4 im (by omega) h8 h9 (by omega))
  have HRK := hid HR
  obtain ⟨r0, r1, r2, r3, r4, r5, r6, r7, r8, r9, r10, r11, r12, r13, r14, r15, rfl⟩ := regs16 hr
  simp only [List.map_cons, List.map_nil] at HRK
  have V0 := hid (vs_new w #[.slice aoc nc cac, .slice aof nf caf, .slice aot nt cat] #[.int .i64 pc, .int .i64 r0, .int .i64 r1, .int .i64 r2, .int .i64 r3, .int .i64 r4, .int .i64 r5, .int .i64 r6, .int .i64 r7, .int .i64 r8, .int .i64 r9, .int .i64 r10, .int .i64 r11, .int .i64 r12, .int .i64 r13, .int .i64 r14, .int .i64 r15, .slice ao n cap] #[.int .u64 ck, .int .i64 sl, .int .i64 gn] #[.int .i64 0, .int .i64 0, .int .i64 0, .int .i64 0, .int .i64 0, .int .i64 0, .int .i64 0, .int .i64 0, .int .i64 0, .int .i64 0, .int .i64 0, .int .i64 0, .int .i64 0, .int .i64 0, .int .i64 0, .int .i64 0, .int .i64 0, .slice none 0 0] #[.int .i64 0, .int .i64 0, .int .i64 0, .int .i64 0, .int .i64 0, .int .i64 0, .int .i64 0, .int .i64 0, .int .i64 0, .int .i64 0, .int .i64 0])
  have K0 := hid (show Gr w (((((w.alloc (.cells #[.slice aoc nc cac, .slice aof nf caf, .slice aot nt cat] 26)).alloc (.cells #[.int .i64 pc, .int .i64 r0, .int .i64 r1, .int .i64 r2, .int .i64 r3, .int .i64 r4, .int .i64 r5, .int .i64 r6, .int .i64 r7, .int .i64 r8, .int .i64 r9, .int .i64 r10, .int .i64 r11, .int .i64 r12, .int .i64 r13, .int .i64 r14, .int .i64 r15, .slice ao n cap] 30)).alloc (.cells #[.int .u64 ck, .int .i64 sl, .int .i64 gn] 44)).alloc (.cells #[.int .i64 0, .int .i64 0, .int .i64 0, .int .i64 0, .int .i64 0, .int .i64 0, .int .i64 0, .int .i64 0, .int .i64 0, .int .i64 0, .int .i64 0, .int .i64 0, .int .i64 0, .int .i64 0, .int .i64 0, .int .i64 0, .int .i64 0, .slice none 0 0] 30)).alloc (.cells #[.int .i64 0, .int .i64 0, .int .i64 0, .int .i64 0, .int .i64 0, .int .i64 0, .int .i64 0, .int .i64 0, .int .i64 0, .int .i64 0, .int .i64 0] 49)) from Ch.alloc (Ch.alloc (Ch.alloc (Ch.alloc (Ch.alloc (Gr.refl w) _) _) _) _) _)
  rw [cC_is]
  subst ha
  have e1 : (o1 == 1) = false := by simp; omega
  have e25 : (o1 == 25) = false := by simp; omega
  have e26 : (o1 == 26) = false := by simp; omega
  have e17 : (o1 == 17) = false := by simp; omega
  have e18 : (o1 == 18) = false := by simp; omega
  have e19 : (o1 == 19) = false := by simp; omega
  have e20 : (o1 == 20) = false := by simp; omega
  have e21 : (o1 == 21) = false := by simp; omega
  have HRS := hid (fun (W : World) => reckons_any o1 W)
  rw [decide_eq_true h2, decide_eq_true h16] at HRS
  clear h hu hg hk hI hB HR hr hlen h2 h16 h8 h9
  go_enter Tryd.func16, Tryd.ntmps16
  go_upto_region 3 with (first
    | (refine wpList_load_row rfl 30 (.tmp 4) rfl (w.heap.size + 1) rfl _ _ _ _ V0.out.c Tryd.underlying30 rfl ctx_size ?_)
    | (go_at_call 28; refine (HA.out _ K0.out).mono ?_; rintro e w1 ⟨ao2, n2, cap2, rfl, o1', g1⟩; rw [cC_is]; have OX := hid (show Ow eI 1 3 (w.heap.size + 5) w1 (.slice ao2 n2 cap2) ks from by simpa using o1'); have G1 := hid (Gr.trans K0.out g1); have V1 := hid (V0.out.gr g1); clear o1' g1)
    | (refine st_row rfl 30 (.tmp 4) (.tmp 13) rfl (w.heap.size + 1) _ rfl rfl _ _ V1.out.c ctx_size rfl (one18 _ _ _ _ _ _ _ _ _ _ _ _ _ _ _ _ _ _ _ _) ?_; intro w2 b2 k2; have V2 := hid (V1.out.only k2 b2); have K2 := hid k2; have G2 := hid (show Gr w w2 from Ch.trans G1.out k2 (fun q e => .inr (by have e1 : q = w.heap.size + 1 := e; omega))); obtain ⟨m0, m1, m2, ml⟩ := p3_cells V2.out.p; have mc : w2.cell? ⟨w.heap.size + 1, 0, none⟩ = some (.int .i64 pc) := (cell_of V2.out.c 0).trans rfl; have mcl := lt_of_block V2.out.c; clear b2 k2)
    | (go_at_call 23; refine (HN.out _ G2.out).mono ?_; rintro e w3 ⟨rfl, g3⟩; have V3 := hid (V2.out.gr (Ch.alloc g3 (.cells #[.int .i64 o1, .int .i64 ((a : Nat) : Int), .int .i64 o3, .int .i64 o4, .int .i64 im] 46))); have G3 := hid (show Gr w (w3.alloc (.cells #[.int .i64 o1, .int .i64 ((a : Nat) : Int), .int .i64 o3, .int .i64 o4, .int .i64 im] 46)) from Ch.alloc (Gr.trans G2.out g3) _); have I3 := hid (MapKept.heap_alloc w3 (.cells #[.int .i64 o1, .int .i64 ((a : Nat) : Int), .int .i64 o3, .int .i64 o4, .int .i64 im] 46)).1; have OW3 := hid (show Ow eI 1 3 (w.heap.size + 5) (w3.alloc (.cells #[.int .i64 o1, .int .i64 ((a : Nat) : Int), .int .i64 o3, .int .i64 o4, .int .i64 im] 46)) (.slice ao2 n2 cap2) ks from ((OX.out.ch K2.out (fun q hq e => by have e1 : q = w.heap.size + 1 := e; have := (OX.out.blk hq).1; omega)).gr (Ch.alloc g3 _))); have S3 := hid (show w.heap.size + 5 ≤ w3.heap.size from Nat.lt_of_lt_of_le (lt_of_block V2.out.t) g3.size); clear g3))
  generalize w3.alloc (.cells #[.int .i64 o1, .int .i64 ((a : Nat) : Int), .int .i64 o3, .int .i64 o4, .int .i64 im] 46) = W3 at V3 G3 I3 OW3 ⊢
  generalize w3.heap.size = tb at I3 S3 ⊢
  obtain ⟨q0, q1⟩ := hpc
  have q2 : pc ≤ 35184372088832 := by omega
  have O3 := hid (show Ow eI 1 3 (w.heap.size + 5) W3 (.slice ao2 n2 cap2) ks from OW3.out)
  clear m0 m1 m2 ml mc mcl
  obtain ⟨m0, m1, m2, ml⟩ := p3_cells V3.out.p
  have i0 : W3.cell? ⟨tb, 0, none⟩ = some (.int .i64 o1) := (cell_of I3.out 0).trans rfl
  have i1 : W3.cell? ⟨tb, 1, none⟩ = some (.int .i64 ((a : Nat) : Int)) := (cell_of I3.out 1).trans rfl
  have i2 : W3.cell? ⟨tb, 2, none⟩ = some (.int .i64 o3) := (cell_of I3.out 2).trans rfl
  have i3 : W3.cell? ⟨tb, 3, none⟩ = some (.int .i64 o4) := (cell_of I3.out 3).trans rfl
  have i4 : W3.cell? ⟨tb, 4, none⟩ = some (.int .i64 im) := (cell_of I3.out 4).trans rfl
  have il := lt_of_block I3.out
  go_upto_region 9 with (first
    | (refine wpList_load_row rfl 30 (.tmp 4) rfl (w.heap.size + 1) rfl _ _ _ _ V3.out.c Tryd.underlying30 rfl ctx_size ?_)
    | (go_at_call 30; refine (HT.out _ ao2 n2 cap2).mono ?_; rintro e w5 ⟨rfl, g5⟩; have V5 := hid (V3.out.gr g5); have G5 := hid (show Gr w w5 from Gr.trans G3.out g5); have I5 := hid (gr_blk I3.out g5); have O5 := hid (O3.out.gr g5); have c5 := (cell_of (gr_blk V3.out.c g5) 0).trans (rfl : _ = some (Value.int .i64 pc)); have z5 := frozen_of (gr_blk V3.out.c g5) 0; have l5 := lt_of_block (gr_blk V3.out.c g5); clear g5))
  have K6 := hid (show Ch (Only (w.heap.size + 1)) w5 (w5.setCell ⟨w.heap.size + 1, 0, none⟩ (.int .i64 (pc + 1))) from (Ch.refl _ _).own 0 _)
  have A6 := hid (show Gr (w5.setCell ⟨w.heap.size + 1, 0, none⟩ (.int .i64 (pc + 1))) ((w5.setCell ⟨w.heap.size + 1, 0, none⟩ (.int .i64 (pc + 1))).alloc (.cells #[.int .i64 0, .int .i64 0, .int .i64 0, .int .i64 0, .int .i64 0, .int .i64 0, .int .i64 0, .int .i64 0, .int .i64 0, .int .i64 0, .int .i64 0] 49)) from Ch.alloc (Gr.refl _) _)
  have V6 := hid ((V5.out.only K6.out (show (w5.setCell ⟨w.heap.size + 1, 0, none⟩ (.int .i64 (pc + 1))).heap[w.heap.size + 1]? = some (.cells (cC (pc + 1) [r0, r1, r2, r3, r4, r5, r6, r7, r8, r9, r10, r11, r12, r13, r14, r15] (.slice ao2 n2 cap2)) 30 (0, 0)) by rw [cC_is]; simpa using setCell_block V5.out.c 0 (.int .i64 (pc + 1)))).gr A6.out)
  have I6 := hid (gr_blk ((K6.out.block _ (lt_of_block I5.out) (fun q => by have q1 : tb = w.heap.size + 1 := q; have := S3.out; omega)).trans I5.out) A6.out)
  have O6 := hid ((O5.out.ch K6.out (fun q hq e => by have e1 : q = w.heap.size + 1 := e; have := (O5.out.blk hq).1; omega)).gr A6.out)
  have G6 := hid (show Gr w ((w5.setCell ⟨w.heap.size + 1, 0, none⟩ (.int .i64 (pc + 1))).alloc (.cells #[.int .i64 0, .int .i64 0, .int .i64 0, .int .i64 0, .int .i64 0, .int .i64 0, .int .i64 0, .int .i64 0, .int .i64 0, .int .i64 0, .int .i64 0] 49)) from Gr.trans (Ch.fresh G5.out (by omega) 0 _) A6.out)
  clear i0 i1 i2 i3 i4 il m0 m1 m2 ml c5 z5 l5
  clear A6 K6
  generalize (w5.setCell ⟨w.heap.size + 1, 0, none⟩ (.int .i64 (pc + 1))).alloc (.cells #[.int .i64 0, .int .i64 0, .int .i64 0, .int .i64 0, .int .i64 0, .int .i64 0, .int .i64 0, .int .i64 0, .int .i64 0, .int .i64 0, .int .i64 0] 49) = W6 at V6 I6 O6 G6 ⊢
  have i0 : W6.cell? ⟨tb, 0, none⟩ = some (.int .i64 o1) := (cell_of I6.out 0).trans rfl
  have il := lt_of_block I6.out
  go_upto_region 12 with (go_at_call 34; refine (HRS.out _).mono ?_; rintro e w7 ⟨rfl, hw⟩; have hw := hw.symm; subst hw)
  clear i0 il
  have x0 := (cell_of V6.out.c 1).trans (rfl : _ = some (Value.int .i64 r0))
  have x1 := (cell_of V6.out.c 2).trans (rfl : _ = some (Value.int .i64 r1))
  have x2 := (cell_of V6.out.c 3).trans (rfl : _ = some (Value.int .i64 r2))
  have x3 := (cell_of V6.out.c 4).trans (rfl : _ = some (Value.int .i64 r3))
  have x4 := (cell_of V6.out.c 5).trans (rfl : _ = some (Value.int .i64 r4))
  have x5 := (cell_of V6.out.c 6).trans (rfl : _ = some (Value.int .i64 r5))
  have x6 := (cell_of V6.out.c 7).trans (rfl : _ = some (Value.int .i64 r6))
  have x7 := (cell_of V6.out.c 8).trans (rfl : _ = some (Value.int .i64 r7))
  have x8 := (cell_of V6.out.c 9).trans (rfl : _ = some (Value.int .i64 r8))
  have x9 := (cell_of V6.out.c 10).trans (rfl : _ = some (Value.int .i64 r9))
  have x10 := (cell_of V6.out.c 11).trans (rfl : _ = some (Value.int .i64 r10))
  have x11 := (cell_of V6.out.c 12).trans (rfl : _ = some (Value.int .i64 r11))
  have x12 := (cell_of V6.out.c 13).trans (rfl : _ = some (Value.int .i64 r12))
  have x13 := (cell_of V6.out.c 14).trans (rfl : _ = some (Value.int .i64 r13))
  have x14 := (cell_of V6.out.c 15).trans (rfl : _ = some (Value.int .i64 r14))
  have x15 := (cell_of V6.out.c 16).trans (rfl : _ = some (Value.int .i64 r15))
  have xl := lt_of_block V6.out.c
  have i0 := (cell_of I6.out 0).trans (rfl : _ = some (Value.int .i64 o1))
  have i1 := (cell_of I6.out 1).trans (rfl : _ = some (Value.int .i64 ((a : Nat) : Int)))
  have i2 := (cell_of I6.out 2).trans (rfl : _ = some (Value.int .i64 o3))
  have i3 := (cell_of I6.out 3).trans (rfl : _ = some (Value.int .i64 o4))
  have i4 := (cell_of I6.out 4).trans (rfl : _ = some (Value.int .i64 im))
  have il := lt_of_block I6.out
  obtain ⟨x, hx⟩ : ∃ x, ([r0, r1, r2, r3, r4, r5, r6, r7, r8, r9, r10, r11, r12, r13, r14, r15] : List Int)[a]? = some x := ⟨_, List.getElem?_eq_getElem (by simpa using hal)⟩
  have HX := hid hx
  have a0 : (0 : Int) ≤ (a : Int) := by omega
  have a1 : (a : Int) < 16 := by omega
  clear hx
  go_region_with (go_at_call 36; refine (HRK.out _).mono ?_; rintro e w7 ⟨rfl, g7⟩; have G7 := hid (show Gr W6 w7 from Gr.trans (by first | exact Gr.refl _ | exact Ch.drew (Gr.refl _)) g7); have b7 := gr_blk V6.out.c G7.out; have B7 := hid b7; have j1 := (cell_of (gr_blk I6.out G7.out) 1).trans (rfl : _ = some (Value.int .i64 ((a : Nat) : Int))); have jl := lt_of_block (gr_blk I6.out G7.out); have y7 := (cell_of b7 (1 + a)).trans (cC_get HX.out); have z7 := frozen_of b7 (1 + a); have l7 := lt_of_block b7; clear g7 b7)
  all_goals
    have hb8 : (w7.setCell ⟨w.heap.size + 1, 1 + a, none⟩ (.int .i64 u)).heap[w.heap.size + 1]? = some (.cells (cC (pc + 1) (([r0, r1, r2, r3, r4, r5, r6, r7, r8, r9, r10, r11, r12, r13, r14, r15] : List Int).set a u) (.slice ao2 n2 cap2)) 30 (0, 0)) := by rw [← cC_set (by simpa using hal)]; exact setCell_block B7.out (1 + a) (.int .i64 u)
    have hc8 : Ch (Only (w.heap.size + 1)) W6 (w7.setCell ⟨w.heap.size + 1, 1 + a, none⟩ (.int .i64 u)) := Ch.own (Ch.any G7.out) (1 + a) (.int .i64 u)
    have V8 := hid (V6.out.only hc8 hb8)
    have O8 := hid (O6.out.ch hc8 (fun q hq e => by have e1 : q = w.heap.size + 1 := e; have := (O6.out.blk hq).1; omega))
    have G8 := hid (show Gr w (w7.setCell ⟨w.heap.size + 1, 1 + a, none⟩ (.int .i64 u)) from Ch.trans G6.out hc8 (fun q e => .inr (by have e1 : q = w.heap.size + 1 := e; omega)))
    have HS8 := hid (show (cC (pc + 1) (([r0, r1, r2, r3, r4, r5, r6, r7, r8, r9, r10, r11, r12, r13, r14, r15] : List Int).set a u) (.slice ao2 n2 cap2)).size = 18 from cC_size (by simp))
    clear hb8 hc8 j1 jl y7 z7 l7 x0 x1 x2 x3 x4 x5 x6 x7 x8 x9 x10 x11 x12 x13 x14 x15 xl i0 i1 i2 i3 i4 il
    generalize w7.setCell ⟨w.heap.size + 1, 1 + a, none⟩ (.int .i64 u) = W8 at V8 O8 G8 ⊢
    go_wp2_with (first
      | (refine wpList_load_row rfl 30 (.tmp 4) rfl (w.heap.size + 1) rfl _ _ _ _ V8.out.c Tryd.underlying30 rfl (ctx_size' HS8.out) ?_)
      | (refine st_row rfl 30 (.tmp 6) (.tmp 110) rfl (w.heap.size + 3) _ rfl rfl _ _ V8.out.r (ctx_size' HS8.out) HS8.out.symm cC_one ?_; intro w9 b9 k9; have R9 := hid b9; have K9 := hid k9; have T9 := hid ((k9.block _ (lt_of_block V8.out.t) (fun q => by have q1 : w.heap.size + 4 = w.heap.size + 3 := q; omega)).trans V8.out.t); clear b9 k9)
      | (refine st_row rfl 49 (.tmp 7) (.tmp 111) rfl (w.heap.size + 4) _ rfl rfl _ _ T9.out want_size rfl one11 ?_; intro w10 b10 k10; have T10 := hid b10; have K10 := hid k10; have R10 := hid ((k10.block _ (lt_of_block R9.out) (fun q => by have q1 : w.heap.size + 3 = w.heap.size + 4 := q; omega)).trans R9.out); clear b10 k10))
    refine bodyPost_ret (results_cell_cell rfl _ _ (w.heap.size + 3) (w.heap.size + 4) _ _ rfl (run_loadVar_row _ _ _ _ _ _ _ R10.out Tryd.underlying30 rfl (ctx_size' HS8.out)) rfl (run_loadVar_row _ _ _ _ _ _ _ T10.out Tryd.underlying49 rfl want_size)) rfl ?_
    exact ⟨ao2, n2, cap2, rfl, ((O8.out.ch K9.out (fun q hq e => by have e1 : q = w.heap.size + 3 := e; have := (O8.out.blk hq).1; omega)).ch K10.out (fun q hq e => by have e1 : q = w.heap.size + 4 := e; have := (O8.out.blk hq).1; omega)).lower (by omega), Ch.trans (Ch.trans G8.out K9.out (fun q e => .inr (by have e1 : q = w.heap.size + 3 := e; omega))) K10.out (fun q e => .inr (by have e1 : q = w.heap.size + 4 := e; omega))⟩
end Go.Proofs.YtcdlhfodeckleaaDoor.Lt
