/-
  What the program's Step answers where it reckons. Conditions: words are words; the tables lie where they lie.
  What the program's Step answers at call. Conditions: words are words; the tables lie where they lie.
  What the program's Step answers at ret. Conditions: words are words; the tables lie where they lie.
-/
import Derived.Test.YtcdlhfodeckleaaDoorSuRk
import Derived.Test.YtcdlhfodeckleaaDoorSuAs
import Derived.Test.YtcdlhfodeckleaaDoorStCosts
import Derived.Test.YtcdlhfodeckleaaDoorStBegin
namespace Go.Proofs.YtcdlhfodeckleaaDoor.Lt
open Go.RowKit Wd

/-- an array inside a struct, read whole -/
theorem run_loadVar_sub {P : Program} (w : World) (g k : Nat) (ty : TypeId) (cs : List Value) (d : TypeDesc) (hc : ∀ j v, cs[j]? = some v → w.cell? ⟨g, k + j, none⟩ = some v)
    (hu : P.underlying ty = some d) (hd : (match d with | .struct _ | .array _ _ => true | _ => false) = true) (hi : (P.info? ty).map (·.size) = some cs.length) :
    (loadVar ty ⟨g, k, none⟩).run P w = .ok (.agg cs.toArray) w := by
  have hl : (loadCells ⟨g, k, none⟩ cs.length).run P w = .ok cs.toArray w :=
    run_loadCells_list (P := P) w ⟨g, k, none⟩ cs (fun j v hv => by rw [add_none]; exact hc j v hv)
  cases hq : P.info? ty with
  | none => simp [hq] at hi
  | some i =>
    have hs : i.size = cs.length := by simpa [hq] using hi
    have hagg : (isAgg ty).run P w = .ok true w := by
      unfold isAgg
      rw [Sem.run_bind, run_underlying hu w]
      cases d <;> simp_all
    simp [loadVar, Sem.run_bind, hagg, sizeOf, typeInfo, hq, hs, hl]
theorem wp_load_sub {P : Program} {o : Oper} {a : Act} {w : World} {K : Act → World → Prop} {Q : Exit → Act → World → Prop} (ty : TypeId) (x : Operand) (ho : o.op = .load ty x) (g k : Nat) (hx : a.eval x = .pointer (some ⟨g, k, none⟩)) (cs : List Value) (d : TypeDesc) (hc : ∀ j v, cs[j]? = some v → w.cell? ⟨g, k + j, none⟩ = some v)
    (hu : P.underlying ty = some d) (hd : (match d with | .struct _ | .array _ _ => true | _ => false) = true) (hi : (P.info? ty).map (·.size) = some cs.length) (h : K (a.put o.dst (.agg cs.toArray)) w) : o.wp P a w K Q := by
  unfold Oper.wp execOp
  simp only [ho, hx, Instr.loadAt, Instr.sureAddr, Sem.run_bind, Sem.run_pure, Result.andThen_ok, run_loadVar_sub w g k ty cs d hc hu hd hi]
  exact h
theorem cC_regs {r : List Int} {w : World} {g : Nat} {t : TypeId} {fr : Nat × Nat} {pc : Int} {v : Value} (h : w.heap[g]? = some (.cells (cC pc r v) t fr)) : ∀ (j : Nat) (u : Value), (r.map (Value.int .i64))[j]? = some u → w.cell? ⟨g, 1 + j, none⟩ = some u := by
  intro j u hu
  rw [List.getElem?_map] at hu
  cases hj : r[j]? with
  | none => rw [hj] at hu; cases hu
  | some x =>
    rw [hj] at hu
    injection hu with hu
    subst hu
    exact (cell_of h (1 + j)).trans (cC_get hj)
/-- the variables of Step but the context -/
structure Sz (w : World) (tb : Nat) (I : Array Value) (W : World) : Prop where
  g : Gr w W
  i : W.heap[tb]? = some (.cells I 46 (0, 0))
  z : w.heap.size + 5 ≤ tb
theorem Sz.gr {w : World} {tb : Nat} {I : Array Value} {W W' : World} (h : Sz w tb I W) (g : Gr W W') : Sz w tb I W' := ⟨Gr.trans h.g g, gr_blk h.i g, h.z⟩
theorem Sz.own {w : World} {tb : Nat} {I : Array Value} {W W' : World} (h : Sz w tb I W) (k : Ch (Only (w.heap.size + 1)) W W') : Sz w tb I W' :=
  ⟨Ch.trans h.g k (fun q e => .inr (by have e1 : q = w.heap.size + 1 := e; omega)), (k.block _ (lt_of_block h.i) (fun q => by have q1 : tb = w.heap.size + 1 := q; have := h.z; omega)).trans h.i, h.z⟩
set_option maxHeartbeats 2000000 in
set_option maxRecDepth 20000 in
theorem pstep_reckon (P : Nat → Prop) (w : World) (aoc aof aot : Option Addr) (nc nf nt cac caf cat : Nat) (cs : List Int) (h : Ls eU P w (.slice aoc nc cac) cs) (hu : U32s cs) (hg : Glb w) (hcl : nc ≤ 35184372088832) (pc : Int) (r : List Int) (hr : r.length = 16) (ao : Option Addr) (n cap : Nat) (ks : List Int) (hk : Ls eI P w (.slice ao n cap) ks) (hn : n ≤ 17592186044416) (ck sl gn : Int)
    (o1 im : Int) (a b c : Nat) (la : a < 16) (lb : b < 16) (lc : c < 16) (x y z : Int) (hx : r[a]? = some x) (hy : r[b]? = some y) (hz : r[c]? = some z) (hI : nI cs pc = (o1, (a : Int), (b : Int), (c : Int), im)) (hB : nB cs pc = true) (ho : 2 ≤ o1 ∧ o1 ≤ 16) (hz0 : o1 = 8 ∨ o1 = 9 → z ≠ 0)
    (HTR : ∀ (W : World) (ao2 : Option Addr) (n2 cap2 : Nat), Calls Tryd.prog 30 #[.agg #[.slice aoc nc cac, .slice aof nf caf, .slice aot nt cat], .agg (cC pc r (.slice ao2 n2 cap2)), .agg #[.int .i64 o1, .int .i64 (a : Int), .int .i64 (b : Int), .int .i64 (c : Int), .int .i64 im]] W fun e w' => e = .returned (.tuple #[.agg #[.int .i64 0, .int .i64 0, .int .i64 0, .int .i64 0, .int .i64 0, .int .i64 0, .int .i64 0, .int .i64 0, .int .i64 0, .int .i64 0, .int .i64 0], .bool false]) ∧ Gr W w') :
    Calls Tryd.prog 16 #[.agg #[.slice aoc nc cac, .slice aof nf caf, .slice aot nt cat], .agg (cC pc r (.slice ao n cap)), .agg #[.int .u64 ck, .int .i64 sl, .int .i64 gn]] w (StR w (pc + 1) (r.set a (rk o1 im x y z)) ks #[.int .i64 0, .int .i64 0, .int .i64 0, .int .i64 0, .int .i64 0, .int .i64 0, .int .i64 0, .int .i64 0, .int .i64 0, .int .i64 0, .int .i64 0]) := by
  have hlen := h.len.1
  have hpc : 0 ≤ pc ∧ pc < (nc : Int) := by
    unfold nB at hB
    split at hB
    · rename_i q; rw [hlen]; exact q
    · cases hB
  have HA := hid (fun (W : World) (p : Gr w W) => apart_any P W pc r hr ao n cap ks (hk.gr p) hn)
  have HN := hid (fun (W : World) (p : Gr w W) => pnext9_any P W aoc aof aot nc nf nt cac caf cat cs (h.gr p) hu (hg.gr p) pc)
  rw [hI, hB] at HN
  unfold iV at HN
  simp only at HN
  have HT := hid HTR
  have V0 := hid (vs_new w #[.slice aoc nc cac, .slice aof nf caf, .slice aot nt cat] (cC pc r (.slice ao n cap)) #[.int .u64 ck, .int .i64 sl, .int .i64 gn] #[.int .i64 0, .int .i64 0, .int .i64 0, .int .i64 0, .int .i64 0, .int .i64 0, .int .i64 0, .int .i64 0, .int .i64 0, .int .i64 0, .int .i64 0, .int .i64 0, .int .i64 0, .int .i64 0, .int .i64 0, .int .i64 0, .int .i64 0, .slice none 0 0] #[.int .i64 0, .int .i64 0, .int .i64 0, .int .i64 0, .int .i64 0, .int .i64 0, .int .i64 0, .int .i64 0, .int .i64 0, .int .i64 0, .int .i64 0])
  have K0 := hid (show Gr w (((((w.alloc (.cells #[.slice aoc nc cac, .slice aof nf caf, .slice aot nt cat] 26)).alloc (.cells (cC pc r (.slice ao n cap)) 30)).alloc (.cells #[.int .u64 ck, .int .i64 sl, .int .i64 gn] 44)).alloc (.cells #[.int .i64 0, .int .i64 0, .int .i64 0, .int .i64 0, .int .i64 0, .int .i64 0, .int .i64 0, .int .i64 0, .int .i64 0, .int .i64 0, .int .i64 0, .int .i64 0, .int .i64 0, .int .i64 0, .int .i64 0, .int .i64 0, .int .i64 0, .slice none 0 0] 30)).alloc (.cells #[.int .i64 0, .int .i64 0, .int .i64 0, .int .i64 0, .int .i64 0, .int .i64 0, .int .i64 0, .int .i64 0, .int .i64 0, .int .i64 0, .int .i64 0] 49)) from Ch.alloc (Ch.alloc (Ch.alloc (Ch.alloc (Ch.alloc (Gr.refl w) _) _) _) _) _)
  have HSZ := hid (fun (pc : Int) (v : Value) => cC_size (pc := pc) (v := v) hr)
  have e1 : (o1 == 1) = false := by simp; omega
  have e25 : (o1 == 25) = false := by simp; omega
  have e26 : (o1 == 26) = false := by simp; omega
  have e17 : (o1 == 17) = false := by simp; omega
  have e18 : (o1 == 18) = false := by simp; omega
  have e19 : (o1 == 19) = false := by simp; omega
  have e20 : (o1 == 20) = false := by simp; omega
  have e21 : (o1 == 21) = false := by simp; omega
  have HX := hid hx
  have HY := hid hy
  have HZ := hid hz
  have a0 : (0 : Int) ≤ (a : Int) := by omega
  have a1 : (a : Int) < 16 := by omega
  have HNR := hid (show (decide (2 ≤ o1) && decide (o1 ≤ 16)) = true from by simp [ho.1, ho.2])
  have HRK := hid (fun (W : World) => reckon_any o1 ho.1 ho.2 a b c im x y z r hx hy hz la lb lc hz0 W)
  clear hx hy hz hz0 HTR
  have HRR := hid hr
  clear ho h hu hg hk hI hB hlen hr
  go_enter Tryd.func16, Tryd.ntmps16
  go_upto_region 3 with (first
    | (refine wpList_load_row rfl 30 (.tmp 4) rfl (w.heap.size + 1) rfl _ _ _ _ V0.out.c Tryd.underlying30 rfl (ctx_size' (HSZ.out _ _)) ?_)
    | (go_at_call 28; refine (HA.out _ K0.out).mono ?_; rintro e w1 ⟨ao2, n2, cap2, rfl, o1', g1⟩; have OX := hid (show Ow eI 1 3 (w.heap.size + 5) w1 (.slice ao2 n2 cap2) ks from by simpa using o1'); have G1 := hid (Gr.trans K0.out g1); have V1 := hid (V0.out.gr g1); clear o1' g1)
    | (refine st_row rfl 30 (.tmp 4) (.tmp 13) rfl (w.heap.size + 1) _ rfl rfl _ _ V1.out.c (ctx_size' (HSZ.out _ _)) ((HSZ.out _ _).trans (HSZ.out _ _).symm) cC_one ?_; intro w2 b2 k2; have V2 := hid (V1.out.only k2 b2); have K2 := hid k2; have G2 := hid (show Gr w w2 from Ch.trans G1.out k2 (fun q e => .inr (by have e1 : q = w.heap.size + 1 := e; omega))); obtain ⟨m0, m1, m2, ml⟩ := p3_cells V2.out.p; have mc : w2.cell? ⟨w.heap.size + 1, 0, none⟩ = some (.int .i64 pc) := (cell_of V2.out.c 0).trans (cC_pc _ _ _); have mcl := lt_of_block V2.out.c; clear b2 k2)
    | (go_at_call 23; refine (HN.out _ G2.out).mono ?_; rintro e w3 ⟨rfl, g3⟩; have V3 := hid (V2.out.gr (Ch.alloc g3 (.cells #[.int .i64 o1, .int .i64 (a : Int), .int .i64 (b : Int), .int .i64 (c : Int), .int .i64 im] 46))); have G3 := hid (show Gr w (w3.alloc (.cells #[.int .i64 o1, .int .i64 (a : Int), .int .i64 (b : Int), .int .i64 (c : Int), .int .i64 im] 46)) from Ch.alloc (Gr.trans G2.out g3) _); have I3 := hid (MapKept.heap_alloc w3 (.cells #[.int .i64 o1, .int .i64 (a : Int), .int .i64 (b : Int), .int .i64 (c : Int), .int .i64 im] 46)).1; have OW3 := hid (show Ow eI 1 3 (w.heap.size + 5) (w3.alloc (.cells #[.int .i64 o1, .int .i64 (a : Int), .int .i64 (b : Int), .int .i64 (c : Int), .int .i64 im] 46)) (.slice ao2 n2 cap2) ks from ((OX.out.ch K2.out (fun q hq e => by have e1 : q = w.heap.size + 1 := e; have := (OX.out.blk hq).1; omega)).gr (Ch.alloc g3 _))); have S3 := hid (show w.heap.size + 5 ≤ w3.heap.size from Nat.lt_of_lt_of_le (lt_of_block V2.out.t) g3.size); clear g3))
  generalize w3.alloc (.cells #[.int .i64 o1, .int .i64 (a : Int), .int .i64 (b : Int), .int .i64 (c : Int), .int .i64 im] 46) = W3 at V3 G3 I3 OW3 ⊢
  generalize w3.heap.size = tb at I3 S3 ⊢
  obtain ⟨q0, q1⟩ := hpc
  have q2 : pc ≤ 35184372088832 := by omega
  have O3 := hid (show Ow eI 1 3 (w.heap.size + 5) W3 (.slice ao2 n2 cap2) ks from OW3.out)
  clear m0 m1 m2 ml mc mcl
  obtain ⟨m0, m1, m2, ml⟩ := p3_cells V3.out.p
  have i0 : W3.cell? ⟨tb, 0, none⟩ = some (.int .i64 o1) := (cell_of I3.out 0).trans rfl
  have i1 : W3.cell? ⟨tb, 1, none⟩ = some (.int .i64 (a : Int)) := (cell_of I3.out 1).trans rfl
  have i2 : W3.cell? ⟨tb, 2, none⟩ = some (.int .i64 (b : Int)) := (cell_of I3.out 2).trans rfl
  have i3 : W3.cell? ⟨tb, 3, none⟩ = some (.int .i64 (c : Int)) := (cell_of I3.out 3).trans rfl
  have i4 : W3.cell? ⟨tb, 4, none⟩ = some (.int .i64 im) := (cell_of I3.out 4).trans rfl
  have il := lt_of_block I3.out
  go_upto_region 9 with (first
    | (refine wpList_load_row rfl 30 (.tmp 4) rfl (w.heap.size + 1) rfl _ _ _ _ V3.out.c Tryd.underlying30 rfl (ctx_size' (HSZ.out _ _)) ?_)
    | (go_at_call 30; refine (HT.out _ ao2 n2 cap2).mono ?_; rintro e w5 ⟨rfl, g5⟩; have V5 := hid (V3.out.gr g5); have G5 := hid (show Gr w w5 from Gr.trans G3.out g5); have I5 := hid (gr_blk I3.out g5); have O5 := hid (O3.out.gr g5); have c5 := (cell_of (gr_blk V3.out.c g5) 0).trans (cC_pc _ _ _); have z5 := frozen_of (gr_blk V3.out.c g5) 0; have l5 := lt_of_block (gr_blk V3.out.c g5); clear g5))
  have K6 := hid (show Ch (Only (w.heap.size + 1)) w5 (w5.setCell ⟨w.heap.size + 1, 0, none⟩ (.int .i64 (pc + 1))) from (Ch.refl _ _).own 0 _)
  have A6 := hid (show Gr (w5.setCell ⟨w.heap.size + 1, 0, none⟩ (.int .i64 (pc + 1))) ((w5.setCell ⟨w.heap.size + 1, 0, none⟩ (.int .i64 (pc + 1))).alloc (.cells #[.int .i64 0, .int .i64 0, .int .i64 0, .int .i64 0, .int .i64 0, .int .i64 0, .int .i64 0, .int .i64 0, .int .i64 0, .int .i64 0, .int .i64 0] 49)) from Ch.alloc (Gr.refl _) _)
  have V6 := hid ((V5.out.only K6.out (show (w5.setCell ⟨w.heap.size + 1, 0, none⟩ (.int .i64 (pc + 1))).heap[w.heap.size + 1]? = some (.cells (cC (pc + 1) r (.slice ao2 n2 cap2)) 30 (0, 0)) by rw [← cC_setpc pc]; exact setCell_block V5.out.c 0 (.int .i64 (pc + 1)))).gr A6.out)
  have I6 := hid (gr_blk ((K6.out.block _ (lt_of_block I5.out) (fun q => by have q1 : tb = w.heap.size + 1 := q; have := S3.out; omega)).trans I5.out) A6.out)
  have O6 := hid ((O5.out.ch K6.out (fun q hq e => by have e1 : q = w.heap.size + 1 := e; have := (O5.out.blk hq).1; omega)).gr A6.out)
  have G6 := hid (show Gr w ((w5.setCell ⟨w.heap.size + 1, 0, none⟩ (.int .i64 (pc + 1))).alloc (.cells #[.int .i64 0, .int .i64 0, .int .i64 0, .int .i64 0, .int .i64 0, .int .i64 0, .int .i64 0, .int .i64 0, .int .i64 0, .int .i64 0, .int .i64 0] 49)) from Gr.trans (Ch.fresh G5.out (by omega) 0 _) A6.out)
  clear i0 i1 i2 i3 i4 il m0 m1 m2 ml c5 z5 l5
  clear A6 K6
  generalize (w5.setCell ⟨w.heap.size + 1, 0, none⟩ (.int .i64 (pc + 1))).alloc (.cells #[.int .i64 0, .int .i64 0, .int .i64 0, .int .i64 0, .int .i64 0, .int .i64 0, .int .i64 0, .int .i64 0, .int .i64 0, .int .i64 0, .int .i64 0] 49) = W6 at V6 I6 O6 G6 ⊢
  have i0 : W6.cell? ⟨tb, 0, none⟩ = some (.int .i64 o1) := (cell_of I6.out 0).trans rfl
  have i1 : W6.cell? ⟨tb, 1, none⟩ = some (.int .i64 (a : Int)) := (cell_of I6.out 1).trans rfl
  have i2 : W6.cell? ⟨tb, 2, none⟩ = some (.int .i64 (b : Int)) := (cell_of I6.out 2).trans rfl
  have i3 : W6.cell? ⟨tb, 3, none⟩ = some (.int .i64 (c : Int)) := (cell_of I6.out 3).trans rfl
  have i4 : W6.cell? ⟨tb, 4, none⟩ = some (.int .i64 im) := (cell_of I6.out 4).trans rfl
  have il := lt_of_block I6.out
  have HRS := hid (fun (W : World) => reckons_any o1 W)
  rw [HNR.out] at HRS
  clear i1 i2 i3 i4
  go_upto_region 12 with (go_at_call 34; refine (HRS.out _).mono ?_; rintro e w7 ⟨rfl, hw⟩; have hw := hw.symm; subst hw)
  clear i0
  have hS0 : Sz w tb #[.int .i64 o1, .int .i64 (a : Int), .int .i64 (b : Int), .int .i64 (c : Int), .int .i64 im] W6.drew := ⟨Ch.drew G6.out, I6.out, by have := S3.out; omega⟩
  refine wp_region_held_drew (S := Sz w tb #[.int .i64 o1, .int .i64 (a : Int), .int .i64 (b : Int), .int .i64 (c : Int), .int .i64 im]) (by kernel_rfl) (by exact hS0) (fun _ => ?_)
  refine takeS_on (i := 0) 49 (v := ?v7) rfl rfl (by kernel_rfl) (by kernel_rfl) (by kernel_rfl) (fun _ _ _ h => h) (by kernel_rfl) ?hy7 (by exact hS0) ?_
  case hy7 => (intro w' hSw; go_simp; try (with_reducible rfl))
  simp only [Act.put, List.setIfInBounds_toArray, List.set_cons_zero, List.set_cons_succ]
  refine takeS_on (i := 1) 50 (v := ?v8) rfl rfl (by kernel_rfl) (by kernel_rfl) (by kernel_rfl) (fun _ _ _ h => h) (by kernel_rfl) ?hy8 (by exact hS0) ?_
  case hy8 => (intro w' hSw; have z9 := (cell_of hSw.i 1).trans (rfl : _ = some (Value.int .i64 (a : Int))); go_simp; try (with_reducible rfl))
  simp only [Act.put, List.setIfInBounds_toArray, List.set_cons_zero, List.set_cons_succ]
  refine takeS_on (i := 2) 51 (v := ?v9) rfl rfl (by kernel_rfl) (by kernel_rfl) (by kernel_rfl) (fun _ _ _ h => h) (by kernel_rfl) ?hy9 (by exact hS0) ?_
  case hy9 => (intro w' hSw; refine Eq.trans (exec_row 46 (.tmp 8) rfl _ rfl _ _ _ _ hSw.i Tryd.underlying46 rfl ins_size) ?_; with_reducible rfl)
  simp only [Act.put, List.setIfInBounds_toArray, List.set_cons_zero, List.set_cons_succ]
  refine takeS_on (i := 3) 52 (v := ?v10) rfl rfl (by kernel_rfl) (by kernel_rfl) (by kernel_rfl) (fun _ _ _ h => h) (by kernel_rfl) ?hy10 (by exact hS0) ?_
  case hy10 => (intro w' hSw; go_simp; try (with_reducible rfl))
  simp only [Act.put, List.setIfInBounds_toArray, List.set_cons_zero, List.set_cons_succ]
  refine takeS_on (i := 6) 55 (v := ?v11) rfl rfl (by kernel_rfl) (by kernel_rfl) (by kernel_rfl) (fun _ _ _ h => h) (by kernel_rfl) ?hy11 (by exact hS0) ?_
  case hy11 => (intro w' hSw; go_simp; try (with_reducible rfl))
  simp only [Act.put, List.setIfInBounds_toArray, List.set_cons_zero, List.set_cons_succ]
  refine wpAnyH_ready (rs := [4]) (by kernel_rfl) (by simp) (AllReadyH.cons rfl (fun K hK => ?_) AllReadyH.nil)
  rw [if_pos (by kernel_rfl)]
  refine wp_load_sub 27 (.tmp 52) rfl (w.heap.size + 1) 1 rfl (r.map (Value.int .i64)) _ (cC_regs (show W6.drew.heap[w.heap.size + 1]? = _ from V6.out.c)) Tryd.underlying27 rfl (by rw [List.length_map, HRR.out]; exact arr_size) ?_
  refine hK.out _ _ (by exact hS0) (fun _ => ?_)
  change wpAnyH _ _ _ _ _ _ _ (Act.put _ (some 53) _) _
  simp only [Act.put, List.setIfInBounds_toArray, List.set_cons_zero, List.set_cons_succ]
  clear hK K
  refine wpAnyH_ready (rs := [5]) (by kernel_rfl) (by simp) (AllReadyH.cons rfl (fun K hK => ?_) AllReadyH.nil)
  go_simp
  refine (HRK.out _).mono ?_
  rintro e w7 ⟨rfl, g7⟩
  have hS2 := hS0.gr g7
  have G7 := hid (show Gr W6 w7 from Gr.trans (Ch.drew (Gr.refl _)) g7)
  have B7 := hid (gr_blk V6.out.c G7.out)
  have y7 := (cell_of B7.out (1 + a)).trans (cC_get HX.out)
  have z7 := frozen_of B7.out (1 + a)
  have l7 := lt_of_block B7.out
  clear g7
  refine hK.out _ _ (by exact hS2) (fun _ => ?_)
  clear hK K
  refine takeS_on (i := 7) 56 (v := ?v12) rfl rfl (by kernel_rfl) (by kernel_rfl) (by kernel_rfl) (fun _ _ _ h => h) (by kernel_rfl) ?hy12 (by exact hS2) ?_
  case hy12 => (intro w' hSw; go_simp; try (with_reducible rfl))
  simp only [Act.put, List.setIfInBounds_toArray, List.set_cons_zero, List.set_cons_succ]
  refine wpAnyH_ready (rs := [8]) (by kernel_rfl) (by simp) (AllReadyH.cons rfl (fun K hK => ?_) AllReadyH.nil)
  go_simp
  have hS9 := hS2.own ((Ch.refl (Only (w.heap.size + 1)) w7).own (1 + a) (.int .i64 (rk o1 im x y z)))
  refine hK.out _ _ (by exact hS9) (fun _ => ?_)
  clear hK K
  refine wpAnyH_done (by kernel_rfl) ?_ _
  have hb8 : (w7.setCell ⟨w.heap.size + 1, 1 + a, none⟩ (.int .i64 (rk o1 im x y z))).heap[w.heap.size + 1]? = some (.cells (cC (pc + 1) (r.set a (rk o1 im x y z)) (.slice ao2 n2 cap2)) 30 (0, 0)) := by rw [← cC_set (by rw [HRR.out]; exact la)]; exact setCell_block B7.out (1 + a) (.int .i64 (rk o1 im x y z))
  have hc8 : Ch (Only (w.heap.size + 1)) W6 (w7.setCell ⟨w.heap.size + 1, 1 + a, none⟩ (.int .i64 (rk o1 im x y z))) := Ch.own (Ch.any G7.out) (1 + a) (.int .i64 (rk o1 im x y z))
  have V8 := hid (V6.out.only hc8 hb8)
  have O8 := hid (O6.out.ch hc8 (fun q hq e => by have e1 : q = w.heap.size + 1 := e; have := (O6.out.blk hq).1; omega))
  have G8 := hid (show Gr w (w7.setCell ⟨w.heap.size + 1, 1 + a, none⟩ (.int .i64 (rk o1 im x y z))) from Ch.trans G6.out hc8 (fun q e => .inr (by have e1 : q = w.heap.size + 1 := e; omega)))
  have HSZ := hid (fun (pc : Int) (v : Value) => cC_size (pc := pc) (v := v) (show (r.set a (rk o1 im x y z)).length = 16 from (List.length_set).trans HRR.out))
  clear hb8 hc8
  generalize w7.setCell ⟨w.heap.size + 1, 1 + a, none⟩ (.int .i64 (rk o1 im x y z)) = W8 at V8 O8 G8 ⊢
  clear y7 z7 l7
  go_wp2_with (first
    | (refine wpList_load_row rfl 30 (.tmp 4) rfl (w.heap.size + 1) rfl _ _ _ _ V8.out.c Tryd.underlying30 rfl (ctx_size' (HSZ.out _ _)) ?_)
    | (refine st_row rfl 30 (.tmp 6) (.tmp 110) rfl (w.heap.size + 3) _ rfl rfl _ _ V8.out.r (ctx_size' (HSZ.out _ _)) (HSZ.out _ _).symm cC_one ?_; intro w9 b9 k9; have R9 := hid b9; have K9 := hid k9; have T9 := hid ((k9.block _ (lt_of_block V8.out.t) (fun q => by have q1 : w.heap.size + 4 = w.heap.size + 3 := q; omega)).trans V8.out.t); clear b9 k9)
    | (refine st_row rfl 49 (.tmp 7) (.tmp 111) rfl (w.heap.size + 4) _ rfl rfl _ _ T9.out want_size rfl one11 ?_; intro w10 b10 k10; have T10 := hid b10; have K10 := hid k10; have R10 := hid ((k10.block _ (lt_of_block R9.out) (fun q => by have q1 : w.heap.size + 3 = w.heap.size + 4 := q; omega)).trans R9.out); clear b10 k10))
  refine bodyPost_ret (results_cell_cell rfl _ _ (w.heap.size + 3) (w.heap.size + 4) _ _ rfl (run_loadVar_row _ _ _ _ _ _ _ R10.out Tryd.underlying30 rfl (ctx_size' (HSZ.out _ _))) rfl (run_loadVar_row _ _ _ _ _ _ _ T10.out Tryd.underlying49 rfl want_size)) rfl ?_
  exact ⟨_, _, _, rfl, ((O8.out.ch K9.out (fun q hq e => by have e1 : q = w.heap.size + 3 := e; have := (O8.out.blk hq).1; omega)).ch K10.out (fun q hq e => by have e1 : q = w.heap.size + 4 := e; have := (O8.out.blk hq).1; omega)).lower (by omega), Ch.trans (Ch.trans G8.out K9.out (fun q e => .inr (by have e1 : q = w.heap.size + 3 := e; omega))) K10.out (fun q e => .inr (by have e1 : q = w.heap.size + 4 := e; omega))⟩

end Go.Proofs.YtcdlhfodeckleaaDoor.Lt

namespace Go.Proofs.YtcdlhfodeckleaaDoor.Lt
open Go.RowKit Wd

set_option maxHeartbeats 2000000 in
set_option maxRecDepth 20000 in
theorem pstep_call (P : Nat → Prop) (w : World) (aoc aof aot : Option Addr) (nc nf nt cac caf cat : Nat) (cs : List Int) (h : Ls eU P w (.slice aoc nc cac) cs) (hu : U32s cs) (hg : Glb w) (hcl : nc ≤ 35184372088832) (pc : Int) (r : List Int) (hr : r.length = 16) (ao : Option Addr) (n cap : Nat) (ks : List Int) (hk : Ls eI P w (.slice ao n cap) ks) (hn : n ≤ 17592186044416) (ck sl gn : Int)
    (o1 o2 o3 o4 im : Int) (hI : nI cs pc = (o1, o2, o3, o4, im)) (hB : nB cs pc = true) (ho : o1 = 20) (fs : List (Int × Int)) (hfs : Ls eG P w (.slice aof nf caf) fs) (f : Nat) (b0 e0 : Int) (hfe : fs[f]? = some (b0, e0)) (him : im = (f : Int)) (hn64 : n < 64)
    (HTR : ∀ (W : World) (ao2 : Option Addr) (n2 cap2 : Nat), n2 = n → Calls Tryd.prog 30 #[.agg #[.slice aoc nc cac, .slice aof nf caf, .slice aot nt cat], .agg (cC pc r (.slice ao2 n2 cap2)), .agg #[.int .i64 o1, .int .i64 o2, .int .i64 o3, .int .i64 o4, .int .i64 im]] W fun e w' => e = .returned (.tuple #[.agg #[.int .i64 0, .int .i64 0, .int .i64 0, .int .i64 0, .int .i64 0, .int .i64 0, .int .i64 0, .int .i64 0, .int .i64 0, .int .i64 0, .int .i64 0], .bool false]) ∧ Gr W w') :
    Calls Tryd.prog 16 #[.agg #[.slice aoc nc cac, .slice aof nf caf, .slice aot nt cat], .agg (cC pc r (.slice ao n cap)), .agg #[.int .u64 ck, .int .i64 sl, .int .i64 gn]] w (StR w b0 r (ks ++ [pc + 1]) #[.int .i64 0, .int .i64 0, .int .i64 0, .int .i64 0, .int .i64 0, .int .i64 0, .int .i64 0, .int .i64 0, .int .i64 0, .int .i64 0, .int .i64 0]) := by
  have hlen := h.len.1
  have hpc : 0 ≤ pc ∧ pc < (nc : Int) := by
    unfold nB at hB
    split at hB
    · rename_i q; rw [hlen]; exact q
    · cases hB
  have HA := hid (fun (W : World) (p : Gr w W) => apart_any P W pc r hr ao n cap ks (hk.gr p) hn)
  have HN := hid (fun (W : World) (p : Gr w W) => pnext9_any P W aoc aof aot nc nf nt cac caf cat cs (h.gr p) hu (hg.gr p) pc)
  rw [hI, hB] at HN
  unfold iV at HN
  simp only at HN
  have HT := hid HTR
  have V0 := hid (vs_new w #[.slice aoc nc cac, .slice aof nf caf, .slice aot nt cat] (cC pc r (.slice ao n cap)) #[.int .u64 ck, .int .i64 sl, .int .i64 gn] #[.int .i64 0, .int .i64 0, .int .i64 0, .int .i64 0, .int .i64 0, .int .i64 0, .int .i64 0, .int .i64 0, .int .i64 0, .int .i64 0, .int .i64 0, .int .i64 0, .int .i64 0, .int .i64 0, .int .i64 0, .int .i64 0, .int .i64 0, .slice none 0 0] #[.int .i64 0, .int .i64 0, .int .i64 0, .int .i64 0, .int .i64 0, .int .i64 0, .int .i64 0, .int .i64 0, .int .i64 0, .int .i64 0, .int .i64 0])
  have K0 := hid (show Gr w (((((w.alloc (.cells #[.slice aoc nc cac, .slice aof nf caf, .slice aot nt cat] 26)).alloc (.cells (cC pc r (.slice ao n cap)) 30)).alloc (.cells #[.int .u64 ck, .int .i64 sl, .int .i64 gn] 44)).alloc (.cells #[.int .i64 0, .int .i64 0, .int .i64 0, .int .i64 0, .int .i64 0, .int .i64 0, .int .i64 0, .int .i64 0, .int .i64 0, .int .i64 0, .int .i64 0, .int .i64 0, .int .i64 0, .int .i64 0, .int .i64 0, .int .i64 0, .int .i64 0, .slice none 0 0] 30)).alloc (.cells #[.int .i64 0, .int .i64 0, .int .i64 0, .int .i64 0, .int .i64 0, .int .i64 0, .int .i64 0, .int .i64 0, .int .i64 0, .int .i64 0, .int .i64 0] 49)) from Ch.alloc (Ch.alloc (Ch.alloc (Ch.alloc (Ch.alloc (Gr.refl w) _) _) _) _) _)
  have HSZ := hid (fun (pc : Int) (v : Value) => cC_size (pc := pc) (v := v) hr)
  have e1 : (o1 == 1) = false := by rw [ho]; rfl
  have e25 : (o1 == 25) = false := by rw [ho]; rfl
  have e26 : (o1 == 26) = false := by rw [ho]; rfl
  have e17 : (o1 == 17) = false := by rw [ho]; rfl
  have e18 : (o1 == 18) = false := by rw [ho]; rfl
  have e19 : (o1 == 19) = false := by rw [ho]; rfl
  have e20 : (o1 == 20) = true := by rw [ho]; rfl
  have HKL := hid hk.len.1
  have HFS := hid hfs
  have HFE := hid hfe
  have HNF := hid hfs.len.1
  have HIM := hid him
  clear hfs hfe HTR him
  have HRR := hid hr
  clear ho h hu hg hk hI hB hlen hr
  go_enter Tryd.func16, Tryd.ntmps16
  go_upto_region 3 with (first
    | (refine wpList_load_row rfl 30 (.tmp 4) rfl (w.heap.size + 1) rfl _ _ _ _ V0.out.c Tryd.underlying30 rfl (ctx_size' (HSZ.out _ _)) ?_)
    | (go_at_call 28; refine (HA.out _ K0.out).mono ?_; rintro e w1 ⟨ao2, n2, cap2, rfl, o1', g1⟩; have OX := hid (show Ow eI 1 3 (w.heap.size + 5) w1 (.slice ao2 n2 cap2) ks from by simpa using o1'); have G1 := hid (Gr.trans K0.out g1); have V1 := hid (V0.out.gr g1); clear o1' g1)
    | (refine st_row rfl 30 (.tmp 4) (.tmp 13) rfl (w.heap.size + 1) _ rfl rfl _ _ V1.out.c (ctx_size' (HSZ.out _ _)) ((HSZ.out _ _).trans (HSZ.out _ _).symm) cC_one ?_; intro w2 b2 k2; have V2 := hid (V1.out.only k2 b2); have K2 := hid k2; have G2 := hid (show Gr w w2 from Ch.trans G1.out k2 (fun q e => .inr (by have e1 : q = w.heap.size + 1 := e; omega))); obtain ⟨m0, m1, m2, ml⟩ := p3_cells V2.out.p; have mc : w2.cell? ⟨w.heap.size + 1, 0, none⟩ = some (.int .i64 pc) := (cell_of V2.out.c 0).trans (cC_pc _ _ _); have mcl := lt_of_block V2.out.c; clear b2 k2)
    | (go_at_call 23; refine (HN.out _ G2.out).mono ?_; rintro e w3 ⟨rfl, g3⟩; have V3 := hid (V2.out.gr (Ch.alloc g3 (.cells #[.int .i64 o1, .int .i64 o2, .int .i64 o3, .int .i64 o4, .int .i64 im] 46))); have G3 := hid (show Gr w (w3.alloc (.cells #[.int .i64 o1, .int .i64 o2, .int .i64 o3, .int .i64 o4, .int .i64 im] 46)) from Ch.alloc (Gr.trans G2.out g3) _); have I3 := hid (MapKept.heap_alloc w3 (.cells #[.int .i64 o1, .int .i64 o2, .int .i64 o3, .int .i64 o4, .int .i64 im] 46)).1; have OW3 := hid (show Ow eI 1 3 (w.heap.size + 5) (w3.alloc (.cells #[.int .i64 o1, .int .i64 o2, .int .i64 o3, .int .i64 o4, .int .i64 im] 46)) (.slice ao2 n2 cap2) ks from ((OX.out.ch K2.out (fun q hq e => by have e1 : q = w.heap.size + 1 := e; have := (OX.out.blk hq).1; omega)).gr (Ch.alloc g3 _))); have S3 := hid (show w.heap.size + 5 ≤ w3.heap.size from Nat.lt_of_lt_of_le (lt_of_block V2.out.t) g3.size); have HLT := hid (show ∀ q, Blk (.slice ao2 n2 cap2) q → q < w3.heap.size from fun q e => Nat.lt_of_lt_of_le ((OX.out.ch K2.out (fun q hq e => by have e1 : q = w.heap.size + 1 := e; have := (OX.out.blk hq).1; omega)).blk e).2 g3.size); clear g3))
  generalize w3.alloc (.cells #[.int .i64 o1, .int .i64 o2, .int .i64 o3, .int .i64 o4, .int .i64 im] 46) = W3 at V3 G3 I3 OW3 ⊢
  generalize w3.heap.size = tb at I3 S3 HLT ⊢
  obtain ⟨q0, q1⟩ := hpc
  have q2 : pc ≤ 35184372088832 := by omega
  have O3 := hid (show Ow eI 1 3 (w.heap.size + 5) W3 (.slice ao2 n2 cap2) ks from OW3.out)
  clear m0 m1 m2 ml mc mcl
  obtain ⟨m0, m1, m2, ml⟩ := p3_cells V3.out.p
  have i0 : W3.cell? ⟨tb, 0, none⟩ = some (.int .i64 o1) := (cell_of I3.out 0).trans rfl
  have i1 : W3.cell? ⟨tb, 1, none⟩ = some (.int .i64 o2) := (cell_of I3.out 1).trans rfl
  have i2 : W3.cell? ⟨tb, 2, none⟩ = some (.int .i64 o3) := (cell_of I3.out 2).trans rfl
  have i3 : W3.cell? ⟨tb, 3, none⟩ = some (.int .i64 o4) := (cell_of I3.out 3).trans rfl
  have i4 : W3.cell? ⟨tb, 4, none⟩ = some (.int .i64 im) := (cell_of I3.out 4).trans rfl
  have il := lt_of_block I3.out
  go_upto_region 9 with (first
    | (refine wpList_load_row rfl 30 (.tmp 4) rfl (w.heap.size + 1) rfl _ _ _ _ V3.out.c Tryd.underlying30 rfl (ctx_size' (HSZ.out _ _)) ?_)
    | (go_at_call 30; refine (HT.out _ ao2 n2 cap2 (by have q1 := O3.out.len.1; have q2 := HKL.out; omega)).mono ?_; rintro e w5 ⟨rfl, g5⟩; have V5 := hid (V3.out.gr g5); have G5 := hid (show Gr w w5 from Gr.trans G3.out g5); have I5 := hid (gr_blk I3.out g5); have O5 := hid (O3.out.gr g5); have c5 := (cell_of (gr_blk V3.out.c g5) 0).trans (cC_pc _ _ _); have z5 := frozen_of (gr_blk V3.out.c g5) 0; have l5 := lt_of_block (gr_blk V3.out.c g5); clear g5))
  have K6 := hid (show Ch (Only (w.heap.size + 1)) w5 (w5.setCell ⟨w.heap.size + 1, 0, none⟩ (.int .i64 (pc + 1))) from (Ch.refl _ _).own 0 _)
  have A6 := hid (show Gr (w5.setCell ⟨w.heap.size + 1, 0, none⟩ (.int .i64 (pc + 1))) ((w5.setCell ⟨w.heap.size + 1, 0, none⟩ (.int .i64 (pc + 1))).alloc (.cells #[.int .i64 0, .int .i64 0, .int .i64 0, .int .i64 0, .int .i64 0, .int .i64 0, .int .i64 0, .int .i64 0, .int .i64 0, .int .i64 0, .int .i64 0] 49)) from Ch.alloc (Gr.refl _) _)
  have V6 := hid ((V5.out.only K6.out (show (w5.setCell ⟨w.heap.size + 1, 0, none⟩ (.int .i64 (pc + 1))).heap[w.heap.size + 1]? = some (.cells (cC (pc + 1) r (.slice ao2 n2 cap2)) 30 (0, 0)) by rw [← cC_setpc pc]; exact setCell_block V5.out.c 0 (.int .i64 (pc + 1)))).gr A6.out)
  have I6 := hid (gr_blk ((K6.out.block _ (lt_of_block I5.out) (fun q => by have q1 : tb = w.heap.size + 1 := q; have := S3.out; omega)).trans I5.out) A6.out)
  have O6 := hid ((O5.out.ch K6.out (fun q hq e => by have e1 : q = w.heap.size + 1 := e; have := (O5.out.blk hq).1; omega)).gr A6.out)
  have G6 := hid (show Gr w ((w5.setCell ⟨w.heap.size + 1, 0, none⟩ (.int .i64 (pc + 1))).alloc (.cells #[.int .i64 0, .int .i64 0, .int .i64 0, .int .i64 0, .int .i64 0, .int .i64 0, .int .i64 0, .int .i64 0, .int .i64 0, .int .i64 0, .int .i64 0] 49)) from Gr.trans (Ch.fresh G5.out (by omega) 0 _) A6.out)
  clear i0 i1 i2 i3 i4 il m0 m1 m2 ml c5 z5 l5
  clear A6 K6
  generalize (w5.setCell ⟨w.heap.size + 1, 0, none⟩ (.int .i64 (pc + 1))).alloc (.cells #[.int .i64 0, .int .i64 0, .int .i64 0, .int .i64 0, .int .i64 0, .int .i64 0, .int .i64 0, .int .i64 0, .int .i64 0, .int .i64 0, .int .i64 0] 49) = W6 at V6 I6 O6 G6 ⊢
  have i0 : W6.cell? ⟨tb, 0, none⟩ = some (.int .i64 o1) := (cell_of I6.out 0).trans rfl
  have i1 : W6.cell? ⟨tb, 1, none⟩ = some (.int .i64 o2) := (cell_of I6.out 1).trans rfl
  have i2 : W6.cell? ⟨tb, 2, none⟩ = some (.int .i64 o3) := (cell_of I6.out 2).trans rfl
  have i3 : W6.cell? ⟨tb, 3, none⟩ = some (.int .i64 o4) := (cell_of I6.out 3).trans rfl
  have i4 : W6.cell? ⟨tb, 4, none⟩ = some (.int .i64 im) := (cell_of I6.out 4).trans rfl
  have il := lt_of_block I6.out
  have q3 := (cell_of V6.out.p 1).trans (rfl : _ = some (Value.slice aof nf caf))
  have q4 := lt_of_block V6.out.p
  have c0 := (cell_of V6.out.c 0).trans (cC_pc _ _ _)
  have c17 := (cell_of V6.out.c 17).trans (cC_v HRR.out _ _)
  have z17 := frozen_of V6.out.c 17
  have z0 := frozen_of V6.out.c 0
  have cl := lt_of_block V6.out.c
  have HNL := hid (show n2 = ks.length from O6.out.len.1)
  have hn2 : n2 < 64 := by have q5 := HNL.out; have q6 := HKL.out; omega
  clear i1 i2 i3
  go_upto_region 25 with (first
    | (at_builtin; refine wpList_append_ow eI_len rfl (.tmp 90) (.tmp 93) _ 3 8 _ Tryd.underlying28 int_info rfl (by omega) rfl (w.heap.size + 5) _ ks rfl (O6.out.alloc _) _ _ [pc + 1] rfl (ls_int _ _ _ (by simp)) (eI_one _) (n2 + 1) (by rw [HNL.out]; rfl) (by omega) (by unfold maxLen; omega) (by simp; have := lt_of_block V6.out.t; omega) (ks ++ [pc + 1]) rfl ?_; intro ao7 cap7 w7 o7 k7 b7; have A7 := Ch.alloc (Ch.refl (Blk (.slice ao2 n2 cap2)) W6) (.cells #[.int .i64 (pc + 1)] 3); have C7 := A7.trans' k7; have B7 := hid (show w7.heap[w.heap.size + 1]? = some (.cells (cC (pc + 1) r (.slice ao2 n2 cap2)) 30 (0, 0)) from (C7.block _ (lt_of_block V6.out.c) (fun e => by have := (O6.out.blk e).1; omega)).trans V6.out.c); have P7 := hid ((C7.block _ (lt_of_block V6.out.p) (fun e => by have := (O6.out.blk e).1; omega)).trans V6.out.p); have E7 := hid ((C7.block _ (lt_of_block V6.out.e) (fun e => by have := (O6.out.blk e).1; omega)).trans V6.out.e); have R7 := hid ((C7.block _ (lt_of_block V6.out.r) (fun e => by have := (O6.out.blk e).1; omega)).trans V6.out.r); have T7 := hid ((C7.block _ (lt_of_block V6.out.t) (fun e => by have := (O6.out.blk e).1; omega)).trans V6.out.t); have I7 := hid ((C7.block _ (lt_of_block I6.out) (fun e => by have := HLT.out _ e; omega)).trans I6.out); have O7 := hid o7; have K7 := hid C7; have y17 := (cell_of B7.out 17).trans (cC_v HRR.out _ _); have w17 := frozen_of B7.out 17; have l17 := lt_of_block B7.out; clear A7 C7 o7 k7 b7))
  have hb8 : (w7.setCell ⟨w.heap.size + 1, 17, none⟩ (.slice ao7 (n2 + 1) cap7)).heap[w.heap.size + 1]? = some (.cells (cC (pc + 1) r (.slice ao7 (n2 + 1) cap7)) 30 (0, 0)) := by rw [← cC_setv HRR.out (pc + 1) (.slice ao2 n2 cap2)]; exact setCell_block B7.out 17 _
  have hc8 : Ch (Only (w.heap.size + 1)) w7 (w7.setCell ⟨w.heap.size + 1, 17, none⟩ (.slice ao7 (n2 + 1) cap7)) := (Ch.refl _ _).own 17 _
  have V7 : Vs w7 w.heap.size #[.slice aoc nc cac, .slice aof nf caf, .slice aot nt cat] (cC (pc + 1) r (.slice ao2 n2 cap2)) #[.int .u64 ck, .int .i64 sl, .int .i64 gn] #[.int .i64 0, .int .i64 0, .int .i64 0, .int .i64 0, .int .i64 0, .int .i64 0, .int .i64 0, .int .i64 0, .int .i64 0, .int .i64 0, .int .i64 0, .int .i64 0, .int .i64 0, .int .i64 0, .int .i64 0, .int .i64 0, .int .i64 0, .slice none 0 0] #[.int .i64 0, .int .i64 0, .int .i64 0, .int .i64 0, .int .i64 0, .int .i64 0, .int .i64 0, .int .i64 0, .int .i64 0, .int .i64 0, .int .i64 0] := ⟨P7.out, B7.out, E7.out, R7.out, T7.out⟩
  have V8 := hid (V7.only hc8 hb8)
  have O8 := hid (O7.out.ch hc8 (fun q hq e => by have e1 : q = w.heap.size + 1 := e; have := (O7.out.blk hq).1; omega))
  have G8 := hid (show Gr w (w7.setCell ⟨w.heap.size + 1, 17, none⟩ (.slice ao7 (n2 + 1) cap7)) from Ch.trans (Ch.trans G6.out K7.out (fun q e => .inr (by have := (O6.out.blk e).1; omega))) hc8 (fun q e => .inr (by have e1 : q = w.heap.size + 1 := e; omega)))
  have I8 := hid (show (w7.setCell ⟨w.heap.size + 1, 17, none⟩ (.slice ao7 (n2 + 1) cap7)).heap[tb]? = some (.cells #[.int .i64 o1, .int .i64 o2, .int .i64 o3, .int .i64 o4, .int .i64 im] 46 (0, 0)) from (hc8.block _ (lt_of_block I7.out) (fun q => by have q1 : tb = w.heap.size + 1 := q; have := S3.out; omega)).trans I7.out)
  clear hb8 hc8 V7 c0 c17 z17 z0 cl y17 w17 l17 q3 q4 i0 i4 il
  generalize w7.setCell ⟨w.heap.size + 1, 17, none⟩ (.slice ao7 (n2 + 1) cap7) = W8 at V8 O8 G8 I8 ⊢
  have q3 := (cell_of V8.out.p 1).trans (rfl : _ = some (Value.slice aof nf caf))
  have q4 := lt_of_block V8.out.p
  have c0 := (cell_of V8.out.c 0).trans (cC_pc _ _ _)
  have z0 := frozen_of V8.out.c 0
  have cl := lt_of_block V8.out.c
  have i4 := (cell_of I8.out 4).trans (rfl : _ = some (Value.int .i64 im))
  have il := lt_of_block I8.out
  obtain ⟨g, o, cap', hv, _, hgl, _, hcs⟩ := (HFS.out.gr G8.out).get eG_len HFE.out
  injection hv with hv1 hv2 hv3
  subst hv1
  have d0 := hcs 0 _ rfl
  rw [Nat.add_zero] at d0
  have f0 : (0 : Int) ≤ im := by have := HIM.out; omega
  have f1 : im < (nf : Int) := by have q5 := (List.getElem?_eq_some_iff.1 HFE.out).1; have := HIM.out; have := HNF.out; omega
  have ft : im.toNat = f := by have := HIM.out; omega
  clear hcs hv2 hv3
  go_upto_region 28 with fail
  have hb9 : (W8.setCell ⟨w.heap.size + 1, 0, none⟩ (.int .i64 b0)).heap[w.heap.size + 1]? = some (.cells (cC b0 r (.slice ao7 (n2 + 1) cap7)) 30 (0, 0)) := by rw [← cC_setpc (pc + 1)]; exact setCell_block V8.out.c 0 (.int .i64 b0)
  have hc9 : Ch (Only (w.heap.size + 1)) W8 (W8.setCell ⟨w.heap.size + 1, 0, none⟩ (.int .i64 b0)) := (Ch.refl _ _).own 0 _
  have V9 := hid (V8.out.only hc9 hb9)
  have O9 := hid (O8.out.ch hc9 (fun q hq e => by have e1 : q = w.heap.size + 1 := e; have := (O8.out.blk hq).1; omega))
  have G9 := hid (show Gr w (W8.setCell ⟨w.heap.size + 1, 0, none⟩ (.int .i64 b0)) from Ch.trans G8.out hc9 (fun q e => .inr (by have e1 : q = w.heap.size + 1 := e; omega)))
  clear hb9 hc9 q3 q4 c0 z0 cl i4 il d0
  generalize W8.setCell ⟨w.heap.size + 1, 0, none⟩ (.int .i64 b0) = W9 at V9 O9 G9 ⊢
  go_wp2_with (first
    | (refine wpList_load_row rfl 30 (.tmp 4) rfl (w.heap.size + 1) rfl _ _ _ _ V9.out.c Tryd.underlying30 rfl (ctx_size' (HSZ.out _ _)) ?_)
    | (refine st_row rfl 30 (.tmp 6) (.tmp 110) rfl (w.heap.size + 3) _ rfl rfl _ _ V9.out.r (ctx_size' (HSZ.out _ _)) (HSZ.out _ _).symm cC_one ?_; intro w9 b9 k9; have R9 := hid b9; have K9 := hid k9; have T9 := hid ((k9.block _ (lt_of_block V9.out.t) (fun q => by have q1 : w.heap.size + 4 = w.heap.size + 3 := q; omega)).trans V9.out.t); clear b9 k9)
    | (refine st_row rfl 49 (.tmp 7) (.tmp 111) rfl (w.heap.size + 4) _ rfl rfl _ _ T9.out want_size rfl one11 ?_; intro w10 b10 k10; have T10 := hid b10; have K10 := hid k10; have R10 := hid ((k10.block _ (lt_of_block R9.out) (fun q => by have q1 : w.heap.size + 3 = w.heap.size + 4 := q; omega)).trans R9.out); clear b10 k10))
  refine bodyPost_ret (results_cell_cell rfl _ _ (w.heap.size + 3) (w.heap.size + 4) _ _ rfl (run_loadVar_row _ _ _ _ _ _ _ R10.out Tryd.underlying30 rfl (ctx_size' (HSZ.out _ _))) rfl (run_loadVar_row _ _ _ _ _ _ _ T10.out Tryd.underlying49 rfl want_size)) rfl ?_
  exact ⟨_, _, _, rfl, ((O9.out.ch K9.out (fun q hq e => by have e1 : q = w.heap.size + 3 := e; have := (O9.out.blk hq).1; omega)).ch K10.out (fun q hq e => by have e1 : q = w.heap.size + 4 := e; have := (O9.out.blk hq).1; omega)).lower (by omega), Ch.trans (Ch.trans G9.out K9.out (fun q e => .inr (by have e1 : q = w.heap.size + 3 := e; omega))) K10.out (fun q e => .inr (by have e1 : q = w.heap.size + 4 := e; omega))⟩
end Go.Proofs.YtcdlhfodeckleaaDoor.Lt

namespace Go.Proofs.YtcdlhfodeckleaaDoor.Lt
open Go.RowKit Wd

set_option maxHeartbeats 2000000 in
set_option maxRecDepth 20000 in
theorem pstep_retn (P : Nat → Prop) (w : World) (aoc aof aot : Option Addr) (nc nf nt cac caf cat : Nat) (cs : List Int) (h : Ls eU P w (.slice aoc nc cac) cs) (hu : U32s cs) (hg : Glb w) (hcl : nc ≤ 35184372088832) (pc : Int) (r : List Int) (hr : r.length = 16) (ao : Option Addr) (n cap : Nat) (ks : List Int) (hk : Ls eI P w (.slice ao n cap) ks) (hn : n ≤ 17592186044416) (ck sl gn : Int)
    (o1 o2 o3 o4 im : Int) (hI : nI cs pc = (o1, o2, o3, o4, im)) (hB : nB cs pc = true) (ho : o1 = 21) (hm : n = 0) :
    Calls Tryd.prog 16 #[.agg #[.slice aoc nc cac, .slice aof nf caf, .slice aot nt cat], .agg (cC pc r (.slice ao n cap)), .agg #[.int .u64 ck, .int .i64 sl, .int .i64 gn]] w (StR w (pc + 1) r ks (wt 24 0 0 0 0 0 0 0 0 0 0)) := by
  have hlen := h.len.1
  have hpc : 0 ≤ pc ∧ pc < (nc : Int) := by
    unfold nB at hB
    split at hB
    · rename_i q; rw [hlen]; exact q
    · cases hB
  have HA := hid (fun (W : World) (p : Gr w W) => apart_any P W pc r hr ao n cap ks (hk.gr p) hn)
  have HN := hid (fun (W : World) (p : Gr w W) => pnext9_any P W aoc aof aot nc nf nt cac caf cat cs (h.gr p) hu (hg.gr p) pc)
  rw [hI, hB] at HN
  unfold iV at HN
  simp only at HN
  have HT := hid (fun (W : World) (ao2 : Option Addr) (n2 cap2 : Nat) => traps_no W aoc aof aot nc nf nt cac caf cat pc r hr ao2 n2 cap2 o1 o2 o3 o4 im (by omega) (by omega) (by omega) (by omega))
  have V0 := hid (vs_new w #[.slice aoc nc cac, .slice aof nf caf, .slice aot nt cat] (cC pc r (.slice ao n cap)) #[.int .u64 ck, .int .i64 sl, .int .i64 gn] #[.int .i64 0, .int .i64 0, .int .i64 0, .int .i64 0, .int .i64 0, .int .i64 0, .int .i64 0, .int .i64 0, .int .i64 0, .int .i64 0, .int .i64 0, .int .i64 0, .int .i64 0, .int .i64 0, .int .i64 0, .int .i64 0, .int .i64 0, .slice none 0 0] #[.int .i64 0, .int .i64 0, .int .i64 0, .int .i64 0, .int .i64 0, .int .i64 0, .int .i64 0, .int .i64 0, .int .i64 0, .int .i64 0, .int .i64 0])
  have K0 := hid (show Gr w (((((w.alloc (.cells #[.slice aoc nc cac, .slice aof nf caf, .slice aot nt cat] 26)).alloc (.cells (cC pc r (.slice ao n cap)) 30)).alloc (.cells #[.int .u64 ck, .int .i64 sl, .int .i64 gn] 44)).alloc (.cells #[.int .i64 0, .int .i64 0, .int .i64 0, .int .i64 0, .int .i64 0, .int .i64 0, .int .i64 0, .int .i64 0, .int .i64 0, .int .i64 0, .int .i64 0, .int .i64 0, .int .i64 0, .int .i64 0, .int .i64 0, .int .i64 0, .int .i64 0, .slice none 0 0] 30)).alloc (.cells #[.int .i64 0, .int .i64 0, .int .i64 0, .int .i64 0, .int .i64 0, .int .i64 0, .int .i64 0, .int .i64 0, .int .i64 0, .int .i64 0, .int .i64 0] 49)) from Ch.alloc (Ch.alloc (Ch.alloc (Ch.alloc (Ch.alloc (Gr.refl w) _) _) _) _) _)
  have HSZ := hid (fun (pc : Int) (v : Value) => cC_size (pc := pc) (v := v) hr)
  have e1 : (o1 == 1) = false := by rw [ho]; rfl
  have e25 : (o1 == 25) = false := by rw [ho]; rfl
  have e26 : (o1 == 26) = false := by rw [ho]; rfl
  have e17 : (o1 == 17) = false := by rw [ho]; rfl
  have e18 : (o1 == 18) = false := by rw [ho]; rfl
  have e19 : (o1 == 19) = false := by rw [ho]; rfl
  have e20 : (o1 == 20) = false := by rw [ho]; rfl
  have e21 : (o1 == 21) = true := by rw [ho]; rfl
  have HMM := hid hm
  have HKL := hid hk.len.1
  clear hm
  have HRR := hid hr
  clear ho h hu hg hk hI hB hlen hr
  go_enter Tryd.func16, Tryd.ntmps16
  go_upto_region 3 with (first
    | (refine wpList_load_row rfl 30 (.tmp 4) rfl (w.heap.size + 1) rfl _ _ _ _ V0.out.c Tryd.underlying30 rfl (ctx_size' (HSZ.out _ _)) ?_)
    | (go_at_call 28; refine (HA.out _ K0.out).mono ?_; rintro e w1 ⟨ao2, n2, cap2, rfl, o1', g1⟩; have OX := hid (show Ow eI 1 3 (w.heap.size + 5) w1 (.slice ao2 n2 cap2) ks from by simpa using o1'); have G1 := hid (Gr.trans K0.out g1); have V1 := hid (V0.out.gr g1); clear o1' g1)
    | (refine st_row rfl 30 (.tmp 4) (.tmp 13) rfl (w.heap.size + 1) _ rfl rfl _ _ V1.out.c (ctx_size' (HSZ.out _ _)) ((HSZ.out _ _).trans (HSZ.out _ _).symm) cC_one ?_; intro w2 b2 k2; have V2 := hid (V1.out.only k2 b2); have K2 := hid k2; have G2 := hid (show Gr w w2 from Ch.trans G1.out k2 (fun q e => .inr (by have e1 : q = w.heap.size + 1 := e; omega))); obtain ⟨m0, m1, m2, ml⟩ := p3_cells V2.out.p; have mc : w2.cell? ⟨w.heap.size + 1, 0, none⟩ = some (.int .i64 pc) := (cell_of V2.out.c 0).trans (cC_pc _ _ _); have mcl := lt_of_block V2.out.c; clear b2 k2)
    | (go_at_call 23; refine (HN.out _ G2.out).mono ?_; rintro e w3 ⟨rfl, g3⟩; have V3 := hid (V2.out.gr (Ch.alloc g3 (.cells #[.int .i64 o1, .int .i64 o2, .int .i64 o3, .int .i64 o4, .int .i64 im] 46))); have G3 := hid (show Gr w (w3.alloc (.cells #[.int .i64 o1, .int .i64 o2, .int .i64 o3, .int .i64 o4, .int .i64 im] 46)) from Ch.alloc (Gr.trans G2.out g3) _); have I3 := hid (MapKept.heap_alloc w3 (.cells #[.int .i64 o1, .int .i64 o2, .int .i64 o3, .int .i64 o4, .int .i64 im] 46)).1; have OW3 := hid (show Ow eI 1 3 (w.heap.size + 5) (w3.alloc (.cells #[.int .i64 o1, .int .i64 o2, .int .i64 o3, .int .i64 o4, .int .i64 im] 46)) (.slice ao2 n2 cap2) ks from ((OX.out.ch K2.out (fun q hq e => by have e1 : q = w.heap.size + 1 := e; have := (OX.out.blk hq).1; omega)).gr (Ch.alloc g3 _))); have S3 := hid (show w.heap.size + 5 ≤ w3.heap.size from Nat.lt_of_lt_of_le (lt_of_block V2.out.t) g3.size); clear g3))
  generalize w3.alloc (.cells #[.int .i64 o1, .int .i64 o2, .int .i64 o3, .int .i64 o4, .int .i64 im] 46) = W3 at V3 G3 I3 OW3 ⊢
  generalize w3.heap.size = tb at I3 S3 ⊢
  obtain ⟨q0, q1⟩ := hpc
  have q2 : pc ≤ 35184372088832 := by omega
  have O3 := hid (show Ow eI 1 3 (w.heap.size + 5) W3 (.slice ao2 n2 cap2) ks from OW3.out)
  clear m0 m1 m2 ml mc mcl
  obtain ⟨m0, m1, m2, ml⟩ := p3_cells V3.out.p
  have i0 : W3.cell? ⟨tb, 0, none⟩ = some (.int .i64 o1) := (cell_of I3.out 0).trans rfl
  have i1 : W3.cell? ⟨tb, 1, none⟩ = some (.int .i64 o2) := (cell_of I3.out 1).trans rfl
  have i2 : W3.cell? ⟨tb, 2, none⟩ = some (.int .i64 o3) := (cell_of I3.out 2).trans rfl
  have i3 : W3.cell? ⟨tb, 3, none⟩ = some (.int .i64 o4) := (cell_of I3.out 3).trans rfl
  have i4 : W3.cell? ⟨tb, 4, none⟩ = some (.int .i64 im) := (cell_of I3.out 4).trans rfl
  have il := lt_of_block I3.out
  go_upto_region 9 with (first
    | (refine wpList_load_row rfl 30 (.tmp 4) rfl (w.heap.size + 1) rfl _ _ _ _ V3.out.c Tryd.underlying30 rfl (ctx_size' (HSZ.out _ _)) ?_)
    | (go_at_call 30; refine (HT.out _ ao2 n2 cap2).mono ?_; rintro e w5 ⟨rfl, g5⟩; have V5 := hid (V3.out.gr g5); have G5 := hid (show Gr w w5 from Gr.trans G3.out g5); have I5 := hid (gr_blk I3.out g5); have O5 := hid (O3.out.gr g5); have c5 := (cell_of (gr_blk V3.out.c g5) 0).trans (cC_pc _ _ _); have z5 := frozen_of (gr_blk V3.out.c g5) 0; have l5 := lt_of_block (gr_blk V3.out.c g5); clear g5))
  have K6 := hid (show Ch (Only (w.heap.size + 1)) w5 (w5.setCell ⟨w.heap.size + 1, 0, none⟩ (.int .i64 (pc + 1))) from (Ch.refl _ _).own 0 _)
  have A6 := hid (show Gr (w5.setCell ⟨w.heap.size + 1, 0, none⟩ (.int .i64 (pc + 1))) ((w5.setCell ⟨w.heap.size + 1, 0, none⟩ (.int .i64 (pc + 1))).alloc (.cells #[.int .i64 0, .int .i64 0, .int .i64 0, .int .i64 0, .int .i64 0, .int .i64 0, .int .i64 0, .int .i64 0, .int .i64 0, .int .i64 0, .int .i64 0] 49)) from Ch.alloc (Gr.refl _) _)
  have V6 := hid ((V5.out.only K6.out (show (w5.setCell ⟨w.heap.size + 1, 0, none⟩ (.int .i64 (pc + 1))).heap[w.heap.size + 1]? = some (.cells (cC (pc + 1) r (.slice ao2 n2 cap2)) 30 (0, 0)) by rw [← cC_setpc pc]; exact setCell_block V5.out.c 0 (.int .i64 (pc + 1)))).gr A6.out)
  have I6 := hid (gr_blk ((K6.out.block _ (lt_of_block I5.out) (fun q => by have q1 : tb = w.heap.size + 1 := q; have := S3.out; omega)).trans I5.out) A6.out)
  have O6 := hid ((O5.out.ch K6.out (fun q hq e => by have e1 : q = w.heap.size + 1 := e; have := (O5.out.blk hq).1; omega)).gr A6.out)
  have G6 := hid (show Gr w ((w5.setCell ⟨w.heap.size + 1, 0, none⟩ (.int .i64 (pc + 1))).alloc (.cells #[.int .i64 0, .int .i64 0, .int .i64 0, .int .i64 0, .int .i64 0, .int .i64 0, .int .i64 0, .int .i64 0, .int .i64 0, .int .i64 0, .int .i64 0] 49)) from Gr.trans (Ch.fresh G5.out (by omega) 0 _) A6.out)
  clear i0 i1 i2 i3 i4 il m0 m1 m2 ml c5 z5 l5
  clear A6 K6
  generalize (w5.setCell ⟨w.heap.size + 1, 0, none⟩ (.int .i64 (pc + 1))).alloc (.cells #[.int .i64 0, .int .i64 0, .int .i64 0, .int .i64 0, .int .i64 0, .int .i64 0, .int .i64 0, .int .i64 0, .int .i64 0, .int .i64 0, .int .i64 0] 49) = W6 at V6 I6 O6 G6 ⊢
  have i0 : W6.cell? ⟨tb, 0, none⟩ = some (.int .i64 o1) := (cell_of I6.out 0).trans rfl
  have i1 : W6.cell? ⟨tb, 1, none⟩ = some (.int .i64 o2) := (cell_of I6.out 1).trans rfl
  have i2 : W6.cell? ⟨tb, 2, none⟩ = some (.int .i64 o3) := (cell_of I6.out 2).trans rfl
  have i3 : W6.cell? ⟨tb, 3, none⟩ = some (.int .i64 o4) := (cell_of I6.out 3).trans rfl
  have i4 : W6.cell? ⟨tb, 4, none⟩ = some (.int .i64 im) := (cell_of I6.out 4).trans rfl
  have il := lt_of_block I6.out
  have HN2 := hid (show n2 = 0 from by have q1 := O6.out.len.1; have q2 := HKL.out; have q3 := HMM.out; omega)
  clear i0 i1 i2 i3 i4
  have i0 : W6.cell? ⟨tb, 0, none⟩ = some (.int .i64 o1) := (cell_of I6.out 0).trans rfl
  obtain ⟨z2, hm2⟩ : ∃ z2 : Nat, z2 = 0 := ⟨_, rfl⟩
  have HRT := hid (show ∀ (W : World), Ow eI 1 3 (w.heap.size + 5) W (.slice ao2 n2 cap2) ks → Calls Tryd.prog 33 #[.agg (cC (pc + 1) r (.slice ao2 n2 cap2))] W fun e w' => e = .returned (.tuple #[.agg (cC (pc + 1) r (.slice ao2 0 cap2)), .agg (wt 24 0 0 0 0 0 0 0 0 0 0)]) ∧ Gr W w' from fun W p => by
    have hn2 := HN2.out
    subst hn2
    skip
    exact returned_no W (pc + 1) r HRR.out ao2 cap2)
  go_wp2_with (first
    | (refine wpList_load_row rfl 30 (.tmp 4) rfl (w.heap.size + 1) rfl _ _ _ _ V6.out.c Tryd.underlying30 rfl (ctx_size' (HSZ.out _ _)) ?_)
    | (go_at_call 33; refine (HRT.out _ O6.out).mono ?_; rintro e w7 ⟨rfl, g7⟩; have V7 := hid (V6.out.gr g7); have O7 := hid (O6.out.gr g7); have GG7 := hid (Gr.trans G6.out g7); clear g7)
    | (refine st_row rfl 30 (.tmp 6) (.tmp 108) rfl (w.heap.size + 3) _ rfl rfl _ _ V7.out.r (ctx_size' (HSZ.out _ _)) (HSZ.out _ _).symm cC_one ?_; intro w9 b9 k9; have R9 := hid b9; have K9 := hid k9; have T9 := hid ((k9.block _ (lt_of_block V7.out.t) (fun q => by have q1 : w.heap.size + 4 = w.heap.size + 3 := q; omega)).trans V7.out.t); clear b9 k9)
    | (refine st_row rfl 49 (.tmp 7) (.tmp 109) rfl (w.heap.size + 4) _ rfl rfl _ _ T9.out want_size rfl (wt_one 24 0 0 0 0 0 0 0 0 0 0) ?_; intro w10 b10 k10; have T10 := hid b10; have K10 := hid k10; have R10 := hid ((k10.block _ (lt_of_block R9.out) (fun q => by have q1 : w.heap.size + 3 = w.heap.size + 4 := q; omega)).trans R9.out); clear b10 k10))
  refine bodyPost_ret (results_cell_cell rfl _ _ (w.heap.size + 3) (w.heap.size + 4) _ _ rfl (run_loadVar_row _ _ _ _ _ _ _ R10.out Tryd.underlying30 rfl (ctx_size' (HSZ.out _ _))) rfl (run_loadVar_row _ _ _ _ _ _ _ T10.out Tryd.underlying49 rfl want_size)) rfl ?_
  have O9 := (O7.out.ch K9.out (fun q hq e => by have e1 : q = w.heap.size + 3 := e; have := (O7.out.blk hq).1; omega)).ch K10.out (fun q hq e => by have e1 : q = w.heap.size + 4 := e; have := (O7.out.blk hq).1; omega)
  have hn2 := HN2.out
  skip
  exact ⟨_, _, _, rfl, (hn2 ▸ O9).lower (by omega), Ch.trans (Ch.trans GG7.out K9.out (fun q e => .inr (by have e1 : q = w.heap.size + 3 := e; omega))) K10.out (fun q e => .inr (by have e1 : q = w.heap.size + 4 := e; omega))⟩
set_option maxHeartbeats 2000000 in
set_option maxRecDepth 20000 in
theorem pstep_rety (P : Nat → Prop) (w : World) (aoc aof aot : Option Addr) (nc nf nt cac caf cat : Nat) (cs : List Int) (h : Ls eU P w (.slice aoc nc cac) cs) (hu : U32s cs) (hg : Glb w) (hcl : nc ≤ 35184372088832) (pc : Int) (r : List Int) (hr : r.length = 16) (ao : Option Addr) (n cap : Nat) (ks : List Int) (hk : Ls eI P w (.slice ao n cap) ks) (hn : n ≤ 17592186044416) (ck sl gn : Int)
    (o1 o2 o3 o4 im : Int) (hI : nI cs pc = (o1, o2, o3, o4, im)) (hB : nB cs pc = true) (ho : o1 = 21) (m : Nat) (hm : n = m + 1) (x : Int) (hx : ks[m]? = some x) :
    Calls Tryd.prog 16 #[.agg #[.slice aoc nc cac, .slice aof nf caf, .slice aot nt cat], .agg (cC pc r (.slice ao n cap)), .agg #[.int .u64 ck, .int .i64 sl, .int .i64 gn]] w (StR w x r (ks.take m) #[.int .i64 0, .int .i64 0, .int .i64 0, .int .i64 0, .int .i64 0, .int .i64 0, .int .i64 0, .int .i64 0, .int .i64 0, .int .i64 0, .int .i64 0]) := by
  have hlen := h.len.1
  have hpc : 0 ≤ pc ∧ pc < (nc : Int) := by
    unfold nB at hB
    split at hB
    · rename_i q; rw [hlen]; exact q
    · cases hB
  have HA := hid (fun (W : World) (p : Gr w W) => apart_any P W pc r hr ao n cap ks (hk.gr p) hn)
  have HN := hid (fun (W : World) (p : Gr w W) => pnext9_any P W aoc aof aot nc nf nt cac caf cat cs (h.gr p) hu (hg.gr p) pc)
  rw [hI, hB] at HN
  unfold iV at HN
  simp only at HN
  have HT := hid (fun (W : World) (ao2 : Option Addr) (n2 cap2 : Nat) => traps_no W aoc aof aot nc nf nt cac caf cat pc r hr ao2 n2 cap2 o1 o2 o3 o4 im (by omega) (by omega) (by omega) (by omega))
  have V0 := hid (vs_new w #[.slice aoc nc cac, .slice aof nf caf, .slice aot nt cat] (cC pc r (.slice ao n cap)) #[.int .u64 ck, .int .i64 sl, .int .i64 gn] #[.int .i64 0, .int .i64 0, .int .i64 0, .int .i64 0, .int .i64 0, .int .i64 0, .int .i64 0, .int .i64 0, .int .i64 0, .int .i64 0, .int .i64 0, .int .i64 0, .int .i64 0, .int .i64 0, .int .i64 0, .int .i64 0, .int .i64 0, .slice none 0 0] #[.int .i64 0, .int .i64 0, .int .i64 0, .int .i64 0, .int .i64 0, .int .i64 0, .int .i64 0, .int .i64 0, .int .i64 0, .int .i64 0, .int .i64 0])
  have K0 := hid (show Gr w (((((w.alloc (.cells #[.slice aoc nc cac, .slice aof nf caf, .slice aot nt cat] 26)).alloc (.cells (cC pc r (.slice ao n cap)) 30)).alloc (.cells #[.int .u64 ck, .int .i64 sl, .int .i64 gn] 44)).alloc (.cells #[.int .i64 0, .int .i64 0, .int .i64 0, .int .i64 0, .int .i64 0, .int .i64 0, .int .i64 0, .int .i64 0, .int .i64 0, .int .i64 0, .int .i64 0, .int .i64 0, .int .i64 0, .int .i64 0, .int .i64 0, .int .i64 0, .int .i64 0, .slice none 0 0] 30)).alloc (.cells #[.int .i64 0, .int .i64 0, .int .i64 0, .int .i64 0, .int .i64 0, .int .i64 0, .int .i64 0, .int .i64 0, .int .i64 0, .int .i64 0, .int .i64 0] 49)) from Ch.alloc (Ch.alloc (Ch.alloc (Ch.alloc (Ch.alloc (Gr.refl w) _) _) _) _) _)
  have HSZ := hid (fun (pc : Int) (v : Value) => cC_size (pc := pc) (v := v) hr)
  have e1 : (o1 == 1) = false := by rw [ho]; rfl
  have e25 : (o1 == 25) = false := by rw [ho]; rfl
  have e26 : (o1 == 26) = false := by rw [ho]; rfl
  have e17 : (o1 == 17) = false := by rw [ho]; rfl
  have e18 : (o1 == 18) = false := by rw [ho]; rfl
  have e19 : (o1 == 19) = false := by rw [ho]; rfl
  have e20 : (o1 == 20) = false := by rw [ho]; rfl
  have e21 : (o1 == 21) = true := by rw [ho]; rfl
  have HKX := hid hx
  have HMM := hid hm
  have HNL := hid (show n ≤ 17592186044416 from hn)
  have HKL := hid hk.len.1
  clear hx hm
  have HRR := hid hr
  clear ho h hu hg hk hI hB hlen hr
  go_enter Tryd.func16, Tryd.ntmps16
  go_upto_region 3 with (first
    | (refine wpList_load_row rfl 30 (.tmp 4) rfl (w.heap.size + 1) rfl _ _ _ _ V0.out.c Tryd.underlying30 rfl (ctx_size' (HSZ.out _ _)) ?_)
    | (go_at_call 28; refine (HA.out _ K0.out).mono ?_; rintro e w1 ⟨ao2, n2, cap2, rfl, o1', g1⟩; have OX := hid (show Ow eI 1 3 (w.heap.size + 5) w1 (.slice ao2 n2 cap2) ks from by simpa using o1'); have G1 := hid (Gr.trans K0.out g1); have V1 := hid (V0.out.gr g1); clear o1' g1)
    | (refine st_row rfl 30 (.tmp 4) (.tmp 13) rfl (w.heap.size + 1) _ rfl rfl _ _ V1.out.c (ctx_size' (HSZ.out _ _)) ((HSZ.out _ _).trans (HSZ.out _ _).symm) cC_one ?_; intro w2 b2 k2; have V2 := hid (V1.out.only k2 b2); have K2 := hid k2; have G2 := hid (show Gr w w2 from Ch.trans G1.out k2 (fun q e => .inr (by have e1 : q = w.heap.size + 1 := e; omega))); obtain ⟨m0, m1, m2, ml⟩ := p3_cells V2.out.p; have mc : w2.cell? ⟨w.heap.size + 1, 0, none⟩ = some (.int .i64 pc) := (cell_of V2.out.c 0).trans (cC_pc _ _ _); have mcl := lt_of_block V2.out.c; clear b2 k2)
    | (go_at_call 23; refine (HN.out _ G2.out).mono ?_; rintro e w3 ⟨rfl, g3⟩; have V3 := hid (V2.out.gr (Ch.alloc g3 (.cells #[.int .i64 o1, .int .i64 o2, .int .i64 o3, .int .i64 o4, .int .i64 im] 46))); have G3 := hid (show Gr w (w3.alloc (.cells #[.int .i64 o1, .int .i64 o2, .int .i64 o3, .int .i64 o4, .int .i64 im] 46)) from Ch.alloc (Gr.trans G2.out g3) _); have I3 := hid (MapKept.heap_alloc w3 (.cells #[.int .i64 o1, .int .i64 o2, .int .i64 o3, .int .i64 o4, .int .i64 im] 46)).1; have OW3 := hid (show Ow eI 1 3 (w.heap.size + 5) (w3.alloc (.cells #[.int .i64 o1, .int .i64 o2, .int .i64 o3, .int .i64 o4, .int .i64 im] 46)) (.slice ao2 n2 cap2) ks from ((OX.out.ch K2.out (fun q hq e => by have e1 : q = w.heap.size + 1 := e; have := (OX.out.blk hq).1; omega)).gr (Ch.alloc g3 _))); have S3 := hid (show w.heap.size + 5 ≤ w3.heap.size from Nat.lt_of_lt_of_le (lt_of_block V2.out.t) g3.size); clear g3))
  generalize w3.alloc (.cells #[.int .i64 o1, .int .i64 o2, .int .i64 o3, .int .i64 o4, .int .i64 im] 46) = W3 at V3 G3 I3 OW3 ⊢
  generalize w3.heap.size = tb at I3 S3 ⊢
  obtain ⟨q0, q1⟩ := hpc
  have q2 : pc ≤ 35184372088832 := by omega
  have O3 := hid (show Ow eI 1 3 (w.heap.size + 5) W3 (.slice ao2 n2 cap2) ks from OW3.out)
  clear m0 m1 m2 ml mc mcl
  obtain ⟨m0, m1, m2, ml⟩ := p3_cells V3.out.p
  have i0 : W3.cell? ⟨tb, 0, none⟩ = some (.int .i64 o1) := (cell_of I3.out 0).trans rfl
  have i1 : W3.cell? ⟨tb, 1, none⟩ = some (.int .i64 o2) := (cell_of I3.out 1).trans rfl
  have i2 : W3.cell? ⟨tb, 2, none⟩ = some (.int .i64 o3) := (cell_of I3.out 2).trans rfl
  have i3 : W3.cell? ⟨tb, 3, none⟩ = some (.int .i64 o4) := (cell_of I3.out 3).trans rfl
  have i4 : W3.cell? ⟨tb, 4, none⟩ = some (.int .i64 im) := (cell_of I3.out 4).trans rfl
  have il := lt_of_block I3.out
  go_upto_region 9 with (first
    | (refine wpList_load_row rfl 30 (.tmp 4) rfl (w.heap.size + 1) rfl _ _ _ _ V3.out.c Tryd.underlying30 rfl (ctx_size' (HSZ.out _ _)) ?_)
    | (go_at_call 30; refine (HT.out _ ao2 n2 cap2).mono ?_; rintro e w5 ⟨rfl, g5⟩; have V5 := hid (V3.out.gr g5); have G5 := hid (show Gr w w5 from Gr.trans G3.out g5); have I5 := hid (gr_blk I3.out g5); have O5 := hid (O3.out.gr g5); have c5 := (cell_of (gr_blk V3.out.c g5) 0).trans (cC_pc _ _ _); have z5 := frozen_of (gr_blk V3.out.c g5) 0; have l5 := lt_of_block (gr_blk V3.out.c g5); clear g5))
  have K6 := hid (show Ch (Only (w.heap.size + 1)) w5 (w5.setCell ⟨w.heap.size + 1, 0, none⟩ (.int .i64 (pc + 1))) from (Ch.refl _ _).own 0 _)
  have A6 := hid (show Gr (w5.setCell ⟨w.heap.size + 1, 0, none⟩ (.int .i64 (pc + 1))) ((w5.setCell ⟨w.heap.size + 1, 0, none⟩ (.int .i64 (pc + 1))).alloc (.cells #[.int .i64 0, .int .i64 0, .int .i64 0, .int .i64 0, .int .i64 0, .int .i64 0, .int .i64 0, .int .i64 0, .int .i64 0, .int .i64 0, .int .i64 0] 49)) from Ch.alloc (Gr.refl _) _)
  have V6 := hid ((V5.out.only K6.out (show (w5.setCell ⟨w.heap.size + 1, 0, none⟩ (.int .i64 (pc + 1))).heap[w.heap.size + 1]? = some (.cells (cC (pc + 1) r (.slice ao2 n2 cap2)) 30 (0, 0)) by rw [← cC_setpc pc]; exact setCell_block V5.out.c 0 (.int .i64 (pc + 1)))).gr A6.out)
  have I6 := hid (gr_blk ((K6.out.block _ (lt_of_block I5.out) (fun q => by have q1 : tb = w.heap.size + 1 := q; have := S3.out; omega)).trans I5.out) A6.out)
  have O6 := hid ((O5.out.ch K6.out (fun q hq e => by have e1 : q = w.heap.size + 1 := e; have := (O5.out.blk hq).1; omega)).gr A6.out)
  have G6 := hid (show Gr w ((w5.setCell ⟨w.heap.size + 1, 0, none⟩ (.int .i64 (pc + 1))).alloc (.cells #[.int .i64 0, .int .i64 0, .int .i64 0, .int .i64 0, .int .i64 0, .int .i64 0, .int .i64 0, .int .i64 0, .int .i64 0, .int .i64 0, .int .i64 0] 49)) from Gr.trans (Ch.fresh G5.out (by omega) 0 _) A6.out)
  clear i0 i1 i2 i3 i4 il m0 m1 m2 ml c5 z5 l5
  clear A6 K6
  generalize (w5.setCell ⟨w.heap.size + 1, 0, none⟩ (.int .i64 (pc + 1))).alloc (.cells #[.int .i64 0, .int .i64 0, .int .i64 0, .int .i64 0, .int .i64 0, .int .i64 0, .int .i64 0, .int .i64 0, .int .i64 0, .int .i64 0, .int .i64 0] 49) = W6 at V6 I6 O6 G6 ⊢
  have i0 : W6.cell? ⟨tb, 0, none⟩ = some (.int .i64 o1) := (cell_of I6.out 0).trans rfl
  have i1 : W6.cell? ⟨tb, 1, none⟩ = some (.int .i64 o2) := (cell_of I6.out 1).trans rfl
  have i2 : W6.cell? ⟨tb, 2, none⟩ = some (.int .i64 o3) := (cell_of I6.out 2).trans rfl
  have i3 : W6.cell? ⟨tb, 3, none⟩ = some (.int .i64 o4) := (cell_of I6.out 3).trans rfl
  have i4 : W6.cell? ⟨tb, 4, none⟩ = some (.int .i64 im) := (cell_of I6.out 4).trans rfl
  have il := lt_of_block I6.out
  have HN2 := hid (show n2 = m + 1 from by have q1 := O6.out.len.1; have q2 := HKL.out; have q3 := HMM.out; omega)
  clear i0 i1 i2 i3 i4
  have i0 : W6.cell? ⟨tb, 0, none⟩ = some (.int .i64 o1) := (cell_of I6.out 0).trans rfl
  obtain ⟨m2, hm2⟩ : ∃ m2, m2 = m := ⟨_, rfl⟩
  have HRT := hid (show ∀ (W : World), Ow eI 1 3 (w.heap.size + 5) W (.slice ao2 n2 cap2) ks → Calls Tryd.prog 33 #[.agg (cC (pc + 1) r (.slice ao2 n2 cap2))] W fun e w' => e = .returned (.tuple #[.agg (cC x r (.slice ao2 m2 cap2)), .agg #[.int .i64 0, .int .i64 0, .int .i64 0, .int .i64 0, .int .i64 0, .int .i64 0, .int .i64 0, .int .i64 0, .int .i64 0, .int .i64 0, .int .i64 0]]) ∧ Gr W w' from fun W p => by
    have hn2 := HN2.out
    subst hn2
    subst hm2
    exact returned_yes _ W (pc + 1) r HRR.out ao2 m2 cap2 ks p.lst x HKX.out (by have := HMM.out; have := HNL.out; omega))
  go_wp2_with (first
    | (refine wpList_load_row rfl 30 (.tmp 4) rfl (w.heap.size + 1) rfl _ _ _ _ V6.out.c Tryd.underlying30 rfl (ctx_size' (HSZ.out _ _)) ?_)
    | (go_at_call 33; refine (HRT.out _ O6.out).mono ?_; rintro e w7 ⟨rfl, g7⟩; have V7 := hid (V6.out.gr g7); have O7 := hid (O6.out.gr g7); have GG7 := hid (Gr.trans G6.out g7); clear g7)
    | (refine st_row rfl 30 (.tmp 6) (.tmp 108) rfl (w.heap.size + 3) _ rfl rfl _ _ V7.out.r (ctx_size' (HSZ.out _ _)) (HSZ.out _ _).symm cC_one ?_; intro w9 b9 k9; have R9 := hid b9; have K9 := hid k9; have T9 := hid ((k9.block _ (lt_of_block V7.out.t) (fun q => by have q1 : w.heap.size + 4 = w.heap.size + 3 := q; omega)).trans V7.out.t); clear b9 k9)
    | (refine st_row rfl 49 (.tmp 7) (.tmp 109) rfl (w.heap.size + 4) _ rfl rfl _ _ T9.out want_size rfl one11 ?_; intro w10 b10 k10; have T10 := hid b10; have K10 := hid k10; have R10 := hid ((k10.block _ (lt_of_block R9.out) (fun q => by have q1 : w.heap.size + 3 = w.heap.size + 4 := q; omega)).trans R9.out); clear b10 k10))
  refine bodyPost_ret (results_cell_cell rfl _ _ (w.heap.size + 3) (w.heap.size + 4) _ _ rfl (run_loadVar_row _ _ _ _ _ _ _ R10.out Tryd.underlying30 rfl (ctx_size' (HSZ.out _ _))) rfl (run_loadVar_row _ _ _ _ _ _ _ T10.out Tryd.underlying49 rfl want_size)) rfl ?_
  have O9 := (O7.out.ch K9.out (fun q hq e => by have e1 : q = w.heap.size + 3 := e; have := (O7.out.blk hq).1; omega)).ch K10.out (fun q hq e => by have e1 : q = w.heap.size + 4 := e; have := (O7.out.blk hq).1; omega)
  have hn2 := HN2.out
  subst hm2
  exact ⟨_, _, _, rfl, (O9.take eI_len (by omega)).lower (by omega), Ch.trans (Ch.trans GG7.out K9.out (fun q e => .inr (by have e1 : q = w.heap.size + 3 := e; omega))) K10.out (fun q e => .inr (by have e1 : q = w.heap.size + 4 := e; omega))⟩
end Go.Proofs.YtcdlhfodeckleaaDoor.Lt
