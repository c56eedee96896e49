/-
  What the program's Step answers at a jump. Conditions: words are words; the tables lie where they lie.
  What the program's Step answers at a jump. Conditions: words are words; the tables lie where they lie.
-/
import Derived.Test.YtcdlhfodeckleaaDoorSuSm
namespace Go.Proofs.YtcdlhfodeckleaaDoor.Lt
open Go.RowKit Wd

set_option maxHeartbeats 2000000 in
set_option maxRecDepth 20000 in
theorem pstep_j17y (P : Nat → Prop) (w : World) (aoc aof aot : Option Addr) (nc nf nt cac caf cat : Nat) (cs : List Int) (h : Ls eU P w (.slice aoc nc cac) cs) (hu : U32s cs) (hg : Glb w) (hcl : nc ≤ 35184372088832) (pc : Int) (r : List Int) (hr : r.length = 16) (ao : Option Addr) (n cap : Nat) (ks : List Int) (hk : Ls eI P w (.slice ao n cap) ks) (hn : n ≤ 17592186044416) (ck sl gn : Int)
    (o1 o3 o4 im : Int) (a : Nat) (la : a < 16) (x : Int) (hx : r[a]? = some x) (hI : nI cs pc = (o1, (a : Int), o3, o4, im)) (hB : nB cs pc = true) (ho : o1 = 17) :
    Calls Tryd.prog 16 #[.agg #[.slice aoc nc cac, .slice aof nf caf, .slice aot nt cat], .agg (cC pc r (.slice ao n cap)), .agg #[.int .u64 ck, .int .i64 sl, .int .i64 gn]] w (StR w im r ks #[.int .i64 0, .int .i64 0, .int .i64 0, .int .i64 0, .int .i64 0, .int .i64 0, .int .i64 0, .int .i64 0, .int .i64 0, .int .i64 0, .int .i64 0]) := by
  have hlen := h.len.1
  have hpc : 0 ≤ pc ∧ pc < (nc : Int) := by
    unfold nB at hB
    split at hB
    · rename_i q; rw [hlen]; exact q
    · cases hB
  have HA := hid (fun (W : World) (p : Gr w W) => apart_any P W pc r hr ao n cap ks (hk.gr p) hn)
  have HN := hid (fun (W : World) (p : Gr w W) => pnext9_any P W aoc aof aot nc nf nt cac caf cat cs (h.gr p) hu (hg.gr p) pc)
  rw [hI, hB] at HN
  unfold iV at HN
  simp only at HN
  have HT := hid (fun (W : World) (ao2 : Option Addr) (n2 cap2 : Nat) => traps_no W aoc aof aot nc nf nt cac caf cat pc r hr ao2 n2 cap2 o1 (a : Int) o3 o4 im (by omega) (by omega) (by omega) (by omega))
  have V0 := hid (vs_new w #[.slice aoc nc cac, .slice aof nf caf, .slice aot nt cat] (cC pc r (.slice ao n cap)) #[.int .u64 ck, .int .i64 sl, .int .i64 gn] #[.int .i64 0, .int .i64 0, .int .i64 0, .int .i64 0, .int .i64 0, .int .i64 0, .int .i64 0, .int .i64 0, .int .i64 0, .int .i64 0, .int .i64 0, .int .i64 0, .int .i64 0, .int .i64 0, .int .i64 0, .int .i64 0, .int .i64 0, .slice none 0 0] #[.int .i64 0, .int .i64 0, .int .i64 0, .int .i64 0, .int .i64 0, .int .i64 0, .int .i64 0, .int .i64 0, .int .i64 0, .int .i64 0, .int .i64 0])
  have K0 := hid (show Gr w (((((w.alloc (.cells #[.slice aoc nc cac, .slice aof nf caf, .slice aot nt cat] 26)).alloc (.cells (cC pc r (.slice ao n cap)) 30)).alloc (.cells #[.int .u64 ck, .int .i64 sl, .int .i64 gn] 44)).alloc (.cells #[.int .i64 0, .int .i64 0, .int .i64 0, .int .i64 0, .int .i64 0, .int .i64 0, .int .i64 0, .int .i64 0, .int .i64 0, .int .i64 0, .int .i64 0, .int .i64 0, .int .i64 0, .int .i64 0, .int .i64 0, .int .i64 0, .int .i64 0, .slice none 0 0] 30)).alloc (.cells #[.int .i64 0, .int .i64 0, .int .i64 0, .int .i64 0, .int .i64 0, .int .i64 0, .int .i64 0, .int .i64 0, .int .i64 0, .int .i64 0, .int .i64 0] 49)) from Ch.alloc (Ch.alloc (Ch.alloc (Ch.alloc (Ch.alloc (Gr.refl w) _) _) _) _) _)
  have HSZ := hid (fun (pc : Int) (v : Value) => cC_size (pc := pc) (v := v) hr)
  have e1 : (o1 == 1) = false := by rw [ho]; rfl
  have e25 : (o1 == 25) = false := by rw [ho]; rfl
  have e26 : (o1 == 26) = false := by rw [ho]; rfl
  have e17 : (o1 == 17) = true := by rw [ho]; rfl
  have HX := hid hx
  have a0 : (0 : Int) ≤ (a : Int) := by omega
  have a1 : (a : Int) < 16 := by omega
  clear hx
  have HO1 := hid ho
  have HRR := hid hr
  clear ho h hu hg hk hI hB hlen hr
  go_enter Tryd.func16, Tryd.ntmps16
  go_upto_region 3 with (first
    | (refine wpList_load_row rfl 30 (.tmp 4) rfl (w.heap.size + 1) rfl _ _ _ _ V0.out.c Tryd.underlying30 rfl (ctx_size' (HSZ.out _ _)) ?_)
    | (go_at_call 28; refine (HA.out _ K0.out).mono ?_; rintro e w1 ⟨ao2, n2, cap2, rfl, o1', g1⟩; have OX := hid (show Ow eI 1 3 (w.heap.size + 5) w1 (.slice ao2 n2 cap2) ks from by simpa using o1'); have G1 := hid (Gr.trans K0.out g1); have V1 := hid (V0.out.gr g1); clear o1' g1)
    | (refine st_row rfl 30 (.tmp 4) (.tmp 13) rfl (w.heap.size + 1) _ rfl rfl _ _ V1.out.c (ctx_size' (HSZ.out _ _)) ((HSZ.out _ _).trans (HSZ.out _ _).symm) cC_one ?_; intro w2 b2 k2; have V2 := hid (V1.out.only k2 b2); have K2 := hid k2; have G2 := hid (show Gr w w2 from Ch.trans G1.out k2 (fun q e => .inr (by have e1 : q = w.heap.size + 1 := e; omega))); obtain ⟨m0, m1, m2, ml⟩ := p3_cells V2.out.p; have mc : w2.cell? ⟨w.heap.size + 1, 0, none⟩ = some (.int .i64 pc) := (cell_of V2.out.c 0).trans (cC_pc _ _ _); have mcl := lt_of_block V2.out.c; clear b2 k2)
    | (go_at_call 23; refine (HN.out _ G2.out).mono ?_; rintro e w3 ⟨rfl, g3⟩; have V3 := hid (V2.out.gr (Ch.alloc g3 (.cells #[.int .i64 o1, .int .i64 (a : Int), .int .i64 o3, .int .i64 o4, .int .i64 im] 46))); have G3 := hid (show Gr w (w3.alloc (.cells #[.int .i64 o1, .int .i64 (a : Int), .int .i64 o3, .int .i64 o4, .int .i64 im] 46)) from Ch.alloc (Gr.trans G2.out g3) _); have I3 := hid (MapKept.heap_alloc w3 (.cells #[.int .i64 o1, .int .i64 (a : Int), .int .i64 o3, .int .i64 o4, .int .i64 im] 46)).1; have OW3 := hid (show Ow eI 1 3 (w.heap.size + 5) (w3.alloc (.cells #[.int .i64 o1, .int .i64 (a : Int), .int .i64 o3, .int .i64 o4, .int .i64 im] 46)) (.slice ao2 n2 cap2) ks from ((OX.out.ch K2.out (fun q hq e => by have e1 : q = w.heap.size + 1 := e; have := (OX.out.blk hq).1; omega)).gr (Ch.alloc g3 _))); have S3 := hid (show w.heap.size + 5 ≤ w3.heap.size from Nat.lt_of_lt_of_le (lt_of_block V2.out.t) g3.size); clear g3))
  generalize w3.alloc (.cells #[.int .i64 o1, .int .i64 (a : Int), .int .i64 o3, .int .i64 o4, .int .i64 im] 46) = W3 at V3 G3 I3 OW3 ⊢
  generalize w3.heap.size = tb at I3 S3 ⊢
  obtain ⟨q0, q1⟩ := hpc
  have q2 : pc ≤ 35184372088832 := by omega
  have O3 := hid (show Ow eI 1 3 (w.heap.size + 5) W3 (.slice ao2 n2 cap2) ks from OW3.out)
  clear m0 m1 m2 ml mc mcl
  obtain ⟨m0, m1, m2, ml⟩ := p3_cells V3.out.p
  have i0 : W3.cell? ⟨tb, 0, none⟩ = some (.int .i64 o1) := (cell_of I3.out 0).trans rfl
  have i1 : W3.cell? ⟨tb, 1, none⟩ = some (.int .i64 (a : Int)) := (cell_of I3.out 1).trans rfl
  have i2 : W3.cell? ⟨tb, 2, none⟩ = some (.int .i64 o3) := (cell_of I3.out 2).trans rfl
  have i3 : W3.cell? ⟨tb, 3, none⟩ = some (.int .i64 o4) := (cell_of I3.out 3).trans rfl
  have i4 : W3.cell? ⟨tb, 4, none⟩ = some (.int .i64 im) := (cell_of I3.out 4).trans rfl
  have il := lt_of_block I3.out
  go_upto_region 9 with (first
    | (refine wpList_load_row rfl 30 (.tmp 4) rfl (w.heap.size + 1) rfl _ _ _ _ V3.out.c Tryd.underlying30 rfl (ctx_size' (HSZ.out _ _)) ?_)
    | (go_at_call 30; refine (HT.out _ ao2 n2 cap2).mono ?_; rintro e w5 ⟨rfl, g5⟩; have V5 := hid (V3.out.gr g5); have G5 := hid (show Gr w w5 from Gr.trans G3.out g5); have I5 := hid (gr_blk I3.out g5); have O5 := hid (O3.out.gr g5); have c5 := (cell_of (gr_blk V3.out.c g5) 0).trans (cC_pc _ _ _); have z5 := frozen_of (gr_blk V3.out.c g5) 0; have l5 := lt_of_block (gr_blk V3.out.c g5); clear g5))
  have K6 := hid (show Ch (Only (w.heap.size + 1)) w5 (w5.setCell ⟨w.heap.size + 1, 0, none⟩ (.int .i64 (pc + 1))) from (Ch.refl _ _).own 0 _)
  have A6 := hid (show Gr (w5.setCell ⟨w.heap.size + 1, 0, none⟩ (.int .i64 (pc + 1))) ((w5.setCell ⟨w.heap.size + 1, 0, none⟩ (.int .i64 (pc + 1))).alloc (.cells #[.int .i64 0, .int .i64 0, .int .i64 0, .int .i64 0, .int .i64 0, .int .i64 0, .int .i64 0, .int .i64 0, .int .i64 0, .int .i64 0, .int .i64 0] 49)) from Ch.alloc (Gr.refl _) _)
  have V6 := hid ((V5.out.only K6.out (show (w5.setCell ⟨w.heap.size + 1, 0, none⟩ (.int .i64 (pc + 1))).heap[w.heap.size + 1]? = some (.cells (cC (pc + 1) r (.slice ao2 n2 cap2)) 30 (0, 0)) by rw [← cC_setpc pc]; exact setCell_block V5.out.c 0 (.int .i64 (pc + 1)))).gr A6.out)
  have I6 := hid (gr_blk ((K6.out.block _ (lt_of_block I5.out) (fun q => by have q1 : tb = w.heap.size + 1 := q; have := S3.out; omega)).trans I5.out) A6.out)
  have O6 := hid ((O5.out.ch K6.out (fun q hq e => by have e1 : q = w.heap.size + 1 := e; have := (O5.out.blk hq).1; omega)).gr A6.out)
  have G6 := hid (show Gr w ((w5.setCell ⟨w.heap.size + 1, 0, none⟩ (.int .i64 (pc + 1))).alloc (.cells #[.int .i64 0, .int .i64 0, .int .i64 0, .int .i64 0, .int .i64 0, .int .i64 0, .int .i64 0, .int .i64 0, .int .i64 0, .int .i64 0, .int .i64 0] 49)) from Gr.trans (Ch.fresh G5.out (by omega) 0 _) A6.out)
  clear i0 i1 i2 i3 i4 il m0 m1 m2 ml c5 z5 l5
  clear A6 K6
  generalize (w5.setCell ⟨w.heap.size + 1, 0, none⟩ (.int .i64 (pc + 1))).alloc (.cells #[.int .i64 0, .int .i64 0, .int .i64 0, .int .i64 0, .int .i64 0, .int .i64 0, .int .i64 0, .int .i64 0, .int .i64 0, .int .i64 0, .int .i64 0] 49) = W6 at V6 I6 O6 G6 ⊢
  have i0 : W6.cell? ⟨tb, 0, none⟩ = some (.int .i64 o1) := (cell_of I6.out 0).trans rfl
  have i1 : W6.cell? ⟨tb, 1, none⟩ = some (.int .i64 (a : Int)) := (cell_of I6.out 1).trans rfl
  have i2 : W6.cell? ⟨tb, 2, none⟩ = some (.int .i64 o3) := (cell_of I6.out 2).trans rfl
  have i3 : W6.cell? ⟨tb, 3, none⟩ = some (.int .i64 o4) := (cell_of I6.out 3).trans rfl
  have i4 : W6.cell? ⟨tb, 4, none⟩ = some (.int .i64 im) := (cell_of I6.out 4).trans rfl
  have il := lt_of_block I6.out
  have HJP := hid (show ∀ (W : World) (v : Value), Calls Tryd.prog 32 #[.agg (cC (pc + 1) r v), .agg #[.int .i64 o1, .int .i64 (a : Int), .int .i64 o3, .int .i64 o4, .int .i64 im]] W fun e w' => e = .returned (.bool true) ∧ Gr W w' from fun W v => by
    rw [HO1.out]
    have := jumps_17 W (pc + 1) r v (a : Int) o3 o4 im
    exact this)
  clear i0 i1 i2 i3 i4
  have i0 : W6.cell? ⟨tb, 0, none⟩ = some (.int .i64 o1) := (cell_of I6.out 0).trans rfl
  go_upto_region 28 with (first
    | (refine wpList_load_row rfl 30 (.tmp 4) rfl (w.heap.size + 1) rfl _ _ _ _ V6.out.c Tryd.underlying30 rfl (ctx_size' (HSZ.out _ _)) ?_)
    | (refine wpList_load_row rfl 46 (.tmp 8) rfl tb rfl _ _ _ _ I6.out Tryd.underlying46 rfl ins_size ?_)
    | (go_at_call 32; refine (HJP.out _ _).mono ?_; rintro e w7 ⟨rfl, g7⟩; have G7 := hid g7; have B7 := hid (gr_blk V6.out.c g7); have I7 := hid (gr_blk I6.out g7); have V7 := hid (V6.out.gr g7); have O7 := hid (O6.out.gr g7); have GG7 := hid (Gr.trans G6.out g7); have y7 := (cell_of B7.out 0).trans (cC_pc _ _ _); have z7 := frozen_of B7.out 0; have l7 := lt_of_block B7.out; have j4 := (cell_of I7.out 4).trans (rfl : _ = some (Value.int .i64 im)); have jl := lt_of_block I7.out; clear g7))
  have hb8 : (w7.setCell ⟨w.heap.size + 1, 0, none⟩ (.int .i64 im)).heap[w.heap.size + 1]? = some (.cells (cC im r (.slice ao2 n2 cap2)) 30 (0, 0)) := by rw [← cC_setpc (pc + 1)]; exact setCell_block B7.out 0 (.int .i64 im)
  have hc8 : Ch (Only (w.heap.size + 1)) w7 (w7.setCell ⟨w.heap.size + 1, 0, none⟩ (.int .i64 im)) := (Ch.refl _ _).own 0 _
  have V8 := hid (V7.out.only hc8 hb8)
  have O8 := hid (O7.out.ch hc8 (fun q hq e => by have e1 : q = w.heap.size + 1 := e; have := (O7.out.blk hq).1; omega))
  have G8 := hid (show Gr w (w7.setCell ⟨w.heap.size + 1, 0, none⟩ (.int .i64 im)) from Ch.trans GG7.out hc8 (fun q e => .inr (by have e1 : q = w.heap.size + 1 := e; omega)))
  clear hb8 hc8 y7 z7 l7 j4 jl
  generalize w7.setCell ⟨w.heap.size + 1, 0, none⟩ (.int .i64 im) = W8 at V8 O8 G8 ⊢
  go_wp2_with (first
    | (refine wpList_load_row rfl 30 (.tmp 4) rfl (w.heap.size + 1) rfl _ _ _ _ V8.out.c Tryd.underlying30 rfl (ctx_size' (HSZ.out _ _)) ?_)
    | (refine st_row rfl 30 (.tmp 6) (.tmp 110) rfl (w.heap.size + 3) _ rfl rfl _ _ V8.out.r (ctx_size' (HSZ.out _ _)) (HSZ.out _ _).symm cC_one ?_; intro w9 b9 k9; have R9 := hid b9; have K9 := hid k9; have T9 := hid ((k9.block _ (lt_of_block V8.out.t) (fun q => by have q1 : w.heap.size + 4 = w.heap.size + 3 := q; omega)).trans V8.out.t); clear b9 k9)
    | (refine st_row rfl 49 (.tmp 7) (.tmp 111) rfl (w.heap.size + 4) _ rfl rfl _ _ T9.out want_size rfl one11 ?_; intro w10 b10 k10; have T10 := hid b10; have K10 := hid k10; have R10 := hid ((k10.block _ (lt_of_block R9.out) (fun q => by have q1 : w.heap.size + 3 = w.heap.size + 4 := q; omega)).trans R9.out); clear b10 k10))
  refine bodyPost_ret (results_cell_cell rfl _ _ (w.heap.size + 3) (w.heap.size + 4) _ _ rfl (run_loadVar_row _ _ _ _ _ _ _ R10.out Tryd.underlying30 rfl (ctx_size' (HSZ.out _ _))) rfl (run_loadVar_row _ _ _ _ _ _ _ T10.out Tryd.underlying49 rfl want_size)) rfl ?_
  exact ⟨_, _, _, rfl, ((O8.out.ch K9.out (fun q hq e => by have e1 : q = w.heap.size + 3 := e; have := (O8.out.blk hq).1; omega)).ch K10.out (fun q hq e => by have e1 : q = w.heap.size + 4 := e; have := (O8.out.blk hq).1; omega)).lower (by omega), Ch.trans (Ch.trans G8.out K9.out (fun q e => .inr (by have e1 : q = w.heap.size + 3 := e; omega))) K10.out (fun q e => .inr (by have e1 : q = w.heap.size + 4 := e; omega))⟩
set_option maxHeartbeats 2000000 in
set_option maxRecDepth 20000 in
theorem pstep_j18y (P : Nat → Prop) (w : World) (aoc aof aot : Option Addr) (nc nf nt cac caf cat : Nat) (cs : List Int) (h : Ls eU P w (.slice aoc nc cac) cs) (hu : U32s cs) (hg : Glb w) (hcl : nc ≤ 35184372088832) (pc : Int) (r : List Int) (hr : r.length = 16) (ao : Option Addr) (n cap : Nat) (ks : List Int) (hk : Ls eI P w (.slice ao n cap) ks) (hn : n ≤ 17592186044416) (ck sl gn : Int)
    (o1 o3 o4 im : Int) (a : Nat) (la : a < 16) (x : Int) (hx : r[a]? = some x) (hI : nI cs pc = (o1, (a : Int), o3, o4, im)) (hB : nB cs pc = true) (ho : o1 = 18) (hq : x = 0) :
    Calls Tryd.prog 16 #[.agg #[.slice aoc nc cac, .slice aof nf caf, .slice aot nt cat], .agg (cC pc r (.slice ao n cap)), .agg #[.int .u64 ck, .int .i64 sl, .int .i64 gn]] w (StR w im r ks #[.int .i64 0, .int .i64 0, .int .i64 0, .int .i64 0, .int .i64 0, .int .i64 0, .int .i64 0, .int .i64 0, .int .i64 0, .int .i64 0, .int .i64 0]) := by
  have hlen := h.len.1
  have hpc : 0 ≤ pc ∧ pc < (nc : Int) := by
    unfold nB at hB
    split at hB
    · rename_i q; rw [hlen]; exact q
    · cases hB
  have HA := hid (fun (W : World) (p : Gr w W) => apart_any P W pc r hr ao n cap ks (hk.gr p) hn)
  have HN := hid (fun (W : World) (p : Gr w W) => pnext9_any P W aoc aof aot nc nf nt cac caf cat cs (h.gr p) hu (hg.gr p) pc)
  rw [hI, hB] at HN
  unfold iV at HN
  simp only at HN
  have HT := hid (fun (W : World) (ao2 : Option Addr) (n2 cap2 : Nat) => traps_no W aoc aof aot nc nf nt cac caf cat pc r hr ao2 n2 cap2 o1 (a : Int) o3 o4 im (by omega) (by omega) (by omega) (by omega))
  have V0 := hid (vs_new w #[.slice aoc nc cac, .slice aof nf caf, .slice aot nt cat] (cC pc r (.slice ao n cap)) #[.int .u64 ck, .int .i64 sl, .int .i64 gn] #[.int .i64 0, .int .i64 0, .int .i64 0, .int .i64 0, .int .i64 0, .int .i64 0, .int .i64 0, .int .i64 0, .int .i64 0, .int .i64 0, .int .i64 0, .int .i64 0, .int .i64 0, .int .i64 0, .int .i64 0, .int .i64 0, .int .i64 0, .slice none 0 0] #[.int .i64 0, .int .i64 0, .int .i64 0, .int .i64 0, .int .i64 0, .int .i64 0, .int .i64 0, .int .i64 0, .int .i64 0, .int .i64 0, .int .i64 0])
  have K0 := hid (show Gr w (((((w.alloc (.cells #[.slice aoc nc cac, .slice aof nf caf, .slice aot nt cat] 26)).alloc (.cells (cC pc r (.slice ao n cap)) 30)).alloc (.cells #[.int .u64 ck, .int .i64 sl, .int .i64 gn] 44)).alloc (.cells #[.int .i64 0, .int .i64 0, .int .i64 0, .int .i64 0, .int .i64 0, .int .i64 0, .int .i64 0, .int .i64 0, .int .i64 0, .int .i64 0, .int .i64 0, .int .i64 0, .int .i64 0, .int .i64 0, .int .i64 0, .int .i64 0, .int .i64 0, .slice none 0 0] 30)).alloc (.cells #[.int .i64 0, .int .i64 0, .int .i64 0, .int .i64 0, .int .i64 0, .int .i64 0, .int .i64 0, .int .i64 0, .int .i64 0, .int .i64 0, .int .i64 0] 49)) from Ch.alloc (Ch.alloc (Ch.alloc (Ch.alloc (Ch.alloc (Gr.refl w) _) _) _) _) _)
  have HSZ := hid (fun (pc : Int) (v : Value) => cC_size (pc := pc) (v := v) hr)
  have e1 : (o1 == 1) = false := by rw [ho]; rfl
  have e25 : (o1 == 25) = false := by rw [ho]; rfl
  have e26 : (o1 == 26) = false := by rw [ho]; rfl
  have e17 : (o1 == 17) = false := by rw [ho]; rfl
  have e18 : (o1 == 18) = true := by rw [ho]; rfl
  have HX := hid hx
  have a0 : (0 : Int) ≤ (a : Int) := by omega
  have a1 : (a : Int) < 16 := by omega
  clear hx
  have hqb : (x == 0) = true := by simpa using hq
  have HO1 := hid ho
  have HRR := hid hr
  clear ho h hu hg hk hI hB hlen hr
  go_enter Tryd.func16, Tryd.ntmps16
  go_upto_region 3 with (first
    | (refine wpList_load_row rfl 30 (.tmp 4) rfl (w.heap.size + 1) rfl _ _ _ _ V0.out.c Tryd.underlying30 rfl (ctx_size' (HSZ.out _ _)) ?_)
    | (go_at_call 28; refine (HA.out _ K0.out).mono ?_; rintro e w1 ⟨ao2, n2, cap2, rfl, o1', g1⟩; have OX := hid (show Ow eI 1 3 (w.heap.size + 5) w1 (.slice ao2 n2 cap2) ks from by simpa using o1'); have G1 := hid (Gr.trans K0.out g1); have V1 := hid (V0.out.gr g1); clear o1' g1)
    | (refine st_row rfl 30 (.tmp 4) (.tmp 13) rfl (w.heap.size + 1) _ rfl rfl _ _ V1.out.c (ctx_size' (HSZ.out _ _)) ((HSZ.out _ _).trans (HSZ.out _ _).symm) cC_one ?_; intro w2 b2 k2; have V2 := hid (V1.out.only k2 b2); have K2 := hid k2; have G2 := hid (show Gr w w2 from Ch.trans G1.out k2 (fun q e => .inr (by have e1 : q = w.heap.size + 1 := e; omega))); obtain ⟨m0, m1, m2, ml⟩ := p3_cells V2.out.p; have mc : w2.cell? ⟨w.heap.size + 1, 0, none⟩ = some (.int .i64 pc) := (cell_of V2.out.c 0).trans (cC_pc _ _ _); have mcl := lt_of_block V2.out.c; clear b2 k2)
    | (go_at_call 23; refine (HN.out _ G2.out).mono ?_; rintro e w3 ⟨rfl, g3⟩; have V3 := hid (V2.out.gr (Ch.alloc g3 (.cells #[.int .i64 o1, .int .i64 (a : Int), .int .i64 o3, .int .i64 o4, .int .i64 im] 46))); have G3 := hid (show Gr w (w3.alloc (.cells #[.int .i64 o1, .int .i64 (a : Int), .int .i64 o3, .int .i64 o4, .int .i64 im] 46)) from Ch.alloc (Gr.trans G2.out g3) _); have I3 := hid (MapKept.heap_alloc w3 (.cells #[.int .i64 o1, .int .i64 (a : Int), .int .i64 o3, .int .i64 o4, .int .i64 im] 46)).1; have OW3 := hid (show Ow eI 1 3 (w.heap.size + 5) (w3.alloc (.cells #[.int .i64 o1, .int .i64 (a : Int), .int .i64 o3, .int .i64 o4, .int .i64 im] 46)) (.slice ao2 n2 cap2) ks from ((OX.out.ch K2.out (fun q hq e => by have e1 : q = w.heap.size + 1 := e; have := (OX.out.blk hq).1; omega)).gr (Ch.alloc g3 _))); have S3 := hid (show w.heap.size + 5 ≤ w3.heap.size from Nat.lt_of_lt_of_le (lt_of_block V2.out.t) g3.size); clear g3))
  generalize w3.alloc (.cells #[.int .i64 o1, .int .i64 (a : Int), .int .i64 o3, .int .i64 o4, .int .i64 im] 46) = W3 at V3 G3 I3 OW3 ⊢
  generalize w3.heap.size = tb at I3 S3 ⊢
  obtain ⟨q0, q1⟩ := hpc
  have q2 : pc ≤ 35184372088832 := by omega
  have O3 := hid (show Ow eI 1 3 (w.heap.size + 5) W3 (.slice ao2 n2 cap2) ks from OW3.out)
  clear m0 m1 m2 ml mc mcl
  obtain ⟨m0, m1, m2, ml⟩ := p3_cells V3.out.p
  have i0 : W3.cell? ⟨tb, 0, none⟩ = some (.int .i64 o1) := (cell_of I3.out 0).trans rfl
  have i1 : W3.cell? ⟨tb, 1, none⟩ = some (.int .i64 (a : Int)) := (cell_of I3.out 1).trans rfl
  have i2 : W3.cell? ⟨tb, 2, none⟩ = some (.int .i64 o3) := (cell_of I3.out 2).trans rfl
  have i3 : W3.cell? ⟨tb, 3, none⟩ = some (.int .i64 o4) := (cell_of I3.out 3).trans rfl
  have i4 : W3.cell? ⟨tb, 4, none⟩ = some (.int .i64 im) := (cell_of I3.out 4).trans rfl
  have il := lt_of_block I3.out
  go_upto_region 9 with (first
    | (refine wpList_load_row rfl 30 (.tmp 4) rfl (w.heap.size + 1) rfl _ _ _ _ V3.out.c Tryd.underlying30 rfl (ctx_size' (HSZ.out _ _)) ?_)
    | (go_at_call 30; refine (HT.out _ ao2 n2 cap2).mono ?_; rintro e w5 ⟨rfl, g5⟩; have V5 := hid (V3.out.gr g5); have G5 := hid (show Gr w w5 from Gr.trans G3.out g5); have I5 := hid (gr_blk I3.out g5); have O5 := hid (O3.out.gr g5); have c5 := (cell_of (gr_blk V3.out.c g5) 0).trans (cC_pc _ _ _); have z5 := frozen_of (gr_blk V3.out.c g5) 0; have l5 := lt_of_block (gr_blk V3.out.c g5); clear g5))
  have K6 := hid (show Ch (Only (w.heap.size + 1)) w5 (w5.setCell ⟨w.heap.size + 1, 0, none⟩ (.int .i64 (pc + 1))) from (Ch.refl _ _).own 0 _)
  have A6 := hid (show Gr (w5.setCell ⟨w.heap.size + 1, 0, none⟩ (.int .i64 (pc + 1))) ((w5.setCell ⟨w.heap.size + 1, 0, none⟩ (.int .i64 (pc + 1))).alloc (.cells #[.int .i64 0, .int .i64 0, .int .i64 0, .int .i64 0, .int .i64 0, .int .i64 0, .int .i64 0, .int .i64 0, .int .i64 0, .int .i64 0, .int .i64 0] 49)) from Ch.alloc (Gr.refl _) _)
  have V6 := hid ((V5.out.only K6.out (show (w5.setCell ⟨w.heap.size + 1, 0, none⟩ (.int .i64 (pc + 1))).heap[w.heap.size + 1]? = some (.cells (cC (pc + 1) r (.slice ao2 n2 cap2)) 30 (0, 0)) by rw [← cC_setpc pc]; exact setCell_block V5.out.c 0 (.int .i64 (pc + 1)))).gr A6.out)
  have I6 := hid (gr_blk ((K6.out.block _ (lt_of_block I5.out) (fun q => by have q1 : tb = w.heap.size + 1 := q; have := S3.out; omega)).trans I5.out) A6.out)
  have O6 := hid ((O5.out.ch K6.out (fun q hq e => by have e1 : q = w.heap.size + 1 := e; have := (O5.out.blk hq).1; omega)).gr A6.out)
  have G6 := hid (show Gr w ((w5.setCell ⟨w.heap.size + 1, 0, none⟩ (.int .i64 (pc + 1))).alloc (.cells #[.int .i64 0, .int .i64 0, .int .i64 0, .int .i64 0, .int .i64 0, .int .i64 0, .int .i64 0, .int .i64 0, .int .i64 0, .int .i64 0, .int .i64 0] 49)) from Gr.trans (Ch.fresh G5.out (by omega) 0 _) A6.out)
  clear i0 i1 i2 i3 i4 il m0 m1 m2 ml c5 z5 l5
  clear A6 K6
  generalize (w5.setCell ⟨w.heap.size + 1, 0, none⟩ (.int .i64 (pc + 1))).alloc (.cells #[.int .i64 0, .int .i64 0, .int .i64 0, .int .i64 0, .int .i64 0, .int .i64 0, .int .i64 0, .int .i64 0, .int .i64 0, .int .i64 0, .int .i64 0] 49) = W6 at V6 I6 O6 G6 ⊢
  have i0 : W6.cell? ⟨tb, 0, none⟩ = some (.int .i64 o1) := (cell_of I6.out 0).trans rfl
  have i1 : W6.cell? ⟨tb, 1, none⟩ = some (.int .i64 (a : Int)) := (cell_of I6.out 1).trans rfl
  have i2 : W6.cell? ⟨tb, 2, none⟩ = some (.int .i64 o3) := (cell_of I6.out 2).trans rfl
  have i3 : W6.cell? ⟨tb, 3, none⟩ = some (.int .i64 o4) := (cell_of I6.out 3).trans rfl
  have i4 : W6.cell? ⟨tb, 4, none⟩ = some (.int .i64 im) := (cell_of I6.out 4).trans rfl
  have il := lt_of_block I6.out
  have HJP := hid (show ∀ (W : World) (v : Value), Calls Tryd.prog 32 #[.agg (cC (pc + 1) r v), .agg #[.int .i64 o1, .int .i64 (a : Int), .int .i64 o3, .int .i64 o4, .int .i64 im]] W fun e w' => e = .returned (.bool true) ∧ Gr W w' from fun W v => by
    rw [HO1.out]
    have := jumps_18 W (pc + 1) r v a x o3 o4 im HX.out la
    rw [hqb] at this; exact this)
  clear i0 i1 i2 i3 i4
  have i0 : W6.cell? ⟨tb, 0, none⟩ = some (.int .i64 o1) := (cell_of I6.out 0).trans rfl
  go_upto_region 28 with (first
    | (refine wpList_load_row rfl 30 (.tmp 4) rfl (w.heap.size + 1) rfl _ _ _ _ V6.out.c Tryd.underlying30 rfl (ctx_size' (HSZ.out _ _)) ?_)
    | (refine wpList_load_row rfl 46 (.tmp 8) rfl tb rfl _ _ _ _ I6.out Tryd.underlying46 rfl ins_size ?_)
    | (go_at_call 32; refine (HJP.out _ _).mono ?_; rintro e w7 ⟨rfl, g7⟩; have G7 := hid g7; have B7 := hid (gr_blk V6.out.c g7); have I7 := hid (gr_blk I6.out g7); have V7 := hid (V6.out.gr g7); have O7 := hid (O6.out.gr g7); have GG7 := hid (Gr.trans G6.out g7); have y7 := (cell_of B7.out 0).trans (cC_pc _ _ _); have z7 := frozen_of B7.out 0; have l7 := lt_of_block B7.out; have j4 := (cell_of I7.out 4).trans (rfl : _ = some (Value.int .i64 im)); have jl := lt_of_block I7.out; clear g7))
  have hb8 : (w7.setCell ⟨w.heap.size + 1, 0, none⟩ (.int .i64 im)).heap[w.heap.size + 1]? = some (.cells (cC im r (.slice ao2 n2 cap2)) 30 (0, 0)) := by rw [← cC_setpc (pc + 1)]; exact setCell_block B7.out 0 (.int .i64 im)
  have hc8 : Ch (Only (w.heap.size + 1)) w7 (w7.setCell ⟨w.heap.size + 1, 0, none⟩ (.int .i64 im)) := (Ch.refl _ _).own 0 _
  have V8 := hid (V7.out.only hc8 hb8)
  have O8 := hid (O7.out.ch hc8 (fun q hq e => by have e1 : q = w.heap.size + 1 := e; have := (O7.out.blk hq).1; omega))
  have G8 := hid (show Gr w (w7.setCell ⟨w.heap.size + 1, 0, none⟩ (.int .i64 im)) from Ch.trans GG7.out hc8 (fun q e => .inr (by have e1 : q = w.heap.size + 1 := e; omega)))
  clear hb8 hc8 y7 z7 l7 j4 jl
  generalize w7.setCell ⟨w.heap.size + 1, 0, none⟩ (.int .i64 im) = W8 at V8 O8 G8 ⊢
  go_wp2_with (first
    | (refine wpList_load_row rfl 30 (.tmp 4) rfl (w.heap.size + 1) rfl _ _ _ _ V8.out.c Tryd.underlying30 rfl (ctx_size' (HSZ.out _ _)) ?_)
    | (refine st_row rfl 30 (.tmp 6) (.tmp 110) rfl (w.heap.size + 3) _ rfl rfl _ _ V8.out.r (ctx_size' (HSZ.out _ _)) (HSZ.out _ _).symm cC_one ?_; intro w9 b9 k9; have R9 := hid b9; have K9 := hid k9; have T9 := hid ((k9.block _ (lt_of_block V8.out.t) (fun q => by have q1 : w.heap.size + 4 = w.heap.size + 3 := q; omega)).trans V8.out.t); clear b9 k9)
    | (refine st_row rfl 49 (.tmp 7) (.tmp 111) rfl (w.heap.size + 4) _ rfl rfl _ _ T9.out want_size rfl one11 ?_; intro w10 b10 k10; have T10 := hid b10; have K10 := hid k10; have R10 := hid ((k10.block _ (lt_of_block R9.out) (fun q => by have q1 : w.heap.size + 3 = w.heap.size + 4 := q; omega)).trans R9.out); clear b10 k10))
  refine bodyPost_ret (results_cell_cell rfl _ _ (w.heap.size + 3) (w.heap.size + 4) _ _ rfl (run_loadVar_row _ _ _ _ _ _ _ R10.out Tryd.underlying30 rfl (ctx_size' (HSZ.out _ _))) rfl (run_loadVar_row _ _ _ _ _ _ _ T10.out Tryd.underlying49 rfl want_size)) rfl ?_
  exact ⟨_, _, _, rfl, ((O8.out.ch K9.out (fun q hq e => by have e1 : q = w.heap.size + 3 := e; have := (O8.out.blk hq).1; omega)).ch K10.out (fun q hq e => by have e1 : q = w.heap.size + 4 := e; have := (O8.out.blk hq).1; omega)).lower (by omega), Ch.trans (Ch.trans G8.out K9.out (fun q e => .inr (by have e1 : q = w.heap.size + 3 := e; omega))) K10.out (fun q e => .inr (by have e1 : q = w.heap.size + 4 := e; omega))⟩
set_option maxHeartbeats 2000000 in
set_option maxRecDepth 20000 in
theorem pstep_j18n (P : Nat → Prop) (w : World) (aoc aof aot : Option Addr) (nc nf nt cac caf cat : Nat) (cs : List Int) (h : Ls eU P w (.slice aoc nc cac) cs) (hu : U32s cs) (hg : Glb w) (hcl : nc ≤ 35184372088832) (pc : Int) (r : List Int) (hr : r.length = 16) (ao : Option Addr) (n cap : Nat) (ks : List Int) (hk : Ls eI P w (.slice ao n cap) ks) (hn : n ≤ 17592186044416) (ck sl gn : Int)
    (o1 o3 o4 im : Int) (a : Nat) (la : a < 16) (x : Int) (hx : r[a]? = some x) (hI : nI cs pc = (o1, (a : Int), o3, o4, im)) (hB : nB cs pc = true) (ho : o1 = 18) (hq : x ≠ 0) :
    Calls Tryd.prog 16 #[.agg #[.slice aoc nc cac, .slice aof nf caf, .slice aot nt cat], .agg (cC pc r (.slice ao n cap)), .agg #[.int .u64 ck, .int .i64 sl, .int .i64 gn]] w (StR w (pc + 1) r ks #[.int .i64 0, .int .i64 0, .int .i64 0, .int .i64 0, .int .i64 0, .int .i64 0, .int .i64 0, .int .i64 0, .int .i64 0, .int .i64 0, .int .i64 0]) := by
  have hlen := h.len.1
  have hpc : 0 ≤ pc ∧ pc < (nc : Int) := by
    unfold nB at hB
    split at hB
    · rename_i q; rw [hlen]; exact q
    · cases hB
  have HA := hid (fun (W : World) (p : Gr w W) => apart_any P W pc r hr ao n cap ks (hk.gr p) hn)
  have HN := hid (fun (W : World) (p : Gr w W) => pnext9_any P W aoc aof aot nc nf nt cac caf cat cs (h.gr p) hu (hg.gr p) pc)
  rw [hI, hB] at HN
  unfold iV at HN
  simp only at HN
  have HT := hid (fun (W : World) (ao2 : Option Addr) (n2 cap2 : Nat) => traps_no W aoc aof aot nc nf nt cac caf cat pc r hr ao2 n2 cap2 o1 (a : Int) o3 o4 im (by omega) (by omega) (by omega) (by omega))
  have V0 := hid (vs_new w #[.slice aoc nc cac, .slice aof nf caf, .slice aot nt cat] (cC pc r (.slice ao n cap)) #[.int .u64 ck, .int .i64 sl, .int .i64 gn] #[.int .i64 0, .int .i64 0, .int .i64 0, .int .i64 0, .int .i64 0, .int .i64 0, .int .i64 0, .int .i64 0, .int .i64 0, .int .i64 0, .int .i64 0, .int .i64 0, .int .i64 0, .int .i64 0, .int .i64 0, .int .i64 0, .int .i64 0, .slice none 0 0] #[.int .i64 0, .int .i64 0, .int .i64 0, .int .i64 0, .int .i64 0, .int .i64 0, .int .i64 0, .int .i64 0, .int .i64 0, .int .i64 0, .int .i64 0])
  have K0 := hid (show Gr w (((((w.alloc (.cells #[.slice aoc nc cac, .slice aof nf caf, .slice aot nt cat] 26)).alloc (.cells (cC pc r (.slice ao n cap)) 30)).alloc (.cells #[.int .u64 ck, .int .i64 sl, .int .i64 gn] 44)).alloc (.cells #[.int .i64 0, .int .i64 0, .int .i64 0, .int .i64 0, .int .i64 0, .int .i64 0, .int .i64 0, .int .i64 0, .int .i64 0, .int .i64 0, .int .i64 0, .int .i64 0, .int .i64 0, .int .i64 0, .int .i64 0, .int .i64 0, .int .i64 0, .slice none 0 0] 30)).alloc (.cells #[.int .i64 0, .int .i64 0, .int .i64 0, .int .i64 0, .int .i64 0, .int .i64 0, .int .i64 0, .int .i64 0, .int .i64 0, .int .i64 0, .int .i64 0] 49)) from Ch.alloc (Ch.alloc (Ch.alloc (Ch.alloc (Ch.alloc (Gr.refl w) _) _) _) _) _)
  have HSZ := hid (fun (pc : Int) (v : Value) => cC_size (pc := pc) (v := v) hr)
  have e1 : (o1 == 1) = false := by rw [ho]; rfl
  have e25 : (o1 == 25) = false := by rw [ho]; rfl
  have e26 : (o1 == 26) = false := by rw [ho]; rfl
  have e17 : (o1 == 17) = false := by rw [ho]; rfl
  have e18 : (o1 == 18) = true := by rw [ho]; rfl
  have HX := hid hx
  have a0 : (0 : Int) ≤ (a : Int) := by omega
  have a1 : (a : Int) < 16 := by omega
  clear hx
  have hqb : (x == 0) = false := by simpa using hq
  have HO1 := hid ho
  have HRR := hid hr
  clear ho h hu hg hk hI hB hlen hr
  go_enter Tryd.func16, Tryd.ntmps16
  go_upto_region 3 with (first
    | (refine wpList_load_row rfl 30 (.tmp 4) rfl (w.heap.size + 1) rfl _ _ _ _ V0.out.c Tryd.underlying30 rfl (ctx_size' (HSZ.out _ _)) ?_)
    | (go_at_call 28; refine (HA.out _ K0.out).mono ?_; rintro e w1 ⟨ao2, n2, cap2, rfl, o1', g1⟩; have OX := hid (show Ow eI 1 3 (w.heap.size + 5) w1 (.slice ao2 n2 cap2) ks from by simpa using o1'); have G1 := hid (Gr.trans K0.out g1); have V1 := hid (V0.out.gr g1); clear o1' g1)
    | (refine st_row rfl 30 (.tmp 4) (.tmp 13) rfl (w.heap.size + 1) _ rfl rfl _ _ V1.out.c (ctx_size' (HSZ.out _ _)) ((HSZ.out _ _).trans (HSZ.out _ _).symm) cC_one ?_; intro w2 b2 k2; have V2 := hid (V1.out.only k2 b2); have K2 := hid k2; have G2 := hid (show Gr w w2 from Ch.trans G1.out k2 (fun q e => .inr (by have e1 : q = w.heap.size + 1 := e; omega))); obtain ⟨m0, m1, m2, ml⟩ := p3_cells V2.out.p; have mc : w2.cell? ⟨w.heap.size + 1, 0, none⟩ = some (.int .i64 pc) := (cell_of V2.out.c 0).trans (cC_pc _ _ _); have mcl := lt_of_block V2.out.c; clear b2 k2)
    | (go_at_call 23; refine (HN.out _ G2.out).mono ?_; rintro e w3 ⟨rfl, g3⟩; have V3 := hid (V2.out.gr (Ch.alloc g3 (.cells #[.int .i64 o1, .int .i64 (a : Int), .int .i64 o3, .int .i64 o4, .int .i64 im] 46))); have G3 := hid (show Gr w (w3.alloc (.cells #[.int .i64 o1, .int .i64 (a : Int), .int .i64 o3, .int .i64 o4, .int .i64 im] 46)) from Ch.alloc (Gr.trans G2.out g3) _); have I3 := hid (MapKept.heap_alloc w3 (.cells #[.int .i64 o1, .int .i64 (a : Int), .int .i64 o3, .int .i64 o4, .int .i64 im] 46)).1; have OW3 := hid (show Ow eI 1 3 (w.heap.size + 5) (w3.alloc (.cells #[.int .i64 o1, .int .i64 (a : Int), .int .i64 o3, .int .i64 o4, .int .i64 im] 46)) (.slice ao2 n2 cap2) ks from ((OX.out.ch K2.out (fun q hq e => by have e1 : q = w.heap.size + 1 := e; have := (OX.out.blk hq).1; omega)).gr (Ch.alloc g3 _))); have S3 := hid (show w.heap.size + 5 ≤ w3.heap.size from Nat.lt_of_lt_of_le (lt_of_block V2.out.t) g3.size); clear g3))
  generalize w3.alloc (.cells #[.int .i64 o1, .int .i64 (a : Int), .int .i64 o3, .int .i64 o4, .int .i64 im] 46) = W3 at V3 G3 I3 OW3 ⊢
  generalize w3.heap.size = tb at I3 S3 ⊢
  obtain ⟨q0, q1⟩ := hpc
  have q2 : pc ≤ 35184372088832 := by omega
  have O3 := hid (show Ow eI 1 3 (w.heap.size + 5) W3 (.slice ao2 n2 cap2) ks from OW3.out)
  clear m0 m1 m2 ml mc mcl
  obtain ⟨m0, m1, m2, ml⟩ := p3_cells V3.out.p
  have i0 : W3.cell? ⟨tb, 0, none⟩ = some (.int .i64 o1) := (cell_of I3.out 0).trans rfl
  have i1 : W3.cell? ⟨tb, 1, none⟩ = some (.int .i64 (a : Int)) := (cell_of I3.out 1).trans rfl
  have i2 : W3.cell? ⟨tb, 2, none⟩ = some (.int .i64 o3) := (cell_of I3.out 2).trans rfl
  have i3 : W3.cell? ⟨tb, 3, none⟩ = some (.int .i64 o4) := (cell_of I3.out 3).trans rfl
  have i4 : W3.cell? ⟨tb, 4, none⟩ = some (.int .i64 im) := (cell_of I3.out 4).trans rfl
  have il := lt_of_block I3.out
  go_upto_region 9 with (first
    | (refine wpList_load_row rfl 30 (.tmp 4) rfl (w.heap.size + 1) rfl _ _ _ _ V3.out.c Tryd.underlying30 rfl (ctx_size' (HSZ.out _ _)) ?_)
    | (go_at_call 30; refine (HT.out _ ao2 n2 cap2).mono ?_; rintro e w5 ⟨rfl, g5⟩; have V5 := hid (V3.out.gr g5); have G5 := hid (show Gr w w5 from Gr.trans G3.out g5); have I5 := hid (gr_blk I3.out g5); have O5 := hid (O3.out.gr g5); have c5 := (cell_of (gr_blk V3.out.c g5) 0).trans (cC_pc _ _ _); have z5 := frozen_of (gr_blk V3.out.c g5) 0; have l5 := lt_of_block (gr_blk V3.out.c g5); clear g5))
  have K6 := hid (show Ch (Only (w.heap.size + 1)) w5 (w5.setCell ⟨w.heap.size + 1, 0, none⟩ (.int .i64 (pc + 1))) from (Ch.refl _ _).own 0 _)
  have A6 := hid (show Gr (w5.setCell ⟨w.heap.size + 1, 0, none⟩ (.int .i64 (pc + 1))) ((w5.setCell ⟨w.heap.size + 1, 0, none⟩ (.int .i64 (pc + 1))).alloc (.cells #[.int .i64 0, .int .i64 0, .int .i64 0, .int .i64 0, .int .i64 0, .int .i64 0, .int .i64 0, .int .i64 0, .int .i64 0, .int .i64 0, .int .i64 0] 49)) from Ch.alloc (Gr.refl _) _)
  have V6 := hid ((V5.out.only K6.out (show (w5.setCell ⟨w.heap.size + 1, 0, none⟩ (.int .i64 (pc + 1))).heap[w.heap.size + 1]? = some (.cells (cC (pc + 1) r (.slice ao2 n2 cap2)) 30 (0, 0)) by rw [← cC_setpc pc]; exact setCell_block V5.out.c 0 (.int .i64 (pc + 1)))).gr A6.out)
  have I6 := hid (gr_blk ((K6.out.block _ (lt_of_block I5.out) (fun q => by have q1 : tb = w.heap.size + 1 := q; have := S3.out; omega)).trans I5.out) A6.out)
  have O6 := hid ((O5.out.ch K6.out (fun q hq e => by have e1 : q = w.heap.size + 1 := e; have := (O5.out.blk hq).1; omega)).gr A6.out)
  have G6 := hid (show Gr w ((w5.setCell ⟨w.heap.size + 1, 0, none⟩ (.int .i64 (pc + 1))).alloc (.cells #[.int .i64 0, .int .i64 0, .int .i64 0, .int .i64 0, .int .i64 0, .int .i64 0, .int .i64 0, .int .i64 0, .int .i64 0, .int .i64 0, .int .i64 0] 49)) from Gr.trans (Ch.fresh G5.out (by omega) 0 _) A6.out)
  clear i0 i1 i2 i3 i4 il m0 m1 m2 ml c5 z5 l5
  clear A6 K6
  generalize (w5.setCell ⟨w.heap.size + 1, 0, none⟩ (.int .i64 (pc + 1))).alloc (.cells #[.int .i64 0, .int .i64 0, .int .i64 0, .int .i64 0, .int .i64 0, .int .i64 0, .int .i64 0, .int .i64 0, .int .i64 0, .int .i64 0, .int .i64 0] 49) = W6 at V6 I6 O6 G6 ⊢
  have i0 : W6.cell? ⟨tb, 0, none⟩ = some (.int .i64 o1) := (cell_of I6.out 0).trans rfl
  have i1 : W6.cell? ⟨tb, 1, none⟩ = some (.int .i64 (a : Int)) := (cell_of I6.out 1).trans rfl
  have i2 : W6.cell? ⟨tb, 2, none⟩ = some (.int .i64 o3) := (cell_of I6.out 2).trans rfl
  have i3 : W6.cell? ⟨tb, 3, none⟩ = some (.int .i64 o4) := (cell_of I6.out 3).trans rfl
  have i4 : W6.cell? ⟨tb, 4, none⟩ = some (.int .i64 im) := (cell_of I6.out 4).trans rfl
  have il := lt_of_block I6.out
  have HJP := hid (show ∀ (W : World) (v : Value), Calls Tryd.prog 32 #[.agg (cC (pc + 1) r v), .agg #[.int .i64 o1, .int .i64 (a : Int), .int .i64 o3, .int .i64 o4, .int .i64 im]] W fun e w' => e = .returned (.bool false) ∧ Gr W w' from fun W v => by
    rw [HO1.out]
    have := jumps_18 W (pc + 1) r v a x o3 o4 im HX.out la
    rw [hqb] at this; exact this)
  clear i0 i1 i2 i3 i4
  have i0 : W6.cell? ⟨tb, 0, none⟩ = some (.int .i64 o1) := (cell_of I6.out 0).trans rfl
  go_upto_region 28 with (first
    | (refine wpList_load_row rfl 30 (.tmp 4) rfl (w.heap.size + 1) rfl _ _ _ _ V6.out.c Tryd.underlying30 rfl (ctx_size' (HSZ.out _ _)) ?_)
    | (refine wpList_load_row rfl 46 (.tmp 8) rfl tb rfl _ _ _ _ I6.out Tryd.underlying46 rfl ins_size ?_)
    | (go_at_call 32; refine (HJP.out _ _).mono ?_; rintro e w7 ⟨rfl, g7⟩; have G7 := hid g7; have B7 := hid (gr_blk V6.out.c g7); have I7 := hid (gr_blk I6.out g7); have V7 := hid (V6.out.gr g7); have O7 := hid (O6.out.gr g7); have GG7 := hid (Gr.trans G6.out g7); have y7 := (cell_of B7.out 0).trans (cC_pc _ _ _); have z7 := frozen_of B7.out 0; have l7 := lt_of_block B7.out; have j4 := (cell_of I7.out 4).trans (rfl : _ = some (Value.int .i64 im)); have jl := lt_of_block I7.out; clear g7))
  go_wp2_with (first
    | (refine wpList_load_row rfl 30 (.tmp 4) rfl (w.heap.size + 1) rfl _ _ _ _ V7.out.c Tryd.underlying30 rfl (ctx_size' (HSZ.out _ _)) ?_)
    | (refine st_row rfl 30 (.tmp 6) (.tmp 110) rfl (w.heap.size + 3) _ rfl rfl _ _ V7.out.r (ctx_size' (HSZ.out _ _)) (HSZ.out _ _).symm cC_one ?_; intro w9 b9 k9; have R9 := hid b9; have K9 := hid k9; have T9 := hid ((k9.block _ (lt_of_block V7.out.t) (fun q => by have q1 : w.heap.size + 4 = w.heap.size + 3 := q; omega)).trans V7.out.t); clear b9 k9)
    | (refine st_row rfl 49 (.tmp 7) (.tmp 111) rfl (w.heap.size + 4) _ rfl rfl _ _ T9.out want_size rfl one11 ?_; intro w10 b10 k10; have T10 := hid b10; have K10 := hid k10; have R10 := hid ((k10.block _ (lt_of_block R9.out) (fun q => by have q1 : w.heap.size + 3 = w.heap.size + 4 := q; omega)).trans R9.out); clear b10 k10))
  refine bodyPost_ret (results_cell_cell rfl _ _ (w.heap.size + 3) (w.heap.size + 4) _ _ rfl (run_loadVar_row _ _ _ _ _ _ _ R10.out Tryd.underlying30 rfl (ctx_size' (HSZ.out _ _))) rfl (run_loadVar_row _ _ _ _ _ _ _ T10.out Tryd.underlying49 rfl want_size)) rfl ?_
  exact ⟨_, _, _, rfl, ((O7.out.ch K9.out (fun q hq e => by have e1 : q = w.heap.size + 3 := e; have := (O7.out.blk hq).1; omega)).ch K10.out (fun q hq e => by have e1 : q = w.heap.size + 4 := e; have := (O7.out.blk hq).1; omega)).lower (by omega), Ch.trans (Ch.trans GG7.out K9.out (fun q e => .inr (by have e1 : q = w.heap.size + 3 := e; omega))) K10.out (fun q e => .inr (by have e1 : q = w.heap.size + 4 := e; omega))⟩
end Go.Proofs.YtcdlhfodeckleaaDoor.Lt

namespace Go.Proofs.YtcdlhfodeckleaaDoor.Lt
open Go.RowKit Wd

set_option maxHeartbeats 2000000 in
set_option maxRecDepth 20000 in
theorem pstep_j19y (P : Nat → Prop) (w : World) (aoc aof aot : Option Addr) (nc nf nt cac caf cat : Nat) (cs : List Int) (h : Ls eU P w (.slice aoc nc cac) cs) (hu : U32s cs) (hg : Glb w) (hcl : nc ≤ 35184372088832) (pc : Int) (r : List Int) (hr : r.length = 16) (ao : Option Addr) (n cap : Nat) (ks : List Int) (hk : Ls eI P w (.slice ao n cap) ks) (hn : n ≤ 17592186044416) (ck sl gn : Int)
    (o1 o3 o4 im : Int) (a : Nat) (la : a < 16) (x : Int) (hx : r[a]? = some x) (hI : nI cs pc = (o1, (a : Int), o3, o4, im)) (hB : nB cs pc = true) (ho : o1 = 19) (hq : x ≠ 0) :
    Calls Tryd.prog 16 #[.agg #[.slice aoc nc cac, .slice aof nf caf, .slice aot nt cat], .agg (cC pc r (.slice ao n cap)), .agg #[.int .u64 ck, .int .i64 sl, .int .i64 gn]] w (StR w im r ks #[.int .i64 0, .int .i64 0, .int .i64 0, .int .i64 0, .int .i64 0, .int .i64 0, .int .i64 0, .int .i64 0, .int .i64 0, .int .i64 0, .int .i64 0]) := by
  have hlen := h.len.1
  have hpc : 0 ≤ pc ∧ pc < (nc : Int) := by
    unfold nB at hB
    split at hB
    · rename_i q; rw [hlen]; exact q
    · cases hB
  have HA := hid (fun (W : World) (p : Gr w W) => apart_any P W pc r hr ao n cap ks (hk.gr p) hn)
  have HN := hid (fun (W : World) (p : Gr w W) => pnext9_any P W aoc aof aot nc nf nt cac caf cat cs (h.gr p) hu (hg.gr p) pc)
  rw [hI, hB] at HN
  unfold iV at HN
  simp only at HN
  have HT := hid (fun (W : World) (ao2 : Option Addr) (n2 cap2 : Nat) => traps_no W aoc aof aot nc nf nt cac caf cat pc r hr ao2 n2 cap2 o1 (a : Int) o3 o4 im (by omega) (by omega) (by omega) (by omega))
  have V0 := hid (vs_new w #[.slice aoc nc cac, .slice aof nf caf, .slice aot nt cat] (cC pc r (.slice ao n cap)) #[.int .u64 ck, .int .i64 sl, .int .i64 gn] #[.int .i64 0, .int .i64 0, .int .i64 0, .int .i64 0, .int .i64 0, .int .i64 0, .int .i64 0, .int .i64 0, .int .i64 0, .int .i64 0, .int .i64 0, .int .i64 0, .int .i64 0, .int .i64 0, .int .i64 0, .int .i64 0, .int .i64 0, .slice none 0 0] #[.int .i64 0, .int .i64 0, .int .i64 0, .int .i64 0, .int .i64 0, .int .i64 0, .int .i64 0, .int .i64 0, .int .i64 0, .int .i64 0, .int .i64 0])
  have K0 := hid (show Gr w (((((w.alloc (.cells #[.slice aoc nc cac, .slice aof nf caf, .slice aot nt cat] 26)).alloc (.cells (cC pc r (.slice ao n cap)) 30)).alloc (.cells #[.int .u64 ck, .int .i64 sl, .int .i64 gn] 44)).alloc (.cells #[.int .i64 0, .int .i64 0, .int .i64 0, .int .i64 0, .int .i64 0, .int .i64 0, .int .i64 0, .int .i64 0, .int .i64 0, .int .i64 0, .int .i64 0, .int .i64 0, .int .i64 0, .int .i64 0, .int .i64 0, .int .i64 0, .int .i64 0, .slice none 0 0] 30)).alloc (.cells #[.int .i64 0, .int .i64 0, .int .i64 0, .int .i64 0, .int .i64 0, .int .i64 0, .int .i64 0, .int .i64 0, .int .i64 0, .int .i64 0, .int .i64 0] 49)) from Ch.alloc (Ch.alloc (Ch.alloc (Ch.alloc (Ch.alloc (Gr.refl w) _) _) _) _) _)
  have HSZ := hid (fun (pc : Int) (v : Value) => cC_size (pc := pc) (v := v) hr)
  have e1 : (o1 == 1) = false := by rw [ho]; rfl
  have e25 : (o1 == 25) = false := by rw [ho]; rfl
  have e26 : (o1 == 26) = false := by rw [ho]; rfl
  have e17 : (o1 == 17) = false := by rw [ho]; rfl
  have e18 : (o1 == 18) = false := by rw [ho]; rfl
  have e19 : (o1 == 19) = true := by rw [ho]; rfl
  have HX := hid hx
  have a0 : (0 : Int) ≤ (a : Int) := by omega
  have a1 : (a : Int) < 16 := by omega
  clear hx
  have hqb : (x == 0) = false := by simpa using hq
  have HO1 := hid ho
  have HRR := hid hr
  clear ho h hu hg hk hI hB hlen hr
  go_enter Tryd.func16, Tryd.ntmps16
  go_upto_region 3 with (first
    | (refine wpList_load_row rfl 30 (.tmp 4) rfl (w.heap.size + 1) rfl _ _ _ _ V0.out.c Tryd.underlying30 rfl (ctx_size' (HSZ.out _ _)) ?_)
    | (go_at_call 28; refine (HA.out _ K0.out).mono ?_; rintro e w1 ⟨ao2, n2, cap2, rfl, o1', g1⟩; have OX := hid (show Ow eI 1 3 (w.heap.size + 5) w1 (.slice ao2 n2 cap2) ks from by simpa using o1'); have G1 := hid (Gr.trans K0.out g1); have V1 := hid (V0.out.gr g1); clear o1' g1)
    | (refine st_row rfl 30 (.tmp 4) (.tmp 13) rfl (w.heap.size + 1) _ rfl rfl _ _ V1.out.c (ctx_size' (HSZ.out _ _)) ((HSZ.out _ _).trans (HSZ.out _ _).symm) cC_one ?_; intro w2 b2 k2; have V2 := hid (V1.out.only k2 b2); have K2 := hid k2; have G2 := hid (show Gr w w2 from Ch.trans G1.out k2 (fun q e => .inr (by have e1 : q = w.heap.size + 1 := e; omega))); obtain ⟨m0, m1, m2, ml⟩ := p3_cells V2.out.p; have mc : w2.cell? ⟨w.heap.size + 1, 0, none⟩ = some (.int .i64 pc) := (cell_of V2.out.c 0).trans (cC_pc _ _ _); have mcl := lt_of_block V2.out.c; clear b2 k2)
    | (go_at_call 23; refine (HN.out _ G2.out).mono ?_; rintro e w3 ⟨rfl, g3⟩; have V3 := hid (V2.out.gr (Ch.alloc g3 (.cells #[.int .i64 o1, .int .i64 (a : Int), .int .i64 o3, .int .i64 o4, .int .i64 im] 46))); have G3 := hid (show Gr w (w3.alloc (.cells #[.int .i64 o1, .int .i64 (a : Int), .int .i64 o3, .int .i64 o4, .int .i64 im] 46)) from Ch.alloc (Gr.trans G2.out g3) _); have I3 := hid (MapKept.heap_alloc w3 (.cells #[.int .i64 o1, .int .i64 (a : Int), .int .i64 o3, .int .i64 o4, .int .i64 im] 46)).1; have OW3 := hid (show Ow eI 1 3 (w.heap.size + 5) (w3.alloc (.cells #[.int .i64 o1, .int .i64 (a : Int), .int .i64 o3, .int .i64 o4, .int .i64 im] 46)) (.slice ao2 n2 cap2) ks from ((OX.out.ch K2.out (fun q hq e => by have e1 : q = w.heap.size + 1 := e; have := (OX.out.blk hq).1; omega)).gr (Ch.alloc g3 _))); have S3 := hid (show w.heap.size + 5 ≤ w3.heap.size from Nat.lt_of_lt_of_le (lt_of_block V2.out.t) g3.size); clear g3))
  generalize w3.alloc (.cells #[.int .i64 o1, .int .i64 (a : Int), .int .i64 o3, .int .i64 o4, .int .i64 im] 46) = W3 at V3 G3 I3 OW3 ⊢
  generalize w3.heap.size = tb at I3 S3 ⊢
  obtain ⟨q0, q1⟩ := hpc
  have q2 : pc ≤ 35184372088832 := by omega
  have O3 := hid (show Ow eI 1 3 (w.heap.size + 5) W3 (.slice ao2 n2 cap2) ks from OW3.out)
  clear m0 m1 m2 ml mc mcl
  obtain ⟨m0, m1, m2, ml⟩ := p3_cells V3.out.p
  have i0 : W3.cell? ⟨tb, 0, none⟩ = some (.int .i64 o1) := (cell_of I3.out 0).trans rfl
  have i1 : W3.cell? ⟨tb, 1, none⟩ = some (.int .i64 (a : Int)) := (cell_of I3.out 1).trans rfl
  have i2 : W3.cell? ⟨tb, 2, none⟩ = some (.int .i64 o3) := (cell_of I3.out 2).trans rfl
  have i3 : W3.cell? ⟨tb, 3, none⟩ = some (.int .i64 o4) := (cell_of I3.out 3).trans rfl
  have i4 : W3.cell? ⟨tb, 4, none⟩ = some (.int .i64 im) := (cell_of I3.out 4).trans rfl
  have il := lt_of_block I3.out
  go_upto_region 9 with (first
    | (refine wpList_load_row rfl 30 (.tmp 4) rfl (w.heap.size + 1) rfl _ _ _ _ V3.out.c Tryd.underlying30 rfl (ctx_size' (HSZ.out _ _)) ?_)
    | (go_at_call 30; refine (HT.out _ ao2 n2 cap2).mono ?_; rintro e w5 ⟨rfl, g5⟩; have V5 := hid (V3.out.gr g5); have G5 := hid (show Gr w w5 from Gr.trans G3.out g5); have I5 := hid (gr_blk I3.out g5); have O5 := hid (O3.out.gr g5); have c5 := (cell_of (gr_blk V3.out.c g5) 0).trans (cC_pc _ _ _); have z5 := frozen_of (gr_blk V3.out.c g5) 0; have l5 := lt_of_block (gr_blk V3.out.c g5); clear g5))
  have K6 := hid (show Ch (Only (w.heap.size + 1)) w5 (w5.setCell ⟨w.heap.size + 1, 0, none⟩ (.int .i64 (pc + 1))) from (Ch.refl _ _).own 0 _)
  have A6 := hid (show Gr (w5.setCell ⟨w.heap.size + 1, 0, none⟩ (.int .i64 (pc + 1))) ((w5.setCell ⟨w.heap.size + 1, 0, none⟩ (.int .i64 (pc + 1))).alloc (.cells #[.int .i64 0, .int .i64 0, .int .i64 0, .int .i64 0, .int .i64 0, .int .i64 0, .int .i64 0, .int .i64 0, .int .i64 0, .int .i64 0, .int .i64 0] 49)) from Ch.alloc (Gr.refl _) _)
  have V6 := hid ((V5.out.only K6.out (show (w5.setCell ⟨w.heap.size + 1, 0, none⟩ (.int .i64 (pc + 1))).heap[w.heap.size + 1]? = some (.cells (cC (pc + 1) r (.slice ao2 n2 cap2)) 30 (0, 0)) by rw [← cC_setpc pc]; exact setCell_block V5.out.c 0 (.int .i64 (pc + 1)))).gr A6.out)
  have I6 := hid (gr_blk ((K6.out.block _ (lt_of_block I5.out) (fun q => by have q1 : tb = w.heap.size + 1 := q; have := S3.out; omega)).trans I5.out) A6.out)
  have O6 := hid ((O5.out.ch K6.out (fun q hq e => by have e1 : q = w.heap.size + 1 := e; have := (O5.out.blk hq).1; omega)).gr A6.out)
  have G6 := hid (show Gr w ((w5.setCell ⟨w.heap.size + 1, 0, none⟩ (.int .i64 (pc + 1))).alloc (.cells #[.int .i64 0, .int .i64 0, .int .i64 0, .int .i64 0, .int .i64 0, .int .i64 0, .int .i64 0, .int .i64 0, .int .i64 0, .int .i64 0, .int .i64 0] 49)) from Gr.trans (Ch.fresh G5.out (by omega) 0 _) A6.out)
  clear i0 i1 i2 i3 i4 il m0 m1 m2 ml c5 z5 l5
  clear A6 K6
  generalize (w5.setCell ⟨w.heap.size + 1, 0, none⟩ (.int .i64 (pc + 1))).alloc (.cells #[.int .i64 0, .int .i64 0, .int .i64 0, .int .i64 0, .int .i64 0, .int .i64 0, .int .i64 0, .int .i64 0, .int .i64 0, .int .i64 0, .int .i64 0] 49) = W6 at V6 I6 O6 G6 ⊢
  have i0 : W6.cell? ⟨tb, 0, none⟩ = some (.int .i64 o1) := (cell_of I6.out 0).trans rfl
  have i1 : W6.cell? ⟨tb, 1, none⟩ = some (.int .i64 (a : Int)) := (cell_of I6.out 1).trans rfl
  have i2 : W6.cell? ⟨tb, 2, none⟩ = some (.int .i64 o3) := (cell_of I6.out 2).trans rfl
  have i3 : W6.cell? ⟨tb, 3, none⟩ = some (.int .i64 o4) := (cell_of I6.out 3).trans rfl
  have i4 : W6.cell? ⟨tb, 4, none⟩ = some (.int .i64 im) := (cell_of I6.out 4).trans rfl
  have il := lt_of_block I6.out
  have HJP := hid (show ∀ (W : World) (v : Value), Calls Tryd.prog 32 #[.agg (cC (pc + 1) r v), .agg #[.int .i64 o1, .int .i64 (a : Int), .int .i64 o3, .int .i64 o4, .int .i64 im]] W fun e w' => e = .returned (.bool true) ∧ Gr W w' from fun W v => by
    rw [HO1.out]
    have := jumps_19 W (pc + 1) r v a x o3 o4 im HX.out la
    rw [hqb] at this; exact this)
  clear i0 i1 i2 i3 i4
  have i0 : W6.cell? ⟨tb, 0, none⟩ = some (.int .i64 o1) := (cell_of I6.out 0).trans rfl
  go_upto_region 28 with (first
    | (refine wpList_load_row rfl 30 (.tmp 4) rfl (w.heap.size + 1) rfl _ _ _ _ V6.out.c Tryd.underlying30 rfl (ctx_size' (HSZ.out _ _)) ?_)
    | (refine wpList_load_row rfl 46 (.tmp 8) rfl tb rfl _ _ _ _ I6.out Tryd.underlying46 rfl ins_size ?_)
    | (go_at_call 32; refine (HJP.out _ _).mono ?_; rintro e w7 ⟨rfl, g7⟩; have G7 := hid g7; have B7 := hid (gr_blk V6.out.c g7); have I7 := hid (gr_blk I6.out g7); have V7 := hid (V6.out.gr g7); have O7 := hid (O6.out.gr g7); have GG7 := hid (Gr.trans G6.out g7); have y7 := (cell_of B7.out 0).trans (cC_pc _ _ _); have z7 := frozen_of B7.out 0; have l7 := lt_of_block B7.out; have j4 := (cell_of I7.out 4).trans (rfl : _ = some (Value.int .i64 im)); have jl := lt_of_block I7.out; clear g7))
  have hb8 : (w7.setCell ⟨w.heap.size + 1, 0, none⟩ (.int .i64 im)).heap[w.heap.size + 1]? = some (.cells (cC im r (.slice ao2 n2 cap2)) 30 (0, 0)) := by rw [← cC_setpc (pc + 1)]; exact setCell_block B7.out 0 (.int .i64 im)
  have hc8 : Ch (Only (w.heap.size + 1)) w7 (w7.setCell ⟨w.heap.size + 1, 0, none⟩ (.int .i64 im)) := (Ch.refl _ _).own 0 _
  have V8 := hid (V7.out.only hc8 hb8)
  have O8 := hid (O7.out.ch hc8 (fun q hq e => by have e1 : q = w.heap.size + 1 := e; have := (O7.out.blk hq).1; omega))
  have G8 := hid (show Gr w (w7.setCell ⟨w.heap.size + 1, 0, none⟩ (.int .i64 im)) from Ch.trans GG7.out hc8 (fun q e => .inr (by have e1 : q = w.heap.size + 1 := e; omega)))
  clear hb8 hc8 y7 z7 l7 j4 jl
  generalize w7.setCell ⟨w.heap.size + 1, 0, none⟩ (.int .i64 im) = W8 at V8 O8 G8 ⊢
  go_wp2_with (first
    | (refine wpList_load_row rfl 30 (.tmp 4) rfl (w.heap.size + 1) rfl _ _ _ _ V8.out.c Tryd.underlying30 rfl (ctx_size' (HSZ.out _ _)) ?_)
    | (refine st_row rfl 30 (.tmp 6) (.tmp 110) rfl (w.heap.size + 3) _ rfl rfl _ _ V8.out.r (ctx_size' (HSZ.out _ _)) (HSZ.out _ _).symm cC_one ?_; intro w9 b9 k9; have R9 := hid b9; have K9 := hid k9; have T9 := hid ((k9.block _ (lt_of_block V8.out.t) (fun q => by have q1 : w.heap.size + 4 = w.heap.size + 3 := q; omega)).trans V8.out.t); clear b9 k9)
    | (refine st_row rfl 49 (.tmp 7) (.tmp 111) rfl (w.heap.size + 4) _ rfl rfl _ _ T9.out want_size rfl one11 ?_; intro w10 b10 k10; have T10 := hid b10; have K10 := hid k10; have R10 := hid ((k10.block _ (lt_of_block R9.out) (fun q => by have q1 : w.heap.size + 3 = w.heap.size + 4 := q; omega)).trans R9.out); clear b10 k10))
  refine bodyPost_ret (results_cell_cell rfl _ _ (w.heap.size + 3) (w.heap.size + 4) _ _ rfl (run_loadVar_row _ _ _ _ _ _ _ R10.out Tryd.underlying30 rfl (ctx_size' (HSZ.out _ _))) rfl (run_loadVar_row _ _ _ _ _ _ _ T10.out Tryd.underlying49 rfl want_size)) rfl ?_
  exact ⟨_, _, _, rfl, ((O8.out.ch K9.out (fun q hq e => by have e1 : q = w.heap.size + 3 := e; have := (O8.out.blk hq).1; omega)).ch K10.out (fun q hq e => by have e1 : q = w.heap.size + 4 := e; have := (O8.out.blk hq).1; omega)).lower (by omega), Ch.trans (Ch.trans G8.out K9.out (fun q e => .inr (by have e1 : q = w.heap.size + 3 := e; omega))) K10.out (fun q e => .inr (by have e1 : q = w.heap.size + 4 := e; omega))⟩
set_option maxHeartbeats 2000000 in
set_option maxRecDepth 20000 in
theorem pstep_j19n (P : Nat → Prop) (w : World) (aoc aof aot : Option Addr) (nc nf nt cac caf cat : Nat) (cs : List Int) (h : Ls eU P w (.slice aoc nc cac) cs) (hu : U32s cs) (hg : Glb w) (hcl : nc ≤ 35184372088832) (pc : Int) (r : List Int) (hr : r.length = 16) (ao : Option Addr) (n cap : Nat) (ks : List Int) (hk : Ls eI P w (.slice ao n cap) ks) (hn : n ≤ 17592186044416) (ck sl gn : Int)
    (o1 o3 o4 im : Int) (a : Nat) (la : a < 16) (x : Int) (hx : r[a]? = some x) (hI : nI cs pc = (o1, (a : Int), o3, o4, im)) (hB : nB cs pc = true) (ho : o1 = 19) (hq : x = 0) :
    Calls Tryd.prog 16 #[.agg #[.slice aoc nc cac, .slice aof nf caf, .slice aot nt cat], .agg (cC pc r (.slice ao n cap)), .agg #[.int .u64 ck, .int .i64 sl, .int .i64 gn]] w (StR w (pc + 1) r ks #[.int .i64 0, .int .i64 0, .int .i64 0, .int .i64 0, .int .i64 0, .int .i64 0, .int .i64 0, .int .i64 0, .int .i64 0, .int .i64 0, .int .i64 0]) := by
  have hlen := h.len.1
  have hpc : 0 ≤ pc ∧ pc < (nc : Int) := by
    unfold nB at hB
    split at hB
    · rename_i q; rw [hlen]; exact q
    · cases hB
  have HA := hid (fun (W : World) (p : Gr w W) => apart_any P W pc r hr ao n cap ks (hk.gr p) hn)
  have HN := hid (fun (W : World) (p : Gr w W) => pnext9_any P W aoc aof aot nc nf nt cac caf cat cs (h.gr p) hu (hg.gr p) pc)
  rw [hI, hB] at HN
  unfold iV at HN
  simp only at HN
  have HT := hid (fun (W : World) (ao2 : Option Addr) (n2 cap2 : Nat) => traps_no W aoc aof aot nc nf nt cac caf cat pc r hr ao2 n2 cap2 o1 (a : Int) o3 o4 im (by omega) (by omega) (by omega) (by omega))
  have V0 := hid (vs_new w #[.slice aoc nc cac, .slice aof nf caf, .slice aot nt cat] (cC pc r (.slice ao n cap)) #[.int .u64 ck, .int .i64 sl, .int .i64 gn] #[.int .i64 0, .int .i64 0, .int .i64 0, .int .i64 0, .int .i64 0, .int .i64 0, .int .i64 0, .int .i64 0, .int .i64 0, .int .i64 0, .int .i64 0, .int .i64 0, .int .i64 0, .int .i64 0, .int .i64 0, .int .i64 0, .int .i64 0, .slice none 0 0] #[.int .i64 0, .int .i64 0, .int .i64 0, .int .i64 0, .int .i64 0, .int .i64 0, .int .i64 0, .int .i64 0, .int .i64 0, .int .i64 0, .int .i64 0])
  have K0 := hid (show Gr w (((((w.alloc (.cells #[.slice aoc nc cac, .slice aof nf caf, .slice aot nt cat] 26)).alloc (.cells (cC pc r (.slice ao n cap)) 30)).alloc (.cells #[.int .u64 ck, .int .i64 sl, .int .i64 gn] 44)).alloc (.cells #[.int .i64 0, .int .i64 0, .int .i64 0, .int .i64 0, .int .i64 0, .int .i64 0, .int .i64 0, .int .i64 0, .int .i64 0, .int .i64 0, .int .i64 0, .int .i64 0, .int .i64 0, .int .i64 0, .int .i64 0, .int .i64 0, .int .i64 0, .slice none 0 0] 30)).alloc (.cells #[.int .i64 0, .int .i64 0, .int .i64 0, .int .i64 0, .int .i64 0, .int .i64 0, .int .i64 0, .int .i64 0, .int .i64 0, .int .i64 0, .int .i64 0] 49)) from Ch.alloc (Ch.alloc (Ch.alloc (Ch.alloc (Ch.alloc (Gr.refl w) _) _) _) _) _)
  have HSZ := hid (fun (pc : Int) (v : Value) => cC_size (pc := pc) (v := v) hr)
  have e1 : (o1 == 1) = false := by rw [ho]; rfl
  have e25 : (o1 == 25) = false := by rw [ho]; rfl
  have e26 : (o1 == 26) = false := by rw [ho]; rfl
  have e17 : (o1 == 17) = false := by rw [ho]; rfl
  have e18 : (o1 == 18) = false := by rw [ho]; rfl
  have e19 : (o1 == 19) = true := by rw [ho]; rfl
  have HX := hid hx
  have a0 : (0 : Int) ≤ (a : Int) := by omega
  have a1 : (a : Int) < 16 := by omega
  clear hx
  have hqb : (x == 0) = true := by simpa using hq
  have HO1 := hid ho
  have HRR := hid hr
  clear ho h hu hg hk hI hB hlen hr
  go_enter Tryd.func16, Tryd.ntmps16
  go_upto_region 3 with (first
    | (refine wpList_load_row rfl 30 (.tmp 4) rfl (w.heap.size + 1) rfl _ _ _ _ V0.out.c Tryd.underlying30 rfl (ctx_size' (HSZ.out _ _)) ?_)
    | (go_at_call 28; refine (HA.out _ K0.out).mono ?_; rintro e w1 ⟨ao2, n2, cap2, rfl, o1', g1⟩; have OX := hid (show Ow eI 1 3 (w.heap.size + 5) w1 (.slice ao2 n2 cap2) ks from by simpa using o1'); have G1 := hid (Gr.trans K0.out g1); have V1 := hid (V0.out.gr g1); clear o1' g1)
    | (refine st_row rfl 30 (.tmp 4) (.tmp 13) rfl (w.heap.size + 1) _ rfl rfl _ _ V1.out.c (ctx_size' (HSZ.out _ _)) ((HSZ.out _ _).trans (HSZ.out _ _).symm) cC_one ?_; intro w2 b2 k2; have V2 := hid (V1.out.only k2 b2); have K2 := hid k2; have G2 := hid (show Gr w w2 from Ch.trans G1.out k2 (fun q e => .inr (by have e1 : q = w.heap.size + 1 := e; omega))); obtain ⟨m0, m1, m2, ml⟩ := p3_cells V2.out.p; have mc : w2.cell? ⟨w.heap.size + 1, 0, none⟩ = some (.int .i64 pc) := (cell_of V2.out.c 0).trans (cC_pc _ _ _); have mcl := lt_of_block V2.out.c; clear b2 k2)
    | (go_at_call 23; refine (HN.out _ G2.out).mono ?_; rintro e w3 ⟨rfl, g3⟩; have V3 := hid (V2.out.gr (Ch.alloc g3 (.cells #[.int .i64 o1, .int .i64 (a : Int), .int .i64 o3, .int .i64 o4, .int .i64 im] 46))); have G3 := hid (show Gr w (w3.alloc (.cells #[.int .i64 o1, .int .i64 (a : Int), .int .i64 o3, .int .i64 o4, .int .i64 im] 46)) from Ch.alloc (Gr.trans G2.out g3) _); have I3 := hid (MapKept.heap_alloc w3 (.cells #[.int .i64 o1, .int .i64 (a : Int), .int .i64 o3, .int .i64 o4, .int .i64 im] 46)).1; have OW3 := hid (show Ow eI 1 3 (w.heap.size + 5) (w3.alloc (.cells #[.int .i64 o1, .int .i64 (a : Int), .int .i64 o3, .int .i64 o4, .int .i64 im] 46)) (.slice ao2 n2 cap2) ks from ((OX.out.ch K2.out (fun q hq e => by have e1 : q = w.heap.size + 1 := e; have := (OX.out.blk hq).1; omega)).gr (Ch.alloc g3 _))); have S3 := hid (show w.heap.size + 5 ≤ w3.heap.size from Nat.lt_of_lt_of_le (lt_of_block V2.out.t) g3.size); clear g3))
  generalize w3.alloc (.cells #[.int .i64 o1, .int .i64 (a : Int), .int .i64 o3, .int .i64 o4, .int .i64 im] 46) = W3 at V3 G3 I3 OW3 ⊢
  generalize w3.heap.size = tb at I3 S3 ⊢
  obtain ⟨q0, q1⟩ := hpc
  have q2 : pc ≤ 35184372088832 := by omega
  have O3 := hid (show Ow eI 1 3 (w.heap.size + 5) W3 (.slice ao2 n2 cap2) ks from OW3.out)
  clear m0 m1 m2 ml mc mcl
  obtain ⟨m0, m1, m2, ml⟩ := p3_cells V3.out.p
  have i0 : W3.cell? ⟨tb, 0, none⟩ = some (.int .i64 o1) := (cell_of I3.out 0).trans rfl
  have i1 : W3.cell? ⟨tb, 1, none⟩ = some (.int .i64 (a : Int)) := (cell_of I3.out 1).trans rfl
  have i2 : W3.cell? ⟨tb, 2, none⟩ = some (.int .i64 o3) := (cell_of I3.out 2).trans rfl
  have i3 : W3.cell? ⟨tb, 3, none⟩ = some (.int .i64 o4) := (cell_of I3.out 3).trans rfl
  have i4 : W3.cell? ⟨tb, 4, none⟩ = some (.int .i64 im) := (cell_of I3.out 4).trans rfl
  have il := lt_of_block I3.out
  go_upto_region 9 with (first
    | (refine wpList_load_row rfl 30 (.tmp 4) rfl (w.heap.size + 1) rfl _ _ _ _ V3.out.c Tryd.underlying30 rfl (ctx_size' (HSZ.out _ _)) ?_)
    | (go_at_call 30; refine (HT.out _ ao2 n2 cap2).mono ?_; rintro e w5 ⟨rfl, g5⟩; have V5 := hid (V3.out.gr g5); have G5 := hid (show Gr w w5 from Gr.trans G3.out g5); have I5 := hid (gr_blk I3.out g5); have O5 := hid (O3.out.gr g5); have c5 := (cell_of (gr_blk V3.out.c g5) 0).trans (cC_pc _ _ _); have z5 := frozen_of (gr_blk V3.out.c g5) 0; have l5 := lt_of_block (gr_blk V3.out.c g5); clear g5))
  have K6 := hid (show Ch (Only (w.heap.size + 1)) w5 (w5.setCell ⟨w.heap.size + 1, 0, none⟩ (.int .i64 (pc + 1))) from (Ch.refl _ _).own 0 _)
  have A6 := hid (show Gr (w5.setCell ⟨w.heap.size + 1, 0, none⟩ (.int .i64 (pc + 1))) ((w5.setCell ⟨w.heap.size + 1, 0, none⟩ (.int .i64 (pc + 1))).alloc (.cells #[.int .i64 0, .int .i64 0, .int .i64 0, .int .i64 0, .int .i64 0, .int .i64 0, .int .i64 0, .int .i64 0, .int .i64 0, .int .i64 0, .int .i64 0] 49)) from Ch.alloc (Gr.refl _) _)
  have V6 := hid ((V5.out.only K6.out (show (w5.setCell ⟨w.heap.size + 1, 0, none⟩ (.int .i64 (pc + 1))).heap[w.heap.size + 1]? = some (.cells (cC (pc + 1) r (.slice ao2 n2 cap2)) 30 (0, 0)) by rw [← cC_setpc pc]; exact setCell_block V5.out.c 0 (.int .i64 (pc + 1)))).gr A6.out)
  have I6 := hid (gr_blk ((K6.out.block _ (lt_of_block I5.out) (fun q => by have q1 : tb = w.heap.size + 1 := q; have := S3.out; omega)).trans I5.out) A6.out)
  have O6 := hid ((O5.out.ch K6.out (fun q hq e => by have e1 : q = w.heap.size + 1 := e; have := (O5.out.blk hq).1; omega)).gr A6.out)
  have G6 := hid (show Gr w ((w5.setCell ⟨w.heap.size + 1, 0, none⟩ (.int .i64 (pc + 1))).alloc (.cells #[.int .i64 0, .int .i64 0, .int .i64 0, .int .i64 0, .int .i64 0, .int .i64 0, .int .i64 0, .int .i64 0, .int .i64 0, .int .i64 0, .int .i64 0] 49)) from Gr.trans (Ch.fresh G5.out (by omega) 0 _) A6.out)
  clear i0 i1 i2 i3 i4 il m0 m1 m2 ml c5 z5 l5
  clear A6 K6
  generalize (w5.setCell ⟨w.heap.size + 1, 0, none⟩ (.int .i64 (pc + 1))).alloc (.cells #[.int .i64 0, .int .i64 0, .int .i64 0, .int .i64 0, .int .i64 0, .int .i64 0, .int .i64 0, .int .i64 0, .int .i64 0, .int .i64 0, .int .i64 0] 49) = W6 at V6 I6 O6 G6 ⊢
  have i0 : W6.cell? ⟨tb, 0, none⟩ = some (.int .i64 o1) := (cell_of I6.out 0).trans rfl
  have i1 : W6.cell? ⟨tb, 1, none⟩ = some (.int .i64 (a : Int)) := (cell_of I6.out 1).trans rfl
  have i2 : W6.cell? ⟨tb, 2, none⟩ = some (.int .i64 o3) := (cell_of I6.out 2).trans rfl
  have i3 : W6.cell? ⟨tb, 3, none⟩ = some (.int .i64 o4) := (cell_of I6.out 3).trans rfl
  have i4 : W6.cell? ⟨tb, 4, none⟩ = some (.int .i64 im) := (cell_of I6.out 4).trans rfl
  have il := lt_of_block I6.out
  have HJP := hid (show ∀ (W : World) (v : Value), Calls Tryd.prog 32 #[.agg (cC (pc + 1) r v), .agg #[.int .i64 o1, .int .i64 (a : Int), .int .i64 o3, .int .i64 o4, .int .i64 im]] W fun e w' => e = .returned (.bool false) ∧ Gr W w' from fun W v => by
    rw [HO1.out]
    have := jumps_19 W (pc + 1) r v a x o3 o4 im HX.out la
    rw [hqb] at this; exact this)
  clear i0 i1 i2 i3 i4
  have i0 : W6.cell? ⟨tb, 0, none⟩ = some (.int .i64 o1) := (cell_of I6.out 0).trans rfl
  go_upto_region 28 with (first
    | (refine wpList_load_row rfl 30 (.tmp 4) rfl (w.heap.size + 1) rfl _ _ _ _ V6.out.c Tryd.underlying30 rfl (ctx_size' (HSZ.out _ _)) ?_)
    | (refine wpList_load_row rfl 46 (.tmp 8) rfl tb rfl _ _ _ _ I6.out Tryd.underlying46 rfl ins_size ?_)
    | (go_at_call 32; refine (HJP.out _ _).mono ?_; rintro e w7 ⟨rfl, g7⟩; have G7 := hid g7; have B7 := hid (gr_blk V6.out.c g7); have I7 := hid (gr_blk I6.out g7); have V7 := hid (V6.out.gr g7); have O7 := hid (O6.out.gr g7); have GG7 := hid (Gr.trans G6.out g7); have y7 := (cell_of B7.out 0).trans (cC_pc _ _ _); have z7 := frozen_of B7.out 0; have l7 := lt_of_block B7.out; have j4 := (cell_of I7.out 4).trans (rfl : _ = some (Value.int .i64 im)); have jl := lt_of_block I7.out; clear g7))
  go_wp2_with (first
    | (refine wpList_load_row rfl 30 (.tmp 4) rfl (w.heap.size + 1) rfl _ _ _ _ V7.out.c Tryd.underlying30 rfl (ctx_size' (HSZ.out _ _)) ?_)
    | (refine st_row rfl 30 (.tmp 6) (.tmp 110) rfl (w.heap.size + 3) _ rfl rfl _ _ V7.out.r (ctx_size' (HSZ.out _ _)) (HSZ.out _ _).symm cC_one ?_; intro w9 b9 k9; have R9 := hid b9; have K9 := hid k9; have T9 := hid ((k9.block _ (lt_of_block V7.out.t) (fun q => by have q1 : w.heap.size + 4 = w.heap.size + 3 := q; omega)).trans V7.out.t); clear b9 k9)
    | (refine st_row rfl 49 (.tmp 7) (.tmp 111) rfl (w.heap.size + 4) _ rfl rfl _ _ T9.out want_size rfl one11 ?_; intro w10 b10 k10; have T10 := hid b10; have K10 := hid k10; have R10 := hid ((k10.block _ (lt_of_block R9.out) (fun q => by have q1 : w.heap.size + 3 = w.heap.size + 4 := q; omega)).trans R9.out); clear b10 k10))
  refine bodyPost_ret (results_cell_cell rfl _ _ (w.heap.size + 3) (w.heap.size + 4) _ _ rfl (run_loadVar_row _ _ _ _ _ _ _ R10.out Tryd.underlying30 rfl (ctx_size' (HSZ.out _ _))) rfl (run_loadVar_row _ _ _ _ _ _ _ T10.out Tryd.underlying49 rfl want_size)) rfl ?_
  exact ⟨_, _, _, rfl, ((O7.out.ch K9.out (fun q hq e => by have e1 : q = w.heap.size + 3 := e; have := (O7.out.blk hq).1; omega)).ch K10.out (fun q hq e => by have e1 : q = w.heap.size + 4 := e; have := (O7.out.blk hq).1; omega)).lower (by omega), Ch.trans (Ch.trans GG7.out K9.out (fun q e => .inr (by have e1 : q = w.heap.size + 3 := e; omega))) K10.out (fun q e => .inr (by have e1 : q = w.heap.size + 4 := e; omega))⟩
end Go.Proofs.YtcdlhfodeckleaaDoor.Lt
