/-
  What the program's Step answers at an operation that does nothing. Conditions: words are words; the tables lie where they lie. What the program's Step answers at now. Conditions: words are words; the tables lie where they lie. What the program's Step answers at self. Conditions: words are words; the tables lie where they lie.
  What the program's Step answers where an instruction asks. Conditions: words are words; the tables lie where they lie. What the program's Step answers at yield and exit. Conditions: words are words; the tables lie where they lie. What the program's Step answers where there is no instruction. Conditions: words are words; the tables lie where they lie. What the program's Step answers where it traps. Conditions: words are words; the tables lie where they lie.
-/
import Derived.Test.YtcdlhfodeckleaaDoorSuBase
import Derived.Test.YtcdlhfodeckleaaDoorSuSm
import Derived.Test.YtcdlhfodeckleaaDoorSuAs
import Derived.Test.YtcdlhfodeckleaaDoorStCosts
namespace Go.Proofs.YtcdlhfodeckleaaDoor.Lt
open Go.RowKit Wd

set_option maxHeartbeats 2000000 in
set_option maxRecDepth 20000 in
theorem pstep_nop (P : Nat → Prop) (w : World) (aoc aof aot : Option Addr) (nc nf nt cac caf cat : Nat) (cs : List Int) (h : Ls eU P w (.slice aoc nc cac) cs) (hu : U32s cs) (hg : Glb w) (hcl : nc ≤ 35184372088832) (pc : Int) (r : List Int) (hr : r.length = 16) (ao : Option Addr) (n cap : Nat) (ks : List Int) (hk : Ls eI P w (.slice ao n cap) ks) (hn : n ≤ 17592186044416) (ck sl gn : Int)
    (o1 o2 o3 o4 im : Int) (hI : nI cs pc = (o1, o2, o3, o4, im)) (hB : nB cs pc = true) (ho : o1 = 1) :
    Calls Tryd.prog 16 #[.agg #[.slice aoc nc cac, .slice aof nf caf, .slice aot nt cat], .agg (cC pc r (.slice ao n cap)), .agg #[.int .u64 ck, .int .i64 sl, .int .i64 gn]] w (StR w (pc + 1) r ks #[.int .i64 0, .int .i64 0, .int .i64 0, .int .i64 0, .int .i64 0, .int .i64 0, .int .i64 0, .int .i64 0, .int .i64 0, .int .i64 0, .int .i64 0]) := by
  have hlen := h.len.1
  have hpc : 0 ≤ pc ∧ pc < (nc : Int) := by
    unfold nB at hB
    split at hB
    · rename_i q; rw [hlen]; exact q
    · cases hB
  have HA := hid (fun (W : World) (p : Gr w W) => apart_any P W pc r hr ao n cap ks (hk.gr p) hn)
  have HN := hid (fun (W : World) (p : Gr w W) => pnext9_any P W aoc aof aot nc nf nt cac caf cat cs (h.gr p) hu (hg.gr p) pc)
  rw [hI, hB] at HN
  unfold iV at HN
  simp only at HN
  have HT := hid (fun (W : World) (ao2 : Option Addr) (n2 cap2 : Nat) => traps_no W aoc aof aot nc nf nt cac caf cat pc r hr ao2 n2 cap2 o1 o2 o3 o4 im (by omega) (by omega) (by omega) (by omega))
  have V0 := hid (vs_new w #[.slice aoc nc cac, .slice aof nf caf, .slice aot nt cat] (cC pc r (.slice ao n cap)) #[.int .u64 ck, .int .i64 sl, .int .i64 gn] #[.int .i64 0, .int .i64 0, .int .i64 0, .int .i64 0, .int .i64 0, .int .i64 0, .int .i64 0, .int .i64 0, .int .i64 0, .int .i64 0, .int .i64 0, .int .i64 0, .int .i64 0, .int .i64 0, .int .i64 0, .int .i64 0, .int .i64 0, .slice none 0 0] #[.int .i64 0, .int .i64 0, .int .i64 0, .int .i64 0, .int .i64 0, .int .i64 0, .int .i64 0, .int .i64 0, .int .i64 0, .int .i64 0, .int .i64 0])
  have K0 := hid (show Gr w (((((w.alloc (.cells #[.slice aoc nc cac, .slice aof nf caf, .slice aot nt cat] 26)).alloc (.cells (cC pc r (.slice ao n cap)) 30)).alloc (.cells #[.int .u64 ck, .int .i64 sl, .int .i64 gn] 44)).alloc (.cells #[.int .i64 0, .int .i64 0, .int .i64 0, .int .i64 0, .int .i64 0, .int .i64 0, .int .i64 0, .int .i64 0, .int .i64 0, .int .i64 0, .int .i64 0, .int .i64 0, .int .i64 0, .int .i64 0, .int .i64 0, .int .i64 0, .int .i64 0, .slice none 0 0] 30)).alloc (.cells #[.int .i64 0, .int .i64 0, .int .i64 0, .int .i64 0, .int .i64 0, .int .i64 0, .int .i64 0, .int .i64 0, .int .i64 0, .int .i64 0, .int .i64 0] 49)) from Ch.alloc (Ch.alloc (Ch.alloc (Ch.alloc (Ch.alloc (Gr.refl w) _) _) _) _) _)
  have HSZ := hid (fun (pc : Int) (v : Value) => cC_size (pc := pc) (v := v) hr)
  have e1 : (o1 == 1) = true := by rw [ho]; rfl
  have HRR := hid hr
  clear ho h hu hg hk hI hB hlen hr
  go_enter Tryd.func16, Tryd.ntmps16
  go_upto_region 3 with (first
    | (refine wpList_load_row rfl 30 (.tmp 4) rfl (w.heap.size + 1) rfl _ _ _ _ V0.out.c Tryd.underlying30 rfl (ctx_size' (HSZ.out _ _)) ?_)
    | (go_at_call 28; refine (HA.out _ K0.out).mono ?_; rintro e w1 ⟨ao2, n2, cap2, rfl, o1', g1⟩; have OX := hid (show Ow eI 1 3 (w.heap.size + 5) w1 (.slice ao2 n2 cap2) ks from by simpa using o1'); have G1 := hid (Gr.trans K0.out g1); have V1 := hid (V0.out.gr g1); clear o1' g1)
    | (refine st_row rfl 30 (.tmp 4) (.tmp 13) rfl (w.heap.size + 1) _ rfl rfl _ _ V1.out.c (ctx_size' (HSZ.out _ _)) ((HSZ.out _ _).trans (HSZ.out _ _).symm) cC_one ?_; intro w2 b2 k2; have V2 := hid (V1.out.only k2 b2); have K2 := hid k2; have G2 := hid (show Gr w w2 from Ch.trans G1.out k2 (fun q e => .inr (by have e1 : q = w.heap.size + 1 := e; omega))); obtain ⟨m0, m1, m2, ml⟩ := p3_cells V2.out.p; have mc : w2.cell? ⟨w.heap.size + 1, 0, none⟩ = some (.int .i64 pc) := (cell_of V2.out.c 0).trans (cC_pc _ _ _); have mcl := lt_of_block V2.out.c; clear b2 k2)
    | (go_at_call 23; refine (HN.out _ G2.out).mono ?_; rintro e w3 ⟨rfl, g3⟩; have V3 := hid (V2.out.gr (Ch.alloc g3 (.cells #[.int .i64 o1, .int .i64 o2, .int .i64 o3, .int .i64 o4, .int .i64 im] 46))); have G3 := hid (show Gr w (w3.alloc (.cells #[.int .i64 o1, .int .i64 o2, .int .i64 o3, .int .i64 o4, .int .i64 im] 46)) from Ch.alloc (Gr.trans G2.out g3) _); have I3 := hid (MapKept.heap_alloc w3 (.cells #[.int .i64 o1, .int .i64 o2, .int .i64 o3, .int .i64 o4, .int .i64 im] 46)).1; have OW3 := hid (show Ow eI 1 3 (w.heap.size + 5) (w3.alloc (.cells #[.int .i64 o1, .int .i64 o2, .int .i64 o3, .int .i64 o4, .int .i64 im] 46)) (.slice ao2 n2 cap2) ks from ((OX.out.ch K2.out (fun q hq e => by have e1 : q = w.heap.size + 1 := e; have := (OX.out.blk hq).1; omega)).gr (Ch.alloc g3 _))); have S3 := hid (show w.heap.size + 5 ≤ w3.heap.size from Nat.lt_of_lt_of_le (lt_of_block V2.out.t) g3.size); clear g3))
  generalize w3.alloc (.cells #[.int .i64 o1, .int .i64 o2, .int .i64 o3, .int .i64 o4, .int .i64 im] 46) = W3 at V3 G3 I3 OW3 ⊢
  generalize w3.heap.size = tb at I3 S3 ⊢
  obtain ⟨q0, q1⟩ := hpc
  have q2 : pc ≤ 35184372088832 := by omega
  have O3 := hid (show Ow eI 1 3 (w.heap.size + 5) W3 (.slice ao2 n2 cap2) ks from OW3.out)
  clear m0 m1 m2 ml mc mcl
  obtain ⟨m0, m1, m2, ml⟩ := p3_cells V3.out.p
  have i0 : W3.cell? ⟨tb, 0, none⟩ = some (.int .i64 o1) := (cell_of I3.out 0).trans rfl
  have i1 : W3.cell? ⟨tb, 1, none⟩ = some (.int .i64 o2) := (cell_of I3.out 1).trans rfl
  have i2 : W3.cell? ⟨tb, 2, none⟩ = some (.int .i64 o3) := (cell_of I3.out 2).trans rfl
  have i3 : W3.cell? ⟨tb, 3, none⟩ = some (.int .i64 o4) := (cell_of I3.out 3).trans rfl
  have i4 : W3.cell? ⟨tb, 4, none⟩ = some (.int .i64 im) := (cell_of I3.out 4).trans rfl
  have il := lt_of_block I3.out
  go_upto_region 9 with (first
    | (refine wpList_load_row rfl 30 (.tmp 4) rfl (w.heap.size + 1) rfl _ _ _ _ V3.out.c Tryd.underlying30 rfl (ctx_size' (HSZ.out _ _)) ?_)
    | (go_at_call 30; refine (HT.out _ ao2 n2 cap2).mono ?_; rintro e w5 ⟨rfl, g5⟩; have V5 := hid (V3.out.gr g5); have G5 := hid (show Gr w w5 from Gr.trans G3.out g5); have I5 := hid (gr_blk I3.out g5); have O5 := hid (O3.out.gr g5); have c5 := (cell_of (gr_blk V3.out.c g5) 0).trans (cC_pc _ _ _); have z5 := frozen_of (gr_blk V3.out.c g5) 0; have l5 := lt_of_block (gr_blk V3.out.c g5); clear g5))
  have K6 := hid (show Ch (Only (w.heap.size + 1)) w5 (w5.setCell ⟨w.heap.size + 1, 0, none⟩ (.int .i64 (pc + 1))) from (Ch.refl _ _).own 0 _)
  have A6 := hid (show Gr (w5.setCell ⟨w.heap.size + 1, 0, none⟩ (.int .i64 (pc + 1))) ((w5.setCell ⟨w.heap.size + 1, 0, none⟩ (.int .i64 (pc + 1))).alloc (.cells #[.int .i64 0, .int .i64 0, .int .i64 0, .int .i64 0, .int .i64 0, .int .i64 0, .int .i64 0, .int .i64 0, .int .i64 0, .int .i64 0, .int .i64 0] 49)) from Ch.alloc (Gr.refl _) _)
  have V6 := hid ((V5.out.only K6.out (show (w5.setCell ⟨w.heap.size + 1, 0, none⟩ (.int .i64 (pc + 1))).heap[w.heap.size + 1]? = some (.cells (cC (pc + 1) r (.slice ao2 n2 cap2)) 30 (0, 0)) by rw [← cC_setpc pc]; exact setCell_block V5.out.c 0 (.int .i64 (pc + 1)))).gr A6.out)
  have I6 := hid (gr_blk ((K6.out.block _ (lt_of_block I5.out) (fun q => by have q1 : tb = w.heap.size + 1 := q; have := S3.out; omega)).trans I5.out) A6.out)
  have O6 := hid ((O5.out.ch K6.out (fun q hq e => by have e1 : q = w.heap.size + 1 := e; have := (O5.out.blk hq).1; omega)).gr A6.out)
  have G6 := hid (show Gr w ((w5.setCell ⟨w.heap.size + 1, 0, none⟩ (.int .i64 (pc + 1))).alloc (.cells #[.int .i64 0, .int .i64 0, .int .i64 0, .int .i64 0, .int .i64 0, .int .i64 0, .int .i64 0, .int .i64 0, .int .i64 0, .int .i64 0, .int .i64 0] 49)) from Gr.trans (Ch.fresh G5.out (by omega) 0 _) A6.out)
  clear i0 i1 i2 i3 i4 il m0 m1 m2 ml c5 z5 l5
  clear A6 K6
  generalize (w5.setCell ⟨w.heap.size + 1, 0, none⟩ (.int .i64 (pc + 1))).alloc (.cells #[.int .i64 0, .int .i64 0, .int .i64 0, .int .i64 0, .int .i64 0, .int .i64 0, .int .i64 0, .int .i64 0, .int .i64 0, .int .i64 0, .int .i64 0] 49) = W6 at V6 I6 O6 G6 ⊢
  have i0 : W6.cell? ⟨tb, 0, none⟩ = some (.int .i64 o1) := (cell_of I6.out 0).trans rfl
  have i1 : W6.cell? ⟨tb, 1, none⟩ = some (.int .i64 o2) := (cell_of I6.out 1).trans rfl
  have i2 : W6.cell? ⟨tb, 2, none⟩ = some (.int .i64 o3) := (cell_of I6.out 2).trans rfl
  have i3 : W6.cell? ⟨tb, 3, none⟩ = some (.int .i64 o4) := (cell_of I6.out 3).trans rfl
  have i4 : W6.cell? ⟨tb, 4, none⟩ = some (.int .i64 im) := (cell_of I6.out 4).trans rfl
  have il := lt_of_block I6.out
  go_wp2_with (first
    | (refine wpList_load_row rfl 30 (.tmp 4) rfl (w.heap.size + 1) rfl _ _ _ _ V6.out.c Tryd.underlying30 rfl (ctx_size' (HSZ.out _ _)) ?_)
    | (refine st_row rfl 30 (.tmp 6) (.tmp 110) rfl (w.heap.size + 3) _ rfl rfl _ _ V6.out.r (ctx_size' (HSZ.out _ _)) (HSZ.out _ _).symm cC_one ?_; intro w9 b9 k9; have R9 := hid b9; have K9 := hid k9; have T9 := hid ((k9.block _ (lt_of_block V6.out.t) (fun q => by have q1 : w.heap.size + 4 = w.heap.size + 3 := q; omega)).trans V6.out.t); clear b9 k9)
    | (refine st_row rfl 49 (.tmp 7) (.tmp 111) rfl (w.heap.size + 4) _ rfl rfl _ _ T9.out want_size rfl one11 ?_; intro w10 b10 k10; have T10 := hid b10; have K10 := hid k10; have R10 := hid ((k10.block _ (lt_of_block R9.out) (fun q => by have q1 : w.heap.size + 3 = w.heap.size + 4 := q; omega)).trans R9.out); clear b10 k10))
  refine bodyPost_ret (results_cell_cell rfl _ _ (w.heap.size + 3) (w.heap.size + 4) _ _ rfl (run_loadVar_row _ _ _ _ _ _ _ R10.out Tryd.underlying30 rfl (ctx_size' (HSZ.out _ _))) rfl (run_loadVar_row _ _ _ _ _ _ _ T10.out Tryd.underlying49 rfl want_size)) rfl ?_
  exact ⟨_, _, _, rfl, ((O6.out.ch K9.out (fun q hq e => by have e1 : q = w.heap.size + 3 := e; have := (O6.out.blk hq).1; omega)).ch K10.out (fun q hq e => by have e1 : q = w.heap.size + 4 := e; have := (O6.out.blk hq).1; omega)).lower (by omega), Ch.trans (Ch.trans G6.out K9.out (fun q e => .inr (by have e1 : q = w.heap.size + 3 := e; omega))) K10.out (fun q e => .inr (by have e1 : q = w.heap.size + 4 := e; omega))⟩
end Go.Proofs.YtcdlhfodeckleaaDoor.Lt

namespace Go.Proofs.YtcdlhfodeckleaaDoor.Lt
open Go.RowKit Wd

set_option maxHeartbeats 2000000 in
set_option maxRecDepth 20000 in
theorem pstep_now (P : Nat → Prop) (w : World) (aoc aof aot : Option Addr) (nc nf nt cac caf cat : Nat) (cs : List Int) (h : Ls eU P w (.slice aoc nc cac) cs) (hu : U32s cs) (hg : Glb w) (hcl : nc ≤ 35184372088832) (pc : Int) (r : List Int) (hr : r.length = 16) (ao : Option Addr) (n cap : Nat) (ks : List Int) (hk : Ls eI P w (.slice ao n cap) ks) (hn : n ≤ 17592186044416) (ck sl gn : Int)
    (o1 o3 o4 im : Int) (a : Nat) (la : a < 16) (x : Int) (hx : r[a]? = some x) (hI : nI cs pc = (o1, (a : Int), o3, o4, im)) (hB : nB cs pc = true) (ho : o1 = 26) :
    Calls Tryd.prog 16 #[.agg #[.slice aoc nc cac, .slice aof nf caf, .slice aot nt cat], .agg (cC pc r (.slice ao n cap)), .agg #[.int .u64 ck, .int .i64 sl, .int .i64 gn]] w (StR w (pc + 1) (r.set a (wrap64 ck)) ks #[.int .i64 0, .int .i64 0, .int .i64 0, .int .i64 0, .int .i64 0, .int .i64 0, .int .i64 0, .int .i64 0, .int .i64 0, .int .i64 0, .int .i64 0]) := by
  have hlen := h.len.1
  have hpc : 0 ≤ pc ∧ pc < (nc : Int) := by
    unfold nB at hB
    split at hB
    · rename_i q; rw [hlen]; exact q
    · cases hB
  have HA := hid (fun (W : World) (p : Gr w W) => apart_any P W pc r hr ao n cap ks (hk.gr p) hn)
  have HN := hid (fun (W : World) (p : Gr w W) => pnext9_any P W aoc aof aot nc nf nt cac caf cat cs (h.gr p) hu (hg.gr p) pc)
  rw [hI, hB] at HN
  unfold iV at HN
  simp only at HN
  have HT := hid (fun (W : World) (ao2 : Option Addr) (n2 cap2 : Nat) => traps_no W aoc aof aot nc nf nt cac caf cat pc r hr ao2 n2 cap2 o1 (a : Int) o3 o4 im (by omega) (by omega) (by omega) (by omega))
  have V0 := hid (vs_new w #[.slice aoc nc cac, .slice aof nf caf, .slice aot nt cat] (cC pc r (.slice ao n cap)) #[.int .u64 ck, .int .i64 sl, .int .i64 gn] #[.int .i64 0, .int .i64 0, .int .i64 0, .int .i64 0, .int .i64 0, .int .i64 0, .int .i64 0, .int .i64 0, .int .i64 0, .int .i64 0, .int .i64 0, .int .i64 0, .int .i64 0, .int .i64 0, .int .i64 0, .int .i64 0, .int .i64 0, .slice none 0 0] #[.int .i64 0, .int .i64 0, .int .i64 0, .int .i64 0, .int .i64 0, .int .i64 0, .int .i64 0, .int .i64 0, .int .i64 0, .int .i64 0, .int .i64 0])
  have K0 := hid (show Gr w (((((w.alloc (.cells #[.slice aoc nc cac, .slice aof nf caf, .slice aot nt cat] 26)).alloc (.cells (cC pc r (.slice ao n cap)) 30)).alloc (.cells #[.int .u64 ck, .int .i64 sl, .int .i64 gn] 44)).alloc (.cells #[.int .i64 0, .int .i64 0, .int .i64 0, .int .i64 0, .int .i64 0, .int .i64 0, .int .i64 0, .int .i64 0, .int .i64 0, .int .i64 0, .int .i64 0, .int .i64 0, .int .i64 0, .int .i64 0, .int .i64 0, .int .i64 0, .int .i64 0, .slice none 0 0] 30)).alloc (.cells #[.int .i64 0, .int .i64 0, .int .i64 0, .int .i64 0, .int .i64 0, .int .i64 0, .int .i64 0, .int .i64 0, .int .i64 0, .int .i64 0, .int .i64 0] 49)) from Ch.alloc (Ch.alloc (Ch.alloc (Ch.alloc (Ch.alloc (Gr.refl w) _) _) _) _) _)
  have HSZ := hid (fun (pc : Int) (v : Value) => cC_size (pc := pc) (v := v) hr)
  have e1 : (o1 == 1) = false := by rw [ho]; rfl
  have e25 : (o1 == 25) = false := by rw [ho]; rfl
  have e26 : (o1 == 26) = true := by rw [ho]; rfl
  have HX := hid hx
  have a0 : (0 : Int) ≤ (a : Int) := by omega
  have a1 : (a : Int) < 16 := by omega
  clear hx
  have HRR := hid hr
  clear ho h hu hg hk hI hB hlen hr
  go_enter Tryd.func16, Tryd.ntmps16
  go_upto_region 3 with (first
    | (refine wpList_load_row rfl 30 (.tmp 4) rfl (w.heap.size + 1) rfl _ _ _ _ V0.out.c Tryd.underlying30 rfl (ctx_size' (HSZ.out _ _)) ?_)
    | (go_at_call 28; refine (HA.out _ K0.out).mono ?_; rintro e w1 ⟨ao2, n2, cap2, rfl, o1', g1⟩; have OX := hid (show Ow eI 1 3 (w.heap.size + 5) w1 (.slice ao2 n2 cap2) ks from by simpa using o1'); have G1 := hid (Gr.trans K0.out g1); have V1 := hid (V0.out.gr g1); clear o1' g1)
    | (refine st_row rfl 30 (.tmp 4) (.tmp 13) rfl (w.heap.size + 1) _ rfl rfl _ _ V1.out.c (ctx_size' (HSZ.out _ _)) ((HSZ.out _ _).trans (HSZ.out _ _).symm) cC_one ?_; intro w2 b2 k2; have V2 := hid (V1.out.only k2 b2); have K2 := hid k2; have G2 := hid (show Gr w w2 from Ch.trans G1.out k2 (fun q e => .inr (by have e1 : q = w.heap.size + 1 := e; omega))); obtain ⟨m0, m1, m2, ml⟩ := p3_cells V2.out.p; have mc : w2.cell? ⟨w.heap.size + 1, 0, none⟩ = some (.int .i64 pc) := (cell_of V2.out.c 0).trans (cC_pc _ _ _); have mcl := lt_of_block V2.out.c; clear b2 k2)
    | (go_at_call 23; refine (HN.out _ G2.out).mono ?_; rintro e w3 ⟨rfl, g3⟩; have V3 := hid (V2.out.gr (Ch.alloc g3 (.cells #[.int .i64 o1, .int .i64 (a : Int), .int .i64 o3, .int .i64 o4, .int .i64 im] 46))); have G3 := hid (show Gr w (w3.alloc (.cells #[.int .i64 o1, .int .i64 (a : Int), .int .i64 o3, .int .i64 o4, .int .i64 im] 46)) from Ch.alloc (Gr.trans G2.out g3) _); have I3 := hid (MapKept.heap_alloc w3 (.cells #[.int .i64 o1, .int .i64 (a : Int), .int .i64 o3, .int .i64 o4, .int .i64 im] 46)).1; have OW3 := hid (show Ow eI 1 3 (w.heap.size + 5) (w3.alloc (.cells #[.int .i64 o1, .int .i64 (a : Int), .int .i64 o3, .int .i64 o4, .int .i64 im] 46)) (.slice ao2 n2 cap2) ks from ((OX.out.ch K2.out (fun q hq e => by have e1 : q = w.heap.size + 1 := e; have := (OX.out.blk hq).1; omega)).gr (Ch.alloc g3 _))); have S3 := hid (show w.heap.size + 5 ≤ w3.heap.size from Nat.lt_of_lt_of_le (lt_of_block V2.out.t) g3.size); clear g3))
  generalize w3.alloc (.cells #[.int .i64 o1, .int .i64 (a : Int), .int .i64 o3, .int .i64 o4, .int .i64 im] 46) = W3 at V3 G3 I3 OW3 ⊢
  generalize w3.heap.size = tb at I3 S3 ⊢
  obtain ⟨q0, q1⟩ := hpc
  have q2 : pc ≤ 35184372088832 := by omega
  have O3 := hid (show Ow eI 1 3 (w.heap.size + 5) W3 (.slice ao2 n2 cap2) ks from OW3.out)
  clear m0 m1 m2 ml mc mcl
  obtain ⟨m0, m1, m2, ml⟩ := p3_cells V3.out.p
  have i0 : W3.cell? ⟨tb, 0, none⟩ = some (.int .i64 o1) := (cell_of I3.out 0).trans rfl
  have i1 : W3.cell? ⟨tb, 1, none⟩ = some (.int .i64 (a : Int)) := (cell_of I3.out 1).trans rfl
  have i2 : W3.cell? ⟨tb, 2, none⟩ = some (.int .i64 o3) := (cell_of I3.out 2).trans rfl
  have i3 : W3.cell? ⟨tb, 3, none⟩ = some (.int .i64 o4) := (cell_of I3.out 3).trans rfl
  have i4 : W3.cell? ⟨tb, 4, none⟩ = some (.int .i64 im) := (cell_of I3.out 4).trans rfl
  have il := lt_of_block I3.out
  go_upto_region 9 with (first
    | (refine wpList_load_row rfl 30 (.tmp 4) rfl (w.heap.size + 1) rfl _ _ _ _ V3.out.c Tryd.underlying30 rfl (ctx_size' (HSZ.out _ _)) ?_)
    | (go_at_call 30; refine (HT.out _ ao2 n2 cap2).mono ?_; rintro e w5 ⟨rfl, g5⟩; have V5 := hid (V3.out.gr g5); have G5 := hid (show Gr w w5 from Gr.trans G3.out g5); have I5 := hid (gr_blk I3.out g5); have O5 := hid (O3.out.gr g5); have c5 := (cell_of (gr_blk V3.out.c g5) 0).trans (cC_pc _ _ _); have z5 := frozen_of (gr_blk V3.out.c g5) 0; have l5 := lt_of_block (gr_blk V3.out.c g5); clear g5))
  have K6 := hid (show Ch (Only (w.heap.size + 1)) w5 (w5.setCell ⟨w.heap.size + 1, 0, none⟩ (.int .i64 (pc + 1))) from (Ch.refl _ _).own 0 _)
  have A6 := hid (show Gr (w5.setCell ⟨w.heap.size + 1, 0, none⟩ (.int .i64 (pc + 1))) ((w5.setCell ⟨w.heap.size + 1, 0, none⟩ (.int .i64 (pc + 1))).alloc (.cells #[.int .i64 0, .int .i64 0, .int .i64 0, .int .i64 0, .int .i64 0, .int .i64 0, .int .i64 0, .int .i64 0, .int .i64 0, .int .i64 0, .int .i64 0] 49)) from Ch.alloc (Gr.refl _) _)
  have V6 := hid ((V5.out.only K6.out (show (w5.setCell ⟨w.heap.size + 1, 0, none⟩ (.int .i64 (pc + 1))).heap[w.heap.size + 1]? = some (.cells (cC (pc + 1) r (.slice ao2 n2 cap2)) 30 (0, 0)) by rw [← cC_setpc pc]; exact setCell_block V5.out.c 0 (.int .i64 (pc + 1)))).gr A6.out)
  have I6 := hid (gr_blk ((K6.out.block _ (lt_of_block I5.out) (fun q => by have q1 : tb = w.heap.size + 1 := q; have := S3.out; omega)).trans I5.out) A6.out)
  have O6 := hid ((O5.out.ch K6.out (fun q hq e => by have e1 : q = w.heap.size + 1 := e; have := (O5.out.blk hq).1; omega)).gr A6.out)
  have G6 := hid (show Gr w ((w5.setCell ⟨w.heap.size + 1, 0, none⟩ (.int .i64 (pc + 1))).alloc (.cells #[.int .i64 0, .int .i64 0, .int .i64 0, .int .i64 0, .int .i64 0, .int .i64 0, .int .i64 0, .int .i64 0, .int .i64 0, .int .i64 0, .int .i64 0] 49)) from Gr.trans (Ch.fresh G5.out (by omega) 0 _) A6.out)
  clear i0 i1 i2 i3 i4 il m0 m1 m2 ml c5 z5 l5
  clear A6 K6
  generalize (w5.setCell ⟨w.heap.size + 1, 0, none⟩ (.int .i64 (pc + 1))).alloc (.cells #[.int .i64 0, .int .i64 0, .int .i64 0, .int .i64 0, .int .i64 0, .int .i64 0, .int .i64 0, .int .i64 0, .int .i64 0, .int .i64 0, .int .i64 0] 49) = W6 at V6 I6 O6 G6 ⊢
  have i0 : W6.cell? ⟨tb, 0, none⟩ = some (.int .i64 o1) := (cell_of I6.out 0).trans rfl
  have i1 : W6.cell? ⟨tb, 1, none⟩ = some (.int .i64 (a : Int)) := (cell_of I6.out 1).trans rfl
  have i2 : W6.cell? ⟨tb, 2, none⟩ = some (.int .i64 o3) := (cell_of I6.out 2).trans rfl
  have i3 : W6.cell? ⟨tb, 3, none⟩ = some (.int .i64 o4) := (cell_of I6.out 3).trans rfl
  have i4 : W6.cell? ⟨tb, 4, none⟩ = some (.int .i64 im) := (cell_of I6.out 4).trans rfl
  have il := lt_of_block I6.out
  have B7 := V6.out.c |> hid
  have G7 := hid (Gr.refl W6)
  have e0 := (cell_of V6.out.e 0).trans (rfl : _ = some (Value.int .u64 ck))
  have el := lt_of_block V6.out.e
  have x9 := (cell_of V6.out.c (1 + a)).trans (cC_get HX.out)
  have z9 := frozen_of V6.out.c (1 + a)
  have xl := lt_of_block V6.out.c
  go_upto_region 28 with fail
  · skip
    have hb8 : (W6.setCell ⟨w.heap.size + 1, 1 + a, none⟩ (.int .i64 (wrap64 ck))).heap[w.heap.size + 1]? = some (.cells (cC (pc + 1) (r.set a (wrap64 ck)) (.slice ao2 n2 cap2)) 30 (0, 0)) := by rw [← cC_set (by rw [HRR.out]; exact la)]; exact setCell_block B7.out (1 + a) (.int .i64 (wrap64 ck))
    have hc8 : Ch (Only (w.heap.size + 1)) W6 (W6.setCell ⟨w.heap.size + 1, 1 + a, none⟩ (.int .i64 (wrap64 ck))) := Ch.own (Ch.any G7.out) (1 + a) (.int .i64 (wrap64 ck))
    have V8 := hid (V6.out.only hc8 hb8)
    have O8 := hid (O6.out.ch hc8 (fun q hq e => by have e1 : q = w.heap.size + 1 := e; have := (O6.out.blk hq).1; omega))
    have G8 := hid (show Gr w (W6.setCell ⟨w.heap.size + 1, 1 + a, none⟩ (.int .i64 (wrap64 ck))) from Ch.trans G6.out hc8 (fun q e => .inr (by have e1 : q = w.heap.size + 1 := e; omega)))
    have HSZ := hid (fun (pc : Int) (v : Value) => cC_size (pc := pc) (v := v) (show (r.set a (wrap64 ck)).length = 16 from (List.length_set).trans HRR.out))
    clear hb8 hc8
    generalize W6.setCell ⟨w.heap.size + 1, 1 + a, none⟩ (.int .i64 (wrap64 ck)) = W8 at V8 O8 G8 ⊢
    go_wp2_with (first
      | (refine wpList_load_row rfl 30 (.tmp 4) rfl (w.heap.size + 1) rfl _ _ _ _ V8.out.c Tryd.underlying30 rfl (ctx_size' (HSZ.out _ _)) ?_)
      | (refine st_row rfl 30 (.tmp 6) (.tmp 110) rfl (w.heap.size + 3) _ rfl rfl _ _ V8.out.r (ctx_size' (HSZ.out _ _)) (HSZ.out _ _).symm cC_one ?_; intro w9 b9 k9; have R9 := hid b9; have K9 := hid k9; have T9 := hid ((k9.block _ (lt_of_block V8.out.t) (fun q => by have q1 : w.heap.size + 4 = w.heap.size + 3 := q; omega)).trans V8.out.t); clear b9 k9)
      | (refine st_row rfl 49 (.tmp 7) (.tmp 111) rfl (w.heap.size + 4) _ rfl rfl _ _ T9.out want_size rfl one11 ?_; intro w10 b10 k10; have T10 := hid b10; have K10 := hid k10; have R10 := hid ((k10.block _ (lt_of_block R9.out) (fun q => by have q1 : w.heap.size + 3 = w.heap.size + 4 := q; omega)).trans R9.out); clear b10 k10))
    refine bodyPost_ret (results_cell_cell rfl _ _ (w.heap.size + 3) (w.heap.size + 4) _ _ rfl (run_loadVar_row _ _ _ _ _ _ _ R10.out Tryd.underlying30 rfl (ctx_size' (HSZ.out _ _))) rfl (run_loadVar_row _ _ _ _ _ _ _ T10.out Tryd.underlying49 rfl want_size)) rfl ?_
    exact ⟨_, _, _, rfl, ((O8.out.ch K9.out (fun q hq e => by have e1 : q = w.heap.size + 3 := e; have := (O8.out.blk hq).1; omega)).ch K10.out (fun q hq e => by have e1 : q = w.heap.size + 4 := e; have := (O8.out.blk hq).1; omega)).lower (by omega), Ch.trans (Ch.trans G8.out K9.out (fun q e => .inr (by have e1 : q = w.heap.size + 3 := e; omega))) K10.out (fun q e => .inr (by have e1 : q = w.heap.size + 4 := e; omega))⟩
end Go.Proofs.YtcdlhfodeckleaaDoor.Lt

namespace Go.Proofs.YtcdlhfodeckleaaDoor.Lt
open Go.RowKit Wd

set_option maxHeartbeats 2000000 in
set_option maxRecDepth 20000 in
theorem pstep_self (P : Nat → Prop) (w : World) (aoc aof aot : Option Addr) (nc nf nt cac caf cat : Nat) (cs : List Int) (h : Ls eU P w (.slice aoc nc cac) cs) (hu : U32s cs) (hg : Glb w) (hcl : nc ≤ 35184372088832) (pc : Int) (r : List Int) (hr : r.length = 16) (ao : Option Addr) (n cap : Nat) (ks : List Int) (hk : Ls eI P w (.slice ao n cap) ks) (hn : n ≤ 17592186044416) (ck sl gn : Int)
    (o1 o3 o4 im : Int) (a : Nat) (la : a < 16) (x : Int) (hx : r[a]? = some x) (hI : nI cs pc = (o1, (a : Int), o3, o4, im)) (hB : nB cs pc = true) (ho : o1 = 25) :
    Calls Tryd.prog 16 #[.agg #[.slice aoc nc cac, .slice aof nf caf, .slice aot nt cat], .agg (cC pc r (.slice ao n cap)), .agg #[.int .u64 ck, .int .i64 sl, .int .i64 gn]] w (StR w (pc + 1) (r.set a (hd sl gn)) ks #[.int .i64 0, .int .i64 0, .int .i64 0, .int .i64 0, .int .i64 0, .int .i64 0, .int .i64 0, .int .i64 0, .int .i64 0, .int .i64 0, .int .i64 0]) := by
  have hlen := h.len.1
  have hpc : 0 ≤ pc ∧ pc < (nc : Int) := by
    unfold nB at hB
    split at hB
    · rename_i q; rw [hlen]; exact q
    · cases hB
  have HA := hid (fun (W : World) (p : Gr w W) => apart_any P W pc r hr ao n cap ks (hk.gr p) hn)
  have HN := hid (fun (W : World) (p : Gr w W) => pnext9_any P W aoc aof aot nc nf nt cac caf cat cs (h.gr p) hu (hg.gr p) pc)
  rw [hI, hB] at HN
  unfold iV at HN
  simp only at HN
  have HT := hid (fun (W : World) (ao2 : Option Addr) (n2 cap2 : Nat) => traps_no W aoc aof aot nc nf nt cac caf cat pc r hr ao2 n2 cap2 o1 (a : Int) o3 o4 im (by omega) (by omega) (by omega) (by omega))
  have V0 := hid (vs_new w #[.slice aoc nc cac, .slice aof nf caf, .slice aot nt cat] (cC pc r (.slice ao n cap)) #[.int .u64 ck, .int .i64 sl, .int .i64 gn] #[.int .i64 0, .int .i64 0, .int .i64 0, .int .i64 0, .int .i64 0, .int .i64 0, .int .i64 0, .int .i64 0, .int .i64 0, .int .i64 0, .int .i64 0, .int .i64 0, .int .i64 0, .int .i64 0, .int .i64 0, .int .i64 0, .int .i64 0, .slice none 0 0] #[.int .i64 0, .int .i64 0, .int .i64 0, .int .i64 0, .int .i64 0, .int .i64 0, .int .i64 0, .int .i64 0, .int .i64 0, .int .i64 0, .int .i64 0])
  have K0 := hid (show Gr w (((((w.alloc (.cells #[.slice aoc nc cac, .slice aof nf caf, .slice aot nt cat] 26)).alloc (.cells (cC pc r (.slice ao n cap)) 30)).alloc (.cells #[.int .u64 ck, .int .i64 sl, .int .i64 gn] 44)).alloc (.cells #[.int .i64 0, .int .i64 0, .int .i64 0, .int .i64 0, .int .i64 0, .int .i64 0, .int .i64 0, .int .i64 0, .int .i64 0, .int .i64 0, .int .i64 0, .int .i64 0, .int .i64 0, .int .i64 0, .int .i64 0, .int .i64 0, .int .i64 0, .slice none 0 0] 30)).alloc (.cells #[.int .i64 0, .int .i64 0, .int .i64 0, .int .i64 0, .int .i64 0, .int .i64 0, .int .i64 0, .int .i64 0, .int .i64 0, .int .i64 0, .int .i64 0] 49)) from Ch.alloc (Ch.alloc (Ch.alloc (Ch.alloc (Ch.alloc (Gr.refl w) _) _) _) _) _)
  have HSZ := hid (fun (pc : Int) (v : Value) => cC_size (pc := pc) (v := v) hr)
  have e1 : (o1 == 1) = false := by rw [ho]; rfl
  have e25 : (o1 == 25) = true := by rw [ho]; rfl
  have HX := hid hx
  have a0 : (0 : Int) ≤ (a : Int) := by omega
  have a1 : (a : Int) < 16 := by omega
  clear hx
  have HRR := hid hr
  clear ho h hu hg hk hI hB hlen hr
  go_enter Tryd.func16, Tryd.ntmps16
  go_upto_region 3 with (first
    | (refine wpList_load_row rfl 30 (.tmp 4) rfl (w.heap.size + 1) rfl _ _ _ _ V0.out.c Tryd.underlying30 rfl (ctx_size' (HSZ.out _ _)) ?_)
    | (go_at_call 28; refine (HA.out _ K0.out).mono ?_; rintro e w1 ⟨ao2, n2, cap2, rfl, o1', g1⟩; have OX := hid (show Ow eI 1 3 (w.heap.size + 5) w1 (.slice ao2 n2 cap2) ks from by simpa using o1'); have G1 := hid (Gr.trans K0.out g1); have V1 := hid (V0.out.gr g1); clear o1' g1)
    | (refine st_row rfl 30 (.tmp 4) (.tmp 13) rfl (w.heap.size + 1) _ rfl rfl _ _ V1.out.c (ctx_size' (HSZ.out _ _)) ((HSZ.out _ _).trans (HSZ.out _ _).symm) cC_one ?_; intro w2 b2 k2; have V2 := hid (V1.out.only k2 b2); have K2 := hid k2; have G2 := hid (show Gr w w2 from Ch.trans G1.out k2 (fun q e => .inr (by have e1 : q = w.heap.size + 1 := e; omega))); obtain ⟨m0, m1, m2, ml⟩ := p3_cells V2.out.p; have mc : w2.cell? ⟨w.heap.size + 1, 0, none⟩ = some (.int .i64 pc) := (cell_of V2.out.c 0).trans (cC_pc _ _ _); have mcl := lt_of_block V2.out.c; clear b2 k2)
    | (go_at_call 23; refine (HN.out _ G2.out).mono ?_; rintro e w3 ⟨rfl, g3⟩; have V3 := hid (V2.out.gr (Ch.alloc g3 (.cells #[.int .i64 o1, .int .i64 (a : Int), .int .i64 o3, .int .i64 o4, .int .i64 im] 46))); have G3 := hid (show Gr w (w3.alloc (.cells #[.int .i64 o1, .int .i64 (a : Int), .int .i64 o3, .int .i64 o4, .int .i64 im] 46)) from Ch.alloc (Gr.trans G2.out g3) _); have I3 := hid (MapKept.heap_alloc w3 (.cells #[.int .i64 o1, .int .i64 (a : Int), .int .i64 o3, .int .i64 o4, .int .i64 im] 46)).1; have OW3 := hid (show Ow eI 1 3 (w.heap.size + 5) (w3.alloc (.cells #[.int .i64 o1, .int .i64 (a : Int), .int .i64 o3, .int .i64 o4, .int .i64 im] 46)) (.slice ao2 n2 cap2) ks from ((OX.out.ch K2.out (fun q hq e => by have e1 : q = w.heap.size + 1 := e; have := (OX.out.blk hq).1; omega)).gr (Ch.alloc g3 _))); have S3 := hid (show w.heap.size + 5 ≤ w3.heap.size from Nat.lt_of_lt_of_le (lt_of_block V2.out.t) g3.size); clear g3))
  generalize w3.alloc (.cells #[.int .i64 o1, .int .i64 (a : Int), .int .i64 o3, .int .i64 o4, .int .i64 im] 46) = W3 at V3 G3 I3 OW3 ⊢
  generalize w3.heap.size = tb at I3 S3 ⊢
  obtain ⟨q0, q1⟩ := hpc
  have q2 : pc ≤ 35184372088832 := by omega
  have O3 := hid (show Ow eI 1 3 (w.heap.size + 5) W3 (.slice ao2 n2 cap2) ks from OW3.out)
  clear m0 m1 m2 ml mc mcl
  obtain ⟨m0, m1, m2, ml⟩ := p3_cells V3.out.p
  have i0 : W3.cell? ⟨tb, 0, none⟩ = some (.int .i64 o1) := (cell_of I3.out 0).trans rfl
  have i1 : W3.cell? ⟨tb, 1, none⟩ = some (.int .i64 (a : Int)) := (cell_of I3.out 1).trans rfl
  have i2 : W3.cell? ⟨tb, 2, none⟩ = some (.int .i64 o3) := (cell_of I3.out 2).trans rfl
  have i3 : W3.cell? ⟨tb, 3, none⟩ = some (.int .i64 o4) := (cell_of I3.out 3).trans rfl
  have i4 : W3.cell? ⟨tb, 4, none⟩ = some (.int .i64 im) := (cell_of I3.out 4).trans rfl
  have il := lt_of_block I3.out
  go_upto_region 9 with (first
    | (refine wpList_load_row rfl 30 (.tmp 4) rfl (w.heap.size + 1) rfl _ _ _ _ V3.out.c Tryd.underlying30 rfl (ctx_size' (HSZ.out _ _)) ?_)
    | (go_at_call 30; refine (HT.out _ ao2 n2 cap2).mono ?_; rintro e w5 ⟨rfl, g5⟩; have V5 := hid (V3.out.gr g5); have G5 := hid (show Gr w w5 from Gr.trans G3.out g5); have I5 := hid (gr_blk I3.out g5); have O5 := hid (O3.out.gr g5); have c5 := (cell_of (gr_blk V3.out.c g5) 0).trans (cC_pc _ _ _); have z5 := frozen_of (gr_blk V3.out.c g5) 0; have l5 := lt_of_block (gr_blk V3.out.c g5); clear g5))
  have K6 := hid (show Ch (Only (w.heap.size + 1)) w5 (w5.setCell ⟨w.heap.size + 1, 0, none⟩ (.int .i64 (pc + 1))) from (Ch.refl _ _).own 0 _)
  have A6 := hid (show Gr (w5.setCell ⟨w.heap.size + 1, 0, none⟩ (.int .i64 (pc + 1))) ((w5.setCell ⟨w.heap.size + 1, 0, none⟩ (.int .i64 (pc + 1))).alloc (.cells #[.int .i64 0, .int .i64 0, .int .i64 0, .int .i64 0, .int .i64 0, .int .i64 0, .int .i64 0, .int .i64 0, .int .i64 0, .int .i64 0, .int .i64 0] 49)) from Ch.alloc (Gr.refl _) _)
  have V6 := hid ((V5.out.only K6.out (show (w5.setCell ⟨w.heap.size + 1, 0, none⟩ (.int .i64 (pc + 1))).heap[w.heap.size + 1]? = some (.cells (cC (pc + 1) r (.slice ao2 n2 cap2)) 30 (0, 0)) by rw [← cC_setpc pc]; exact setCell_block V5.out.c 0 (.int .i64 (pc + 1)))).gr A6.out)
  have I6 := hid (gr_blk ((K6.out.block _ (lt_of_block I5.out) (fun q => by have q1 : tb = w.heap.size + 1 := q; have := S3.out; omega)).trans I5.out) A6.out)
  have O6 := hid ((O5.out.ch K6.out (fun q hq e => by have e1 : q = w.heap.size + 1 := e; have := (O5.out.blk hq).1; omega)).gr A6.out)
  have G6 := hid (show Gr w ((w5.setCell ⟨w.heap.size + 1, 0, none⟩ (.int .i64 (pc + 1))).alloc (.cells #[.int .i64 0, .int .i64 0, .int .i64 0, .int .i64 0, .int .i64 0, .int .i64 0, .int .i64 0, .int .i64 0, .int .i64 0, .int .i64 0, .int .i64 0] 49)) from Gr.trans (Ch.fresh G5.out (by omega) 0 _) A6.out)
  clear i0 i1 i2 i3 i4 il m0 m1 m2 ml c5 z5 l5
  clear A6 K6
  generalize (w5.setCell ⟨w.heap.size + 1, 0, none⟩ (.int .i64 (pc + 1))).alloc (.cells #[.int .i64 0, .int .i64 0, .int .i64 0, .int .i64 0, .int .i64 0, .int .i64 0, .int .i64 0, .int .i64 0, .int .i64 0, .int .i64 0, .int .i64 0] 49) = W6 at V6 I6 O6 G6 ⊢
  have i0 : W6.cell? ⟨tb, 0, none⟩ = some (.int .i64 o1) := (cell_of I6.out 0).trans rfl
  have i1 : W6.cell? ⟨tb, 1, none⟩ = some (.int .i64 (a : Int)) := (cell_of I6.out 1).trans rfl
  have i2 : W6.cell? ⟨tb, 2, none⟩ = some (.int .i64 o3) := (cell_of I6.out 2).trans rfl
  have i3 : W6.cell? ⟨tb, 3, none⟩ = some (.int .i64 o4) := (cell_of I6.out 3).trans rfl
  have i4 : W6.cell? ⟨tb, 4, none⟩ = some (.int .i64 im) := (cell_of I6.out 4).trans rfl
  have il := lt_of_block I6.out
  have e1 := (cell_of V6.out.e 1).trans (rfl : _ = some (Value.int .i64 sl))
  have e2 := (cell_of V6.out.e 2).trans (rfl : _ = some (Value.int .i64 gn))
  have el := lt_of_block V6.out.e
  have HHD := hid (fun (W : World) => phandle_any sl gn W)
  go_upto_region 15 with fail
  go_region_with (go_at_call 31; refine (HHD.out _).mono ?_; rintro e w7 ⟨rfl, g7⟩; have G7 := hid (show Gr W6 w7 from Gr.trans (by first | exact Gr.refl _ | exact Ch.drew (Gr.refl _)) g7); have b7 := gr_blk V6.out.c G7.out; have B7 := hid b7; have j1 := (cell_of (gr_blk I6.out G7.out) 1).trans (rfl : _ = some (Value.int .i64 (a : Int))); have jl := lt_of_block (gr_blk I6.out G7.out); have y7 := (cell_of b7 (1 + a)).trans (cC_get HX.out); have z7 := frozen_of b7 (1 + a); have l7 := lt_of_block b7; clear g7 b7)
  all_goals
    have hb8 : (w7.setCell ⟨w.heap.size + 1, 1 + a, none⟩ (.int .i64 (hd sl gn))).heap[w.heap.size + 1]? = some (.cells (cC (pc + 1) (r.set a (hd sl gn)) (.slice ao2 n2 cap2)) 30 (0, 0)) := by rw [← cC_set (by rw [HRR.out]; exact la)]; exact setCell_block B7.out (1 + a) (.int .i64 (hd sl gn))
    have hc8 : Ch (Only (w.heap.size + 1)) W6 (w7.setCell ⟨w.heap.size + 1, 1 + a, none⟩ (.int .i64 (hd sl gn))) := Ch.own (Ch.any G7.out) (1 + a) (.int .i64 (hd sl gn))
    have V8 := hid (V6.out.only hc8 hb8)
    have O8 := hid (O6.out.ch hc8 (fun q hq e => by have e1 : q = w.heap.size + 1 := e; have := (O6.out.blk hq).1; omega))
    have G8 := hid (show Gr w (w7.setCell ⟨w.heap.size + 1, 1 + a, none⟩ (.int .i64 (hd sl gn))) from Ch.trans G6.out hc8 (fun q e => .inr (by have e1 : q = w.heap.size + 1 := e; omega)))
    have HSZ := hid (fun (pc : Int) (v : Value) => cC_size (pc := pc) (v := v) (show (r.set a (hd sl gn)).length = 16 from (List.length_set).trans HRR.out))
    clear hb8 hc8
    generalize w7.setCell ⟨w.heap.size + 1, 1 + a, none⟩ (.int .i64 (hd sl gn)) = W8 at V8 O8 G8 ⊢
    clear j1 jl y7 z7 l7
    go_wp2_with (first
      | (refine wpList_load_row rfl 30 (.tmp 4) rfl (w.heap.size + 1) rfl _ _ _ _ V8.out.c Tryd.underlying30 rfl (ctx_size' (HSZ.out _ _)) ?_)
      | (refine st_row rfl 30 (.tmp 6) (.tmp 110) rfl (w.heap.size + 3) _ rfl rfl _ _ V8.out.r (ctx_size' (HSZ.out _ _)) (HSZ.out _ _).symm cC_one ?_; intro w9 b9 k9; have R9 := hid b9; have K9 := hid k9; have T9 := hid ((k9.block _ (lt_of_block V8.out.t) (fun q => by have q1 : w.heap.size + 4 = w.heap.size + 3 := q; omega)).trans V8.out.t); clear b9 k9)
      | (refine st_row rfl 49 (.tmp 7) (.tmp 111) rfl (w.heap.size + 4) _ rfl rfl _ _ T9.out want_size rfl one11 ?_; intro w10 b10 k10; have T10 := hid b10; have K10 := hid k10; have R10 := hid ((k10.block _ (lt_of_block R9.out) (fun q => by have q1 : w.heap.size + 3 = w.heap.size + 4 := q; omega)).trans R9.out); clear b10 k10))
    refine bodyPost_ret (results_cell_cell rfl _ _ (w.heap.size + 3) (w.heap.size + 4) _ _ rfl (run_loadVar_row _ _ _ _ _ _ _ R10.out Tryd.underlying30 rfl (ctx_size' (HSZ.out _ _))) rfl (run_loadVar_row _ _ _ _ _ _ _ T10.out Tryd.underlying49 rfl want_size)) rfl ?_
    exact ⟨_, _, _, rfl, ((O8.out.ch K9.out (fun q hq e => by have e1 : q = w.heap.size + 3 := e; have := (O8.out.blk hq).1; omega)).ch K10.out (fun q hq e => by have e1 : q = w.heap.size + 4 := e; have := (O8.out.blk hq).1; omega)).lower (by omega), Ch.trans (Ch.trans G8.out K9.out (fun q e => .inr (by have e1 : q = w.heap.size + 3 := e; omega))) K10.out (fun q e => .inr (by have e1 : q = w.heap.size + 4 := e; omega))⟩
end Go.Proofs.YtcdlhfodeckleaaDoor.Lt

namespace Go.Proofs.YtcdlhfodeckleaaDoor.Lt
open Go.RowKit Wd

/-- the variables of Step behind its instruction -/
structure Sy (w : World) (tb : Nat) (X I : Array Value) (ks : List Int) (ao : Option Addr) (n cap : Nat) (W : World) : Prop where
  g : Gr w W
  c : W.heap[w.heap.size + 1]? = some (.cells X 30 (0, 0))
  i : W.heap[tb]? = some (.cells I 46 (0, 0))
  r : ∃ old, W.heap[w.heap.size + 3]? = some (.cells old 30 (0, 0)) ∧ old.size = 18
  t : ∃ old, W.heap[w.heap.size + 4]? = some (.cells old 49 (0, 0)) ∧ old.size = 11
  o : Ow eI 1 3 (w.heap.size + 5) W (.slice ao n cap) ks
  z : w.heap.size + 5 ≤ tb
section
variable {w : World} {tb : Nat} {X I : Array Value} {ks : List Int} {ao : Option Addr} {n cap : Nat} {W W' : World}
theorem Sy.gr (h : Sy w tb X I ks ao n cap W) (g : Gr W W') : Sy w tb X I ks ao n cap W' := by
  obtain ⟨o1, h1, h2⟩ := h.r
  obtain ⟨o2, h3, h4⟩ := h.t
  exact ⟨Gr.trans h.g g, gr_blk h.c g, gr_blk h.i g, ⟨o1, gr_blk h1 g, h2⟩, ⟨o2, gr_blk h3 g, h4⟩, h.o.gr g, h.z⟩
theorem Sy.str (h : Sy w tb X I ks ao n cap W) {c : Array Value} (k : Ch (Only (w.heap.size + 3)) W W') (hc : W'.heap[w.heap.size + 3]? = some (.cells c 30 (0, 0))) (hs : c.size = 18) : Sy w tb X I ks ao n cap W' := by
  obtain ⟨o2, h3, h4⟩ := h.t
  have hz := h.z
  have hn : ∀ q, q ≠ w.heap.size + 3 → ¬ Only (w.heap.size + 3) q := fun q a b => a b
  exact ⟨Ch.trans h.g k (fun q e => .inr (by have e1 : q = w.heap.size + 3 := e; omega)), (k.block _ (lt_of_block h.c) (hn _ (by omega))).trans h.c, (k.block _ (lt_of_block h.i) (hn _ (by omega))).trans h.i, ⟨c, hc, hs⟩, ⟨o2, (k.block _ (lt_of_block h3) (hn _ (by omega))).trans h3, h4⟩, h.o.ch k (fun q hq e => by have e1 : q = w.heap.size + 3 := e; have := (h.o.blk hq).1; omega), h.z⟩
theorem Sy.stt (h : Sy w tb X I ks ao n cap W) {c : Array Value} (k : Ch (Only (w.heap.size + 4)) W W') (hc : W'.heap[w.heap.size + 4]? = some (.cells c 49 (0, 0))) (hs : c.size = 11) : Sy w tb X I ks ao n cap W' := by
  obtain ⟨o2, h3, h4⟩ := h.r
  have hz := h.z
  have hn : ∀ q, q ≠ w.heap.size + 4 → ¬ Only (w.heap.size + 4) q := fun q a b => a b
  exact ⟨Ch.trans h.g k (fun q e => .inr (by have e1 : q = w.heap.size + 4 := e; omega)), (k.block _ (lt_of_block h.c) (hn _ (by omega))).trans h.c, (k.block _ (lt_of_block h.i) (hn _ (by omega))).trans h.i, ⟨o2, (k.block _ (lt_of_block h3) (hn _ (by omega))).trans h3, h4⟩, ⟨c, hc, hs⟩, h.o.ch k (fun q hq e => by have e1 : q = w.heap.size + 4 := e; have := (h.o.blk hq).1; omega), h.z⟩
end
set_option maxHeartbeats 2000000 in
set_option maxRecDepth 20000 in
theorem pstep_asks (P : Nat → Prop) (w : World) (aoc aof aot : Option Addr) (nc nf nt cac caf cat : Nat) (cs : List Int) (h : Ls eU P w (.slice aoc nc cac) cs) (hu : U32s cs) (hg : Glb w) (hcl : nc ≤ 35184372088832) (pc : Int) (r : List Int) (hr : r.length = 16) (ao : Option Addr) (n cap : Nat) (ks : List Int) (hk : Ls eI P w (.slice ao n cap) ks) (hn : n ≤ 17592186044416) (ck sl gn : Int)
    (o1 im : Int) (a b c : Nat) (la : a < 16) (lb : b < 16) (lc : c < 16) (x y z : Int) (hx : r[a]? = some x) (hy : r[b]? = some y) (hz : r[c]? = some z) (hI : nI cs pc = (o1, (a : Int), (b : Int), (c : Int), im)) (hB : nB cs pc = true) (ho : o1 = 22 ∨ (27 ≤ o1 ∧ o1 ≤ 57)) :
    Calls Tryd.prog 16 #[.agg #[.slice aoc nc cac, .slice aof nf caf, .slice aot nt cat], .agg (cC pc r (.slice ao n cap)), .agg #[.int .u64 ck, .int .i64 sl, .int .i64 gn]] w (StR w (pc + 1) r ks (wt o1 o1 (a : Int) (b : Int) (c : Int) im x y z 0 0)) := by
  have hlen := h.len.1
  have hpc : 0 ≤ pc ∧ pc < (nc : Int) := by
    unfold nB at hB
    split at hB
    · rename_i q; rw [hlen]; exact q
    · cases hB
  have HA := hid (fun (W : World) (p : Gr w W) => apart_any P W pc r hr ao n cap ks (hk.gr p) hn)
  have HN := hid (fun (W : World) (p : Gr w W) => pnext9_any P W aoc aof aot nc nf nt cac caf cat cs (h.gr p) hu (hg.gr p) pc)
  rw [hI, hB] at HN
  unfold iV at HN
  simp only at HN
  have HT := hid (fun (W : World) (ao2 : Option Addr) (n2 cap2 : Nat) => traps_no W aoc aof aot nc nf nt cac caf cat pc r hr ao2 n2 cap2 o1 (a : Int) (b : Int) (c : Int) im (by omega) (by omega) (by omega) (by omega))
  have V0 := hid (vs_new w #[.slice aoc nc cac, .slice aof nf caf, .slice aot nt cat] (cC pc r (.slice ao n cap)) #[.int .u64 ck, .int .i64 sl, .int .i64 gn] #[.int .i64 0, .int .i64 0, .int .i64 0, .int .i64 0, .int .i64 0, .int .i64 0, .int .i64 0, .int .i64 0, .int .i64 0, .int .i64 0, .int .i64 0, .int .i64 0, .int .i64 0, .int .i64 0, .int .i64 0, .int .i64 0, .int .i64 0, .slice none 0 0] #[.int .i64 0, .int .i64 0, .int .i64 0, .int .i64 0, .int .i64 0, .int .i64 0, .int .i64 0, .int .i64 0, .int .i64 0, .int .i64 0, .int .i64 0])
  have K0 := hid (show Gr w (((((w.alloc (.cells #[.slice aoc nc cac, .slice aof nf caf, .slice aot nt cat] 26)).alloc (.cells (cC pc r (.slice ao n cap)) 30)).alloc (.cells #[.int .u64 ck, .int .i64 sl, .int .i64 gn] 44)).alloc (.cells #[.int .i64 0, .int .i64 0, .int .i64 0, .int .i64 0, .int .i64 0, .int .i64 0, .int .i64 0, .int .i64 0, .int .i64 0, .int .i64 0, .int .i64 0, .int .i64 0, .int .i64 0, .int .i64 0, .int .i64 0, .int .i64 0, .int .i64 0, .slice none 0 0] 30)).alloc (.cells #[.int .i64 0, .int .i64 0, .int .i64 0, .int .i64 0, .int .i64 0, .int .i64 0, .int .i64 0, .int .i64 0, .int .i64 0, .int .i64 0, .int .i64 0] 49)) from Ch.alloc (Ch.alloc (Ch.alloc (Ch.alloc (Ch.alloc (Gr.refl w) _) _) _) _) _)
  have HSZ := hid (fun (pc : Int) (v : Value) => cC_size (pc := pc) (v := v) hr)
  have e1 : (o1 == 1) = false := by simp; omega
  have e25 : (o1 == 25) = false := by simp; omega
  have e26 : (o1 == 26) = false := by simp; omega
  have e17 : (o1 == 17) = false := by simp; omega
  have e18 : (o1 == 18) = false := by simp; omega
  have e19 : (o1 == 19) = false := by simp; omega
  have e20 : (o1 == 20) = false := by simp; omega
  have e21 : (o1 == 21) = false := by simp; omega
  have HX := hid hx
  have HY := hid hy
  have HZ := hid hz
  have a0 : (0 : Int) ≤ (a : Int) := by omega
  have a1 : (a : Int) < 16 := by omega
  clear hx hy hz
  have HHO := hid ho
  have HNR := hid (show (decide (2 ≤ o1) && decide (o1 ≤ 16)) = false from by rw [Bool.and_eq_false_iff]; right; exact decide_eq_false (by omega))
  have HRR := hid hr
  clear ho h hu hg hk hI hB hlen hr
  go_enter Tryd.func16, Tryd.ntmps16
  go_upto_region 3 with (first
    | (refine wpList_load_row rfl 30 (.tmp 4) rfl (w.heap.size + 1) rfl _ _ _ _ V0.out.c Tryd.underlying30 rfl (ctx_size' (HSZ.out _ _)) ?_)
    | (go_at_call 28; refine (HA.out _ K0.out).mono ?_; rintro e w1 ⟨ao2, n2, cap2, rfl, o1', g1⟩; have OX := hid (show Ow eI 1 3 (w.heap.size + 5) w1 (.slice ao2 n2 cap2) ks from by simpa using o1'); have G1 := hid (Gr.trans K0.out g1); have V1 := hid (V0.out.gr g1); clear o1' g1)
    | (refine st_row rfl 30 (.tmp 4) (.tmp 13) rfl (w.heap.size + 1) _ rfl rfl _ _ V1.out.c (ctx_size' (HSZ.out _ _)) ((HSZ.out _ _).trans (HSZ.out _ _).symm) cC_one ?_; intro w2 b2 k2; have V2 := hid (V1.out.only k2 b2); have K2 := hid k2; have G2 := hid (show Gr w w2 from Ch.trans G1.out k2 (fun q e => .inr (by have e1 : q = w.heap.size + 1 := e; omega))); obtain ⟨m0, m1, m2, ml⟩ := p3_cells V2.out.p; have mc : w2.cell? ⟨w.heap.size + 1, 0, none⟩ = some (.int .i64 pc) := (cell_of V2.out.c 0).trans (cC_pc _ _ _); have mcl := lt_of_block V2.out.c; clear b2 k2)
    | (go_at_call 23; refine (HN.out _ G2.out).mono ?_; rintro e w3 ⟨rfl, g3⟩; have V3 := hid (V2.out.gr (Ch.alloc g3 (.cells #[.int .i64 o1, .int .i64 (a : Int), .int .i64 (b : Int), .int .i64 (c : Int), .int .i64 im] 46))); have G3 := hid (show Gr w (w3.alloc (.cells #[.int .i64 o1, .int .i64 (a : Int), .int .i64 (b : Int), .int .i64 (c : Int), .int .i64 im] 46)) from Ch.alloc (Gr.trans G2.out g3) _); have I3 := hid (MapKept.heap_alloc w3 (.cells #[.int .i64 o1, .int .i64 (a : Int), .int .i64 (b : Int), .int .i64 (c : Int), .int .i64 im] 46)).1; have OW3 := hid (show Ow eI 1 3 (w.heap.size + 5) (w3.alloc (.cells #[.int .i64 o1, .int .i64 (a : Int), .int .i64 (b : Int), .int .i64 (c : Int), .int .i64 im] 46)) (.slice ao2 n2 cap2) ks from ((OX.out.ch K2.out (fun q hq e => by have e1 : q = w.heap.size + 1 := e; have := (OX.out.blk hq).1; omega)).gr (Ch.alloc g3 _))); have S3 := hid (show w.heap.size + 5 ≤ w3.heap.size from Nat.lt_of_lt_of_le (lt_of_block V2.out.t) g3.size); clear g3))
  generalize w3.alloc (.cells #[.int .i64 o1, .int .i64 (a : Int), .int .i64 (b : Int), .int .i64 (c : Int), .int .i64 im] 46) = W3 at V3 G3 I3 OW3 ⊢
  generalize w3.heap.size = tb at I3 S3 ⊢
  obtain ⟨q0, q1⟩ := hpc
  have q2 : pc ≤ 35184372088832 := by omega
  have O3 := hid (show Ow eI 1 3 (w.heap.size + 5) W3 (.slice ao2 n2 cap2) ks from OW3.out)
  clear m0 m1 m2 ml mc mcl
  obtain ⟨m0, m1, m2, ml⟩ := p3_cells V3.out.p
  have i0 : W3.cell? ⟨tb, 0, none⟩ = some (.int .i64 o1) := (cell_of I3.out 0).trans rfl
  have i1 : W3.cell? ⟨tb, 1, none⟩ = some (.int .i64 (a : Int)) := (cell_of I3.out 1).trans rfl
  have i2 : W3.cell? ⟨tb, 2, none⟩ = some (.int .i64 (b : Int)) := (cell_of I3.out 2).trans rfl
  have i3 : W3.cell? ⟨tb, 3, none⟩ = some (.int .i64 (c : Int)) := (cell_of I3.out 3).trans rfl
  have i4 : W3.cell? ⟨tb, 4, none⟩ = some (.int .i64 im) := (cell_of I3.out 4).trans rfl
  have il := lt_of_block I3.out
  go_upto_region 9 with (first
    | (refine wpList_load_row rfl 30 (.tmp 4) rfl (w.heap.size + 1) rfl _ _ _ _ V3.out.c Tryd.underlying30 rfl (ctx_size' (HSZ.out _ _)) ?_)
    | (go_at_call 30; refine (HT.out _ ao2 n2 cap2).mono ?_; rintro e w5 ⟨rfl, g5⟩; have V5 := hid (V3.out.gr g5); have G5 := hid (show Gr w w5 from Gr.trans G3.out g5); have I5 := hid (gr_blk I3.out g5); have O5 := hid (O3.out.gr g5); have c5 := (cell_of (gr_blk V3.out.c g5) 0).trans (cC_pc _ _ _); have z5 := frozen_of (gr_blk V3.out.c g5) 0; have l5 := lt_of_block (gr_blk V3.out.c g5); clear g5))
  have K6 := hid (show Ch (Only (w.heap.size + 1)) w5 (w5.setCell ⟨w.heap.size + 1, 0, none⟩ (.int .i64 (pc + 1))) from (Ch.refl _ _).own 0 _)
  have A6 := hid (show Gr (w5.setCell ⟨w.heap.size + 1, 0, none⟩ (.int .i64 (pc + 1))) ((w5.setCell ⟨w.heap.size + 1, 0, none⟩ (.int .i64 (pc + 1))).alloc (.cells #[.int .i64 0, .int .i64 0, .int .i64 0, .int .i64 0, .int .i64 0, .int .i64 0, .int .i64 0, .int .i64 0, .int .i64 0, .int .i64 0, .int .i64 0] 49)) from Ch.alloc (Gr.refl _) _)
  have V6 := hid ((V5.out.only K6.out (show (w5.setCell ⟨w.heap.size + 1, 0, none⟩ (.int .i64 (pc + 1))).heap[w.heap.size + 1]? = some (.cells (cC (pc + 1) r (.slice ao2 n2 cap2)) 30 (0, 0)) by rw [← cC_setpc pc]; exact setCell_block V5.out.c 0 (.int .i64 (pc + 1)))).gr A6.out)
  have I6 := hid (gr_blk ((K6.out.block _ (lt_of_block I5.out) (fun q => by have q1 : tb = w.heap.size + 1 := q; have := S3.out; omega)).trans I5.out) A6.out)
  have O6 := hid ((O5.out.ch K6.out (fun q hq e => by have e1 : q = w.heap.size + 1 := e; have := (O5.out.blk hq).1; omega)).gr A6.out)
  have G6 := hid (show Gr w ((w5.setCell ⟨w.heap.size + 1, 0, none⟩ (.int .i64 (pc + 1))).alloc (.cells #[.int .i64 0, .int .i64 0, .int .i64 0, .int .i64 0, .int .i64 0, .int .i64 0, .int .i64 0, .int .i64 0, .int .i64 0, .int .i64 0, .int .i64 0] 49)) from Gr.trans (Ch.fresh G5.out (by omega) 0 _) A6.out)
  clear i0 i1 i2 i3 i4 il m0 m1 m2 ml c5 z5 l5
  clear A6 K6
  generalize (w5.setCell ⟨w.heap.size + 1, 0, none⟩ (.int .i64 (pc + 1))).alloc (.cells #[.int .i64 0, .int .i64 0, .int .i64 0, .int .i64 0, .int .i64 0, .int .i64 0, .int .i64 0, .int .i64 0, .int .i64 0, .int .i64 0, .int .i64 0] 49) = W6 at V6 I6 O6 G6 ⊢
  have i0 : W6.cell? ⟨tb, 0, none⟩ = some (.int .i64 o1) := (cell_of I6.out 0).trans rfl
  have i1 : W6.cell? ⟨tb, 1, none⟩ = some (.int .i64 (a : Int)) := (cell_of I6.out 1).trans rfl
  have i2 : W6.cell? ⟨tb, 2, none⟩ = some (.int .i64 (b : Int)) := (cell_of I6.out 2).trans rfl
  have i3 : W6.cell? ⟨tb, 3, none⟩ = some (.int .i64 (c : Int)) := (cell_of I6.out 3).trans rfl
  have i4 : W6.cell? ⟨tb, 4, none⟩ = some (.int .i64 im) := (cell_of I6.out 4).trans rfl
  have il := lt_of_block I6.out
  have HRS := hid (fun (W : World) => reckons_any o1 W)
  rw [HNR.out] at HRS
  clear i1 i2 i3 i4
  go_upto_region 11 with (go_at_call 34; refine (HRS.out _).mono ?_; rintro e w7 ⟨rfl, hw⟩; have hw := hw.symm; subst hw)
  have HAK := hid (show ∀ (W : World) (v : Value), Calls Tryd.prog 35 #[.agg (cC (pc + 1) r (.slice ao2 n2 cap2)), .agg #[.int .i64 o1, .int .i64 (a : Int), .int .i64 (b : Int), .int .i64 (c : Int), .int .i64 im]] W fun e w' => e = .returned (.agg (wt o1 o1 (a : Int) (b : Int) (c : Int) im x y z 0 0)) ∧ Gr W w' from fun W _ => asked_more W (pc + 1) r ao2 n2 cap2 o1 im x y z a b c HX.out HY.out HZ.out la lb lc (by have := HHO.out; omega) (by have := HHO.out; omega))
  clear i0
  have hS0 : Sy w tb (cC (pc + 1) r (.slice ao2 n2 cap2)) #[.int .i64 o1, .int .i64 (a : Int), .int .i64 (b : Int), .int .i64 (c : Int), .int .i64 im] ks ao2 n2 cap2 W6.drew := ⟨Ch.drew G6.out, V6.out.c, I6.out, ⟨_, V6.out.r, rfl⟩, ⟨_, V6.out.t, rfl⟩, O6.out, by have := S3.out; omega⟩
  refine wp_region_held_drew (S := Sy w tb (cC (pc + 1) r (.slice ao2 n2 cap2)) #[.int .i64 o1, .int .i64 (a : Int), .int .i64 (b : Int), .int .i64 (c : Int), .int .i64 im] ks ao2 n2 cap2) (by kernel_rfl) (by exact hS0) (fun _ => ?_)
  refine takeS_on (i := 0) 45 (v := ?v1) rfl rfl (by kernel_rfl) (by kernel_rfl) (by kernel_rfl) (fun _ _ _ h => h) (by kernel_rfl) ?hy1 (by exact hS0) ?_
  case hy1 => (intro w' hSw; refine Eq.trans (exec_row 30 (.tmp 4) rfl _ rfl _ _ _ _ hSw.c Tryd.underlying30 rfl (ctx_size' (HSZ.out _ _))) ?_; with_reducible rfl)
  simp only [Act.put, List.setIfInBounds_toArray, List.set_cons_zero, List.set_cons_succ]
  refine takeS_on (i := 1) 46 (v := ?v2) rfl rfl (by kernel_rfl) (by kernel_rfl) (by kernel_rfl) (fun _ _ _ h => h) (by kernel_rfl) ?hy2 (by exact hS0) ?_
  case hy2 => (intro w' hSw; refine Eq.trans (exec_row 30 (.tmp 4) rfl _ rfl _ _ _ _ hSw.c Tryd.underlying30 rfl (ctx_size' (HSZ.out _ _))) ?_; with_reducible rfl)
  simp only [Act.put, List.setIfInBounds_toArray, List.set_cons_zero, List.set_cons_succ]
  refine takeS_on (i := 2) 47 (v := ?v3) rfl rfl (by kernel_rfl) (by kernel_rfl) (by kernel_rfl) (fun _ _ _ h => h) (by kernel_rfl) ?hy3 (by exact hS0) ?_
  case hy3 => (intro w' hSw; refine Eq.trans (exec_row 46 (.tmp 8) rfl _ rfl _ _ _ _ hSw.i Tryd.underlying46 rfl ins_size) ?_; with_reducible rfl)
  simp only [Act.put, List.setIfInBounds_toArray, List.set_cons_zero, List.set_cons_succ]
  refine wpAnyH_ready (rs := [3]) (by kernel_rfl) (by simp) (AllReadyH.cons rfl (fun K hK => ?_) AllReadyH.nil)
  go_simp
  refine (HAK.out _ (.bool true)).mono ?_
  rintro e w7 ⟨rfl, g7⟩
  have hS1 := hS0.gr g7
  clear g7
  refine hK.out _ _ (by exact hS1) (fun _ => ?_)
  clear hK K
  refine wpAnyH_ready (rs := [4]) (by kernel_rfl) (by simp) (AllReadyH.cons rfl (fun K hK => ?_) AllReadyH.nil)
  rw [if_pos (by kernel_rfl)]
  obtain ⟨old, ht, hsz⟩ := hS1.r
  refine wp_store_row 30 (.tmp 6) (.tmp 45) rfl (w.heap.size + 3) (cC (pc + 1) r (.slice ao2 n2 cap2)) rfl rfl _ _ ht (ctx_size' (HSZ.out _ _)) (hsz.trans (HSZ.out _ _).symm) cC_one ?_
  have b3 := setRow_blk (c := (cC (pc + 1) r (.slice ao2 n2 cap2))) ht
  have hS2 := hS1.str (setRow_ch _ (w.heap.size + 3) (cC (pc + 1) r (.slice ao2 n2 cap2))) b3 (HSZ.out _ _)
  have R3 := hid b3
  clear ht hsz b3
  refine hK.out _ _ (by exact hS2) (fun _ => ?_)
  clear hK K
  refine wpAnyH_ready (rs := [5]) (by kernel_rfl) (by simp) (AllReadyH.cons rfl (fun K hK => ?_) AllReadyH.nil)
  rw [if_pos (by kernel_rfl)]
  obtain ⟨old, ht, hsz⟩ := hS2.t
  refine wp_store_row 49 (.tmp 7) (.tmp 48) rfl (w.heap.size + 4) (wt o1 o1 (a : Int) (b : Int) (c : Int) im x y z 0 0) rfl rfl _ _ ht want_size hsz (wt_one _ _ _ _ _ _ _ _ _ _ _) ?_
  have b4 := setRow_blk (c := (wt o1 o1 (a : Int) (b : Int) (c : Int) im x y z 0 0)) ht
  have hS3 := hS2.stt (setRow_ch _ (w.heap.size + 4) (wt o1 o1 (a : Int) (b : Int) (c : Int) im x y z 0 0)) b4 rfl
  have R4 := hid (((setRow_ch _ (w.heap.size + 4) (wt o1 o1 (a : Int) (b : Int) (c : Int) im x y z 0 0)).block _ (lt_of_block R3.out) (fun q => by have q1 : w.heap.size + 3 = w.heap.size + 4 := q; omega)).trans R3.out)
  have T4 := hid b4
  clear ht hsz b4
  refine hK.out _ _ (by exact hS3) (fun _ => ?_)
  clear hK K
  refine wpAnyH_done (by kernel_rfl) ?_ _
  go_wp2_with fail
  refine bodyPost_ret (results_cell_cell rfl _ _ (w.heap.size + 3) (w.heap.size + 4) _ _ rfl (run_loadVar_row _ _ _ _ _ _ _ R4.out Tryd.underlying30 rfl (ctx_size' (HSZ.out _ _))) rfl (run_loadVar_row _ _ _ _ _ _ _ T4.out Tryd.underlying49 rfl want_size)) rfl ?_
  exact ⟨_, _, _, rfl, hS3.o.lower (by omega), hS3.g⟩

end Go.Proofs.YtcdlhfodeckleaaDoor.Lt

namespace Go.Proofs.YtcdlhfodeckleaaDoor.Lt
open Go.RowKit Wd

set_option maxHeartbeats 2000000 in
set_option maxRecDepth 20000 in
theorem pstep_ends (P : Nat → Prop) (w : World) (aoc aof aot : Option Addr) (nc nf nt cac caf cat : Nat) (cs : List Int) (h : Ls eU P w (.slice aoc nc cac) cs) (hu : U32s cs) (hg : Glb w) (hcl : nc ≤ 35184372088832) (pc : Int) (r : List Int) (hr : r.length = 16) (ao : Option Addr) (n cap : Nat) (ks : List Int) (hk : Ls eI P w (.slice ao n cap) ks) (hn : n ≤ 17592186044416) (ck sl gn : Int)
    (o1 im : Int) (a b c : Nat) (la : a < 16) (_lb : b < 16) (_lc : c < 16) (x y z : Int) (hx : r[a]? = some x) (hy : r[b]? = some y) (hz : r[c]? = some z) (hI : nI cs pc = (o1, (a : Int), (b : Int), (c : Int), im)) (hB : nB cs pc = true) (ho : o1 = 23 ∨ o1 = 24) :
    Calls Tryd.prog 16 #[.agg #[.slice aoc nc cac, .slice aof nf caf, .slice aot nt cat], .agg (cC pc r (.slice ao n cap)), .agg #[.int .u64 ck, .int .i64 sl, .int .i64 gn]] w (StR w (pc + 1) r ks (wt o1 0 0 0 0 0 0 0 0 0 0)) := by
  have hlen := h.len.1
  have hpc : 0 ≤ pc ∧ pc < (nc : Int) := by
    unfold nB at hB
    split at hB
    · rename_i q; rw [hlen]; exact q
    · cases hB
  have HA := hid (fun (W : World) (p : Gr w W) => apart_any P W pc r hr ao n cap ks (hk.gr p) hn)
  have HN := hid (fun (W : World) (p : Gr w W) => pnext9_any P W aoc aof aot nc nf nt cac caf cat cs (h.gr p) hu (hg.gr p) pc)
  rw [hI, hB] at HN
  unfold iV at HN
  simp only at HN
  have HT := hid (fun (W : World) (ao2 : Option Addr) (n2 cap2 : Nat) => traps_no W aoc aof aot nc nf nt cac caf cat pc r hr ao2 n2 cap2 o1 (a : Int) (b : Int) (c : Int) im (by omega) (by omega) (by omega) (by omega))
  have V0 := hid (vs_new w #[.slice aoc nc cac, .slice aof nf caf, .slice aot nt cat] (cC pc r (.slice ao n cap)) #[.int .u64 ck, .int .i64 sl, .int .i64 gn] #[.int .i64 0, .int .i64 0, .int .i64 0, .int .i64 0, .int .i64 0, .int .i64 0, .int .i64 0, .int .i64 0, .int .i64 0, .int .i64 0, .int .i64 0, .int .i64 0, .int .i64 0, .int .i64 0, .int .i64 0, .int .i64 0, .int .i64 0, .slice none 0 0] #[.int .i64 0, .int .i64 0, .int .i64 0, .int .i64 0, .int .i64 0, .int .i64 0, .int .i64 0, .int .i64 0, .int .i64 0, .int .i64 0, .int .i64 0])
  have K0 := hid (show Gr w (((((w.alloc (.cells #[.slice aoc nc cac, .slice aof nf caf, .slice aot nt cat] 26)).alloc (.cells (cC pc r (.slice ao n cap)) 30)).alloc (.cells #[.int .u64 ck, .int .i64 sl, .int .i64 gn] 44)).alloc (.cells #[.int .i64 0, .int .i64 0, .int .i64 0, .int .i64 0, .int .i64 0, .int .i64 0, .int .i64 0, .int .i64 0, .int .i64 0, .int .i64 0, .int .i64 0, .int .i64 0, .int .i64 0, .int .i64 0, .int .i64 0, .int .i64 0, .int .i64 0, .slice none 0 0] 30)).alloc (.cells #[.int .i64 0, .int .i64 0, .int .i64 0, .int .i64 0, .int .i64 0, .int .i64 0, .int .i64 0, .int .i64 0, .int .i64 0, .int .i64 0, .int .i64 0] 49)) from Ch.alloc (Ch.alloc (Ch.alloc (Ch.alloc (Ch.alloc (Gr.refl w) _) _) _) _) _)
  have HSZ := hid (fun (pc : Int) (v : Value) => cC_size (pc := pc) (v := v) hr)
  have e1 : (o1 == 1) = false := by simp; omega
  have e25 : (o1 == 25) = false := by simp; omega
  have e26 : (o1 == 26) = false := by simp; omega
  have e17 : (o1 == 17) = false := by simp; omega
  have e18 : (o1 == 18) = false := by simp; omega
  have e19 : (o1 == 19) = false := by simp; omega
  have e20 : (o1 == 20) = false := by simp; omega
  have e21 : (o1 == 21) = false := by simp; omega
  have HX := hid hx
  have HY := hid hy
  have HZ := hid hz
  have a0 : (0 : Int) ≤ (a : Int) := by omega
  have a1 : (a : Int) < 16 := by omega
  clear hx hy hz
  have HHO := hid ho
  have HNR := hid (show (decide (2 ≤ o1) && decide (o1 ≤ 16)) = false from by rw [Bool.and_eq_false_iff]; right; exact decide_eq_false (by omega))
  have HRR := hid hr
  clear ho h hu hg hk hI hB hlen hr
  go_enter Tryd.func16, Tryd.ntmps16
  go_upto_region 3 with (first
    | (refine wpList_load_row rfl 30 (.tmp 4) rfl (w.heap.size + 1) rfl _ _ _ _ V0.out.c Tryd.underlying30 rfl (ctx_size' (HSZ.out _ _)) ?_)
    | (go_at_call 28; refine (HA.out _ K0.out).mono ?_; rintro e w1 ⟨ao2, n2, cap2, rfl, o1', g1⟩; have OX := hid (show Ow eI 1 3 (w.heap.size + 5) w1 (.slice ao2 n2 cap2) ks from by simpa using o1'); have G1 := hid (Gr.trans K0.out g1); have V1 := hid (V0.out.gr g1); clear o1' g1)
    | (refine st_row rfl 30 (.tmp 4) (.tmp 13) rfl (w.heap.size + 1) _ rfl rfl _ _ V1.out.c (ctx_size' (HSZ.out _ _)) ((HSZ.out _ _).trans (HSZ.out _ _).symm) cC_one ?_; intro w2 b2 k2; have V2 := hid (V1.out.only k2 b2); have K2 := hid k2; have G2 := hid (show Gr w w2 from Ch.trans G1.out k2 (fun q e => .inr (by have e1 : q = w.heap.size + 1 := e; omega))); obtain ⟨m0, m1, m2, ml⟩ := p3_cells V2.out.p; have mc : w2.cell? ⟨w.heap.size + 1, 0, none⟩ = some (.int .i64 pc) := (cell_of V2.out.c 0).trans (cC_pc _ _ _); have mcl := lt_of_block V2.out.c; clear b2 k2)
    | (go_at_call 23; refine (HN.out _ G2.out).mono ?_; rintro e w3 ⟨rfl, g3⟩; have V3 := hid (V2.out.gr (Ch.alloc g3 (.cells #[.int .i64 o1, .int .i64 (a : Int), .int .i64 (b : Int), .int .i64 (c : Int), .int .i64 im] 46))); have G3 := hid (show Gr w (w3.alloc (.cells #[.int .i64 o1, .int .i64 (a : Int), .int .i64 (b : Int), .int .i64 (c : Int), .int .i64 im] 46)) from Ch.alloc (Gr.trans G2.out g3) _); have I3 := hid (MapKept.heap_alloc w3 (.cells #[.int .i64 o1, .int .i64 (a : Int), .int .i64 (b : Int), .int .i64 (c : Int), .int .i64 im] 46)).1; have OW3 := hid (show Ow eI 1 3 (w.heap.size + 5) (w3.alloc (.cells #[.int .i64 o1, .int .i64 (a : Int), .int .i64 (b : Int), .int .i64 (c : Int), .int .i64 im] 46)) (.slice ao2 n2 cap2) ks from ((OX.out.ch K2.out (fun q hq e => by have e1 : q = w.heap.size + 1 := e; have := (OX.out.blk hq).1; omega)).gr (Ch.alloc g3 _))); have S3 := hid (show w.heap.size + 5 ≤ w3.heap.size from Nat.lt_of_lt_of_le (lt_of_block V2.out.t) g3.size); clear g3))
  generalize w3.alloc (.cells #[.int .i64 o1, .int .i64 (a : Int), .int .i64 (b : Int), .int .i64 (c : Int), .int .i64 im] 46) = W3 at V3 G3 I3 OW3 ⊢
  generalize w3.heap.size = tb at I3 S3 ⊢
  obtain ⟨q0, q1⟩ := hpc
  have q2 : pc ≤ 35184372088832 := by omega
  have O3 := hid (show Ow eI 1 3 (w.heap.size + 5) W3 (.slice ao2 n2 cap2) ks from OW3.out)
  clear m0 m1 m2 ml mc mcl
  obtain ⟨m0, m1, m2, ml⟩ := p3_cells V3.out.p
  have i0 : W3.cell? ⟨tb, 0, none⟩ = some (.int .i64 o1) := (cell_of I3.out 0).trans rfl
  have i1 : W3.cell? ⟨tb, 1, none⟩ = some (.int .i64 (a : Int)) := (cell_of I3.out 1).trans rfl
  have i2 : W3.cell? ⟨tb, 2, none⟩ = some (.int .i64 (b : Int)) := (cell_of I3.out 2).trans rfl
  have i3 : W3.cell? ⟨tb, 3, none⟩ = some (.int .i64 (c : Int)) := (cell_of I3.out 3).trans rfl
  have i4 : W3.cell? ⟨tb, 4, none⟩ = some (.int .i64 im) := (cell_of I3.out 4).trans rfl
  have il := lt_of_block I3.out
  go_upto_region 9 with (first
    | (refine wpList_load_row rfl 30 (.tmp 4) rfl (w.heap.size + 1) rfl _ _ _ _ V3.out.c Tryd.underlying30 rfl (ctx_size' (HSZ.out _ _)) ?_)
    | (go_at_call 30; refine (HT.out _ ao2 n2 cap2).mono ?_; rintro e w5 ⟨rfl, g5⟩; have V5 := hid (V3.out.gr g5); have G5 := hid (show Gr w w5 from Gr.trans G3.out g5); have I5 := hid (gr_blk I3.out g5); have O5 := hid (O3.out.gr g5); have c5 := (cell_of (gr_blk V3.out.c g5) 0).trans (cC_pc _ _ _); have z5 := frozen_of (gr_blk V3.out.c g5) 0; have l5 := lt_of_block (gr_blk V3.out.c g5); clear g5))
  have K6 := hid (show Ch (Only (w.heap.size + 1)) w5 (w5.setCell ⟨w.heap.size + 1, 0, none⟩ (.int .i64 (pc + 1))) from (Ch.refl _ _).own 0 _)
  have A6 := hid (show Gr (w5.setCell ⟨w.heap.size + 1, 0, none⟩ (.int .i64 (pc + 1))) ((w5.setCell ⟨w.heap.size + 1, 0, none⟩ (.int .i64 (pc + 1))).alloc (.cells #[.int .i64 0, .int .i64 0, .int .i64 0, .int .i64 0, .int .i64 0, .int .i64 0, .int .i64 0, .int .i64 0, .int .i64 0, .int .i64 0, .int .i64 0] 49)) from Ch.alloc (Gr.refl _) _)
  have V6 := hid ((V5.out.only K6.out (show (w5.setCell ⟨w.heap.size + 1, 0, none⟩ (.int .i64 (pc + 1))).heap[w.heap.size + 1]? = some (.cells (cC (pc + 1) r (.slice ao2 n2 cap2)) 30 (0, 0)) by rw [← cC_setpc pc]; exact setCell_block V5.out.c 0 (.int .i64 (pc + 1)))).gr A6.out)
  have I6 := hid (gr_blk ((K6.out.block _ (lt_of_block I5.out) (fun q => by have q1 : tb = w.heap.size + 1 := q; have := S3.out; omega)).trans I5.out) A6.out)
  have O6 := hid ((O5.out.ch K6.out (fun q hq e => by have e1 : q = w.heap.size + 1 := e; have := (O5.out.blk hq).1; omega)).gr A6.out)
  have G6 := hid (show Gr w ((w5.setCell ⟨w.heap.size + 1, 0, none⟩ (.int .i64 (pc + 1))).alloc (.cells #[.int .i64 0, .int .i64 0, .int .i64 0, .int .i64 0, .int .i64 0, .int .i64 0, .int .i64 0, .int .i64 0, .int .i64 0, .int .i64 0, .int .i64 0] 49)) from Gr.trans (Ch.fresh G5.out (by omega) 0 _) A6.out)
  clear i0 i1 i2 i3 i4 il m0 m1 m2 ml c5 z5 l5
  clear A6 K6
  generalize (w5.setCell ⟨w.heap.size + 1, 0, none⟩ (.int .i64 (pc + 1))).alloc (.cells #[.int .i64 0, .int .i64 0, .int .i64 0, .int .i64 0, .int .i64 0, .int .i64 0, .int .i64 0, .int .i64 0, .int .i64 0, .int .i64 0, .int .i64 0] 49) = W6 at V6 I6 O6 G6 ⊢
  have i0 : W6.cell? ⟨tb, 0, none⟩ = some (.int .i64 o1) := (cell_of I6.out 0).trans rfl
  have i1 : W6.cell? ⟨tb, 1, none⟩ = some (.int .i64 (a : Int)) := (cell_of I6.out 1).trans rfl
  have i2 : W6.cell? ⟨tb, 2, none⟩ = some (.int .i64 (b : Int)) := (cell_of I6.out 2).trans rfl
  have i3 : W6.cell? ⟨tb, 3, none⟩ = some (.int .i64 (c : Int)) := (cell_of I6.out 3).trans rfl
  have i4 : W6.cell? ⟨tb, 4, none⟩ = some (.int .i64 im) := (cell_of I6.out 4).trans rfl
  have il := lt_of_block I6.out
  have HRS := hid (fun (W : World) => reckons_any o1 W)
  rw [HNR.out] at HRS
  clear i1 i2 i3 i4
  go_upto_region 11 with (go_at_call 34; refine (HRS.out _).mono ?_; rintro e w7 ⟨rfl, hw⟩; have hw := hw.symm; subst hw)
  have HAK := hid (show ∀ (W : World) (v : Value), Calls Tryd.prog 35 #[.agg (cC (pc + 1) r (.slice ao2 n2 cap2)), .agg #[.int .i64 o1, .int .i64 (a : Int), .int .i64 (b : Int), .int .i64 (c : Int), .int .i64 im]] W fun e w' => e = .returned (.agg (wt o1 0 0 0 0 0 0 0 0 0 0)) ∧ Gr W w' from fun W _ => by rcases HHO.out with q | q; (rw [q]; exact asked_23 W (pc + 1) r ao2 n2 cap2 _ _ _ im); (rw [q]; exact asked_24 W (pc + 1) r ao2 n2 cap2 _ _ _ im))
  clear i0
  have hS0 : Sy w tb (cC (pc + 1) r (.slice ao2 n2 cap2)) #[.int .i64 o1, .int .i64 (a : Int), .int .i64 (b : Int), .int .i64 (c : Int), .int .i64 im] ks ao2 n2 cap2 W6.drew := ⟨Ch.drew G6.out, V6.out.c, I6.out, ⟨_, V6.out.r, rfl⟩, ⟨_, V6.out.t, rfl⟩, O6.out, by have := S3.out; omega⟩
  refine wp_region_held_drew (S := Sy w tb (cC (pc + 1) r (.slice ao2 n2 cap2)) #[.int .i64 o1, .int .i64 (a : Int), .int .i64 (b : Int), .int .i64 (c : Int), .int .i64 im] ks ao2 n2 cap2) (by kernel_rfl) (by exact hS0) (fun _ => ?_)
  refine takeS_on (i := 0) 45 (v := ?v4) rfl rfl (by kernel_rfl) (by kernel_rfl) (by kernel_rfl) (fun _ _ _ h => h) (by kernel_rfl) ?hy4 (by exact hS0) ?_
  case hy4 => (intro w' hSw; refine Eq.trans (exec_row 30 (.tmp 4) rfl _ rfl _ _ _ _ hSw.c Tryd.underlying30 rfl (ctx_size' (HSZ.out _ _))) ?_; with_reducible rfl)
  simp only [Act.put, List.setIfInBounds_toArray, List.set_cons_zero, List.set_cons_succ]
  refine takeS_on (i := 1) 46 (v := ?v5) rfl rfl (by kernel_rfl) (by kernel_rfl) (by kernel_rfl) (fun _ _ _ h => h) (by kernel_rfl) ?hy5 (by exact hS0) ?_
  case hy5 => (intro w' hSw; refine Eq.trans (exec_row 30 (.tmp 4) rfl _ rfl _ _ _ _ hSw.c Tryd.underlying30 rfl (ctx_size' (HSZ.out _ _))) ?_; with_reducible rfl)
  simp only [Act.put, List.setIfInBounds_toArray, List.set_cons_zero, List.set_cons_succ]
  refine takeS_on (i := 2) 47 (v := ?v6) rfl rfl (by kernel_rfl) (by kernel_rfl) (by kernel_rfl) (fun _ _ _ h => h) (by kernel_rfl) ?hy6 (by exact hS0) ?_
  case hy6 => (intro w' hSw; refine Eq.trans (exec_row 46 (.tmp 8) rfl _ rfl _ _ _ _ hSw.i Tryd.underlying46 rfl ins_size) ?_; with_reducible rfl)
  simp only [Act.put, List.setIfInBounds_toArray, List.set_cons_zero, List.set_cons_succ]
  refine wpAnyH_ready (rs := [3]) (by kernel_rfl) (by simp) (AllReadyH.cons rfl (fun K hK => ?_) AllReadyH.nil)
  go_simp
  refine (HAK.out _ (.bool true)).mono ?_
  rintro e w7 ⟨rfl, g7⟩
  have hS1 := hS0.gr g7
  clear g7
  refine hK.out _ _ (by exact hS1) (fun _ => ?_)
  clear hK K
  refine wpAnyH_ready (rs := [4]) (by kernel_rfl) (by simp) (AllReadyH.cons rfl (fun K hK => ?_) AllReadyH.nil)
  rw [if_pos (by kernel_rfl)]
  obtain ⟨old, ht, hsz⟩ := hS1.r
  refine wp_store_row 30 (.tmp 6) (.tmp 45) rfl (w.heap.size + 3) (cC (pc + 1) r (.slice ao2 n2 cap2)) rfl rfl _ _ ht (ctx_size' (HSZ.out _ _)) (hsz.trans (HSZ.out _ _).symm) cC_one ?_
  have b3 := setRow_blk (c := (cC (pc + 1) r (.slice ao2 n2 cap2))) ht
  have hS2 := hS1.str (setRow_ch _ (w.heap.size + 3) (cC (pc + 1) r (.slice ao2 n2 cap2))) b3 (HSZ.out _ _)
  have R3 := hid b3
  clear ht hsz b3
  refine hK.out _ _ (by exact hS2) (fun _ => ?_)
  clear hK K
  refine wpAnyH_ready (rs := [5]) (by kernel_rfl) (by simp) (AllReadyH.cons rfl (fun K hK => ?_) AllReadyH.nil)
  rw [if_pos (by kernel_rfl)]
  obtain ⟨old, ht, hsz⟩ := hS2.t
  refine wp_store_row 49 (.tmp 7) (.tmp 48) rfl (w.heap.size + 4) (wt o1 0 0 0 0 0 0 0 0 0 0) rfl rfl _ _ ht want_size hsz (wt_one _ _ _ _ _ _ _ _ _ _ _) ?_
  have b4 := setRow_blk (c := (wt o1 0 0 0 0 0 0 0 0 0 0)) ht
  have hS3 := hS2.stt (setRow_ch _ (w.heap.size + 4) (wt o1 0 0 0 0 0 0 0 0 0 0)) b4 rfl
  have R4 := hid (((setRow_ch _ (w.heap.size + 4) (wt o1 0 0 0 0 0 0 0 0 0 0)).block _ (lt_of_block R3.out) (fun q => by have q1 : w.heap.size + 3 = w.heap.size + 4 := q; omega)).trans R3.out)
  have T4 := hid b4
  clear ht hsz b4
  refine hK.out _ _ (by exact hS3) (fun _ => ?_)
  clear hK K
  refine wpAnyH_done (by kernel_rfl) ?_ _
  go_wp2_with fail
  refine bodyPost_ret (results_cell_cell rfl _ _ (w.heap.size + 3) (w.heap.size + 4) _ _ rfl (run_loadVar_row _ _ _ _ _ _ _ R4.out Tryd.underlying30 rfl (ctx_size' (HSZ.out _ _))) rfl (run_loadVar_row _ _ _ _ _ _ _ T4.out Tryd.underlying49 rfl want_size)) rfl ?_
  exact ⟨_, _, _, rfl, hS3.o.lower (by omega), hS3.g⟩

end Go.Proofs.YtcdlhfodeckleaaDoor.Lt

namespace Go.Proofs.YtcdlhfodeckleaaDoor.Lt
open Go.RowKit Wd

set_option maxHeartbeats 2000000 in
set_option maxRecDepth 20000 in
theorem pstep_none (P : Nat → Prop) (w : World) (aoc aof aot : Option Addr) (nc nf nt cac caf cat : Nat) (cs : List Int) (h : Ls eU P w (.slice aoc nc cac) cs) (hu : U32s cs) (hg : Glb w) (pc : Int) (r : List Int) (hr : r.length = 16) (ao : Option Addr) (n cap : Nat) (ks : List Int) (hk : Ls eI P w (.slice ao n cap) ks) (hn : n ≤ 17592186044416) (ck sl gn : Int)
    (o1 o2 o3 o4 im : Int) (hI : nI cs pc = (o1, o2, o3, o4, im)) (hB : nB cs pc = false) :
    Calls Tryd.prog 16 #[.agg #[.slice aoc nc cac, .slice aof nf caf, .slice aot nt cat], .agg (cC pc r (.slice ao n cap)), .agg #[.int .u64 ck, .int .i64 sl, .int .i64 gn]] w (StR w pc r ks (wt 58 0 0 0 0 0 0 0 0 1 0)) := by
  have hlen := h.len.1
  have HA := hid (fun (W : World) (p : Gr w W) => apart_any P W pc r hr ao n cap ks (hk.gr p) hn)
  have HN := hid (fun (W : World) (p : Gr w W) => pnext9_any P W aoc aof aot nc nf nt cac caf cat cs (h.gr p) hu (hg.gr p) pc)
  rw [hI, hB] at HN
  unfold iV at HN
  simp only at HN
  have HTP := hid (fun (W : World) => ptrap_any 1 W)
  have V0 := hid (vs_new w #[.slice aoc nc cac, .slice aof nf caf, .slice aot nt cat] (cC pc r (.slice ao n cap)) #[.int .u64 ck, .int .i64 sl, .int .i64 gn] #[.int .i64 0, .int .i64 0, .int .i64 0, .int .i64 0, .int .i64 0, .int .i64 0, .int .i64 0, .int .i64 0, .int .i64 0, .int .i64 0, .int .i64 0, .int .i64 0, .int .i64 0, .int .i64 0, .int .i64 0, .int .i64 0, .int .i64 0, .slice none 0 0] #[.int .i64 0, .int .i64 0, .int .i64 0, .int .i64 0, .int .i64 0, .int .i64 0, .int .i64 0, .int .i64 0, .int .i64 0, .int .i64 0, .int .i64 0])
  have K0 := hid (show Gr w (((((w.alloc (.cells #[.slice aoc nc cac, .slice aof nf caf, .slice aot nt cat] 26)).alloc (.cells (cC pc r (.slice ao n cap)) 30)).alloc (.cells #[.int .u64 ck, .int .i64 sl, .int .i64 gn] 44)).alloc (.cells #[.int .i64 0, .int .i64 0, .int .i64 0, .int .i64 0, .int .i64 0, .int .i64 0, .int .i64 0, .int .i64 0, .int .i64 0, .int .i64 0, .int .i64 0, .int .i64 0, .int .i64 0, .int .i64 0, .int .i64 0, .int .i64 0, .int .i64 0, .slice none 0 0] 30)).alloc (.cells #[.int .i64 0, .int .i64 0, .int .i64 0, .int .i64 0, .int .i64 0, .int .i64 0, .int .i64 0, .int .i64 0, .int .i64 0, .int .i64 0, .int .i64 0] 49)) from Ch.alloc (Ch.alloc (Ch.alloc (Ch.alloc (Ch.alloc (Gr.refl w) _) _) _) _) _)
  have HSZ := hid (fun (pc : Int) (v : Value) => cC_size (pc := pc) (v := v) hr)
  have HRR := hid hr
  clear h hu hg hk hI hB hlen hr
  go_enter Tryd.func16, Tryd.ntmps16
  go_upto_region 4 with (first
    | (refine wpList_load_row rfl 30 (.tmp 4) rfl (w.heap.size + 1) rfl _ _ _ _ V0.out.c Tryd.underlying30 rfl (ctx_size' (HSZ.out _ _)) ?_)
    | (go_at_call 28; refine (HA.out _ K0.out).mono ?_; rintro e w1 ⟨ao2, n2, cap2, rfl, o1', g1⟩; have OX := hid (show Ow eI 1 3 (w.heap.size + 5) w1 (.slice ao2 n2 cap2) ks from by simpa using o1'); have G1 := hid (Gr.trans K0.out g1); have V1 := hid (V0.out.gr g1); clear o1' g1)
    | (refine st_row rfl 30 (.tmp 4) (.tmp 13) rfl (w.heap.size + 1) _ rfl rfl _ _ V1.out.c (ctx_size' (HSZ.out _ _)) ((HSZ.out _ _).trans (HSZ.out _ _).symm) cC_one ?_; intro w2 b2 k2; have V2 := hid (V1.out.only k2 b2); have K2 := hid k2; have G2 := hid (show Gr w w2 from Ch.trans G1.out k2 (fun q e => .inr (by have e1 : q = w.heap.size + 1 := e; omega))); obtain ⟨m0, m1, m2, ml⟩ := p3_cells V2.out.p; have mc : w2.cell? ⟨w.heap.size + 1, 0, none⟩ = some (.int .i64 pc) := (cell_of V2.out.c 0).trans (cC_pc _ _ _); have mcl := lt_of_block V2.out.c; clear b2 k2)
    | (go_at_call 23; refine (HN.out _ G2.out).mono ?_; rintro e w3 ⟨rfl, g3⟩; have V3 := hid (V2.out.gr (Ch.alloc g3 (.cells #[.int .i64 o1, .int .i64 o2, .int .i64 o3, .int .i64 o4, .int .i64 im] 46))); have G3 := hid (show Gr w (w3.alloc (.cells #[.int .i64 o1, .int .i64 o2, .int .i64 o3, .int .i64 o4, .int .i64 im] 46)) from Ch.alloc (Gr.trans G2.out g3) _); have I3 := hid (MapKept.heap_alloc w3 (.cells #[.int .i64 o1, .int .i64 o2, .int .i64 o3, .int .i64 o4, .int .i64 im] 46)).1; have OW3 := hid (show Ow eI 1 3 (w.heap.size + 5) (w3.alloc (.cells #[.int .i64 o1, .int .i64 o2, .int .i64 o3, .int .i64 o4, .int .i64 im] 46)) (.slice ao2 n2 cap2) ks from ((OX.out.ch K2.out (fun q hq e => by have e1 : q = w.heap.size + 1 := e; have := (OX.out.blk hq).1; omega)).gr (Ch.alloc g3 _))); have S3 := hid (show w.heap.size + 5 ≤ w3.heap.size from Nat.lt_of_lt_of_le (lt_of_block V2.out.t) g3.size); clear g3))
  generalize w3.alloc (.cells #[.int .i64 o1, .int .i64 o2, .int .i64 o3, .int .i64 o4, .int .i64 im] 46) = W3 at V3 G3 I3 OW3 ⊢
  generalize w3.heap.size = tb at I3 S3 ⊢
  have O3 := hid (show Ow eI 1 3 (w.heap.size + 5) W3 (.slice ao2 n2 cap2) ks from OW3.out)
  clear m0 m1 m2 ml mc mcl
  obtain ⟨m0, m1, m2, ml⟩ := p3_cells V3.out.p
  clear m0 m1 m2 ml
  have hS0 : Sy w tb (cC pc r (.slice ao2 n2 cap2)) #[.int .i64 o1, .int .i64 o2, .int .i64 o3, .int .i64 o4, .int .i64 im] ks ao2 n2 cap2 W3.drew := ⟨Ch.drew G3.out, V3.out.c, I3.out, ⟨_, V3.out.r, rfl⟩, ⟨_, V3.out.t, rfl⟩, O3.out, S3.out⟩
  refine wp_region_held_drew (S := Sy w tb (cC pc r (.slice ao2 n2 cap2)) #[.int .i64 o1, .int .i64 o2, .int .i64 o3, .int .i64 o4, .int .i64 im] ks ao2 n2 cap2) (by kernel_rfl) (by exact hS0) (fun _ => ?_)
  refine takeS_on (i := 0) 23 (v := ?v15) rfl rfl (by kernel_rfl) (by kernel_rfl) (by kernel_rfl) (fun _ _ _ h => h) (by kernel_rfl) ?hy15 (by exact hS0) ?_
  case hy15 => (intro w' hSw; refine Eq.trans (exec_row 30 (.tmp 4) rfl _ rfl _ _ _ _ hSw.c Tryd.underlying30 rfl (ctx_size' (HSZ.out _ _))) ?_; with_reducible rfl)
  simp only [Act.put, List.setIfInBounds_toArray, List.set_cons_zero, List.set_cons_succ]
  refine wpAnyH_ready (rs := [1]) (by kernel_rfl) (by simp) (AllReadyH.cons rfl (fun K hK => ?_) AllReadyH.nil)
  go_simp
  refine (HTP.out _).mono ?_
  rintro e w7 ⟨rfl, g7⟩
  have hS1 := hS0.gr g7
  clear g7
  refine hK.out _ _ (by exact hS1) (fun _ => ?_)
  clear hK K
  refine wpAnyH_ready (rs := [2]) (by kernel_rfl) (by simp) (AllReadyH.cons rfl (fun K hK => ?_) AllReadyH.nil)
  rw [if_pos (by kernel_rfl)]
  obtain ⟨old, ht, hsz⟩ := hS1.r
  refine wp_store_row 30 (.tmp 6) (.tmp 23) rfl (w.heap.size + 3) (cC pc r (.slice ao2 n2 cap2)) rfl rfl _ _ ht (ctx_size' (HSZ.out _ _)) (hsz.trans (HSZ.out _ _).symm) cC_one ?_
  have b3 := setRow_blk (c := (cC pc r (.slice ao2 n2 cap2))) ht
  have hS2 := hS1.str (setRow_ch _ (w.heap.size + 3) (cC pc r (.slice ao2 n2 cap2))) b3 (HSZ.out _ _)
  have R3 := hid b3
  clear ht hsz b3
  refine hK.out _ _ (by exact hS2) (fun _ => ?_)
  clear hK K
  refine wpAnyH_ready (rs := [3]) (by kernel_rfl) (by simp) (AllReadyH.cons rfl (fun K hK => ?_) AllReadyH.nil)
  rw [if_pos (by kernel_rfl)]
  obtain ⟨old, ht, hsz⟩ := hS2.t
  refine wp_store_row 49 (.tmp 7) (.tmp 24) rfl (w.heap.size + 4) (wt 58 0 0 0 0 0 0 0 0 1 0) rfl rfl _ _ ht want_size hsz (wt_one _ _ _ _ _ _ _ _ _ _ _) ?_
  have b4 := setRow_blk (c := (wt 58 0 0 0 0 0 0 0 0 1 0)) ht
  have hS3 := hS2.stt (setRow_ch _ (w.heap.size + 4) (wt 58 0 0 0 0 0 0 0 0 1 0)) b4 rfl
  have R4 := hid (((setRow_ch _ (w.heap.size + 4) (wt 58 0 0 0 0 0 0 0 0 1 0)).block _ (lt_of_block R3.out) (fun q => by have q1 : w.heap.size + 3 = w.heap.size + 4 := q; omega)).trans R3.out)
  have T4 := hid b4
  clear ht hsz b4
  refine hK.out _ _ (by exact hS3) (fun _ => ?_)
  clear hK K
  refine wpAnyH_done (by kernel_rfl) ?_ _
  go_wp2_with fail
  refine bodyPost_ret (results_cell_cell rfl _ _ (w.heap.size + 3) (w.heap.size + 4) _ _ rfl (run_loadVar_row _ _ _ _ _ _ _ R4.out Tryd.underlying30 rfl (ctx_size' (HSZ.out _ _))) rfl (run_loadVar_row _ _ _ _ _ _ _ T4.out Tryd.underlying49 rfl want_size)) rfl ?_
  exact ⟨_, _, _, rfl, hS3.o.lower (by omega), hS3.g⟩

end Go.Proofs.YtcdlhfodeckleaaDoor.Lt

namespace Go.Proofs.YtcdlhfodeckleaaDoor.Lt
open Go.RowKit Wd

/-- the variables of Step where it traps -/
structure Sw (w : World) (tb : Nat) (X I : Array Value) (ks : List Int) (ao : Option Addr) (n cap : Nat) (W : World) : Prop where
  g : Gr w W
  c : W.heap[w.heap.size + 1]? = some (.cells X 30 (0, 0))
  i : W.heap[tb]? = some (.cells I 49 (0, 0))
  r : ∃ old, W.heap[w.heap.size + 3]? = some (.cells old 30 (0, 0)) ∧ old.size = 18
  t : ∃ old, W.heap[w.heap.size + 4]? = some (.cells old 49 (0, 0)) ∧ old.size = 11
  o : Ow eI 1 3 (w.heap.size + 5) W (.slice ao n cap) ks
  z : w.heap.size + 5 ≤ tb
section
variable {w : World} {tb : Nat} {X I : Array Value} {ks : List Int} {ao : Option Addr} {n cap : Nat} {W W' : World}
theorem Sw.gr (h : Sw w tb X I ks ao n cap W) (g : Gr W W') : Sw w tb X I ks ao n cap W' := by
  obtain ⟨o1, h1, h2⟩ := h.r
  obtain ⟨o2, h3, h4⟩ := h.t
  exact ⟨Gr.trans h.g g, gr_blk h.c g, gr_blk h.i g, ⟨o1, gr_blk h1 g, h2⟩, ⟨o2, gr_blk h3 g, h4⟩, h.o.gr g, h.z⟩
theorem Sw.str (h : Sw w tb X I ks ao n cap W) {c : Array Value} (k : Ch (Only (w.heap.size + 3)) W W') (hc : W'.heap[w.heap.size + 3]? = some (.cells c 30 (0, 0))) (hs : c.size = 18) : Sw w tb X I ks ao n cap W' := by
  obtain ⟨o2, h3, h4⟩ := h.t
  have hz := h.z
  have hn : ∀ q, q ≠ w.heap.size + 3 → ¬ Only (w.heap.size + 3) q := fun q a b => a b
  exact ⟨Ch.trans h.g k (fun q e => .inr (by have e1 : q = w.heap.size + 3 := e; omega)), (k.block _ (lt_of_block h.c) (hn _ (by omega))).trans h.c, (k.block _ (lt_of_block h.i) (hn _ (by omega))).trans h.i, ⟨c, hc, hs⟩, ⟨o2, (k.block _ (lt_of_block h3) (hn _ (by omega))).trans h3, h4⟩, h.o.ch k (fun q hq e => by have e1 : q = w.heap.size + 3 := e; have := (h.o.blk hq).1; omega), h.z⟩
theorem Sw.stt (h : Sw w tb X I ks ao n cap W) {c : Array Value} (k : Ch (Only (w.heap.size + 4)) W W') (hc : W'.heap[w.heap.size + 4]? = some (.cells c 49 (0, 0))) (hs : c.size = 11) : Sw w tb X I ks ao n cap W' := by
  obtain ⟨o2, h3, h4⟩ := h.r
  have hz := h.z
  have hn : ∀ q, q ≠ w.heap.size + 4 → ¬ Only (w.heap.size + 4) q := fun q a b => a b
  exact ⟨Ch.trans h.g k (fun q e => .inr (by have e1 : q = w.heap.size + 4 := e; omega)), (k.block _ (lt_of_block h.c) (hn _ (by omega))).trans h.c, (k.block _ (lt_of_block h.i) (hn _ (by omega))).trans h.i, ⟨o2, (k.block _ (lt_of_block h3) (hn _ (by omega))).trans h3, h4⟩, ⟨c, hc, hs⟩, h.o.ch k (fun q hq e => by have e1 : q = w.heap.size + 4 := e; have := (h.o.blk hq).1; omega), h.z⟩
end
set_option maxHeartbeats 2000000 in
set_option maxRecDepth 20000 in
theorem pstep_trap (P : Nat → Prop) (w : World) (aoc aof aot : Option Addr) (nc nf nt cac caf cat : Nat) (cs : List Int) (h : Ls eU P w (.slice aoc nc cac) cs) (hu : U32s cs) (hg : Glb w) (hcl : nc ≤ 35184372088832) (pc : Int) (r : List Int) (hr : r.length = 16) (ao : Option Addr) (n cap : Nat) (ks : List Int) (hk : Ls eI P w (.slice ao n cap) ks) (hn : n ≤ 17592186044416) (ck sl gn : Int)
    (o1 o2 o3 o4 im : Int) (hI : nI cs pc = (o1, o2, o3, o4, im)) (hB : nB cs pc = true) (t k : Int)
    (HTR : ∀ (W : World) (ao2 : Option Addr) (n2 cap2 : Nat), n2 = n → Calls Tryd.prog 30 #[.agg #[.slice aoc nc cac, .slice aof nf caf, .slice aot nt cat], .agg (cC pc r (.slice ao2 n2 cap2)), .agg #[.int .i64 o1, .int .i64 o2, .int .i64 o3, .int .i64 o4, .int .i64 im]] W fun e w' => e = .returned (.tuple #[.agg #[.int .i64 58, .int .i64 0, .int .i64 0, .int .i64 0, .int .i64 0, .int .i64 0, .int .i64 0, .int .i64 0, .int .i64 0, .int .i64 t, .int .i64 k], .bool true]) ∧ Gr W w') :
    Calls Tryd.prog 16 #[.agg #[.slice aoc nc cac, .slice aof nf caf, .slice aot nt cat], .agg (cC pc r (.slice ao n cap)), .agg #[.int .u64 ck, .int .i64 sl, .int .i64 gn]] w (StR w pc r ks #[.int .i64 58, .int .i64 0, .int .i64 0, .int .i64 0, .int .i64 0, .int .i64 0, .int .i64 0, .int .i64 0, .int .i64 0, .int .i64 t, .int .i64 k]) := by
  have hlen := h.len.1
  have hpc : 0 ≤ pc ∧ pc < (nc : Int) := by
    unfold nB at hB
    split at hB
    · rename_i q; rw [hlen]; exact q
    · cases hB
  have HA := hid (fun (W : World) (p : Gr w W) => apart_any P W pc r hr ao n cap ks (hk.gr p) hn)
  have HN := hid (fun (W : World) (p : Gr w W) => pnext9_any P W aoc aof aot nc nf nt cac caf cat cs (h.gr p) hu (hg.gr p) pc)
  rw [hI, hB] at HN
  unfold iV at HN
  simp only at HN
  have HT := hid HTR
  have V0 := hid (vs_new w #[.slice aoc nc cac, .slice aof nf caf, .slice aot nt cat] (cC pc r (.slice ao n cap)) #[.int .u64 ck, .int .i64 sl, .int .i64 gn] #[.int .i64 0, .int .i64 0, .int .i64 0, .int .i64 0, .int .i64 0, .int .i64 0, .int .i64 0, .int .i64 0, .int .i64 0, .int .i64 0, .int .i64 0, .int .i64 0, .int .i64 0, .int .i64 0, .int .i64 0, .int .i64 0, .int .i64 0, .slice none 0 0] #[.int .i64 0, .int .i64 0, .int .i64 0, .int .i64 0, .int .i64 0, .int .i64 0, .int .i64 0, .int .i64 0, .int .i64 0, .int .i64 0, .int .i64 0])
  have K0 := hid (show Gr w (((((w.alloc (.cells #[.slice aoc nc cac, .slice aof nf caf, .slice aot nt cat] 26)).alloc (.cells (cC pc r (.slice ao n cap)) 30)).alloc (.cells #[.int .u64 ck, .int .i64 sl, .int .i64 gn] 44)).alloc (.cells #[.int .i64 0, .int .i64 0, .int .i64 0, .int .i64 0, .int .i64 0, .int .i64 0, .int .i64 0, .int .i64 0, .int .i64 0, .int .i64 0, .int .i64 0, .int .i64 0, .int .i64 0, .int .i64 0, .int .i64 0, .int .i64 0, .int .i64 0, .slice none 0 0] 30)).alloc (.cells #[.int .i64 0, .int .i64 0, .int .i64 0, .int .i64 0, .int .i64 0, .int .i64 0, .int .i64 0, .int .i64 0, .int .i64 0, .int .i64 0, .int .i64 0] 49)) from Ch.alloc (Ch.alloc (Ch.alloc (Ch.alloc (Ch.alloc (Gr.refl w) _) _) _) _) _)
  have HSZ := hid (fun (pc : Int) (v : Value) => cC_size (pc := pc) (v := v) hr)
  have HKL := hid hk.len.1
  clear HTR
  have HRR := hid hr
  clear h hu hg hk hI hB hlen hr
  go_enter Tryd.func16, Tryd.ntmps16
  go_upto_region 3 with (first
    | (refine wpList_load_row rfl 30 (.tmp 4) rfl (w.heap.size + 1) rfl _ _ _ _ V0.out.c Tryd.underlying30 rfl (ctx_size' (HSZ.out _ _)) ?_)
    | (go_at_call 28; refine (HA.out _ K0.out).mono ?_; rintro e w1 ⟨ao2, n2, cap2, rfl, o1', g1⟩; have OX := hid (show Ow eI 1 3 (w.heap.size + 5) w1 (.slice ao2 n2 cap2) ks from by simpa using o1'); have G1 := hid (Gr.trans K0.out g1); have V1 := hid (V0.out.gr g1); clear o1' g1)
    | (refine st_row rfl 30 (.tmp 4) (.tmp 13) rfl (w.heap.size + 1) _ rfl rfl _ _ V1.out.c (ctx_size' (HSZ.out _ _)) ((HSZ.out _ _).trans (HSZ.out _ _).symm) cC_one ?_; intro w2 b2 k2; have V2 := hid (V1.out.only k2 b2); have K2 := hid k2; have G2 := hid (show Gr w w2 from Ch.trans G1.out k2 (fun q e => .inr (by have e1 : q = w.heap.size + 1 := e; omega))); obtain ⟨m0, m1, m2, ml⟩ := p3_cells V2.out.p; have mc : w2.cell? ⟨w.heap.size + 1, 0, none⟩ = some (.int .i64 pc) := (cell_of V2.out.c 0).trans (cC_pc _ _ _); have mcl := lt_of_block V2.out.c; clear b2 k2)
    | (go_at_call 23; refine (HN.out _ G2.out).mono ?_; rintro e w3 ⟨rfl, g3⟩; have V3 := hid (V2.out.gr (Ch.alloc g3 (.cells #[.int .i64 o1, .int .i64 o2, .int .i64 o3, .int .i64 o4, .int .i64 im] 46))); have G3 := hid (show Gr w (w3.alloc (.cells #[.int .i64 o1, .int .i64 o2, .int .i64 o3, .int .i64 o4, .int .i64 im] 46)) from Ch.alloc (Gr.trans G2.out g3) _); have I3 := hid (MapKept.heap_alloc w3 (.cells #[.int .i64 o1, .int .i64 o2, .int .i64 o3, .int .i64 o4, .int .i64 im] 46)).1; have OW3 := hid (show Ow eI 1 3 (w.heap.size + 5) (w3.alloc (.cells #[.int .i64 o1, .int .i64 o2, .int .i64 o3, .int .i64 o4, .int .i64 im] 46)) (.slice ao2 n2 cap2) ks from ((OX.out.ch K2.out (fun q hq e => by have e1 : q = w.heap.size + 1 := e; have := (OX.out.blk hq).1; omega)).gr (Ch.alloc g3 _))); have S3 := hid (show w.heap.size + 5 ≤ w3.heap.size from Nat.lt_of_lt_of_le (lt_of_block V2.out.t) g3.size); clear g3))
  generalize w3.alloc (.cells #[.int .i64 o1, .int .i64 o2, .int .i64 o3, .int .i64 o4, .int .i64 im] 46) = W3 at V3 G3 I3 OW3 ⊢
  generalize w3.heap.size = tb at I3 S3 ⊢
  obtain ⟨q0, q1⟩ := hpc
  have q2 : pc ≤ 35184372088832 := by omega
  have O3 := hid (show Ow eI 1 3 (w.heap.size + 5) W3 (.slice ao2 n2 cap2) ks from OW3.out)
  clear m0 m1 m2 ml mc mcl
  obtain ⟨m0, m1, m2, ml⟩ := p3_cells V3.out.p
  have i0 : W3.cell? ⟨tb, 0, none⟩ = some (.int .i64 o1) := (cell_of I3.out 0).trans rfl
  have i1 : W3.cell? ⟨tb, 1, none⟩ = some (.int .i64 o2) := (cell_of I3.out 1).trans rfl
  have i2 : W3.cell? ⟨tb, 2, none⟩ = some (.int .i64 o3) := (cell_of I3.out 2).trans rfl
  have i3 : W3.cell? ⟨tb, 3, none⟩ = some (.int .i64 o4) := (cell_of I3.out 3).trans rfl
  have i4 : W3.cell? ⟨tb, 4, none⟩ = some (.int .i64 im) := (cell_of I3.out 4).trans rfl
  have il := lt_of_block I3.out
  go_upto_region 7 with (first
    | (refine wpList_load_row rfl 30 (.tmp 4) rfl (w.heap.size + 1) rfl _ _ _ _ V3.out.c Tryd.underlying30 rfl (ctx_size' (HSZ.out _ _)) ?_)
    | (go_at_call 30; refine (HT.out _ ao2 n2 cap2 (by have q1 := O3.out.len.1; have q2 := HKL.out; omega)).mono ?_; rintro e w5 ⟨rfl, g5⟩; have V5 := hid (V3.out.gr g5); have G5 := hid (show Gr w w5 from Gr.trans G3.out g5); have I5 := hid (gr_blk I3.out g5); have O5 := hid (O3.out.gr g5); have T5 := hid (show (w5.alloc (.cells #[.int .i64 58, .int .i64 0, .int .i64 0, .int .i64 0, .int .i64 0, .int .i64 0, .int .i64 0, .int .i64 0, .int .i64 0, .int .i64 t, .int .i64 k] 49)).heap[w5.heap.size]? = some (.cells #[.int .i64 58, .int .i64 0, .int .i64 0, .int .i64 0, .int .i64 0, .int .i64 0, .int .i64 0, .int .i64 0, .int .i64 0, .int .i64 t, .int .i64 k] 49 (0, 0)) from al_at9 _ rfl); have c5 := (cell_of (gr_blk V3.out.c g5) 0).trans (cC_pc _ _ _); have z5 := frozen_of (gr_blk V3.out.c g5) 0; have l5 := lt_of_block (gr_blk V3.out.c g5); clear g5))
  have A6 := hid (show Gr w5 (w5.alloc (.cells #[.int .i64 58, .int .i64 0, .int .i64 0, .int .i64 0, .int .i64 0, .int .i64 0, .int .i64 0, .int .i64 0, .int .i64 0, .int .i64 t, .int .i64 k] 49)) from Ch.alloc (Gr.refl _) _)
  have V6 := hid (V5.out.gr A6.out)
  have O6 := hid (O5.out.gr A6.out)
  have G6 := hid (Gr.trans G5.out A6.out)
  have Z6 := hid (show w.heap.size + 5 ≤ w5.heap.size from lt_of_block V5.out.t)
  clear i0 i1 i2 i3 i4 il m0 m1 m2 ml c5 z5 l5 A6
  generalize w5.alloc (.cells #[.int .i64 58, .int .i64 0, .int .i64 0, .int .i64 0, .int .i64 0, .int .i64 0, .int .i64 0, .int .i64 0, .int .i64 0, .int .i64 t, .int .i64 k] 49) = W6 at V6 O6 G6 T5 ⊢
  generalize w5.heap.size = tw at T5 Z6 ⊢
  have hS0 : Sw w tw (cC pc r (.slice ao2 n2 cap2)) #[.int .i64 58, .int .i64 0, .int .i64 0, .int .i64 0, .int .i64 0, .int .i64 0, .int .i64 0, .int .i64 0, .int .i64 0, .int .i64 t, .int .i64 k] ks ao2 n2 cap2 W6.drew := ⟨Ch.drew G6.out, V6.out.c, T5.out, ⟨_, V6.out.r, rfl⟩, ⟨_, V6.out.t, rfl⟩, O6.out, Z6.out⟩
  refine wp_region_held_drew (S := Sw w tw (cC pc r (.slice ao2 n2 cap2)) #[.int .i64 58, .int .i64 0, .int .i64 0, .int .i64 0, .int .i64 0, .int .i64 0, .int .i64 0, .int .i64 0, .int .i64 0, .int .i64 t, .int .i64 k] ks ao2 n2 cap2) (by kernel_rfl) (by exact hS0) (fun _ => ?_)
  refine takeS_on (i := 0) 33 (v := ?v13) rfl rfl (by kernel_rfl) (by kernel_rfl) (by kernel_rfl) (fun _ _ _ h => h) (by kernel_rfl) ?hy13 (by exact hS0) ?_
  case hy13 => (intro w' hSw; refine Eq.trans (exec_row 30 (.tmp 4) rfl _ rfl _ _ _ _ hSw.c Tryd.underlying30 rfl (ctx_size' (HSZ.out _ _))) ?_; with_reducible rfl)
  simp only [Act.put, List.setIfInBounds_toArray, List.set_cons_zero, List.set_cons_succ]
  refine takeS_on (i := 1) 34 (v := ?v14) rfl rfl (by kernel_rfl) (by kernel_rfl) (by kernel_rfl) (fun _ _ _ h => h) (by kernel_rfl) ?hy14 (by exact hS0) ?_
  case hy14 => (intro w' hSw; refine Eq.trans (exec_row 49 (.tmp 10) rfl _ rfl _ _ _ _ hSw.i Tryd.underlying49 rfl want_size) ?_; with_reducible rfl)
  simp only [Act.put, List.setIfInBounds_toArray, List.set_cons_zero, List.set_cons_succ]
  refine wpAnyH_ready (rs := [2]) (by kernel_rfl) (by simp) (AllReadyH.cons rfl (fun K hK => ?_) AllReadyH.nil)
  rw [if_pos (by kernel_rfl)]
  obtain ⟨old, ht, hsz⟩ := hS0.r
  refine wp_store_row 30 (.tmp 6) (.tmp 33) rfl (w.heap.size + 3) (cC pc r (.slice ao2 n2 cap2)) rfl rfl _ _ ht (ctx_size' (HSZ.out _ _)) (hsz.trans (HSZ.out _ _).symm) cC_one ?_
  have b3 := setRow_blk (c := (cC pc r (.slice ao2 n2 cap2))) ht
  have hS1 := hS0.str (setRow_ch _ (w.heap.size + 3) (cC pc r (.slice ao2 n2 cap2))) b3 (HSZ.out _ _)
  have R3 := hid b3
  clear ht hsz b3
  refine hK.out _ _ (by exact hS1) (fun _ => ?_)
  clear hK K
  refine wpAnyH_ready (rs := [3]) (by kernel_rfl) (by simp) (AllReadyH.cons rfl (fun K hK => ?_) AllReadyH.nil)
  rw [if_pos (by kernel_rfl)]
  obtain ⟨old, ht, hsz⟩ := hS1.t
  refine wp_store_row 49 (.tmp 7) (.tmp 34) rfl (w.heap.size + 4) #[.int .i64 58, .int .i64 0, .int .i64 0, .int .i64 0, .int .i64 0, .int .i64 0, .int .i64 0, .int .i64 0, .int .i64 0, .int .i64 t, .int .i64 k] rfl rfl _ _ ht want_size hsz (wt_one 58 0 0 0 0 0 0 0 0 t k) ?_
  have b4 := setRow_blk (c := #[.int .i64 58, .int .i64 0, .int .i64 0, .int .i64 0, .int .i64 0, .int .i64 0, .int .i64 0, .int .i64 0, .int .i64 0, .int .i64 t, .int .i64 k]) ht
  have hS2 := hS1.stt (setRow_ch _ (w.heap.size + 4) #[.int .i64 58, .int .i64 0, .int .i64 0, .int .i64 0, .int .i64 0, .int .i64 0, .int .i64 0, .int .i64 0, .int .i64 0, .int .i64 t, .int .i64 k]) b4 rfl
  have R4 := hid (((setRow_ch _ (w.heap.size + 4) #[.int .i64 58, .int .i64 0, .int .i64 0, .int .i64 0, .int .i64 0, .int .i64 0, .int .i64 0, .int .i64 0, .int .i64 0, .int .i64 t, .int .i64 k]).block _ (lt_of_block R3.out) (fun q => by have q1 : w.heap.size + 3 = w.heap.size + 4 := q; omega)).trans R3.out)
  have T4 := hid b4
  clear ht hsz b4
  refine hK.out _ _ (by exact hS2) (fun _ => ?_)
  clear hK K
  refine wpAnyH_done (by kernel_rfl) ?_ _
  go_wp2_with fail
  refine bodyPost_ret (results_cell_cell rfl _ _ (w.heap.size + 3) (w.heap.size + 4) _ _ rfl (run_loadVar_row _ _ _ _ _ _ _ R4.out Tryd.underlying30 rfl (ctx_size' (HSZ.out _ _))) rfl (run_loadVar_row _ _ _ _ _ _ _ T4.out Tryd.underlying49 rfl want_size)) rfl ?_
  exact ⟨_, _, _, rfl, hS2.o.lower (by omega), hS2.g⟩

end Go.Proofs.YtcdlhfodeckleaaDoor.Lt
