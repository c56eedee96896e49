/-
  What the document's Step answers at nop, set, high and move. Condition: words are words.
  What the document's Step answers at now and self. Condition: words are words.
-/
import Derived.Test.YtcdlhfodeckleaaDoorSvMz
namespace Go.Proofs.YtcdlhfodeckleaaDoor.Lt
open Go.RowKit Wd

set_option maxHeartbeats 2000000 in
set_option maxRecDepth 20000 in
theorem rstep_nop (P : Nat → Prop) (w : World) (aoc aof aot : Option Addr) (nc nf nt cac caf cat : Nat) (cs : List Int) (h : Ls eU P w (.slice aoc nc cac) cs) (hu : U32s cs) (hcl : nc ≤ 35184372088832) (pc : Int) (r : List Int) (hr : r.length = 16) (ao : Option Addr) (n cap : Nat) (ks : List Int) (hk : Ls eI P w (.slice ao n cap) ks) (hn : n ≤ 17592186044416) (ck sl gn : Int)
    (o1 im : Int) (a b c : Nat) (la : a < 16) (lb : b < 16) (lc : c < 16) (x y z : Int) (hx : r[a]? = some x) (hy : r[b]? = some y) (hz : r[c]? = some z) (hI : nI cs pc = (o1, (a : Int), (b : Int), (c : Int), im)) (hB : nB cs pc = true) (ho : o1 = 1) :
    Calls Tryd.prog 17 #[.agg #[.slice aoc nc cac, .slice aof nf caf, .slice aot nt cat], .agg (cC pc r (.slice ao n cap)), .agg #[.int .u64 ck, .int .i64 sl, .int .i64 gn]] w (StR w (pc + 1) r ks #[.int .i64 0, .int .i64 0, .int .i64 0, .int .i64 0, .int .i64 0, .int .i64 0, .int .i64 0, .int .i64 0, .int .i64 0, .int .i64 0, .int .i64 0]) := by
  have hlen := h.len.1
  have hpc : 0 ≤ pc ∧ pc < (nc : Int) := by
    unfold nB at hB
    split at hB
    · rename_i q; rw [hlen]; exact q
    · cases hB
  have HN := hid (fun (W : World) (p : Gr w W) => rnext9_any P W aoc aof aot nc nf nt cac caf cat cs (h.gr p) hu pc r hr ao n cap)
  rw [hI, hB] at HN
  unfold iV at HN
  simp only at HN
  have HC := hid (fun (W : World) (p : Gr w W) => rcalls9_any P W ao n cap ks (hk.gr p) hn)
  have V0 := hid (vs_new w #[.slice aoc nc cac, .slice aof nf caf, .slice aot nt cat] (cC pc r (.slice ao n cap)) #[.int .u64 ck, .int .i64 sl, .int .i64 gn] #[.int .i64 0, .int .i64 0, .int .i64 0, .int .i64 0, .int .i64 0, .int .i64 0, .int .i64 0, .int .i64 0, .int .i64 0, .int .i64 0, .int .i64 0, .int .i64 0, .int .i64 0, .int .i64 0, .int .i64 0, .int .i64 0, .int .i64 0, .slice none 0 0] #[.int .i64 0, .int .i64 0, .int .i64 0, .int .i64 0, .int .i64 0, .int .i64 0, .int .i64 0, .int .i64 0, .int .i64 0, .int .i64 0, .int .i64 0])
  have K0 := hid (show Gr w (((((w.alloc (.cells #[.slice aoc nc cac, .slice aof nf caf, .slice aot nt cat] 26)).alloc (.cells (cC pc r (.slice ao n cap)) 30)).alloc (.cells #[.int .u64 ck, .int .i64 sl, .int .i64 gn] 44)).alloc (.cells #[.int .i64 0, .int .i64 0, .int .i64 0, .int .i64 0, .int .i64 0, .int .i64 0, .int .i64 0, .int .i64 0, .int .i64 0, .int .i64 0, .int .i64 0, .int .i64 0, .int .i64 0, .int .i64 0, .int .i64 0, .int .i64 0, .int .i64 0, .slice none 0 0] 30)).alloc (.cells #[.int .i64 0, .int .i64 0, .int .i64 0, .int .i64 0, .int .i64 0, .int .i64 0, .int .i64 0, .int .i64 0, .int .i64 0, .int .i64 0, .int .i64 0] 49)) from Ch.alloc (Ch.alloc (Ch.alloc (Ch.alloc (Ch.alloc (Gr.refl w) _) _) _) _) _)
  have HSZ := hid (fun (pc : Int) (v : Value) => cC_size (pc := pc) (v := v) hr)
  have HX := hid hx
  have HY := hid hy
  have HZ := hid hz
  have a0 : (0 : Int) ≤ (a : Int) := by omega
  have a1 : (a : Int) < 16 := by omega
  have b0 : (0 : Int) ≤ (b : Int) := by omega
  have b1 : (b : Int) < 16 := by omega
  have c0 : (0 : Int) ≤ (c : Int) := by omega
  have c1 : (c : Int) < 16 := by omega
  have HKL := hid hk.len.1
  have HRR := hid hr
  have HO1 := hid ho
  have HTW := hid (show ¬ Two o1 from by unfold Two; omega)
  clear ho
  have e1 : (o1 == 1) = true := by rw [HO1.out]; rfl
  obtain ⟨q0, q1⟩ := hpc
  have q2 : pc ≤ 35184372088832 := by omega
  clear h hu hI hB hlen hr hx hy hz hk
  go_enter Tryd.func17, Tryd.ntmps17
  go_upto_region 4 with (first
    | (refine wpList_load_row rfl 30 (.tmp 4) rfl (w.heap.size + 1) rfl _ _ _ _ V0.out.c Tryd.underlying30 rfl (ctx_size' (HSZ.out _ _)) ?_)
    | (go_at_call 26; refine (HN.out _ K0.out).mono ?_; rintro e w1 ⟨rfl, g1⟩; have V1 := hid (V0.out.gr (Ch.alloc g1 (.cells #[.int .i64 o1, .int .i64 (a : Int), .int .i64 (b : Int), .int .i64 (c : Int), .int .i64 im] 46))); have G1 := hid (show Gr w (w1.alloc (.cells #[.int .i64 o1, .int .i64 (a : Int), .int .i64 (b : Int), .int .i64 (c : Int), .int .i64 im] 46)) from Ch.alloc (Gr.trans K0.out g1) _); have I1 := hid (MapKept.heap_alloc w1 (.cells #[.int .i64 o1, .int .i64 (a : Int), .int .i64 (b : Int), .int .i64 (c : Int), .int .i64 im] 46)).1; have S1 := hid (show w.heap.size + 5 ≤ w1.heap.size from Nat.lt_of_lt_of_le (lt_of_block V0.out.t) g1.size); have S1b := hid (show w1.heap.size < (w1.alloc (.cells #[.int .i64 o1, .int .i64 (a : Int), .int .i64 (b : Int), .int .i64 (c : Int), .int .i64 im] 46)).heap.size from (by simp)); clear g1))
  generalize w1.alloc (.cells #[.int .i64 o1, .int .i64 (a : Int), .int .i64 (b : Int), .int .i64 (c : Int), .int .i64 im] 46) = W1 at V1 G1 I1 S1b ⊢
  generalize w1.heap.size = tb at I1 S1 S1b ⊢
  have BD0 := hid (show (W1.alloc (.cells #[.int .i64 0, .int .i64 0, .int .i64 0, .int .i64 0, .int .i64 0, .int .i64 0, .int .i64 0, .int .i64 0, .int .i64 0, .int .i64 0, .int .i64 0, .int .i64 0, .int .i64 0, .int .i64 0, .int .i64 0, .int .i64 0, .int .i64 0, .slice none 0 0] 30)).heap[W1.heap.size]? = some (.cells #[.int .i64 0, .int .i64 0, .int .i64 0, .int .i64 0, .int .i64 0, .int .i64 0, .int .i64 0, .int .i64 0, .int .i64 0, .int .i64 0, .int .i64 0, .int .i64 0, .int .i64 0, .int .i64 0, .int .i64 0, .int .i64 0, .int .i64 0, .slice none 0 0] 30 (0, 0)) from (MapKept.heap_alloc W1 _).1)
  have GA := hid (show Gr W1 (W1.alloc (.cells #[.int .i64 0, .int .i64 0, .int .i64 0, .int .i64 0, .int .i64 0, .int .i64 0, .int .i64 0, .int .i64 0, .int .i64 0, .int .i64 0, .int .i64 0, .int .i64 0, .int .i64 0, .int .i64 0, .int .i64 0, .int .i64 0, .int .i64 0, .slice none 0 0] 30)) from Ch.alloc (Gr.refl _) _)
  go_upto_region 6 with (first
    | (refine wpList_load_row rfl 30 (.tmp 4) rfl (w.heap.size + 1) rfl _ _ _ _ V1.out.c Tryd.underlying30 rfl (ctx_size' (HSZ.out _ _)) ?_)
    | (refine st_row rfl 30 (.tmp 10) (.tmp 31) rfl W1.heap.size _ rfl rfl _ _ BD0.out (ctx_size' (HSZ.out _ _)) (HSZ.out _ _).symm cC_one ?_; intro w2 b2 k2; have D2 := hid b2; have G2 := hid (show Gr W1 w2 from Ch.trans GA.out k2 (fun q e => .inr (by have e1 : q = W1.heap.size := e; omega))); have V2 := hid (V1.out.gr G2.out); have I2 := hid (gr_blk I1.out G2.out); have y17 := (cell_of V2.out.c 17).trans (cC_v HRR.out _ _); have l17 := lt_of_block V2.out.c; clear b2 k2)
    | (go_at_call 38; refine (HC.out _ (Gr.trans G1.out G2.out)).mono ?_; rintro e w3 ⟨v3, rfl, o3, g3⟩; obtain ⟨ao2, cap2, hv3⟩ := o3.form; generalize hq3 : ks.length = n2 at hv3; subst hv3; have HN2 := hid hq3; have D3 := hid (gr_blk D2.out g3); have V3 := hid (V2.out.gr g3); have I3 := hid (gr_blk I2.out g3); have G3 := hid (Gr.trans (Gr.trans G1.out G2.out) g3); have O3 := hid o3; have S3 := hid (show W1.heap.size < w2.heap.size from lt_of_block D2.out); have d17 := (cell_of D3.out 17).trans (cC_v HRR.out _ _); have e17 := frozen_of D3.out 17; have m17 := lt_of_block D3.out; clear o3 g3 hq3))
  generalize W1.heap.size = td at D2 D3 S1b S3 d17 e17 m17 BD0 ⊢
  have hb4 : (w3.setCell ⟨td, 17, none⟩ (.slice ao2 n2 cap2)).heap[td]? = some (.cells (cC pc r (.slice ao2 n2 cap2)) 30 (0, 0)) := by rw [← cC_setv HRR.out pc (.slice ao n cap)]; exact setCell_block D3.out 17 _
  have hc4 : Ch (Only td) w3 (w3.setCell ⟨td, 17, none⟩ (.slice ao2 n2 cap2)) := (Ch.refl _ _).own 17 _
  have V4 := hid (V3.out.off hc4 (by have := S1.out; have := S1b.out; omega))
  have I4 := hid ((hc4.block _ (lt_of_block I3.out) (fun q => by have q1 : tb = td := q; have := S1b.out; omega)).trans I3.out)
  have O4 := hid (O3.out.ch hc4 (fun q hq e => by have e1 : q = td := e; have := (O3.out.blk hq).1; have := S3.out; omega))
  have G4 := hid (show Gr w (w3.setCell ⟨td, 17, none⟩ (.slice ao2 n2 cap2)) from Ch.trans G3.out hc4 (fun q e => .inr (by have e1 : q = td := e; have := S1.out; have := S1b.out; omega)))
  have D4 := hid hb4
  have H2 := hid (show ∀ q, Blk (.slice ao2 n2 cap2) q → td < q from fun q e => by have := (O3.out.blk e).1; have := S3.out; omega)
  have T5 := hid (show w.heap.size + 5 ≤ tb ∧ tb < td from ⟨S1.out, S1b.out⟩)
  have O5 := hid (O4.out.lower (show w.heap.size + 5 ≤ _ from by have := S1.out; have := S1b.out; have := S3.out; omega))
  clear hb4 hc4 y17 l17 d17 e17 m17 D2 D3 BD0 GA V2 V3 I2 I3 G2 G3 O3 S3 O4 S1 S1b
  generalize w3.setCell ⟨td, 17, none⟩ (.slice ao2 n2 cap2) = W4 at V4 I4 G4 D4 O5 ⊢
  have d0 := (cell_of D4.out 0).trans (cC_pc _ _ _)
  have e0 := frozen_of D4.out 0
  have m0 := lt_of_block D4.out
  go_upto_region 7 with fail
  have hb6 : (W4.setCell ⟨td, 0, none⟩ (.int .i64 (pc + 1))).heap[td]? = some (.cells (cC (pc + 1) r (.slice ao2 n2 cap2)) 30 (0, 0)) := by rw [← cC_setpc pc]; exact setCell_block D4.out 0 _
  have hc6 : Ch (Only td) W4 (W4.setCell ⟨td, 0, none⟩ (.int .i64 (pc + 1))) := (Ch.refl _ _).own 0 _
  have V6 := hid (V4.out.off hc6 (by have := T5.out; omega))
  have I6 := hid ((hc6.block _ (lt_of_block I4.out) (fun q => by have q1 : tb = td := q; have := T5.out; omega)).trans I4.out)
  have O6 := hid (O5.out.ch hc6 (fun q hq e => by have e1 : q = td := e; have := H2.out q hq; omega))
  have G6 := hid (show Gr w (W4.setCell ⟨td, 0, none⟩ (.int .i64 (pc + 1))) from Ch.trans G4.out hc6 (fun q e => .inr (by have e1 : q = td := e; have := T5.out; omega)))
  have D6 := hid hb6
  clear hb6 hc6 d0 e0 m0
  generalize W4.setCell ⟨td, 0, none⟩ (.int .i64 (pc + 1)) = W6 at V6 I6 G6 D6 O6 ⊢
  have i0 := (cell_of I6.out 0).trans (rfl : _ = some (Value.int .i64 o1))
  have i1 := (cell_of I6.out 1).trans (rfl : _ = some (Value.int .i64 (a : Int)))
  have i2 := (cell_of I6.out 2).trans (rfl : _ = some (Value.int .i64 (b : Int)))
  have i3 := (cell_of I6.out 3).trans (rfl : _ = some (Value.int .i64 (c : Int)))
  have i4 := (cell_of I6.out 4).trans (rfl : _ = some (Value.int .i64 im))
  have il := lt_of_block I6.out
  have x1 := (cell_of V6.out.c (1 + a)).trans (cC_get HX.out)
  have x2 := (cell_of V6.out.c (1 + b)).trans (cC_get HY.out)
  have x3 := (cell_of V6.out.c (1 + c)).trans (cC_get HZ.out)
  have xl := lt_of_block V6.out.c
  go_quiet (fail)
  clear x1 x2 x3 xl i0 i1 i2 i3 i4 il
  have V7 := hid (show Vs (W6.drewN nq) w.heap.size #[.slice aoc nc cac, .slice aof nf caf, .slice aot nt cat] (cC pc r (.slice ao n cap)) #[.int .u64 ck, .int .i64 sl, .int .i64 gn] #[.int .i64 0, .int .i64 0, .int .i64 0, .int .i64 0, .int .i64 0, .int .i64 0, .int .i64 0, .int .i64 0, .int .i64 0, .int .i64 0, .int .i64 0, .int .i64 0, .int .i64 0, .int .i64 0, .int .i64 0, .int .i64 0, .int .i64 0, .slice none 0 0] #[.int .i64 0, .int .i64 0, .int .i64 0, .int .i64 0, .int .i64 0, .int .i64 0, .int .i64 0, .int .i64 0, .int .i64 0, .int .i64 0, .int .i64 0] from ⟨V6.out.p, V6.out.c, V6.out.e, V6.out.r, V6.out.t⟩)
  have I7 := hid (show (W6.drewN nq).heap[tb]? = some (.cells #[.int .i64 o1, .int .i64 (a : Int), .int .i64 (b : Int), .int .i64 (c : Int), .int .i64 im] 46 (0, 0)) from I6.out)
  have D7 := hid (show (W6.drewN nq).heap[td]? = some (.cells (cC (pc + 1) r (.slice ao2 n2 cap2)) 30 (0, 0)) from D6.out)
  have O7 := hid (show Ow eI 1 3 (w.heap.size + 5) (W6.drewN nq) (.slice ao2 n2 cap2) ks from O6.out)
  have G7 := hid (show Gr w (W6.drewN nq) from Ch.drewN G6.out nq)
  clear V6 I6 D6 O6 G6
  generalize W6.drewN nq = W7 at V7 I7 D7 O7 G7 ⊢
  have i0 := (cell_of I7.out 0).trans (rfl : _ = some (Value.int .i64 o1))
  have il := lt_of_block I7.out
  have HWK := hid (fun (W : World) => worked_no o1 y z HTW.out W)
  go_wp2_with (first
    | (refine wpList_load_row rfl 30 (.tmp 10) rfl td rfl _ _ _ _ D8.out Tryd.underlying30 rfl (ctx_size' (HSZ.out _ _)) ?_)
    | (refine st_row rfl 30 (.tmp 6) (.tmp 248) rfl (w.heap.size + 3) _ rfl rfl _ _ V8.out.r (ctx_size' (HSZ.out _ _)) (HSZ.out _ _).symm cC_one ?_; intro w9 b9 k9; have R9 := hid b9; have K9 := hid k9; have T9 := hid ((k9.block _ (lt_of_block V8.out.t) (fun q => by have q1 : w.heap.size + 4 = w.heap.size + 3 := q; omega)).trans V8.out.t); clear b9 k9)
    | (refine st_row rfl 49 (.tmp 7) (.tmp 249) rfl (w.heap.size + 4) _ rfl rfl _ _ T9.out want_size rfl one11 ?_; intro w10 b10 k10; have T10 := hid b10; have K10 := hid k10; have R10 := hid ((k10.block _ (lt_of_block R9.out) (fun q => by have q1 : w.heap.size + 3 = w.heap.size + 4 := q; omega)).trans R9.out); clear b10 k10)
    | (go_at_call 39; refine (HWK.out _).mono ?_; rintro e w8 ⟨rfl, g8⟩; have V8 := hid (V7.out.gr g8); have I8 := hid (gr_blk I7.out g8); have D8 := hid (gr_blk D7.out g8); have O8 := hid (O7.out.gr g8); have G8 := hid (Gr.trans G7.out g8); have j0 := (cell_of I8.out 0).trans (rfl : _ = some (Value.int .i64 o1)); have jl := lt_of_block I8.out; clear g8 i0 il))
  refine bodyPost_ret (results_cell_cell rfl _ _ (w.heap.size + 3) (w.heap.size + 4) _ _ rfl (run_loadVar_row _ _ _ _ _ _ _ R10.out Tryd.underlying30 rfl (ctx_size' (HSZ.out _ _))) rfl (run_loadVar_row _ _ _ _ _ _ _ T10.out Tryd.underlying49 rfl want_size)) rfl ?_
  exact ⟨_, _, _, rfl, ((O8.out.ch K9.out (fun q hq e => by have e1 : q = w.heap.size + 3 := e; have := (O8.out.blk hq).1; omega)).ch K10.out (fun q hq e => by have e1 : q = w.heap.size + 4 := e; have := (O8.out.blk hq).1; omega)).lower (by omega), Ch.trans (Ch.trans G8.out K9.out (fun q e => .inr (by have e1 : q = w.heap.size + 3 := e; omega))) K10.out (fun q e => .inr (by have e1 : q = w.heap.size + 4 := e; omega))⟩
set_option maxHeartbeats 2000000 in
set_option maxRecDepth 20000 in
theorem rstep_set (P : Nat → Prop) (w : World) (aoc aof aot : Option Addr) (nc nf nt cac caf cat : Nat) (cs : List Int) (h : Ls eU P w (.slice aoc nc cac) cs) (hu : U32s cs) (hcl : nc ≤ 35184372088832) (pc : Int) (r : List Int) (hr : r.length = 16) (ao : Option Addr) (n cap : Nat) (ks : List Int) (hk : Ls eI P w (.slice ao n cap) ks) (hn : n ≤ 17592186044416) (ck sl gn : Int)
    (o1 im : Int) (a b c : Nat) (la : a < 16) (lb : b < 16) (lc : c < 16) (x y z : Int) (hx : r[a]? = some x) (hy : r[b]? = some y) (hz : r[c]? = some z) (hI : nI cs pc = (o1, (a : Int), (b : Int), (c : Int), im)) (hB : nB cs pc = true) (ho : o1 = 2) :
    Calls Tryd.prog 17 #[.agg #[.slice aoc nc cac, .slice aof nf caf, .slice aot nt cat], .agg (cC pc r (.slice ao n cap)), .agg #[.int .u64 ck, .int .i64 sl, .int .i64 gn]] w (StR w (pc + 1) (r.set a im) ks #[.int .i64 0, .int .i64 0, .int .i64 0, .int .i64 0, .int .i64 0, .int .i64 0, .int .i64 0, .int .i64 0, .int .i64 0, .int .i64 0, .int .i64 0]) := by
  have hlen := h.len.1
  have hpc : 0 ≤ pc ∧ pc < (nc : Int) := by
    unfold nB at hB
    split at hB
    · rename_i q; rw [hlen]; exact q
    · cases hB
  have HN := hid (fun (W : World) (p : Gr w W) => rnext9_any P W aoc aof aot nc nf nt cac caf cat cs (h.gr p) hu pc r hr ao n cap)
  rw [hI, hB] at HN
  unfold iV at HN
  simp only at HN
  have HC := hid (fun (W : World) (p : Gr w W) => rcalls9_any P W ao n cap ks (hk.gr p) hn)
  have V0 := hid (vs_new w #[.slice aoc nc cac, .slice aof nf caf, .slice aot nt cat] (cC pc r (.slice ao n cap)) #[.int .u64 ck, .int .i64 sl, .int .i64 gn] #[.int .i64 0, .int .i64 0, .int .i64 0, .int .i64 0, .int .i64 0, .int .i64 0, .int .i64 0, .int .i64 0, .int .i64 0, .int .i64 0, .int .i64 0, .int .i64 0, .int .i64 0, .int .i64 0, .int .i64 0, .int .i64 0, .int .i64 0, .slice none 0 0] #[.int .i64 0, .int .i64 0, .int .i64 0, .int .i64 0, .int .i64 0, .int .i64 0, .int .i64 0, .int .i64 0, .int .i64 0, .int .i64 0, .int .i64 0])
  have K0 := hid (show Gr w (((((w.alloc (.cells #[.slice aoc nc cac, .slice aof nf caf, .slice aot nt cat] 26)).alloc (.cells (cC pc r (.slice ao n cap)) 30)).alloc (.cells #[.int .u64 ck, .int .i64 sl, .int .i64 gn] 44)).alloc (.cells #[.int .i64 0, .int .i64 0, .int .i64 0, .int .i64 0, .int .i64 0, .int .i64 0, .int .i64 0, .int .i64 0, .int .i64 0, .int .i64 0, .int .i64 0, .int .i64 0, .int .i64 0, .int .i64 0, .int .i64 0, .int .i64 0, .int .i64 0, .slice none 0 0] 30)).alloc (.cells #[.int .i64 0, .int .i64 0, .int .i64 0, .int .i64 0, .int .i64 0, .int .i64 0, .int .i64 0, .int .i64 0, .int .i64 0, .int .i64 0, .int .i64 0] 49)) from Ch.alloc (Ch.alloc (Ch.alloc (Ch.alloc (Ch.alloc (Gr.refl w) _) _) _) _) _)
  have HSZ := hid (fun (pc : Int) (v : Value) => cC_size (pc := pc) (v := v) hr)
  have HX := hid hx
  have HY := hid hy
  have HZ := hid hz
  have a0 : (0 : Int) ≤ (a : Int) := by omega
  have a1 : (a : Int) < 16 := by omega
  have b0 : (0 : Int) ≤ (b : Int) := by omega
  have b1 : (b : Int) < 16 := by omega
  have c0 : (0 : Int) ≤ (c : Int) := by omega
  have c1 : (c : Int) < 16 := by omega
  have HKL := hid hk.len.1
  have HRR := hid hr
  have HO1 := hid ho
  have HTW := hid (show ¬ Two o1 from by unfold Two; omega)
  clear ho
  have e1 : (o1 == 1) = false := by rw [HO1.out]; rfl
  have e2 : (o1 == 2) = true := by rw [HO1.out]; rfl
  obtain ⟨q0, q1⟩ := hpc
  have q2 : pc ≤ 35184372088832 := by omega
  clear h hu hI hB hlen hr hx hy hz hk
  go_enter Tryd.func17, Tryd.ntmps17
  go_upto_region 4 with (first
    | (refine wpList_load_row rfl 30 (.tmp 4) rfl (w.heap.size + 1) rfl _ _ _ _ V0.out.c Tryd.underlying30 rfl (ctx_size' (HSZ.out _ _)) ?_)
    | (go_at_call 26; refine (HN.out _ K0.out).mono ?_; rintro e w1 ⟨rfl, g1⟩; have V1 := hid (V0.out.gr (Ch.alloc g1 (.cells #[.int .i64 o1, .int .i64 (a : Int), .int .i64 (b : Int), .int .i64 (c : Int), .int .i64 im] 46))); have G1 := hid (show Gr w (w1.alloc (.cells #[.int .i64 o1, .int .i64 (a : Int), .int .i64 (b : Int), .int .i64 (c : Int), .int .i64 im] 46)) from Ch.alloc (Gr.trans K0.out g1) _); have I1 := hid (MapKept.heap_alloc w1 (.cells #[.int .i64 o1, .int .i64 (a : Int), .int .i64 (b : Int), .int .i64 (c : Int), .int .i64 im] 46)).1; have S1 := hid (show w.heap.size + 5 ≤ w1.heap.size from Nat.lt_of_lt_of_le (lt_of_block V0.out.t) g1.size); have S1b := hid (show w1.heap.size < (w1.alloc (.cells #[.int .i64 o1, .int .i64 (a : Int), .int .i64 (b : Int), .int .i64 (c : Int), .int .i64 im] 46)).heap.size from (by simp)); clear g1))
  generalize w1.alloc (.cells #[.int .i64 o1, .int .i64 (a : Int), .int .i64 (b : Int), .int .i64 (c : Int), .int .i64 im] 46) = W1 at V1 G1 I1 S1b ⊢
  generalize w1.heap.size = tb at I1 S1 S1b ⊢
  have BD0 := hid (show (W1.alloc (.cells #[.int .i64 0, .int .i64 0, .int .i64 0, .int .i64 0, .int .i64 0, .int .i64 0, .int .i64 0, .int .i64 0, .int .i64 0, .int .i64 0, .int .i64 0, .int .i64 0, .int .i64 0, .int .i64 0, .int .i64 0, .int .i64 0, .int .i64 0, .slice none 0 0] 30)).heap[W1.heap.size]? = some (.cells #[.int .i64 0, .int .i64 0, .int .i64 0, .int .i64 0, .int .i64 0, .int .i64 0, .int .i64 0, .int .i64 0, .int .i64 0, .int .i64 0, .int .i64 0, .int .i64 0, .int .i64 0, .int .i64 0, .int .i64 0, .int .i64 0, .int .i64 0, .slice none 0 0] 30 (0, 0)) from (MapKept.heap_alloc W1 _).1)
  have GA := hid (show Gr W1 (W1.alloc (.cells #[.int .i64 0, .int .i64 0, .int .i64 0, .int .i64 0, .int .i64 0, .int .i64 0, .int .i64 0, .int .i64 0, .int .i64 0, .int .i64 0, .int .i64 0, .int .i64 0, .int .i64 0, .int .i64 0, .int .i64 0, .int .i64 0, .int .i64 0, .slice none 0 0] 30)) from Ch.alloc (Gr.refl _) _)
  go_upto_region 6 with (first
    | (refine wpList_load_row rfl 30 (.tmp 4) rfl (w.heap.size + 1) rfl _ _ _ _ V1.out.c Tryd.underlying30 rfl (ctx_size' (HSZ.out _ _)) ?_)
    | (refine st_row rfl 30 (.tmp 10) (.tmp 31) rfl W1.heap.size _ rfl rfl _ _ BD0.out (ctx_size' (HSZ.out _ _)) (HSZ.out _ _).symm cC_one ?_; intro w2 b2 k2; have D2 := hid b2; have G2 := hid (show Gr W1 w2 from Ch.trans GA.out k2 (fun q e => .inr (by have e1 : q = W1.heap.size := e; omega))); have V2 := hid (V1.out.gr G2.out); have I2 := hid (gr_blk I1.out G2.out); have y17 := (cell_of V2.out.c 17).trans (cC_v HRR.out _ _); have l17 := lt_of_block V2.out.c; clear b2 k2)
    | (go_at_call 38; refine (HC.out _ (Gr.trans G1.out G2.out)).mono ?_; rintro e w3 ⟨v3, rfl, o3, g3⟩; obtain ⟨ao2, cap2, hv3⟩ := o3.form; generalize hq3 : ks.length = n2 at hv3; subst hv3; have HN2 := hid hq3; have D3 := hid (gr_blk D2.out g3); have V3 := hid (V2.out.gr g3); have I3 := hid (gr_blk I2.out g3); have G3 := hid (Gr.trans (Gr.trans G1.out G2.out) g3); have O3 := hid o3; have S3 := hid (show W1.heap.size < w2.heap.size from lt_of_block D2.out); have d17 := (cell_of D3.out 17).trans (cC_v HRR.out _ _); have e17 := frozen_of D3.out 17; have m17 := lt_of_block D3.out; clear o3 g3 hq3))
  generalize W1.heap.size = td at D2 D3 S1b S3 d17 e17 m17 BD0 ⊢
  have hb4 : (w3.setCell ⟨td, 17, none⟩ (.slice ao2 n2 cap2)).heap[td]? = some (.cells (cC pc r (.slice ao2 n2 cap2)) 30 (0, 0)) := by rw [← cC_setv HRR.out pc (.slice ao n cap)]; exact setCell_block D3.out 17 _
  have hc4 : Ch (Only td) w3 (w3.setCell ⟨td, 17, none⟩ (.slice ao2 n2 cap2)) := (Ch.refl _ _).own 17 _
  have V4 := hid (V3.out.off hc4 (by have := S1.out; have := S1b.out; omega))
  have I4 := hid ((hc4.block _ (lt_of_block I3.out) (fun q => by have q1 : tb = td := q; have := S1b.out; omega)).trans I3.out)
  have O4 := hid (O3.out.ch hc4 (fun q hq e => by have e1 : q = td := e; have := (O3.out.blk hq).1; have := S3.out; omega))
  have G4 := hid (show Gr w (w3.setCell ⟨td, 17, none⟩ (.slice ao2 n2 cap2)) from Ch.trans G3.out hc4 (fun q e => .inr (by have e1 : q = td := e; have := S1.out; have := S1b.out; omega)))
  have D4 := hid hb4
  have H2 := hid (show ∀ q, Blk (.slice ao2 n2 cap2) q → td < q from fun q e => by have := (O3.out.blk e).1; have := S3.out; omega)
  have T5 := hid (show w.heap.size + 5 ≤ tb ∧ tb < td from ⟨S1.out, S1b.out⟩)
  have O5 := hid (O4.out.lower (show w.heap.size + 5 ≤ _ from by have := S1.out; have := S1b.out; have := S3.out; omega))
  clear hb4 hc4 y17 l17 d17 e17 m17 D2 D3 BD0 GA V2 V3 I2 I3 G2 G3 O3 S3 O4 S1 S1b
  generalize w3.setCell ⟨td, 17, none⟩ (.slice ao2 n2 cap2) = W4 at V4 I4 G4 D4 O5 ⊢
  have d0 := (cell_of D4.out 0).trans (cC_pc _ _ _)
  have e0 := frozen_of D4.out 0
  have m0 := lt_of_block D4.out
  go_upto_region 7 with fail
  have hb6 : (W4.setCell ⟨td, 0, none⟩ (.int .i64 (pc + 1))).heap[td]? = some (.cells (cC (pc + 1) r (.slice ao2 n2 cap2)) 30 (0, 0)) := by rw [← cC_setpc pc]; exact setCell_block D4.out 0 _
  have hc6 : Ch (Only td) W4 (W4.setCell ⟨td, 0, none⟩ (.int .i64 (pc + 1))) := (Ch.refl _ _).own 0 _
  have V6 := hid (V4.out.off hc6 (by have := T5.out; omega))
  have I6 := hid ((hc6.block _ (lt_of_block I4.out) (fun q => by have q1 : tb = td := q; have := T5.out; omega)).trans I4.out)
  have O6 := hid (O5.out.ch hc6 (fun q hq e => by have e1 : q = td := e; have := H2.out q hq; omega))
  have G6 := hid (show Gr w (W4.setCell ⟨td, 0, none⟩ (.int .i64 (pc + 1))) from Ch.trans G4.out hc6 (fun q e => .inr (by have e1 : q = td := e; have := T5.out; omega)))
  have D6 := hid hb6
  clear hb6 hc6 d0 e0 m0
  generalize W4.setCell ⟨td, 0, none⟩ (.int .i64 (pc + 1)) = W6 at V6 I6 G6 D6 O6 ⊢
  have i0 := (cell_of I6.out 0).trans (rfl : _ = some (Value.int .i64 o1))
  have i1 := (cell_of I6.out 1).trans (rfl : _ = some (Value.int .i64 (a : Int)))
  have i2 := (cell_of I6.out 2).trans (rfl : _ = some (Value.int .i64 (b : Int)))
  have i3 := (cell_of I6.out 3).trans (rfl : _ = some (Value.int .i64 (c : Int)))
  have i4 := (cell_of I6.out 4).trans (rfl : _ = some (Value.int .i64 im))
  have il := lt_of_block I6.out
  have x1 := (cell_of V6.out.c (1 + a)).trans (cC_get HX.out)
  have x2 := (cell_of V6.out.c (1 + b)).trans (cC_get HY.out)
  have x3 := (cell_of V6.out.c (1 + c)).trans (cC_get HZ.out)
  have xl := lt_of_block V6.out.c
  go_quiet (fail)
  clear x1 x2 x3 xl i0 i1 i2 i3 i4 il
  have V7 := hid (show Vs (W6.drewN nq) w.heap.size #[.slice aoc nc cac, .slice aof nf caf, .slice aot nt cat] (cC pc r (.slice ao n cap)) #[.int .u64 ck, .int .i64 sl, .int .i64 gn] #[.int .i64 0, .int .i64 0, .int .i64 0, .int .i64 0, .int .i64 0, .int .i64 0, .int .i64 0, .int .i64 0, .int .i64 0, .int .i64 0, .int .i64 0, .int .i64 0, .int .i64 0, .int .i64 0, .int .i64 0, .int .i64 0, .int .i64 0, .slice none 0 0] #[.int .i64 0, .int .i64 0, .int .i64 0, .int .i64 0, .int .i64 0, .int .i64 0, .int .i64 0, .int .i64 0, .int .i64 0, .int .i64 0, .int .i64 0] from ⟨V6.out.p, V6.out.c, V6.out.e, V6.out.r, V6.out.t⟩)
  have I7 := hid (show (W6.drewN nq).heap[tb]? = some (.cells #[.int .i64 o1, .int .i64 (a : Int), .int .i64 (b : Int), .int .i64 (c : Int), .int .i64 im] 46 (0, 0)) from I6.out)
  have D7 := hid (show (W6.drewN nq).heap[td]? = some (.cells (cC (pc + 1) r (.slice ao2 n2 cap2)) 30 (0, 0)) from D6.out)
  have O7 := hid (show Ow eI 1 3 (w.heap.size + 5) (W6.drewN nq) (.slice ao2 n2 cap2) ks from O6.out)
  have G7 := hid (show Gr w (W6.drewN nq) from Ch.drewN G6.out nq)
  clear V6 I6 D6 O6 G6
  generalize W6.drewN nq = W7 at V7 I7 D7 O7 G7 ⊢
  have i0 := (cell_of I7.out 0).trans (rfl : _ = some (Value.int .i64 o1))
  have il := lt_of_block I7.out
  have HWK := hid (fun (W : World) => worked_no o1 y z HTW.out W)
  go_upto_region 16 with (go_at_call 39; refine (HWK.out _).mono ?_; rintro e w8 ⟨rfl, g8⟩; have V8 := hid (V7.out.gr g8); have I8 := hid (gr_blk I7.out g8); have D8 := hid (gr_blk D7.out g8); have O8 := hid (O7.out.gr g8); have G8 := hid (Gr.trans G7.out g8); have j0 := (cell_of I8.out 0).trans (rfl : _ = some (Value.int .i64 o1)); have jl := lt_of_block I8.out; clear g8 i0 il)
  have HRL := HRR
  clear j0 jl
  have j0 := (cell_of I8.out 0).trans (rfl : _ = some (Value.int .i64 o1))
  have j1 := (cell_of I8.out 1).trans (rfl : _ = some (Value.int .i64 (a : Int)))
  have j4 := (cell_of I8.out 4).trans (rfl : _ = some (Value.int .i64 im))
  have jl := lt_of_block I8.out
  obtain ⟨u9, hu9⟩ : ∃ u, (cC (pc + 1) r (.slice ao2 n2 cap2))[1 + a]? = some (.int .i64 u) := ⟨_, cC_get HX.out⟩
  have y9 := (cell_of D8.out (1 + a)).trans hu9
  have z9 := frozen_of D8.out (1 + a)
  have l9 := lt_of_block D8.out
  clear hu9
  go_upto_region 60 with fail
  clear j0 j1 j4 jl y9 z9 l9
  have hb9 : (w8.setCell ⟨td, 1 + a, none⟩ (.int .i64 im)).heap[td]? = some (.cells (cC (pc + 1) (r.set a im) (.slice ao2 n2 cap2)) 30 (0, 0)) := by rw [← cC_set (by rw [HRL.out]; exact la)]; exact setCell_block D8.out (1 + a) (.int .i64 im)
  have hc9 : Ch (Only td) w8 (w8.setCell ⟨td, 1 + a, none⟩ (.int .i64 im)) := (Ch.refl _ _).own (1 + a) _
  have V9 := hid (V8.out.off hc9 (by have := T5.out; omega))
  have I9 := hid ((hc9.block _ (lt_of_block I8.out) (fun q => by have q1 : tb = td := q; have := T5.out; omega)).trans I8.out)
  have O9 := hid (O8.out.ch hc9 (fun q hq e => by have e1 : q = td := e; have := H2.out q hq; omega))
  have G9 := hid (show Gr w (w8.setCell ⟨td, 1 + a, none⟩ (.int .i64 im)) from Ch.trans G8.out hc9 (fun q e => .inr (by have e1 : q = td := e; have := T5.out; omega)))
  have D9 := hid hb9
  clear hb9 hc9
  generalize w8.setCell ⟨td, 1 + a, none⟩ (.int .i64 im) = W9 at V9 I9 O9 G9 D9 ⊢
  have HSZ := hid (fun (pc : Int) (v : Value) => cC_size (pc := pc) (v := v) (show (r.set a im).length = 16 from (List.length_set).trans HRR.out))
  go_wp2_with (first
    | (refine wpList_load_row rfl 30 (.tmp 10) rfl td rfl _ _ _ _ D9.out Tryd.underlying30 rfl (ctx_size' (HSZ.out _ _)) ?_)
    | (refine st_row rfl 30 (.tmp 6) (.tmp 248) rfl (w.heap.size + 3) _ rfl rfl _ _ V9.out.r (ctx_size' (HSZ.out _ _)) (HSZ.out _ _).symm cC_one ?_; intro w9 b9 k9; have R9 := hid b9; have K9 := hid k9; have T9 := hid ((k9.block _ (lt_of_block V9.out.t) (fun q => by have q1 : w.heap.size + 4 = w.heap.size + 3 := q; omega)).trans V9.out.t); clear b9 k9)
    | (refine st_row rfl 49 (.tmp 7) (.tmp 249) rfl (w.heap.size + 4) _ rfl rfl _ _ T9.out want_size rfl one11 ?_; intro w10 b10 k10; have T10 := hid b10; have K10 := hid k10; have R10 := hid ((k10.block _ (lt_of_block R9.out) (fun q => by have q1 : w.heap.size + 3 = w.heap.size + 4 := q; omega)).trans R9.out); clear b10 k10))
  refine bodyPost_ret (results_cell_cell rfl _ _ (w.heap.size + 3) (w.heap.size + 4) _ _ rfl (run_loadVar_row _ _ _ _ _ _ _ R10.out Tryd.underlying30 rfl (ctx_size' (HSZ.out _ _))) rfl (run_loadVar_row _ _ _ _ _ _ _ T10.out Tryd.underlying49 rfl want_size)) rfl ?_
  exact ⟨_, _, _, rfl, ((O9.out.ch K9.out (fun q hq e => by have e1 : q = w.heap.size + 3 := e; have := (O9.out.blk hq).1; omega)).ch K10.out (fun q hq e => by have e1 : q = w.heap.size + 4 := e; have := (O9.out.blk hq).1; omega)).lower (by omega), Ch.trans (Ch.trans G9.out K9.out (fun q e => .inr (by have e1 : q = w.heap.size + 3 := e; omega))) K10.out (fun q e => .inr (by have e1 : q = w.heap.size + 4 := e; omega))⟩
set_option maxHeartbeats 2000000 in
set_option maxRecDepth 20000 in
theorem rstep_high (P : Nat → Prop) (w : World) (aoc aof aot : Option Addr) (nc nf nt cac caf cat : Nat) (cs : List Int) (h : Ls eU P w (.slice aoc nc cac) cs) (hu : U32s cs) (hcl : nc ≤ 35184372088832) (pc : Int) (r : List Int) (hr : r.length = 16) (ao : Option Addr) (n cap : Nat) (ks : List Int) (hk : Ls eI P w (.slice ao n cap) ks) (hn : n ≤ 17592186044416) (ck sl gn : Int)
    (o1 im : Int) (a b c : Nat) (la : a < 16) (lb : b < 16) (lc : c < 16) (x y z : Int) (hx : r[a]? = some x) (hy : r[b]? = some y) (hz : r[c]? = some z) (hI : nI cs pc = (o1, (a : Int), (b : Int), (c : Int), im)) (hB : nB cs pc = true) (ho : o1 = 3) :
    Calls Tryd.prog 17 #[.agg #[.slice aoc nc cac, .slice aof nf caf, .slice aot nt cat], .agg (cC pc r (.slice ao n cap)), .agg #[.int .u64 ck, .int .i64 sl, .int .i64 gn]] w (StR w (pc + 1) (r.set a (wrap64 (wrap64 (x * 65536) + im))) ks #[.int .i64 0, .int .i64 0, .int .i64 0, .int .i64 0, .int .i64 0, .int .i64 0, .int .i64 0, .int .i64 0, .int .i64 0, .int .i64 0, .int .i64 0]) := by
  have hlen := h.len.1
  have hpc : 0 ≤ pc ∧ pc < (nc : Int) := by
    unfold nB at hB
    split at hB
    · rename_i q; rw [hlen]; exact q
    · cases hB
  have HN := hid (fun (W : World) (p : Gr w W) => rnext9_any P W aoc aof aot nc nf nt cac caf cat cs (h.gr p) hu pc r hr ao n cap)
  rw [hI, hB] at HN
  unfold iV at HN
  simp only at HN
  have HC := hid (fun (W : World) (p : Gr w W) => rcalls9_any P W ao n cap ks (hk.gr p) hn)
  have V0 := hid (vs_new w #[.slice aoc nc cac, .slice aof nf caf, .slice aot nt cat] (cC pc r (.slice ao n cap)) #[.int .u64 ck, .int .i64 sl, .int .i64 gn] #[.int .i64 0, .int .i64 0, .int .i64 0, .int .i64 0, .int .i64 0, .int .i64 0, .int .i64 0, .int .i64 0, .int .i64 0, .int .i64 0, .int .i64 0, .int .i64 0, .int .i64 0, .int .i64 0, .int .i64 0, .int .i64 0, .int .i64 0, .slice none 0 0] #[.int .i64 0, .int .i64 0, .int .i64 0, .int .i64 0, .int .i64 0, .int .i64 0, .int .i64 0, .int .i64 0, .int .i64 0, .int .i64 0, .int .i64 0])
  have K0 := hid (show Gr w (((((w.alloc (.cells #[.slice aoc nc cac, .slice aof nf caf, .slice aot nt cat] 26)).alloc (.cells (cC pc r (.slice ao n cap)) 30)).alloc (.cells #[.int .u64 ck, .int .i64 sl, .int .i64 gn] 44)).alloc (.cells #[.int .i64 0, .int .i64 0, .int .i64 0, .int .i64 0, .int .i64 0, .int .i64 0, .int .i64 0, .int .i64 0, .int .i64 0, .int .i64 0, .int .i64 0, .int .i64 0, .int .i64 0, .int .i64 0, .int .i64 0, .int .i64 0, .int .i64 0, .slice none 0 0] 30)).alloc (.cells #[.int .i64 0, .int .i64 0, .int .i64 0, .int .i64 0, .int .i64 0, .int .i64 0, .int .i64 0, .int .i64 0, .int .i64 0, .int .i64 0, .int .i64 0] 49)) from Ch.alloc (Ch.alloc (Ch.alloc (Ch.alloc (Ch.alloc (Gr.refl w) _) _) _) _) _)
  have HSZ := hid (fun (pc : Int) (v : Value) => cC_size (pc := pc) (v := v) hr)
  have HX := hid hx
  have HY := hid hy
  have HZ := hid hz
  have a0 : (0 : Int) ≤ (a : Int) := by omega
  have a1 : (a : Int) < 16 := by omega
  have b0 : (0 : Int) ≤ (b : Int) := by omega
  have b1 : (b : Int) < 16 := by omega
  have c0 : (0 : Int) ≤ (c : Int) := by omega
  have c1 : (c : Int) < 16 := by omega
  have HKL := hid hk.len.1
  have HRR := hid hr
  have HO1 := hid ho
  have HTW := hid (show ¬ Two o1 from by unfold Two; omega)
  clear ho
  have e1 : (o1 == 1) = false := by rw [HO1.out]; rfl
  have e2 : (o1 == 2) = false := by rw [HO1.out]; rfl
  have e3 : (o1 == 3) = true := by rw [HO1.out]; rfl
  obtain ⟨q0, q1⟩ := hpc
  have q2 : pc ≤ 35184372088832 := by omega
  clear h hu hI hB hlen hr hx hy hz hk
  go_enter Tryd.func17, Tryd.ntmps17
  go_upto_region 4 with (first
    | (refine wpList_load_row rfl 30 (.tmp 4) rfl (w.heap.size + 1) rfl _ _ _ _ V0.out.c Tryd.underlying30 rfl (ctx_size' (HSZ.out _ _)) ?_)
    | (go_at_call 26; refine (HN.out _ K0.out).mono ?_; rintro e w1 ⟨rfl, g1⟩; have V1 := hid (V0.out.gr (Ch.alloc g1 (.cells #[.int .i64 o1, .int .i64 (a : Int), .int .i64 (b : Int), .int .i64 (c : Int), .int .i64 im] 46))); have G1 := hid (show Gr w (w1.alloc (.cells #[.int .i64 o1, .int .i64 (a : Int), .int .i64 (b : Int), .int .i64 (c : Int), .int .i64 im] 46)) from Ch.alloc (Gr.trans K0.out g1) _); have I1 := hid (MapKept.heap_alloc w1 (.cells #[.int .i64 o1, .int .i64 (a : Int), .int .i64 (b : Int), .int .i64 (c : Int), .int .i64 im] 46)).1; have S1 := hid (show w.heap.size + 5 ≤ w1.heap.size from Nat.lt_of_lt_of_le (lt_of_block V0.out.t) g1.size); have S1b := hid (show w1.heap.size < (w1.alloc (.cells #[.int .i64 o1, .int .i64 (a : Int), .int .i64 (b : Int), .int .i64 (c : Int), .int .i64 im] 46)).heap.size from (by simp)); clear g1))
  generalize w1.alloc (.cells #[.int .i64 o1, .int .i64 (a : Int), .int .i64 (b : Int), .int .i64 (c : Int), .int .i64 im] 46) = W1 at V1 G1 I1 S1b ⊢
  generalize w1.heap.size = tb at I1 S1 S1b ⊢
  have BD0 := hid (show (W1.alloc (.cells #[.int .i64 0, .int .i64 0, .int .i64 0, .int .i64 0, .int .i64 0, .int .i64 0, .int .i64 0, .int .i64 0, .int .i64 0, .int .i64 0, .int .i64 0, .int .i64 0, .int .i64 0, .int .i64 0, .int .i64 0, .int .i64 0, .int .i64 0, .slice none 0 0] 30)).heap[W1.heap.size]? = some (.cells #[.int .i64 0, .int .i64 0, .int .i64 0, .int .i64 0, .int .i64 0, .int .i64 0, .int .i64 0, .int .i64 0, .int .i64 0, .int .i64 0, .int .i64 0, .int .i64 0, .int .i64 0, .int .i64 0, .int .i64 0, .int .i64 0, .int .i64 0, .slice none 0 0] 30 (0, 0)) from (MapKept.heap_alloc W1 _).1)
  have GA := hid (show Gr W1 (W1.alloc (.cells #[.int .i64 0, .int .i64 0, .int .i64 0, .int .i64 0, .int .i64 0, .int .i64 0, .int .i64 0, .int .i64 0, .int .i64 0, .int .i64 0, .int .i64 0, .int .i64 0, .int .i64 0, .int .i64 0, .int .i64 0, .int .i64 0, .int .i64 0, .slice none 0 0] 30)) from Ch.alloc (Gr.refl _) _)
  go_upto_region 6 with (first
    | (refine wpList_load_row rfl 30 (.tmp 4) rfl (w.heap.size + 1) rfl _ _ _ _ V1.out.c Tryd.underlying30 rfl (ctx_size' (HSZ.out _ _)) ?_)
    | (refine st_row rfl 30 (.tmp 10) (.tmp 31) rfl W1.heap.size _ rfl rfl _ _ BD0.out (ctx_size' (HSZ.out _ _)) (HSZ.out _ _).symm cC_one ?_; intro w2 b2 k2; have D2 := hid b2; have G2 := hid (show Gr W1 w2 from Ch.trans GA.out k2 (fun q e => .inr (by have e1 : q = W1.heap.size := e; omega))); have V2 := hid (V1.out.gr G2.out); have I2 := hid (gr_blk I1.out G2.out); have y17 := (cell_of V2.out.c 17).trans (cC_v HRR.out _ _); have l17 := lt_of_block V2.out.c; clear b2 k2)
    | (go_at_call 38; refine (HC.out _ (Gr.trans G1.out G2.out)).mono ?_; rintro e w3 ⟨v3, rfl, o3, g3⟩; obtain ⟨ao2, cap2, hv3⟩ := o3.form; generalize hq3 : ks.length = n2 at hv3; subst hv3; have HN2 := hid hq3; have D3 := hid (gr_blk D2.out g3); have V3 := hid (V2.out.gr g3); have I3 := hid (gr_blk I2.out g3); have G3 := hid (Gr.trans (Gr.trans G1.out G2.out) g3); have O3 := hid o3; have S3 := hid (show W1.heap.size < w2.heap.size from lt_of_block D2.out); have d17 := (cell_of D3.out 17).trans (cC_v HRR.out _ _); have e17 := frozen_of D3.out 17; have m17 := lt_of_block D3.out; clear o3 g3 hq3))
  generalize W1.heap.size = td at D2 D3 S1b S3 d17 e17 m17 BD0 ⊢
  have hb4 : (w3.setCell ⟨td, 17, none⟩ (.slice ao2 n2 cap2)).heap[td]? = some (.cells (cC pc r (.slice ao2 n2 cap2)) 30 (0, 0)) := by rw [← cC_setv HRR.out pc (.slice ao n cap)]; exact setCell_block D3.out 17 _
  have hc4 : Ch (Only td) w3 (w3.setCell ⟨td, 17, none⟩ (.slice ao2 n2 cap2)) := (Ch.refl _ _).own 17 _
  have V4 := hid (V3.out.off hc4 (by have := S1.out; have := S1b.out; omega))
  have I4 := hid ((hc4.block _ (lt_of_block I3.out) (fun q => by have q1 : tb = td := q; have := S1b.out; omega)).trans I3.out)
  have O4 := hid (O3.out.ch hc4 (fun q hq e => by have e1 : q = td := e; have := (O3.out.blk hq).1; have := S3.out; omega))
  have G4 := hid (show Gr w (w3.setCell ⟨td, 17, none⟩ (.slice ao2 n2 cap2)) from Ch.trans G3.out hc4 (fun q e => .inr (by have e1 : q = td := e; have := S1.out; have := S1b.out; omega)))
  have D4 := hid hb4
  have H2 := hid (show ∀ q, Blk (.slice ao2 n2 cap2) q → td < q from fun q e => by have := (O3.out.blk e).1; have := S3.out; omega)
  have T5 := hid (show w.heap.size + 5 ≤ tb ∧ tb < td from ⟨S1.out, S1b.out⟩)
  have O5 := hid (O4.out.lower (show w.heap.size + 5 ≤ _ from by have := S1.out; have := S1b.out; have := S3.out; omega))
  clear hb4 hc4 y17 l17 d17 e17 m17 D2 D3 BD0 GA V2 V3 I2 I3 G2 G3 O3 S3 O4 S1 S1b
  generalize w3.setCell ⟨td, 17, none⟩ (.slice ao2 n2 cap2) = W4 at V4 I4 G4 D4 O5 ⊢
  have d0 := (cell_of D4.out 0).trans (cC_pc _ _ _)
  have e0 := frozen_of D4.out 0
  have m0 := lt_of_block D4.out
  go_upto_region 7 with fail
  have hb6 : (W4.setCell ⟨td, 0, none⟩ (.int .i64 (pc + 1))).heap[td]? = some (.cells (cC (pc + 1) r (.slice ao2 n2 cap2)) 30 (0, 0)) := by rw [← cC_setpc pc]; exact setCell_block D4.out 0 _
  have hc6 : Ch (Only td) W4 (W4.setCell ⟨td, 0, none⟩ (.int .i64 (pc + 1))) := (Ch.refl _ _).own 0 _
  have V6 := hid (V4.out.off hc6 (by have := T5.out; omega))
  have I6 := hid ((hc6.block _ (lt_of_block I4.out) (fun q => by have q1 : tb = td := q; have := T5.out; omega)).trans I4.out)
  have O6 := hid (O5.out.ch hc6 (fun q hq e => by have e1 : q = td := e; have := H2.out q hq; omega))
  have G6 := hid (show Gr w (W4.setCell ⟨td, 0, none⟩ (.int .i64 (pc + 1))) from Ch.trans G4.out hc6 (fun q e => .inr (by have e1 : q = td := e; have := T5.out; omega)))
  have D6 := hid hb6
  clear hb6 hc6 d0 e0 m0
  generalize W4.setCell ⟨td, 0, none⟩ (.int .i64 (pc + 1)) = W6 at V6 I6 G6 D6 O6 ⊢
  have i0 := (cell_of I6.out 0).trans (rfl : _ = some (Value.int .i64 o1))
  have i1 := (cell_of I6.out 1).trans (rfl : _ = some (Value.int .i64 (a : Int)))
  have i2 := (cell_of I6.out 2).trans (rfl : _ = some (Value.int .i64 (b : Int)))
  have i3 := (cell_of I6.out 3).trans (rfl : _ = some (Value.int .i64 (c : Int)))
  have i4 := (cell_of I6.out 4).trans (rfl : _ = some (Value.int .i64 im))
  have il := lt_of_block I6.out
  have x1 := (cell_of V6.out.c (1 + a)).trans (cC_get HX.out)
  have x2 := (cell_of V6.out.c (1 + b)).trans (cC_get HY.out)
  have x3 := (cell_of V6.out.c (1 + c)).trans (cC_get HZ.out)
  have xl := lt_of_block V6.out.c
  go_quiet (fail)
  clear x1 x2 x3 xl i0 i1 i2 i3 i4 il
  have V7 := hid (show Vs (W6.drewN nq) w.heap.size #[.slice aoc nc cac, .slice aof nf caf, .slice aot nt cat] (cC pc r (.slice ao n cap)) #[.int .u64 ck, .int .i64 sl, .int .i64 gn] #[.int .i64 0, .int .i64 0, .int .i64 0, .int .i64 0, .int .i64 0, .int .i64 0, .int .i64 0, .int .i64 0, .int .i64 0, .int .i64 0, .int .i64 0, .int .i64 0, .int .i64 0, .int .i64 0, .int .i64 0, .int .i64 0, .int .i64 0, .slice none 0 0] #[.int .i64 0, .int .i64 0, .int .i64 0, .int .i64 0, .int .i64 0, .int .i64 0, .int .i64 0, .int .i64 0, .int .i64 0, .int .i64 0, .int .i64 0] from ⟨V6.out.p, V6.out.c, V6.out.e, V6.out.r, V6.out.t⟩)
  have I7 := hid (show (W6.drewN nq).heap[tb]? = some (.cells #[.int .i64 o1, .int .i64 (a : Int), .int .i64 (b : Int), .int .i64 (c : Int), .int .i64 im] 46 (0, 0)) from I6.out)
  have D7 := hid (show (W6.drewN nq).heap[td]? = some (.cells (cC (pc + 1) r (.slice ao2 n2 cap2)) 30 (0, 0)) from D6.out)
  have O7 := hid (show Ow eI 1 3 (w.heap.size + 5) (W6.drewN nq) (.slice ao2 n2 cap2) ks from O6.out)
  have G7 := hid (show Gr w (W6.drewN nq) from Ch.drewN G6.out nq)
  clear V6 I6 D6 O6 G6
  generalize W6.drewN nq = W7 at V7 I7 D7 O7 G7 ⊢
  have i0 := (cell_of I7.out 0).trans (rfl : _ = some (Value.int .i64 o1))
  have il := lt_of_block I7.out
  have HWK := hid (fun (W : World) => worked_no o1 y z HTW.out W)
  go_upto_region 18 with (go_at_call 39; refine (HWK.out _).mono ?_; rintro e w8 ⟨rfl, g8⟩; have V8 := hid (V7.out.gr g8); have I8 := hid (gr_blk I7.out g8); have D8 := hid (gr_blk D7.out g8); have O8 := hid (O7.out.gr g8); have G8 := hid (Gr.trans G7.out g8); have j0 := (cell_of I8.out 0).trans (rfl : _ = some (Value.int .i64 o1)); have jl := lt_of_block I8.out; clear g8 i0 il)
  have HRL := HRR
  clear j0 jl
  have j0 := (cell_of I8.out 0).trans (rfl : _ = some (Value.int .i64 o1))
  have j1 := (cell_of I8.out 1).trans (rfl : _ = some (Value.int .i64 (a : Int)))
  have j4 := (cell_of I8.out 4).trans (rfl : _ = some (Value.int .i64 im))
  have jl := lt_of_block I8.out
  obtain ⟨u9, hu9⟩ : ∃ u, (cC (pc + 1) r (.slice ao2 n2 cap2))[1 + a]? = some (.int .i64 u) := ⟨_, cC_get HX.out⟩
  have y9 := (cell_of D8.out (1 + a)).trans hu9
  have z9 := frozen_of D8.out (1 + a)
  have l9 := lt_of_block D8.out
  clear hu9
  go_upto_region 60 with fail
  clear j0 j1 j4 jl y9 z9 l9
  have hb9 : (w8.setCell ⟨td, 1 + a, none⟩ (.int .i64 (wrap64 (wrap64 (x * 65536) + im)))).heap[td]? = some (.cells (cC (pc + 1) (r.set a (wrap64 (wrap64 (x * 65536) + im))) (.slice ao2 n2 cap2)) 30 (0, 0)) := by rw [← cC_set (by rw [HRL.out]; exact la)]; exact setCell_block D8.out (1 + a) (.int .i64 (wrap64 (wrap64 (x * 65536) + im)))
  have hc9 : Ch (Only td) w8 (w8.setCell ⟨td, 1 + a, none⟩ (.int .i64 (wrap64 (wrap64 (x * 65536) + im)))) := (Ch.refl _ _).own (1 + a) _
  have V9 := hid (V8.out.off hc9 (by have := T5.out; omega))
  have I9 := hid ((hc9.block _ (lt_of_block I8.out) (fun q => by have q1 : tb = td := q; have := T5.out; omega)).trans I8.out)
  have O9 := hid (O8.out.ch hc9 (fun q hq e => by have e1 : q = td := e; have := H2.out q hq; omega))
  have G9 := hid (show Gr w (w8.setCell ⟨td, 1 + a, none⟩ (.int .i64 (wrap64 (wrap64 (x * 65536) + im)))) from Ch.trans G8.out hc9 (fun q e => .inr (by have e1 : q = td := e; have := T5.out; omega)))
  have D9 := hid hb9
  clear hb9 hc9
  generalize w8.setCell ⟨td, 1 + a, none⟩ (.int .i64 (wrap64 (wrap64 (x * 65536) + im))) = W9 at V9 I9 O9 G9 D9 ⊢
  have HSZ := hid (fun (pc : Int) (v : Value) => cC_size (pc := pc) (v := v) (show (r.set a (wrap64 (wrap64 (x * 65536) + im))).length = 16 from (List.length_set).trans HRR.out))
  go_wp2_with (first
    | (refine wpList_load_row rfl 30 (.tmp 10) rfl td rfl _ _ _ _ D9.out Tryd.underlying30 rfl (ctx_size' (HSZ.out _ _)) ?_)
    | (refine st_row rfl 30 (.tmp 6) (.tmp 248) rfl (w.heap.size + 3) _ rfl rfl _ _ V9.out.r (ctx_size' (HSZ.out _ _)) (HSZ.out _ _).symm cC_one ?_; intro w9 b9 k9; have R9 := hid b9; have K9 := hid k9; have T9 := hid ((k9.block _ (lt_of_block V9.out.t) (fun q => by have q1 : w.heap.size + 4 = w.heap.size + 3 := q; omega)).trans V9.out.t); clear b9 k9)
    | (refine st_row rfl 49 (.tmp 7) (.tmp 249) rfl (w.heap.size + 4) _ rfl rfl _ _ T9.out want_size rfl one11 ?_; intro w10 b10 k10; have T10 := hid b10; have K10 := hid k10; have R10 := hid ((k10.block _ (lt_of_block R9.out) (fun q => by have q1 : w.heap.size + 3 = w.heap.size + 4 := q; omega)).trans R9.out); clear b10 k10))
  refine bodyPost_ret (results_cell_cell rfl _ _ (w.heap.size + 3) (w.heap.size + 4) _ _ rfl (run_loadVar_row _ _ _ _ _ _ _ R10.out Tryd.underlying30 rfl (ctx_size' (HSZ.out _ _))) rfl (run_loadVar_row _ _ _ _ _ _ _ T10.out Tryd.underlying49 rfl want_size)) rfl ?_
  exact ⟨_, _, _, rfl, ((O9.out.ch K9.out (fun q hq e => by have e1 : q = w.heap.size + 3 := e; have := (O9.out.blk hq).1; omega)).ch K10.out (fun q hq e => by have e1 : q = w.heap.size + 4 := e; have := (O9.out.blk hq).1; omega)).lower (by omega), Ch.trans (Ch.trans G9.out K9.out (fun q e => .inr (by have e1 : q = w.heap.size + 3 := e; omega))) K10.out (fun q e => .inr (by have e1 : q = w.heap.size + 4 := e; omega))⟩
set_option maxHeartbeats 2000000 in
set_option maxRecDepth 20000 in
theorem rstep_move (P : Nat → Prop) (w : World) (aoc aof aot : Option Addr) (nc nf nt cac caf cat : Nat) (cs : List Int) (h : Ls eU P w (.slice aoc nc cac) cs) (hu : U32s cs) (hcl : nc ≤ 35184372088832) (pc : Int) (r : List Int) (hr : r.length = 16) (ao : Option Addr) (n cap : Nat) (ks : List Int) (hk : Ls eI P w (.slice ao n cap) ks) (hn : n ≤ 17592186044416) (ck sl gn : Int)
    (o1 im : Int) (a b c : Nat) (la : a < 16) (lb : b < 16) (lc : c < 16) (x y z : Int) (hx : r[a]? = some x) (hy : r[b]? = some y) (hz : r[c]? = some z) (hI : nI cs pc = (o1, (a : Int), (b : Int), (c : Int), im)) (hB : nB cs pc = true) (ho : o1 = 4) :
    Calls Tryd.prog 17 #[.agg #[.slice aoc nc cac, .slice aof nf caf, .slice aot nt cat], .agg (cC pc r (.slice ao n cap)), .agg #[.int .u64 ck, .int .i64 sl, .int .i64 gn]] w (StR w (pc + 1) (r.set a y) ks #[.int .i64 0, .int .i64 0, .int .i64 0, .int .i64 0, .int .i64 0, .int .i64 0, .int .i64 0, .int .i64 0, .int .i64 0, .int .i64 0, .int .i64 0]) := by
  have hlen := h.len.1
  have hpc : 0 ≤ pc ∧ pc < (nc : Int) := by
    unfold nB at hB
    split at hB
    · rename_i q; rw [hlen]; exact q
    · cases hB
  have HN := hid (fun (W : World) (p : Gr w W) => rnext9_any P W aoc aof aot nc nf nt cac caf cat cs (h.gr p) hu pc r hr ao n cap)
  rw [hI, hB] at HN
  unfold iV at HN
  simp only at HN
  have HC := hid (fun (W : World) (p : Gr w W) => rcalls9_any P W ao n cap ks (hk.gr p) hn)
  have V0 := hid (vs_new w #[.slice aoc nc cac, .slice aof nf caf, .slice aot nt cat] (cC pc r (.slice ao n cap)) #[.int .u64 ck, .int .i64 sl, .int .i64 gn] #[.int .i64 0, .int .i64 0, .int .i64 0, .int .i64 0, .int .i64 0, .int .i64 0, .int .i64 0, .int .i64 0, .int .i64 0, .int .i64 0, .int .i64 0, .int .i64 0, .int .i64 0, .int .i64 0, .int .i64 0, .int .i64 0, .int .i64 0, .slice none 0 0] #[.int .i64 0, .int .i64 0, .int .i64 0, .int .i64 0, .int .i64 0, .int .i64 0, .int .i64 0, .int .i64 0, .int .i64 0, .int .i64 0, .int .i64 0])
  have K0 := hid (show Gr w (((((w.alloc (.cells #[.slice aoc nc cac, .slice aof nf caf, .slice aot nt cat] 26)).alloc (.cells (cC pc r (.slice ao n cap)) 30)).alloc (.cells #[.int .u64 ck, .int .i64 sl, .int .i64 gn] 44)).alloc (.cells #[.int .i64 0, .int .i64 0, .int .i64 0, .int .i64 0, .int .i64 0, .int .i64 0, .int .i64 0, .int .i64 0, .int .i64 0, .int .i64 0, .int .i64 0, .int .i64 0, .int .i64 0, .int .i64 0, .int .i64 0, .int .i64 0, .int .i64 0, .slice none 0 0] 30)).alloc (.cells #[.int .i64 0, .int .i64 0, .int .i64 0, .int .i64 0, .int .i64 0, .int .i64 0, .int .i64 0, .int .i64 0, .int .i64 0, .int .i64 0, .int .i64 0] 49)) from Ch.alloc (Ch.alloc (Ch.alloc (Ch.alloc (Ch.alloc (Gr.refl w) _) _) _) _) _)
  have HSZ := hid (fun (pc : Int) (v : Value) => cC_size (pc := pc) (v := v) hr)
  have HX := hid hx
  have HY := hid hy
  have HZ := hid hz
  have a0 : (0 : Int) ≤ (a : Int) := by omega
  have a1 : (a : Int) < 16 := by omega
  have b0 : (0 : Int) ≤ (b : Int) := by omega
  have b1 : (b : Int) < 16 := by omega
  have c0 : (0 : Int) ≤ (c : Int) := by omega
  have c1 : (c : Int) < 16 := by omega
  have HKL := hid hk.len.1
  have HRR := hid hr
  have HO1 := hid ho
  have HTW := hid (show ¬ Two o1 from by unfold Two; omega)
  clear ho
  have e1 : (o1 == 1) = false := by rw [HO1.out]; rfl
  have e2 : (o1 == 2) = false := by rw [HO1.out]; rfl
  have e3 : (o1 == 3) = false := by rw [HO1.out]; rfl
  have e4 : (o1 == 4) = true := by rw [HO1.out]; rfl
  obtain ⟨q0, q1⟩ := hpc
  have q2 : pc ≤ 35184372088832 := by omega
  clear h hu hI hB hlen hr hx hy hz hk
  go_enter Tryd.func17, Tryd.ntmps17
  go_upto_region 4 with (first
    | (refine wpList_load_row rfl 30 (.tmp 4) rfl (w.heap.size + 1) rfl _ _ _ _ V0.out.c Tryd.underlying30 rfl (ctx_size' (HSZ.out _ _)) ?_)
    | (go_at_call 26; refine (HN.out _ K0.out).mono ?_; rintro e w1 ⟨rfl, g1⟩; have V1 := hid (V0.out.gr (Ch.alloc g1 (.cells #[.int .i64 o1, .int .i64 (a : Int), .int .i64 (b : Int), .int .i64 (c : Int), .int .i64 im] 46))); have G1 := hid (show Gr w (w1.alloc (.cells #[.int .i64 o1, .int .i64 (a : Int), .int .i64 (b : Int), .int .i64 (c : Int), .int .i64 im] 46)) from Ch.alloc (Gr.trans K0.out g1) _); have I1 := hid (MapKept.heap_alloc w1 (.cells #[.int .i64 o1, .int .i64 (a : Int), .int .i64 (b : Int), .int .i64 (c : Int), .int .i64 im] 46)).1; have S1 := hid (show w.heap.size + 5 ≤ w1.heap.size from Nat.lt_of_lt_of_le (lt_of_block V0.out.t) g1.size); have S1b := hid (show w1.heap.size < (w1.alloc (.cells #[.int .i64 o1, .int .i64 (a : Int), .int .i64 (b : Int), .int .i64 (c : Int), .int .i64 im] 46)).heap.size from (by simp)); clear g1))
  generalize w1.alloc (.cells #[.int .i64 o1, .int .i64 (a : Int), .int .i64 (b : Int), .int .i64 (c : Int), .int .i64 im] 46) = W1 at V1 G1 I1 S1b ⊢
  generalize w1.heap.size = tb at I1 S1 S1b ⊢
  have BD0 := hid (show (W1.alloc (.cells #[.int .i64 0, .int .i64 0, .int .i64 0, .int .i64 0, .int .i64 0, .int .i64 0, .int .i64 0, .int .i64 0, .int .i64 0, .int .i64 0, .int .i64 0, .int .i64 0, .int .i64 0, .int .i64 0, .int .i64 0, .int .i64 0, .int .i64 0, .slice none 0 0] 30)).heap[W1.heap.size]? = some (.cells #[.int .i64 0, .int .i64 0, .int .i64 0, .int .i64 0, .int .i64 0, .int .i64 0, .int .i64 0, .int .i64 0, .int .i64 0, .int .i64 0, .int .i64 0, .int .i64 0, .int .i64 0, .int .i64 0, .int .i64 0, .int .i64 0, .int .i64 0, .slice none 0 0] 30 (0, 0)) from (MapKept.heap_alloc W1 _).1)
  have GA := hid (show Gr W1 (W1.alloc (.cells #[.int .i64 0, .int .i64 0, .int .i64 0, .int .i64 0, .int .i64 0, .int .i64 0, .int .i64 0, .int .i64 0, .int .i64 0, .int .i64 0, .int .i64 0, .int .i64 0, .int .i64 0, .int .i64 0, .int .i64 0, .int .i64 0, .int .i64 0, .slice none 0 0] 30)) from Ch.alloc (Gr.refl _) _)
  go_upto_region 6 with (first
    | (refine wpList_load_row rfl 30 (.tmp 4) rfl (w.heap.size + 1) rfl _ _ _ _ V1.out.c Tryd.underlying30 rfl (ctx_size' (HSZ.out _ _)) ?_)
    | (refine st_row rfl 30 (.tmp 10) (.tmp 31) rfl W1.heap.size _ rfl rfl _ _ BD0.out (ctx_size' (HSZ.out _ _)) (HSZ.out _ _).symm cC_one ?_; intro w2 b2 k2; have D2 := hid b2; have G2 := hid (show Gr W1 w2 from Ch.trans GA.out k2 (fun q e => .inr (by have e1 : q = W1.heap.size := e; omega))); have V2 := hid (V1.out.gr G2.out); have I2 := hid (gr_blk I1.out G2.out); have y17 := (cell_of V2.out.c 17).trans (cC_v HRR.out _ _); have l17 := lt_of_block V2.out.c; clear b2 k2)
    | (go_at_call 38; refine (HC.out _ (Gr.trans G1.out G2.out)).mono ?_; rintro e w3 ⟨v3, rfl, o3, g3⟩; obtain ⟨ao2, cap2, hv3⟩ := o3.form; generalize hq3 : ks.length = n2 at hv3; subst hv3; have HN2 := hid hq3; have D3 := hid (gr_blk D2.out g3); have V3 := hid (V2.out.gr g3); have I3 := hid (gr_blk I2.out g3); have G3 := hid (Gr.trans (Gr.trans G1.out G2.out) g3); have O3 := hid o3; have S3 := hid (show W1.heap.size < w2.heap.size from lt_of_block D2.out); have d17 := (cell_of D3.out 17).trans (cC_v HRR.out _ _); have e17 := frozen_of D3.out 17; have m17 := lt_of_block D3.out; clear o3 g3 hq3))
  generalize W1.heap.size = td at D2 D3 S1b S3 d17 e17 m17 BD0 ⊢
  have hb4 : (w3.setCell ⟨td, 17, none⟩ (.slice ao2 n2 cap2)).heap[td]? = some (.cells (cC pc r (.slice ao2 n2 cap2)) 30 (0, 0)) := by rw [← cC_setv HRR.out pc (.slice ao n cap)]; exact setCell_block D3.out 17 _
  have hc4 : Ch (Only td) w3 (w3.setCell ⟨td, 17, none⟩ (.slice ao2 n2 cap2)) := (Ch.refl _ _).own 17 _
  have V4 := hid (V3.out.off hc4 (by have := S1.out; have := S1b.out; omega))
  have I4 := hid ((hc4.block _ (lt_of_block I3.out) (fun q => by have q1 : tb = td := q; have := S1b.out; omega)).trans I3.out)
  have O4 := hid (O3.out.ch hc4 (fun q hq e => by have e1 : q = td := e; have := (O3.out.blk hq).1; have := S3.out; omega))
  have G4 := hid (show Gr w (w3.setCell ⟨td, 17, none⟩ (.slice ao2 n2 cap2)) from Ch.trans G3.out hc4 (fun q e => .inr (by have e1 : q = td := e; have := S1.out; have := S1b.out; omega)))
  have D4 := hid hb4
  have H2 := hid (show ∀ q, Blk (.slice ao2 n2 cap2) q → td < q from fun q e => by have := (O3.out.blk e).1; have := S3.out; omega)
  have T5 := hid (show w.heap.size + 5 ≤ tb ∧ tb < td from ⟨S1.out, S1b.out⟩)
  have O5 := hid (O4.out.lower (show w.heap.size + 5 ≤ _ from by have := S1.out; have := S1b.out; have := S3.out; omega))
  clear hb4 hc4 y17 l17 d17 e17 m17 D2 D3 BD0 GA V2 V3 I2 I3 G2 G3 O3 S3 O4 S1 S1b
  generalize w3.setCell ⟨td, 17, none⟩ (.slice ao2 n2 cap2) = W4 at V4 I4 G4 D4 O5 ⊢
  have d0 := (cell_of D4.out 0).trans (cC_pc _ _ _)
  have e0 := frozen_of D4.out 0
  have m0 := lt_of_block D4.out
  go_upto_region 7 with fail
  have hb6 : (W4.setCell ⟨td, 0, none⟩ (.int .i64 (pc + 1))).heap[td]? = some (.cells (cC (pc + 1) r (.slice ao2 n2 cap2)) 30 (0, 0)) := by rw [← cC_setpc pc]; exact setCell_block D4.out 0 _
  have hc6 : Ch (Only td) W4 (W4.setCell ⟨td, 0, none⟩ (.int .i64 (pc + 1))) := (Ch.refl _ _).own 0 _
  have V6 := hid (V4.out.off hc6 (by have := T5.out; omega))
  have I6 := hid ((hc6.block _ (lt_of_block I4.out) (fun q => by have q1 : tb = td := q; have := T5.out; omega)).trans I4.out)
  have O6 := hid (O5.out.ch hc6 (fun q hq e => by have e1 : q = td := e; have := H2.out q hq; omega))
  have G6 := hid (show Gr w (W4.setCell ⟨td, 0, none⟩ (.int .i64 (pc + 1))) from Ch.trans G4.out hc6 (fun q e => .inr (by have e1 : q = td := e; have := T5.out; omega)))
  have D6 := hid hb6
  clear hb6 hc6 d0 e0 m0
  generalize W4.setCell ⟨td, 0, none⟩ (.int .i64 (pc + 1)) = W6 at V6 I6 G6 D6 O6 ⊢
  have i0 := (cell_of I6.out 0).trans (rfl : _ = some (Value.int .i64 o1))
  have i1 := (cell_of I6.out 1).trans (rfl : _ = some (Value.int .i64 (a : Int)))
  have i2 := (cell_of I6.out 2).trans (rfl : _ = some (Value.int .i64 (b : Int)))
  have i3 := (cell_of I6.out 3).trans (rfl : _ = some (Value.int .i64 (c : Int)))
  have i4 := (cell_of I6.out 4).trans (rfl : _ = some (Value.int .i64 im))
  have il := lt_of_block I6.out
  have x1 := (cell_of V6.out.c (1 + a)).trans (cC_get HX.out)
  have x2 := (cell_of V6.out.c (1 + b)).trans (cC_get HY.out)
  have x3 := (cell_of V6.out.c (1 + c)).trans (cC_get HZ.out)
  have xl := lt_of_block V6.out.c
  go_quiet (fail)
  clear x1 x2 x3 xl i0 i1 i2 i3 i4 il
  have V7 := hid (show Vs (W6.drewN nq) w.heap.size #[.slice aoc nc cac, .slice aof nf caf, .slice aot nt cat] (cC pc r (.slice ao n cap)) #[.int .u64 ck, .int .i64 sl, .int .i64 gn] #[.int .i64 0, .int .i64 0, .int .i64 0, .int .i64 0, .int .i64 0, .int .i64 0, .int .i64 0, .int .i64 0, .int .i64 0, .int .i64 0, .int .i64 0, .int .i64 0, .int .i64 0, .int .i64 0, .int .i64 0, .int .i64 0, .int .i64 0, .slice none 0 0] #[.int .i64 0, .int .i64 0, .int .i64 0, .int .i64 0, .int .i64 0, .int .i64 0, .int .i64 0, .int .i64 0, .int .i64 0, .int .i64 0, .int .i64 0] from ⟨V6.out.p, V6.out.c, V6.out.e, V6.out.r, V6.out.t⟩)
  have I7 := hid (show (W6.drewN nq).heap[tb]? = some (.cells #[.int .i64 o1, .int .i64 (a : Int), .int .i64 (b : Int), .int .i64 (c : Int), .int .i64 im] 46 (0, 0)) from I6.out)
  have D7 := hid (show (W6.drewN nq).heap[td]? = some (.cells (cC (pc + 1) r (.slice ao2 n2 cap2)) 30 (0, 0)) from D6.out)
  have O7 := hid (show Ow eI 1 3 (w.heap.size + 5) (W6.drewN nq) (.slice ao2 n2 cap2) ks from O6.out)
  have G7 := hid (show Gr w (W6.drewN nq) from Ch.drewN G6.out nq)
  clear V6 I6 D6 O6 G6
  generalize W6.drewN nq = W7 at V7 I7 D7 O7 G7 ⊢
  have i0 := (cell_of I7.out 0).trans (rfl : _ = some (Value.int .i64 o1))
  have il := lt_of_block I7.out
  have HWK := hid (fun (W : World) => worked_no o1 y z HTW.out W)
  go_upto_region 20 with (go_at_call 39; refine (HWK.out _).mono ?_; rintro e w8 ⟨rfl, g8⟩; have V8 := hid (V7.out.gr g8); have I8 := hid (gr_blk I7.out g8); have D8 := hid (gr_blk D7.out g8); have O8 := hid (O7.out.gr g8); have G8 := hid (Gr.trans G7.out g8); have j0 := (cell_of I8.out 0).trans (rfl : _ = some (Value.int .i64 o1)); have jl := lt_of_block I8.out; clear g8 i0 il)
  have HRL := HRR
  clear j0 jl
  have j0 := (cell_of I8.out 0).trans (rfl : _ = some (Value.int .i64 o1))
  have j1 := (cell_of I8.out 1).trans (rfl : _ = some (Value.int .i64 (a : Int)))
  have j4 := (cell_of I8.out 4).trans (rfl : _ = some (Value.int .i64 im))
  have jl := lt_of_block I8.out
  obtain ⟨u9, hu9⟩ : ∃ u, (cC (pc + 1) r (.slice ao2 n2 cap2))[1 + a]? = some (.int .i64 u) := ⟨_, cC_get HX.out⟩
  have y9 := (cell_of D8.out (1 + a)).trans hu9
  have z9 := frozen_of D8.out (1 + a)
  have l9 := lt_of_block D8.out
  clear hu9
  go_upto_region 60 with fail
  clear j0 j1 j4 jl y9 z9 l9
  have hb9 : (w8.setCell ⟨td, 1 + a, none⟩ (.int .i64 y)).heap[td]? = some (.cells (cC (pc + 1) (r.set a y) (.slice ao2 n2 cap2)) 30 (0, 0)) := by rw [← cC_set (by rw [HRL.out]; exact la)]; exact setCell_block D8.out (1 + a) (.int .i64 y)
  have hc9 : Ch (Only td) w8 (w8.setCell ⟨td, 1 + a, none⟩ (.int .i64 y)) := (Ch.refl _ _).own (1 + a) _
  have V9 := hid (V8.out.off hc9 (by have := T5.out; omega))
  have I9 := hid ((hc9.block _ (lt_of_block I8.out) (fun q => by have q1 : tb = td := q; have := T5.out; omega)).trans I8.out)
  have O9 := hid (O8.out.ch hc9 (fun q hq e => by have e1 : q = td := e; have := H2.out q hq; omega))
  have G9 := hid (show Gr w (w8.setCell ⟨td, 1 + a, none⟩ (.int .i64 y)) from Ch.trans G8.out hc9 (fun q e => .inr (by have e1 : q = td := e; have := T5.out; omega)))
  have D9 := hid hb9
  clear hb9 hc9
  generalize w8.setCell ⟨td, 1 + a, none⟩ (.int .i64 y) = W9 at V9 I9 O9 G9 D9 ⊢
  have HSZ := hid (fun (pc : Int) (v : Value) => cC_size (pc := pc) (v := v) (show (r.set a y).length = 16 from (List.length_set).trans HRR.out))
  go_wp2_with (first
    | (refine wpList_load_row rfl 30 (.tmp 10) rfl td rfl _ _ _ _ D9.out Tryd.underlying30 rfl (ctx_size' (HSZ.out _ _)) ?_)
    | (refine st_row rfl 30 (.tmp 6) (.tmp 248) rfl (w.heap.size + 3) _ rfl rfl _ _ V9.out.r (ctx_size' (HSZ.out _ _)) (HSZ.out _ _).symm cC_one ?_; intro w9 b9 k9; have R9 := hid b9; have K9 := hid k9; have T9 := hid ((k9.block _ (lt_of_block V9.out.t) (fun q => by have q1 : w.heap.size + 4 = w.heap.size + 3 := q; omega)).trans V9.out.t); clear b9 k9)
    | (refine st_row rfl 49 (.tmp 7) (.tmp 249) rfl (w.heap.size + 4) _ rfl rfl _ _ T9.out want_size rfl one11 ?_; intro w10 b10 k10; have T10 := hid b10; have K10 := hid k10; have R10 := hid ((k10.block _ (lt_of_block R9.out) (fun q => by have q1 : w.heap.size + 3 = w.heap.size + 4 := q; omega)).trans R9.out); clear b10 k10))
  refine bodyPost_ret (results_cell_cell rfl _ _ (w.heap.size + 3) (w.heap.size + 4) _ _ rfl (run_loadVar_row _ _ _ _ _ _ _ R10.out Tryd.underlying30 rfl (ctx_size' (HSZ.out _ _))) rfl (run_loadVar_row _ _ _ _ _ _ _ T10.out Tryd.underlying49 rfl want_size)) rfl ?_
  exact ⟨_, _, _, rfl, ((O9.out.ch K9.out (fun q hq e => by have e1 : q = w.heap.size + 3 := e; have := (O9.out.blk hq).1; omega)).ch K10.out (fun q hq e => by have e1 : q = w.heap.size + 4 := e; have := (O9.out.blk hq).1; omega)).lower (by omega), Ch.trans (Ch.trans G9.out K9.out (fun q e => .inr (by have e1 : q = w.heap.size + 3 := e; omega))) K10.out (fun q e => .inr (by have e1 : q = w.heap.size + 4 := e; omega))⟩
end Go.Proofs.YtcdlhfodeckleaaDoor.Lt

namespace Go.Proofs.YtcdlhfodeckleaaDoor.Lt
open Go.RowKit Wd

set_option maxHeartbeats 2000000 in
set_option maxRecDepth 20000 in
theorem rstep_now (P : Nat → Prop) (w : World) (aoc aof aot : Option Addr) (nc nf nt cac caf cat : Nat) (cs : List Int) (h : Ls eU P w (.slice aoc nc cac) cs) (hu : U32s cs) (hcl : nc ≤ 35184372088832) (pc : Int) (r : List Int) (hr : r.length = 16) (ao : Option Addr) (n cap : Nat) (ks : List Int) (hk : Ls eI P w (.slice ao n cap) ks) (hn : n ≤ 17592186044416) (ck sl gn : Int)
    (o1 im : Int) (a b c : Nat) (la : a < 16) (lb : b < 16) (lc : c < 16) (x y z : Int) (hx : r[a]? = some x) (hy : r[b]? = some y) (hz : r[c]? = some z) (hI : nI cs pc = (o1, (a : Int), (b : Int), (c : Int), im)) (hB : nB cs pc = true) (ho : o1 = 26) :
    Calls Tryd.prog 17 #[.agg #[.slice aoc nc cac, .slice aof nf caf, .slice aot nt cat], .agg (cC pc r (.slice ao n cap)), .agg #[.int .u64 ck, .int .i64 sl, .int .i64 gn]] w (StR w (pc + 1) (r.set a (wrap64 ck)) ks #[.int .i64 0, .int .i64 0, .int .i64 0, .int .i64 0, .int .i64 0, .int .i64 0, .int .i64 0, .int .i64 0, .int .i64 0, .int .i64 0, .int .i64 0]) := by
  have hlen := h.len.1
  have hpc : 0 ≤ pc ∧ pc < (nc : Int) := by
    unfold nB at hB
    split at hB
    · rename_i q; rw [hlen]; exact q
    · cases hB
  have HN := hid (fun (W : World) (p : Gr w W) => rnext9_any P W aoc aof aot nc nf nt cac caf cat cs (h.gr p) hu pc r hr ao n cap)
  rw [hI, hB] at HN
  unfold iV at HN
  simp only at HN
  have HC := hid (fun (W : World) (p : Gr w W) => rcalls9_any P W ao n cap ks (hk.gr p) hn)
  have V0 := hid (vs_new w #[.slice aoc nc cac, .slice aof nf caf, .slice aot nt cat] (cC pc r (.slice ao n cap)) #[.int .u64 ck, .int .i64 sl, .int .i64 gn] #[.int .i64 0, .int .i64 0, .int .i64 0, .int .i64 0, .int .i64 0, .int .i64 0, .int .i64 0, .int .i64 0, .int .i64 0, .int .i64 0, .int .i64 0, .int .i64 0, .int .i64 0, .int .i64 0, .int .i64 0, .int .i64 0, .int .i64 0, .slice none 0 0] #[.int .i64 0, .int .i64 0, .int .i64 0, .int .i64 0, .int .i64 0, .int .i64 0, .int .i64 0, .int .i64 0, .int .i64 0, .int .i64 0, .int .i64 0])
  have K0 := hid (show Gr w (((((w.alloc (.cells #[.slice aoc nc cac, .slice aof nf caf, .slice aot nt cat] 26)).alloc (.cells (cC pc r (.slice ao n cap)) 30)).alloc (.cells #[.int .u64 ck, .int .i64 sl, .int .i64 gn] 44)).alloc (.cells #[.int .i64 0, .int .i64 0, .int .i64 0, .int .i64 0, .int .i64 0, .int .i64 0, .int .i64 0, .int .i64 0, .int .i64 0, .int .i64 0, .int .i64 0, .int .i64 0, .int .i64 0, .int .i64 0, .int .i64 0, .int .i64 0, .int .i64 0, .slice none 0 0] 30)).alloc (.cells #[.int .i64 0, .int .i64 0, .int .i64 0, .int .i64 0, .int .i64 0, .int .i64 0, .int .i64 0, .int .i64 0, .int .i64 0, .int .i64 0, .int .i64 0] 49)) from Ch.alloc (Ch.alloc (Ch.alloc (Ch.alloc (Ch.alloc (Gr.refl w) _) _) _) _) _)
  have HSZ := hid (fun (pc : Int) (v : Value) => cC_size (pc := pc) (v := v) hr)
  have HX := hid hx
  have HY := hid hy
  have HZ := hid hz
  have a0 : (0 : Int) ≤ (a : Int) := by omega
  have a1 : (a : Int) < 16 := by omega
  have b0 : (0 : Int) ≤ (b : Int) := by omega
  have b1 : (b : Int) < 16 := by omega
  have c0 : (0 : Int) ≤ (c : Int) := by omega
  have c1 : (c : Int) < 16 := by omega
  have HKL := hid hk.len.1
  have HRR := hid hr
  have HO1 := hid ho
  have HTW := hid (show ¬ Two o1 from by unfold Two; omega)
  clear ho
  have e1 : (o1 == 1) = false := by rw [HO1.out]; rfl
  have e2 : (o1 == 2) = false := by rw [HO1.out]; rfl
  have e3 : (o1 == 3) = false := by rw [HO1.out]; rfl
  have e4 : (o1 == 4) = false := by rw [HO1.out]; rfl
  have e8 : (o1 == 8) = false := by rw [HO1.out]; rfl
  have e9 : (o1 == 9) = false := by rw [HO1.out]; rfl
  have e17 : (o1 == 17) = false := by rw [HO1.out]; rfl
  have e18 : (o1 == 18) = false := by rw [HO1.out]; rfl
  have e19 : (o1 == 19) = false := by rw [HO1.out]; rfl
  have e20 : (o1 == 20) = false := by rw [HO1.out]; rfl
  have e21 : (o1 == 21) = false := by rw [HO1.out]; rfl
  have e25 : (o1 == 25) = false := by rw [HO1.out]; rfl
  have e26 : (o1 == 26) = true := by rw [HO1.out]; rfl
  obtain ⟨q0, q1⟩ := hpc
  have q2 : pc ≤ 35184372088832 := by omega
  clear h hu hI hB hlen hr hx hy hz hk
  go_enter Tryd.func17, Tryd.ntmps17
  go_upto_region 4 with (first
    | (refine wpList_load_row rfl 30 (.tmp 4) rfl (w.heap.size + 1) rfl _ _ _ _ V0.out.c Tryd.underlying30 rfl (ctx_size' (HSZ.out _ _)) ?_)
    | (go_at_call 26; refine (HN.out _ K0.out).mono ?_; rintro e w1 ⟨rfl, g1⟩; have V1 := hid (V0.out.gr (Ch.alloc g1 (.cells #[.int .i64 o1, .int .i64 (a : Int), .int .i64 (b : Int), .int .i64 (c : Int), .int .i64 im] 46))); have G1 := hid (show Gr w (w1.alloc (.cells #[.int .i64 o1, .int .i64 (a : Int), .int .i64 (b : Int), .int .i64 (c : Int), .int .i64 im] 46)) from Ch.alloc (Gr.trans K0.out g1) _); have I1 := hid (MapKept.heap_alloc w1 (.cells #[.int .i64 o1, .int .i64 (a : Int), .int .i64 (b : Int), .int .i64 (c : Int), .int .i64 im] 46)).1; have S1 := hid (show w.heap.size + 5 ≤ w1.heap.size from Nat.lt_of_lt_of_le (lt_of_block V0.out.t) g1.size); have S1b := hid (show w1.heap.size < (w1.alloc (.cells #[.int .i64 o1, .int .i64 (a : Int), .int .i64 (b : Int), .int .i64 (c : Int), .int .i64 im] 46)).heap.size from (by simp)); clear g1))
  generalize w1.alloc (.cells #[.int .i64 o1, .int .i64 (a : Int), .int .i64 (b : Int), .int .i64 (c : Int), .int .i64 im] 46) = W1 at V1 G1 I1 S1b ⊢
  generalize w1.heap.size = tb at I1 S1 S1b ⊢
  have BD0 := hid (show (W1.alloc (.cells #[.int .i64 0, .int .i64 0, .int .i64 0, .int .i64 0, .int .i64 0, .int .i64 0, .int .i64 0, .int .i64 0, .int .i64 0, .int .i64 0, .int .i64 0, .int .i64 0, .int .i64 0, .int .i64 0, .int .i64 0, .int .i64 0, .int .i64 0, .slice none 0 0] 30)).heap[W1.heap.size]? = some (.cells #[.int .i64 0, .int .i64 0, .int .i64 0, .int .i64 0, .int .i64 0, .int .i64 0, .int .i64 0, .int .i64 0, .int .i64 0, .int .i64 0, .int .i64 0, .int .i64 0, .int .i64 0, .int .i64 0, .int .i64 0, .int .i64 0, .int .i64 0, .slice none 0 0] 30 (0, 0)) from (MapKept.heap_alloc W1 _).1)
  have GA := hid (show Gr W1 (W1.alloc (.cells #[.int .i64 0, .int .i64 0, .int .i64 0, .int .i64 0, .int .i64 0, .int .i64 0, .int .i64 0, .int .i64 0, .int .i64 0, .int .i64 0, .int .i64 0, .int .i64 0, .int .i64 0, .int .i64 0, .int .i64 0, .int .i64 0, .int .i64 0, .slice none 0 0] 30)) from Ch.alloc (Gr.refl _) _)
  go_upto_region 6 with (first
    | (refine wpList_load_row rfl 30 (.tmp 4) rfl (w.heap.size + 1) rfl _ _ _ _ V1.out.c Tryd.underlying30 rfl (ctx_size' (HSZ.out _ _)) ?_)
    | (refine st_row rfl 30 (.tmp 10) (.tmp 31) rfl W1.heap.size _ rfl rfl _ _ BD0.out (ctx_size' (HSZ.out _ _)) (HSZ.out _ _).symm cC_one ?_; intro w2 b2 k2; have D2 := hid b2; have G2 := hid (show Gr W1 w2 from Ch.trans GA.out k2 (fun q e => .inr (by have e1 : q = W1.heap.size := e; omega))); have V2 := hid (V1.out.gr G2.out); have I2 := hid (gr_blk I1.out G2.out); have y17 := (cell_of V2.out.c 17).trans (cC_v HRR.out _ _); have l17 := lt_of_block V2.out.c; clear b2 k2)
    | (go_at_call 38; refine (HC.out _ (Gr.trans G1.out G2.out)).mono ?_; rintro e w3 ⟨v3, rfl, o3, g3⟩; obtain ⟨ao2, cap2, hv3⟩ := o3.form; generalize hq3 : ks.length = n2 at hv3; subst hv3; have HN2 := hid hq3; have D3 := hid (gr_blk D2.out g3); have V3 := hid (V2.out.gr g3); have I3 := hid (gr_blk I2.out g3); have G3 := hid (Gr.trans (Gr.trans G1.out G2.out) g3); have O3 := hid o3; have S3 := hid (show W1.heap.size < w2.heap.size from lt_of_block D2.out); have d17 := (cell_of D3.out 17).trans (cC_v HRR.out _ _); have e17 := frozen_of D3.out 17; have m17 := lt_of_block D3.out; clear o3 g3 hq3))
  generalize W1.heap.size = td at D2 D3 S1b S3 d17 e17 m17 BD0 ⊢
  have hb4 : (w3.setCell ⟨td, 17, none⟩ (.slice ao2 n2 cap2)).heap[td]? = some (.cells (cC pc r (.slice ao2 n2 cap2)) 30 (0, 0)) := by rw [← cC_setv HRR.out pc (.slice ao n cap)]; exact setCell_block D3.out 17 _
  have hc4 : Ch (Only td) w3 (w3.setCell ⟨td, 17, none⟩ (.slice ao2 n2 cap2)) := (Ch.refl _ _).own 17 _
  have V4 := hid (V3.out.off hc4 (by have := S1.out; have := S1b.out; omega))
  have I4 := hid ((hc4.block _ (lt_of_block I3.out) (fun q => by have q1 : tb = td := q; have := S1b.out; omega)).trans I3.out)
  have O4 := hid (O3.out.ch hc4 (fun q hq e => by have e1 : q = td := e; have := (O3.out.blk hq).1; have := S3.out; omega))
  have G4 := hid (show Gr w (w3.setCell ⟨td, 17, none⟩ (.slice ao2 n2 cap2)) from Ch.trans G3.out hc4 (fun q e => .inr (by have e1 : q = td := e; have := S1.out; have := S1b.out; omega)))
  have D4 := hid hb4
  have H2 := hid (show ∀ q, Blk (.slice ao2 n2 cap2) q → td < q from fun q e => by have := (O3.out.blk e).1; have := S3.out; omega)
  have T5 := hid (show w.heap.size + 5 ≤ tb ∧ tb < td from ⟨S1.out, S1b.out⟩)
  have O5 := hid (O4.out.lower (show w.heap.size + 5 ≤ _ from by have := S1.out; have := S1b.out; have := S3.out; omega))
  clear hb4 hc4 y17 l17 d17 e17 m17 D2 D3 BD0 GA V2 V3 I2 I3 G2 G3 O3 S3 O4 S1 S1b
  generalize w3.setCell ⟨td, 17, none⟩ (.slice ao2 n2 cap2) = W4 at V4 I4 G4 D4 O5 ⊢
  have d0 := (cell_of D4.out 0).trans (cC_pc _ _ _)
  have e0 := frozen_of D4.out 0
  have m0 := lt_of_block D4.out
  go_upto_region 7 with fail
  have hb6 : (W4.setCell ⟨td, 0, none⟩ (.int .i64 (pc + 1))).heap[td]? = some (.cells (cC (pc + 1) r (.slice ao2 n2 cap2)) 30 (0, 0)) := by rw [← cC_setpc pc]; exact setCell_block D4.out 0 _
  have hc6 : Ch (Only td) W4 (W4.setCell ⟨td, 0, none⟩ (.int .i64 (pc + 1))) := (Ch.refl _ _).own 0 _
  have V6 := hid (V4.out.off hc6 (by have := T5.out; omega))
  have I6 := hid ((hc6.block _ (lt_of_block I4.out) (fun q => by have q1 : tb = td := q; have := T5.out; omega)).trans I4.out)
  have O6 := hid (O5.out.ch hc6 (fun q hq e => by have e1 : q = td := e; have := H2.out q hq; omega))
  have G6 := hid (show Gr w (W4.setCell ⟨td, 0, none⟩ (.int .i64 (pc + 1))) from Ch.trans G4.out hc6 (fun q e => .inr (by have e1 : q = td := e; have := T5.out; omega)))
  have D6 := hid hb6
  clear hb6 hc6 d0 e0 m0
  generalize W4.setCell ⟨td, 0, none⟩ (.int .i64 (pc + 1)) = W6 at V6 I6 G6 D6 O6 ⊢
  have i0 := (cell_of I6.out 0).trans (rfl : _ = some (Value.int .i64 o1))
  have i1 := (cell_of I6.out 1).trans (rfl : _ = some (Value.int .i64 (a : Int)))
  have i2 := (cell_of I6.out 2).trans (rfl : _ = some (Value.int .i64 (b : Int)))
  have i3 := (cell_of I6.out 3).trans (rfl : _ = some (Value.int .i64 (c : Int)))
  have i4 := (cell_of I6.out 4).trans (rfl : _ = some (Value.int .i64 im))
  have il := lt_of_block I6.out
  have x1 := (cell_of V6.out.c (1 + a)).trans (cC_get HX.out)
  have x2 := (cell_of V6.out.c (1 + b)).trans (cC_get HY.out)
  have x3 := (cell_of V6.out.c (1 + c)).trans (cC_get HZ.out)
  have xl := lt_of_block V6.out.c
  go_quiet (fail)
  clear x1 x2 x3 xl i0 i1 i2 i3 i4 il
  have V7 := hid (show Vs (W6.drewN nq) w.heap.size #[.slice aoc nc cac, .slice aof nf caf, .slice aot nt cat] (cC pc r (.slice ao n cap)) #[.int .u64 ck, .int .i64 sl, .int .i64 gn] #[.int .i64 0, .int .i64 0, .int .i64 0, .int .i64 0, .int .i64 0, .int .i64 0, .int .i64 0, .int .i64 0, .int .i64 0, .int .i64 0, .int .i64 0, .int .i64 0, .int .i64 0, .int .i64 0, .int .i64 0, .int .i64 0, .int .i64 0, .slice none 0 0] #[.int .i64 0, .int .i64 0, .int .i64 0, .int .i64 0, .int .i64 0, .int .i64 0, .int .i64 0, .int .i64 0, .int .i64 0, .int .i64 0, .int .i64 0] from ⟨V6.out.p, V6.out.c, V6.out.e, V6.out.r, V6.out.t⟩)
  have I7 := hid (show (W6.drewN nq).heap[tb]? = some (.cells #[.int .i64 o1, .int .i64 (a : Int), .int .i64 (b : Int), .int .i64 (c : Int), .int .i64 im] 46 (0, 0)) from I6.out)
  have D7 := hid (show (W6.drewN nq).heap[td]? = some (.cells (cC (pc + 1) r (.slice ao2 n2 cap2)) 30 (0, 0)) from D6.out)
  have O7 := hid (show Ow eI 1 3 (w.heap.size + 5) (W6.drewN nq) (.slice ao2 n2 cap2) ks from O6.out)
  have G7 := hid (show Gr w (W6.drewN nq) from Ch.drewN G6.out nq)
  clear V6 I6 D6 O6 G6
  generalize W6.drewN nq = W7 at V7 I7 D7 O7 G7 ⊢
  have i0 := (cell_of I7.out 0).trans (rfl : _ = some (Value.int .i64 o1))
  have il := lt_of_block I7.out
  have HWK := hid (fun (W : World) => worked_no o1 y z HTW.out W)
  go_upto_region 53 with (go_at_call 39; refine (HWK.out _).mono ?_; rintro e w8 ⟨rfl, g8⟩; have V8 := hid (V7.out.gr g8); have I8 := hid (gr_blk I7.out g8); have D8 := hid (gr_blk D7.out g8); have O8 := hid (O7.out.gr g8); have G8 := hid (Gr.trans G7.out g8); have j0 := (cell_of I8.out 0).trans (rfl : _ = some (Value.int .i64 o1)); have jl := lt_of_block I8.out; clear g8 i0 il)
  have HRL := HRR
  clear j0 jl
  have ev := (cell_of V8.out.e 0).trans (rfl : _ = some (Value.int .u64 ck))
  have evl := lt_of_block V8.out.e
  have j0 := (cell_of I8.out 0).trans (rfl : _ = some (Value.int .i64 o1))
  have j1 := (cell_of I8.out 1).trans (rfl : _ = some (Value.int .i64 (a : Int)))
  have j4 := (cell_of I8.out 4).trans (rfl : _ = some (Value.int .i64 im))
  have jl := lt_of_block I8.out
  obtain ⟨u9, hu9⟩ : ∃ u, (cC (pc + 1) r (.slice ao2 n2 cap2))[1 + a]? = some (.int .i64 u) := ⟨_, cC_get HX.out⟩
  have y9 := (cell_of D8.out (1 + a)).trans hu9
  have z9 := frozen_of D8.out (1 + a)
  have l9 := lt_of_block D8.out
  clear hu9
  go_upto_region 60 with fail
  clear j0 j1 j4 jl y9 z9 l9
  have hb9 : (w8.setCell ⟨td, 1 + a, none⟩ (.int .i64 (wrap64 ck))).heap[td]? = some (.cells (cC (pc + 1) (r.set a (wrap64 ck)) (.slice ao2 n2 cap2)) 30 (0, 0)) := by rw [← cC_set (by rw [HRL.out]; exact la)]; exact setCell_block D8.out (1 + a) (.int .i64 (wrap64 ck))
  have hc9 : Ch (Only td) w8 (w8.setCell ⟨td, 1 + a, none⟩ (.int .i64 (wrap64 ck))) := (Ch.refl _ _).own (1 + a) _
  have V9 := hid (V8.out.off hc9 (by have := T5.out; omega))
  have I9 := hid ((hc9.block _ (lt_of_block I8.out) (fun q => by have q1 : tb = td := q; have := T5.out; omega)).trans I8.out)
  have O9 := hid (O8.out.ch hc9 (fun q hq e => by have e1 : q = td := e; have := H2.out q hq; omega))
  have G9 := hid (show Gr w (w8.setCell ⟨td, 1 + a, none⟩ (.int .i64 (wrap64 ck))) from Ch.trans G8.out hc9 (fun q e => .inr (by have e1 : q = td := e; have := T5.out; omega)))
  have D9 := hid hb9
  clear hb9 hc9
  generalize w8.setCell ⟨td, 1 + a, none⟩ (.int .i64 (wrap64 ck)) = W9 at V9 I9 O9 G9 D9 ⊢
  have HSZ := hid (fun (pc : Int) (v : Value) => cC_size (pc := pc) (v := v) (show (r.set a (wrap64 ck)).length = 16 from (List.length_set).trans HRR.out))
  go_wp2_with (first
    | (refine wpList_load_row rfl 30 (.tmp 10) rfl td rfl _ _ _ _ D9.out Tryd.underlying30 rfl (ctx_size' (HSZ.out _ _)) ?_)
    | (refine st_row rfl 30 (.tmp 6) (.tmp 248) rfl (w.heap.size + 3) _ rfl rfl _ _ V9.out.r (ctx_size' (HSZ.out _ _)) (HSZ.out _ _).symm cC_one ?_; intro w9 b9 k9; have R9 := hid b9; have K9 := hid k9; have T9 := hid ((k9.block _ (lt_of_block V9.out.t) (fun q => by have q1 : w.heap.size + 4 = w.heap.size + 3 := q; omega)).trans V9.out.t); clear b9 k9)
    | (refine st_row rfl 49 (.tmp 7) (.tmp 249) rfl (w.heap.size + 4) _ rfl rfl _ _ T9.out want_size rfl one11 ?_; intro w10 b10 k10; have T10 := hid b10; have K10 := hid k10; have R10 := hid ((k10.block _ (lt_of_block R9.out) (fun q => by have q1 : w.heap.size + 3 = w.heap.size + 4 := q; omega)).trans R9.out); clear b10 k10))
  refine bodyPost_ret (results_cell_cell rfl _ _ (w.heap.size + 3) (w.heap.size + 4) _ _ rfl (run_loadVar_row _ _ _ _ _ _ _ R10.out Tryd.underlying30 rfl (ctx_size' (HSZ.out _ _))) rfl (run_loadVar_row _ _ _ _ _ _ _ T10.out Tryd.underlying49 rfl want_size)) rfl ?_
  exact ⟨_, _, _, rfl, ((O9.out.ch K9.out (fun q hq e => by have e1 : q = w.heap.size + 3 := e; have := (O9.out.blk hq).1; omega)).ch K10.out (fun q hq e => by have e1 : q = w.heap.size + 4 := e; have := (O9.out.blk hq).1; omega)).lower (by omega), Ch.trans (Ch.trans G9.out K9.out (fun q e => .inr (by have e1 : q = w.heap.size + 3 := e; omega))) K10.out (fun q e => .inr (by have e1 : q = w.heap.size + 4 := e; omega))⟩
set_option maxHeartbeats 2000000 in
set_option maxRecDepth 20000 in
theorem rstep_self (P : Nat → Prop) (w : World) (aoc aof aot : Option Addr) (nc nf nt cac caf cat : Nat) (cs : List Int) (h : Ls eU P w (.slice aoc nc cac) cs) (hu : U32s cs) (hcl : nc ≤ 35184372088832) (pc : Int) (r : List Int) (hr : r.length = 16) (ao : Option Addr) (n cap : Nat) (ks : List Int) (hk : Ls eI P w (.slice ao n cap) ks) (hn : n ≤ 17592186044416) (ck sl gn : Int)
    (o1 im : Int) (a b c : Nat) (la : a < 16) (lb : b < 16) (lc : c < 16) (x y z : Int) (hx : r[a]? = some x) (hy : r[b]? = some y) (hz : r[c]? = some z) (hI : nI cs pc = (o1, (a : Int), (b : Int), (c : Int), im)) (hB : nB cs pc = true) (ho : o1 = 25) :
    Calls Tryd.prog 17 #[.agg #[.slice aoc nc cac, .slice aof nf caf, .slice aot nt cat], .agg (cC pc r (.slice ao n cap)), .agg #[.int .u64 ck, .int .i64 sl, .int .i64 gn]] w (StR w (pc + 1) (r.set a (hd sl gn)) ks #[.int .i64 0, .int .i64 0, .int .i64 0, .int .i64 0, .int .i64 0, .int .i64 0, .int .i64 0, .int .i64 0, .int .i64 0, .int .i64 0, .int .i64 0]) := by
  have hlen := h.len.1
  have hpc : 0 ≤ pc ∧ pc < (nc : Int) := by
    unfold nB at hB
    split at hB
    · rename_i q; rw [hlen]; exact q
    · cases hB
  have HN := hid (fun (W : World) (p : Gr w W) => rnext9_any P W aoc aof aot nc nf nt cac caf cat cs (h.gr p) hu pc r hr ao n cap)
  rw [hI, hB] at HN
  unfold iV at HN
  simp only at HN
  have HC := hid (fun (W : World) (p : Gr w W) => rcalls9_any P W ao n cap ks (hk.gr p) hn)
  have V0 := hid (vs_new w #[.slice aoc nc cac, .slice aof nf caf, .slice aot nt cat] (cC pc r (.slice ao n cap)) #[.int .u64 ck, .int .i64 sl, .int .i64 gn] #[.int .i64 0, .int .i64 0, .int .i64 0, .int .i64 0, .int .i64 0, .int .i64 0, .int .i64 0, .int .i64 0, .int .i64 0, .int .i64 0, .int .i64 0, .int .i64 0, .int .i64 0, .int .i64 0, .int .i64 0, .int .i64 0, .int .i64 0, .slice none 0 0] #[.int .i64 0, .int .i64 0, .int .i64 0, .int .i64 0, .int .i64 0, .int .i64 0, .int .i64 0, .int .i64 0, .int .i64 0, .int .i64 0, .int .i64 0])
  have K0 := hid (show Gr w (((((w.alloc (.cells #[.slice aoc nc cac, .slice aof nf caf, .slice aot nt cat] 26)).alloc (.cells (cC pc r (.slice ao n cap)) 30)).alloc (.cells #[.int .u64 ck, .int .i64 sl, .int .i64 gn] 44)).alloc (.cells #[.int .i64 0, .int .i64 0, .int .i64 0, .int .i64 0, .int .i64 0, .int .i64 0, .int .i64 0, .int .i64 0, .int .i64 0, .int .i64 0, .int .i64 0, .int .i64 0, .int .i64 0, .int .i64 0, .int .i64 0, .int .i64 0, .int .i64 0, .slice none 0 0] 30)).alloc (.cells #[.int .i64 0, .int .i64 0, .int .i64 0, .int .i64 0, .int .i64 0, .int .i64 0, .int .i64 0, .int .i64 0, .int .i64 0, .int .i64 0, .int .i64 0] 49)) from Ch.alloc (Ch.alloc (Ch.alloc (Ch.alloc (Ch.alloc (Gr.refl w) _) _) _) _) _)
  have HSZ := hid (fun (pc : Int) (v : Value) => cC_size (pc := pc) (v := v) hr)
  have HX := hid hx
  have HY := hid hy
  have HZ := hid hz
  have a0 : (0 : Int) ≤ (a : Int) := by omega
  have a1 : (a : Int) < 16 := by omega
  have b0 : (0 : Int) ≤ (b : Int) := by omega
  have b1 : (b : Int) < 16 := by omega
  have c0 : (0 : Int) ≤ (c : Int) := by omega
  have c1 : (c : Int) < 16 := by omega
  have HKL := hid hk.len.1
  have HRR := hid hr
  have HO1 := hid ho
  have HTW := hid (show ¬ Two o1 from by unfold Two; omega)
  clear ho
  have e1 : (o1 == 1) = false := by rw [HO1.out]; rfl
  have e2 : (o1 == 2) = false := by rw [HO1.out]; rfl
  have e3 : (o1 == 3) = false := by rw [HO1.out]; rfl
  have e4 : (o1 == 4) = false := by rw [HO1.out]; rfl
  have e8 : (o1 == 8) = false := by rw [HO1.out]; rfl
  have e9 : (o1 == 9) = false := by rw [HO1.out]; rfl
  have e17 : (o1 == 17) = false := by rw [HO1.out]; rfl
  have e18 : (o1 == 18) = false := by rw [HO1.out]; rfl
  have e19 : (o1 == 19) = false := by rw [HO1.out]; rfl
  have e20 : (o1 == 20) = false := by rw [HO1.out]; rfl
  have e21 : (o1 == 21) = false := by rw [HO1.out]; rfl
  have e25 : (o1 == 25) = true := by rw [HO1.out]; rfl
  obtain ⟨q0, q1⟩ := hpc
  have q2 : pc ≤ 35184372088832 := by omega
  clear h hu hI hB hlen hr hx hy hz hk
  go_enter Tryd.func17, Tryd.ntmps17
  go_upto_region 4 with (first
    | (refine wpList_load_row rfl 30 (.tmp 4) rfl (w.heap.size + 1) rfl _ _ _ _ V0.out.c Tryd.underlying30 rfl (ctx_size' (HSZ.out _ _)) ?_)
    | (go_at_call 26; refine (HN.out _ K0.out).mono ?_; rintro e w1 ⟨rfl, g1⟩; have V1 := hid (V0.out.gr (Ch.alloc g1 (.cells #[.int .i64 o1, .int .i64 (a : Int), .int .i64 (b : Int), .int .i64 (c : Int), .int .i64 im] 46))); have G1 := hid (show Gr w (w1.alloc (.cells #[.int .i64 o1, .int .i64 (a : Int), .int .i64 (b : Int), .int .i64 (c : Int), .int .i64 im] 46)) from Ch.alloc (Gr.trans K0.out g1) _); have I1 := hid (MapKept.heap_alloc w1 (.cells #[.int .i64 o1, .int .i64 (a : Int), .int .i64 (b : Int), .int .i64 (c : Int), .int .i64 im] 46)).1; have S1 := hid (show w.heap.size + 5 ≤ w1.heap.size from Nat.lt_of_lt_of_le (lt_of_block V0.out.t) g1.size); have S1b := hid (show w1.heap.size < (w1.alloc (.cells #[.int .i64 o1, .int .i64 (a : Int), .int .i64 (b : Int), .int .i64 (c : Int), .int .i64 im] 46)).heap.size from (by simp)); clear g1))
  generalize w1.alloc (.cells #[.int .i64 o1, .int .i64 (a : Int), .int .i64 (b : Int), .int .i64 (c : Int), .int .i64 im] 46) = W1 at V1 G1 I1 S1b ⊢
  generalize w1.heap.size = tb at I1 S1 S1b ⊢
  have BD0 := hid (show (W1.alloc (.cells #[.int .i64 0, .int .i64 0, .int .i64 0, .int .i64 0, .int .i64 0, .int .i64 0, .int .i64 0, .int .i64 0, .int .i64 0, .int .i64 0, .int .i64 0, .int .i64 0, .int .i64 0, .int .i64 0, .int .i64 0, .int .i64 0, .int .i64 0, .slice none 0 0] 30)).heap[W1.heap.size]? = some (.cells #[.int .i64 0, .int .i64 0, .int .i64 0, .int .i64 0, .int .i64 0, .int .i64 0, .int .i64 0, .int .i64 0, .int .i64 0, .int .i64 0, .int .i64 0, .int .i64 0, .int .i64 0, .int .i64 0, .int .i64 0, .int .i64 0, .int .i64 0, .slice none 0 0] 30 (0, 0)) from (MapKept.heap_alloc W1 _).1)
  have GA := hid (show Gr W1 (W1.alloc (.cells #[.int .i64 0, .int .i64 0, .int .i64 0, .int .i64 0, .int .i64 0, .int .i64 0, .int .i64 0, .int .i64 0, .int .i64 0, .int .i64 0, .int .i64 0, .int .i64 0, .int .i64 0, .int .i64 0, .int .i64 0, .int .i64 0, .int .i64 0, .slice none 0 0] 30)) from Ch.alloc (Gr.refl _) _)
  go_upto_region 6 with (first
    | (refine wpList_load_row rfl 30 (.tmp 4) rfl (w.heap.size + 1) rfl _ _ _ _ V1.out.c Tryd.underlying30 rfl (ctx_size' (HSZ.out _ _)) ?_)
    | (refine st_row rfl 30 (.tmp 10) (.tmp 31) rfl W1.heap.size _ rfl rfl _ _ BD0.out (ctx_size' (HSZ.out _ _)) (HSZ.out _ _).symm cC_one ?_; intro w2 b2 k2; have D2 := hid b2; have G2 := hid (show Gr W1 w2 from Ch.trans GA.out k2 (fun q e => .inr (by have e1 : q = W1.heap.size := e; omega))); have V2 := hid (V1.out.gr G2.out); have I2 := hid (gr_blk I1.out G2.out); have y17 := (cell_of V2.out.c 17).trans (cC_v HRR.out _ _); have l17 := lt_of_block V2.out.c; clear b2 k2)
    | (go_at_call 38; refine (HC.out _ (Gr.trans G1.out G2.out)).mono ?_; rintro e w3 ⟨v3, rfl, o3, g3⟩; obtain ⟨ao2, cap2, hv3⟩ := o3.form; generalize hq3 : ks.length = n2 at hv3; subst hv3; have HN2 := hid hq3; have D3 := hid (gr_blk D2.out g3); have V3 := hid (V2.out.gr g3); have I3 := hid (gr_blk I2.out g3); have G3 := hid (Gr.trans (Gr.trans G1.out G2.out) g3); have O3 := hid o3; have S3 := hid (show W1.heap.size < w2.heap.size from lt_of_block D2.out); have d17 := (cell_of D3.out 17).trans (cC_v HRR.out _ _); have e17 := frozen_of D3.out 17; have m17 := lt_of_block D3.out; clear o3 g3 hq3))
  generalize W1.heap.size = td at D2 D3 S1b S3 d17 e17 m17 BD0 ⊢
  have hb4 : (w3.setCell ⟨td, 17, none⟩ (.slice ao2 n2 cap2)).heap[td]? = some (.cells (cC pc r (.slice ao2 n2 cap2)) 30 (0, 0)) := by rw [← cC_setv HRR.out pc (.slice ao n cap)]; exact setCell_block D3.out 17 _
  have hc4 : Ch (Only td) w3 (w3.setCell ⟨td, 17, none⟩ (.slice ao2 n2 cap2)) := (Ch.refl _ _).own 17 _
  have V4 := hid (V3.out.off hc4 (by have := S1.out; have := S1b.out; omega))
  have I4 := hid ((hc4.block _ (lt_of_block I3.out) (fun q => by have q1 : tb = td := q; have := S1b.out; omega)).trans I3.out)
  have O4 := hid (O3.out.ch hc4 (fun q hq e => by have e1 : q = td := e; have := (O3.out.blk hq).1; have := S3.out; omega))
  have G4 := hid (show Gr w (w3.setCell ⟨td, 17, none⟩ (.slice ao2 n2 cap2)) from Ch.trans G3.out hc4 (fun q e => .inr (by have e1 : q = td := e; have := S1.out; have := S1b.out; omega)))
  have D4 := hid hb4
  have H2 := hid (show ∀ q, Blk (.slice ao2 n2 cap2) q → td < q from fun q e => by have := (O3.out.blk e).1; have := S3.out; omega)
  have T5 := hid (show w.heap.size + 5 ≤ tb ∧ tb < td from ⟨S1.out, S1b.out⟩)
  have O5 := hid (O4.out.lower (show w.heap.size + 5 ≤ _ from by have := S1.out; have := S1b.out; have := S3.out; omega))
  clear hb4 hc4 y17 l17 d17 e17 m17 D2 D3 BD0 GA V2 V3 I2 I3 G2 G3 O3 S3 O4 S1 S1b
  generalize w3.setCell ⟨td, 17, none⟩ (.slice ao2 n2 cap2) = W4 at V4 I4 G4 D4 O5 ⊢
  have d0 := (cell_of D4.out 0).trans (cC_pc _ _ _)
  have e0 := frozen_of D4.out 0
  have m0 := lt_of_block D4.out
  go_upto_region 7 with fail
  have hb6 : (W4.setCell ⟨td, 0, none⟩ (.int .i64 (pc + 1))).heap[td]? = some (.cells (cC (pc + 1) r (.slice ao2 n2 cap2)) 30 (0, 0)) := by rw [← cC_setpc pc]; exact setCell_block D4.out 0 _
  have hc6 : Ch (Only td) W4 (W4.setCell ⟨td, 0, none⟩ (.int .i64 (pc + 1))) := (Ch.refl _ _).own 0 _
  have V6 := hid (V4.out.off hc6 (by have := T5.out; omega))
  have I6 := hid ((hc6.block _ (lt_of_block I4.out) (fun q => by have q1 : tb = td := q; have := T5.out; omega)).trans I4.out)
  have O6 := hid (O5.out.ch hc6 (fun q hq e => by have e1 : q = td := e; have := H2.out q hq; omega))
  have G6 := hid (show Gr w (W4.setCell ⟨td, 0, none⟩ (.int .i64 (pc + 1))) from Ch.trans G4.out hc6 (fun q e => .inr (by have e1 : q = td := e; have := T5.out; omega)))
  have D6 := hid hb6
  clear hb6 hc6 d0 e0 m0
  generalize W4.setCell ⟨td, 0, none⟩ (.int .i64 (pc + 1)) = W6 at V6 I6 G6 D6 O6 ⊢
  have i0 := (cell_of I6.out 0).trans (rfl : _ = some (Value.int .i64 o1))
  have i1 := (cell_of I6.out 1).trans (rfl : _ = some (Value.int .i64 (a : Int)))
  have i2 := (cell_of I6.out 2).trans (rfl : _ = some (Value.int .i64 (b : Int)))
  have i3 := (cell_of I6.out 3).trans (rfl : _ = some (Value.int .i64 (c : Int)))
  have i4 := (cell_of I6.out 4).trans (rfl : _ = some (Value.int .i64 im))
  have il := lt_of_block I6.out
  have x1 := (cell_of V6.out.c (1 + a)).trans (cC_get HX.out)
  have x2 := (cell_of V6.out.c (1 + b)).trans (cC_get HY.out)
  have x3 := (cell_of V6.out.c (1 + c)).trans (cC_get HZ.out)
  have xl := lt_of_block V6.out.c
  go_quiet (fail)
  clear x1 x2 x3 xl i0 i1 i2 i3 i4 il
  have V7 := hid (show Vs (W6.drewN nq) w.heap.size #[.slice aoc nc cac, .slice aof nf caf, .slice aot nt cat] (cC pc r (.slice ao n cap)) #[.int .u64 ck, .int .i64 sl, .int .i64 gn] #[.int .i64 0, .int .i64 0, .int .i64 0, .int .i64 0, .int .i64 0, .int .i64 0, .int .i64 0, .int .i64 0, .int .i64 0, .int .i64 0, .int .i64 0, .int .i64 0, .int .i64 0, .int .i64 0, .int .i64 0, .int .i64 0, .int .i64 0, .slice none 0 0] #[.int .i64 0, .int .i64 0, .int .i64 0, .int .i64 0, .int .i64 0, .int .i64 0, .int .i64 0, .int .i64 0, .int .i64 0, .int .i64 0, .int .i64 0] from ⟨V6.out.p, V6.out.c, V6.out.e, V6.out.r, V6.out.t⟩)
  have I7 := hid (show (W6.drewN nq).heap[tb]? = some (.cells #[.int .i64 o1, .int .i64 (a : Int), .int .i64 (b : Int), .int .i64 (c : Int), .int .i64 im] 46 (0, 0)) from I6.out)
  have D7 := hid (show (W6.drewN nq).heap[td]? = some (.cells (cC (pc + 1) r (.slice ao2 n2 cap2)) 30 (0, 0)) from D6.out)
  have O7 := hid (show Ow eI 1 3 (w.heap.size + 5) (W6.drewN nq) (.slice ao2 n2 cap2) ks from O6.out)
  have G7 := hid (show Gr w (W6.drewN nq) from Ch.drewN G6.out nq)
  clear V6 I6 D6 O6 G6
  generalize W6.drewN nq = W7 at V7 I7 D7 O7 G7 ⊢
  have i0 := (cell_of I7.out 0).trans (rfl : _ = some (Value.int .i64 o1))
  have il := lt_of_block I7.out
  have HWK := hid (fun (W : World) => worked_no o1 y z HTW.out W)
  go_upto_region 51 with (go_at_call 39; refine (HWK.out _).mono ?_; rintro e w8 ⟨rfl, g8⟩; have V8 := hid (V7.out.gr g8); have I8 := hid (gr_blk I7.out g8); have D8 := hid (gr_blk D7.out g8); have O8 := hid (O7.out.gr g8); have G8 := hid (Gr.trans G7.out g8); have j0 := (cell_of I8.out 0).trans (rfl : _ = some (Value.int .i64 o1)); have jl := lt_of_block I8.out; clear g8 i0 il)
  have HRL := HRR
  clear j0 jl
  have ev1 := (cell_of V8.out.e 1).trans (rfl : _ = some (Value.int .i64 sl))
  have ev2 := (cell_of V8.out.e 2).trans (rfl : _ = some (Value.int .i64 gn))
  have evl := lt_of_block V8.out.e
  have HHD := hid (fun (W : World) => rhandle_any sl gn W)
  have j0 := (cell_of I8.out 0).trans (rfl : _ = some (Value.int .i64 o1))
  have j1 := (cell_of I8.out 1).trans (rfl : _ = some (Value.int .i64 (a : Int)))
  have j4 := (cell_of I8.out 4).trans (rfl : _ = some (Value.int .i64 im))
  have jl := lt_of_block I8.out
  obtain ⟨u9, hu9⟩ : ∃ u, (cC (pc + 1) r (.slice ao2 n2 cap2))[1 + a]? = some (.int .i64 u) := ⟨_, cC_get HX.out⟩
  have y9 := (cell_of D8.out (1 + a)).trans hu9
  have z9 := frozen_of D8.out (1 + a)
  have l9 := lt_of_block D8.out
  clear hu9
  go_region_with (go_at_call 41; refine (HHD.out _).mono ?_; rintro e wh ⟨rfl, gh⟩; have GH := hid (show Gr w8 wh from Gr.trans (by first | exact Gr.refl _ | exact Ch.drew (Gr.refl _)) gh); have VH := hid (V8.out.gr GH.out); have IH := hid (gr_blk I8.out GH.out); have DH := hid (gr_blk D8.out GH.out); have OH := hid (O8.out.gr GH.out); have GGH := hid (Gr.trans G8.out GH.out); have h1 := (cell_of IH.out 1).trans (rfl : _ = some (Value.int .i64 (a : Int))); have hl := lt_of_block IH.out; have y9h := (cell_of DH.out (1 + a)).trans (cC_get HX.out); have z9h := frozen_of DH.out (1 + a); have l9h := lt_of_block DH.out; clear gh)
  all_goals
    clear h1 hl y9h z9h l9h
    clear j0 j1 j4 jl y9 z9 l9
    have hb9 : (wh.setCell ⟨td, 1 + a, none⟩ (.int .i64 (hd sl gn))).heap[td]? = some (.cells (cC (pc + 1) (r.set a (hd sl gn)) (.slice ao2 n2 cap2)) 30 (0, 0)) := by rw [← cC_set (by rw [HRL.out]; exact la)]; exact setCell_block DH.out (1 + a) (.int .i64 (hd sl gn))
    have hc9 : Ch (Only td) wh (wh.setCell ⟨td, 1 + a, none⟩ (.int .i64 (hd sl gn))) := (Ch.refl _ _).own (1 + a) _
    have V9 := hid (VH.out.off hc9 (by have := T5.out; omega))
    have I9 := hid ((hc9.block _ (lt_of_block IH.out) (fun q => by have q1 : tb = td := q; have := T5.out; omega)).trans IH.out)
    have O9 := hid (OH.out.ch hc9 (fun q hq e => by have e1 : q = td := e; have := H2.out q hq; omega))
    have G9 := hid (show Gr w (wh.setCell ⟨td, 1 + a, none⟩ (.int .i64 (hd sl gn))) from Ch.trans GGH.out hc9 (fun q e => .inr (by have e1 : q = td := e; have := T5.out; omega)))
    have D9 := hid hb9
    clear hb9 hc9
    generalize wh.setCell ⟨td, 1 + a, none⟩ (.int .i64 (hd sl gn)) = W9 at V9 I9 O9 G9 D9 ⊢
    have HSZ := hid (fun (pc : Int) (v : Value) => cC_size (pc := pc) (v := v) (show (r.set a (hd sl gn)).length = 16 from (List.length_set).trans HRR.out))
    go_wp2_with (first
      | (refine wpList_load_row rfl 30 (.tmp 10) rfl td rfl _ _ _ _ D9.out Tryd.underlying30 rfl (ctx_size' (HSZ.out _ _)) ?_)
      | (refine st_row rfl 30 (.tmp 6) (.tmp 248) rfl (w.heap.size + 3) _ rfl rfl _ _ V9.out.r (ctx_size' (HSZ.out _ _)) (HSZ.out _ _).symm cC_one ?_; intro w9 b9 k9; have R9 := hid b9; have K9 := hid k9; have T9 := hid ((k9.block _ (lt_of_block V9.out.t) (fun q => by have q1 : w.heap.size + 4 = w.heap.size + 3 := q; omega)).trans V9.out.t); clear b9 k9)
      | (refine st_row rfl 49 (.tmp 7) (.tmp 249) rfl (w.heap.size + 4) _ rfl rfl _ _ T9.out want_size rfl one11 ?_; intro w10 b10 k10; have T10 := hid b10; have K10 := hid k10; have R10 := hid ((k10.block _ (lt_of_block R9.out) (fun q => by have q1 : w.heap.size + 3 = w.heap.size + 4 := q; omega)).trans R9.out); clear b10 k10))
    refine bodyPost_ret (results_cell_cell rfl _ _ (w.heap.size + 3) (w.heap.size + 4) _ _ rfl (run_loadVar_row _ _ _ _ _ _ _ R10.out Tryd.underlying30 rfl (ctx_size' (HSZ.out _ _))) rfl (run_loadVar_row _ _ _ _ _ _ _ T10.out Tryd.underlying49 rfl want_size)) rfl ?_
    exact ⟨_, _, _, rfl, ((O9.out.ch K9.out (fun q hq e => by have e1 : q = w.heap.size + 3 := e; have := (O9.out.blk hq).1; omega)).ch K10.out (fun q hq e => by have e1 : q = w.heap.size + 4 := e; have := (O9.out.blk hq).1; omega)).lower (by omega), Ch.trans (Ch.trans G9.out K9.out (fun q e => .inr (by have e1 : q = w.heap.size + 3 := e; omega))) K10.out (fun q e => .inr (by have e1 : q = w.heap.size + 4 := e; omega))⟩
end Go.Proofs.YtcdlhfodeckleaaDoor.Lt
