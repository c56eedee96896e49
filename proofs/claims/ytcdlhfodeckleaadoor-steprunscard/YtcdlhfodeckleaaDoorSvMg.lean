/-
  What the document's Step answers at call. Condition: words are words. What the document's Step answers at call. Condition: words are words. What the document's Step answers at ret. Condition: words are words.
  What the document's Step answers where an instruction asks. Condition: words are words. What the document's Step answers at trap. Condition: words are words. What the document's Step answers at yield and exit. Condition: words are words. What the document's Step answers where there is no instruction. Condition: words are words.
-/
import Derived.Test.YtcdlhfodeckleaaDoorSvMz
import Derived.Test.YtcdlhfodeckleaaDoorStCosts
namespace Go.Proofs.YtcdlhfodeckleaaDoor.Lt
open Go.RowKit Wd

set_option maxHeartbeats 2000000 in
set_option maxRecDepth 20000 in
theorem rstep_full (P : Nat → Prop) (w : World) (aoc aof aot : Option Addr) (nc nf nt cac caf cat : Nat) (cs : List Int) (h : Ls eU P w (.slice aoc nc cac) cs) (hu : U32s cs) (hcl : nc ≤ 35184372088832) (pc : Int) (r : List Int) (hr : r.length = 16) (ao : Option Addr) (n cap : Nat) (ks : List Int) (hk : Ls eI P w (.slice ao n cap) ks) (hn : n ≤ 17592186044416) (ck sl gn : Int)
    (o1 im : Int) (a b c : Nat) (la : a < 16) (lb : b < 16) (lc : c < 16) (x y z : Int) (hx : r[a]? = some x) (hy : r[b]? = some y) (hz : r[c]? = some z) (hI : nI cs pc = (o1, (a : Int), (b : Int), (c : Int), im)) (hB : nB cs pc = true) (ho : o1 = 20) (hq : 64 ≤ n) :
    Calls Tryd.prog 17 #[.agg #[.slice aoc nc cac, .slice aof nf caf, .slice aot nt cat], .agg (cC pc r (.slice ao n cap)), .agg #[.int .u64 ck, .int .i64 sl, .int .i64 gn]] w (StR w pc r ks (wt 58 0 0 0 0 0 0 0 0 3 0)) := by
  have hlen := h.len.1
  have hpc : 0 ≤ pc ∧ pc < (nc : Int) := by
    unfold nB at hB
    split at hB
    · rename_i q; rw [hlen]; exact q
    · cases hB
  have HN := hid (fun (W : World) (p : Gr w W) => rnext9_any P W aoc aof aot nc nf nt cac caf cat cs (h.gr p) hu pc r hr ao n cap)
  rw [hI, hB] at HN
  unfold iV at HN
  simp only at HN
  have HC := hid (fun (W : World) (p : Gr w W) => rcalls9_any P W ao n cap ks (hk.gr p) hn)
  have V0 := hid (vs_new w #[.slice aoc nc cac, .slice aof nf caf, .slice aot nt cat] (cC pc r (.slice ao n cap)) #[.int .u64 ck, .int .i64 sl, .int .i64 gn] #[.int .i64 0, .int .i64 0, .int .i64 0, .int .i64 0, .int .i64 0, .int .i64 0, .int .i64 0, .int .i64 0, .int .i64 0, .int .i64 0, .int .i64 0, .int .i64 0, .int .i64 0, .int .i64 0, .int .i64 0, .int .i64 0, .int .i64 0, .slice none 0 0] #[.int .i64 0, .int .i64 0, .int .i64 0, .int .i64 0, .int .i64 0, .int .i64 0, .int .i64 0, .int .i64 0, .int .i64 0, .int .i64 0, .int .i64 0])
  have K0 := hid (show Gr w (((((w.alloc (.cells #[.slice aoc nc cac, .slice aof nf caf, .slice aot nt cat] 26)).alloc (.cells (cC pc r (.slice ao n cap)) 30)).alloc (.cells #[.int .u64 ck, .int .i64 sl, .int .i64 gn] 44)).alloc (.cells #[.int .i64 0, .int .i64 0, .int .i64 0, .int .i64 0, .int .i64 0, .int .i64 0, .int .i64 0, .int .i64 0, .int .i64 0, .int .i64 0, .int .i64 0, .int .i64 0, .int .i64 0, .int .i64 0, .int .i64 0, .int .i64 0, .int .i64 0, .slice none 0 0] 30)).alloc (.cells #[.int .i64 0, .int .i64 0, .int .i64 0, .int .i64 0, .int .i64 0, .int .i64 0, .int .i64 0, .int .i64 0, .int .i64 0, .int .i64 0, .int .i64 0] 49)) from Ch.alloc (Ch.alloc (Ch.alloc (Ch.alloc (Ch.alloc (Gr.refl w) _) _) _) _) _)
  have HSZ := hid (fun (pc : Int) (v : Value) => cC_size (pc := pc) (v := v) hr)
  have HX := hid hx
  have HY := hid hy
  have HZ := hid hz
  have a0 : (0 : Int) ≤ (a : Int) := by omega
  have a1 : (a : Int) < 16 := by omega
  have b0 : (0 : Int) ≤ (b : Int) := by omega
  have b1 : (b : Int) < 16 := by omega
  have c0 : (0 : Int) ≤ (c : Int) := by omega
  have c1 : (c : Int) < 16 := by omega
  have HKL := hid hk.len.1
  have HRR := hid hr
  have HTD := hid (fun (W : World) (p : Gr w W) => trapped_any P W pc r hr ao n cap ks (hk.gr p) hn 3)
  have HO1 := hid ho
  have HTW := hid (show ¬ Two o1 from by unfold Two; omega)
  clear ho
  have e1 : (o1 == 1) = false := by rw [HO1.out]; rfl
  have e2 : (o1 == 2) = false := by rw [HO1.out]; rfl
  have e3 : (o1 == 3) = false := by rw [HO1.out]; rfl
  have e4 : (o1 == 4) = false := by rw [HO1.out]; rfl
  have e8 : (o1 == 8) = false := by rw [HO1.out]; rfl
  have e9 : (o1 == 9) = false := by rw [HO1.out]; rfl
  have e17 : (o1 == 17) = false := by rw [HO1.out]; rfl
  have e18 : (o1 == 18) = false := by rw [HO1.out]; rfl
  have e19 : (o1 == 19) = false := by rw [HO1.out]; rfl
  have e20 : (o1 == 20) = true := by rw [HO1.out]; rfl
  have hqi : (64 : Int) ≤ (n : Int) := by omega
  obtain ⟨q0, q1⟩ := hpc
  have q2 : pc ≤ 35184372088832 := by omega
  clear h hu hI hB hlen hr hx hy hz hk
  go_enter Tryd.func17, Tryd.ntmps17
  go_upto_region 4 with (first
    | (refine wpList_load_row rfl 30 (.tmp 4) rfl (w.heap.size + 1) rfl _ _ _ _ V0.out.c Tryd.underlying30 rfl (ctx_size' (HSZ.out _ _)) ?_)
    | (go_at_call 26; refine (HN.out _ K0.out).mono ?_; rintro e w1 ⟨rfl, g1⟩; have V1 := hid (V0.out.gr (Ch.alloc g1 (.cells #[.int .i64 o1, .int .i64 (a : Int), .int .i64 (b : Int), .int .i64 (c : Int), .int .i64 im] 46))); have G1 := hid (show Gr w (w1.alloc (.cells #[.int .i64 o1, .int .i64 (a : Int), .int .i64 (b : Int), .int .i64 (c : Int), .int .i64 im] 46)) from Ch.alloc (Gr.trans K0.out g1) _); have I1 := hid (MapKept.heap_alloc w1 (.cells #[.int .i64 o1, .int .i64 (a : Int), .int .i64 (b : Int), .int .i64 (c : Int), .int .i64 im] 46)).1; have S1 := hid (show w.heap.size + 5 ≤ w1.heap.size from Nat.lt_of_lt_of_le (lt_of_block V0.out.t) g1.size); have S1b := hid (show w1.heap.size < (w1.alloc (.cells #[.int .i64 o1, .int .i64 (a : Int), .int .i64 (b : Int), .int .i64 (c : Int), .int .i64 im] 46)).heap.size from (by simp)); clear g1))
  generalize w1.alloc (.cells #[.int .i64 o1, .int .i64 (a : Int), .int .i64 (b : Int), .int .i64 (c : Int), .int .i64 im] 46) = W1 at V1 G1 I1 S1b ⊢
  generalize w1.heap.size = tb at I1 S1 S1b ⊢
  have BD0 := hid (show (W1.alloc (.cells #[.int .i64 0, .int .i64 0, .int .i64 0, .int .i64 0, .int .i64 0, .int .i64 0, .int .i64 0, .int .i64 0, .int .i64 0, .int .i64 0, .int .i64 0, .int .i64 0, .int .i64 0, .int .i64 0, .int .i64 0, .int .i64 0, .int .i64 0, .slice none 0 0] 30)).heap[W1.heap.size]? = some (.cells #[.int .i64 0, .int .i64 0, .int .i64 0, .int .i64 0, .int .i64 0, .int .i64 0, .int .i64 0, .int .i64 0, .int .i64 0, .int .i64 0, .int .i64 0, .int .i64 0, .int .i64 0, .int .i64 0, .int .i64 0, .int .i64 0, .int .i64 0, .slice none 0 0] 30 (0, 0)) from (MapKept.heap_alloc W1 _).1)
  have GA := hid (show Gr W1 (W1.alloc (.cells #[.int .i64 0, .int .i64 0, .int .i64 0, .int .i64 0, .int .i64 0, .int .i64 0, .int .i64 0, .int .i64 0, .int .i64 0, .int .i64 0, .int .i64 0, .int .i64 0, .int .i64 0, .int .i64 0, .int .i64 0, .int .i64 0, .int .i64 0, .slice none 0 0] 30)) from Ch.alloc (Gr.refl _) _)
  go_upto_region 6 with (first
    | (refine wpList_load_row rfl 30 (.tmp 4) rfl (w.heap.size + 1) rfl _ _ _ _ V1.out.c Tryd.underlying30 rfl (ctx_size' (HSZ.out _ _)) ?_)
    | (refine st_row rfl 30 (.tmp 10) (.tmp 31) rfl W1.heap.size _ rfl rfl _ _ BD0.out (ctx_size' (HSZ.out _ _)) (HSZ.out _ _).symm cC_one ?_; intro w2 b2 k2; have D2 := hid b2; have G2 := hid (show Gr W1 w2 from Ch.trans GA.out k2 (fun q e => .inr (by have e1 : q = W1.heap.size := e; omega))); have V2 := hid (V1.out.gr G2.out); have I2 := hid (gr_blk I1.out G2.out); have y17 := (cell_of V2.out.c 17).trans (cC_v HRR.out _ _); have l17 := lt_of_block V2.out.c; clear b2 k2)
    | (go_at_call 38; refine (HC.out _ (Gr.trans G1.out G2.out)).mono ?_; rintro e w3 ⟨v3, rfl, o3, g3⟩; obtain ⟨ao2, cap2, hv3⟩ := o3.form; generalize hq3 : ks.length = n2 at hv3; subst hv3; have HN2 := hid hq3; have D3 := hid (gr_blk D2.out g3); have V3 := hid (V2.out.gr g3); have I3 := hid (gr_blk I2.out g3); have G3 := hid (Gr.trans (Gr.trans G1.out G2.out) g3); have O3 := hid o3; have S3 := hid (show W1.heap.size < w2.heap.size from lt_of_block D2.out); have d17 := (cell_of D3.out 17).trans (cC_v HRR.out _ _); have e17 := frozen_of D3.out 17; have m17 := lt_of_block D3.out; clear o3 g3 hq3))
  generalize W1.heap.size = td at D2 D3 S1b S3 d17 e17 m17 BD0 ⊢
  have hb4 : (w3.setCell ⟨td, 17, none⟩ (.slice ao2 n2 cap2)).heap[td]? = some (.cells (cC pc r (.slice ao2 n2 cap2)) 30 (0, 0)) := by rw [← cC_setv HRR.out pc (.slice ao n cap)]; exact setCell_block D3.out 17 _
  have hc4 : Ch (Only td) w3 (w3.setCell ⟨td, 17, none⟩ (.slice ao2 n2 cap2)) := (Ch.refl _ _).own 17 _
  have V4 := hid (V3.out.off hc4 (by have := S1.out; have := S1b.out; omega))
  have I4 := hid ((hc4.block _ (lt_of_block I3.out) (fun q => by have q1 : tb = td := q; have := S1b.out; omega)).trans I3.out)
  have O4 := hid (O3.out.ch hc4 (fun q hq e => by have e1 : q = td := e; have := (O3.out.blk hq).1; have := S3.out; omega))
  have G4 := hid (show Gr w (w3.setCell ⟨td, 17, none⟩ (.slice ao2 n2 cap2)) from Ch.trans G3.out hc4 (fun q e => .inr (by have e1 : q = td := e; have := S1.out; have := S1b.out; omega)))
  have D4 := hid hb4
  have H2 := hid (show ∀ q, Blk (.slice ao2 n2 cap2) q → td < q from fun q e => by have := (O3.out.blk e).1; have := S3.out; omega)
  have T5 := hid (show w.heap.size + 5 ≤ tb ∧ tb < td from ⟨S1.out, S1b.out⟩)
  have O5 := hid (O4.out.lower (show w.heap.size + 5 ≤ _ from by have := S1.out; have := S1b.out; have := S3.out; omega))
  clear hb4 hc4 y17 l17 d17 e17 m17 D2 D3 BD0 GA V2 V3 I2 I3 G2 G3 O3 S3 O4 S1 S1b
  generalize w3.setCell ⟨td, 17, none⟩ (.slice ao2 n2 cap2) = W4 at V4 I4 G4 D4 O5 ⊢
  have d0 := (cell_of D4.out 0).trans (cC_pc _ _ _)
  have e0 := frozen_of D4.out 0
  have m0 := lt_of_block D4.out
  go_upto_region 7 with fail
  have hb6 : (W4.setCell ⟨td, 0, none⟩ (.int .i64 (pc + 1))).heap[td]? = some (.cells (cC (pc + 1) r (.slice ao2 n2 cap2)) 30 (0, 0)) := by rw [← cC_setpc pc]; exact setCell_block D4.out 0 _
  have hc6 : Ch (Only td) W4 (W4.setCell ⟨td, 0, none⟩ (.int .i64 (pc + 1))) := (Ch.refl _ _).own 0 _
  have V6 := hid (V4.out.off hc6 (by have := T5.out; omega))
  have I6 := hid ((hc6.block _ (lt_of_block I4.out) (fun q => by have q1 : tb = td := q; have := T5.out; omega)).trans I4.out)
  have O6 := hid (O5.out.ch hc6 (fun q hq e => by have e1 : q = td := e; have := H2.out q hq; omega))
  have G6 := hid (show Gr w (W4.setCell ⟨td, 0, none⟩ (.int .i64 (pc + 1))) from Ch.trans G4.out hc6 (fun q e => .inr (by have e1 : q = td := e; have := T5.out; omega)))
  have D6 := hid hb6
  clear hb6 hc6 d0 e0 m0
  generalize W4.setCell ⟨td, 0, none⟩ (.int .i64 (pc + 1)) = W6 at V6 I6 G6 D6 O6 ⊢
  have i0 := (cell_of I6.out 0).trans (rfl : _ = some (Value.int .i64 o1))
  have i1 := (cell_of I6.out 1).trans (rfl : _ = some (Value.int .i64 (a : Int)))
  have i2 := (cell_of I6.out 2).trans (rfl : _ = some (Value.int .i64 (b : Int)))
  have i3 := (cell_of I6.out 3).trans (rfl : _ = some (Value.int .i64 (c : Int)))
  have i4 := (cell_of I6.out 4).trans (rfl : _ = some (Value.int .i64 im))
  have il := lt_of_block I6.out
  have x1 := (cell_of V6.out.c (1 + a)).trans (cC_get HX.out)
  have x2 := (cell_of V6.out.c (1 + b)).trans (cC_get HY.out)
  have x3 := (cell_of V6.out.c (1 + c)).trans (cC_get HZ.out)
  have xl := lt_of_block V6.out.c
  go_quiet (fail)
  clear x1 x2 x3 xl i0 i1 i2 i3 i4 il
  have V7 := hid (show Vs (W6.drewN nq) w.heap.size #[.slice aoc nc cac, .slice aof nf caf, .slice aot nt cat] (cC pc r (.slice ao n cap)) #[.int .u64 ck, .int .i64 sl, .int .i64 gn] #[.int .i64 0, .int .i64 0, .int .i64 0, .int .i64 0, .int .i64 0, .int .i64 0, .int .i64 0, .int .i64 0, .int .i64 0, .int .i64 0, .int .i64 0, .int .i64 0, .int .i64 0, .int .i64 0, .int .i64 0, .int .i64 0, .int .i64 0, .slice none 0 0] #[.int .i64 0, .int .i64 0, .int .i64 0, .int .i64 0, .int .i64 0, .int .i64 0, .int .i64 0, .int .i64 0, .int .i64 0, .int .i64 0, .int .i64 0] from ⟨V6.out.p, V6.out.c, V6.out.e, V6.out.r, V6.out.t⟩)
  have I7 := hid (show (W6.drewN nq).heap[tb]? = some (.cells #[.int .i64 o1, .int .i64 (a : Int), .int .i64 (b : Int), .int .i64 (c : Int), .int .i64 im] 46 (0, 0)) from I6.out)
  have D7 := hid (show (W6.drewN nq).heap[td]? = some (.cells (cC (pc + 1) r (.slice ao2 n2 cap2)) 30 (0, 0)) from D6.out)
  have O7 := hid (show Ow eI 1 3 (w.heap.size + 5) (W6.drewN nq) (.slice ao2 n2 cap2) ks from O6.out)
  have G7 := hid (show Gr w (W6.drewN nq) from Ch.drewN G6.out nq)
  clear V6 I6 D6 O6 G6
  generalize W6.drewN nq = W7 at V7 I7 D7 O7 G7 ⊢
  have i0 := (cell_of I7.out 0).trans (rfl : _ = some (Value.int .i64 o1))
  have il := lt_of_block I7.out
  have HWK := hid (fun (W : World) => worked_no o1 y z HTW.out W)
  go_wp2_with (first
    | (refine wpList_load_row rfl 30 (.tmp 4) rfl (w.heap.size + 1) rfl _ _ _ _ V8.out.c Tryd.underlying30 rfl (ctx_size' (HSZ.out _ _)) ?_)
    | (go_at_call 39; refine (HWK.out _).mono ?_; rintro e w8 ⟨rfl, g8⟩; have V8 := hid (V7.out.gr g8); have I8 := hid (gr_blk I7.out g8); have D8 := hid (gr_blk D7.out g8); have O8 := hid (O7.out.gr g8); have G8 := hid (Gr.trans G7.out g8); have j0 := (cell_of I8.out 0).trans (rfl : _ = some (Value.int .i64 o1)); have jl := lt_of_block I8.out; have y17 := (cell_of V8.out.c 17).trans (cC_v HRR.out _ _); have l17 := lt_of_block V8.out.c; have p1 := (cell_of V8.out.p 1).trans (rfl : _ = some (Value.slice aof nf caf)); have pl := lt_of_block V8.out.p; have j4 := (cell_of I8.out 4).trans (rfl : _ = some (Value.int .i64 im)); clear g8 i0 il)
    | (go_at_call 37; refine (HTD.out _ G8.out).mono ?_; rintro e w9 ⟨ao9, n9, cap9, rfl, o9, g9⟩; have V9 := hid (V8.out.gr g9); have O9 := hid (o9.lower (show w.heap.size + 5 ≤ _ from lt_of_block V8.out.t)); have G9 := hid (Gr.trans G8.out g9); clear o9 g9)
    | (refine st_row rfl 30 (.tmp 6) (.tmp 164) rfl (w.heap.size + 3) _ rfl rfl _ _ V9.out.r (ctx_size' (HSZ.out _ _)) (HSZ.out _ _).symm cC_one ?_; intro w10 b10 k10; have R9 := hid b10; have K9 := hid k10; have T9 := hid ((k10.block _ (lt_of_block V9.out.t) (fun q => by have q1 : w.heap.size + 4 = w.heap.size + 3 := q; omega)).trans V9.out.t); clear b10 k10)
    | (refine st_row rfl 49 (.tmp 7) (.tmp 165) rfl (w.heap.size + 4) _ rfl rfl _ _ T9.out want_size rfl (wt_one 58 0 0 0 0 0 0 0 0 3 0) ?_; intro w11 b11 k11; have T10 := hid b11; have K10 := hid k11; have R10 := hid ((k11.block _ (lt_of_block R9.out) (fun q => by have q1 : w.heap.size + 3 = w.heap.size + 4 := q; omega)).trans R9.out); clear b11 k11))
  refine bodyPost_ret (results_cell_cell rfl _ _ (w.heap.size + 3) (w.heap.size + 4) _ _ rfl (run_loadVar_row _ _ _ _ _ _ _ R10.out Tryd.underlying30 rfl (ctx_size' (HSZ.out _ _))) rfl (run_loadVar_row _ _ _ _ _ _ _ T10.out Tryd.underlying49 rfl want_size)) rfl ?_
  exact ⟨_, _, _, rfl, ((O9.out.ch K9.out (fun q hq e => by have e1 : q = w.heap.size + 3 := e; have := (O9.out.blk hq).1; omega)).ch K10.out (fun q hq e => by have e1 : q = w.heap.size + 4 := e; have := (O9.out.blk hq).1; omega)).lower (by omega), Ch.trans (Ch.trans G9.out K9.out (fun q e => .inr (by have e1 : q = w.heap.size + 3 := e; omega))) K10.out (fun q e => .inr (by have e1 : q = w.heap.size + 4 := e; omega))⟩
set_option maxHeartbeats 2000000 in
set_option maxRecDepth 20000 in
theorem rstep_nofn (P : Nat → Prop) (w : World) (aoc aof aot : Option Addr) (nc nf nt cac caf cat : Nat) (cs : List Int) (h : Ls eU P w (.slice aoc nc cac) cs) (hu : U32s cs) (hcl : nc ≤ 35184372088832) (pc : Int) (r : List Int) (hr : r.length = 16) (ao : Option Addr) (n cap : Nat) (ks : List Int) (hk : Ls eI P w (.slice ao n cap) ks) (hn : n ≤ 17592186044416) (ck sl gn : Int)
    (o1 im : Int) (a b c : Nat) (la : a < 16) (lb : b < 16) (lc : c < 16) (x y z : Int) (hx : r[a]? = some x) (hy : r[b]? = some y) (hz : r[c]? = some z) (hI : nI cs pc = (o1, (a : Int), (b : Int), (c : Int), im)) (hB : nB cs pc = true) (ho : o1 = 20) (hq : ¬ 64 ≤ n) (hf : (nf : Int) ≤ im) :
    Calls Tryd.prog 17 #[.agg #[.slice aoc nc cac, .slice aof nf caf, .slice aot nt cat], .agg (cC pc r (.slice ao n cap)), .agg #[.int .u64 ck, .int .i64 sl, .int .i64 gn]] w (StR w pc r ks (wt 58 0 0 0 0 0 0 0 0 1 0)) := by
  have hlen := h.len.1
  have hpc : 0 ≤ pc ∧ pc < (nc : Int) := by
    unfold nB at hB
    split at hB
    · rename_i q; rw [hlen]; exact q
    · cases hB
  have HN := hid (fun (W : World) (p : Gr w W) => rnext9_any P W aoc aof aot nc nf nt cac caf cat cs (h.gr p) hu pc r hr ao n cap)
  rw [hI, hB] at HN
  unfold iV at HN
  simp only at HN
  have HC := hid (fun (W : World) (p : Gr w W) => rcalls9_any P W ao n cap ks (hk.gr p) hn)
  have V0 := hid (vs_new w #[.slice aoc nc cac, .slice aof nf caf, .slice aot nt cat] (cC pc r (.slice ao n cap)) #[.int .u64 ck, .int .i64 sl, .int .i64 gn] #[.int .i64 0, .int .i64 0, .int .i64 0, .int .i64 0, .int .i64 0, .int .i64 0, .int .i64 0, .int .i64 0, .int .i64 0, .int .i64 0, .int .i64 0, .int .i64 0, .int .i64 0, .int .i64 0, .int .i64 0, .int .i64 0, .int .i64 0, .slice none 0 0] #[.int .i64 0, .int .i64 0, .int .i64 0, .int .i64 0, .int .i64 0, .int .i64 0, .int .i64 0, .int .i64 0, .int .i64 0, .int .i64 0, .int .i64 0])
  have K0 := hid (show Gr w (((((w.alloc (.cells #[.slice aoc nc cac, .slice aof nf caf, .slice aot nt cat] 26)).alloc (.cells (cC pc r (.slice ao n cap)) 30)).alloc (.cells #[.int .u64 ck, .int .i64 sl, .int .i64 gn] 44)).alloc (.cells #[.int .i64 0, .int .i64 0, .int .i64 0, .int .i64 0, .int .i64 0, .int .i64 0, .int .i64 0, .int .i64 0, .int .i64 0, .int .i64 0, .int .i64 0, .int .i64 0, .int .i64 0, .int .i64 0, .int .i64 0, .int .i64 0, .int .i64 0, .slice none 0 0] 30)).alloc (.cells #[.int .i64 0, .int .i64 0, .int .i64 0, .int .i64 0, .int .i64 0, .int .i64 0, .int .i64 0, .int .i64 0, .int .i64 0, .int .i64 0, .int .i64 0] 49)) from Ch.alloc (Ch.alloc (Ch.alloc (Ch.alloc (Ch.alloc (Gr.refl w) _) _) _) _) _)
  have HSZ := hid (fun (pc : Int) (v : Value) => cC_size (pc := pc) (v := v) hr)
  have HX := hid hx
  have HY := hid hy
  have HZ := hid hz
  have a0 : (0 : Int) ≤ (a : Int) := by omega
  have a1 : (a : Int) < 16 := by omega
  have b0 : (0 : Int) ≤ (b : Int) := by omega
  have b1 : (b : Int) < 16 := by omega
  have c0 : (0 : Int) ≤ (c : Int) := by omega
  have c1 : (c : Int) < 16 := by omega
  have HKL := hid hk.len.1
  have HRR := hid hr
  have HTD := hid (fun (W : World) (p : Gr w W) => trapped_any P W pc r hr ao n cap ks (hk.gr p) hn 1)
  have HO1 := hid ho
  have HTW := hid (show ¬ Two o1 from by unfold Two; omega)
  clear ho
  have e1 : (o1 == 1) = false := by rw [HO1.out]; rfl
  have e2 : (o1 == 2) = false := by rw [HO1.out]; rfl
  have e3 : (o1 == 3) = false := by rw [HO1.out]; rfl
  have e4 : (o1 == 4) = false := by rw [HO1.out]; rfl
  have e8 : (o1 == 8) = false := by rw [HO1.out]; rfl
  have e9 : (o1 == 9) = false := by rw [HO1.out]; rfl
  have e17 : (o1 == 17) = false := by rw [HO1.out]; rfl
  have e18 : (o1 == 18) = false := by rw [HO1.out]; rfl
  have e19 : (o1 == 19) = false := by rw [HO1.out]; rfl
  have e20 : (o1 == 20) = true := by rw [HO1.out]; rfl
  have hqi : ¬ (64 : Int) ≤ (n : Int) := by omega
  obtain ⟨q0, q1⟩ := hpc
  have q2 : pc ≤ 35184372088832 := by omega
  clear h hu hI hB hlen hr hx hy hz hk
  go_enter Tryd.func17, Tryd.ntmps17
  go_upto_region 4 with (first
    | (refine wpList_load_row rfl 30 (.tmp 4) rfl (w.heap.size + 1) rfl _ _ _ _ V0.out.c Tryd.underlying30 rfl (ctx_size' (HSZ.out _ _)) ?_)
    | (go_at_call 26; refine (HN.out _ K0.out).mono ?_; rintro e w1 ⟨rfl, g1⟩; have V1 := hid (V0.out.gr (Ch.alloc g1 (.cells #[.int .i64 o1, .int .i64 (a : Int), .int .i64 (b : Int), .int .i64 (c : Int), .int .i64 im] 46))); have G1 := hid (show Gr w (w1.alloc (.cells #[.int .i64 o1, .int .i64 (a : Int), .int .i64 (b : Int), .int .i64 (c : Int), .int .i64 im] 46)) from Ch.alloc (Gr.trans K0.out g1) _); have I1 := hid (MapKept.heap_alloc w1 (.cells #[.int .i64 o1, .int .i64 (a : Int), .int .i64 (b : Int), .int .i64 (c : Int), .int .i64 im] 46)).1; have S1 := hid (show w.heap.size + 5 ≤ w1.heap.size from Nat.lt_of_lt_of_le (lt_of_block V0.out.t) g1.size); have S1b := hid (show w1.heap.size < (w1.alloc (.cells #[.int .i64 o1, .int .i64 (a : Int), .int .i64 (b : Int), .int .i64 (c : Int), .int .i64 im] 46)).heap.size from (by simp)); clear g1))
  generalize w1.alloc (.cells #[.int .i64 o1, .int .i64 (a : Int), .int .i64 (b : Int), .int .i64 (c : Int), .int .i64 im] 46) = W1 at V1 G1 I1 S1b ⊢
  generalize w1.heap.size = tb at I1 S1 S1b ⊢
  have BD0 := hid (show (W1.alloc (.cells #[.int .i64 0, .int .i64 0, .int .i64 0, .int .i64 0, .int .i64 0, .int .i64 0, .int .i64 0, .int .i64 0, .int .i64 0, .int .i64 0, .int .i64 0, .int .i64 0, .int .i64 0, .int .i64 0, .int .i64 0, .int .i64 0, .int .i64 0, .slice none 0 0] 30)).heap[W1.heap.size]? = some (.cells #[.int .i64 0, .int .i64 0, .int .i64 0, .int .i64 0, .int .i64 0, .int .i64 0, .int .i64 0, .int .i64 0, .int .i64 0, .int .i64 0, .int .i64 0, .int .i64 0, .int .i64 0, .int .i64 0, .int .i64 0, .int .i64 0, .int .i64 0, .slice none 0 0] 30 (0, 0)) from (MapKept.heap_alloc W1 _).1)
  have GA := hid (show Gr W1 (W1.alloc (.cells #[.int .i64 0, .int .i64 0, .int .i64 0, .int .i64 0, .int .i64 0, .int .i64 0, .int .i64 0, .int .i64 0, .int .i64 0, .int .i64 0, .int .i64 0, .int .i64 0, .int .i64 0, .int .i64 0, .int .i64 0, .int .i64 0, .int .i64 0, .slice none 0 0] 30)) from Ch.alloc (Gr.refl _) _)
  go_upto_region 6 with (first
    | (refine wpList_load_row rfl 30 (.tmp 4) rfl (w.heap.size + 1) rfl _ _ _ _ V1.out.c Tryd.underlying30 rfl (ctx_size' (HSZ.out _ _)) ?_)
    | (refine st_row rfl 30 (.tmp 10) (.tmp 31) rfl W1.heap.size _ rfl rfl _ _ BD0.out (ctx_size' (HSZ.out _ _)) (HSZ.out _ _).symm cC_one ?_; intro w2 b2 k2; have D2 := hid b2; have G2 := hid (show Gr W1 w2 from Ch.trans GA.out k2 (fun q e => .inr (by have e1 : q = W1.heap.size := e; omega))); have V2 := hid (V1.out.gr G2.out); have I2 := hid (gr_blk I1.out G2.out); have y17 := (cell_of V2.out.c 17).trans (cC_v HRR.out _ _); have l17 := lt_of_block V2.out.c; clear b2 k2)
    | (go_at_call 38; refine (HC.out _ (Gr.trans G1.out G2.out)).mono ?_; rintro e w3 ⟨v3, rfl, o3, g3⟩; obtain ⟨ao2, cap2, hv3⟩ := o3.form; generalize hq3 : ks.length = n2 at hv3; subst hv3; have HN2 := hid hq3; have D3 := hid (gr_blk D2.out g3); have V3 := hid (V2.out.gr g3); have I3 := hid (gr_blk I2.out g3); have G3 := hid (Gr.trans (Gr.trans G1.out G2.out) g3); have O3 := hid o3; have S3 := hid (show W1.heap.size < w2.heap.size from lt_of_block D2.out); have d17 := (cell_of D3.out 17).trans (cC_v HRR.out _ _); have e17 := frozen_of D3.out 17; have m17 := lt_of_block D3.out; clear o3 g3 hq3))
  generalize W1.heap.size = td at D2 D3 S1b S3 d17 e17 m17 BD0 ⊢
  have hb4 : (w3.setCell ⟨td, 17, none⟩ (.slice ao2 n2 cap2)).heap[td]? = some (.cells (cC pc r (.slice ao2 n2 cap2)) 30 (0, 0)) := by rw [← cC_setv HRR.out pc (.slice ao n cap)]; exact setCell_block D3.out 17 _
  have hc4 : Ch (Only td) w3 (w3.setCell ⟨td, 17, none⟩ (.slice ao2 n2 cap2)) := (Ch.refl _ _).own 17 _
  have V4 := hid (V3.out.off hc4 (by have := S1.out; have := S1b.out; omega))
  have I4 := hid ((hc4.block _ (lt_of_block I3.out) (fun q => by have q1 : tb = td := q; have := S1b.out; omega)).trans I3.out)
  have O4 := hid (O3.out.ch hc4 (fun q hq e => by have e1 : q = td := e; have := (O3.out.blk hq).1; have := S3.out; omega))
  have G4 := hid (show Gr w (w3.setCell ⟨td, 17, none⟩ (.slice ao2 n2 cap2)) from Ch.trans G3.out hc4 (fun q e => .inr (by have e1 : q = td := e; have := S1.out; have := S1b.out; omega)))
  have D4 := hid hb4
  have H2 := hid (show ∀ q, Blk (.slice ao2 n2 cap2) q → td < q from fun q e => by have := (O3.out.blk e).1; have := S3.out; omega)
  have T5 := hid (show w.heap.size + 5 ≤ tb ∧ tb < td from ⟨S1.out, S1b.out⟩)
  have O5 := hid (O4.out.lower (show w.heap.size + 5 ≤ _ from by have := S1.out; have := S1b.out; have := S3.out; omega))
  clear hb4 hc4 y17 l17 d17 e17 m17 D2 D3 BD0 GA V2 V3 I2 I3 G2 G3 O3 S3 O4 S1 S1b
  generalize w3.setCell ⟨td, 17, none⟩ (.slice ao2 n2 cap2) = W4 at V4 I4 G4 D4 O5 ⊢
  have d0 := (cell_of D4.out 0).trans (cC_pc _ _ _)
  have e0 := frozen_of D4.out 0
  have m0 := lt_of_block D4.out
  go_upto_region 7 with fail
  have hb6 : (W4.setCell ⟨td, 0, none⟩ (.int .i64 (pc + 1))).heap[td]? = some (.cells (cC (pc + 1) r (.slice ao2 n2 cap2)) 30 (0, 0)) := by rw [← cC_setpc pc]; exact setCell_block D4.out 0 _
  have hc6 : Ch (Only td) W4 (W4.setCell ⟨td, 0, none⟩ (.int .i64 (pc + 1))) := (Ch.refl _ _).own 0 _
  have V6 := hid (V4.out.off hc6 (by have := T5.out; omega))
  have I6 := hid ((hc6.block _ (lt_of_block I4.out) (fun q => by have q1 : tb = td := q; have := T5.out; omega)).trans I4.out)
  have O6 := hid (O5.out.ch hc6 (fun q hq e => by have e1 : q = td := e; have := H2.out q hq; omega))
  have G6 := hid (show Gr w (W4.setCell ⟨td, 0, none⟩ (.int .i64 (pc + 1))) from Ch.trans G4.out hc6 (fun q e => .inr (by have e1 : q = td := e; have := T5.out; omega)))
  have D6 := hid hb6
  clear hb6 hc6 d0 e0 m0
  generalize W4.setCell ⟨td, 0, none⟩ (.int .i64 (pc + 1)) = W6 at V6 I6 G6 D6 O6 ⊢
  have i0 := (cell_of I6.out 0).trans (rfl : _ = some (Value.int .i64 o1))
  have i1 := (cell_of I6.out 1).trans (rfl : _ = some (Value.int .i64 (a : Int)))
  have i2 := (cell_of I6.out 2).trans (rfl : _ = some (Value.int .i64 (b : Int)))
  have i3 := (cell_of I6.out 3).trans (rfl : _ = some (Value.int .i64 (c : Int)))
  have i4 := (cell_of I6.out 4).trans (rfl : _ = some (Value.int .i64 im))
  have il := lt_of_block I6.out
  have x1 := (cell_of V6.out.c (1 + a)).trans (cC_get HX.out)
  have x2 := (cell_of V6.out.c (1 + b)).trans (cC_get HY.out)
  have x3 := (cell_of V6.out.c (1 + c)).trans (cC_get HZ.out)
  have xl := lt_of_block V6.out.c
  go_quiet (fail)
  clear x1 x2 x3 xl i0 i1 i2 i3 i4 il
  have V7 := hid (show Vs (W6.drewN nq) w.heap.size #[.slice aoc nc cac, .slice aof nf caf, .slice aot nt cat] (cC pc r (.slice ao n cap)) #[.int .u64 ck, .int .i64 sl, .int .i64 gn] #[.int .i64 0, .int .i64 0, .int .i64 0, .int .i64 0, .int .i64 0, .int .i64 0, .int .i64 0, .int .i64 0, .int .i64 0, .int .i64 0, .int .i64 0, .int .i64 0, .int .i64 0, .int .i64 0, .int .i64 0, .int .i64 0, .int .i64 0, .slice none 0 0] #[.int .i64 0, .int .i64 0, .int .i64 0, .int .i64 0, .int .i64 0, .int .i64 0, .int .i64 0, .int .i64 0, .int .i64 0, .int .i64 0, .int .i64 0] from ⟨V6.out.p, V6.out.c, V6.out.e, V6.out.r, V6.out.t⟩)
  have I7 := hid (show (W6.drewN nq).heap[tb]? = some (.cells #[.int .i64 o1, .int .i64 (a : Int), .int .i64 (b : Int), .int .i64 (c : Int), .int .i64 im] 46 (0, 0)) from I6.out)
  have D7 := hid (show (W6.drewN nq).heap[td]? = some (.cells (cC (pc + 1) r (.slice ao2 n2 cap2)) 30 (0, 0)) from D6.out)
  have O7 := hid (show Ow eI 1 3 (w.heap.size + 5) (W6.drewN nq) (.slice ao2 n2 cap2) ks from O6.out)
  have G7 := hid (show Gr w (W6.drewN nq) from Ch.drewN G6.out nq)
  clear V6 I6 D6 O6 G6
  generalize W6.drewN nq = W7 at V7 I7 D7 O7 G7 ⊢
  have i0 := (cell_of I7.out 0).trans (rfl : _ = some (Value.int .i64 o1))
  have il := lt_of_block I7.out
  have HWK := hid (fun (W : World) => worked_no o1 y z HTW.out W)
  go_wp2_with (first
    | (refine wpList_load_row rfl 30 (.tmp 4) rfl (w.heap.size + 1) rfl _ _ _ _ V8.out.c Tryd.underlying30 rfl (ctx_size' (HSZ.out _ _)) ?_)
    | (go_at_call 39; refine (HWK.out _).mono ?_; rintro e w8 ⟨rfl, g8⟩; have V8 := hid (V7.out.gr g8); have I8 := hid (gr_blk I7.out g8); have D8 := hid (gr_blk D7.out g8); have O8 := hid (O7.out.gr g8); have G8 := hid (Gr.trans G7.out g8); have j0 := (cell_of I8.out 0).trans (rfl : _ = some (Value.int .i64 o1)); have jl := lt_of_block I8.out; have y17 := (cell_of V8.out.c 17).trans (cC_v HRR.out _ _); have l17 := lt_of_block V8.out.c; have p1 := (cell_of V8.out.p 1).trans (rfl : _ = some (Value.slice aof nf caf)); have pl := lt_of_block V8.out.p; have j4 := (cell_of I8.out 4).trans (rfl : _ = some (Value.int .i64 im)); clear g8 i0 il)
    | (go_at_call 37; refine (HTD.out _ G8.out).mono ?_; rintro e w9 ⟨ao9, n9, cap9, rfl, o9, g9⟩; have V9 := hid (V8.out.gr g9); have O9 := hid (o9.lower (show w.heap.size + 5 ≤ _ from lt_of_block V8.out.t)); have G9 := hid (Gr.trans G8.out g9); clear o9 g9)
    | (refine st_row rfl 30 (.tmp 6) (.tmp 174) rfl (w.heap.size + 3) _ rfl rfl _ _ V9.out.r (ctx_size' (HSZ.out _ _)) (HSZ.out _ _).symm cC_one ?_; intro w10 b10 k10; have R9 := hid b10; have K9 := hid k10; have T9 := hid ((k10.block _ (lt_of_block V9.out.t) (fun q => by have q1 : w.heap.size + 4 = w.heap.size + 3 := q; omega)).trans V9.out.t); clear b10 k10)
    | (refine st_row rfl 49 (.tmp 7) (.tmp 175) rfl (w.heap.size + 4) _ rfl rfl _ _ T9.out want_size rfl (wt_one 58 0 0 0 0 0 0 0 0 1 0) ?_; intro w11 b11 k11; have T10 := hid b11; have K10 := hid k11; have R10 := hid ((k11.block _ (lt_of_block R9.out) (fun q => by have q1 : w.heap.size + 3 = w.heap.size + 4 := q; omega)).trans R9.out); clear b11 k11))
  refine bodyPost_ret (results_cell_cell rfl _ _ (w.heap.size + 3) (w.heap.size + 4) _ _ rfl (run_loadVar_row _ _ _ _ _ _ _ R10.out Tryd.underlying30 rfl (ctx_size' (HSZ.out _ _))) rfl (run_loadVar_row _ _ _ _ _ _ _ T10.out Tryd.underlying49 rfl want_size)) rfl ?_
  exact ⟨_, _, _, rfl, ((O9.out.ch K9.out (fun q hq e => by have e1 : q = w.heap.size + 3 := e; have := (O9.out.blk hq).1; omega)).ch K10.out (fun q hq e => by have e1 : q = w.heap.size + 4 := e; have := (O9.out.blk hq).1; omega)).lower (by omega), Ch.trans (Ch.trans G9.out K9.out (fun q e => .inr (by have e1 : q = w.heap.size + 3 := e; omega))) K10.out (fun q e => .inr (by have e1 : q = w.heap.size + 4 := e; omega))⟩
end Go.Proofs.YtcdlhfodeckleaaDoor.Lt

namespace Go.Proofs.YtcdlhfodeckleaaDoor.Lt
open Go.RowKit Wd

set_option maxHeartbeats 2000000 in
set_option maxRecDepth 20000 in
theorem rstep_call (P : Nat → Prop) (w : World) (aoc aof aot : Option Addr) (nc nf nt cac caf cat : Nat) (cs : List Int) (h : Ls eU P w (.slice aoc nc cac) cs) (hu : U32s cs) (hcl : nc ≤ 35184372088832) (pc : Int) (r : List Int) (hr : r.length = 16) (ao : Option Addr) (n cap : Nat) (ks : List Int) (hk : Ls eI P w (.slice ao n cap) ks) (hn : n ≤ 17592186044416) (ck sl gn : Int)
    (o1 im : Int) (a b c : Nat) (la : a < 16) (lb : b < 16) (lc : c < 16) (x y z : Int) (hx : r[a]? = some x) (hy : r[b]? = some y) (hz : r[c]? = some z) (hI : nI cs pc = (o1, (a : Int), (b : Int), (c : Int), im)) (hB : nB cs pc = true) (ho : o1 = 20) (hq : ¬ 64 ≤ n) (fs : List (Int × Int)) (hfs : Ls eG P w (.slice aof nf caf) fs) (f : Nat) (fb fe : Int) (hfe : fs[f]? = some (fb, fe)) (him : im = (f : Int)) :
    Calls Tryd.prog 17 #[.agg #[.slice aoc nc cac, .slice aof nf caf, .slice aot nt cat], .agg (cC pc r (.slice ao n cap)), .agg #[.int .u64 ck, .int .i64 sl, .int .i64 gn]] w (StR w fb r (ks ++ [pc + 1]) #[.int .i64 0, .int .i64 0, .int .i64 0, .int .i64 0, .int .i64 0, .int .i64 0, .int .i64 0, .int .i64 0, .int .i64 0, .int .i64 0, .int .i64 0]) := by
  have hlen := h.len.1
  have hpc : 0 ≤ pc ∧ pc < (nc : Int) := by
    unfold nB at hB
    split at hB
    · rename_i q; rw [hlen]; exact q
    · cases hB
  have HN := hid (fun (W : World) (p : Gr w W) => rnext9_any P W aoc aof aot nc nf nt cac caf cat cs (h.gr p) hu pc r hr ao n cap)
  rw [hI, hB] at HN
  unfold iV at HN
  simp only at HN
  have HC := hid (fun (W : World) (p : Gr w W) => rcalls9_any P W ao n cap ks (hk.gr p) hn)
  have V0 := hid (vs_new w #[.slice aoc nc cac, .slice aof nf caf, .slice aot nt cat] (cC pc r (.slice ao n cap)) #[.int .u64 ck, .int .i64 sl, .int .i64 gn] #[.int .i64 0, .int .i64 0, .int .i64 0, .int .i64 0, .int .i64 0, .int .i64 0, .int .i64 0, .int .i64 0, .int .i64 0, .int .i64 0, .int .i64 0, .int .i64 0, .int .i64 0, .int .i64 0, .int .i64 0, .int .i64 0, .int .i64 0, .slice none 0 0] #[.int .i64 0, .int .i64 0, .int .i64 0, .int .i64 0, .int .i64 0, .int .i64 0, .int .i64 0, .int .i64 0, .int .i64 0, .int .i64 0, .int .i64 0])
  have K0 := hid (show Gr w (((((w.alloc (.cells #[.slice aoc nc cac, .slice aof nf caf, .slice aot nt cat] 26)).alloc (.cells (cC pc r (.slice ao n cap)) 30)).alloc (.cells #[.int .u64 ck, .int .i64 sl, .int .i64 gn] 44)).alloc (.cells #[.int .i64 0, .int .i64 0, .int .i64 0, .int .i64 0, .int .i64 0, .int .i64 0, .int .i64 0, .int .i64 0, .int .i64 0, .int .i64 0, .int .i64 0, .int .i64 0, .int .i64 0, .int .i64 0, .int .i64 0, .int .i64 0, .int .i64 0, .slice none 0 0] 30)).alloc (.cells #[.int .i64 0, .int .i64 0, .int .i64 0, .int .i64 0, .int .i64 0, .int .i64 0, .int .i64 0, .int .i64 0, .int .i64 0, .int .i64 0, .int .i64 0] 49)) from Ch.alloc (Ch.alloc (Ch.alloc (Ch.alloc (Ch.alloc (Gr.refl w) _) _) _) _) _)
  have HSZ := hid (fun (pc : Int) (v : Value) => cC_size (pc := pc) (v := v) hr)
  have HX := hid hx
  have HY := hid hy
  have HZ := hid hz
  have a0 : (0 : Int) ≤ (a : Int) := by omega
  have a1 : (a : Int) < 16 := by omega
  have b0 : (0 : Int) ≤ (b : Int) := by omega
  have b1 : (b : Int) < 16 := by omega
  have c0 : (0 : Int) ≤ (c : Int) := by omega
  have c1 : (c : Int) < 16 := by omega
  have HKL := hid hk.len.1
  have HRR := hid hr
  have HO1 := hid ho
  have HTW := hid (show ¬ Two o1 from by unfold Two; omega)
  clear ho
  have e1 : (o1 == 1) = false := by rw [HO1.out]; rfl
  have e2 : (o1 == 2) = false := by rw [HO1.out]; rfl
  have e3 : (o1 == 3) = false := by rw [HO1.out]; rfl
  have e4 : (o1 == 4) = false := by rw [HO1.out]; rfl
  have e8 : (o1 == 8) = false := by rw [HO1.out]; rfl
  have e9 : (o1 == 9) = false := by rw [HO1.out]; rfl
  have e17 : (o1 == 17) = false := by rw [HO1.out]; rfl
  have e18 : (o1 == 18) = false := by rw [HO1.out]; rfl
  have e19 : (o1 == 19) = false := by rw [HO1.out]; rfl
  have e20 : (o1 == 20) = true := by rw [HO1.out]; rfl
  have hqi : ¬ (64 : Int) ≤ (n : Int) := by omega
  have HFS := hid hfs
  have HFE := hid hfe
  have HIM := hid him
  have f0 : (0 : Int) ≤ im := by omega
  have f1 : im < (nf : Int) := by have q5 := (List.getElem?_eq_some_iff.1 hfe).1; have q6 := hfs.len.1; omega
  have f2 : ¬ (nf : Int) ≤ im := by omega
  clear hfs hfe him
  obtain ⟨q0, q1⟩ := hpc
  have q2 : pc ≤ 35184372088832 := by omega
  clear h hu hI hB hlen hr hx hy hz hk
  go_enter Tryd.func17, Tryd.ntmps17
  go_upto_region 4 with (first
    | (refine wpList_load_row rfl 30 (.tmp 4) rfl (w.heap.size + 1) rfl _ _ _ _ V0.out.c Tryd.underlying30 rfl (ctx_size' (HSZ.out _ _)) ?_)
    | (go_at_call 26; refine (HN.out _ K0.out).mono ?_; rintro e w1 ⟨rfl, g1⟩; have V1 := hid (V0.out.gr (Ch.alloc g1 (.cells #[.int .i64 o1, .int .i64 (a : Int), .int .i64 (b : Int), .int .i64 (c : Int), .int .i64 im] 46))); have G1 := hid (show Gr w (w1.alloc (.cells #[.int .i64 o1, .int .i64 (a : Int), .int .i64 (b : Int), .int .i64 (c : Int), .int .i64 im] 46)) from Ch.alloc (Gr.trans K0.out g1) _); have I1 := hid (MapKept.heap_alloc w1 (.cells #[.int .i64 o1, .int .i64 (a : Int), .int .i64 (b : Int), .int .i64 (c : Int), .int .i64 im] 46)).1; have S1 := hid (show w.heap.size + 5 ≤ w1.heap.size from Nat.lt_of_lt_of_le (lt_of_block V0.out.t) g1.size); have S1b := hid (show w1.heap.size < (w1.alloc (.cells #[.int .i64 o1, .int .i64 (a : Int), .int .i64 (b : Int), .int .i64 (c : Int), .int .i64 im] 46)).heap.size from (by simp)); clear g1))
  generalize w1.alloc (.cells #[.int .i64 o1, .int .i64 (a : Int), .int .i64 (b : Int), .int .i64 (c : Int), .int .i64 im] 46) = W1 at V1 G1 I1 S1b ⊢
  generalize w1.heap.size = tb at I1 S1 S1b ⊢
  have BD0 := hid (show (W1.alloc (.cells #[.int .i64 0, .int .i64 0, .int .i64 0, .int .i64 0, .int .i64 0, .int .i64 0, .int .i64 0, .int .i64 0, .int .i64 0, .int .i64 0, .int .i64 0, .int .i64 0, .int .i64 0, .int .i64 0, .int .i64 0, .int .i64 0, .int .i64 0, .slice none 0 0] 30)).heap[W1.heap.size]? = some (.cells #[.int .i64 0, .int .i64 0, .int .i64 0, .int .i64 0, .int .i64 0, .int .i64 0, .int .i64 0, .int .i64 0, .int .i64 0, .int .i64 0, .int .i64 0, .int .i64 0, .int .i64 0, .int .i64 0, .int .i64 0, .int .i64 0, .int .i64 0, .slice none 0 0] 30 (0, 0)) from (MapKept.heap_alloc W1 _).1)
  have GA := hid (show Gr W1 (W1.alloc (.cells #[.int .i64 0, .int .i64 0, .int .i64 0, .int .i64 0, .int .i64 0, .int .i64 0, .int .i64 0, .int .i64 0, .int .i64 0, .int .i64 0, .int .i64 0, .int .i64 0, .int .i64 0, .int .i64 0, .int .i64 0, .int .i64 0, .int .i64 0, .slice none 0 0] 30)) from Ch.alloc (Gr.refl _) _)
  go_upto_region 6 with (first
    | (refine wpList_load_row rfl 30 (.tmp 4) rfl (w.heap.size + 1) rfl _ _ _ _ V1.out.c Tryd.underlying30 rfl (ctx_size' (HSZ.out _ _)) ?_)
    | (refine st_row rfl 30 (.tmp 10) (.tmp 31) rfl W1.heap.size _ rfl rfl _ _ BD0.out (ctx_size' (HSZ.out _ _)) (HSZ.out _ _).symm cC_one ?_; intro w2 b2 k2; have D2 := hid b2; have G2 := hid (show Gr W1 w2 from Ch.trans GA.out k2 (fun q e => .inr (by have e1 : q = W1.heap.size := e; omega))); have V2 := hid (V1.out.gr G2.out); have I2 := hid (gr_blk I1.out G2.out); have y17 := (cell_of V2.out.c 17).trans (cC_v HRR.out _ _); have l17 := lt_of_block V2.out.c; clear b2 k2)
    | (go_at_call 38; refine (HC.out _ (Gr.trans G1.out G2.out)).mono ?_; rintro e w3 ⟨v3, rfl, o3, g3⟩; obtain ⟨ao2, cap2, hv3⟩ := o3.form; generalize hq3 : ks.length = n2 at hv3; subst hv3; have HN2 := hid hq3; have D3 := hid (gr_blk D2.out g3); have V3 := hid (V2.out.gr g3); have I3 := hid (gr_blk I2.out g3); have G3 := hid (Gr.trans (Gr.trans G1.out G2.out) g3); have O3 := hid o3; have S3 := hid (show W1.heap.size < w2.heap.size from lt_of_block D2.out); have d17 := (cell_of D3.out 17).trans (cC_v HRR.out _ _); have e17 := frozen_of D3.out 17; have m17 := lt_of_block D3.out; clear o3 g3 hq3))
  generalize W1.heap.size = td at D2 D3 S1b S3 d17 e17 m17 BD0 ⊢
  have hb4 : (w3.setCell ⟨td, 17, none⟩ (.slice ao2 n2 cap2)).heap[td]? = some (.cells (cC pc r (.slice ao2 n2 cap2)) 30 (0, 0)) := by rw [← cC_setv HRR.out pc (.slice ao n cap)]; exact setCell_block D3.out 17 _
  have hc4 : Ch (Only td) w3 (w3.setCell ⟨td, 17, none⟩ (.slice ao2 n2 cap2)) := (Ch.refl _ _).own 17 _
  have V4 := hid (V3.out.off hc4 (by have := S1.out; have := S1b.out; omega))
  have I4 := hid ((hc4.block _ (lt_of_block I3.out) (fun q => by have q1 : tb = td := q; have := S1b.out; omega)).trans I3.out)
  have O4 := hid (O3.out.ch hc4 (fun q hq e => by have e1 : q = td := e; have := (O3.out.blk hq).1; have := S3.out; omega))
  have G4 := hid (show Gr w (w3.setCell ⟨td, 17, none⟩ (.slice ao2 n2 cap2)) from Ch.trans G3.out hc4 (fun q e => .inr (by have e1 : q = td := e; have := S1.out; have := S1b.out; omega)))
  have D4 := hid hb4
  have H2 := hid (show ∀ q, Blk (.slice ao2 n2 cap2) q → td < q from fun q e => by have := (O3.out.blk e).1; have := S3.out; omega)
  have T5 := hid (show w.heap.size + 5 ≤ tb ∧ tb < td from ⟨S1.out, S1b.out⟩)
  have O5 := hid (O4.out.lower (show w.heap.size + 5 ≤ _ from by have := S1.out; have := S1b.out; have := S3.out; omega))
  clear hb4 hc4 y17 l17 d17 e17 m17 D2 D3 BD0 GA V2 V3 I2 I3 G2 G3 O3 S3 O4 S1 S1b
  generalize w3.setCell ⟨td, 17, none⟩ (.slice ao2 n2 cap2) = W4 at V4 I4 G4 D4 O5 ⊢
  have d0 := (cell_of D4.out 0).trans (cC_pc _ _ _)
  have e0 := frozen_of D4.out 0
  have m0 := lt_of_block D4.out
  go_upto_region 7 with fail
  have hb6 : (W4.setCell ⟨td, 0, none⟩ (.int .i64 (pc + 1))).heap[td]? = some (.cells (cC (pc + 1) r (.slice ao2 n2 cap2)) 30 (0, 0)) := by rw [← cC_setpc pc]; exact setCell_block D4.out 0 _
  have hc6 : Ch (Only td) W4 (W4.setCell ⟨td, 0, none⟩ (.int .i64 (pc + 1))) := (Ch.refl _ _).own 0 _
  have V6 := hid (V4.out.off hc6 (by have := T5.out; omega))
  have I6 := hid ((hc6.block _ (lt_of_block I4.out) (fun q => by have q1 : tb = td := q; have := T5.out; omega)).trans I4.out)
  have O6 := hid (O5.out.ch hc6 (fun q hq e => by have e1 : q = td := e; have := H2.out q hq; omega))
  have G6 := hid (show Gr w (W4.setCell ⟨td, 0, none⟩ (.int .i64 (pc + 1))) from Ch.trans G4.out hc6 (fun q e => .inr (by have e1 : q = td := e; have := T5.out; omega)))
  have D6 := hid hb6
  clear hb6 hc6 d0 e0 m0
  generalize W4.setCell ⟨td, 0, none⟩ (.int .i64 (pc + 1)) = W6 at V6 I6 G6 D6 O6 ⊢
  have i0 := (cell_of I6.out 0).trans (rfl : _ = some (Value.int .i64 o1))
  have i1 := (cell_of I6.out 1).trans (rfl : _ = some (Value.int .i64 (a : Int)))
  have i2 := (cell_of I6.out 2).trans (rfl : _ = some (Value.int .i64 (b : Int)))
  have i3 := (cell_of I6.out 3).trans (rfl : _ = some (Value.int .i64 (c : Int)))
  have i4 := (cell_of I6.out 4).trans (rfl : _ = some (Value.int .i64 im))
  have il := lt_of_block I6.out
  have x1 := (cell_of V6.out.c (1 + a)).trans (cC_get HX.out)
  have x2 := (cell_of V6.out.c (1 + b)).trans (cC_get HY.out)
  have x3 := (cell_of V6.out.c (1 + c)).trans (cC_get HZ.out)
  have xl := lt_of_block V6.out.c
  go_quiet (fail)
  clear x1 x2 x3 xl i0 i1 i2 i3 i4 il
  have V7 := hid (show Vs (W6.drewN nq) w.heap.size #[.slice aoc nc cac, .slice aof nf caf, .slice aot nt cat] (cC pc r (.slice ao n cap)) #[.int .u64 ck, .int .i64 sl, .int .i64 gn] #[.int .i64 0, .int .i64 0, .int .i64 0, .int .i64 0, .int .i64 0, .int .i64 0, .int .i64 0, .int .i64 0, .int .i64 0, .int .i64 0, .int .i64 0, .int .i64 0, .int .i64 0, .int .i64 0, .int .i64 0, .int .i64 0, .int .i64 0, .slice none 0 0] #[.int .i64 0, .int .i64 0, .int .i64 0, .int .i64 0, .int .i64 0, .int .i64 0, .int .i64 0, .int .i64 0, .int .i64 0, .int .i64 0, .int .i64 0] from ⟨V6.out.p, V6.out.c, V6.out.e, V6.out.r, V6.out.t⟩)
  have I7 := hid (show (W6.drewN nq).heap[tb]? = some (.cells #[.int .i64 o1, .int .i64 (a : Int), .int .i64 (b : Int), .int .i64 (c : Int), .int .i64 im] 46 (0, 0)) from I6.out)
  have D7 := hid (show (W6.drewN nq).heap[td]? = some (.cells (cC (pc + 1) r (.slice ao2 n2 cap2)) 30 (0, 0)) from D6.out)
  have O7 := hid (show Ow eI 1 3 (w.heap.size + 5) (W6.drewN nq) (.slice ao2 n2 cap2) ks from O6.out)
  have G7 := hid (show Gr w (W6.drewN nq) from Ch.drewN G6.out nq)
  clear V6 I6 D6 O6 G6
  generalize W6.drewN nq = W7 at V7 I7 D7 O7 G7 ⊢
  have i0 := (cell_of I7.out 0).trans (rfl : _ = some (Value.int .i64 o1))
  have il := lt_of_block I7.out
  have HWK := hid (fun (W : World) => worked_no o1 y z HTW.out W)
  go_upto_region 42 with (go_at_call 39; refine (HWK.out _).mono ?_; rintro e w8 ⟨rfl, g8⟩; have V8 := hid (V7.out.gr g8); have I8 := hid (gr_blk I7.out g8); have D8 := hid (gr_blk D7.out g8); have O8 := hid (O7.out.gr g8); have G8 := hid (Gr.trans G7.out g8); have j0 := (cell_of I8.out 0).trans (rfl : _ = some (Value.int .i64 o1)); have jl := lt_of_block I8.out; have y17 := (cell_of V8.out.c 17).trans (cC_v HRR.out _ _); have l17 := lt_of_block V8.out.c; have p1 := (cell_of V8.out.p 1).trans (rfl : _ = some (Value.slice aof nf caf)); have pl := lt_of_block V8.out.p; have j4 := (cell_of I8.out 4).trans (rfl : _ = some (Value.int .i64 im)); clear g8 i0 il)
  clear j0 j4 jl y17 l17 p1 pl
  have d0 := (cell_of D8.out 0).trans (cC_pc _ _ _)
  have d17 := (cell_of D8.out 17).trans (cC_v HRR.out _ _)
  have z17 := frozen_of D8.out 17
  have dl := lt_of_block D8.out
  have hn2 : n2 < 64 := by have q5 := HN2.out; have q6 := HKL.out; omega
  go_upto_region 43 with (at_builtin; refine wpList_append_ow eI_len rfl (.tmp 177) (.tmp 180) _ 3 8 _ Tryd.underlying28 int_info rfl (by omega) rfl (w.heap.size + 5) _ ks rfl (O8.out.alloc _) _ _ [pc + 1] rfl (ls_int _ _ _ (by simp)) (eI_one _) (n2 + 1) (by rw [HN2.out]; rfl) (by omega) (by unfold maxLen; omega) (by simp; have := lt_of_block V8.out.t; omega) (ks ++ [pc + 1]) rfl ?_; intro ao7 cap7 w9 o7 k7 b7; have A7 := Ch.alloc (Ch.refl (Blk (.slice ao2 n2 cap2)) w8) (.cells #[.int .i64 (pc + 1)] 3); have C7 := A7.trans' k7; have D9 := hid (show w9.heap[td]? = some (.cells (cC (pc + 1) r (.slice ao2 n2 cap2)) 30 (0, 0)) from (C7.block _ (lt_of_block D8.out) (fun e => by have := H2.out _ e; omega)).trans D8.out); have I9 := hid ((C7.block _ (lt_of_block I8.out) (fun e => by have := H2.out _ e; have := T5.out; omega)).trans I8.out); have V9 := hid (show Vs w9 w.heap.size #[.slice aoc nc cac, .slice aof nf caf, .slice aot nt cat] (cC pc r (.slice ao n cap)) #[.int .u64 ck, .int .i64 sl, .int .i64 gn] #[.int .i64 0, .int .i64 0, .int .i64 0, .int .i64 0, .int .i64 0, .int .i64 0, .int .i64 0, .int .i64 0, .int .i64 0, .int .i64 0, .int .i64 0, .int .i64 0, .int .i64 0, .int .i64 0, .int .i64 0, .int .i64 0, .int .i64 0, .slice none 0 0] #[.int .i64 0, .int .i64 0, .int .i64 0, .int .i64 0, .int .i64 0, .int .i64 0, .int .i64 0, .int .i64 0, .int .i64 0, .int .i64 0, .int .i64 0] from ⟨(C7.block _ (lt_of_block V8.out.p) (fun e => by have := (O8.out.blk e).1; omega)).trans V8.out.p, (C7.block _ (lt_of_block V8.out.c) (fun e => by have := (O8.out.blk e).1; omega)).trans V8.out.c, (C7.block _ (lt_of_block V8.out.e) (fun e => by have := (O8.out.blk e).1; omega)).trans V8.out.e, (C7.block _ (lt_of_block V8.out.r) (fun e => by have := (O8.out.blk e).1; omega)).trans V8.out.r, (C7.block _ (lt_of_block V8.out.t) (fun e => by have := (O8.out.blk e).1; omega)).trans V8.out.t⟩); have O9 := hid o7; have G9 := hid (show Gr w w9 from Ch.trans G8.out C7 (fun q e => .inr (by have := (O8.out.blk e).1; omega))); have H9 := hid (show ∀ q, Blk (.slice ao7 (n2 + 1) cap7) q → td < q from fun q e => by rcases b7 q e with z | z; (exact H2.out q z); (have := lt_of_block D8.out; simp at z; omega)); have y17 := (cell_of D9.out 17).trans (cC_v HRR.out _ _); have w17 := frozen_of D9.out 17; have l17 := lt_of_block D9.out; clear A7 C7 o7 k7 b7)
  have hb10 : (w9.setCell ⟨td, 17, none⟩ (.slice ao7 (n2 + 1) cap7)).heap[td]? = some (.cells (cC (pc + 1) r (.slice ao7 (n2 + 1) cap7)) 30 (0, 0)) := by rw [← cC_setv HRR.out (pc + 1) (.slice ao2 n2 cap2)]; exact setCell_block D9.out 17 _
  have hc10 : Ch (Only td) w9 (w9.setCell ⟨td, 17, none⟩ (.slice ao7 (n2 + 1) cap7)) := (Ch.refl _ _).own 17 _
  have V10 := hid (V9.out.off hc10 (by have := T5.out; omega))
  have I10 := hid ((hc10.block _ (lt_of_block I9.out) (fun q => by have q1 : tb = td := q; have := T5.out; omega)).trans I9.out)
  have O10 := hid (O9.out.ch hc10 (fun q hq e => by have e1 : q = td := e; have := H9.out q hq; omega))
  have G10 := hid (show Gr w (w9.setCell ⟨td, 17, none⟩ (.slice ao7 (n2 + 1) cap7)) from Ch.trans G9.out hc10 (fun q e => .inr (by have e1 : q = td := e; have := T5.out; omega)))
  have D10 := hid hb10
  clear hb10 hc10 d0 d17 z17 dl y17 w17 l17
  generalize w9.setCell ⟨td, 17, none⟩ (.slice ao7 (n2 + 1) cap7) = W10 at V10 I10 O10 G10 D10 ⊢
  have q3 := (cell_of V10.out.p 1).trans (rfl : _ = some (Value.slice aof nf caf))
  have q4 := lt_of_block V10.out.p
  have d0 := (cell_of D10.out 0).trans (cC_pc _ _ _)
  have z0 := frozen_of D10.out 0
  have dl := lt_of_block D10.out
  have j4 := (cell_of I10.out 4).trans (rfl : _ = some (Value.int .i64 im))
  have jl := lt_of_block I10.out
  obtain ⟨g, o, cap', hv, _, hgl, _, hcs⟩ := (HFS.out.gr G10.out).get eG_len HFE.out
  injection hv with hv1 hv2 hv3
  subst hv1
  have f9 := hcs 0 _ rfl
  rw [Nat.add_zero] at f9
  have ft : im.toNat = f := by have := HIM.out; omega
  clear hcs hv2 hv3
  go_upto_region 60 with fail
  have hb11 : (W10.setCell ⟨td, 0, none⟩ (.int .i64 fb)).heap[td]? = some (.cells (cC fb r (.slice ao7 (n2 + 1) cap7)) 30 (0, 0)) := by rw [← cC_setpc (pc + 1)]; exact setCell_block D10.out 0 _
  have hc11 : Ch (Only td) W10 (W10.setCell ⟨td, 0, none⟩ (.int .i64 fb)) := (Ch.refl _ _).own 0 _
  have V11 := hid (V10.out.off hc11 (by have := T5.out; omega))
  have O11 := hid (O10.out.ch hc11 (fun q hq e => by have e1 : q = td := e; have := H9.out q hq; omega))
  have G11 := hid (show Gr w (W10.setCell ⟨td, 0, none⟩ (.int .i64 fb)) from Ch.trans G10.out hc11 (fun q e => .inr (by have e1 : q = td := e; have := T5.out; omega)))
  have D11 := hid hb11
  clear hb11 hc11 q3 q4 d0 z0 dl j4 jl f9
  generalize W10.setCell ⟨td, 0, none⟩ (.int .i64 fb) = W11 at V11 O11 G11 D11 ⊢
  go_wp2_with (first
    | (refine wpList_load_row rfl 30 (.tmp 10) rfl td rfl _ _ _ _ D11.out Tryd.underlying30 rfl (ctx_size' (HSZ.out _ _)) ?_)
    | (refine st_row rfl 30 (.tmp 6) (.tmp 248) rfl (w.heap.size + 3) _ rfl rfl _ _ V11.out.r (ctx_size' (HSZ.out _ _)) (HSZ.out _ _).symm cC_one ?_; intro w9 b9 k9; have R9 := hid b9; have K9 := hid k9; have T9 := hid ((k9.block _ (lt_of_block V11.out.t) (fun q => by have q1 : w.heap.size + 4 = w.heap.size + 3 := q; omega)).trans V11.out.t); clear b9 k9)
    | (refine st_row rfl 49 (.tmp 7) (.tmp 249) rfl (w.heap.size + 4) _ rfl rfl _ _ T9.out want_size rfl one11 ?_; intro w10 b10 k10; have T10 := hid b10; have K10 := hid k10; have R10 := hid ((k10.block _ (lt_of_block R9.out) (fun q => by have q1 : w.heap.size + 3 = w.heap.size + 4 := q; omega)).trans R9.out); clear b10 k10))
  refine bodyPost_ret (results_cell_cell rfl _ _ (w.heap.size + 3) (w.heap.size + 4) _ _ rfl (run_loadVar_row _ _ _ _ _ _ _ R10.out Tryd.underlying30 rfl (ctx_size' (HSZ.out _ _))) rfl (run_loadVar_row _ _ _ _ _ _ _ T10.out Tryd.underlying49 rfl want_size)) rfl ?_
  exact ⟨_, _, _, rfl, ((O11.out.ch K9.out (fun q hq e => by have e1 : q = w.heap.size + 3 := e; have := (O11.out.blk hq).1; omega)).ch K10.out (fun q hq e => by have e1 : q = w.heap.size + 4 := e; have := (O11.out.blk hq).1; omega)).lower (by omega), Ch.trans (Ch.trans G11.out K9.out (fun q e => .inr (by have e1 : q = w.heap.size + 3 := e; omega))) K10.out (fun q e => .inr (by have e1 : q = w.heap.size + 4 := e; omega))⟩
end Go.Proofs.YtcdlhfodeckleaaDoor.Lt

namespace Go.Proofs.YtcdlhfodeckleaaDoor.Lt
open Go.RowKit Wd

set_option maxHeartbeats 2000000 in
set_option maxRecDepth 20000 in
theorem rstep_retn (P : Nat → Prop) (w : World) (aoc aof aot : Option Addr) (nc nf nt cac caf cat : Nat) (cs : List Int) (h : Ls eU P w (.slice aoc nc cac) cs) (hu : U32s cs) (hcl : nc ≤ 35184372088832) (pc : Int) (r : List Int) (hr : r.length = 16) (ao : Option Addr) (n cap : Nat) (ks : List Int) (hk : Ls eI P w (.slice ao n cap) ks) (hn : n ≤ 17592186044416) (ck sl gn : Int)
    (o1 im : Int) (a b c : Nat) (la : a < 16) (lb : b < 16) (lc : c < 16) (x y z : Int) (hx : r[a]? = some x) (hy : r[b]? = some y) (hz : r[c]? = some z) (hI : nI cs pc = (o1, (a : Int), (b : Int), (c : Int), im)) (hB : nB cs pc = true) (ho : o1 = 21) (hm : n = 0) :
    Calls Tryd.prog 17 #[.agg #[.slice aoc nc cac, .slice aof nf caf, .slice aot nt cat], .agg (cC pc r (.slice ao n cap)), .agg #[.int .u64 ck, .int .i64 sl, .int .i64 gn]] w (StR w (pc + 1) r ks (wt 24 0 0 0 0 0 0 0 0 0 0)) := by
  have hlen := h.len.1
  have hpc : 0 ≤ pc ∧ pc < (nc : Int) := by
    unfold nB at hB
    split at hB
    · rename_i q; rw [hlen]; exact q
    · cases hB
  have HN := hid (fun (W : World) (p : Gr w W) => rnext9_any P W aoc aof aot nc nf nt cac caf cat cs (h.gr p) hu pc r hr ao n cap)
  rw [hI, hB] at HN
  unfold iV at HN
  simp only at HN
  have HC := hid (fun (W : World) (p : Gr w W) => rcalls9_any P W ao n cap ks (hk.gr p) hn)
  have V0 := hid (vs_new w #[.slice aoc nc cac, .slice aof nf caf, .slice aot nt cat] (cC pc r (.slice ao n cap)) #[.int .u64 ck, .int .i64 sl, .int .i64 gn] #[.int .i64 0, .int .i64 0, .int .i64 0, .int .i64 0, .int .i64 0, .int .i64 0, .int .i64 0, .int .i64 0, .int .i64 0, .int .i64 0, .int .i64 0, .int .i64 0, .int .i64 0, .int .i64 0, .int .i64 0, .int .i64 0, .int .i64 0, .slice none 0 0] #[.int .i64 0, .int .i64 0, .int .i64 0, .int .i64 0, .int .i64 0, .int .i64 0, .int .i64 0, .int .i64 0, .int .i64 0, .int .i64 0, .int .i64 0])
  have K0 := hid (show Gr w (((((w.alloc (.cells #[.slice aoc nc cac, .slice aof nf caf, .slice aot nt cat] 26)).alloc (.cells (cC pc r (.slice ao n cap)) 30)).alloc (.cells #[.int .u64 ck, .int .i64 sl, .int .i64 gn] 44)).alloc (.cells #[.int .i64 0, .int .i64 0, .int .i64 0, .int .i64 0, .int .i64 0, .int .i64 0, .int .i64 0, .int .i64 0, .int .i64 0, .int .i64 0, .int .i64 0, .int .i64 0, .int .i64 0, .int .i64 0, .int .i64 0, .int .i64 0, .int .i64 0, .slice none 0 0] 30)).alloc (.cells #[.int .i64 0, .int .i64 0, .int .i64 0, .int .i64 0, .int .i64 0, .int .i64 0, .int .i64 0, .int .i64 0, .int .i64 0, .int .i64 0, .int .i64 0] 49)) from Ch.alloc (Ch.alloc (Ch.alloc (Ch.alloc (Ch.alloc (Gr.refl w) _) _) _) _) _)
  have HSZ := hid (fun (pc : Int) (v : Value) => cC_size (pc := pc) (v := v) hr)
  have HX := hid hx
  have HY := hid hy
  have HZ := hid hz
  have a0 : (0 : Int) ≤ (a : Int) := by omega
  have a1 : (a : Int) < 16 := by omega
  have b0 : (0 : Int) ≤ (b : Int) := by omega
  have b1 : (b : Int) < 16 := by omega
  have c0 : (0 : Int) ≤ (c : Int) := by omega
  have c1 : (c : Int) < 16 := by omega
  have HKL := hid hk.len.1
  have HRR := hid hr
  have HO1 := hid ho
  have HTW := hid (show ¬ Two o1 from by unfold Two; omega)
  clear ho
  have e1 : (o1 == 1) = false := by rw [HO1.out]; rfl
  have e2 : (o1 == 2) = false := by rw [HO1.out]; rfl
  have e3 : (o1 == 3) = false := by rw [HO1.out]; rfl
  have e4 : (o1 == 4) = false := by rw [HO1.out]; rfl
  have e8 : (o1 == 8) = false := by rw [HO1.out]; rfl
  have e9 : (o1 == 9) = false := by rw [HO1.out]; rfl
  have e17 : (o1 == 17) = false := by rw [HO1.out]; rfl
  have e18 : (o1 == 18) = false := by rw [HO1.out]; rfl
  have e19 : (o1 == 19) = false := by rw [HO1.out]; rfl
  have e20 : (o1 == 20) = false := by rw [HO1.out]; rfl
  have e21 : (o1 == 21) = true := by rw [HO1.out]; rfl
  have HMM := hid hm
  clear hm
  obtain ⟨q0, q1⟩ := hpc
  have q2 : pc ≤ 35184372088832 := by omega
  clear h hu hI hB hlen hr hx hy hz hk
  go_enter Tryd.func17, Tryd.ntmps17
  go_upto_region 4 with (first
    | (refine wpList_load_row rfl 30 (.tmp 4) rfl (w.heap.size + 1) rfl _ _ _ _ V0.out.c Tryd.underlying30 rfl (ctx_size' (HSZ.out _ _)) ?_)
    | (go_at_call 26; refine (HN.out _ K0.out).mono ?_; rintro e w1 ⟨rfl, g1⟩; have V1 := hid (V0.out.gr (Ch.alloc g1 (.cells #[.int .i64 o1, .int .i64 (a : Int), .int .i64 (b : Int), .int .i64 (c : Int), .int .i64 im] 46))); have G1 := hid (show Gr w (w1.alloc (.cells #[.int .i64 o1, .int .i64 (a : Int), .int .i64 (b : Int), .int .i64 (c : Int), .int .i64 im] 46)) from Ch.alloc (Gr.trans K0.out g1) _); have I1 := hid (MapKept.heap_alloc w1 (.cells #[.int .i64 o1, .int .i64 (a : Int), .int .i64 (b : Int), .int .i64 (c : Int), .int .i64 im] 46)).1; have S1 := hid (show w.heap.size + 5 ≤ w1.heap.size from Nat.lt_of_lt_of_le (lt_of_block V0.out.t) g1.size); have S1b := hid (show w1.heap.size < (w1.alloc (.cells #[.int .i64 o1, .int .i64 (a : Int), .int .i64 (b : Int), .int .i64 (c : Int), .int .i64 im] 46)).heap.size from (by simp)); clear g1))
  generalize w1.alloc (.cells #[.int .i64 o1, .int .i64 (a : Int), .int .i64 (b : Int), .int .i64 (c : Int), .int .i64 im] 46) = W1 at V1 G1 I1 S1b ⊢
  generalize w1.heap.size = tb at I1 S1 S1b ⊢
  have BD0 := hid (show (W1.alloc (.cells #[.int .i64 0, .int .i64 0, .int .i64 0, .int .i64 0, .int .i64 0, .int .i64 0, .int .i64 0, .int .i64 0, .int .i64 0, .int .i64 0, .int .i64 0, .int .i64 0, .int .i64 0, .int .i64 0, .int .i64 0, .int .i64 0, .int .i64 0, .slice none 0 0] 30)).heap[W1.heap.size]? = some (.cells #[.int .i64 0, .int .i64 0, .int .i64 0, .int .i64 0, .int .i64 0, .int .i64 0, .int .i64 0, .int .i64 0, .int .i64 0, .int .i64 0, .int .i64 0, .int .i64 0, .int .i64 0, .int .i64 0, .int .i64 0, .int .i64 0, .int .i64 0, .slice none 0 0] 30 (0, 0)) from (MapKept.heap_alloc W1 _).1)
  have GA := hid (show Gr W1 (W1.alloc (.cells #[.int .i64 0, .int .i64 0, .int .i64 0, .int .i64 0, .int .i64 0, .int .i64 0, .int .i64 0, .int .i64 0, .int .i64 0, .int .i64 0, .int .i64 0, .int .i64 0, .int .i64 0, .int .i64 0, .int .i64 0, .int .i64 0, .int .i64 0, .slice none 0 0] 30)) from Ch.alloc (Gr.refl _) _)
  go_upto_region 6 with (first
    | (refine wpList_load_row rfl 30 (.tmp 4) rfl (w.heap.size + 1) rfl _ _ _ _ V1.out.c Tryd.underlying30 rfl (ctx_size' (HSZ.out _ _)) ?_)
    | (refine st_row rfl 30 (.tmp 10) (.tmp 31) rfl W1.heap.size _ rfl rfl _ _ BD0.out (ctx_size' (HSZ.out _ _)) (HSZ.out _ _).symm cC_one ?_; intro w2 b2 k2; have D2 := hid b2; have G2 := hid (show Gr W1 w2 from Ch.trans GA.out k2 (fun q e => .inr (by have e1 : q = W1.heap.size := e; omega))); have V2 := hid (V1.out.gr G2.out); have I2 := hid (gr_blk I1.out G2.out); have y17 := (cell_of V2.out.c 17).trans (cC_v HRR.out _ _); have l17 := lt_of_block V2.out.c; clear b2 k2)
    | (go_at_call 38; refine (HC.out _ (Gr.trans G1.out G2.out)).mono ?_; rintro e w3 ⟨v3, rfl, o3, g3⟩; obtain ⟨ao2, cap2, hv3⟩ := o3.form; generalize hq3 : ks.length = n2 at hv3; subst hv3; have HN2 := hid hq3; have D3 := hid (gr_blk D2.out g3); have V3 := hid (V2.out.gr g3); have I3 := hid (gr_blk I2.out g3); have G3 := hid (Gr.trans (Gr.trans G1.out G2.out) g3); have O3 := hid o3; have S3 := hid (show W1.heap.size < w2.heap.size from lt_of_block D2.out); have d17 := (cell_of D3.out 17).trans (cC_v HRR.out _ _); have e17 := frozen_of D3.out 17; have m17 := lt_of_block D3.out; clear o3 g3 hq3))
  generalize W1.heap.size = td at D2 D3 S1b S3 d17 e17 m17 BD0 ⊢
  have hb4 : (w3.setCell ⟨td, 17, none⟩ (.slice ao2 n2 cap2)).heap[td]? = some (.cells (cC pc r (.slice ao2 n2 cap2)) 30 (0, 0)) := by rw [← cC_setv HRR.out pc (.slice ao n cap)]; exact setCell_block D3.out 17 _
  have hc4 : Ch (Only td) w3 (w3.setCell ⟨td, 17, none⟩ (.slice ao2 n2 cap2)) := (Ch.refl _ _).own 17 _
  have V4 := hid (V3.out.off hc4 (by have := S1.out; have := S1b.out; omega))
  have I4 := hid ((hc4.block _ (lt_of_block I3.out) (fun q => by have q1 : tb = td := q; have := S1b.out; omega)).trans I3.out)
  have O4 := hid (O3.out.ch hc4 (fun q hq e => by have e1 : q = td := e; have := (O3.out.blk hq).1; have := S3.out; omega))
  have G4 := hid (show Gr w (w3.setCell ⟨td, 17, none⟩ (.slice ao2 n2 cap2)) from Ch.trans G3.out hc4 (fun q e => .inr (by have e1 : q = td := e; have := S1.out; have := S1b.out; omega)))
  have D4 := hid hb4
  have H2 := hid (show ∀ q, Blk (.slice ao2 n2 cap2) q → td < q from fun q e => by have := (O3.out.blk e).1; have := S3.out; omega)
  have T5 := hid (show w.heap.size + 5 ≤ tb ∧ tb < td from ⟨S1.out, S1b.out⟩)
  have O5 := hid (O4.out.lower (show w.heap.size + 5 ≤ _ from by have := S1.out; have := S1b.out; have := S3.out; omega))
  clear hb4 hc4 y17 l17 d17 e17 m17 D2 D3 BD0 GA V2 V3 I2 I3 G2 G3 O3 S3 O4 S1 S1b
  generalize w3.setCell ⟨td, 17, none⟩ (.slice ao2 n2 cap2) = W4 at V4 I4 G4 D4 O5 ⊢
  have d0 := (cell_of D4.out 0).trans (cC_pc _ _ _)
  have e0 := frozen_of D4.out 0
  have m0 := lt_of_block D4.out
  go_upto_region 7 with fail
  have hb6 : (W4.setCell ⟨td, 0, none⟩ (.int .i64 (pc + 1))).heap[td]? = some (.cells (cC (pc + 1) r (.slice ao2 n2 cap2)) 30 (0, 0)) := by rw [← cC_setpc pc]; exact setCell_block D4.out 0 _
  have hc6 : Ch (Only td) W4 (W4.setCell ⟨td, 0, none⟩ (.int .i64 (pc + 1))) := (Ch.refl _ _).own 0 _
  have V6 := hid (V4.out.off hc6 (by have := T5.out; omega))
  have I6 := hid ((hc6.block _ (lt_of_block I4.out) (fun q => by have q1 : tb = td := q; have := T5.out; omega)).trans I4.out)
  have O6 := hid (O5.out.ch hc6 (fun q hq e => by have e1 : q = td := e; have := H2.out q hq; omega))
  have G6 := hid (show Gr w (W4.setCell ⟨td, 0, none⟩ (.int .i64 (pc + 1))) from Ch.trans G4.out hc6 (fun q e => .inr (by have e1 : q = td := e; have := T5.out; omega)))
  have D6 := hid hb6
  clear hb6 hc6 d0 e0 m0
  generalize W4.setCell ⟨td, 0, none⟩ (.int .i64 (pc + 1)) = W6 at V6 I6 G6 D6 O6 ⊢
  have i0 := (cell_of I6.out 0).trans (rfl : _ = some (Value.int .i64 o1))
  have i1 := (cell_of I6.out 1).trans (rfl : _ = some (Value.int .i64 (a : Int)))
  have i2 := (cell_of I6.out 2).trans (rfl : _ = some (Value.int .i64 (b : Int)))
  have i3 := (cell_of I6.out 3).trans (rfl : _ = some (Value.int .i64 (c : Int)))
  have i4 := (cell_of I6.out 4).trans (rfl : _ = some (Value.int .i64 im))
  have il := lt_of_block I6.out
  have x1 := (cell_of V6.out.c (1 + a)).trans (cC_get HX.out)
  have x2 := (cell_of V6.out.c (1 + b)).trans (cC_get HY.out)
  have x3 := (cell_of V6.out.c (1 + c)).trans (cC_get HZ.out)
  have xl := lt_of_block V6.out.c
  go_quiet (fail)
  clear x1 x2 x3 xl i0 i1 i2 i3 i4 il
  have V7 := hid (show Vs (W6.drewN nq) w.heap.size #[.slice aoc nc cac, .slice aof nf caf, .slice aot nt cat] (cC pc r (.slice ao n cap)) #[.int .u64 ck, .int .i64 sl, .int .i64 gn] #[.int .i64 0, .int .i64 0, .int .i64 0, .int .i64 0, .int .i64 0, .int .i64 0, .int .i64 0, .int .i64 0, .int .i64 0, .int .i64 0, .int .i64 0, .int .i64 0, .int .i64 0, .int .i64 0, .int .i64 0, .int .i64 0, .int .i64 0, .slice none 0 0] #[.int .i64 0, .int .i64 0, .int .i64 0, .int .i64 0, .int .i64 0, .int .i64 0, .int .i64 0, .int .i64 0, .int .i64 0, .int .i64 0, .int .i64 0] from ⟨V6.out.p, V6.out.c, V6.out.e, V6.out.r, V6.out.t⟩)
  have I7 := hid (show (W6.drewN nq).heap[tb]? = some (.cells #[.int .i64 o1, .int .i64 (a : Int), .int .i64 (b : Int), .int .i64 (c : Int), .int .i64 im] 46 (0, 0)) from I6.out)
  have D7 := hid (show (W6.drewN nq).heap[td]? = some (.cells (cC (pc + 1) r (.slice ao2 n2 cap2)) 30 (0, 0)) from D6.out)
  have O7 := hid (show Ow eI 1 3 (w.heap.size + 5) (W6.drewN nq) (.slice ao2 n2 cap2) ks from O6.out)
  have G7 := hid (show Gr w (W6.drewN nq) from Ch.drewN G6.out nq)
  clear V6 I6 D6 O6 G6
  generalize W6.drewN nq = W7 at V7 I7 D7 O7 G7 ⊢
  have i0 := (cell_of I7.out 0).trans (rfl : _ = some (Value.int .i64 o1))
  have il := lt_of_block I7.out
  have HWK := hid (fun (W : World) => worked_no o1 y z HTW.out W)
  have hn0 : n2 = 0 := by have q5 := HN2.out; have q6 := HKL.out; have q7 := HMM.out; omega
  subst hn0
  go_wp2_with (first
    | (refine wpList_load_row rfl 30 (.tmp 10) rfl td rfl _ _ _ _ D8.out Tryd.underlying30 rfl (ctx_size' (HSZ.out _ _)) ?_)
    | (refine st_row rfl 30 (.tmp 6) (.tmp 198) rfl (w.heap.size + 3) _ rfl rfl _ _ V8.out.r (ctx_size' (HSZ.out _ _)) (HSZ.out _ _).symm cC_one ?_; intro w9 b9 k9; have R9 := hid b9; have K9 := hid k9; have T9 := hid ((k9.block _ (lt_of_block V8.out.t) (fun q => by have q1 : w.heap.size + 4 = w.heap.size + 3 := q; omega)).trans V8.out.t); clear b9 k9)
    | (refine st_row rfl 49 (.tmp 7) (.tmp 199) rfl (w.heap.size + 4) _ rfl rfl _ _ T9.out want_size rfl (wt_one 24 0 0 0 0 0 0 0 0 0 0) ?_; intro w10 b10 k10; have T10 := hid b10; have K10 := hid k10; have R10 := hid ((k10.block _ (lt_of_block R9.out) (fun q => by have q1 : w.heap.size + 3 = w.heap.size + 4 := q; omega)).trans R9.out); clear b10 k10)
    | (go_at_call 39; refine (HWK.out _).mono ?_; rintro e w8 ⟨rfl, g8⟩; have V8 := hid (V7.out.gr g8); have I8 := hid (gr_blk I7.out g8); have D8 := hid (gr_blk D7.out g8); have O8 := hid (O7.out.gr g8); have G8 := hid (Gr.trans G7.out g8); have j0 := (cell_of I8.out 0).trans (rfl : _ = some (Value.int .i64 o1)); have jl := lt_of_block I8.out; have y17 := (cell_of D8.out 17).trans (cC_v HRR.out _ _); have l17 := lt_of_block D8.out; clear g8 i0 il))
  refine bodyPost_ret (results_cell_cell rfl _ _ (w.heap.size + 3) (w.heap.size + 4) _ _ rfl (run_loadVar_row _ _ _ _ _ _ _ R10.out Tryd.underlying30 rfl (ctx_size' (HSZ.out _ _))) rfl (run_loadVar_row _ _ _ _ _ _ _ T10.out Tryd.underlying49 rfl want_size)) rfl ?_
  exact ⟨_, _, _, rfl, ((O8.out.ch K9.out (fun q hq e => by have e1 : q = w.heap.size + 3 := e; have := (O8.out.blk hq).1; omega)).ch K10.out (fun q hq e => by have e1 : q = w.heap.size + 4 := e; have := (O8.out.blk hq).1; omega)).lower (by omega), Ch.trans (Ch.trans G8.out K9.out (fun q e => .inr (by have e1 : q = w.heap.size + 3 := e; omega))) K10.out (fun q e => .inr (by have e1 : q = w.heap.size + 4 := e; omega))⟩
set_option maxHeartbeats 2000000 in
set_option maxRecDepth 20000 in
theorem rstep_rety (P : Nat → Prop) (w : World) (aoc aof aot : Option Addr) (nc nf nt cac caf cat : Nat) (cs : List Int) (h : Ls eU P w (.slice aoc nc cac) cs) (hu : U32s cs) (hcl : nc ≤ 35184372088832) (pc : Int) (r : List Int) (hr : r.length = 16) (ao : Option Addr) (n cap : Nat) (ks : List Int) (hk : Ls eI P w (.slice ao n cap) ks) (hn : n ≤ 17592186044416) (ck sl gn : Int)
    (o1 im : Int) (a b c : Nat) (la : a < 16) (lb : b < 16) (lc : c < 16) (x y z : Int) (hx : r[a]? = some x) (hy : r[b]? = some y) (hz : r[c]? = some z) (hI : nI cs pc = (o1, (a : Int), (b : Int), (c : Int), im)) (hB : nB cs pc = true) (ho : o1 = 21) (m : Nat) (hm : n = m + 1) (xr : Int) (hkx : ks[m]? = some xr) :
    Calls Tryd.prog 17 #[.agg #[.slice aoc nc cac, .slice aof nf caf, .slice aot nt cat], .agg (cC pc r (.slice ao n cap)), .agg #[.int .u64 ck, .int .i64 sl, .int .i64 gn]] w (StR w xr r (ks.take m) #[.int .i64 0, .int .i64 0, .int .i64 0, .int .i64 0, .int .i64 0, .int .i64 0, .int .i64 0, .int .i64 0, .int .i64 0, .int .i64 0, .int .i64 0]) := by
  have hlen := h.len.1
  have hpc : 0 ≤ pc ∧ pc < (nc : Int) := by
    unfold nB at hB
    split at hB
    · rename_i q; rw [hlen]; exact q
    · cases hB
  have HN := hid (fun (W : World) (p : Gr w W) => rnext9_any P W aoc aof aot nc nf nt cac caf cat cs (h.gr p) hu pc r hr ao n cap)
  rw [hI, hB] at HN
  unfold iV at HN
  simp only at HN
  have HC := hid (fun (W : World) (p : Gr w W) => rcalls9_any P W ao n cap ks (hk.gr p) hn)
  have V0 := hid (vs_new w #[.slice aoc nc cac, .slice aof nf caf, .slice aot nt cat] (cC pc r (.slice ao n cap)) #[.int .u64 ck, .int .i64 sl, .int .i64 gn] #[.int .i64 0, .int .i64 0, .int .i64 0, .int .i64 0, .int .i64 0, .int .i64 0, .int .i64 0, .int .i64 0, .int .i64 0, .int .i64 0, .int .i64 0, .int .i64 0, .int .i64 0, .int .i64 0, .int .i64 0, .int .i64 0, .int .i64 0, .slice none 0 0] #[.int .i64 0, .int .i64 0, .int .i64 0, .int .i64 0, .int .i64 0, .int .i64 0, .int .i64 0, .int .i64 0, .int .i64 0, .int .i64 0, .int .i64 0])
  have K0 := hid (show Gr w (((((w.alloc (.cells #[.slice aoc nc cac, .slice aof nf caf, .slice aot nt cat] 26)).alloc (.cells (cC pc r (.slice ao n cap)) 30)).alloc (.cells #[.int .u64 ck, .int .i64 sl, .int .i64 gn] 44)).alloc (.cells #[.int .i64 0, .int .i64 0, .int .i64 0, .int .i64 0, .int .i64 0, .int .i64 0, .int .i64 0, .int .i64 0, .int .i64 0, .int .i64 0, .int .i64 0, .int .i64 0, .int .i64 0, .int .i64 0, .int .i64 0, .int .i64 0, .int .i64 0, .slice none 0 0] 30)).alloc (.cells #[.int .i64 0, .int .i64 0, .int .i64 0, .int .i64 0, .int .i64 0, .int .i64 0, .int .i64 0, .int .i64 0, .int .i64 0, .int .i64 0, .int .i64 0] 49)) from Ch.alloc (Ch.alloc (Ch.alloc (Ch.alloc (Ch.alloc (Gr.refl w) _) _) _) _) _)
  have HSZ := hid (fun (pc : Int) (v : Value) => cC_size (pc := pc) (v := v) hr)
  have HX := hid hx
  have HY := hid hy
  have HZ := hid hz
  have a0 : (0 : Int) ≤ (a : Int) := by omega
  have a1 : (a : Int) < 16 := by omega
  have b0 : (0 : Int) ≤ (b : Int) := by omega
  have b1 : (b : Int) < 16 := by omega
  have c0 : (0 : Int) ≤ (c : Int) := by omega
  have c1 : (c : Int) < 16 := by omega
  have HKL := hid hk.len.1
  have HRR := hid hr
  have HO1 := hid ho
  have HTW := hid (show ¬ Two o1 from by unfold Two; omega)
  clear ho
  have e1 : (o1 == 1) = false := by rw [HO1.out]; rfl
  have e2 : (o1 == 2) = false := by rw [HO1.out]; rfl
  have e3 : (o1 == 3) = false := by rw [HO1.out]; rfl
  have e4 : (o1 == 4) = false := by rw [HO1.out]; rfl
  have e8 : (o1 == 8) = false := by rw [HO1.out]; rfl
  have e9 : (o1 == 9) = false := by rw [HO1.out]; rfl
  have e17 : (o1 == 17) = false := by rw [HO1.out]; rfl
  have e18 : (o1 == 18) = false := by rw [HO1.out]; rfl
  have e19 : (o1 == 19) = false := by rw [HO1.out]; rfl
  have e20 : (o1 == 20) = false := by rw [HO1.out]; rfl
  have e21 : (o1 == 21) = true := by rw [HO1.out]; rfl
  have HMM := hid hm
  have HKX := hid hkx
  clear hm hkx
  obtain ⟨q0, q1⟩ := hpc
  have q2 : pc ≤ 35184372088832 := by omega
  clear h hu hI hB hlen hr hx hy hz hk
  go_enter Tryd.func17, Tryd.ntmps17
  go_upto_region 4 with (first
    | (refine wpList_load_row rfl 30 (.tmp 4) rfl (w.heap.size + 1) rfl _ _ _ _ V0.out.c Tryd.underlying30 rfl (ctx_size' (HSZ.out _ _)) ?_)
    | (go_at_call 26; refine (HN.out _ K0.out).mono ?_; rintro e w1 ⟨rfl, g1⟩; have V1 := hid (V0.out.gr (Ch.alloc g1 (.cells #[.int .i64 o1, .int .i64 (a : Int), .int .i64 (b : Int), .int .i64 (c : Int), .int .i64 im] 46))); have G1 := hid (show Gr w (w1.alloc (.cells #[.int .i64 o1, .int .i64 (a : Int), .int .i64 (b : Int), .int .i64 (c : Int), .int .i64 im] 46)) from Ch.alloc (Gr.trans K0.out g1) _); have I1 := hid (MapKept.heap_alloc w1 (.cells #[.int .i64 o1, .int .i64 (a : Int), .int .i64 (b : Int), .int .i64 (c : Int), .int .i64 im] 46)).1; have S1 := hid (show w.heap.size + 5 ≤ w1.heap.size from Nat.lt_of_lt_of_le (lt_of_block V0.out.t) g1.size); have S1b := hid (show w1.heap.size < (w1.alloc (.cells #[.int .i64 o1, .int .i64 (a : Int), .int .i64 (b : Int), .int .i64 (c : Int), .int .i64 im] 46)).heap.size from (by simp)); clear g1))
  generalize w1.alloc (.cells #[.int .i64 o1, .int .i64 (a : Int), .int .i64 (b : Int), .int .i64 (c : Int), .int .i64 im] 46) = W1 at V1 G1 I1 S1b ⊢
  generalize w1.heap.size = tb at I1 S1 S1b ⊢
  have BD0 := hid (show (W1.alloc (.cells #[.int .i64 0, .int .i64 0, .int .i64 0, .int .i64 0, .int .i64 0, .int .i64 0, .int .i64 0, .int .i64 0, .int .i64 0, .int .i64 0, .int .i64 0, .int .i64 0, .int .i64 0, .int .i64 0, .int .i64 0, .int .i64 0, .int .i64 0, .slice none 0 0] 30)).heap[W1.heap.size]? = some (.cells #[.int .i64 0, .int .i64 0, .int .i64 0, .int .i64 0, .int .i64 0, .int .i64 0, .int .i64 0, .int .i64 0, .int .i64 0, .int .i64 0, .int .i64 0, .int .i64 0, .int .i64 0, .int .i64 0, .int .i64 0, .int .i64 0, .int .i64 0, .slice none 0 0] 30 (0, 0)) from (MapKept.heap_alloc W1 _).1)
  have GA := hid (show Gr W1 (W1.alloc (.cells #[.int .i64 0, .int .i64 0, .int .i64 0, .int .i64 0, .int .i64 0, .int .i64 0, .int .i64 0, .int .i64 0, .int .i64 0, .int .i64 0, .int .i64 0, .int .i64 0, .int .i64 0, .int .i64 0, .int .i64 0, .int .i64 0, .int .i64 0, .slice none 0 0] 30)) from Ch.alloc (Gr.refl _) _)
  go_upto_region 6 with (first
    | (refine wpList_load_row rfl 30 (.tmp 4) rfl (w.heap.size + 1) rfl _ _ _ _ V1.out.c Tryd.underlying30 rfl (ctx_size' (HSZ.out _ _)) ?_)
    | (refine st_row rfl 30 (.tmp 10) (.tmp 31) rfl W1.heap.size _ rfl rfl _ _ BD0.out (ctx_size' (HSZ.out _ _)) (HSZ.out _ _).symm cC_one ?_; intro w2 b2 k2; have D2 := hid b2; have G2 := hid (show Gr W1 w2 from Ch.trans GA.out k2 (fun q e => .inr (by have e1 : q = W1.heap.size := e; omega))); have V2 := hid (V1.out.gr G2.out); have I2 := hid (gr_blk I1.out G2.out); have y17 := (cell_of V2.out.c 17).trans (cC_v HRR.out _ _); have l17 := lt_of_block V2.out.c; clear b2 k2)
    | (go_at_call 38; refine (HC.out _ (Gr.trans G1.out G2.out)).mono ?_; rintro e w3 ⟨v3, rfl, o3, g3⟩; obtain ⟨ao2, cap2, hv3⟩ := o3.form; generalize hq3 : ks.length = n2 at hv3; subst hv3; have HN2 := hid hq3; have D3 := hid (gr_blk D2.out g3); have V3 := hid (V2.out.gr g3); have I3 := hid (gr_blk I2.out g3); have G3 := hid (Gr.trans (Gr.trans G1.out G2.out) g3); have O3 := hid o3; have S3 := hid (show W1.heap.size < w2.heap.size from lt_of_block D2.out); have d17 := (cell_of D3.out 17).trans (cC_v HRR.out _ _); have e17 := frozen_of D3.out 17; have m17 := lt_of_block D3.out; clear o3 g3 hq3))
  generalize W1.heap.size = td at D2 D3 S1b S3 d17 e17 m17 BD0 ⊢
  have hb4 : (w3.setCell ⟨td, 17, none⟩ (.slice ao2 n2 cap2)).heap[td]? = some (.cells (cC pc r (.slice ao2 n2 cap2)) 30 (0, 0)) := by rw [← cC_setv HRR.out pc (.slice ao n cap)]; exact setCell_block D3.out 17 _
  have hc4 : Ch (Only td) w3 (w3.setCell ⟨td, 17, none⟩ (.slice ao2 n2 cap2)) := (Ch.refl _ _).own 17 _
  have V4 := hid (V3.out.off hc4 (by have := S1.out; have := S1b.out; omega))
  have I4 := hid ((hc4.block _ (lt_of_block I3.out) (fun q => by have q1 : tb = td := q; have := S1b.out; omega)).trans I3.out)
  have O4 := hid (O3.out.ch hc4 (fun q hq e => by have e1 : q = td := e; have := (O3.out.blk hq).1; have := S3.out; omega))
  have G4 := hid (show Gr w (w3.setCell ⟨td, 17, none⟩ (.slice ao2 n2 cap2)) from Ch.trans G3.out hc4 (fun q e => .inr (by have e1 : q = td := e; have := S1.out; have := S1b.out; omega)))
  have D4 := hid hb4
  have H2 := hid (show ∀ q, Blk (.slice ao2 n2 cap2) q → td < q from fun q e => by have := (O3.out.blk e).1; have := S3.out; omega)
  have T5 := hid (show w.heap.size + 5 ≤ tb ∧ tb < td from ⟨S1.out, S1b.out⟩)
  have O5 := hid (O4.out.lower (show w.heap.size + 5 ≤ _ from by have := S1.out; have := S1b.out; have := S3.out; omega))
  clear hb4 hc4 y17 l17 d17 e17 m17 D2 D3 BD0 GA V2 V3 I2 I3 G2 G3 O3 S3 O4 S1 S1b
  generalize w3.setCell ⟨td, 17, none⟩ (.slice ao2 n2 cap2) = W4 at V4 I4 G4 D4 O5 ⊢
  have d0 := (cell_of D4.out 0).trans (cC_pc _ _ _)
  have e0 := frozen_of D4.out 0
  have m0 := lt_of_block D4.out
  go_upto_region 7 with fail
  have hb6 : (W4.setCell ⟨td, 0, none⟩ (.int .i64 (pc + 1))).heap[td]? = some (.cells (cC (pc + 1) r (.slice ao2 n2 cap2)) 30 (0, 0)) := by rw [← cC_setpc pc]; exact setCell_block D4.out 0 _
  have hc6 : Ch (Only td) W4 (W4.setCell ⟨td, 0, none⟩ (.int .i64 (pc + 1))) := (Ch.refl _ _).own 0 _
  have V6 := hid (V4.out.off hc6 (by have := T5.out; omega))
  have I6 := hid ((hc6.block _ (lt_of_block I4.out) (fun q => by have q1 : tb = td := q; have := T5.out; omega)).trans I4.out)
  have O6 := hid (O5.out.ch hc6 (fun q hq e => by have e1 : q = td := e; have := H2.out q hq; omega))
  have G6 := hid (show Gr w (W4.setCell ⟨td, 0, none⟩ (.int .i64 (pc + 1))) from Ch.trans G4.out hc6 (fun q e => .inr (by have e1 : q = td := e; have := T5.out; omega)))
  have D6 := hid hb6
  clear hb6 hc6 d0 e0 m0
  generalize W4.setCell ⟨td, 0, none⟩ (.int .i64 (pc + 1)) = W6 at V6 I6 G6 D6 O6 ⊢
  have i0 := (cell_of I6.out 0).trans (rfl : _ = some (Value.int .i64 o1))
  have i1 := (cell_of I6.out 1).trans (rfl : _ = some (Value.int .i64 (a : Int)))
  have i2 := (cell_of I6.out 2).trans (rfl : _ = some (Value.int .i64 (b : Int)))
  have i3 := (cell_of I6.out 3).trans (rfl : _ = some (Value.int .i64 (c : Int)))
  have i4 := (cell_of I6.out 4).trans (rfl : _ = some (Value.int .i64 im))
  have il := lt_of_block I6.out
  have x1 := (cell_of V6.out.c (1 + a)).trans (cC_get HX.out)
  have x2 := (cell_of V6.out.c (1 + b)).trans (cC_get HY.out)
  have x3 := (cell_of V6.out.c (1 + c)).trans (cC_get HZ.out)
  have xl := lt_of_block V6.out.c
  go_quiet (fail)
  clear x1 x2 x3 xl i0 i1 i2 i3 i4 il
  have V7 := hid (show Vs (W6.drewN nq) w.heap.size #[.slice aoc nc cac, .slice aof nf caf, .slice aot nt cat] (cC pc r (.slice ao n cap)) #[.int .u64 ck, .int .i64 sl, .int .i64 gn] #[.int .i64 0, .int .i64 0, .int .i64 0, .int .i64 0, .int .i64 0, .int .i64 0, .int .i64 0, .int .i64 0, .int .i64 0, .int .i64 0, .int .i64 0, .int .i64 0, .int .i64 0, .int .i64 0, .int .i64 0, .int .i64 0, .int .i64 0, .slice none 0 0] #[.int .i64 0, .int .i64 0, .int .i64 0, .int .i64 0, .int .i64 0, .int .i64 0, .int .i64 0, .int .i64 0, .int .i64 0, .int .i64 0, .int .i64 0] from ⟨V6.out.p, V6.out.c, V6.out.e, V6.out.r, V6.out.t⟩)
  have I7 := hid (show (W6.drewN nq).heap[tb]? = some (.cells #[.int .i64 o1, .int .i64 (a : Int), .int .i64 (b : Int), .int .i64 (c : Int), .int .i64 im] 46 (0, 0)) from I6.out)
  have D7 := hid (show (W6.drewN nq).heap[td]? = some (.cells (cC (pc + 1) r (.slice ao2 n2 cap2)) 30 (0, 0)) from D6.out)
  have O7 := hid (show Ow eI 1 3 (w.heap.size + 5) (W6.drewN nq) (.slice ao2 n2 cap2) ks from O6.out)
  have G7 := hid (show Gr w (W6.drewN nq) from Ch.drewN G6.out nq)
  clear V6 I6 D6 O6 G6
  generalize W6.drewN nq = W7 at V7 I7 D7 O7 G7 ⊢
  have i0 := (cell_of I7.out 0).trans (rfl : _ = some (Value.int .i64 o1))
  have il := lt_of_block I7.out
  have HWK := hid (fun (W : World) => worked_no o1 y z HTW.out W)
  obtain ⟨n3, hn3⟩ : ∃ n3, n2 = n3 + 1 := ⟨m, by have q5 := HN2.out; have q6 := HKL.out; have q7 := HMM.out; omega⟩
  subst hn3
  have hm3 : m = n3 := by have q5 := HN2.out; have q6 := HKL.out; have q7 := HMM.out; omega
  subst hm3
  have h3 : m ≤ 17592186044416 := by have q7 := HMM.out; omega
  go_upto_region 48 with (go_at_call 39; refine (HWK.out _).mono ?_; rintro e w8 ⟨rfl, g8⟩; have V8 := hid (V7.out.gr g8); have I8 := hid (gr_blk I7.out g8); have D8 := hid (gr_blk D7.out g8); have O8 := hid (O7.out.gr g8); have G8 := hid (Gr.trans G7.out g8); have j0 := (cell_of I8.out 0).trans (rfl : _ = some (Value.int .i64 o1)); have jl := lt_of_block I8.out; have y17 := (cell_of D8.out 17).trans (cC_v HRR.out _ _); have l17 := lt_of_block D8.out; clear g8 i0 il)
  clear j0 jl y17 l17
  have y17 := (cell_of D8.out 17).trans (cC_v HRR.out _ _)
  have d0 := (cell_of D8.out 0).trans (cC_pc _ _ _)
  have z0 := frozen_of D8.out 0
  have l17 := lt_of_block D8.out
  obtain ⟨g, cap', hv, hg5, hgl, hcap, hcs, -, -⟩ := O8.out.get eI_len HKX.out
  injection hv with hv1 hv2 hv3
  subst hv1
  have f9 := hcs 0 _ rfl
  simp only [Nat.mul_one, Nat.add_zero] at f9
  have hcp : m + 1 ≤ cap2 := by have := O8.out.len.2; omega
  clear hcs hv2 hv3 hcap
  go_upto_region 49 with fail
  have hb9 : (w8.setCell ⟨td, 0, none⟩ (.int .i64 xr)).heap[td]? = some (.cells (cC xr r (.slice (some ⟨g, 0, none⟩) (m + 1) cap2)) 30 (0, 0)) := by rw [← cC_setpc (pc + 1)]; exact setCell_block D8.out 0 _
  have hc9 : Ch (Only td) w8 (w8.setCell ⟨td, 0, none⟩ (.int .i64 xr)) := (Ch.refl _ _).own 0 _
  have V9 := hid (V8.out.off hc9 (by have := T5.out; omega))
  have O9 := hid (O8.out.ch hc9 (fun q hq e => by have e1 : q = td := e; have := H2.out q hq; omega))
  have G9 := hid (show Gr w (w8.setCell ⟨td, 0, none⟩ (.int .i64 xr)) from Ch.trans G8.out hc9 (fun q e => .inr (by have e1 : q = td := e; have := T5.out; omega)))
  have D9 := hid hb9
  clear hb9 hc9 y17 d0 z0 l17 f9
  generalize w8.setCell ⟨td, 0, none⟩ (.int .i64 xr) = W9 at V9 O9 G9 D9 ⊢
  have y17 := (cell_of D9.out 17).trans (cC_v HRR.out _ _)
  have z17 := frozen_of D9.out 17
  have l17 := lt_of_block D9.out
  go_upto_region 60 with fail
  have hb10 : (W9.setCell ⟨td, 17, none⟩ (.slice (some ⟨g, 0, none⟩) m cap2)).heap[td]? = some (.cells (cC xr r (.slice (some ⟨g, 0, none⟩) m cap2)) 30 (0, 0)) := by rw [← cC_setv HRR.out xr (.slice (some ⟨g, 0, none⟩) (m + 1) cap2)]; exact setCell_block D9.out 17 _
  have hc10 : Ch (Only td) W9 (W9.setCell ⟨td, 17, none⟩ (.slice (some ⟨g, 0, none⟩) m cap2)) := (Ch.refl _ _).own 17 _
  have V10 := hid (V9.out.off hc10 (by have := T5.out; omega))
  have O10 := hid ((O9.out.ch hc10 (fun q hq e => by have e1 : q = td := e; have := H2.out q hq; omega)).take eI_len (show m ≤ m + 1 by omega))
  have G10 := hid (show Gr w (W9.setCell ⟨td, 17, none⟩ (.slice (some ⟨g, 0, none⟩) m cap2)) from Ch.trans G9.out hc10 (fun q e => .inr (by have e1 : q = td := e; have := T5.out; omega)))
  have D10 := hid hb10
  clear hb10 hc10 y17 z17 l17
  generalize W9.setCell ⟨td, 17, none⟩ (.slice (some ⟨g, 0, none⟩) m cap2) = W10 at V10 O10 G10 D10 ⊢
  go_wp2_with (first
    | (refine wpList_load_row rfl 30 (.tmp 10) rfl td rfl _ _ _ _ D10.out Tryd.underlying30 rfl (ctx_size' (HSZ.out _ _)) ?_)
    | (refine st_row rfl 30 (.tmp 6) (.tmp 248) rfl (w.heap.size + 3) _ rfl rfl _ _ V10.out.r (ctx_size' (HSZ.out _ _)) (HSZ.out _ _).symm cC_one ?_; intro w9 b9 k9; have R9 := hid b9; have K9 := hid k9; have T9 := hid ((k9.block _ (lt_of_block V10.out.t) (fun q => by have q1 : w.heap.size + 4 = w.heap.size + 3 := q; omega)).trans V10.out.t); clear b9 k9)
    | (refine st_row rfl 49 (.tmp 7) (.tmp 249) rfl (w.heap.size + 4) _ rfl rfl _ _ T9.out want_size rfl one11 ?_; intro w10 b10 k10; have T10 := hid b10; have K10 := hid k10; have R10 := hid ((k10.block _ (lt_of_block R9.out) (fun q => by have q1 : w.heap.size + 3 = w.heap.size + 4 := q; omega)).trans R9.out); clear b10 k10))
  refine bodyPost_ret (results_cell_cell rfl _ _ (w.heap.size + 3) (w.heap.size + 4) _ _ rfl (run_loadVar_row _ _ _ _ _ _ _ R10.out Tryd.underlying30 rfl (ctx_size' (HSZ.out _ _))) rfl (run_loadVar_row _ _ _ _ _ _ _ T10.out Tryd.underlying49 rfl want_size)) rfl ?_
  exact ⟨_, _, _, rfl, ((O10.out.ch K9.out (fun q hq e => by have e1 : q = w.heap.size + 3 := e; have := (O10.out.blk hq).1; omega)).ch K10.out (fun q hq e => by have e1 : q = w.heap.size + 4 := e; have := (O10.out.blk hq).1; omega)).lower (by omega), Ch.trans (Ch.trans G10.out K9.out (fun q e => .inr (by have e1 : q = w.heap.size + 3 := e; omega))) K10.out (fun q e => .inr (by have e1 : q = w.heap.size + 4 := e; omega))⟩
end Go.Proofs.YtcdlhfodeckleaaDoor.Lt

namespace Go.Proofs.YtcdlhfodeckleaaDoor.Lt
open Go.RowKit Wd

/-- the variables of the document's Step behind the switch -/
structure Sq (w : World) (tb td : Nat) (X I : Array Value) (ks : List Int) (ao : Option Addr) (n cap : Nat) (W : World) : Prop where
  g : Gr w W
  d : W.heap[td]? = some (.cells X 30 (0, 0))
  i : W.heap[tb]? = some (.cells I 46 (0, 0))
  r : ∃ old, W.heap[w.heap.size + 3]? = some (.cells old 30 (0, 0)) ∧ old.size = 18
  t : ∃ old, W.heap[w.heap.size + 4]? = some (.cells old 49 (0, 0)) ∧ old.size = 11
  o : Ow eI 1 3 (w.heap.size + 5) W (.slice ao n cap) ks
  z : w.heap.size + 5 ≤ tb
  y : w.heap.size + 1 = td ∨ w.heap.size + 5 ≤ td
section
variable {w : World} {tb td : Nat} {X I : Array Value} {ks : List Int} {ao : Option Addr} {n cap : Nat} {W W' : World}
theorem Sq.str (h : Sq w tb td X I ks ao n cap W) {c : Array Value} (k : Ch (Only (w.heap.size + 3)) W W') (hc : W'.heap[w.heap.size + 3]? = some (.cells c 30 (0, 0))) (hs : c.size = 18) : Sq w tb td X I ks ao n cap W' := by
  obtain ⟨o2, h3, h4⟩ := h.t
  have hz := h.z
  have hy := h.y
  have hn : ∀ q, q ≠ w.heap.size + 3 → ¬ Only (w.heap.size + 3) q := fun q a b => a b
  exact ⟨Ch.trans h.g k (fun q e => .inr (by have e1 : q = w.heap.size + 3 := e; omega)), (k.block _ (lt_of_block h.d) (hn _ (by omega))).trans h.d, (k.block _ (lt_of_block h.i) (hn _ (by omega))).trans h.i, ⟨c, hc, hs⟩, ⟨o2, (k.block _ (lt_of_block h3) (hn _ (by omega))).trans h3, h4⟩, h.o.ch k (fun q hq e => by have e1 : q = w.heap.size + 3 := e; have := (h.o.blk hq).1; omega), h.z, h.y⟩
theorem Sq.stt (h : Sq w tb td X I ks ao n cap W) {c : Array Value} (k : Ch (Only (w.heap.size + 4)) W W') (hc : W'.heap[w.heap.size + 4]? = some (.cells c 49 (0, 0))) (hs : c.size = 11) : Sq w tb td X I ks ao n cap W' := by
  obtain ⟨o2, h3, h4⟩ := h.r
  have hz := h.z
  have hy := h.y
  have hn : ∀ q, q ≠ w.heap.size + 4 → ¬ Only (w.heap.size + 4) q := fun q a b => a b
  exact ⟨Ch.trans h.g k (fun q e => .inr (by have e1 : q = w.heap.size + 4 := e; omega)), (k.block _ (lt_of_block h.d) (hn _ (by omega))).trans h.d, (k.block _ (lt_of_block h.i) (hn _ (by omega))).trans h.i, ⟨o2, (k.block _ (lt_of_block h3) (hn _ (by omega))).trans h3, h4⟩, ⟨c, hc, hs⟩, h.o.ch k (fun q hq e => by have e1 : q = w.heap.size + 4 := e; have := (h.o.blk hq).1; omega), h.z, h.y⟩
end
set_option maxHeartbeats 2000000 in
set_option maxRecDepth 20000 in
theorem rstep_asks (P : Nat → Prop) (w : World) (aoc aof aot : Option Addr) (nc nf nt cac caf cat : Nat) (cs : List Int) (h : Ls eU P w (.slice aoc nc cac) cs) (hu : U32s cs) (hcl : nc ≤ 35184372088832) (pc : Int) (r : List Int) (hr : r.length = 16) (ao : Option Addr) (n cap : Nat) (ks : List Int) (hk : Ls eI P w (.slice ao n cap) ks) (hn : n ≤ 17592186044416) (ck sl gn : Int)
    (o1 im : Int) (a b c : Nat) (la : a < 16) (lb : b < 16) (lc : c < 16) (x y z : Int) (hx : r[a]? = some x) (hy : r[b]? = some y) (hz : r[c]? = some z) (hI : nI cs pc = (o1, (a : Int), (b : Int), (c : Int), im)) (hB : nB cs pc = true) (ho : o1 = 22 ∨ (27 ≤ o1 ∧ o1 ≤ 57)) :
    Calls Tryd.prog 17 #[.agg #[.slice aoc nc cac, .slice aof nf caf, .slice aot nt cat], .agg (cC pc r (.slice ao n cap)), .agg #[.int .u64 ck, .int .i64 sl, .int .i64 gn]] w (StR w (pc + 1) r ks (wt o1 o1 (a : Int) (b : Int) (c : Int) im x y z 0 0)) := by
  have hlen := h.len.1
  have hpc : 0 ≤ pc ∧ pc < (nc : Int) := by
    unfold nB at hB
    split at hB
    · rename_i q; rw [hlen]; exact q
    · cases hB
  have HN := hid (fun (W : World) (p : Gr w W) => rnext9_any P W aoc aof aot nc nf nt cac caf cat cs (h.gr p) hu pc r hr ao n cap)
  rw [hI, hB] at HN
  unfold iV at HN
  simp only at HN
  have HC := hid (fun (W : World) (p : Gr w W) => rcalls9_any P W ao n cap ks (hk.gr p) hn)
  have V0 := hid (vs_new w #[.slice aoc nc cac, .slice aof nf caf, .slice aot nt cat] (cC pc r (.slice ao n cap)) #[.int .u64 ck, .int .i64 sl, .int .i64 gn] #[.int .i64 0, .int .i64 0, .int .i64 0, .int .i64 0, .int .i64 0, .int .i64 0, .int .i64 0, .int .i64 0, .int .i64 0, .int .i64 0, .int .i64 0, .int .i64 0, .int .i64 0, .int .i64 0, .int .i64 0, .int .i64 0, .int .i64 0, .slice none 0 0] #[.int .i64 0, .int .i64 0, .int .i64 0, .int .i64 0, .int .i64 0, .int .i64 0, .int .i64 0, .int .i64 0, .int .i64 0, .int .i64 0, .int .i64 0])
  have K0 := hid (show Gr w (((((w.alloc (.cells #[.slice aoc nc cac, .slice aof nf caf, .slice aot nt cat] 26)).alloc (.cells (cC pc r (.slice ao n cap)) 30)).alloc (.cells #[.int .u64 ck, .int .i64 sl, .int .i64 gn] 44)).alloc (.cells #[.int .i64 0, .int .i64 0, .int .i64 0, .int .i64 0, .int .i64 0, .int .i64 0, .int .i64 0, .int .i64 0, .int .i64 0, .int .i64 0, .int .i64 0, .int .i64 0, .int .i64 0, .int .i64 0, .int .i64 0, .int .i64 0, .int .i64 0, .slice none 0 0] 30)).alloc (.cells #[.int .i64 0, .int .i64 0, .int .i64 0, .int .i64 0, .int .i64 0, .int .i64 0, .int .i64 0, .int .i64 0, .int .i64 0, .int .i64 0, .int .i64 0] 49)) from Ch.alloc (Ch.alloc (Ch.alloc (Ch.alloc (Ch.alloc (Gr.refl w) _) _) _) _) _)
  have HSZ := hid (fun (pc : Int) (v : Value) => cC_size (pc := pc) (v := v) hr)
  have HX := hid hx
  have HY := hid hy
  have HZ := hid hz
  have a0 : (0 : Int) ≤ (a : Int) := by omega
  have a1 : (a : Int) < 16 := by omega
  have b0 : (0 : Int) ≤ (b : Int) := by omega
  have b1 : (b : Int) < 16 := by omega
  have c0 : (0 : Int) ≤ (c : Int) := by omega
  have c1 : (c : Int) < 16 := by omega
  have HKL := hid hk.len.1
  have HRR := hid hr
  have HO1 := hid ho
  have HTW := hid (show ¬ Two o1 from by unfold Two; omega)
  clear ho
  have e1 : (o1 == 1) = false := by have := HO1.out; simp; omega
  have e2 : (o1 == 2) = false := by have := HO1.out; simp; omega
  have e3 : (o1 == 3) = false := by have := HO1.out; simp; omega
  have e4 : (o1 == 4) = false := by have := HO1.out; simp; omega
  have e8 : (o1 == 8) = false := by have := HO1.out; simp; omega
  have e9 : (o1 == 9) = false := by have := HO1.out; simp; omega
  have e17 : (o1 == 17) = false := by have := HO1.out; simp; omega
  have e18 : (o1 == 18) = false := by have := HO1.out; simp; omega
  have e19 : (o1 == 19) = false := by have := HO1.out; simp; omega
  have e20 : (o1 == 20) = false := by have := HO1.out; simp; omega
  have e21 : (o1 == 21) = false := by have := HO1.out; simp; omega
  have e25 : (o1 == 25) = false := by have := HO1.out; simp; omega
  have e26 : (o1 == 26) = false := by have := HO1.out; simp; omega
  have e58 : (o1 == 58) = false := by have := HO1.out; simp; omega
  have e24 : (o1 == 24) = false := by have := HO1.out; simp; omega
  have e23 : (o1 == 23) = false := by have := HO1.out; simp; omega
  obtain ⟨q0, q1⟩ := hpc
  have q2 : pc ≤ 35184372088832 := by omega
  clear h hu hI hB hlen hr hx hy hz hk
  go_enter Tryd.func17, Tryd.ntmps17
  go_upto_region 4 with (first
    | (refine wpList_load_row rfl 30 (.tmp 4) rfl (w.heap.size + 1) rfl _ _ _ _ V0.out.c Tryd.underlying30 rfl (ctx_size' (HSZ.out _ _)) ?_)
    | (go_at_call 26; refine (HN.out _ K0.out).mono ?_; rintro e w1 ⟨rfl, g1⟩; have V1 := hid (V0.out.gr (Ch.alloc g1 (.cells #[.int .i64 o1, .int .i64 (a : Int), .int .i64 (b : Int), .int .i64 (c : Int), .int .i64 im] 46))); have G1 := hid (show Gr w (w1.alloc (.cells #[.int .i64 o1, .int .i64 (a : Int), .int .i64 (b : Int), .int .i64 (c : Int), .int .i64 im] 46)) from Ch.alloc (Gr.trans K0.out g1) _); have I1 := hid (MapKept.heap_alloc w1 (.cells #[.int .i64 o1, .int .i64 (a : Int), .int .i64 (b : Int), .int .i64 (c : Int), .int .i64 im] 46)).1; have S1 := hid (show w.heap.size + 5 ≤ w1.heap.size from Nat.lt_of_lt_of_le (lt_of_block V0.out.t) g1.size); have S1b := hid (show w1.heap.size < (w1.alloc (.cells #[.int .i64 o1, .int .i64 (a : Int), .int .i64 (b : Int), .int .i64 (c : Int), .int .i64 im] 46)).heap.size from (by simp)); clear g1))
  generalize w1.alloc (.cells #[.int .i64 o1, .int .i64 (a : Int), .int .i64 (b : Int), .int .i64 (c : Int), .int .i64 im] 46) = W1 at V1 G1 I1 S1b ⊢
  generalize w1.heap.size = tb at I1 S1 S1b ⊢
  have BD0 := hid (show (W1.alloc (.cells #[.int .i64 0, .int .i64 0, .int .i64 0, .int .i64 0, .int .i64 0, .int .i64 0, .int .i64 0, .int .i64 0, .int .i64 0, .int .i64 0, .int .i64 0, .int .i64 0, .int .i64 0, .int .i64 0, .int .i64 0, .int .i64 0, .int .i64 0, .slice none 0 0] 30)).heap[W1.heap.size]? = some (.cells #[.int .i64 0, .int .i64 0, .int .i64 0, .int .i64 0, .int .i64 0, .int .i64 0, .int .i64 0, .int .i64 0, .int .i64 0, .int .i64 0, .int .i64 0, .int .i64 0, .int .i64 0, .int .i64 0, .int .i64 0, .int .i64 0, .int .i64 0, .slice none 0 0] 30 (0, 0)) from (MapKept.heap_alloc W1 _).1)
  have GA := hid (show Gr W1 (W1.alloc (.cells #[.int .i64 0, .int .i64 0, .int .i64 0, .int .i64 0, .int .i64 0, .int .i64 0, .int .i64 0, .int .i64 0, .int .i64 0, .int .i64 0, .int .i64 0, .int .i64 0, .int .i64 0, .int .i64 0, .int .i64 0, .int .i64 0, .int .i64 0, .slice none 0 0] 30)) from Ch.alloc (Gr.refl _) _)
  go_upto_region 6 with (first
    | (refine wpList_load_row rfl 30 (.tmp 4) rfl (w.heap.size + 1) rfl _ _ _ _ V1.out.c Tryd.underlying30 rfl (ctx_size' (HSZ.out _ _)) ?_)
    | (refine st_row rfl 30 (.tmp 10) (.tmp 31) rfl W1.heap.size _ rfl rfl _ _ BD0.out (ctx_size' (HSZ.out _ _)) (HSZ.out _ _).symm cC_one ?_; intro w2 b2 k2; have D2 := hid b2; have G2 := hid (show Gr W1 w2 from Ch.trans GA.out k2 (fun q e => .inr (by have e1 : q = W1.heap.size := e; omega))); have V2 := hid (V1.out.gr G2.out); have I2 := hid (gr_blk I1.out G2.out); have y17 := (cell_of V2.out.c 17).trans (cC_v HRR.out _ _); have l17 := lt_of_block V2.out.c; clear b2 k2)
    | (go_at_call 38; refine (HC.out _ (Gr.trans G1.out G2.out)).mono ?_; rintro e w3 ⟨v3, rfl, o3, g3⟩; obtain ⟨ao2, cap2, hv3⟩ := o3.form; generalize hq3 : ks.length = n2 at hv3; subst hv3; have HN2 := hid hq3; have D3 := hid (gr_blk D2.out g3); have V3 := hid (V2.out.gr g3); have I3 := hid (gr_blk I2.out g3); have G3 := hid (Gr.trans (Gr.trans G1.out G2.out) g3); have O3 := hid o3; have S3 := hid (show W1.heap.size < w2.heap.size from lt_of_block D2.out); have d17 := (cell_of D3.out 17).trans (cC_v HRR.out _ _); have e17 := frozen_of D3.out 17; have m17 := lt_of_block D3.out; clear o3 g3 hq3))
  generalize W1.heap.size = td at D2 D3 S1b S3 d17 e17 m17 BD0 ⊢
  have hb4 : (w3.setCell ⟨td, 17, none⟩ (.slice ao2 n2 cap2)).heap[td]? = some (.cells (cC pc r (.slice ao2 n2 cap2)) 30 (0, 0)) := by rw [← cC_setv HRR.out pc (.slice ao n cap)]; exact setCell_block D3.out 17 _
  have hc4 : Ch (Only td) w3 (w3.setCell ⟨td, 17, none⟩ (.slice ao2 n2 cap2)) := (Ch.refl _ _).own 17 _
  have V4 := hid (V3.out.off hc4 (by have := S1.out; have := S1b.out; omega))
  have I4 := hid ((hc4.block _ (lt_of_block I3.out) (fun q => by have q1 : tb = td := q; have := S1b.out; omega)).trans I3.out)
  have O4 := hid (O3.out.ch hc4 (fun q hq e => by have e1 : q = td := e; have := (O3.out.blk hq).1; have := S3.out; omega))
  have G4 := hid (show Gr w (w3.setCell ⟨td, 17, none⟩ (.slice ao2 n2 cap2)) from Ch.trans G3.out hc4 (fun q e => .inr (by have e1 : q = td := e; have := S1.out; have := S1b.out; omega)))
  have D4 := hid hb4
  have H2 := hid (show ∀ q, Blk (.slice ao2 n2 cap2) q → td < q from fun q e => by have := (O3.out.blk e).1; have := S3.out; omega)
  have T5 := hid (show w.heap.size + 5 ≤ tb ∧ tb < td from ⟨S1.out, S1b.out⟩)
  have O5 := hid (O4.out.lower (show w.heap.size + 5 ≤ _ from by have := S1.out; have := S1b.out; have := S3.out; omega))
  clear hb4 hc4 y17 l17 d17 e17 m17 D2 D3 BD0 GA V2 V3 I2 I3 G2 G3 O3 S3 O4 S1 S1b
  generalize w3.setCell ⟨td, 17, none⟩ (.slice ao2 n2 cap2) = W4 at V4 I4 G4 D4 O5 ⊢
  have d0 := (cell_of D4.out 0).trans (cC_pc _ _ _)
  have e0 := frozen_of D4.out 0
  have m0 := lt_of_block D4.out
  go_upto_region 7 with fail
  have hb6 : (W4.setCell ⟨td, 0, none⟩ (.int .i64 (pc + 1))).heap[td]? = some (.cells (cC (pc + 1) r (.slice ao2 n2 cap2)) 30 (0, 0)) := by rw [← cC_setpc pc]; exact setCell_block D4.out 0 _
  have hc6 : Ch (Only td) W4 (W4.setCell ⟨td, 0, none⟩ (.int .i64 (pc + 1))) := (Ch.refl _ _).own 0 _
  have V6 := hid (V4.out.off hc6 (by have := T5.out; omega))
  have I6 := hid ((hc6.block _ (lt_of_block I4.out) (fun q => by have q1 : tb = td := q; have := T5.out; omega)).trans I4.out)
  have O6 := hid (O5.out.ch hc6 (fun q hq e => by have e1 : q = td := e; have := H2.out q hq; omega))
  have G6 := hid (show Gr w (W4.setCell ⟨td, 0, none⟩ (.int .i64 (pc + 1))) from Ch.trans G4.out hc6 (fun q e => .inr (by have e1 : q = td := e; have := T5.out; omega)))
  have D6 := hid hb6
  clear hb6 hc6 d0 e0 m0
  generalize W4.setCell ⟨td, 0, none⟩ (.int .i64 (pc + 1)) = W6 at V6 I6 G6 D6 O6 ⊢
  have i0 := (cell_of I6.out 0).trans (rfl : _ = some (Value.int .i64 o1))
  have i1 := (cell_of I6.out 1).trans (rfl : _ = some (Value.int .i64 (a : Int)))
  have i2 := (cell_of I6.out 2).trans (rfl : _ = some (Value.int .i64 (b : Int)))
  have i3 := (cell_of I6.out 3).trans (rfl : _ = some (Value.int .i64 (c : Int)))
  have i4 := (cell_of I6.out 4).trans (rfl : _ = some (Value.int .i64 im))
  have il := lt_of_block I6.out
  have x1 := (cell_of V6.out.c (1 + a)).trans (cC_get HX.out)
  have x2 := (cell_of V6.out.c (1 + b)).trans (cC_get HY.out)
  have x3 := (cell_of V6.out.c (1 + c)).trans (cC_get HZ.out)
  have xl := lt_of_block V6.out.c
  go_quiet (fail)
  clear x1 x2 x3 xl i0 i1 i2 i3 i4 il
  have V7 := hid (show Vs (W6.drewN nq) w.heap.size #[.slice aoc nc cac, .slice aof nf caf, .slice aot nt cat] (cC pc r (.slice ao n cap)) #[.int .u64 ck, .int .i64 sl, .int .i64 gn] #[.int .i64 0, .int .i64 0, .int .i64 0, .int .i64 0, .int .i64 0, .int .i64 0, .int .i64 0, .int .i64 0, .int .i64 0, .int .i64 0, .int .i64 0, .int .i64 0, .int .i64 0, .int .i64 0, .int .i64 0, .int .i64 0, .int .i64 0, .slice none 0 0] #[.int .i64 0, .int .i64 0, .int .i64 0, .int .i64 0, .int .i64 0, .int .i64 0, .int .i64 0, .int .i64 0, .int .i64 0, .int .i64 0, .int .i64 0] from ⟨V6.out.p, V6.out.c, V6.out.e, V6.out.r, V6.out.t⟩)
  have I7 := hid (show (W6.drewN nq).heap[tb]? = some (.cells #[.int .i64 o1, .int .i64 (a : Int), .int .i64 (b : Int), .int .i64 (c : Int), .int .i64 im] 46 (0, 0)) from I6.out)
  have D7 := hid (show (W6.drewN nq).heap[td]? = some (.cells (cC (pc + 1) r (.slice ao2 n2 cap2)) 30 (0, 0)) from D6.out)
  have O7 := hid (show Ow eI 1 3 (w.heap.size + 5) (W6.drewN nq) (.slice ao2 n2 cap2) ks from O6.out)
  have G7 := hid (show Gr w (W6.drewN nq) from Ch.drewN G6.out nq)
  clear V6 I6 D6 O6 G6
  generalize W6.drewN nq = W7 at V7 I7 D7 O7 G7 ⊢
  have i0 := (cell_of I7.out 0).trans (rfl : _ = some (Value.int .i64 o1))
  have il := lt_of_block I7.out
  have HWK := hid (fun (W : World) => worked_no o1 y z HTW.out W)
  go_upto_region 13 with (go_at_call 39; refine (HWK.out _).mono ?_; rintro e w8 ⟨rfl, g8⟩; have V8 := hid (V7.out.gr g8); have I8 := hid (gr_blk I7.out g8); have D8 := hid (gr_blk D7.out g8); have O8 := hid (O7.out.gr g8); have G8 := hid (Gr.trans G7.out g8); have j0 := (cell_of I8.out 0).trans (rfl : _ = some (Value.int .i64 o1)); have jl := lt_of_block I8.out; clear g8 i0 il)
  clear j0 jl
  have hS0 : Sq w tb td (cC (pc + 1) r (.slice ao2 n2 cap2)) #[.int .i64 o1, .int .i64 (a : Int), .int .i64 (b : Int), .int .i64 (c : Int), .int .i64 im] ks ao2 n2 cap2 w8.drew := ⟨Ch.drew G8.out, D8.out, I8.out, ⟨_, V8.out.r, rfl⟩, ⟨_, V8.out.t, rfl⟩, O8.out, T5.out.1, .inr (by have := T5.out; omega)⟩
  refine wp_region_held_drew (S := Sq w tb td (cC (pc + 1) r (.slice ao2 n2 cap2)) #[.int .i64 o1, .int .i64 (a : Int), .int .i64 (b : Int), .int .i64 (c : Int), .int .i64 im] ks ao2 n2 cap2) (by kernel_rfl) (by exact hS0) (fun _ => ?_)
  refine takeS_on (i := 0) 73 (v := ?v1) rfl rfl (by kernel_rfl) (by kernel_rfl) (by kernel_rfl) (fun _ _ _ h => h) (by kernel_rfl) ?hy1 (by exact hS0) ?_
  case hy1 => (intro w' hSw; refine Eq.trans (exec_row 30 (.tmp 10) rfl _ rfl _ _ _ _ hSw.d Tryd.underlying30 rfl (ctx_size' (HSZ.out _ _))) ?_; with_reducible rfl)
  simp only [Act.put, List.setIfInBounds_toArray, List.set_cons_zero, List.set_cons_succ]
  refine takeS_on (i := 1) 74 (v := ?v2) rfl rfl (by kernel_rfl) (by kernel_rfl) (by kernel_rfl) (fun _ _ _ h => h) (by kernel_rfl) ?hy2 (by exact hS0) ?_
  case hy2 => (intro w' hSw; go_simp; try (with_reducible rfl))
  simp only [Act.put, List.setIfInBounds_toArray, List.set_cons_zero, List.set_cons_succ]
  refine takeS_on (i := 2) 75 (v := ?v3) rfl rfl (by kernel_rfl) (by kernel_rfl) (by kernel_rfl) (fun _ _ _ h => h) (by kernel_rfl) ?hy3 (by exact hS0) ?_
  case hy3 => (intro w' hSw; have z9 := (cell_of hSw.i 0).trans (rfl : _ = some (Value.int .i64 o1)); go_simp; try (with_reducible rfl))
  simp only [Act.put, List.setIfInBounds_toArray, List.set_cons_zero, List.set_cons_succ]
  refine takeS_on (i := 3) 76 (v := ?v4) rfl rfl (by kernel_rfl) (by kernel_rfl) (by kernel_rfl) (fun _ _ _ h => h) (by kernel_rfl) ?hy4 (by exact hS0) ?_
  case hy4 => (intro w' hSw; refine Eq.trans (exec_row 46 (.tmp 8) rfl _ rfl _ _ _ _ hSw.i Tryd.underlying46 rfl ins_size) ?_; with_reducible rfl)
  simp only [Act.put, List.setIfInBounds_toArray, List.set_cons_zero, List.set_cons_succ]
  refine takeS_on (i := 4) 77 (v := ?v5) rfl rfl (by kernel_rfl) (by kernel_rfl) (by kernel_rfl) (fun _ _ _ h => h) (by kernel_rfl) ?hy5 (by exact hS0) ?_
  case hy5 => (intro w' hSw; go_simp; try (with_reducible rfl))
  simp only [Act.put, List.setIfInBounds_toArray, List.set_cons_zero, List.set_cons_succ]
  refine takeS_on (i := 5) 78 (v := ?v6) rfl rfl (by kernel_rfl) (by kernel_rfl) (by kernel_rfl) (fun _ _ _ h => h) (by kernel_rfl) ?hy6 (by exact hS0) ?_
  case hy6 => (intro w' hSw; go_simp; try (with_reducible rfl))
  simp only [Act.put, List.setIfInBounds_toArray, List.set_cons_zero, List.set_cons_succ]
  refine takeS_on (i := 6) 79 (v := ?v7) rfl rfl (by kernel_rfl) (by kernel_rfl) (by kernel_rfl) (fun _ _ _ h => h) (by kernel_rfl) ?hy7 (by exact hS0) ?_
  case hy7 => (intro w' hSw; go_simp; try (with_reducible rfl))
  simp only [Act.put, List.setIfInBounds_toArray, List.set_cons_zero, List.set_cons_succ]
  refine takeS_on (i := 7) 80 (v := .agg (wt o1 o1 (a : Int) (b : Int) (c : Int) im x y z 0 0)) rfl rfl (by kernel_rfl) (by kernel_rfl) (by kernel_rfl) (fun _ _ _ h => h) (by kernel_rfl) ?hy8 (by exact hS0) ?_
  case hy8 => (intro w' hSw; go_simp; try rfl)
  simp only [Act.put, List.setIfInBounds_toArray, List.set_cons_zero, List.set_cons_succ]
  refine wpAnyH_ready (rs := [8]) (by kernel_rfl) (by simp) (AllReadyH.cons rfl (fun K hK => ?_) AllReadyH.nil)
  rw [if_pos (by kernel_rfl)]
  obtain ⟨old, ht, hsz⟩ := hS0.r
  refine wp_store_row 30 (.tmp 6) (.tmp 73) rfl (w.heap.size + 3) (cC (pc + 1) r (.slice ao2 n2 cap2)) rfl rfl _ _ ht (ctx_size' (HSZ.out _ _)) (hsz.trans (HSZ.out _ _).symm) cC_one ?_
  have b3 := setRow_blk (c := (cC (pc + 1) r (.slice ao2 n2 cap2))) ht
  have hS1 := hS0.str (setRow_ch _ (w.heap.size + 3) (cC (pc + 1) r (.slice ao2 n2 cap2))) b3 (HSZ.out _ _)
  have R3 := hid b3
  clear ht hsz b3
  refine hK.out _ _ (by exact hS1) (fun _ => ?_)
  clear hK K
  refine wpAnyH_ready (rs := [9]) (by kernel_rfl) (by simp) (AllReadyH.cons rfl (fun K hK => ?_) AllReadyH.nil)
  rw [if_pos (by kernel_rfl)]
  obtain ⟨old, ht, hsz⟩ := hS1.t
  refine wp_store_row 49 (.tmp 7) (.tmp 80) rfl (w.heap.size + 4) (wt o1 o1 (a : Int) (b : Int) (c : Int) im x y z 0 0) rfl rfl _ _ ht want_size hsz (wt_one _ _ _ _ _ _ _ _ _ _ _) ?_
  have b4 := setRow_blk (c := (wt o1 o1 (a : Int) (b : Int) (c : Int) im x y z 0 0)) ht
  have hS2 := hS1.stt (setRow_ch _ (w.heap.size + 4) (wt o1 o1 (a : Int) (b : Int) (c : Int) im x y z 0 0)) b4 rfl
  have R4 := hid (((setRow_ch _ (w.heap.size + 4) (wt o1 o1 (a : Int) (b : Int) (c : Int) im x y z 0 0)).block _ (lt_of_block R3.out) (fun q => by have q1 : w.heap.size + 3 = w.heap.size + 4 := q; omega)).trans R3.out)
  have T4 := hid b4
  clear ht hsz b4
  refine hK.out _ _ (by exact hS2) (fun _ => ?_)
  clear hK K
  refine wpAnyH_done (by kernel_rfl) ?_ _
  go_wp2_with fail
  refine bodyPost_ret (results_cell_cell rfl _ _ (w.heap.size + 3) (w.heap.size + 4) _ _ rfl (run_loadVar_row _ _ _ _ _ _ _ R4.out Tryd.underlying30 rfl (ctx_size' (HSZ.out _ _))) rfl (run_loadVar_row _ _ _ _ _ _ _ T4.out Tryd.underlying49 rfl want_size)) rfl ?_
  exact ⟨_, _, _, rfl, hS2.o.lower (by omega), hS2.g⟩

end Go.Proofs.YtcdlhfodeckleaaDoor.Lt

namespace Go.Proofs.YtcdlhfodeckleaaDoor.Lt
open Go.RowKit Wd

set_option maxHeartbeats 2000000 in
set_option maxRecDepth 20000 in
theorem rstep_trap58 (P : Nat → Prop) (w : World) (aoc aof aot : Option Addr) (nc nf nt cac caf cat : Nat) (cs : List Int) (h : Ls eU P w (.slice aoc nc cac) cs) (hu : U32s cs) (hcl : nc ≤ 35184372088832) (pc : Int) (r : List Int) (hr : r.length = 16) (ao : Option Addr) (n cap : Nat) (ks : List Int) (hk : Ls eI P w (.slice ao n cap) ks) (hn : n ≤ 17592186044416) (ck sl gn : Int)
    (o1 im : Int) (a b c : Nat) (la : a < 16) (lb : b < 16) (lc : c < 16) (x y z : Int) (hx : r[a]? = some x) (hy : r[b]? = some y) (hz : r[c]? = some z) (hI : nI cs pc = (o1, (a : Int), (b : Int), (c : Int), im)) (hB : nB cs pc = true) (ho : o1 = 58) :
    Calls Tryd.prog 17 #[.agg #[.slice aoc nc cac, .slice aof nf caf, .slice aot nt cat], .agg (cC pc r (.slice ao n cap)), .agg #[.int .u64 ck, .int .i64 sl, .int .i64 gn]] w (StR w pc r ks (wt 58 0 0 0 0 0 0 0 0 16 im)) := by
  have hlen := h.len.1
  have hpc : 0 ≤ pc ∧ pc < (nc : Int) := by
    unfold nB at hB
    split at hB
    · rename_i q; rw [hlen]; exact q
    · cases hB
  have HN := hid (fun (W : World) (p : Gr w W) => rnext9_any P W aoc aof aot nc nf nt cac caf cat cs (h.gr p) hu pc r hr ao n cap)
  rw [hI, hB] at HN
  unfold iV at HN
  simp only at HN
  have HC := hid (fun (W : World) (p : Gr w W) => rcalls9_any P W ao n cap ks (hk.gr p) hn)
  have V0 := hid (vs_new w #[.slice aoc nc cac, .slice aof nf caf, .slice aot nt cat] (cC pc r (.slice ao n cap)) #[.int .u64 ck, .int .i64 sl, .int .i64 gn] #[.int .i64 0, .int .i64 0, .int .i64 0, .int .i64 0, .int .i64 0, .int .i64 0, .int .i64 0, .int .i64 0, .int .i64 0, .int .i64 0, .int .i64 0, .int .i64 0, .int .i64 0, .int .i64 0, .int .i64 0, .int .i64 0, .int .i64 0, .slice none 0 0] #[.int .i64 0, .int .i64 0, .int .i64 0, .int .i64 0, .int .i64 0, .int .i64 0, .int .i64 0, .int .i64 0, .int .i64 0, .int .i64 0, .int .i64 0])
  have K0 := hid (show Gr w (((((w.alloc (.cells #[.slice aoc nc cac, .slice aof nf caf, .slice aot nt cat] 26)).alloc (.cells (cC pc r (.slice ao n cap)) 30)).alloc (.cells #[.int .u64 ck, .int .i64 sl, .int .i64 gn] 44)).alloc (.cells #[.int .i64 0, .int .i64 0, .int .i64 0, .int .i64 0, .int .i64 0, .int .i64 0, .int .i64 0, .int .i64 0, .int .i64 0, .int .i64 0, .int .i64 0, .int .i64 0, .int .i64 0, .int .i64 0, .int .i64 0, .int .i64 0, .int .i64 0, .slice none 0 0] 30)).alloc (.cells #[.int .i64 0, .int .i64 0, .int .i64 0, .int .i64 0, .int .i64 0, .int .i64 0, .int .i64 0, .int .i64 0, .int .i64 0, .int .i64 0, .int .i64 0] 49)) from Ch.alloc (Ch.alloc (Ch.alloc (Ch.alloc (Ch.alloc (Gr.refl w) _) _) _) _) _)
  have HSZ := hid (fun (pc : Int) (v : Value) => cC_size (pc := pc) (v := v) hr)
  have HX := hid hx
  have HY := hid hy
  have HZ := hid hz
  have a0 : (0 : Int) ≤ (a : Int) := by omega
  have a1 : (a : Int) < 16 := by omega
  have b0 : (0 : Int) ≤ (b : Int) := by omega
  have b1 : (b : Int) < 16 := by omega
  have c0 : (0 : Int) ≤ (c : Int) := by omega
  have c1 : (c : Int) < 16 := by omega
  have HKL := hid hk.len.1
  have HRR := hid hr
  have HO1 := hid ho
  have HTW := hid (show ¬ Two o1 from by unfold Two; omega)
  clear ho
  have e1 : (o1 == 1) = false := by rw [HO1.out]; rfl
  have e2 : (o1 == 2) = false := by rw [HO1.out]; rfl
  have e3 : (o1 == 3) = false := by rw [HO1.out]; rfl
  have e4 : (o1 == 4) = false := by rw [HO1.out]; rfl
  have e8 : (o1 == 8) = false := by rw [HO1.out]; rfl
  have e9 : (o1 == 9) = false := by rw [HO1.out]; rfl
  have e17 : (o1 == 17) = false := by rw [HO1.out]; rfl
  have e18 : (o1 == 18) = false := by rw [HO1.out]; rfl
  have e19 : (o1 == 19) = false := by rw [HO1.out]; rfl
  have e20 : (o1 == 20) = false := by rw [HO1.out]; rfl
  have e21 : (o1 == 21) = false := by rw [HO1.out]; rfl
  have e25 : (o1 == 25) = false := by rw [HO1.out]; rfl
  have e26 : (o1 == 26) = false := by rw [HO1.out]; rfl
  have e58 : (o1 == 58) = true := by rw [HO1.out]; rfl
  obtain ⟨q0, q1⟩ := hpc
  have q2 : pc ≤ 35184372088832 := by omega
  clear h hu hI hB hlen hr hx hy hz hk
  go_enter Tryd.func17, Tryd.ntmps17
  go_upto_region 4 with (first
    | (refine wpList_load_row rfl 30 (.tmp 4) rfl (w.heap.size + 1) rfl _ _ _ _ V0.out.c Tryd.underlying30 rfl (ctx_size' (HSZ.out _ _)) ?_)
    | (go_at_call 26; refine (HN.out _ K0.out).mono ?_; rintro e w1 ⟨rfl, g1⟩; have V1 := hid (V0.out.gr (Ch.alloc g1 (.cells #[.int .i64 o1, .int .i64 (a : Int), .int .i64 (b : Int), .int .i64 (c : Int), .int .i64 im] 46))); have G1 := hid (show Gr w (w1.alloc (.cells #[.int .i64 o1, .int .i64 (a : Int), .int .i64 (b : Int), .int .i64 (c : Int), .int .i64 im] 46)) from Ch.alloc (Gr.trans K0.out g1) _); have I1 := hid (MapKept.heap_alloc w1 (.cells #[.int .i64 o1, .int .i64 (a : Int), .int .i64 (b : Int), .int .i64 (c : Int), .int .i64 im] 46)).1; have S1 := hid (show w.heap.size + 5 ≤ w1.heap.size from Nat.lt_of_lt_of_le (lt_of_block V0.out.t) g1.size); have S1b := hid (show w1.heap.size < (w1.alloc (.cells #[.int .i64 o1, .int .i64 (a : Int), .int .i64 (b : Int), .int .i64 (c : Int), .int .i64 im] 46)).heap.size from (by simp)); clear g1))
  generalize w1.alloc (.cells #[.int .i64 o1, .int .i64 (a : Int), .int .i64 (b : Int), .int .i64 (c : Int), .int .i64 im] 46) = W1 at V1 G1 I1 S1b ⊢
  generalize w1.heap.size = tb at I1 S1 S1b ⊢
  have BD0 := hid (show (W1.alloc (.cells #[.int .i64 0, .int .i64 0, .int .i64 0, .int .i64 0, .int .i64 0, .int .i64 0, .int .i64 0, .int .i64 0, .int .i64 0, .int .i64 0, .int .i64 0, .int .i64 0, .int .i64 0, .int .i64 0, .int .i64 0, .int .i64 0, .int .i64 0, .slice none 0 0] 30)).heap[W1.heap.size]? = some (.cells #[.int .i64 0, .int .i64 0, .int .i64 0, .int .i64 0, .int .i64 0, .int .i64 0, .int .i64 0, .int .i64 0, .int .i64 0, .int .i64 0, .int .i64 0, .int .i64 0, .int .i64 0, .int .i64 0, .int .i64 0, .int .i64 0, .int .i64 0, .slice none 0 0] 30 (0, 0)) from (MapKept.heap_alloc W1 _).1)
  have GA := hid (show Gr W1 (W1.alloc (.cells #[.int .i64 0, .int .i64 0, .int .i64 0, .int .i64 0, .int .i64 0, .int .i64 0, .int .i64 0, .int .i64 0, .int .i64 0, .int .i64 0, .int .i64 0, .int .i64 0, .int .i64 0, .int .i64 0, .int .i64 0, .int .i64 0, .int .i64 0, .slice none 0 0] 30)) from Ch.alloc (Gr.refl _) _)
  go_upto_region 6 with (first
    | (refine wpList_load_row rfl 30 (.tmp 4) rfl (w.heap.size + 1) rfl _ _ _ _ V1.out.c Tryd.underlying30 rfl (ctx_size' (HSZ.out _ _)) ?_)
    | (refine st_row rfl 30 (.tmp 10) (.tmp 31) rfl W1.heap.size _ rfl rfl _ _ BD0.out (ctx_size' (HSZ.out _ _)) (HSZ.out _ _).symm cC_one ?_; intro w2 b2 k2; have D2 := hid b2; have G2 := hid (show Gr W1 w2 from Ch.trans GA.out k2 (fun q e => .inr (by have e1 : q = W1.heap.size := e; omega))); have V2 := hid (V1.out.gr G2.out); have I2 := hid (gr_blk I1.out G2.out); have y17 := (cell_of V2.out.c 17).trans (cC_v HRR.out _ _); have l17 := lt_of_block V2.out.c; clear b2 k2)
    | (go_at_call 38; refine (HC.out _ (Gr.trans G1.out G2.out)).mono ?_; rintro e w3 ⟨v3, rfl, o3, g3⟩; obtain ⟨ao2, cap2, hv3⟩ := o3.form; generalize hq3 : ks.length = n2 at hv3; subst hv3; have HN2 := hid hq3; have D3 := hid (gr_blk D2.out g3); have V3 := hid (V2.out.gr g3); have I3 := hid (gr_blk I2.out g3); have G3 := hid (Gr.trans (Gr.trans G1.out G2.out) g3); have O3 := hid o3; have S3 := hid (show W1.heap.size < w2.heap.size from lt_of_block D2.out); have d17 := (cell_of D3.out 17).trans (cC_v HRR.out _ _); have e17 := frozen_of D3.out 17; have m17 := lt_of_block D3.out; clear o3 g3 hq3))
  generalize W1.heap.size = td at D2 D3 S1b S3 d17 e17 m17 BD0 ⊢
  have hb4 : (w3.setCell ⟨td, 17, none⟩ (.slice ao2 n2 cap2)).heap[td]? = some (.cells (cC pc r (.slice ao2 n2 cap2)) 30 (0, 0)) := by rw [← cC_setv HRR.out pc (.slice ao n cap)]; exact setCell_block D3.out 17 _
  have hc4 : Ch (Only td) w3 (w3.setCell ⟨td, 17, none⟩ (.slice ao2 n2 cap2)) := (Ch.refl _ _).own 17 _
  have V4 := hid (V3.out.off hc4 (by have := S1.out; have := S1b.out; omega))
  have I4 := hid ((hc4.block _ (lt_of_block I3.out) (fun q => by have q1 : tb = td := q; have := S1b.out; omega)).trans I3.out)
  have O4 := hid (O3.out.ch hc4 (fun q hq e => by have e1 : q = td := e; have := (O3.out.blk hq).1; have := S3.out; omega))
  have G4 := hid (show Gr w (w3.setCell ⟨td, 17, none⟩ (.slice ao2 n2 cap2)) from Ch.trans G3.out hc4 (fun q e => .inr (by have e1 : q = td := e; have := S1.out; have := S1b.out; omega)))
  have D4 := hid hb4
  have H2 := hid (show ∀ q, Blk (.slice ao2 n2 cap2) q → td < q from fun q e => by have := (O3.out.blk e).1; have := S3.out; omega)
  have T5 := hid (show w.heap.size + 5 ≤ tb ∧ tb < td from ⟨S1.out, S1b.out⟩)
  have O5 := hid (O4.out.lower (show w.heap.size + 5 ≤ _ from by have := S1.out; have := S1b.out; have := S3.out; omega))
  clear hb4 hc4 y17 l17 d17 e17 m17 D2 D3 BD0 GA V2 V3 I2 I3 G2 G3 O3 S3 O4 S1 S1b
  generalize w3.setCell ⟨td, 17, none⟩ (.slice ao2 n2 cap2) = W4 at V4 I4 G4 D4 O5 ⊢
  have d0 := (cell_of D4.out 0).trans (cC_pc _ _ _)
  have e0 := frozen_of D4.out 0
  have m0 := lt_of_block D4.out
  go_upto_region 7 with fail
  have hb6 : (W4.setCell ⟨td, 0, none⟩ (.int .i64 (pc + 1))).heap[td]? = some (.cells (cC (pc + 1) r (.slice ao2 n2 cap2)) 30 (0, 0)) := by rw [← cC_setpc pc]; exact setCell_block D4.out 0 _
  have hc6 : Ch (Only td) W4 (W4.setCell ⟨td, 0, none⟩ (.int .i64 (pc + 1))) := (Ch.refl _ _).own 0 _
  have V6 := hid (V4.out.off hc6 (by have := T5.out; omega))
  have I6 := hid ((hc6.block _ (lt_of_block I4.out) (fun q => by have q1 : tb = td := q; have := T5.out; omega)).trans I4.out)
  have O6 := hid (O5.out.ch hc6 (fun q hq e => by have e1 : q = td := e; have := H2.out q hq; omega))
  have G6 := hid (show Gr w (W4.setCell ⟨td, 0, none⟩ (.int .i64 (pc + 1))) from Ch.trans G4.out hc6 (fun q e => .inr (by have e1 : q = td := e; have := T5.out; omega)))
  have D6 := hid hb6
  clear hb6 hc6 d0 e0 m0
  generalize W4.setCell ⟨td, 0, none⟩ (.int .i64 (pc + 1)) = W6 at V6 I6 G6 D6 O6 ⊢
  have i0 := (cell_of I6.out 0).trans (rfl : _ = some (Value.int .i64 o1))
  have i1 := (cell_of I6.out 1).trans (rfl : _ = some (Value.int .i64 (a : Int)))
  have i2 := (cell_of I6.out 2).trans (rfl : _ = some (Value.int .i64 (b : Int)))
  have i3 := (cell_of I6.out 3).trans (rfl : _ = some (Value.int .i64 (c : Int)))
  have i4 := (cell_of I6.out 4).trans (rfl : _ = some (Value.int .i64 im))
  have il := lt_of_block I6.out
  have x1 := (cell_of V6.out.c (1 + a)).trans (cC_get HX.out)
  have x2 := (cell_of V6.out.c (1 + b)).trans (cC_get HY.out)
  have x3 := (cell_of V6.out.c (1 + c)).trans (cC_get HZ.out)
  have xl := lt_of_block V6.out.c
  go_quiet (fail)
  clear x1 x2 x3 xl i0 i1 i2 i3 i4 il
  have V7 := hid (show Vs (W6.drewN nq) w.heap.size #[.slice aoc nc cac, .slice aof nf caf, .slice aot nt cat] (cC pc r (.slice ao n cap)) #[.int .u64 ck, .int .i64 sl, .int .i64 gn] #[.int .i64 0, .int .i64 0, .int .i64 0, .int .i64 0, .int .i64 0, .int .i64 0, .int .i64 0, .int .i64 0, .int .i64 0, .int .i64 0, .int .i64 0, .int .i64 0, .int .i64 0, .int .i64 0, .int .i64 0, .int .i64 0, .int .i64 0, .slice none 0 0] #[.int .i64 0, .int .i64 0, .int .i64 0, .int .i64 0, .int .i64 0, .int .i64 0, .int .i64 0, .int .i64 0, .int .i64 0, .int .i64 0, .int .i64 0] from ⟨V6.out.p, V6.out.c, V6.out.e, V6.out.r, V6.out.t⟩)
  have I7 := hid (show (W6.drewN nq).heap[tb]? = some (.cells #[.int .i64 o1, .int .i64 (a : Int), .int .i64 (b : Int), .int .i64 (c : Int), .int .i64 im] 46 (0, 0)) from I6.out)
  have D7 := hid (show (W6.drewN nq).heap[td]? = some (.cells (cC (pc + 1) r (.slice ao2 n2 cap2)) 30 (0, 0)) from D6.out)
  have O7 := hid (show Ow eI 1 3 (w.heap.size + 5) (W6.drewN nq) (.slice ao2 n2 cap2) ks from O6.out)
  have G7 := hid (show Gr w (W6.drewN nq) from Ch.drewN G6.out nq)
  clear V6 I6 D6 O6 G6
  generalize W6.drewN nq = W7 at V7 I7 D7 O7 G7 ⊢
  have i0 := (cell_of I7.out 0).trans (rfl : _ = some (Value.int .i64 o1))
  have il := lt_of_block I7.out
  have HWK := hid (fun (W : World) => worked_no o1 y z HTW.out W)
  go_upto_region 56 with (first
    | (go_at_call 39; refine (HWK.out _).mono ?_; rintro e w8 ⟨rfl, g8⟩; have V8 := hid (V7.out.gr g8); have I8 := hid (gr_blk I7.out g8); have D8 := hid (gr_blk D7.out g8); have O8 := hid (O7.out.gr g8); have G8 := hid (Gr.trans G7.out g8); have j0 := (cell_of I8.out 0).trans (rfl : _ = some (Value.int .i64 o1)); have jl := lt_of_block I8.out; have y17 := (cell_of V8.out.c 17).trans (cC_v HRR.out _ _); have l17 := lt_of_block V8.out.c; clear g8 i0 il)
    | (go_at_call 38; refine (HC.out _ G8.out).mono ?_; rintro e w9 ⟨v9, rfl, o9, g9⟩; obtain ⟨ao3, cap3, hv9⟩ := o9.form; generalize ks.length = n3 at hv9; subst hv9; have V9 := hid (V8.out.gr g9); have I9 := hid (gr_blk I8.out g9); have G9 := hid (Gr.trans G8.out g9); have O9 := hid (o9.lower (show w.heap.size + 5 ≤ _ from lt_of_block V8.out.t)); have d17 := (cell_of V9.out.c 17).trans (cC_v HRR.out _ _); have e17 := frozen_of V9.out.c 17; have m17 := lt_of_block V9.out.c; clear o9 g9))
  have hb4 : (w9.setCell ⟨w.heap.size + 1, 17, none⟩ (.slice ao3 n3 cap3)).heap[w.heap.size + 1]? = some (.cells (cC pc r (.slice ao3 n3 cap3)) 30 (0, 0)) := by rw [← cC_setv HRR.out pc (.slice ao n cap)]; exact setCell_block V9.out.c 17 _
  have hc4 : Ch (Only (w.heap.size + 1)) w9 (w9.setCell ⟨w.heap.size + 1, 17, none⟩ (.slice ao3 n3 cap3)) := (Ch.refl _ _).own 17 _
  have V10 := hid (V9.out.only hc4 hb4)
  have I10 := hid ((hc4.block _ (lt_of_block I9.out) (fun q => by have q1 : tb = w.heap.size + 1 := q; have := T5.out; omega)).trans I9.out)
  have O10 := hid (O9.out.ch hc4 (fun q hq e => by have e1 : q = w.heap.size + 1 := e; have := (O9.out.blk hq).1; omega))
  have G10 := hid (show Gr w (w9.setCell ⟨w.heap.size + 1, 17, none⟩ (.slice ao3 n3 cap3)) from Ch.trans G9.out hc4 (fun q e => .inr (by have e1 : q = w.heap.size + 1 := e; omega)))
  clear hb4 hc4 d17 e17 m17 y17 l17 j0 jl
  generalize w9.setCell ⟨w.heap.size + 1, 17, none⟩ (.slice ao3 n3 cap3) = W10 at V10 I10 O10 G10 ⊢
  have hS0 : Sq w tb (w.heap.size + 1) (cC pc r (.slice ao3 n3 cap3)) #[.int .i64 o1, .int .i64 (a : Int), .int .i64 (b : Int), .int .i64 (c : Int), .int .i64 im] ks ao3 n3 cap3 W10.drew := ⟨Ch.drew G10.out, V10.out.c, I10.out, ⟨_, V10.out.r, rfl⟩, ⟨_, V10.out.t, rfl⟩, O10.out, T5.out.1, .inl rfl⟩
  refine wp_region_held_drew (S := Sq w tb (w.heap.size + 1) (cC pc r (.slice ao3 n3 cap3)) #[.int .i64 o1, .int .i64 (a : Int), .int .i64 (b : Int), .int .i64 (c : Int), .int .i64 im] ks ao3 n3 cap3) (by kernel_rfl) (by exact hS0) (fun _ => ?_)
  refine takeS_on (i := 0) 237 (v := ?v17) rfl rfl (by kernel_rfl) (by kernel_rfl) (by kernel_rfl) (fun _ _ _ h => h) (by kernel_rfl) ?hy17 (by exact hS0) ?_
  case hy17 => (intro w' hSw; refine Eq.trans (exec_row 30 (.tmp 4) rfl _ rfl _ _ _ _ hSw.d Tryd.underlying30 rfl (ctx_size' (HSZ.out _ _))) ?_; with_reducible rfl)
  simp only [Act.put, List.setIfInBounds_toArray, List.set_cons_zero, List.set_cons_succ]
  refine takeS_on (i := 1) 238 (v := ?v18) rfl rfl (by kernel_rfl) (by kernel_rfl) (by kernel_rfl) (fun _ _ _ h => h) (by kernel_rfl) ?hy18 (by exact hS0) ?_
  case hy18 => (intro w' hSw; go_simp; try (with_reducible rfl))
  simp only [Act.put, List.setIfInBounds_toArray, List.set_cons_zero, List.set_cons_succ]
  refine takeS_on (i := 2) 239 (v := ?v19) rfl rfl (by kernel_rfl) (by kernel_rfl) (by kernel_rfl) (fun _ _ _ h => h) (by kernel_rfl) ?hy19 (by exact hS0) ?_
  case hy19 => (intro w' hSw; have z9 := (cell_of hSw.i 4).trans (rfl : _ = some (Value.int .i64 im)); go_simp; try (with_reducible rfl))
  simp only [Act.put, List.setIfInBounds_toArray, List.set_cons_zero, List.set_cons_succ]
  refine takeS_on (i := 3) 240 (v := .agg (wt 58 0 0 0 0 0 0 0 0 16 im)) rfl rfl (by kernel_rfl) (by kernel_rfl) (by kernel_rfl) (fun _ _ _ h => h) (by kernel_rfl) ?hy20 (by exact hS0) ?_
  case hy20 => (intro w' hSw; go_simp; try rfl)
  simp only [Act.put, List.setIfInBounds_toArray, List.set_cons_zero, List.set_cons_succ]
  refine wpAnyH_ready (rs := [4]) (by kernel_rfl) (by simp) (AllReadyH.cons rfl (fun K hK => ?_) AllReadyH.nil)
  rw [if_pos (by kernel_rfl)]
  obtain ⟨old, ht, hsz⟩ := hS0.r
  refine wp_store_row 30 (.tmp 6) (.tmp 237) rfl (w.heap.size + 3) (cC pc r (.slice ao3 n3 cap3)) rfl rfl _ _ ht (ctx_size' (HSZ.out _ _)) (hsz.trans (HSZ.out _ _).symm) cC_one ?_
  have b3 := setRow_blk (c := (cC pc r (.slice ao3 n3 cap3))) ht
  have hS1 := hS0.str (setRow_ch _ (w.heap.size + 3) (cC pc r (.slice ao3 n3 cap3))) b3 (HSZ.out _ _)
  have R3 := hid b3
  clear ht hsz b3
  refine hK.out _ _ (by exact hS1) (fun _ => ?_)
  clear hK K
  refine wpAnyH_ready (rs := [5]) (by kernel_rfl) (by simp) (AllReadyH.cons rfl (fun K hK => ?_) AllReadyH.nil)
  rw [if_pos (by kernel_rfl)]
  obtain ⟨old, ht, hsz⟩ := hS1.t
  refine wp_store_row 49 (.tmp 7) (.tmp 240) rfl (w.heap.size + 4) (wt 58 0 0 0 0 0 0 0 0 16 im) rfl rfl _ _ ht want_size hsz (wt_one 58 0 0 0 0 0 0 0 0 16 im) ?_
  have b4 := setRow_blk (c := (wt 58 0 0 0 0 0 0 0 0 16 im)) ht
  have hS2 := hS1.stt (setRow_ch _ (w.heap.size + 4) (wt 58 0 0 0 0 0 0 0 0 16 im)) b4 rfl
  have R4 := hid (((setRow_ch _ (w.heap.size + 4) (wt 58 0 0 0 0 0 0 0 0 16 im)).block _ (lt_of_block R3.out) (fun q => by have q1 : w.heap.size + 3 = w.heap.size + 4 := q; omega)).trans R3.out)
  have T4 := hid b4
  clear ht hsz b4
  refine hK.out _ _ (by exact hS2) (fun _ => ?_)
  clear hK K
  refine wpAnyH_done (by kernel_rfl) ?_ _
  go_wp2_with fail
  refine bodyPost_ret (results_cell_cell rfl _ _ (w.heap.size + 3) (w.heap.size + 4) _ _ rfl (run_loadVar_row _ _ _ _ _ _ _ R4.out Tryd.underlying30 rfl (ctx_size' (HSZ.out _ _))) rfl (run_loadVar_row _ _ _ _ _ _ _ T4.out Tryd.underlying49 rfl want_size)) rfl ?_
  exact ⟨_, _, _, rfl, hS2.o.lower (by omega), hS2.g⟩

end Go.Proofs.YtcdlhfodeckleaaDoor.Lt

namespace Go.Proofs.YtcdlhfodeckleaaDoor.Lt
open Go.RowKit Wd

set_option maxHeartbeats 2000000 in
set_option maxRecDepth 20000 in
theorem rstep_end_23 (P : Nat → Prop) (w : World) (aoc aof aot : Option Addr) (nc nf nt cac caf cat : Nat) (cs : List Int) (h : Ls eU P w (.slice aoc nc cac) cs) (hu : U32s cs) (hcl : nc ≤ 35184372088832) (pc : Int) (r : List Int) (hr : r.length = 16) (ao : Option Addr) (n cap : Nat) (ks : List Int) (hk : Ls eI P w (.slice ao n cap) ks) (hn : n ≤ 17592186044416) (ck sl gn : Int)
    (o1 im : Int) (a b c : Nat) (la : a < 16) (lb : b < 16) (lc : c < 16) (x y z : Int) (hx : r[a]? = some x) (hy : r[b]? = some y) (hz : r[c]? = some z) (hI : nI cs pc = (o1, (a : Int), (b : Int), (c : Int), im)) (hB : nB cs pc = true) (ho : o1 = 23) :
    Calls Tryd.prog 17 #[.agg #[.slice aoc nc cac, .slice aof nf caf, .slice aot nt cat], .agg (cC pc r (.slice ao n cap)), .agg #[.int .u64 ck, .int .i64 sl, .int .i64 gn]] w (StR w (pc + 1) r ks (wt 23 0 0 0 0 0 0 0 0 0 0)) := by
  have hlen := h.len.1
  have hpc : 0 ≤ pc ∧ pc < (nc : Int) := by
    unfold nB at hB
    split at hB
    · rename_i q; rw [hlen]; exact q
    · cases hB
  have HN := hid (fun (W : World) (p : Gr w W) => rnext9_any P W aoc aof aot nc nf nt cac caf cat cs (h.gr p) hu pc r hr ao n cap)
  rw [hI, hB] at HN
  unfold iV at HN
  simp only at HN
  have HC := hid (fun (W : World) (p : Gr w W) => rcalls9_any P W ao n cap ks (hk.gr p) hn)
  have V0 := hid (vs_new w #[.slice aoc nc cac, .slice aof nf caf, .slice aot nt cat] (cC pc r (.slice ao n cap)) #[.int .u64 ck, .int .i64 sl, .int .i64 gn] #[.int .i64 0, .int .i64 0, .int .i64 0, .int .i64 0, .int .i64 0, .int .i64 0, .int .i64 0, .int .i64 0, .int .i64 0, .int .i64 0, .int .i64 0, .int .i64 0, .int .i64 0, .int .i64 0, .int .i64 0, .int .i64 0, .int .i64 0, .slice none 0 0] #[.int .i64 0, .int .i64 0, .int .i64 0, .int .i64 0, .int .i64 0, .int .i64 0, .int .i64 0, .int .i64 0, .int .i64 0, .int .i64 0, .int .i64 0])
  have K0 := hid (show Gr w (((((w.alloc (.cells #[.slice aoc nc cac, .slice aof nf caf, .slice aot nt cat] 26)).alloc (.cells (cC pc r (.slice ao n cap)) 30)).alloc (.cells #[.int .u64 ck, .int .i64 sl, .int .i64 gn] 44)).alloc (.cells #[.int .i64 0, .int .i64 0, .int .i64 0, .int .i64 0, .int .i64 0, .int .i64 0, .int .i64 0, .int .i64 0, .int .i64 0, .int .i64 0, .int .i64 0, .int .i64 0, .int .i64 0, .int .i64 0, .int .i64 0, .int .i64 0, .int .i64 0, .slice none 0 0] 30)).alloc (.cells #[.int .i64 0, .int .i64 0, .int .i64 0, .int .i64 0, .int .i64 0, .int .i64 0, .int .i64 0, .int .i64 0, .int .i64 0, .int .i64 0, .int .i64 0] 49)) from Ch.alloc (Ch.alloc (Ch.alloc (Ch.alloc (Ch.alloc (Gr.refl w) _) _) _) _) _)
  have HSZ := hid (fun (pc : Int) (v : Value) => cC_size (pc := pc) (v := v) hr)
  have HX := hid hx
  have HY := hid hy
  have HZ := hid hz
  have a0 : (0 : Int) ≤ (a : Int) := by omega
  have a1 : (a : Int) < 16 := by omega
  have b0 : (0 : Int) ≤ (b : Int) := by omega
  have b1 : (b : Int) < 16 := by omega
  have c0 : (0 : Int) ≤ (c : Int) := by omega
  have c1 : (c : Int) < 16 := by omega
  have HKL := hid hk.len.1
  have HRR := hid hr
  have HO1 := hid ho
  have HTW := hid (show ¬ Two o1 from by unfold Two; omega)
  clear ho
  have e1 : (o1 == 1) = false := by rw [HO1.out]; rfl
  have e2 : (o1 == 2) = false := by rw [HO1.out]; rfl
  have e3 : (o1 == 3) = false := by rw [HO1.out]; rfl
  have e4 : (o1 == 4) = false := by rw [HO1.out]; rfl
  have e8 : (o1 == 8) = false := by rw [HO1.out]; rfl
  have e9 : (o1 == 9) = false := by rw [HO1.out]; rfl
  have e17 : (o1 == 17) = false := by rw [HO1.out]; rfl
  have e18 : (o1 == 18) = false := by rw [HO1.out]; rfl
  have e19 : (o1 == 19) = false := by rw [HO1.out]; rfl
  have e20 : (o1 == 20) = false := by rw [HO1.out]; rfl
  have e21 : (o1 == 21) = false := by rw [HO1.out]; rfl
  have e25 : (o1 == 25) = false := by rw [HO1.out]; rfl
  have e26 : (o1 == 26) = false := by rw [HO1.out]; rfl
  have e58 : (o1 == 58) = false := by rw [HO1.out]; rfl
  have e24 : (o1 == 24) = false := by rw [HO1.out]; rfl
  have e23 : (o1 == 23) = true := by rw [HO1.out]; rfl
  obtain ⟨q0, q1⟩ := hpc
  have q2 : pc ≤ 35184372088832 := by omega
  clear h hu hI hB hlen hr hx hy hz hk
  go_enter Tryd.func17, Tryd.ntmps17
  go_upto_region 4 with (first
    | (refine wpList_load_row rfl 30 (.tmp 4) rfl (w.heap.size + 1) rfl _ _ _ _ V0.out.c Tryd.underlying30 rfl (ctx_size' (HSZ.out _ _)) ?_)
    | (go_at_call 26; refine (HN.out _ K0.out).mono ?_; rintro e w1 ⟨rfl, g1⟩; have V1 := hid (V0.out.gr (Ch.alloc g1 (.cells #[.int .i64 o1, .int .i64 (a : Int), .int .i64 (b : Int), .int .i64 (c : Int), .int .i64 im] 46))); have G1 := hid (show Gr w (w1.alloc (.cells #[.int .i64 o1, .int .i64 (a : Int), .int .i64 (b : Int), .int .i64 (c : Int), .int .i64 im] 46)) from Ch.alloc (Gr.trans K0.out g1) _); have I1 := hid (MapKept.heap_alloc w1 (.cells #[.int .i64 o1, .int .i64 (a : Int), .int .i64 (b : Int), .int .i64 (c : Int), .int .i64 im] 46)).1; have S1 := hid (show w.heap.size + 5 ≤ w1.heap.size from Nat.lt_of_lt_of_le (lt_of_block V0.out.t) g1.size); have S1b := hid (show w1.heap.size < (w1.alloc (.cells #[.int .i64 o1, .int .i64 (a : Int), .int .i64 (b : Int), .int .i64 (c : Int), .int .i64 im] 46)).heap.size from (by simp)); clear g1))
  generalize w1.alloc (.cells #[.int .i64 o1, .int .i64 (a : Int), .int .i64 (b : Int), .int .i64 (c : Int), .int .i64 im] 46) = W1 at V1 G1 I1 S1b ⊢
  generalize w1.heap.size = tb at I1 S1 S1b ⊢
  have BD0 := hid (show (W1.alloc (.cells #[.int .i64 0, .int .i64 0, .int .i64 0, .int .i64 0, .int .i64 0, .int .i64 0, .int .i64 0, .int .i64 0, .int .i64 0, .int .i64 0, .int .i64 0, .int .i64 0, .int .i64 0, .int .i64 0, .int .i64 0, .int .i64 0, .int .i64 0, .slice none 0 0] 30)).heap[W1.heap.size]? = some (.cells #[.int .i64 0, .int .i64 0, .int .i64 0, .int .i64 0, .int .i64 0, .int .i64 0, .int .i64 0, .int .i64 0, .int .i64 0, .int .i64 0, .int .i64 0, .int .i64 0, .int .i64 0, .int .i64 0, .int .i64 0, .int .i64 0, .int .i64 0, .slice none 0 0] 30 (0, 0)) from (MapKept.heap_alloc W1 _).1)
  have GA := hid (show Gr W1 (W1.alloc (.cells #[.int .i64 0, .int .i64 0, .int .i64 0, .int .i64 0, .int .i64 0, .int .i64 0, .int .i64 0, .int .i64 0, .int .i64 0, .int .i64 0, .int .i64 0, .int .i64 0, .int .i64 0, .int .i64 0, .int .i64 0, .int .i64 0, .int .i64 0, .slice none 0 0] 30)) from Ch.alloc (Gr.refl _) _)
  go_upto_region 6 with (first
    | (refine wpList_load_row rfl 30 (.tmp 4) rfl (w.heap.size + 1) rfl _ _ _ _ V1.out.c Tryd.underlying30 rfl (ctx_size' (HSZ.out _ _)) ?_)
    | (refine st_row rfl 30 (.tmp 10) (.tmp 31) rfl W1.heap.size _ rfl rfl _ _ BD0.out (ctx_size' (HSZ.out _ _)) (HSZ.out _ _).symm cC_one ?_; intro w2 b2 k2; have D2 := hid b2; have G2 := hid (show Gr W1 w2 from Ch.trans GA.out k2 (fun q e => .inr (by have e1 : q = W1.heap.size := e; omega))); have V2 := hid (V1.out.gr G2.out); have I2 := hid (gr_blk I1.out G2.out); have y17 := (cell_of V2.out.c 17).trans (cC_v HRR.out _ _); have l17 := lt_of_block V2.out.c; clear b2 k2)
    | (go_at_call 38; refine (HC.out _ (Gr.trans G1.out G2.out)).mono ?_; rintro e w3 ⟨v3, rfl, o3, g3⟩; obtain ⟨ao2, cap2, hv3⟩ := o3.form; generalize hq3 : ks.length = n2 at hv3; subst hv3; have HN2 := hid hq3; have D3 := hid (gr_blk D2.out g3); have V3 := hid (V2.out.gr g3); have I3 := hid (gr_blk I2.out g3); have G3 := hid (Gr.trans (Gr.trans G1.out G2.out) g3); have O3 := hid o3; have S3 := hid (show W1.heap.size < w2.heap.size from lt_of_block D2.out); have d17 := (cell_of D3.out 17).trans (cC_v HRR.out _ _); have e17 := frozen_of D3.out 17; have m17 := lt_of_block D3.out; clear o3 g3 hq3))
  generalize W1.heap.size = td at D2 D3 S1b S3 d17 e17 m17 BD0 ⊢
  have hb4 : (w3.setCell ⟨td, 17, none⟩ (.slice ao2 n2 cap2)).heap[td]? = some (.cells (cC pc r (.slice ao2 n2 cap2)) 30 (0, 0)) := by rw [← cC_setv HRR.out pc (.slice ao n cap)]; exact setCell_block D3.out 17 _
  have hc4 : Ch (Only td) w3 (w3.setCell ⟨td, 17, none⟩ (.slice ao2 n2 cap2)) := (Ch.refl _ _).own 17 _
  have V4 := hid (V3.out.off hc4 (by have := S1.out; have := S1b.out; omega))
  have I4 := hid ((hc4.block _ (lt_of_block I3.out) (fun q => by have q1 : tb = td := q; have := S1b.out; omega)).trans I3.out)
  have O4 := hid (O3.out.ch hc4 (fun q hq e => by have e1 : q = td := e; have := (O3.out.blk hq).1; have := S3.out; omega))
  have G4 := hid (show Gr w (w3.setCell ⟨td, 17, none⟩ (.slice ao2 n2 cap2)) from Ch.trans G3.out hc4 (fun q e => .inr (by have e1 : q = td := e; have := S1.out; have := S1b.out; omega)))
  have D4 := hid hb4
  have H2 := hid (show ∀ q, Blk (.slice ao2 n2 cap2) q → td < q from fun q e => by have := (O3.out.blk e).1; have := S3.out; omega)
  have T5 := hid (show w.heap.size + 5 ≤ tb ∧ tb < td from ⟨S1.out, S1b.out⟩)
  have O5 := hid (O4.out.lower (show w.heap.size + 5 ≤ _ from by have := S1.out; have := S1b.out; have := S3.out; omega))
  clear hb4 hc4 y17 l17 d17 e17 m17 D2 D3 BD0 GA V2 V3 I2 I3 G2 G3 O3 S3 O4 S1 S1b
  generalize w3.setCell ⟨td, 17, none⟩ (.slice ao2 n2 cap2) = W4 at V4 I4 G4 D4 O5 ⊢
  have d0 := (cell_of D4.out 0).trans (cC_pc _ _ _)
  have e0 := frozen_of D4.out 0
  have m0 := lt_of_block D4.out
  go_upto_region 7 with fail
  have hb6 : (W4.setCell ⟨td, 0, none⟩ (.int .i64 (pc + 1))).heap[td]? = some (.cells (cC (pc + 1) r (.slice ao2 n2 cap2)) 30 (0, 0)) := by rw [← cC_setpc pc]; exact setCell_block D4.out 0 _
  have hc6 : Ch (Only td) W4 (W4.setCell ⟨td, 0, none⟩ (.int .i64 (pc + 1))) := (Ch.refl _ _).own 0 _
  have V6 := hid (V4.out.off hc6 (by have := T5.out; omega))
  have I6 := hid ((hc6.block _ (lt_of_block I4.out) (fun q => by have q1 : tb = td := q; have := T5.out; omega)).trans I4.out)
  have O6 := hid (O5.out.ch hc6 (fun q hq e => by have e1 : q = td := e; have := H2.out q hq; omega))
  have G6 := hid (show Gr w (W4.setCell ⟨td, 0, none⟩ (.int .i64 (pc + 1))) from Ch.trans G4.out hc6 (fun q e => .inr (by have e1 : q = td := e; have := T5.out; omega)))
  have D6 := hid hb6
  clear hb6 hc6 d0 e0 m0
  generalize W4.setCell ⟨td, 0, none⟩ (.int .i64 (pc + 1)) = W6 at V6 I6 G6 D6 O6 ⊢
  have i0 := (cell_of I6.out 0).trans (rfl : _ = some (Value.int .i64 o1))
  have i1 := (cell_of I6.out 1).trans (rfl : _ = some (Value.int .i64 (a : Int)))
  have i2 := (cell_of I6.out 2).trans (rfl : _ = some (Value.int .i64 (b : Int)))
  have i3 := (cell_of I6.out 3).trans (rfl : _ = some (Value.int .i64 (c : Int)))
  have i4 := (cell_of I6.out 4).trans (rfl : _ = some (Value.int .i64 im))
  have il := lt_of_block I6.out
  have x1 := (cell_of V6.out.c (1 + a)).trans (cC_get HX.out)
  have x2 := (cell_of V6.out.c (1 + b)).trans (cC_get HY.out)
  have x3 := (cell_of V6.out.c (1 + c)).trans (cC_get HZ.out)
  have xl := lt_of_block V6.out.c
  go_quiet (fail)
  clear x1 x2 x3 xl i0 i1 i2 i3 i4 il
  have V7 := hid (show Vs (W6.drewN nq) w.heap.size #[.slice aoc nc cac, .slice aof nf caf, .slice aot nt cat] (cC pc r (.slice ao n cap)) #[.int .u64 ck, .int .i64 sl, .int .i64 gn] #[.int .i64 0, .int .i64 0, .int .i64 0, .int .i64 0, .int .i64 0, .int .i64 0, .int .i64 0, .int .i64 0, .int .i64 0, .int .i64 0, .int .i64 0, .int .i64 0, .int .i64 0, .int .i64 0, .int .i64 0, .int .i64 0, .int .i64 0, .slice none 0 0] #[.int .i64 0, .int .i64 0, .int .i64 0, .int .i64 0, .int .i64 0, .int .i64 0, .int .i64 0, .int .i64 0, .int .i64 0, .int .i64 0, .int .i64 0] from ⟨V6.out.p, V6.out.c, V6.out.e, V6.out.r, V6.out.t⟩)
  have I7 := hid (show (W6.drewN nq).heap[tb]? = some (.cells #[.int .i64 o1, .int .i64 (a : Int), .int .i64 (b : Int), .int .i64 (c : Int), .int .i64 im] 46 (0, 0)) from I6.out)
  have D7 := hid (show (W6.drewN nq).heap[td]? = some (.cells (cC (pc + 1) r (.slice ao2 n2 cap2)) 30 (0, 0)) from D6.out)
  have O7 := hid (show Ow eI 1 3 (w.heap.size + 5) (W6.drewN nq) (.slice ao2 n2 cap2) ks from O6.out)
  have G7 := hid (show Gr w (W6.drewN nq) from Ch.drewN G6.out nq)
  clear V6 I6 D6 O6 G6
  generalize W6.drewN nq = W7 at V7 I7 D7 O7 G7 ⊢
  have i0 := (cell_of I7.out 0).trans (rfl : _ = some (Value.int .i64 o1))
  have il := lt_of_block I7.out
  have HWK := hid (fun (W : World) => worked_no o1 y z HTW.out W)
  go_upto_region 59 with (go_at_call 39; refine (HWK.out _).mono ?_; rintro e w8 ⟨rfl, g8⟩; have V8 := hid (V7.out.gr g8); have I8 := hid (gr_blk I7.out g8); have D8 := hid (gr_blk D7.out g8); have O8 := hid (O7.out.gr g8); have G8 := hid (Gr.trans G7.out g8); have j0 := (cell_of I8.out 0).trans (rfl : _ = some (Value.int .i64 o1)); have jl := lt_of_block I8.out; clear g8 i0 il)
  clear j0 jl
  have hS0 : Sq w tb td (cC (pc + 1) r (.slice ao2 n2 cap2)) #[.int .i64 o1, .int .i64 (a : Int), .int .i64 (b : Int), .int .i64 (c : Int), .int .i64 im] ks ao2 n2 cap2 w8.drew := ⟨Ch.drew G8.out, D8.out, I8.out, ⟨_, V8.out.r, rfl⟩, ⟨_, V8.out.t, rfl⟩, O8.out, T5.out.1, .inr (by have := T5.out; omega)⟩
  refine wp_region_held_drew (S := Sq w tb td (cC (pc + 1) r (.slice ao2 n2 cap2)) #[.int .i64 o1, .int .i64 (a : Int), .int .i64 (b : Int), .int .i64 (c : Int), .int .i64 im] ks ao2 n2 cap2) (by kernel_rfl) (by exact hS0) (fun _ => ?_)
  refine takeS_on (i := 0) 244 (v := ?v9) rfl rfl (by kernel_rfl) (by kernel_rfl) (by kernel_rfl) (fun _ _ _ h => h) (by kernel_rfl) ?hy9 (by exact hS0) ?_
  case hy9 => (intro w' hSw; refine Eq.trans (exec_row 30 (.tmp 10) rfl _ rfl _ _ _ _ hSw.d Tryd.underlying30 rfl (ctx_size' (HSZ.out _ _))) ?_; with_reducible rfl)
  simp only [Act.put, List.setIfInBounds_toArray, List.set_cons_zero, List.set_cons_succ]
  refine takeS_on (i := 1) 245 (v := ?v10) rfl rfl (by kernel_rfl) (by kernel_rfl) (by kernel_rfl) (fun _ _ _ h => h) (by kernel_rfl) ?hy10 (by exact hS0) ?_
  case hy10 => (intro w' hSw; go_simp; try (with_reducible rfl))
  simp only [Act.put, List.setIfInBounds_toArray, List.set_cons_zero, List.set_cons_succ]
  refine takeS_on (i := 2) 246 (v := ?v11) rfl rfl (by kernel_rfl) (by kernel_rfl) (by kernel_rfl) (fun _ _ _ h => h) (by kernel_rfl) ?hy11 (by exact hS0) ?_
  case hy11 => (intro w' hSw; have z9 := ((cell_of hSw.i 0).trans (rfl : _ = some (Value.int .i64 o1))).trans (by rw [HO1.out]); go_simp; try (with_reducible rfl))
  simp only [Act.put, List.setIfInBounds_toArray, List.set_cons_zero, List.set_cons_succ]
  refine takeS_on (i := 3) 247 (v := .agg (wt 23 0 0 0 0 0 0 0 0 0 0)) rfl rfl (by kernel_rfl) (by kernel_rfl) (by kernel_rfl) (fun _ _ _ h => h) (by kernel_rfl) ?hy12 (by exact hS0) ?_
  case hy12 => (intro w' hSw; go_simp; try rfl)
  simp only [Act.put, List.setIfInBounds_toArray, List.set_cons_zero, List.set_cons_succ]
  refine wpAnyH_ready (rs := [4]) (by kernel_rfl) (by simp) (AllReadyH.cons rfl (fun K hK => ?_) AllReadyH.nil)
  rw [if_pos (by kernel_rfl)]
  obtain ⟨old, ht, hsz⟩ := hS0.r
  refine wp_store_row 30 (.tmp 6) (.tmp 244) rfl (w.heap.size + 3) (cC (pc + 1) r (.slice ao2 n2 cap2)) rfl rfl _ _ ht (ctx_size' (HSZ.out _ _)) (hsz.trans (HSZ.out _ _).symm) cC_one ?_
  have b3 := setRow_blk (c := (cC (pc + 1) r (.slice ao2 n2 cap2))) ht
  have hS1 := hS0.str (setRow_ch _ (w.heap.size + 3) (cC (pc + 1) r (.slice ao2 n2 cap2))) b3 (HSZ.out _ _)
  have R3 := hid b3
  clear ht hsz b3
  refine hK.out _ _ (by exact hS1) (fun _ => ?_)
  clear hK K
  refine wpAnyH_ready (rs := [5]) (by kernel_rfl) (by simp) (AllReadyH.cons rfl (fun K hK => ?_) AllReadyH.nil)
  rw [if_pos (by kernel_rfl)]
  obtain ⟨old, ht, hsz⟩ := hS1.t
  refine wp_store_row 49 (.tmp 7) (.tmp 247) rfl (w.heap.size + 4) (wt 23 0 0 0 0 0 0 0 0 0 0) rfl rfl _ _ ht want_size hsz (wt_one _ _ _ _ _ _ _ _ _ _ _) ?_
  have b4 := setRow_blk (c := (wt 23 0 0 0 0 0 0 0 0 0 0)) ht
  have hS2 := hS1.stt (setRow_ch _ (w.heap.size + 4) (wt 23 0 0 0 0 0 0 0 0 0 0)) b4 rfl
  have R4 := hid (((setRow_ch _ (w.heap.size + 4) (wt 23 0 0 0 0 0 0 0 0 0 0)).block _ (lt_of_block R3.out) (fun q => by have q1 : w.heap.size + 3 = w.heap.size + 4 := q; omega)).trans R3.out)
  have T4 := hid b4
  clear ht hsz b4
  refine hK.out _ _ (by exact hS2) (fun _ => ?_)
  clear hK K
  refine wpAnyH_done (by kernel_rfl) ?_ _
  go_wp2_with fail
  refine bodyPost_ret (results_cell_cell rfl _ _ (w.heap.size + 3) (w.heap.size + 4) _ _ rfl (run_loadVar_row _ _ _ _ _ _ _ R4.out Tryd.underlying30 rfl (ctx_size' (HSZ.out _ _))) rfl (run_loadVar_row _ _ _ _ _ _ _ T4.out Tryd.underlying49 rfl want_size)) rfl ?_
  exact ⟨_, _, _, rfl, hS2.o.lower (by omega), hS2.g⟩

set_option maxHeartbeats 2000000 in
set_option maxRecDepth 20000 in
theorem rstep_end_24 (P : Nat → Prop) (w : World) (aoc aof aot : Option Addr) (nc nf nt cac caf cat : Nat) (cs : List Int) (h : Ls eU P w (.slice aoc nc cac) cs) (hu : U32s cs) (hcl : nc ≤ 35184372088832) (pc : Int) (r : List Int) (hr : r.length = 16) (ao : Option Addr) (n cap : Nat) (ks : List Int) (hk : Ls eI P w (.slice ao n cap) ks) (hn : n ≤ 17592186044416) (ck sl gn : Int)
    (o1 im : Int) (a b c : Nat) (la : a < 16) (lb : b < 16) (lc : c < 16) (x y z : Int) (hx : r[a]? = some x) (hy : r[b]? = some y) (hz : r[c]? = some z) (hI : nI cs pc = (o1, (a : Int), (b : Int), (c : Int), im)) (hB : nB cs pc = true) (ho : o1 = 24) :
    Calls Tryd.prog 17 #[.agg #[.slice aoc nc cac, .slice aof nf caf, .slice aot nt cat], .agg (cC pc r (.slice ao n cap)), .agg #[.int .u64 ck, .int .i64 sl, .int .i64 gn]] w (StR w (pc + 1) r ks (wt 24 0 0 0 0 0 0 0 0 0 0)) := by
  have hlen := h.len.1
  have hpc : 0 ≤ pc ∧ pc < (nc : Int) := by
    unfold nB at hB
    split at hB
    · rename_i q; rw [hlen]; exact q
    · cases hB
  have HN := hid (fun (W : World) (p : Gr w W) => rnext9_any P W aoc aof aot nc nf nt cac caf cat cs (h.gr p) hu pc r hr ao n cap)
  rw [hI, hB] at HN
  unfold iV at HN
  simp only at HN
  have HC := hid (fun (W : World) (p : Gr w W) => rcalls9_any P W ao n cap ks (hk.gr p) hn)
  have V0 := hid (vs_new w #[.slice aoc nc cac, .slice aof nf caf, .slice aot nt cat] (cC pc r (.slice ao n cap)) #[.int .u64 ck, .int .i64 sl, .int .i64 gn] #[.int .i64 0, .int .i64 0, .int .i64 0, .int .i64 0, .int .i64 0, .int .i64 0, .int .i64 0, .int .i64 0, .int .i64 0, .int .i64 0, .int .i64 0, .int .i64 0, .int .i64 0, .int .i64 0, .int .i64 0, .int .i64 0, .int .i64 0, .slice none 0 0] #[.int .i64 0, .int .i64 0, .int .i64 0, .int .i64 0, .int .i64 0, .int .i64 0, .int .i64 0, .int .i64 0, .int .i64 0, .int .i64 0, .int .i64 0])
  have K0 := hid (show Gr w (((((w.alloc (.cells #[.slice aoc nc cac, .slice aof nf caf, .slice aot nt cat] 26)).alloc (.cells (cC pc r (.slice ao n cap)) 30)).alloc (.cells #[.int .u64 ck, .int .i64 sl, .int .i64 gn] 44)).alloc (.cells #[.int .i64 0, .int .i64 0, .int .i64 0, .int .i64 0, .int .i64 0, .int .i64 0, .int .i64 0, .int .i64 0, .int .i64 0, .int .i64 0, .int .i64 0, .int .i64 0, .int .i64 0, .int .i64 0, .int .i64 0, .int .i64 0, .int .i64 0, .slice none 0 0] 30)).alloc (.cells #[.int .i64 0, .int .i64 0, .int .i64 0, .int .i64 0, .int .i64 0, .int .i64 0, .int .i64 0, .int .i64 0, .int .i64 0, .int .i64 0, .int .i64 0] 49)) from Ch.alloc (Ch.alloc (Ch.alloc (Ch.alloc (Ch.alloc (Gr.refl w) _) _) _) _) _)
  have HSZ := hid (fun (pc : Int) (v : Value) => cC_size (pc := pc) (v := v) hr)
  have HX := hid hx
  have HY := hid hy
  have HZ := hid hz
  have a0 : (0 : Int) ≤ (a : Int) := by omega
  have a1 : (a : Int) < 16 := by omega
  have b0 : (0 : Int) ≤ (b : Int) := by omega
  have b1 : (b : Int) < 16 := by omega
  have c0 : (0 : Int) ≤ (c : Int) := by omega
  have c1 : (c : Int) < 16 := by omega
  have HKL := hid hk.len.1
  have HRR := hid hr
  have HO1 := hid ho
  have HTW := hid (show ¬ Two o1 from by unfold Two; omega)
  clear ho
  have e1 : (o1 == 1) = false := by rw [HO1.out]; rfl
  have e2 : (o1 == 2) = false := by rw [HO1.out]; rfl
  have e3 : (o1 == 3) = false := by rw [HO1.out]; rfl
  have e4 : (o1 == 4) = false := by rw [HO1.out]; rfl
  have e8 : (o1 == 8) = false := by rw [HO1.out]; rfl
  have e9 : (o1 == 9) = false := by rw [HO1.out]; rfl
  have e17 : (o1 == 17) = false := by rw [HO1.out]; rfl
  have e18 : (o1 == 18) = false := by rw [HO1.out]; rfl
  have e19 : (o1 == 19) = false := by rw [HO1.out]; rfl
  have e20 : (o1 == 20) = false := by rw [HO1.out]; rfl
  have e21 : (o1 == 21) = false := by rw [HO1.out]; rfl
  have e25 : (o1 == 25) = false := by rw [HO1.out]; rfl
  have e26 : (o1 == 26) = false := by rw [HO1.out]; rfl
  have e58 : (o1 == 58) = false := by rw [HO1.out]; rfl
  have e24 : (o1 == 24) = true := by rw [HO1.out]; rfl
  obtain ⟨q0, q1⟩ := hpc
  have q2 : pc ≤ 35184372088832 := by omega
  clear h hu hI hB hlen hr hx hy hz hk
  go_enter Tryd.func17, Tryd.ntmps17
  go_upto_region 4 with (first
    | (refine wpList_load_row rfl 30 (.tmp 4) rfl (w.heap.size + 1) rfl _ _ _ _ V0.out.c Tryd.underlying30 rfl (ctx_size' (HSZ.out _ _)) ?_)
    | (go_at_call 26; refine (HN.out _ K0.out).mono ?_; rintro e w1 ⟨rfl, g1⟩; have V1 := hid (V0.out.gr (Ch.alloc g1 (.cells #[.int .i64 o1, .int .i64 (a : Int), .int .i64 (b : Int), .int .i64 (c : Int), .int .i64 im] 46))); have G1 := hid (show Gr w (w1.alloc (.cells #[.int .i64 o1, .int .i64 (a : Int), .int .i64 (b : Int), .int .i64 (c : Int), .int .i64 im] 46)) from Ch.alloc (Gr.trans K0.out g1) _); have I1 := hid (MapKept.heap_alloc w1 (.cells #[.int .i64 o1, .int .i64 (a : Int), .int .i64 (b : Int), .int .i64 (c : Int), .int .i64 im] 46)).1; have S1 := hid (show w.heap.size + 5 ≤ w1.heap.size from Nat.lt_of_lt_of_le (lt_of_block V0.out.t) g1.size); have S1b := hid (show w1.heap.size < (w1.alloc (.cells #[.int .i64 o1, .int .i64 (a : Int), .int .i64 (b : Int), .int .i64 (c : Int), .int .i64 im] 46)).heap.size from (by simp)); clear g1))
  generalize w1.alloc (.cells #[.int .i64 o1, .int .i64 (a : Int), .int .i64 (b : Int), .int .i64 (c : Int), .int .i64 im] 46) = W1 at V1 G1 I1 S1b ⊢
  generalize w1.heap.size = tb at I1 S1 S1b ⊢
  have BD0 := hid (show (W1.alloc (.cells #[.int .i64 0, .int .i64 0, .int .i64 0, .int .i64 0, .int .i64 0, .int .i64 0, .int .i64 0, .int .i64 0, .int .i64 0, .int .i64 0, .int .i64 0, .int .i64 0, .int .i64 0, .int .i64 0, .int .i64 0, .int .i64 0, .int .i64 0, .slice none 0 0] 30)).heap[W1.heap.size]? = some (.cells #[.int .i64 0, .int .i64 0, .int .i64 0, .int .i64 0, .int .i64 0, .int .i64 0, .int .i64 0, .int .i64 0, .int .i64 0, .int .i64 0, .int .i64 0, .int .i64 0, .int .i64 0, .int .i64 0, .int .i64 0, .int .i64 0, .int .i64 0, .slice none 0 0] 30 (0, 0)) from (MapKept.heap_alloc W1 _).1)
  have GA := hid (show Gr W1 (W1.alloc (.cells #[.int .i64 0, .int .i64 0, .int .i64 0, .int .i64 0, .int .i64 0, .int .i64 0, .int .i64 0, .int .i64 0, .int .i64 0, .int .i64 0, .int .i64 0, .int .i64 0, .int .i64 0, .int .i64 0, .int .i64 0, .int .i64 0, .int .i64 0, .slice none 0 0] 30)) from Ch.alloc (Gr.refl _) _)
  go_upto_region 6 with (first
    | (refine wpList_load_row rfl 30 (.tmp 4) rfl (w.heap.size + 1) rfl _ _ _ _ V1.out.c Tryd.underlying30 rfl (ctx_size' (HSZ.out _ _)) ?_)
    | (refine st_row rfl 30 (.tmp 10) (.tmp 31) rfl W1.heap.size _ rfl rfl _ _ BD0.out (ctx_size' (HSZ.out _ _)) (HSZ.out _ _).symm cC_one ?_; intro w2 b2 k2; have D2 := hid b2; have G2 := hid (show Gr W1 w2 from Ch.trans GA.out k2 (fun q e => .inr (by have e1 : q = W1.heap.size := e; omega))); have V2 := hid (V1.out.gr G2.out); have I2 := hid (gr_blk I1.out G2.out); have y17 := (cell_of V2.out.c 17).trans (cC_v HRR.out _ _); have l17 := lt_of_block V2.out.c; clear b2 k2)
    | (go_at_call 38; refine (HC.out _ (Gr.trans G1.out G2.out)).mono ?_; rintro e w3 ⟨v3, rfl, o3, g3⟩; obtain ⟨ao2, cap2, hv3⟩ := o3.form; generalize hq3 : ks.length = n2 at hv3; subst hv3; have HN2 := hid hq3; have D3 := hid (gr_blk D2.out g3); have V3 := hid (V2.out.gr g3); have I3 := hid (gr_blk I2.out g3); have G3 := hid (Gr.trans (Gr.trans G1.out G2.out) g3); have O3 := hid o3; have S3 := hid (show W1.heap.size < w2.heap.size from lt_of_block D2.out); have d17 := (cell_of D3.out 17).trans (cC_v HRR.out _ _); have e17 := frozen_of D3.out 17; have m17 := lt_of_block D3.out; clear o3 g3 hq3))
  generalize W1.heap.size = td at D2 D3 S1b S3 d17 e17 m17 BD0 ⊢
  have hb4 : (w3.setCell ⟨td, 17, none⟩ (.slice ao2 n2 cap2)).heap[td]? = some (.cells (cC pc r (.slice ao2 n2 cap2)) 30 (0, 0)) := by rw [← cC_setv HRR.out pc (.slice ao n cap)]; exact setCell_block D3.out 17 _
  have hc4 : Ch (Only td) w3 (w3.setCell ⟨td, 17, none⟩ (.slice ao2 n2 cap2)) := (Ch.refl _ _).own 17 _
  have V4 := hid (V3.out.off hc4 (by have := S1.out; have := S1b.out; omega))
  have I4 := hid ((hc4.block _ (lt_of_block I3.out) (fun q => by have q1 : tb = td := q; have := S1b.out; omega)).trans I3.out)
  have O4 := hid (O3.out.ch hc4 (fun q hq e => by have e1 : q = td := e; have := (O3.out.blk hq).1; have := S3.out; omega))
  have G4 := hid (show Gr w (w3.setCell ⟨td, 17, none⟩ (.slice ao2 n2 cap2)) from Ch.trans G3.out hc4 (fun q e => .inr (by have e1 : q = td := e; have := S1.out; have := S1b.out; omega)))
  have D4 := hid hb4
  have H2 := hid (show ∀ q, Blk (.slice ao2 n2 cap2) q → td < q from fun q e => by have := (O3.out.blk e).1; have := S3.out; omega)
  have T5 := hid (show w.heap.size + 5 ≤ tb ∧ tb < td from ⟨S1.out, S1b.out⟩)
  have O5 := hid (O4.out.lower (show w.heap.size + 5 ≤ _ from by have := S1.out; have := S1b.out; have := S3.out; omega))
  clear hb4 hc4 y17 l17 d17 e17 m17 D2 D3 BD0 GA V2 V3 I2 I3 G2 G3 O3 S3 O4 S1 S1b
  generalize w3.setCell ⟨td, 17, none⟩ (.slice ao2 n2 cap2) = W4 at V4 I4 G4 D4 O5 ⊢
  have d0 := (cell_of D4.out 0).trans (cC_pc _ _ _)
  have e0 := frozen_of D4.out 0
  have m0 := lt_of_block D4.out
  go_upto_region 7 with fail
  have hb6 : (W4.setCell ⟨td, 0, none⟩ (.int .i64 (pc + 1))).heap[td]? = some (.cells (cC (pc + 1) r (.slice ao2 n2 cap2)) 30 (0, 0)) := by rw [← cC_setpc pc]; exact setCell_block D4.out 0 _
  have hc6 : Ch (Only td) W4 (W4.setCell ⟨td, 0, none⟩ (.int .i64 (pc + 1))) := (Ch.refl _ _).own 0 _
  have V6 := hid (V4.out.off hc6 (by have := T5.out; omega))
  have I6 := hid ((hc6.block _ (lt_of_block I4.out) (fun q => by have q1 : tb = td := q; have := T5.out; omega)).trans I4.out)
  have O6 := hid (O5.out.ch hc6 (fun q hq e => by have e1 : q = td := e; have := H2.out q hq; omega))
  have G6 := hid (show Gr w (W4.setCell ⟨td, 0, none⟩ (.int .i64 (pc + 1))) from Ch.trans G4.out hc6 (fun q e => .inr (by have e1 : q = td := e; have := T5.out; omega)))
  have D6 := hid hb6
  clear hb6 hc6 d0 e0 m0
  generalize W4.setCell ⟨td, 0, none⟩ (.int .i64 (pc + 1)) = W6 at V6 I6 G6 D6 O6 ⊢
  have i0 := (cell_of I6.out 0).trans (rfl : _ = some (Value.int .i64 o1))
  have i1 := (cell_of I6.out 1).trans (rfl : _ = some (Value.int .i64 (a : Int)))
  have i2 := (cell_of I6.out 2).trans (rfl : _ = some (Value.int .i64 (b : Int)))
  have i3 := (cell_of I6.out 3).trans (rfl : _ = some (Value.int .i64 (c : Int)))
  have i4 := (cell_of I6.out 4).trans (rfl : _ = some (Value.int .i64 im))
  have il := lt_of_block I6.out
  have x1 := (cell_of V6.out.c (1 + a)).trans (cC_get HX.out)
  have x2 := (cell_of V6.out.c (1 + b)).trans (cC_get HY.out)
  have x3 := (cell_of V6.out.c (1 + c)).trans (cC_get HZ.out)
  have xl := lt_of_block V6.out.c
  go_quiet (fail)
  clear x1 x2 x3 xl i0 i1 i2 i3 i4 il
  have V7 := hid (show Vs (W6.drewN nq) w.heap.size #[.slice aoc nc cac, .slice aof nf caf, .slice aot nt cat] (cC pc r (.slice ao n cap)) #[.int .u64 ck, .int .i64 sl, .int .i64 gn] #[.int .i64 0, .int .i64 0, .int .i64 0, .int .i64 0, .int .i64 0, .int .i64 0, .int .i64 0, .int .i64 0, .int .i64 0, .int .i64 0, .int .i64 0, .int .i64 0, .int .i64 0, .int .i64 0, .int .i64 0, .int .i64 0, .int .i64 0, .slice none 0 0] #[.int .i64 0, .int .i64 0, .int .i64 0, .int .i64 0, .int .i64 0, .int .i64 0, .int .i64 0, .int .i64 0, .int .i64 0, .int .i64 0, .int .i64 0] from ⟨V6.out.p, V6.out.c, V6.out.e, V6.out.r, V6.out.t⟩)
  have I7 := hid (show (W6.drewN nq).heap[tb]? = some (.cells #[.int .i64 o1, .int .i64 (a : Int), .int .i64 (b : Int), .int .i64 (c : Int), .int .i64 im] 46 (0, 0)) from I6.out)
  have D7 := hid (show (W6.drewN nq).heap[td]? = some (.cells (cC (pc + 1) r (.slice ao2 n2 cap2)) 30 (0, 0)) from D6.out)
  have O7 := hid (show Ow eI 1 3 (w.heap.size + 5) (W6.drewN nq) (.slice ao2 n2 cap2) ks from O6.out)
  have G7 := hid (show Gr w (W6.drewN nq) from Ch.drewN G6.out nq)
  clear V6 I6 D6 O6 G6
  generalize W6.drewN nq = W7 at V7 I7 D7 O7 G7 ⊢
  have i0 := (cell_of I7.out 0).trans (rfl : _ = some (Value.int .i64 o1))
  have il := lt_of_block I7.out
  have HWK := hid (fun (W : World) => worked_no o1 y z HTW.out W)
  go_upto_region 59 with (go_at_call 39; refine (HWK.out _).mono ?_; rintro e w8 ⟨rfl, g8⟩; have V8 := hid (V7.out.gr g8); have I8 := hid (gr_blk I7.out g8); have D8 := hid (gr_blk D7.out g8); have O8 := hid (O7.out.gr g8); have G8 := hid (Gr.trans G7.out g8); have j0 := (cell_of I8.out 0).trans (rfl : _ = some (Value.int .i64 o1)); have jl := lt_of_block I8.out; clear g8 i0 il)
  clear j0 jl
  have hS0 : Sq w tb td (cC (pc + 1) r (.slice ao2 n2 cap2)) #[.int .i64 o1, .int .i64 (a : Int), .int .i64 (b : Int), .int .i64 (c : Int), .int .i64 im] ks ao2 n2 cap2 w8.drew := ⟨Ch.drew G8.out, D8.out, I8.out, ⟨_, V8.out.r, rfl⟩, ⟨_, V8.out.t, rfl⟩, O8.out, T5.out.1, .inr (by have := T5.out; omega)⟩
  refine wp_region_held_drew (S := Sq w tb td (cC (pc + 1) r (.slice ao2 n2 cap2)) #[.int .i64 o1, .int .i64 (a : Int), .int .i64 (b : Int), .int .i64 (c : Int), .int .i64 im] ks ao2 n2 cap2) (by kernel_rfl) (by exact hS0) (fun _ => ?_)
  refine takeS_on (i := 0) 244 (v := ?v13) rfl rfl (by kernel_rfl) (by kernel_rfl) (by kernel_rfl) (fun _ _ _ h => h) (by kernel_rfl) ?hy13 (by exact hS0) ?_
  case hy13 => (intro w' hSw; refine Eq.trans (exec_row 30 (.tmp 10) rfl _ rfl _ _ _ _ hSw.d Tryd.underlying30 rfl (ctx_size' (HSZ.out _ _))) ?_; with_reducible rfl)
  simp only [Act.put, List.setIfInBounds_toArray, List.set_cons_zero, List.set_cons_succ]
  refine takeS_on (i := 1) 245 (v := ?v14) rfl rfl (by kernel_rfl) (by kernel_rfl) (by kernel_rfl) (fun _ _ _ h => h) (by kernel_rfl) ?hy14 (by exact hS0) ?_
  case hy14 => (intro w' hSw; go_simp; try (with_reducible rfl))
  simp only [Act.put, List.setIfInBounds_toArray, List.set_cons_zero, List.set_cons_succ]
  refine takeS_on (i := 2) 246 (v := ?v15) rfl rfl (by kernel_rfl) (by kernel_rfl) (by kernel_rfl) (fun _ _ _ h => h) (by kernel_rfl) ?hy15 (by exact hS0) ?_
  case hy15 => (intro w' hSw; have z9 := ((cell_of hSw.i 0).trans (rfl : _ = some (Value.int .i64 o1))).trans (by rw [HO1.out]); go_simp; try (with_reducible rfl))
  simp only [Act.put, List.setIfInBounds_toArray, List.set_cons_zero, List.set_cons_succ]
  refine takeS_on (i := 3) 247 (v := .agg (wt 24 0 0 0 0 0 0 0 0 0 0)) rfl rfl (by kernel_rfl) (by kernel_rfl) (by kernel_rfl) (fun _ _ _ h => h) (by kernel_rfl) ?hy16 (by exact hS0) ?_
  case hy16 => (intro w' hSw; go_simp; try rfl)
  simp only [Act.put, List.setIfInBounds_toArray, List.set_cons_zero, List.set_cons_succ]
  refine wpAnyH_ready (rs := [4]) (by kernel_rfl) (by simp) (AllReadyH.cons rfl (fun K hK => ?_) AllReadyH.nil)
  rw [if_pos (by kernel_rfl)]
  obtain ⟨old, ht, hsz⟩ := hS0.r
  refine wp_store_row 30 (.tmp 6) (.tmp 244) rfl (w.heap.size + 3) (cC (pc + 1) r (.slice ao2 n2 cap2)) rfl rfl _ _ ht (ctx_size' (HSZ.out _ _)) (hsz.trans (HSZ.out _ _).symm) cC_one ?_
  have b3 := setRow_blk (c := (cC (pc + 1) r (.slice ao2 n2 cap2))) ht
  have hS1 := hS0.str (setRow_ch _ (w.heap.size + 3) (cC (pc + 1) r (.slice ao2 n2 cap2))) b3 (HSZ.out _ _)
  have R3 := hid b3
  clear ht hsz b3
  refine hK.out _ _ (by exact hS1) (fun _ => ?_)
  clear hK K
  refine wpAnyH_ready (rs := [5]) (by kernel_rfl) (by simp) (AllReadyH.cons rfl (fun K hK => ?_) AllReadyH.nil)
  rw [if_pos (by kernel_rfl)]
  obtain ⟨old, ht, hsz⟩ := hS1.t
  refine wp_store_row 49 (.tmp 7) (.tmp 247) rfl (w.heap.size + 4) (wt 24 0 0 0 0 0 0 0 0 0 0) rfl rfl _ _ ht want_size hsz (wt_one _ _ _ _ _ _ _ _ _ _ _) ?_
  have b4 := setRow_blk (c := (wt 24 0 0 0 0 0 0 0 0 0 0)) ht
  have hS2 := hS1.stt (setRow_ch _ (w.heap.size + 4) (wt 24 0 0 0 0 0 0 0 0 0 0)) b4 rfl
  have R4 := hid (((setRow_ch _ (w.heap.size + 4) (wt 24 0 0 0 0 0 0 0 0 0 0)).block _ (lt_of_block R3.out) (fun q => by have q1 : w.heap.size + 3 = w.heap.size + 4 := q; omega)).trans R3.out)
  have T4 := hid b4
  clear ht hsz b4
  refine hK.out _ _ (by exact hS2) (fun _ => ?_)
  clear hK K
  refine wpAnyH_done (by kernel_rfl) ?_ _
  go_wp2_with fail
  refine bodyPost_ret (results_cell_cell rfl _ _ (w.heap.size + 3) (w.heap.size + 4) _ _ rfl (run_loadVar_row _ _ _ _ _ _ _ R4.out Tryd.underlying30 rfl (ctx_size' (HSZ.out _ _))) rfl (run_loadVar_row _ _ _ _ _ _ _ T4.out Tryd.underlying49 rfl want_size)) rfl ?_
  exact ⟨_, _, _, rfl, hS2.o.lower (by omega), hS2.g⟩

end Go.Proofs.YtcdlhfodeckleaaDoor.Lt

namespace Go.Proofs.YtcdlhfodeckleaaDoor.Lt
open Go.RowKit Wd

set_option maxHeartbeats 2000000 in
set_option maxRecDepth 20000 in
theorem rstep_none (P : Nat → Prop) (w : World) (aoc aof aot : Option Addr) (nc nf nt cac caf cat : Nat) (cs : List Int) (h : Ls eU P w (.slice aoc nc cac) cs) (hu : U32s cs) (pc : Int) (r : List Int) (hr : r.length = 16) (ao : Option Addr) (n cap : Nat) (ks : List Int) (hk : Ls eI P w (.slice ao n cap) ks) (hn : n ≤ 17592186044416) (ck sl gn : Int)
    (o1 o2 o3 o4 im : Int) (hI : nI cs pc = (o1, o2, o3, o4, im)) (hB : nB cs pc = false) :
    Calls Tryd.prog 17 #[.agg #[.slice aoc nc cac, .slice aof nf caf, .slice aot nt cat], .agg (cC pc r (.slice ao n cap)), .agg #[.int .u64 ck, .int .i64 sl, .int .i64 gn]] w (StR w pc r ks (wt 58 0 0 0 0 0 0 0 0 1 0)) := by
  have HN := hid (fun (W : World) (p : Gr w W) => rnext9_any P W aoc aof aot nc nf nt cac caf cat cs (h.gr p) hu pc r hr ao n cap)
  rw [hI, hB] at HN
  unfold iV at HN
  simp only at HN
  have HTD := hid (fun (W : World) (p : Gr w W) => trapped_any P W pc r hr ao n cap ks (hk.gr p) hn 1)
  have V0 := hid (vs_new w #[.slice aoc nc cac, .slice aof nf caf, .slice aot nt cat] (cC pc r (.slice ao n cap)) #[.int .u64 ck, .int .i64 sl, .int .i64 gn] #[.int .i64 0, .int .i64 0, .int .i64 0, .int .i64 0, .int .i64 0, .int .i64 0, .int .i64 0, .int .i64 0, .int .i64 0, .int .i64 0, .int .i64 0, .int .i64 0, .int .i64 0, .int .i64 0, .int .i64 0, .int .i64 0, .int .i64 0, .slice none 0 0] #[.int .i64 0, .int .i64 0, .int .i64 0, .int .i64 0, .int .i64 0, .int .i64 0, .int .i64 0, .int .i64 0, .int .i64 0, .int .i64 0, .int .i64 0])
  have K0 := hid (show Gr w (((((w.alloc (.cells #[.slice aoc nc cac, .slice aof nf caf, .slice aot nt cat] 26)).alloc (.cells (cC pc r (.slice ao n cap)) 30)).alloc (.cells #[.int .u64 ck, .int .i64 sl, .int .i64 gn] 44)).alloc (.cells #[.int .i64 0, .int .i64 0, .int .i64 0, .int .i64 0, .int .i64 0, .int .i64 0, .int .i64 0, .int .i64 0, .int .i64 0, .int .i64 0, .int .i64 0, .int .i64 0, .int .i64 0, .int .i64 0, .int .i64 0, .int .i64 0, .int .i64 0, .slice none 0 0] 30)).alloc (.cells #[.int .i64 0, .int .i64 0, .int .i64 0, .int .i64 0, .int .i64 0, .int .i64 0, .int .i64 0, .int .i64 0, .int .i64 0, .int .i64 0, .int .i64 0] 49)) from Ch.alloc (Ch.alloc (Ch.alloc (Ch.alloc (Ch.alloc (Gr.refl w) _) _) _) _) _)
  have HSZ := hid (fun (pc : Int) (v : Value) => cC_size (pc := pc) (v := v) hr)
  clear h hu hI hB hr hk
  go_enter Tryd.func17, Tryd.ntmps17
  go_upto_region 3 with (first
    | (refine wpList_load_row rfl 30 (.tmp 4) rfl (w.heap.size + 1) rfl _ _ _ _ V0.out.c Tryd.underlying30 rfl (ctx_size' (HSZ.out _ _)) ?_)
    | (go_at_call 26; refine (HN.out _ K0.out).mono ?_; rintro e w1 ⟨rfl, g1⟩; have V1 := hid (V0.out.gr (Ch.alloc g1 (.cells #[.int .i64 o1, .int .i64 o2, .int .i64 o3, .int .i64 o4, .int .i64 im] 46))); have G1 := hid (show Gr w (w1.alloc (.cells #[.int .i64 o1, .int .i64 o2, .int .i64 o3, .int .i64 o4, .int .i64 im] 46)) from Ch.alloc (Gr.trans K0.out g1) _); clear g1))
  generalize w1.alloc (.cells #[.int .i64 o1, .int .i64 o2, .int .i64 o3, .int .i64 o4, .int .i64 im] 46) = w8 at V1 G1 ⊢
  have V8 := V1
  have G8 := G1
  go_wp2_with (first
    | (refine wpList_load_row rfl 30 (.tmp 4) rfl (w.heap.size + 1) rfl _ _ _ _ V8.out.c Tryd.underlying30 rfl (ctx_size' (HSZ.out _ _)) ?_)
    | (go_at_call 37; refine (HTD.out _ G8.out).mono ?_; rintro e w9 ⟨ao9, n9, cap9, rfl, o9, g9⟩; have V9 := hid (V8.out.gr g9); have O9 := hid (o9.lower (show w.heap.size + 5 ≤ _ from lt_of_block V8.out.t)); have G9 := hid (Gr.trans G8.out g9); clear o9 g9)
    | (refine st_row rfl 30 (.tmp 6) (.tmp 29) rfl (w.heap.size + 3) _ rfl rfl _ _ V9.out.r (ctx_size' (HSZ.out _ _)) (HSZ.out _ _).symm cC_one ?_; intro w10 b10 k10; have R9 := hid b10; have K9 := hid k10; have T9 := hid ((k10.block _ (lt_of_block V9.out.t) (fun q => by have q1 : w.heap.size + 4 = w.heap.size + 3 := q; omega)).trans V9.out.t); clear b10 k10)
    | (refine st_row rfl 49 (.tmp 7) (.tmp 30) rfl (w.heap.size + 4) _ rfl rfl _ _ T9.out want_size rfl (wt_one 58 0 0 0 0 0 0 0 0 1 0) ?_; intro w11 b11 k11; have T10 := hid b11; have K10 := hid k11; have R10 := hid ((k11.block _ (lt_of_block R9.out) (fun q => by have q1 : w.heap.size + 3 = w.heap.size + 4 := q; omega)).trans R9.out); clear b11 k11))
  refine bodyPost_ret (results_cell_cell rfl _ _ (w.heap.size + 3) (w.heap.size + 4) _ _ rfl (run_loadVar_row _ _ _ _ _ _ _ R10.out Tryd.underlying30 rfl (ctx_size' (HSZ.out _ _))) rfl (run_loadVar_row _ _ _ _ _ _ _ T10.out Tryd.underlying49 rfl want_size)) rfl ?_
  exact ⟨_, _, _, rfl, ((O9.out.ch K9.out (fun q hq e => by have e1 : q = w.heap.size + 3 := e; have := (O9.out.blk hq).1; omega)).ch K10.out (fun q hq e => by have e1 : q = w.heap.size + 4 := e; have := (O9.out.blk hq).1; omega)).lower (by omega), Ch.trans (Ch.trans G9.out K9.out (fun q e => .inr (by have e1 : q = w.heap.size + 3 := e; omega))) K10.out (fun q e => .inr (by have e1 : q = w.heap.size + 4 := e; omega))⟩
end Go.Proofs.YtcdlhfodeckleaaDoor.Lt
