/-
  StepDoes, walked. Condition: the tables lie where they lie.
-/
import Derived.Test.YtcdlhfodeckleaaDoorStpFacts
import Derived.Test.YtcdlhfodeckleaaDoorStLives
import Derived.Test.YtcdlhfodeckleaaDoorSwP
import Derived.Test.YtcdlhfodeckleaaDoorSwR
namespace Go.Proofs.YtcdlhfodeckleaaDoor.Lt
open Go.RowKit Wd

set_option maxHeartbeats 4000000 in
set_option maxRecDepth 20000 in
theorem does_walk (w : World) (hg : Glb w) (aoc aof aot : Option Addr) (nc nf nt cac caf cat : Nat) (pc : Int) (r : List Int) (hr : r.length = 16) (ao : Option Addr) (n cap : Nat) (ks : List Int) (ck sl gn : Int) (pc1 : Int) (rr : List Int) (hrr : rr.length = 16) (ks1 : List Int) (hk1 : ks1.length ≤ 17592186044416) (q0 q1 q2 q3 q4 q5 q6 q7 q8 q9 q10 : Int)
    (hT : ∀ W, Gr w W → Calls Tryd.prog 14 #[.agg (cC pc r (.slice ao n cap))] W (CxR W pc r ks))
    (hP : ∀ W, Gr w W → ∀ ao2 n2 cap2 B, Ow eI 1 3 B W (.slice ao2 n2 cap2) ks → Calls Tryd.prog 16 #[.agg #[.slice aoc nc cac, .slice aof nf caf, .slice aot nt cat], .agg (cC pc r (.slice ao2 n2 cap2)), .agg #[.int .u64 ck, .int .i64 sl, .int .i64 gn]] W (StR W pc1 rr ks1 #[.int .i64 q0, .int .i64 q1, .int .i64 q2, .int .i64 q3, .int .i64 q4, .int .i64 q5, .int .i64 q6, .int .i64 q7, .int .i64 q8, .int .i64 q9, .int .i64 q10]))
    (hR : ∀ W, Gr w W → Calls Tryd.prog 17 #[.agg #[.slice aoc nc cac, .slice aof nf caf, .slice aot nt cat], .agg (cC pc r (.slice ao n cap)), .agg #[.int .u64 ck, .int .i64 sl, .int .i64 gn]] W (StR W pc1 rr ks1 #[.int .i64 q0, .int .i64 q1, .int .i64 q2, .int .i64 q3, .int .i64 q4, .int .i64 q5, .int .i64 q6, .int .i64 q7, .int .i64 q8, .int .i64 q9, .int .i64 q10])) :
    Calls Tryd.prog 5 #[.agg #[.slice aoc nc cac, .slice aof nf caf, .slice aot nt cat], .agg (cC pc r (.slice ao n cap)), .agg #[.int .u64 ck, .int .i64 sl, .int .i64 gn]] w fun e w' => e = .returned (.bool true) ∧ Gr w w' := by
  have HLV := hid (fun (W : World) (p : Gr w W) => lives9_any W (hg.gr p))
  have HSM := hid (fun (W : World) (ao bo : Option Addr) (ca cb b1 b2 : Nat) (h1 : Ow eI 1 3 b1 W (.slice ao ks1.length ca) ks1) (h2 : Ow eI 1 3 b2 W (.slice bo ks1.length cb) ks1) => same9_any (b1 ≤ ·) (b2 ≤ ·) W pc1 rr hrr ao bo ks1.length ca cb ks1 h1.lst h2.lst hk1)
  have HT := hid hT
  have HP := hid hP
  have HR := hid hR
  have HSZ := hid (fun (pc : Int) (v : Value) => cC_size (pc := pc) (v := v) hr)
  have HSY := hid (fun (pc : Int) (v : Value) => cC_size (pc := pc) (v := v) hrr)
  have hB := Sd.new w #[.slice aoc nc cac, .slice aof nf caf, .slice aot nt cat] (cC pc r (.slice ao n cap)) #[.int .u64 ck, .int .i64 sl, .int .i64 gn]
  clear hT hP hR hg hr hrr hk1
  go_enter Tryd.func5, Tryd.ntmps5
  go_wp2_with fail
  generalize ((w.alloc (.cells #[.slice aoc nc cac, .slice aof nf caf, .slice aot nt cat] 26)).alloc (.cells (cC pc r (.slice ao n cap)) 30)).alloc (.cells #[.int .u64 ck, .int .i64 sl, .int .i64 gn] 44) = W0 at hB ⊢
  have hS0 := hB.drew
  clear hB
  refine Code.wp_mono (Q := fun e a W => e = Exit.normal ∧ ∃ (A B : Nat) (ao3 : Option Addr) (cap3 : Nat) (x0 x1 x2 x6 x9 x10 x11 x12 x13 x14 x15 x16 x17 x18 x19 x20 x21 x22 x23 x24 x25 x26 x27 x28 x29 x30 x31 x32 x33 x34 x35 x36 : Value), a = Act.mk #[x0, x1, x2, .pointer (some ⟨w.heap.size, 0, none⟩), .pointer (some ⟨w.heap.size + 1, 0, none⟩), .pointer (some ⟨w.heap.size + 2, 0, none⟩), x6, .pointer (some ⟨A, 0, none⟩), .pointer (some ⟨B, 0, none⟩), x9, x10, x11, x12, x13, x14, x15, x16, x17, x18, x19, x20, x21, x22, x23, x24, x25, x26, x27, x28, x29, x30, x31, x32, x33, x34, x35, x36] [] ∧ Sx w #[.slice aoc nc cac, .slice aof nf caf, .slice aot nt cat] (cC pc r (.slice ao n cap)) #[.int .u64 ck, .int .i64 sl, .int .i64 gn] A (cC pc1 rr (.slice ao3 ks1.length cap3)) B #[.int .i64 q0, .int .i64 q1, .int .i64 q2, .int .i64 q3, .int .i64 q4, .int .i64 q5, .int .i64 q6, .int .i64 q7, .int .i64 q8, .int .i64 q9, .int .i64 q10] (.slice ao3 ks1.length cap3) ks1 W) ?_ ?_
  · clear hS0 HT HP
    rintro e a W ⟨rfl, A, B, ao3, cap3, x0, x1, x2, x6, x9, x10, x11, x12, x13, x14, x15, x16, x17, x18, x19, x20, x21, x22, x23, x24, x25, x26, x27, x28, x29, x30, x31, x32, x33, x34, x35, x36, rfl, hX⟩
    have X0 := hid hX
    clear hX
    go_wp2_with (first
    | (refine wpList_load_row rfl 26 (.tmp 3) rfl w.heap.size rfl _ _ _ _ X0.out.p Tryd.underlying26 rfl prog_size3 ?_)
    | (refine wpList_load_row rfl 30 (.tmp 4) rfl (w.heap.size + 1) rfl _ _ _ _ X0.out.c Tryd.underlying30 rfl (ctx_size' (HSZ.out _ _)) ?_)
    | (refine wpList_load_row rfl 44 (.tmp 5) rfl (w.heap.size + 2) rfl _ _ _ _ X0.out.e Tryd.underlying44 rfl env_size ?_)
    | (go_at_call 17; refine (HR.out _ X0.out.g).mono ?_; rintro e w3 ⟨ao4, n4, cap4, rfl, o4, g3⟩; obtain rfl : n4 = ks1.length := o4.len.1; have X1 := hid (X0.out.gr g3); have OR := hid o4; have A3 := hid (al_blk (MapKept.heap_alloc w3 (.cells #[.int .i64 0, .int .i64 0, .int .i64 0, .int .i64 0, .int .i64 0, .int .i64 0, .int .i64 0, .int .i64 0, .int .i64 0, .int .i64 0, .int .i64 0, .int .i64 0, .int .i64 0, .int .i64 0, .int .i64 0, .int .i64 0, .int .i64 0, .slice none 0 0] 30)).1 (.cells #[.int .i64 0, .int .i64 0, .int .i64 0, .int .i64 0, .int .i64 0, .int .i64 0, .int .i64 0, .int .i64 0, .int .i64 0, .int .i64 0, .int .i64 0] 49)); have B3 := hid (show ((w3.alloc (.cells #[.int .i64 0, .int .i64 0, .int .i64 0, .int .i64 0, .int .i64 0, .int .i64 0, .int .i64 0, .int .i64 0, .int .i64 0, .int .i64 0, .int .i64 0, .int .i64 0, .int .i64 0, .int .i64 0, .int .i64 0, .int .i64 0, .int .i64 0, .slice none 0 0] 30)).alloc (.cells #[.int .i64 0, .int .i64 0, .int .i64 0, .int .i64 0, .int .i64 0, .int .i64 0, .int .i64 0, .int .i64 0, .int .i64 0, .int .i64 0, .int .i64 0] 49)).heap[w3.heap.size + 1]? = some (.cells #[.int .i64 0, .int .i64 0, .int .i64 0, .int .i64 0, .int .i64 0, .int .i64 0, .int .i64 0, .int .i64 0, .int .i64 0, .int .i64 0, .int .i64 0] 49 (0, 0)) from by simpa using (MapKept.heap_alloc (w3.alloc (.cells #[.int .i64 0, .int .i64 0, .int .i64 0, .int .i64 0, .int .i64 0, .int .i64 0, .int .i64 0, .int .i64 0, .int .i64 0, .int .i64 0, .int .i64 0, .int .i64 0, .int .i64 0, .int .i64 0, .int .i64 0, .int .i64 0, .int .i64 0, .slice none 0 0] 30)) (.cells #[.int .i64 0, .int .i64 0, .int .i64 0, .int .i64 0, .int .i64 0, .int .i64 0, .int .i64 0, .int .i64 0, .int .i64 0, .int .i64 0, .int .i64 0] 49)).1); clear g3 o4)
    | (refine st_row rfl 30 (.tmp 9) (.tmp 24) rfl w3.heap.size _ rfl rfl _ _ A3.out (ctx_size' (HSY.out _ _)) (HSY.out _ _).symm cC_one ?_; intro w4 b4 k4; have G4 := hid (show Gr w3 w4 from Ch.trans (Ch.alloc (Ch.alloc (Gr.refl w3) _) _) k4 (fun q e => .inr (by have e1 : q = w3.heap.size := e; omega))); have E4 := hid b4; have B4 := hid ((k4.block _ (lt_of_block B3.out) (fun q => by have q1 : w3.heap.size + 1 = w3.heap.size := q; omega)).trans B3.out); clear b4 k4)
    | (refine st_row rfl 49 (.tmp 10) (.tmp 25) rfl (w3.heap.size + 1) _ rfl rfl _ _ B4.out want_size rfl (wt_one _ _ _ _ _ _ _ _ _ _ _) ?_; intro w5 b5 k5; have G5 := hid (show Gr w3 w5 from Ch.trans G4.out k5 (fun q e => .inr (by have e1 : q = w3.heap.size + 1 := e; omega))); have X5 := hid (X1.out.gr G5.out); have O5 := hid (OR.out.gr G5.out); have E5 := hid ((k5.block _ (lt_of_block E4.out) (fun q => by have q1 : w3.heap.size = w3.heap.size + 1 := q; omega)).trans E4.out); have F5 := hid b5; clear b5 k5)
    | (go_at_call 11; refine (HLV.out _ X5.out.g).mono ?_; rintro e w6 ⟨rfl, g6⟩; have X6 := hid (X5.out.gr g6); have O6 := hid (O5.out.gr g6); have E6 := hid (gr_blk E5.out g6); have F6 := hid (gr_blk F5.out g6); clear g6)
    | (refine ld_rowG (by kernel_rfl) 49 (.tmp 8) rfl B rfl _ _ _ _ X6.out.t Tryd.underlying49 rfl want_size ?_)
    | (refine ld_rowG (by kernel_rfl) 49 (.tmp 10) rfl (w3.heap.size + 1) rfl _ _ _ _ F6.out Tryd.underlying49 rfl want_size ?_)
    | (refine ld_rowG (by kernel_rfl) 30 (.tmp 7) rfl A rfl _ _ _ _ X6.out.d Tryd.underlying30 rfl (ctx_size' (HSY.out _ _)) ?_)
    | (refine ld_rowG (by kernel_rfl) 30 (.tmp 9) rfl w3.heap.size rfl _ _ _ _ E6.out Tryd.underlying30 rfl (ctx_size' (HSY.out _ _)) ?_)
    | (go_at_call 12; refine (HSM.out _ _ _ _ _ _ _ X6.out.l.choose_spec O6.out).mono ?_; rintro e w7 ⟨rfl, g7⟩; have G7 := hid (Gr.trans X6.out.g g7); clear g7))
    go_ret
    exact ⟨rfl, G7.out⟩
  · clear HR HSM HLV
    refine wp_region_held_drew (S := Sd w #[.slice aoc nc cac, .slice aof nf caf, .slice aot nt cat] (cC pc r (.slice ao n cap)) #[.int .u64 ck, .int .i64 sl, .int .i64 gn]) (by kernel_rfl) (by exact hS0) (fun _ => ?_)
    generalize World.drew W0 = V0 at hS0 ⊢
    refine takeS_on (i := 0) 12 (v := ?v1) rfl rfl (by kernel_rfl) (by kernel_rfl) (by kernel_rfl) (fun _ _ _ h => nomatch h.1) (by kernel_rfl) ?hy1 (by exact hS0) ?_
    case hy1 => (intro w' hSw; refine Eq.trans (exec_row 26 (.tmp 3) rfl _ rfl _ _ _ _ hSw.p Tryd.underlying26 rfl prog_size3) ?_; with_reducible rfl)
    simp only [Act.put, List.setIfInBounds_toArray, List.set_cons_zero, List.set_cons_succ]
    refine takeS_on (i := 1) 13 (v := ?v2) rfl rfl (by kernel_rfl) (by kernel_rfl) (by kernel_rfl) (fun _ _ _ h => nomatch h.1) (by kernel_rfl) ?hy2 (by exact hS0) ?_
    case hy2 => (intro w' hSw; refine Eq.trans (exec_row 30 (.tmp 4) rfl _ rfl _ _ _ _ hSw.c Tryd.underlying30 rfl (ctx_size' (HSZ.out _ _))) ?_; with_reducible rfl)
    simp only [Act.put, List.setIfInBounds_toArray, List.set_cons_zero, List.set_cons_succ]
    refine takeS_on (i := 3) 15 (v := ?v3) rfl rfl (by kernel_rfl) (by kernel_rfl) (by kernel_rfl) (fun _ _ _ h => nomatch h.1) (by kernel_rfl) ?hy3 (by exact hS0) ?_
    case hy3 => (intro w' hSw; refine Eq.trans (exec_row 44 (.tmp 5) rfl _ rfl _ _ _ _ hSw.e Tryd.underlying44 rfl env_size) ?_; with_reducible rfl)
    simp only [Act.put, List.setIfInBounds_toArray, List.set_cons_zero, List.set_cons_succ]
    refine wpAnyH_ready (rs := [2, 8, 9]) (by kernel_rfl) (by simp) (AllReadyH.cons rfl (fun K hK => ?_) (AllReadyH.cons rfl (fun K hK => ?_) (AllReadyH.cons rfl (fun K hK => ?_) AllReadyH.nil)))
    · go_simp
      refine (HT.out _ hS0.g).mono ?_
      rintro e w1 ⟨ao2, n2, cap2, rfl, o2, g1⟩
      have hS1 := hS0.gr g1
      have OT := hid o2
      clear o2 g1
      refine hK.out _ _ (by exact hS1) (fun _ => ?_)
      clear hK K
      refine wpAnyH_ready (rs := [4, 8, 9]) (by kernel_rfl) (by simp) (AllReadyH.cons rfl (fun K hK => ?_) (AllReadyH.cons rfl (fun K hK => ?_) (AllReadyH.cons rfl (fun K hK => ?_) AllReadyH.nil)))
      · go_simp
        refine (HP.out _ hS1.g _ _ _ _ OT.out).mono ?_
        rintro e w2 ⟨ao3, n3, cap3, rfl, o3, g2⟩
        obtain rfl : n3 = ks1.length := o3.len.1
        have hS2 := hS1.gr g2
        have OD := hid o3
        clear o3 OT g2
        refine hK.out _ _ (by exact hS2) (fun _ => ?_)
        clear hK K
        refine takeS_on (i := 5) 11 (v := ?v4) rfl rfl (by kernel_rfl) (by kernel_rfl) (by kernel_rfl) (fun _ _ _ h => nomatch h.1) (by kernel_rfl) ?hy4 (by exact hS2) ?_
        case hy4 => (intro w' hSw; go_simp; try (with_reducible rfl))
        simp only [Act.put, List.setIfInBounds_toArray, List.set_cons_zero, List.set_cons_succ]
        refine takeS_on (i := 6) 17 (v := ?v5) rfl rfl (by kernel_rfl) (by kernel_rfl) (by kernel_rfl) (fun _ _ _ h => nomatch h.1) (by kernel_rfl) ?hy5 (by exact hS2) ?_
        case hy5 => (intro w' hSw; go_simp; try (with_reducible rfl))
        simp only [Act.put, List.setIfInBounds_toArray, List.set_cons_zero, List.set_cons_succ]
        refine takeS_on (i := 7) 18 (v := ?v6) rfl rfl (by kernel_rfl) (by kernel_rfl) (by kernel_rfl) (fun _ _ _ h => nomatch h.1) (by kernel_rfl) ?hy6 (by exact hS2) ?_
        case hy6 => (intro w' hSw; go_simp; try (with_reducible rfl))
        simp only [Act.put, List.setIfInBounds_toArray, List.set_cons_zero, List.set_cons_succ]
        refine wpAnyH_ready (rs := [8, 9]) (by kernel_rfl) (by simp) (AllReadyH.cons rfl (fun K hK => ?_) (AllReadyH.cons rfl (fun K hK => ?_) AllReadyH.nil))
        · go_simp
          have g3 : Gr w2 (w2.alloc (.cells #[.int .i64 0, .int .i64 0, .int .i64 0, .int .i64 0, .int .i64 0, .int .i64 0, .int .i64 0, .int .i64 0, .int .i64 0, .int .i64 0, .int .i64 0, .int .i64 0, .int .i64 0, .int .i64 0, .int .i64 0, .int .i64 0, .int .i64 0, .slice none 0 0] 30)) := Ch.alloc (Gr.refl _) _
          have LA := hid (show w.heap.size + 2 < w2.heap.size from lt_of_block hS2.e)
          have NA := hid (fun (q : Nat) (hq : Blk (.slice ao3 ks1.length cap3) q) => show q ≠ w2.heap.size from by have l2 := (OD.out.blk hq).2; omega)
          have hS3 := hS2.gr g3
          have OD := hid (OD.out.gr g3)
          have AA := hid (show (w2.alloc (.cells #[.int .i64 0, .int .i64 0, .int .i64 0, .int .i64 0, .int .i64 0, .int .i64 0, .int .i64 0, .int .i64 0, .int .i64 0, .int .i64 0, .int .i64 0, .int .i64 0, .int .i64 0, .int .i64 0, .int .i64 0, .int .i64 0, .int .i64 0, .slice none 0 0] 30)).heap[w2.heap.size]? = some (.cells #[.int .i64 0, .int .i64 0, .int .i64 0, .int .i64 0, .int .i64 0, .int .i64 0, .int .i64 0, .int .i64 0, .int .i64 0, .int .i64 0, .int .i64 0, .int .i64 0, .int .i64 0, .int .i64 0, .int .i64 0, .int .i64 0, .int .i64 0, .slice none 0 0] 30 (0, 0)) from (MapKept.heap_alloc w2 (.cells #[.int .i64 0, .int .i64 0, .int .i64 0, .int .i64 0, .int .i64 0, .int .i64 0, .int .i64 0, .int .i64 0, .int .i64 0, .int .i64 0, .int .i64 0, .int .i64 0, .int .i64 0, .int .i64 0, .int .i64 0, .int .i64 0, .int .i64 0, .slice none 0 0] 30)).1)
          clear g3
          generalize w2.alloc (.cells #[.int .i64 0, .int .i64 0, .int .i64 0, .int .i64 0, .int .i64 0, .int .i64 0, .int .i64 0, .int .i64 0, .int .i64 0, .int .i64 0, .int .i64 0, .int .i64 0, .int .i64 0, .int .i64 0, .int .i64 0, .int .i64 0, .int .i64 0, .slice none 0 0] 30) = w3 at hS3 OD AA ⊢
          refine hK.out _ _ (by exact hS3) (fun _ => ?_)
          clear hK K
          refine wpAnyH_ready (rs := [9]) (by kernel_rfl) (by simp) (AllReadyH.cons rfl (fun K hK => ?_) AllReadyH.nil)
          go_simp
          have g4 : Gr w3 (w3.alloc (.cells #[.int .i64 0, .int .i64 0, .int .i64 0, .int .i64 0, .int .i64 0, .int .i64 0, .int .i64 0, .int .i64 0, .int .i64 0, .int .i64 0, .int .i64 0] 49)) := Ch.alloc (Gr.refl _) _
          have LB := hid (show w.heap.size + 2 < w3.heap.size from lt_of_block hS3.e)
          have NB := hid (fun (q : Nat) (hq : Blk (.slice ao3 ks1.length cap3) q) => show q ≠ w3.heap.size from by have l2 := (OD.out.blk hq).2; omega)
          have NAB := hid (show w3.heap.size ≠ w2.heap.size from by have := lt_of_block AA.out; omega)
          have hS4 := hS3.gr g4
          have OD := hid (OD.out.gr g4)
          have AA := hid (gr_blk AA.out g4)
          have BB := hid (show (w3.alloc (.cells #[.int .i64 0, .int .i64 0, .int .i64 0, .int .i64 0, .int .i64 0, .int .i64 0, .int .i64 0, .int .i64 0, .int .i64 0, .int .i64 0, .int .i64 0] 49)).heap[w3.heap.size]? = some (.cells #[.int .i64 0, .int .i64 0, .int .i64 0, .int .i64 0, .int .i64 0, .int .i64 0, .int .i64 0, .int .i64 0, .int .i64 0, .int .i64 0, .int .i64 0] 49 (0, 0)) from (MapKept.heap_alloc w3 (.cells #[.int .i64 0, .int .i64 0, .int .i64 0, .int .i64 0, .int .i64 0, .int .i64 0, .int .i64 0, .int .i64 0, .int .i64 0, .int .i64 0, .int .i64 0] 49)).1)
          clear g4
          generalize w3.alloc (.cells #[.int .i64 0, .int .i64 0, .int .i64 0, .int .i64 0, .int .i64 0, .int .i64 0, .int .i64 0, .int .i64 0, .int .i64 0, .int .i64 0, .int .i64 0] 49) = w4 at hS4 OD AA BB ⊢
          refine hK.out _ _ (by exact hS4) (fun _ => ?_)
          clear hK K
          refine wpAnyH_ready (rs := [10]) (by kernel_rfl) (by simp) (AllReadyH.cons rfl (fun K hK => ?_) AllReadyH.nil)
          rw [if_pos (by kernel_rfl)]
          refine wp_store_row 30 (.tmp 7) (.tmp 17) rfl w2.heap.size (cC pc1 rr (.slice ao3 ks1.length cap3)) rfl rfl _ _ AA.out (ctx_size' (HSY.out _ _)) (HSY.out _ _).symm cC_one ?_
          have k9 := setRow_ch w4 w2.heap.size (cC pc1 rr (.slice ao3 ks1.length cap3))
          have hS5 := hS4.st k9 LA.out
          have OD := hid (OD.out.ch k9 (fun q hq e => NA.out q hq e))
          have BB := hid ((k9.block _ (lt_of_block BB.out) (fun e => NAB.out e)).trans BB.out)
          have AA := hid (setRow_blk (c := (cC pc1 rr (.slice ao3 ks1.length cap3))) AA.out)
          clear k9
          generalize w4.setRow w2.heap.size (cC pc1 rr (.slice ao3 ks1.length cap3)) = w5 at hS5 AA BB OD ⊢
          refine hK.out _ _ (by exact hS5) (fun _ => ?_)
          clear hK K
          refine wpAnyH_ready (rs := [11]) (by kernel_rfl) (by simp) (AllReadyH.cons rfl (fun K hK => ?_) AllReadyH.nil)
          rw [if_pos (by kernel_rfl)]
          refine wp_store_row 49 (.tmp 8) (.tmp 18) rfl w3.heap.size #[.int .i64 q0, .int .i64 q1, .int .i64 q2, .int .i64 q3, .int .i64 q4, .int .i64 q5, .int .i64 q6, .int .i64 q7, .int .i64 q8, .int .i64 q9, .int .i64 q10] rfl rfl _ _ BB.out want_size rfl (wt_one _ _ _ _ _ _ _ _ _ _ _) ?_
          have k9 := setRow_ch w5 w3.heap.size #[.int .i64 q0, .int .i64 q1, .int .i64 q2, .int .i64 q3, .int .i64 q4, .int .i64 q5, .int .i64 q6, .int .i64 q7, .int .i64 q8, .int .i64 q9, .int .i64 q10]
          have hS6 := hS5.st k9 LB.out
          have OD := hid (OD.out.ch k9 (fun q hq e => NB.out q hq e))
          have AA := hid ((k9.block _ (lt_of_block AA.out) (fun e => NAB.out e.symm)).trans AA.out)
          have BB := hid (setRow_blk (c := #[.int .i64 q0, .int .i64 q1, .int .i64 q2, .int .i64 q3, .int .i64 q4, .int .i64 q5, .int .i64 q6, .int .i64 q7, .int .i64 q8, .int .i64 q9, .int .i64 q10]) BB.out)
          clear k9
          generalize w5.setRow w3.heap.size #[.int .i64 q0, .int .i64 q1, .int .i64 q2, .int .i64 q3, .int .i64 q4, .int .i64 q5, .int .i64 q6, .int .i64 q7, .int .i64 q8, .int .i64 q9, .int .i64 q10] = w6 at hS6 AA BB OD ⊢
          refine hK.out _ _ (by exact hS6) (fun _ => ?_)
          clear hK K
          refine wpAnyH_done (by kernel_rfl) ?_ _
          exact ⟨rfl, w2.heap.size, w3.heap.size, ao3, cap3, _, _, _, _, _, _, _, _, _, _, _, _, _, _, _, _, _, _, _, _, _, _, _, _, _, _, _, _, _, _, _, _, rfl, ⟨hS6.g, hS6.p, hS6.c, hS6.e, AA.out, BB.out, ⟨_, OD.out⟩⟩⟩
        · go_simp
          have g3 : Gr w2 (w2.alloc (.cells #[.int .i64 0, .int .i64 0, .int .i64 0, .int .i64 0, .int .i64 0, .int .i64 0, .int .i64 0, .int .i64 0, .int .i64 0, .int .i64 0, .int .i64 0] 49)) := Ch.alloc (Gr.refl _) _
          have LB := hid (show w.heap.size + 2 < w2.heap.size from lt_of_block hS2.e)
          have NB := hid (fun (q : Nat) (hq : Blk (.slice ao3 ks1.length cap3) q) => show q ≠ w2.heap.size from by have l2 := (OD.out.blk hq).2; omega)
          have hS3 := hS2.gr g3
          have OD := hid (OD.out.gr g3)
          have BB := hid (show (w2.alloc (.cells #[.int .i64 0, .int .i64 0, .int .i64 0, .int .i64 0, .int .i64 0, .int .i64 0, .int .i64 0, .int .i64 0, .int .i64 0, .int .i64 0, .int .i64 0] 49)).heap[w2.heap.size]? = some (.cells #[.int .i64 0, .int .i64 0, .int .i64 0, .int .i64 0, .int .i64 0, .int .i64 0, .int .i64 0, .int .i64 0, .int .i64 0, .int .i64 0, .int .i64 0] 49 (0, 0)) from (MapKept.heap_alloc w2 (.cells #[.int .i64 0, .int .i64 0, .int .i64 0, .int .i64 0, .int .i64 0, .int .i64 0, .int .i64 0, .int .i64 0, .int .i64 0, .int .i64 0, .int .i64 0] 49)).1)
          clear g3
          generalize w2.alloc (.cells #[.int .i64 0, .int .i64 0, .int .i64 0, .int .i64 0, .int .i64 0, .int .i64 0, .int .i64 0, .int .i64 0, .int .i64 0, .int .i64 0, .int .i64 0] 49) = w3 at hS3 OD BB ⊢
          refine hK.out _ _ (by exact hS3) (fun _ => ?_)
          clear hK K
          refine wpAnyH_ready (rs := [8]) (by kernel_rfl) (by simp) (AllReadyH.cons rfl (fun K hK => ?_) AllReadyH.nil)
          go_simp
          have g4 : Gr w3 (w3.alloc (.cells #[.int .i64 0, .int .i64 0, .int .i64 0, .int .i64 0, .int .i64 0, .int .i64 0, .int .i64 0, .int .i64 0, .int .i64 0, .int .i64 0, .int .i64 0, .int .i64 0, .int .i64 0, .int .i64 0, .int .i64 0, .int .i64 0, .int .i64 0, .slice none 0 0] 30)) := Ch.alloc (Gr.refl _) _
          have LA := hid (show w.heap.size + 2 < w3.heap.size from lt_of_block hS3.e)
          have NA := hid (fun (q : Nat) (hq : Blk (.slice ao3 ks1.length cap3) q) => show q ≠ w3.heap.size from by have l2 := (OD.out.blk hq).2; omega)
          have NAB := hid (show w2.heap.size ≠ w3.heap.size from by have := lt_of_block BB.out; omega)
          have hS4 := hS3.gr g4
          have OD := hid (OD.out.gr g4)
          have BB := hid (gr_blk BB.out g4)
          have AA := hid (show (w3.alloc (.cells #[.int .i64 0, .int .i64 0, .int .i64 0, .int .i64 0, .int .i64 0, .int .i64 0, .int .i64 0, .int .i64 0, .int .i64 0, .int .i64 0, .int .i64 0, .int .i64 0, .int .i64 0, .int .i64 0, .int .i64 0, .int .i64 0, .int .i64 0, .slice none 0 0] 30)).heap[w3.heap.size]? = some (.cells #[.int .i64 0, .int .i64 0, .int .i64 0, .int .i64 0, .int .i64 0, .int .i64 0, .int .i64 0, .int .i64 0, .int .i64 0, .int .i64 0, .int .i64 0, .int .i64 0, .int .i64 0, .int .i64 0, .int .i64 0, .int .i64 0, .int .i64 0, .slice none 0 0] 30 (0, 0)) from (MapKept.heap_alloc w3 (.cells #[.int .i64 0, .int .i64 0, .int .i64 0, .int .i64 0, .int .i64 0, .int .i64 0, .int .i64 0, .int .i64 0, .int .i64 0, .int .i64 0, .int .i64 0, .int .i64 0, .int .i64 0, .int .i64 0, .int .i64 0, .int .i64 0, .int .i64 0, .slice none 0 0] 30)).1)
          clear g4
          generalize w3.alloc (.cells #[.int .i64 0, .int .i64 0, .int .i64 0, .int .i64 0, .int .i64 0, .int .i64 0, .int .i64 0, .int .i64 0, .int .i64 0, .int .i64 0, .int .i64 0, .int .i64 0, .int .i64 0, .int .i64 0, .int .i64 0, .int .i64 0, .int .i64 0, .slice none 0 0] 30) = w4 at hS4 OD AA BB ⊢
          refine hK.out _ _ (by exact hS4) (fun _ => ?_)
          clear hK K
          refine wpAnyH_ready (rs := [10]) (by kernel_rfl) (by simp) (AllReadyH.cons rfl (fun K hK => ?_) AllReadyH.nil)
          rw [if_pos (by kernel_rfl)]
          refine wp_store_row 30 (.tmp 7) (.tmp 17) rfl w3.heap.size (cC pc1 rr (.slice ao3 ks1.length cap3)) rfl rfl _ _ AA.out (ctx_size' (HSY.out _ _)) (HSY.out _ _).symm cC_one ?_
          have k9 := setRow_ch w4 w3.heap.size (cC pc1 rr (.slice ao3 ks1.length cap3))
          have hS5 := hS4.st k9 LA.out
          have OD := hid (OD.out.ch k9 (fun q hq e => NA.out q hq e))
          have BB := hid ((k9.block _ (lt_of_block BB.out) (fun e => NAB.out e)).trans BB.out)
          have AA := hid (setRow_blk (c := (cC pc1 rr (.slice ao3 ks1.length cap3))) AA.out)
          clear k9
          generalize w4.setRow w3.heap.size (cC pc1 rr (.slice ao3 ks1.length cap3)) = w5 at hS5 AA BB OD ⊢
          refine hK.out _ _ (by exact hS5) (fun _ => ?_)
          clear hK K
          refine wpAnyH_ready (rs := [11]) (by kernel_rfl) (by simp) (AllReadyH.cons rfl (fun K hK => ?_) AllReadyH.nil)
          rw [if_pos (by kernel_rfl)]
          refine wp_store_row 49 (.tmp 8) (.tmp 18) rfl w2.heap.size #[.int .i64 q0, .int .i64 q1, .int .i64 q2, .int .i64 q3, .int .i64 q4, .int .i64 q5, .int .i64 q6, .int .i64 q7, .int .i64 q8, .int .i64 q9, .int .i64 q10] rfl rfl _ _ BB.out want_size rfl (wt_one _ _ _ _ _ _ _ _ _ _ _) ?_
          have k9 := setRow_ch w5 w2.heap.size #[.int .i64 q0, .int .i64 q1, .int .i64 q2, .int .i64 q3, .int .i64 q4, .int .i64 q5, .int .i64 q6, .int .i64 q7, .int .i64 q8, .int .i64 q9, .int .i64 q10]
          have hS6 := hS5.st k9 LB.out
          have OD := hid (OD.out.ch k9 (fun q hq e => NB.out q hq e))
          have AA := hid ((k9.block _ (lt_of_block AA.out) (fun e => NAB.out e.symm)).trans AA.out)
          have BB := hid (setRow_blk (c := #[.int .i64 q0, .int .i64 q1, .int .i64 q2, .int .i64 q3, .int .i64 q4, .int .i64 q5, .int .i64 q6, .int .i64 q7, .int .i64 q8, .int .i64 q9, .int .i64 q10]) BB.out)
          clear k9
          generalize w5.setRow w2.heap.size #[.int .i64 q0, .int .i64 q1, .int .i64 q2, .int .i64 q3, .int .i64 q4, .int .i64 q5, .int .i64 q6, .int .i64 q7, .int .i64 q8, .int .i64 q9, .int .i64 q10] = w6 at hS6 AA BB OD ⊢
          refine hK.out _ _ (by exact hS6) (fun _ => ?_)
          clear hK K
          refine wpAnyH_done (by kernel_rfl) ?_ _
          exact ⟨rfl, w3.heap.size, w2.heap.size, ao3, cap3, _, _, _, _, _, _, _, _, _, _, _, _, _, _, _, _, _, _, _, _, _, _, _, _, _, _, _, _, _, _, _, _, rfl, ⟨hS6.g, hS6.p, hS6.c, hS6.e, AA.out, BB.out, ⟨_, OD.out⟩⟩⟩
      · go_simp
        have g2 : Gr w1 (w1.alloc (.cells #[.int .i64 0, .int .i64 0, .int .i64 0, .int .i64 0, .int .i64 0, .int .i64 0, .int .i64 0, .int .i64 0, .int .i64 0, .int .i64 0, .int .i64 0, .int .i64 0, .int .i64 0, .int .i64 0, .int .i64 0, .int .i64 0, .int .i64 0, .slice none 0 0] 30)) := Ch.alloc (Gr.refl _) _
        have LA := hid (show w.heap.size + 2 < w1.heap.size from lt_of_block hS1.e)
        have hS2 := hS1.gr g2
        have OT := hid (OT.out.gr g2)
        have AA := hid (show (w1.alloc (.cells #[.int .i64 0, .int .i64 0, .int .i64 0, .int .i64 0, .int .i64 0, .int .i64 0, .int .i64 0, .int .i64 0, .int .i64 0, .int .i64 0, .int .i64 0, .int .i64 0, .int .i64 0, .int .i64 0, .int .i64 0, .int .i64 0, .int .i64 0, .slice none 0 0] 30)).heap[w1.heap.size]? = some (.cells #[.int .i64 0, .int .i64 0, .int .i64 0, .int .i64 0, .int .i64 0, .int .i64 0, .int .i64 0, .int .i64 0, .int .i64 0, .int .i64 0, .int .i64 0, .int .i64 0, .int .i64 0, .int .i64 0, .int .i64 0, .int .i64 0, .int .i64 0, .slice none 0 0] 30 (0, 0)) from (MapKept.heap_alloc w1 (.cells #[.int .i64 0, .int .i64 0, .int .i64 0, .int .i64 0, .int .i64 0, .int .i64 0, .int .i64 0, .int .i64 0, .int .i64 0, .int .i64 0, .int .i64 0, .int .i64 0, .int .i64 0, .int .i64 0, .int .i64 0, .int .i64 0, .int .i64 0, .slice none 0 0] 30)).1)
        clear g2
        generalize w1.alloc (.cells #[.int .i64 0, .int .i64 0, .int .i64 0, .int .i64 0, .int .i64 0, .int .i64 0, .int .i64 0, .int .i64 0, .int .i64 0, .int .i64 0, .int .i64 0, .int .i64 0, .int .i64 0, .int .i64 0, .int .i64 0, .int .i64 0, .int .i64 0, .slice none 0 0] 30) = w2 at hS2 OT AA ⊢
        refine hK.out _ _ (by exact hS2) (fun _ => ?_)
        clear hK K
        refine wpAnyH_ready (rs := [4, 9]) (by kernel_rfl) (by simp) (AllReadyH.cons rfl (fun K hK => ?_) (AllReadyH.cons rfl (fun K hK => ?_) AllReadyH.nil))
        · go_simp
          refine (HP.out _ hS2.g _ _ _ _ OT.out).mono ?_
          rintro e w3 ⟨ao3, n3, cap3, rfl, o3, g3⟩
          obtain rfl : n3 = ks1.length := o3.len.1
          have NA := hid (fun (q : Nat) (hq : Blk (.slice ao3 ks1.length cap3) q) => show q ≠ w1.heap.size from by have l1 := lt_of_block AA.out; have l2 := (o3.blk hq).1; omega)
          have hS3 := hS2.gr g3
          have AA := hid (gr_blk AA.out g3)
          have OD := hid o3
          clear o3 OT g3
          refine hK.out _ _ (by exact hS3) (fun _ => ?_)
          clear hK K
          refine takeS_on (i := 5) 11 (v := ?v7) rfl rfl (by kernel_rfl) (by kernel_rfl) (by kernel_rfl) (fun _ _ _ h => nomatch h.1) (by kernel_rfl) ?hy7 (by exact hS3) ?_
          case hy7 => (intro w' hSw; go_simp; try (with_reducible rfl))
          simp only [Act.put, List.setIfInBounds_toArray, List.set_cons_zero, List.set_cons_succ]
          refine takeS_on (i := 6) 17 (v := ?v8) rfl rfl (by kernel_rfl) (by kernel_rfl) (by kernel_rfl) (fun _ _ _ h => nomatch h.1) (by kernel_rfl) ?hy8 (by exact hS3) ?_
          case hy8 => (intro w' hSw; go_simp; try (with_reducible rfl))
          simp only [Act.put, List.setIfInBounds_toArray, List.set_cons_zero, List.set_cons_succ]
          refine takeS_on (i := 7) 18 (v := ?v9) rfl rfl (by kernel_rfl) (by kernel_rfl) (by kernel_rfl) (fun _ _ _ h => nomatch h.1) (by kernel_rfl) ?hy9 (by exact hS3) ?_
          case hy9 => (intro w' hSw; go_simp; try (with_reducible rfl))
          simp only [Act.put, List.setIfInBounds_toArray, List.set_cons_zero, List.set_cons_succ]
          refine wpAnyH_ready (rs := [9]) (by kernel_rfl) (by simp) (AllReadyH.cons rfl (fun K hK => ?_) AllReadyH.nil)
          go_simp
          have g4 : Gr w3 (w3.alloc (.cells #[.int .i64 0, .int .i64 0, .int .i64 0, .int .i64 0, .int .i64 0, .int .i64 0, .int .i64 0, .int .i64 0, .int .i64 0, .int .i64 0, .int .i64 0] 49)) := Ch.alloc (Gr.refl _) _
          have LB := hid (show w.heap.size + 2 < w3.heap.size from lt_of_block hS3.e)
          have NB := hid (fun (q : Nat) (hq : Blk (.slice ao3 ks1.length cap3) q) => show q ≠ w3.heap.size from by have l2 := (OD.out.blk hq).2; omega)
          have NAB := hid (show w3.heap.size ≠ w1.heap.size from by have := lt_of_block AA.out; omega)
          have hS4 := hS3.gr g4
          have OD := hid (OD.out.gr g4)
          have AA := hid (gr_blk AA.out g4)
          have BB := hid (show (w3.alloc (.cells #[.int .i64 0, .int .i64 0, .int .i64 0, .int .i64 0, .int .i64 0, .int .i64 0, .int .i64 0, .int .i64 0, .int .i64 0, .int .i64 0, .int .i64 0] 49)).heap[w3.heap.size]? = some (.cells #[.int .i64 0, .int .i64 0, .int .i64 0, .int .i64 0, .int .i64 0, .int .i64 0, .int .i64 0, .int .i64 0, .int .i64 0, .int .i64 0, .int .i64 0] 49 (0, 0)) from (MapKept.heap_alloc w3 (.cells #[.int .i64 0, .int .i64 0, .int .i64 0, .int .i64 0, .int .i64 0, .int .i64 0, .int .i64 0, .int .i64 0, .int .i64 0, .int .i64 0, .int .i64 0] 49)).1)
          clear g4
          generalize w3.alloc (.cells #[.int .i64 0, .int .i64 0, .int .i64 0, .int .i64 0, .int .i64 0, .int .i64 0, .int .i64 0, .int .i64 0, .int .i64 0, .int .i64 0, .int .i64 0] 49) = w4 at hS4 OD AA BB ⊢
          refine hK.out _ _ (by exact hS4) (fun _ => ?_)
          clear hK K
          refine wpAnyH_ready (rs := [10]) (by kernel_rfl) (by simp) (AllReadyH.cons rfl (fun K hK => ?_) AllReadyH.nil)
          rw [if_pos (by kernel_rfl)]
          refine wp_store_row 30 (.tmp 7) (.tmp 17) rfl w1.heap.size (cC pc1 rr (.slice ao3 ks1.length cap3)) rfl rfl _ _ AA.out (ctx_size' (HSY.out _ _)) (HSY.out _ _).symm cC_one ?_
          have k9 := setRow_ch w4 w1.heap.size (cC pc1 rr (.slice ao3 ks1.length cap3))
          have hS5 := hS4.st k9 LA.out
          have OD := hid (OD.out.ch k9 (fun q hq e => NA.out q hq e))
          have BB := hid ((k9.block _ (lt_of_block BB.out) (fun e => NAB.out e)).trans BB.out)
          have AA := hid (setRow_blk (c := (cC pc1 rr (.slice ao3 ks1.length cap3))) AA.out)
          clear k9
          generalize w4.setRow w1.heap.size (cC pc1 rr (.slice ao3 ks1.length cap3)) = w5 at hS5 AA BB OD ⊢
          refine hK.out _ _ (by exact hS5) (fun _ => ?_)
          clear hK K
          refine wpAnyH_ready (rs := [11]) (by kernel_rfl) (by simp) (AllReadyH.cons rfl (fun K hK => ?_) AllReadyH.nil)
          rw [if_pos (by kernel_rfl)]
          refine wp_store_row 49 (.tmp 8) (.tmp 18) rfl w3.heap.size #[.int .i64 q0, .int .i64 q1, .int .i64 q2, .int .i64 q3, .int .i64 q4, .int .i64 q5, .int .i64 q6, .int .i64 q7, .int .i64 q8, .int .i64 q9, .int .i64 q10] rfl rfl _ _ BB.out want_size rfl (wt_one _ _ _ _ _ _ _ _ _ _ _) ?_
          have k9 := setRow_ch w5 w3.heap.size #[.int .i64 q0, .int .i64 q1, .int .i64 q2, .int .i64 q3, .int .i64 q4, .int .i64 q5, .int .i64 q6, .int .i64 q7, .int .i64 q8, .int .i64 q9, .int .i64 q10]
          have hS6 := hS5.st k9 LB.out
          have OD := hid (OD.out.ch k9 (fun q hq e => NB.out q hq e))
          have AA := hid ((k9.block _ (lt_of_block AA.out) (fun e => NAB.out e.symm)).trans AA.out)
          have BB := hid (setRow_blk (c := #[.int .i64 q0, .int .i64 q1, .int .i64 q2, .int .i64 q3, .int .i64 q4, .int .i64 q5, .int .i64 q6, .int .i64 q7, .int .i64 q8, .int .i64 q9, .int .i64 q10]) BB.out)
          clear k9
          generalize w5.setRow w3.heap.size #[.int .i64 q0, .int .i64 q1, .int .i64 q2, .int .i64 q3, .int .i64 q4, .int .i64 q5, .int .i64 q6, .int .i64 q7, .int .i64 q8, .int .i64 q9, .int .i64 q10] = w6 at hS6 AA BB OD ⊢
          refine hK.out _ _ (by exact hS6) (fun _ => ?_)
          clear hK K
          refine wpAnyH_done (by kernel_rfl) ?_ _
          exact ⟨rfl, w1.heap.size, w3.heap.size, ao3, cap3, _, _, _, _, _, _, _, _, _, _, _, _, _, _, _, _, _, _, _, _, _, _, _, _, _, _, _, _, _, _, _, _, rfl, ⟨hS6.g, hS6.p, hS6.c, hS6.e, AA.out, BB.out, ⟨_, OD.out⟩⟩⟩
        · go_simp
          have g3 : Gr w2 (w2.alloc (.cells #[.int .i64 0, .int .i64 0, .int .i64 0, .int .i64 0, .int .i64 0, .int .i64 0, .int .i64 0, .int .i64 0, .int .i64 0, .int .i64 0, .int .i64 0] 49)) := Ch.alloc (Gr.refl _) _
          have LB := hid (show w.heap.size + 2 < w2.heap.size from lt_of_block hS2.e)
          have NAB := hid (show w2.heap.size ≠ w1.heap.size from by have := lt_of_block AA.out; omega)
          have hS3 := hS2.gr g3
          have OT := hid (OT.out.gr g3)
          have AA := hid (gr_blk AA.out g3)
          have BB := hid (show (w2.alloc (.cells #[.int .i64 0, .int .i64 0, .int .i64 0, .int .i64 0, .int .i64 0, .int .i64 0, .int .i64 0, .int .i64 0, .int .i64 0, .int .i64 0, .int .i64 0] 49)).heap[w2.heap.size]? = some (.cells #[.int .i64 0, .int .i64 0, .int .i64 0, .int .i64 0, .int .i64 0, .int .i64 0, .int .i64 0, .int .i64 0, .int .i64 0, .int .i64 0, .int .i64 0] 49 (0, 0)) from (MapKept.heap_alloc w2 (.cells #[.int .i64 0, .int .i64 0, .int .i64 0, .int .i64 0, .int .i64 0, .int .i64 0, .int .i64 0, .int .i64 0, .int .i64 0, .int .i64 0, .int .i64 0] 49)).1)
          clear g3
          generalize w2.alloc (.cells #[.int .i64 0, .int .i64 0, .int .i64 0, .int .i64 0, .int .i64 0, .int .i64 0, .int .i64 0, .int .i64 0, .int .i64 0, .int .i64 0, .int .i64 0] 49) = w3 at hS3 OT AA BB ⊢
          refine hK.out _ _ (by exact hS3) (fun _ => ?_)
          clear hK K
          refine wpAnyH_ready (rs := [4]) (by kernel_rfl) (by simp) (AllReadyH.cons rfl (fun K hK => ?_) AllReadyH.nil)
          go_simp
          refine (HP.out _ hS3.g _ _ _ _ OT.out).mono ?_
          rintro e w4 ⟨ao3, n3, cap3, rfl, o3, g4⟩
          obtain rfl : n3 = ks1.length := o3.len.1
          have NA := hid (fun (q : Nat) (hq : Blk (.slice ao3 ks1.length cap3) q) => show q ≠ w1.heap.size from by have l1 := lt_of_block AA.out; have l2 := (o3.blk hq).1; omega)
          have NB := hid (fun (q : Nat) (hq : Blk (.slice ao3 ks1.length cap3) q) => show q ≠ w2.heap.size from by have l1 := lt_of_block BB.out; have l2 := (o3.blk hq).1; omega)
          have hS4 := hS3.gr g4
          have AA := hid (gr_blk AA.out g4)
          have BB := hid (gr_blk BB.out g4)
          have OD := hid o3
          clear o3 OT g4
          refine hK.out _ _ (by exact hS4) (fun _ => ?_)
          clear hK K
          refine takeS_on (i := 5) 11 (v := ?v10) rfl rfl (by kernel_rfl) (by kernel_rfl) (by kernel_rfl) (fun _ _ _ h => nomatch h.1) (by kernel_rfl) ?hy10 (by exact hS4) ?_
          case hy10 => (intro w' hSw; go_simp; try (with_reducible rfl))
          simp only [Act.put, List.setIfInBounds_toArray, List.set_cons_zero, List.set_cons_succ]
          refine takeS_on (i := 6) 17 (v := ?v11) rfl rfl (by kernel_rfl) (by kernel_rfl) (by kernel_rfl) (fun _ _ _ h => nomatch h.1) (by kernel_rfl) ?hy11 (by exact hS4) ?_
          case hy11 => (intro w' hSw; go_simp; try (with_reducible rfl))
          simp only [Act.put, List.setIfInBounds_toArray, List.set_cons_zero, List.set_cons_succ]
          refine takeS_on (i := 7) 18 (v := ?v12) rfl rfl (by kernel_rfl) (by kernel_rfl) (by kernel_rfl) (fun _ _ _ h => nomatch h.1) (by kernel_rfl) ?hy12 (by exact hS4) ?_
          case hy12 => (intro w' hSw; go_simp; try (with_reducible rfl))
          simp only [Act.put, List.setIfInBounds_toArray, List.set_cons_zero, List.set_cons_succ]
          refine wpAnyH_ready (rs := [10]) (by kernel_rfl) (by simp) (AllReadyH.cons rfl (fun K hK => ?_) AllReadyH.nil)
          rw [if_pos (by kernel_rfl)]
          refine wp_store_row 30 (.tmp 7) (.tmp 17) rfl w1.heap.size (cC pc1 rr (.slice ao3 ks1.length cap3)) rfl rfl _ _ AA.out (ctx_size' (HSY.out _ _)) (HSY.out _ _).symm cC_one ?_
          have k9 := setRow_ch w4 w1.heap.size (cC pc1 rr (.slice ao3 ks1.length cap3))
          have hS5 := hS4.st k9 LA.out
          have OD := hid (OD.out.ch k9 (fun q hq e => NA.out q hq e))
          have BB := hid ((k9.block _ (lt_of_block BB.out) (fun e => NAB.out e)).trans BB.out)
          have AA := hid (setRow_blk (c := (cC pc1 rr (.slice ao3 ks1.length cap3))) AA.out)
          clear k9
          generalize w4.setRow w1.heap.size (cC pc1 rr (.slice ao3 ks1.length cap3)) = w5 at hS5 AA BB OD ⊢
          refine hK.out _ _ (by exact hS5) (fun _ => ?_)
          clear hK K
          refine wpAnyH_ready (rs := [11]) (by kernel_rfl) (by simp) (AllReadyH.cons rfl (fun K hK => ?_) AllReadyH.nil)
          rw [if_pos (by kernel_rfl)]
          refine wp_store_row 49 (.tmp 8) (.tmp 18) rfl w2.heap.size #[.int .i64 q0, .int .i64 q1, .int .i64 q2, .int .i64 q3, .int .i64 q4, .int .i64 q5, .int .i64 q6, .int .i64 q7, .int .i64 q8, .int .i64 q9, .int .i64 q10] rfl rfl _ _ BB.out want_size rfl (wt_one _ _ _ _ _ _ _ _ _ _ _) ?_
          have k9 := setRow_ch w5 w2.heap.size #[.int .i64 q0, .int .i64 q1, .int .i64 q2, .int .i64 q3, .int .i64 q4, .int .i64 q5, .int .i64 q6, .int .i64 q7, .int .i64 q8, .int .i64 q9, .int .i64 q10]
          have hS6 := hS5.st k9 LB.out
          have OD := hid (OD.out.ch k9 (fun q hq e => NB.out q hq e))
          have AA := hid ((k9.block _ (lt_of_block AA.out) (fun e => NAB.out e.symm)).trans AA.out)
          have BB := hid (setRow_blk (c := #[.int .i64 q0, .int .i64 q1, .int .i64 q2, .int .i64 q3, .int .i64 q4, .int .i64 q5, .int .i64 q6, .int .i64 q7, .int .i64 q8, .int .i64 q9, .int .i64 q10]) BB.out)
          clear k9
          generalize w5.setRow w2.heap.size #[.int .i64 q0, .int .i64 q1, .int .i64 q2, .int .i64 q3, .int .i64 q4, .int .i64 q5, .int .i64 q6, .int .i64 q7, .int .i64 q8, .int .i64 q9, .int .i64 q10] = w6 at hS6 AA BB OD ⊢
          refine hK.out _ _ (by exact hS6) (fun _ => ?_)
          clear hK K
          refine wpAnyH_done (by kernel_rfl) ?_ _
          exact ⟨rfl, w1.heap.size, w2.heap.size, ao3, cap3, _, _, _, _, _, _, _, _, _, _, _, _, _, _, _, _, _, _, _, _, _, _, _, _, _, _, _, _, _, _, _, _, rfl, ⟨hS6.g, hS6.p, hS6.c, hS6.e, AA.out, BB.out, ⟨_, OD.out⟩⟩⟩
      · go_simp
        have g2 : Gr w1 (w1.alloc (.cells #[.int .i64 0, .int .i64 0, .int .i64 0, .int .i64 0, .int .i64 0, .int .i64 0, .int .i64 0, .int .i64 0, .int .i64 0, .int .i64 0, .int .i64 0] 49)) := Ch.alloc (Gr.refl _) _
        have LB := hid (show w.heap.size + 2 < w1.heap.size from lt_of_block hS1.e)
        have hS2 := hS1.gr g2
        have OT := hid (OT.out.gr g2)
        have BB := hid (show (w1.alloc (.cells #[.int .i64 0, .int .i64 0, .int .i64 0, .int .i64 0, .int .i64 0, .int .i64 0, .int .i64 0, .int .i64 0, .int .i64 0, .int .i64 0, .int .i64 0] 49)).heap[w1.heap.size]? = some (.cells #[.int .i64 0, .int .i64 0, .int .i64 0, .int .i64 0, .int .i64 0, .int .i64 0, .int .i64 0, .int .i64 0, .int .i64 0, .int .i64 0, .int .i64 0] 49 (0, 0)) from (MapKept.heap_alloc w1 (.cells #[.int .i64 0, .int .i64 0, .int .i64 0, .int .i64 0, .int .i64 0, .int .i64 0, .int .i64 0, .int .i64 0, .int .i64 0, .int .i64 0, .int .i64 0] 49)).1)
        clear g2
        generalize w1.alloc (.cells #[.int .i64 0, .int .i64 0, .int .i64 0, .int .i64 0, .int .i64 0, .int .i64 0, .int .i64 0, .int .i64 0, .int .i64 0, .int .i64 0, .int .i64 0] 49) = w2 at hS2 OT BB ⊢
        refine hK.out _ _ (by exact hS2) (fun _ => ?_)
        clear hK K
        refine wpAnyH_ready (rs := [4, 8]) (by kernel_rfl) (by simp) (AllReadyH.cons rfl (fun K hK => ?_) (AllReadyH.cons rfl (fun K hK => ?_) AllReadyH.nil))
        · go_simp
          refine (HP.out _ hS2.g _ _ _ _ OT.out).mono ?_
          rintro e w3 ⟨ao3, n3, cap3, rfl, o3, g3⟩
          obtain rfl : n3 = ks1.length := o3.len.1
          have NB := hid (fun (q : Nat) (hq : Blk (.slice ao3 ks1.length cap3) q) => show q ≠ w1.heap.size from by have l1 := lt_of_block BB.out; have l2 := (o3.blk hq).1; omega)
          have hS3 := hS2.gr g3
          have BB := hid (gr_blk BB.out g3)
          have OD := hid o3
          clear o3 OT g3
          refine hK.out _ _ (by exact hS3) (fun _ => ?_)
          clear hK K
          refine takeS_on (i := 5) 11 (v := ?v13) rfl rfl (by kernel_rfl) (by kernel_rfl) (by kernel_rfl) (fun _ _ _ h => nomatch h.1) (by kernel_rfl) ?hy13 (by exact hS3) ?_
          case hy13 => (intro w' hSw; go_simp; try (with_reducible rfl))
          simp only [Act.put, List.setIfInBounds_toArray, List.set_cons_zero, List.set_cons_succ]
          refine takeS_on (i := 6) 17 (v := ?v14) rfl rfl (by kernel_rfl) (by kernel_rfl) (by kernel_rfl) (fun _ _ _ h => nomatch h.1) (by kernel_rfl) ?hy14 (by exact hS3) ?_
          case hy14 => (intro w' hSw; go_simp; try (with_reducible rfl))
          simp only [Act.put, List.setIfInBounds_toArray, List.set_cons_zero, List.set_cons_succ]
          refine takeS_on (i := 7) 18 (v := ?v15) rfl rfl (by kernel_rfl) (by kernel_rfl) (by kernel_rfl) (fun _ _ _ h => nomatch h.1) (by kernel_rfl) ?hy15 (by exact hS3) ?_
          case hy15 => (intro w' hSw; go_simp; try (with_reducible rfl))
          simp only [Act.put, List.setIfInBounds_toArray, List.set_cons_zero, List.set_cons_succ]
          refine wpAnyH_ready (rs := [8]) (by kernel_rfl) (by simp) (AllReadyH.cons rfl (fun K hK => ?_) AllReadyH.nil)
          go_simp
          have g4 : Gr w3 (w3.alloc (.cells #[.int .i64 0, .int .i64 0, .int .i64 0, .int .i64 0, .int .i64 0, .int .i64 0, .int .i64 0, .int .i64 0, .int .i64 0, .int .i64 0, .int .i64 0, .int .i64 0, .int .i64 0, .int .i64 0, .int .i64 0, .int .i64 0, .int .i64 0, .slice none 0 0] 30)) := Ch.alloc (Gr.refl _) _
          have LA := hid (show w.heap.size + 2 < w3.heap.size from lt_of_block hS3.e)
          have NA := hid (fun (q : Nat) (hq : Blk (.slice ao3 ks1.length cap3) q) => show q ≠ w3.heap.size from by have l2 := (OD.out.blk hq).2; omega)
          have NAB := hid (show w1.heap.size ≠ w3.heap.size from by have := lt_of_block BB.out; omega)
          have hS4 := hS3.gr g4
          have OD := hid (OD.out.gr g4)
          have BB := hid (gr_blk BB.out g4)
          have AA := hid (show (w3.alloc (.cells #[.int .i64 0, .int .i64 0, .int .i64 0, .int .i64 0, .int .i64 0, .int .i64 0, .int .i64 0, .int .i64 0, .int .i64 0, .int .i64 0, .int .i64 0, .int .i64 0, .int .i64 0, .int .i64 0, .int .i64 0, .int .i64 0, .int .i64 0, .slice none 0 0] 30)).heap[w3.heap.size]? = some (.cells #[.int .i64 0, .int .i64 0, .int .i64 0, .int .i64 0, .int .i64 0, .int .i64 0, .int .i64 0, .int .i64 0, .int .i64 0, .int .i64 0, .int .i64 0, .int .i64 0, .int .i64 0, .int .i64 0, .int .i64 0, .int .i64 0, .int .i64 0, .slice none 0 0] 30 (0, 0)) from (MapKept.heap_alloc w3 (.cells #[.int .i64 0, .int .i64 0, .int .i64 0, .int .i64 0, .int .i64 0, .int .i64 0, .int .i64 0, .int .i64 0, .int .i64 0, .int .i64 0, .int .i64 0, .int .i64 0, .int .i64 0, .int .i64 0, .int .i64 0, .int .i64 0, .int .i64 0, .slice none 0 0] 30)).1)
          clear g4
          generalize w3.alloc (.cells #[.int .i64 0, .int .i64 0, .int .i64 0, .int .i64 0, .int .i64 0, .int .i64 0, .int .i64 0, .int .i64 0, .int .i64 0, .int .i64 0, .int .i64 0, .int .i64 0, .int .i64 0, .int .i64 0, .int .i64 0, .int .i64 0, .int .i64 0, .slice none 0 0] 30) = w4 at hS4 OD AA BB ⊢
          refine hK.out _ _ (by exact hS4) (fun _ => ?_)
          clear hK K
          refine wpAnyH_ready (rs := [10]) (by kernel_rfl) (by simp) (AllReadyH.cons rfl (fun K hK => ?_) AllReadyH.nil)
          rw [if_pos (by kernel_rfl)]
          refine wp_store_row 30 (.tmp 7) (.tmp 17) rfl w3.heap.size (cC pc1 rr (.slice ao3 ks1.length cap3)) rfl rfl _ _ AA.out (ctx_size' (HSY.out _ _)) (HSY.out _ _).symm cC_one ?_
          have k9 := setRow_ch w4 w3.heap.size (cC pc1 rr (.slice ao3 ks1.length cap3))
          have hS5 := hS4.st k9 LA.out
          have OD := hid (OD.out.ch k9 (fun q hq e => NA.out q hq e))
          have BB := hid ((k9.block _ (lt_of_block BB.out) (fun e => NAB.out e)).trans BB.out)
          have AA := hid (setRow_blk (c := (cC pc1 rr (.slice ao3 ks1.length cap3))) AA.out)
          clear k9
          generalize w4.setRow w3.heap.size (cC pc1 rr (.slice ao3 ks1.length cap3)) = w5 at hS5 AA BB OD ⊢
          refine hK.out _ _ (by exact hS5) (fun _ => ?_)
          clear hK K
          refine wpAnyH_ready (rs := [11]) (by kernel_rfl) (by simp) (AllReadyH.cons rfl (fun K hK => ?_) AllReadyH.nil)
          rw [if_pos (by kernel_rfl)]
          refine wp_store_row 49 (.tmp 8) (.tmp 18) rfl w1.heap.size #[.int .i64 q0, .int .i64 q1, .int .i64 q2, .int .i64 q3, .int .i64 q4, .int .i64 q5, .int .i64 q6, .int .i64 q7, .int .i64 q8, .int .i64 q9, .int .i64 q10] rfl rfl _ _ BB.out want_size rfl (wt_one _ _ _ _ _ _ _ _ _ _ _) ?_
          have k9 := setRow_ch w5 w1.heap.size #[.int .i64 q0, .int .i64 q1, .int .i64 q2, .int .i64 q3, .int .i64 q4, .int .i64 q5, .int .i64 q6, .int .i64 q7, .int .i64 q8, .int .i64 q9, .int .i64 q10]
          have hS6 := hS5.st k9 LB.out
          have OD := hid (OD.out.ch k9 (fun q hq e => NB.out q hq e))
          have AA := hid ((k9.block _ (lt_of_block AA.out) (fun e => NAB.out e.symm)).trans AA.out)
          have BB := hid (setRow_blk (c := #[.int .i64 q0, .int .i64 q1, .int .i64 q2, .int .i64 q3, .int .i64 q4, .int .i64 q5, .int .i64 q6, .int .i64 q7, .int .i64 q8, .int .i64 q9, .int .i64 q10]) BB.out)
          clear k9
          generalize w5.setRow w1.heap.size #[.int .i64 q0, .int .i64 q1, .int .i64 q2, .int .i64 q3, .int .i64 q4, .int .i64 q5, .int .i64 q6, .int .i64 q7, .int .i64 q8, .int .i64 q9, .int .i64 q10] = w6 at hS6 AA BB OD ⊢
          refine hK.out _ _ (by exact hS6) (fun _ => ?_)
          clear hK K
          refine wpAnyH_done (by kernel_rfl) ?_ _
          exact ⟨rfl, w3.heap.size, w1.heap.size, ao3, cap3, _, _, _, _, _, _, _, _, _, _, _, _, _, _, _, _, _, _, _, _, _, _, _, _, _, _, _, _, _, _, _, _, rfl, ⟨hS6.g, hS6.p, hS6.c, hS6.e, AA.out, BB.out, ⟨_, OD.out⟩⟩⟩
        · go_simp
          have g3 : Gr w2 (w2.alloc (.cells #[.int .i64 0, .int .i64 0, .int .i64 0, .int .i64 0, .int .i64 0, .int .i64 0, .int .i64 0, .int .i64 0, .int .i64 0, .int .i64 0, .int .i64 0, .int .i64 0, .int .i64 0, .int .i64 0, .int .i64 0, .int .i64 0, .int .i64 0, .slice none 0 0] 30)) := Ch.alloc (Gr.refl _) _
          have LA := hid (show w.heap.size + 2 < w2.heap.size from lt_of_block hS2.e)
          have NAB := hid (show w1.heap.size ≠ w2.heap.size from by have := lt_of_block BB.out; omega)
          have hS3 := hS2.gr g3
          have OT := hid (OT.out.gr g3)
          have BB := hid (gr_blk BB.out g3)
          have AA := hid (show (w2.alloc (.cells #[.int .i64 0, .int .i64 0, .int .i64 0, .int .i64 0, .int .i64 0, .int .i64 0, .int .i64 0, .int .i64 0, .int .i64 0, .int .i64 0, .int .i64 0, .int .i64 0, .int .i64 0, .int .i64 0, .int .i64 0, .int .i64 0, .int .i64 0, .slice none 0 0] 30)).heap[w2.heap.size]? = some (.cells #[.int .i64 0, .int .i64 0, .int .i64 0, .int .i64 0, .int .i64 0, .int .i64 0, .int .i64 0, .int .i64 0, .int .i64 0, .int .i64 0, .int .i64 0, .int .i64 0, .int .i64 0, .int .i64 0, .int .i64 0, .int .i64 0, .int .i64 0, .slice none 0 0] 30 (0, 0)) from (MapKept.heap_alloc w2 (.cells #[.int .i64 0, .int .i64 0, .int .i64 0, .int .i64 0, .int .i64 0, .int .i64 0, .int .i64 0, .int .i64 0, .int .i64 0, .int .i64 0, .int .i64 0, .int .i64 0, .int .i64 0, .int .i64 0, .int .i64 0, .int .i64 0, .int .i64 0, .slice none 0 0] 30)).1)
          clear g3
          generalize w2.alloc (.cells #[.int .i64 0, .int .i64 0, .int .i64 0, .int .i64 0, .int .i64 0, .int .i64 0, .int .i64 0, .int .i64 0, .int .i64 0, .int .i64 0, .int .i64 0, .int .i64 0, .int .i64 0, .int .i64 0, .int .i64 0, .int .i64 0, .int .i64 0, .slice none 0 0] 30) = w3 at hS3 OT AA BB ⊢
          refine hK.out _ _ (by exact hS3) (fun _ => ?_)
          clear hK K
          refine wpAnyH_ready (rs := [4]) (by kernel_rfl) (by simp) (AllReadyH.cons rfl (fun K hK => ?_) AllReadyH.nil)
          go_simp
          refine (HP.out _ hS3.g _ _ _ _ OT.out).mono ?_
          rintro e w4 ⟨ao3, n3, cap3, rfl, o3, g4⟩
          obtain rfl : n3 = ks1.length := o3.len.1
          have NA := hid (fun (q : Nat) (hq : Blk (.slice ao3 ks1.length cap3) q) => show q ≠ w2.heap.size from by have l1 := lt_of_block AA.out; have l2 := (o3.blk hq).1; omega)
          have NB := hid (fun (q : Nat) (hq : Blk (.slice ao3 ks1.length cap3) q) => show q ≠ w1.heap.size from by have l1 := lt_of_block BB.out; have l2 := (o3.blk hq).1; omega)
          have hS4 := hS3.gr g4
          have AA := hid (gr_blk AA.out g4)
          have BB := hid (gr_blk BB.out g4)
          have OD := hid o3
          clear o3 OT g4
          refine hK.out _ _ (by exact hS4) (fun _ => ?_)
          clear hK K
          refine takeS_on (i := 5) 11 (v := ?v16) rfl rfl (by kernel_rfl) (by kernel_rfl) (by kernel_rfl) (fun _ _ _ h => nomatch h.1) (by kernel_rfl) ?hy16 (by exact hS4) ?_
          case hy16 => (intro w' hSw; go_simp; try (with_reducible rfl))
          simp only [Act.put, List.setIfInBounds_toArray, List.set_cons_zero, List.set_cons_succ]
          refine takeS_on (i := 6) 17 (v := ?v17) rfl rfl (by kernel_rfl) (by kernel_rfl) (by kernel_rfl) (fun _ _ _ h => nomatch h.1) (by kernel_rfl) ?hy17 (by exact hS4) ?_
          case hy17 => (intro w' hSw; go_simp; try (with_reducible rfl))
          simp only [Act.put, List.setIfInBounds_toArray, List.set_cons_zero, List.set_cons_succ]
          refine takeS_on (i := 7) 18 (v := ?v18) rfl rfl (by kernel_rfl) (by kernel_rfl) (by kernel_rfl) (fun _ _ _ h => nomatch h.1) (by kernel_rfl) ?hy18 (by exact hS4) ?_
          case hy18 => (intro w' hSw; go_simp; try (with_reducible rfl))
          simp only [Act.put, List.setIfInBounds_toArray, List.set_cons_zero, List.set_cons_succ]
          refine wpAnyH_ready (rs := [10]) (by kernel_rfl) (by simp) (AllReadyH.cons rfl (fun K hK => ?_) AllReadyH.nil)
          rw [if_pos (by kernel_rfl)]
          refine wp_store_row 30 (.tmp 7) (.tmp 17) rfl w2.heap.size (cC pc1 rr (.slice ao3 ks1.length cap3)) rfl rfl _ _ AA.out (ctx_size' (HSY.out _ _)) (HSY.out _ _).symm cC_one ?_
          have k9 := setRow_ch w4 w2.heap.size (cC pc1 rr (.slice ao3 ks1.length cap3))
          have hS5 := hS4.st k9 LA.out
          have OD := hid (OD.out.ch k9 (fun q hq e => NA.out q hq e))
          have BB := hid ((k9.block _ (lt_of_block BB.out) (fun e => NAB.out e)).trans BB.out)
          have AA := hid (setRow_blk (c := (cC pc1 rr (.slice ao3 ks1.length cap3))) AA.out)
          clear k9
          generalize w4.setRow w2.heap.size (cC pc1 rr (.slice ao3 ks1.length cap3)) = w5 at hS5 AA BB OD ⊢
          refine hK.out _ _ (by exact hS5) (fun _ => ?_)
          clear hK K
          refine wpAnyH_ready (rs := [11]) (by kernel_rfl) (by simp) (AllReadyH.cons rfl (fun K hK => ?_) AllReadyH.nil)
          rw [if_pos (by kernel_rfl)]
          refine wp_store_row 49 (.tmp 8) (.tmp 18) rfl w1.heap.size #[.int .i64 q0, .int .i64 q1, .int .i64 q2, .int .i64 q3, .int .i64 q4, .int .i64 q5, .int .i64 q6, .int .i64 q7, .int .i64 q8, .int .i64 q9, .int .i64 q10] rfl rfl _ _ BB.out want_size rfl (wt_one _ _ _ _ _ _ _ _ _ _ _) ?_
          have k9 := setRow_ch w5 w1.heap.size #[.int .i64 q0, .int .i64 q1, .int .i64 q2, .int .i64 q3, .int .i64 q4, .int .i64 q5, .int .i64 q6, .int .i64 q7, .int .i64 q8, .int .i64 q9, .int .i64 q10]
          have hS6 := hS5.st k9 LB.out
          have OD := hid (OD.out.ch k9 (fun q hq e => NB.out q hq e))
          have AA := hid ((k9.block _ (lt_of_block AA.out) (fun e => NAB.out e.symm)).trans AA.out)
          have BB := hid (setRow_blk (c := #[.int .i64 q0, .int .i64 q1, .int .i64 q2, .int .i64 q3, .int .i64 q4, .int .i64 q5, .int .i64 q6, .int .i64 q7, .int .i64 q8, .int .i64 q9, .int .i64 q10]) BB.out)
          clear k9
          generalize w5.setRow w1.heap.size #[.int .i64 q0, .int .i64 q1, .int .i64 q2, .int .i64 q3, .int .i64 q4, .int .i64 q5, .int .i64 q6, .int .i64 q7, .int .i64 q8, .int .i64 q9, .int .i64 q10] = w6 at hS6 AA BB OD ⊢
          refine hK.out _ _ (by exact hS6) (fun _ => ?_)
          clear hK K
          refine wpAnyH_done (by kernel_rfl) ?_ _
          exact ⟨rfl, w2.heap.size, w1.heap.size, ao3, cap3, _, _, _, _, _, _, _, _, _, _, _, _, _, _, _, _, _, _, _, _, _, _, _, _, _, _, _, _, _, _, _, _, rfl, ⟨hS6.g, hS6.p, hS6.c, hS6.e, AA.out, BB.out, ⟨_, OD.out⟩⟩⟩
    · go_simp
      have g1 : Gr V0 (V0.alloc (.cells #[.int .i64 0, .int .i64 0, .int .i64 0, .int .i64 0, .int .i64 0, .int .i64 0, .int .i64 0, .int .i64 0, .int .i64 0, .int .i64 0, .int .i64 0, .int .i64 0, .int .i64 0, .int .i64 0, .int .i64 0, .int .i64 0, .int .i64 0, .slice none 0 0] 30)) := Ch.alloc (Gr.refl _) _
      have LA := hid (show w.heap.size + 2 < V0.heap.size from lt_of_block hS0.e)
      have hS1 := hS0.gr g1
      have AA := hid (show (V0.alloc (.cells #[.int .i64 0, .int .i64 0, .int .i64 0, .int .i64 0, .int .i64 0, .int .i64 0, .int .i64 0, .int .i64 0, .int .i64 0, .int .i64 0, .int .i64 0, .int .i64 0, .int .i64 0, .int .i64 0, .int .i64 0, .int .i64 0, .int .i64 0, .slice none 0 0] 30)).heap[V0.heap.size]? = some (.cells #[.int .i64 0, .int .i64 0, .int .i64 0, .int .i64 0, .int .i64 0, .int .i64 0, .int .i64 0, .int .i64 0, .int .i64 0, .int .i64 0, .int .i64 0, .int .i64 0, .int .i64 0, .int .i64 0, .int .i64 0, .int .i64 0, .int .i64 0, .slice none 0 0] 30 (0, 0)) from (MapKept.heap_alloc V0 (.cells #[.int .i64 0, .int .i64 0, .int .i64 0, .int .i64 0, .int .i64 0, .int .i64 0, .int .i64 0, .int .i64 0, .int .i64 0, .int .i64 0, .int .i64 0, .int .i64 0, .int .i64 0, .int .i64 0, .int .i64 0, .int .i64 0, .int .i64 0, .slice none 0 0] 30)).1)
      clear g1
      generalize V0.alloc (.cells #[.int .i64 0, .int .i64 0, .int .i64 0, .int .i64 0, .int .i64 0, .int .i64 0, .int .i64 0, .int .i64 0, .int .i64 0, .int .i64 0, .int .i64 0, .int .i64 0, .int .i64 0, .int .i64 0, .int .i64 0, .int .i64 0, .int .i64 0, .slice none 0 0] 30) = w1 at hS1 AA ⊢
      refine hK.out _ _ (by exact hS1) (fun _ => ?_)
      clear hK K
      refine wpAnyH_ready (rs := [2, 9]) (by kernel_rfl) (by simp) (AllReadyH.cons rfl (fun K hK => ?_) (AllReadyH.cons rfl (fun K hK => ?_) AllReadyH.nil))
      · go_simp
        refine (HT.out _ hS1.g).mono ?_
        rintro e w2 ⟨ao2, n2, cap2, rfl, o2, g2⟩
        have hS2 := hS1.gr g2
        have AA := hid (gr_blk AA.out g2)
        have OT := hid o2
        clear o2 g2
        refine hK.out _ _ (by exact hS2) (fun _ => ?_)
        clear hK K
        refine wpAnyH_ready (rs := [4, 9]) (by kernel_rfl) (by simp) (AllReadyH.cons rfl (fun K hK => ?_) (AllReadyH.cons rfl (fun K hK => ?_) AllReadyH.nil))
        · go_simp
          refine (HP.out _ hS2.g _ _ _ _ OT.out).mono ?_
          rintro e w3 ⟨ao3, n3, cap3, rfl, o3, g3⟩
          obtain rfl : n3 = ks1.length := o3.len.1
          have NA := hid (fun (q : Nat) (hq : Blk (.slice ao3 ks1.length cap3) q) => show q ≠ V0.heap.size from by have l1 := lt_of_block AA.out; have l2 := (o3.blk hq).1; omega)
          have hS3 := hS2.gr g3
          have AA := hid (gr_blk AA.out g3)
          have OD := hid o3
          clear o3 OT g3
          refine hK.out _ _ (by exact hS3) (fun _ => ?_)
          clear hK K
          refine takeS_on (i := 5) 11 (v := ?v19) rfl rfl (by kernel_rfl) (by kernel_rfl) (by kernel_rfl) (fun _ _ _ h => nomatch h.1) (by kernel_rfl) ?hy19 (by exact hS3) ?_
          case hy19 => (intro w' hSw; go_simp; try (with_reducible rfl))
          simp only [Act.put, List.setIfInBounds_toArray, List.set_cons_zero, List.set_cons_succ]
          refine takeS_on (i := 6) 17 (v := ?v20) rfl rfl (by kernel_rfl) (by kernel_rfl) (by kernel_rfl) (fun _ _ _ h => nomatch h.1) (by kernel_rfl) ?hy20 (by exact hS3) ?_
          case hy20 => (intro w' hSw; go_simp; try (with_reducible rfl))
          simp only [Act.put, List.setIfInBounds_toArray, List.set_cons_zero, List.set_cons_succ]
          refine takeS_on (i := 7) 18 (v := ?v21) rfl rfl (by kernel_rfl) (by kernel_rfl) (by kernel_rfl) (fun _ _ _ h => nomatch h.1) (by kernel_rfl) ?hy21 (by exact hS3) ?_
          case hy21 => (intro w' hSw; go_simp; try (with_reducible rfl))
          simp only [Act.put, List.setIfInBounds_toArray, List.set_cons_zero, List.set_cons_succ]
          refine wpAnyH_ready (rs := [9]) (by kernel_rfl) (by simp) (AllReadyH.cons rfl (fun K hK => ?_) AllReadyH.nil)
          go_simp
          have g4 : Gr w3 (w3.alloc (.cells #[.int .i64 0, .int .i64 0, .int .i64 0, .int .i64 0, .int .i64 0, .int .i64 0, .int .i64 0, .int .i64 0, .int .i64 0, .int .i64 0, .int .i64 0] 49)) := Ch.alloc (Gr.refl _) _
          have LB := hid (show w.heap.size + 2 < w3.heap.size from lt_of_block hS3.e)
          have NB := hid (fun (q : Nat) (hq : Blk (.slice ao3 ks1.length cap3) q) => show q ≠ w3.heap.size from by have l2 := (OD.out.blk hq).2; omega)
          have NAB := hid (show w3.heap.size ≠ V0.heap.size from by have := lt_of_block AA.out; omega)
          have hS4 := hS3.gr g4
          have OD := hid (OD.out.gr g4)
          have AA := hid (gr_blk AA.out g4)
          have BB := hid (show (w3.alloc (.cells #[.int .i64 0, .int .i64 0, .int .i64 0, .int .i64 0, .int .i64 0, .int .i64 0, .int .i64 0, .int .i64 0, .int .i64 0, .int .i64 0, .int .i64 0] 49)).heap[w3.heap.size]? = some (.cells #[.int .i64 0, .int .i64 0, .int .i64 0, .int .i64 0, .int .i64 0, .int .i64 0, .int .i64 0, .int .i64 0, .int .i64 0, .int .i64 0, .int .i64 0] 49 (0, 0)) from (MapKept.heap_alloc w3 (.cells #[.int .i64 0, .int .i64 0, .int .i64 0, .int .i64 0, .int .i64 0, .int .i64 0, .int .i64 0, .int .i64 0, .int .i64 0, .int .i64 0, .int .i64 0] 49)).1)
          clear g4
          generalize w3.alloc (.cells #[.int .i64 0, .int .i64 0, .int .i64 0, .int .i64 0, .int .i64 0, .int .i64 0, .int .i64 0, .int .i64 0, .int .i64 0, .int .i64 0, .int .i64 0] 49) = w4 at hS4 OD AA BB ⊢
          refine hK.out _ _ (by exact hS4) (fun _ => ?_)
          clear hK K
          refine wpAnyH_ready (rs := [10]) (by kernel_rfl) (by simp) (AllReadyH.cons rfl (fun K hK => ?_) AllReadyH.nil)
          rw [if_pos (by kernel_rfl)]
          refine wp_store_row 30 (.tmp 7) (.tmp 17) rfl V0.heap.size (cC pc1 rr (.slice ao3 ks1.length cap3)) rfl rfl _ _ AA.out (ctx_size' (HSY.out _ _)) (HSY.out _ _).symm cC_one ?_
          have k9 := setRow_ch w4 V0.heap.size (cC pc1 rr (.slice ao3 ks1.length cap3))
          have hS5 := hS4.st k9 LA.out
          have OD := hid (OD.out.ch k9 (fun q hq e => NA.out q hq e))
          have BB := hid ((k9.block _ (lt_of_block BB.out) (fun e => NAB.out e)).trans BB.out)
          have AA := hid (setRow_blk (c := (cC pc1 rr (.slice ao3 ks1.length cap3))) AA.out)
          clear k9
          generalize w4.setRow V0.heap.size (cC pc1 rr (.slice ao3 ks1.length cap3)) = w5 at hS5 AA BB OD ⊢
          refine hK.out _ _ (by exact hS5) (fun _ => ?_)
          clear hK K
          refine wpAnyH_ready (rs := [11]) (by kernel_rfl) (by simp) (AllReadyH.cons rfl (fun K hK => ?_) AllReadyH.nil)
          rw [if_pos (by kernel_rfl)]
          refine wp_store_row 49 (.tmp 8) (.tmp 18) rfl w3.heap.size #[.int .i64 q0, .int .i64 q1, .int .i64 q2, .int .i64 q3, .int .i64 q4, .int .i64 q5, .int .i64 q6, .int .i64 q7, .int .i64 q8, .int .i64 q9, .int .i64 q10] rfl rfl _ _ BB.out want_size rfl (wt_one _ _ _ _ _ _ _ _ _ _ _) ?_
          have k9 := setRow_ch w5 w3.heap.size #[.int .i64 q0, .int .i64 q1, .int .i64 q2, .int .i64 q3, .int .i64 q4, .int .i64 q5, .int .i64 q6, .int .i64 q7, .int .i64 q8, .int .i64 q9, .int .i64 q10]
          have hS6 := hS5.st k9 LB.out
          have OD := hid (OD.out.ch k9 (fun q hq e => NB.out q hq e))
          have AA := hid ((k9.block _ (lt_of_block AA.out) (fun e => NAB.out e.symm)).trans AA.out)
          have BB := hid (setRow_blk (c := #[.int .i64 q0, .int .i64 q1, .int .i64 q2, .int .i64 q3, .int .i64 q4, .int .i64 q5, .int .i64 q6, .int .i64 q7, .int .i64 q8, .int .i64 q9, .int .i64 q10]) BB.out)
          clear k9
          generalize w5.setRow w3.heap.size #[.int .i64 q0, .int .i64 q1, .int .i64 q2, .int .i64 q3, .int .i64 q4, .int .i64 q5, .int .i64 q6, .int .i64 q7, .int .i64 q8, .int .i64 q9, .int .i64 q10] = w6 at hS6 AA BB OD ⊢
          refine hK.out _ _ (by exact hS6) (fun _ => ?_)
          clear hK K
          refine wpAnyH_done (by kernel_rfl) ?_ _
          exact ⟨rfl, V0.heap.size, w3.heap.size, ao3, cap3, _, _, _, _, _, _, _, _, _, _, _, _, _, _, _, _, _, _, _, _, _, _, _, _, _, _, _, _, _, _, _, _, rfl, ⟨hS6.g, hS6.p, hS6.c, hS6.e, AA.out, BB.out, ⟨_, OD.out⟩⟩⟩
        · go_simp
          have g3 : Gr w2 (w2.alloc (.cells #[.int .i64 0, .int .i64 0, .int .i64 0, .int .i64 0, .int .i64 0, .int .i64 0, .int .i64 0, .int .i64 0, .int .i64 0, .int .i64 0, .int .i64 0] 49)) := Ch.alloc (Gr.refl _) _
          have LB := hid (show w.heap.size + 2 < w2.heap.size from lt_of_block hS2.e)
          have NAB := hid (show w2.heap.size ≠ V0.heap.size from by have := lt_of_block AA.out; omega)
          have hS3 := hS2.gr g3
          have OT := hid (OT.out.gr g3)
          have AA := hid (gr_blk AA.out g3)
          have BB := hid (show (w2.alloc (.cells #[.int .i64 0, .int .i64 0, .int .i64 0, .int .i64 0, .int .i64 0, .int .i64 0, .int .i64 0, .int .i64 0, .int .i64 0, .int .i64 0, .int .i64 0] 49)).heap[w2.heap.size]? = some (.cells #[.int .i64 0, .int .i64 0, .int .i64 0, .int .i64 0, .int .i64 0, .int .i64 0, .int .i64 0, .int .i64 0, .int .i64 0, .int .i64 0, .int .i64 0] 49 (0, 0)) from (MapKept.heap_alloc w2 (.cells #[.int .i64 0, .int .i64 0, .int .i64 0, .int .i64 0, .int .i64 0, .int .i64 0, .int .i64 0, .int .i64 0, .int .i64 0, .int .i64 0, .int .i64 0] 49)).1)
          clear g3
          generalize w2.alloc (.cells #[.int .i64 0, .int .i64 0, .int .i64 0, .int .i64 0, .int .i64 0, .int .i64 0, .int .i64 0, .int .i64 0, .int .i64 0, .int .i64 0, .int .i64 0] 49) = w3 at hS3 OT AA BB ⊢
          refine hK.out _ _ (by exact hS3) (fun _ => ?_)
          clear hK K
          refine wpAnyH_ready (rs := [4]) (by kernel_rfl) (by simp) (AllReadyH.cons rfl (fun K hK => ?_) AllReadyH.nil)
          go_simp
          refine (HP.out _ hS3.g _ _ _ _ OT.out).mono ?_
          rintro e w4 ⟨ao3, n3, cap3, rfl, o3, g4⟩
          obtain rfl : n3 = ks1.length := o3.len.1
          have NA := hid (fun (q : Nat) (hq : Blk (.slice ao3 ks1.length cap3) q) => show q ≠ V0.heap.size from by have l1 := lt_of_block AA.out; have l2 := (o3.blk hq).1; omega)
          have NB := hid (fun (q : Nat) (hq : Blk (.slice ao3 ks1.length cap3) q) => show q ≠ w2.heap.size from by have l1 := lt_of_block BB.out; have l2 := (o3.blk hq).1; omega)
          have hS4 := hS3.gr g4
          have AA := hid (gr_blk AA.out g4)
          have BB := hid (gr_blk BB.out g4)
          have OD := hid o3
          clear o3 OT g4
          refine hK.out _ _ (by exact hS4) (fun _ => ?_)
          clear hK K
          refine takeS_on (i := 5) 11 (v := ?v22) rfl rfl (by kernel_rfl) (by kernel_rfl) (by kernel_rfl) (fun _ _ _ h => nomatch h.1) (by kernel_rfl) ?hy22 (by exact hS4) ?_
          case hy22 => (intro w' hSw; go_simp; try (with_reducible rfl))
          simp only [Act.put, List.setIfInBounds_toArray, List.set_cons_zero, List.set_cons_succ]
          refine takeS_on (i := 6) 17 (v := ?v23) rfl rfl (by kernel_rfl) (by kernel_rfl) (by kernel_rfl) (fun _ _ _ h => nomatch h.1) (by kernel_rfl) ?hy23 (by exact hS4) ?_
          case hy23 => (intro w' hSw; go_simp; try (with_reducible rfl))
          simp only [Act.put, List.setIfInBounds_toArray, List.set_cons_zero, List.set_cons_succ]
          refine takeS_on (i := 7) 18 (v := ?v24) rfl rfl (by kernel_rfl) (by kernel_rfl) (by kernel_rfl) (fun _ _ _ h => nomatch h.1) (by kernel_rfl) ?hy24 (by exact hS4) ?_
          case hy24 => (intro w' hSw; go_simp; try (with_reducible rfl))
          simp only [Act.put, List.setIfInBounds_toArray, List.set_cons_zero, List.set_cons_succ]
          refine wpAnyH_ready (rs := [10]) (by kernel_rfl) (by simp) (AllReadyH.cons rfl (fun K hK => ?_) AllReadyH.nil)
          rw [if_pos (by kernel_rfl)]
          refine wp_store_row 30 (.tmp 7) (.tmp 17) rfl V0.heap.size (cC pc1 rr (.slice ao3 ks1.length cap3)) rfl rfl _ _ AA.out (ctx_size' (HSY.out _ _)) (HSY.out _ _).symm cC_one ?_
          have k9 := setRow_ch w4 V0.heap.size (cC pc1 rr (.slice ao3 ks1.length cap3))
          have hS5 := hS4.st k9 LA.out
          have OD := hid (OD.out.ch k9 (fun q hq e => NA.out q hq e))
          have BB := hid ((k9.block _ (lt_of_block BB.out) (fun e => NAB.out e)).trans BB.out)
          have AA := hid (setRow_blk (c := (cC pc1 rr (.slice ao3 ks1.length cap3))) AA.out)
          clear k9
          generalize w4.setRow V0.heap.size (cC pc1 rr (.slice ao3 ks1.length cap3)) = w5 at hS5 AA BB OD ⊢
          refine hK.out _ _ (by exact hS5) (fun _ => ?_)
          clear hK K
          refine wpAnyH_ready (rs := [11]) (by kernel_rfl) (by simp) (AllReadyH.cons rfl (fun K hK => ?_) AllReadyH.nil)
          rw [if_pos (by kernel_rfl)]
          refine wp_store_row 49 (.tmp 8) (.tmp 18) rfl w2.heap.size #[.int .i64 q0, .int .i64 q1, .int .i64 q2, .int .i64 q3, .int .i64 q4, .int .i64 q5, .int .i64 q6, .int .i64 q7, .int .i64 q8, .int .i64 q9, .int .i64 q10] rfl rfl _ _ BB.out want_size rfl (wt_one _ _ _ _ _ _ _ _ _ _ _) ?_
          have k9 := setRow_ch w5 w2.heap.size #[.int .i64 q0, .int .i64 q1, .int .i64 q2, .int .i64 q3, .int .i64 q4, .int .i64 q5, .int .i64 q6, .int .i64 q7, .int .i64 q8, .int .i64 q9, .int .i64 q10]
          have hS6 := hS5.st k9 LB.out
          have OD := hid (OD.out.ch k9 (fun q hq e => NB.out q hq e))
          have AA := hid ((k9.block _ (lt_of_block AA.out) (fun e => NAB.out e.symm)).trans AA.out)
          have BB := hid (setRow_blk (c := #[.int .i64 q0, .int .i64 q1, .int .i64 q2, .int .i64 q3, .int .i64 q4, .int .i64 q5, .int .i64 q6, .int .i64 q7, .int .i64 q8, .int .i64 q9, .int .i64 q10]) BB.out)
          clear k9
          generalize w5.setRow w2.heap.size #[.int .i64 q0, .int .i64 q1, .int .i64 q2, .int .i64 q3, .int .i64 q4, .int .i64 q5, .int .i64 q6, .int .i64 q7, .int .i64 q8, .int .i64 q9, .int .i64 q10] = w6 at hS6 AA BB OD ⊢
          refine hK.out _ _ (by exact hS6) (fun _ => ?_)
          clear hK K
          refine wpAnyH_done (by kernel_rfl) ?_ _
          exact ⟨rfl, V0.heap.size, w2.heap.size, ao3, cap3, _, _, _, _, _, _, _, _, _, _, _, _, _, _, _, _, _, _, _, _, _, _, _, _, _, _, _, _, _, _, _, _, rfl, ⟨hS6.g, hS6.p, hS6.c, hS6.e, AA.out, BB.out, ⟨_, OD.out⟩⟩⟩
      · go_simp
        have g2 : Gr w1 (w1.alloc (.cells #[.int .i64 0, .int .i64 0, .int .i64 0, .int .i64 0, .int .i64 0, .int .i64 0, .int .i64 0, .int .i64 0, .int .i64 0, .int .i64 0, .int .i64 0] 49)) := Ch.alloc (Gr.refl _) _
        have LB := hid (show w.heap.size + 2 < w1.heap.size from lt_of_block hS1.e)
        have NAB := hid (show w1.heap.size ≠ V0.heap.size from by have := lt_of_block AA.out; omega)
        have hS2 := hS1.gr g2
        have AA := hid (gr_blk AA.out g2)
        have BB := hid (show (w1.alloc (.cells #[.int .i64 0, .int .i64 0, .int .i64 0, .int .i64 0, .int .i64 0, .int .i64 0, .int .i64 0, .int .i64 0, .int .i64 0, .int .i64 0, .int .i64 0] 49)).heap[w1.heap.size]? = some (.cells #[.int .i64 0, .int .i64 0, .int .i64 0, .int .i64 0, .int .i64 0, .int .i64 0, .int .i64 0, .int .i64 0, .int .i64 0, .int .i64 0, .int .i64 0] 49 (0, 0)) from (MapKept.heap_alloc w1 (.cells #[.int .i64 0, .int .i64 0, .int .i64 0, .int .i64 0, .int .i64 0, .int .i64 0, .int .i64 0, .int .i64 0, .int .i64 0, .int .i64 0, .int .i64 0] 49)).1)
        clear g2
        generalize w1.alloc (.cells #[.int .i64 0, .int .i64 0, .int .i64 0, .int .i64 0, .int .i64 0, .int .i64 0, .int .i64 0, .int .i64 0, .int .i64 0, .int .i64 0, .int .i64 0] 49) = w2 at hS2 AA BB ⊢
        refine hK.out _ _ (by exact hS2) (fun _ => ?_)
        clear hK K
        refine wpAnyH_ready (rs := [2]) (by kernel_rfl) (by simp) (AllReadyH.cons rfl (fun K hK => ?_) AllReadyH.nil)
        go_simp
        refine (HT.out _ hS2.g).mono ?_
        rintro e w3 ⟨ao2, n2, cap2, rfl, o2, g3⟩
        have hS3 := hS2.gr g3
        have AA := hid (gr_blk AA.out g3)
        have BB := hid (gr_blk BB.out g3)
        have OT := hid o2
        clear o2 g3
        refine hK.out _ _ (by exact hS3) (fun _ => ?_)
        clear hK K
        refine wpAnyH_ready (rs := [4]) (by kernel_rfl) (by simp) (AllReadyH.cons rfl (fun K hK => ?_) AllReadyH.nil)
        go_simp
        refine (HP.out _ hS3.g _ _ _ _ OT.out).mono ?_
        rintro e w4 ⟨ao3, n3, cap3, rfl, o3, g4⟩
        obtain rfl : n3 = ks1.length := o3.len.1
        have NA := hid (fun (q : Nat) (hq : Blk (.slice ao3 ks1.length cap3) q) => show q ≠ V0.heap.size from by have l1 := lt_of_block AA.out; have l2 := (o3.blk hq).1; omega)
        have NB := hid (fun (q : Nat) (hq : Blk (.slice ao3 ks1.length cap3) q) => show q ≠ w1.heap.size from by have l1 := lt_of_block BB.out; have l2 := (o3.blk hq).1; omega)
        have hS4 := hS3.gr g4
        have AA := hid (gr_blk AA.out g4)
        have BB := hid (gr_blk BB.out g4)
        have OD := hid o3
        clear o3 OT g4
        refine hK.out _ _ (by exact hS4) (fun _ => ?_)
        clear hK K
        refine takeS_on (i := 5) 11 (v := ?v25) rfl rfl (by kernel_rfl) (by kernel_rfl) (by kernel_rfl) (fun _ _ _ h => nomatch h.1) (by kernel_rfl) ?hy25 (by exact hS4) ?_
        case hy25 => (intro w' hSw; go_simp; try (with_reducible rfl))
        simp only [Act.put, List.setIfInBounds_toArray, List.set_cons_zero, List.set_cons_succ]
        refine takeS_on (i := 6) 17 (v := ?v26) rfl rfl (by kernel_rfl) (by kernel_rfl) (by kernel_rfl) (fun _ _ _ h => nomatch h.1) (by kernel_rfl) ?hy26 (by exact hS4) ?_
        case hy26 => (intro w' hSw; go_simp; try (with_reducible rfl))
        simp only [Act.put, List.setIfInBounds_toArray, List.set_cons_zero, List.set_cons_succ]
        refine takeS_on (i := 7) 18 (v := ?v27) rfl rfl (by kernel_rfl) (by kernel_rfl) (by kernel_rfl) (fun _ _ _ h => nomatch h.1) (by kernel_rfl) ?hy27 (by exact hS4) ?_
        case hy27 => (intro w' hSw; go_simp; try (with_reducible rfl))
        simp only [Act.put, List.setIfInBounds_toArray, List.set_cons_zero, List.set_cons_succ]
        refine wpAnyH_ready (rs := [10]) (by kernel_rfl) (by simp) (AllReadyH.cons rfl (fun K hK => ?_) AllReadyH.nil)
        rw [if_pos (by kernel_rfl)]
        refine wp_store_row 30 (.tmp 7) (.tmp 17) rfl V0.heap.size (cC pc1 rr (.slice ao3 ks1.length cap3)) rfl rfl _ _ AA.out (ctx_size' (HSY.out _ _)) (HSY.out _ _).symm cC_one ?_
        have k9 := setRow_ch w4 V0.heap.size (cC pc1 rr (.slice ao3 ks1.length cap3))
        have hS5 := hS4.st k9 LA.out
        have OD := hid (OD.out.ch k9 (fun q hq e => NA.out q hq e))
        have BB := hid ((k9.block _ (lt_of_block BB.out) (fun e => NAB.out e)).trans BB.out)
        have AA := hid (setRow_blk (c := (cC pc1 rr (.slice ao3 ks1.length cap3))) AA.out)
        clear k9
        generalize w4.setRow V0.heap.size (cC pc1 rr (.slice ao3 ks1.length cap3)) = w5 at hS5 AA BB OD ⊢
        refine hK.out _ _ (by exact hS5) (fun _ => ?_)
        clear hK K
        refine wpAnyH_ready (rs := [11]) (by kernel_rfl) (by simp) (AllReadyH.cons rfl (fun K hK => ?_) AllReadyH.nil)
        rw [if_pos (by kernel_rfl)]
        refine wp_store_row 49 (.tmp 8) (.tmp 18) rfl w1.heap.size #[.int .i64 q0, .int .i64 q1, .int .i64 q2, .int .i64 q3, .int .i64 q4, .int .i64 q5, .int .i64 q6, .int .i64 q7, .int .i64 q8, .int .i64 q9, .int .i64 q10] rfl rfl _ _ BB.out want_size rfl (wt_one _ _ _ _ _ _ _ _ _ _ _) ?_
        have k9 := setRow_ch w5 w1.heap.size #[.int .i64 q0, .int .i64 q1, .int .i64 q2, .int .i64 q3, .int .i64 q4, .int .i64 q5, .int .i64 q6, .int .i64 q7, .int .i64 q8, .int .i64 q9, .int .i64 q10]
        have hS6 := hS5.st k9 LB.out
        have OD := hid (OD.out.ch k9 (fun q hq e => NB.out q hq e))
        have AA := hid ((k9.block _ (lt_of_block AA.out) (fun e => NAB.out e.symm)).trans AA.out)
        have BB := hid (setRow_blk (c := #[.int .i64 q0, .int .i64 q1, .int .i64 q2, .int .i64 q3, .int .i64 q4, .int .i64 q5, .int .i64 q6, .int .i64 q7, .int .i64 q8, .int .i64 q9, .int .i64 q10]) BB.out)
        clear k9
        generalize w5.setRow w1.heap.size #[.int .i64 q0, .int .i64 q1, .int .i64 q2, .int .i64 q3, .int .i64 q4, .int .i64 q5, .int .i64 q6, .int .i64 q7, .int .i64 q8, .int .i64 q9, .int .i64 q10] = w6 at hS6 AA BB OD ⊢
        refine hK.out _ _ (by exact hS6) (fun _ => ?_)
        clear hK K
        refine wpAnyH_done (by kernel_rfl) ?_ _
        exact ⟨rfl, V0.heap.size, w1.heap.size, ao3, cap3, _, _, _, _, _, _, _, _, _, _, _, _, _, _, _, _, _, _, _, _, _, _, _, _, _, _, _, _, _, _, _, _, rfl, ⟨hS6.g, hS6.p, hS6.c, hS6.e, AA.out, BB.out, ⟨_, OD.out⟩⟩⟩
    · go_simp
      have g1 : Gr V0 (V0.alloc (.cells #[.int .i64 0, .int .i64 0, .int .i64 0, .int .i64 0, .int .i64 0, .int .i64 0, .int .i64 0, .int .i64 0, .int .i64 0, .int .i64 0, .int .i64 0] 49)) := Ch.alloc (Gr.refl _) _
      have LB := hid (show w.heap.size + 2 < V0.heap.size from lt_of_block hS0.e)
      have hS1 := hS0.gr g1
      have BB := hid (show (V0.alloc (.cells #[.int .i64 0, .int .i64 0, .int .i64 0, .int .i64 0, .int .i64 0, .int .i64 0, .int .i64 0, .int .i64 0, .int .i64 0, .int .i64 0, .int .i64 0] 49)).heap[V0.heap.size]? = some (.cells #[.int .i64 0, .int .i64 0, .int .i64 0, .int .i64 0, .int .i64 0, .int .i64 0, .int .i64 0, .int .i64 0, .int .i64 0, .int .i64 0, .int .i64 0] 49 (0, 0)) from (MapKept.heap_alloc V0 (.cells #[.int .i64 0, .int .i64 0, .int .i64 0, .int .i64 0, .int .i64 0, .int .i64 0, .int .i64 0, .int .i64 0, .int .i64 0, .int .i64 0, .int .i64 0] 49)).1)
      clear g1
      generalize V0.alloc (.cells #[.int .i64 0, .int .i64 0, .int .i64 0, .int .i64 0, .int .i64 0, .int .i64 0, .int .i64 0, .int .i64 0, .int .i64 0, .int .i64 0, .int .i64 0] 49) = w1 at hS1 BB ⊢
      refine hK.out _ _ (by exact hS1) (fun _ => ?_)
      clear hK K
      refine wpAnyH_ready (rs := [2, 8]) (by kernel_rfl) (by simp) (AllReadyH.cons rfl (fun K hK => ?_) (AllReadyH.cons rfl (fun K hK => ?_) AllReadyH.nil))
      · go_simp
        refine (HT.out _ hS1.g).mono ?_
        rintro e w2 ⟨ao2, n2, cap2, rfl, o2, g2⟩
        have hS2 := hS1.gr g2
        have BB := hid (gr_blk BB.out g2)
        have OT := hid o2
        clear o2 g2
        refine hK.out _ _ (by exact hS2) (fun _ => ?_)
        clear hK K
        refine wpAnyH_ready (rs := [4, 8]) (by kernel_rfl) (by simp) (AllReadyH.cons rfl (fun K hK => ?_) (AllReadyH.cons rfl (fun K hK => ?_) AllReadyH.nil))
        · go_simp
          refine (HP.out _ hS2.g _ _ _ _ OT.out).mono ?_
          rintro e w3 ⟨ao3, n3, cap3, rfl, o3, g3⟩
          obtain rfl : n3 = ks1.length := o3.len.1
          have NB := hid (fun (q : Nat) (hq : Blk (.slice ao3 ks1.length cap3) q) => show q ≠ V0.heap.size from by have l1 := lt_of_block BB.out; have l2 := (o3.blk hq).1; omega)
          have hS3 := hS2.gr g3
          have BB := hid (gr_blk BB.out g3)
          have OD := hid o3
          clear o3 OT g3
          refine hK.out _ _ (by exact hS3) (fun _ => ?_)
          clear hK K
          refine takeS_on (i := 5) 11 (v := ?v28) rfl rfl (by kernel_rfl) (by kernel_rfl) (by kernel_rfl) (fun _ _ _ h => nomatch h.1) (by kernel_rfl) ?hy28 (by exact hS3) ?_
          case hy28 => (intro w' hSw; go_simp; try (with_reducible rfl))
          simp only [Act.put, List.setIfInBounds_toArray, List.set_cons_zero, List.set_cons_succ]
          refine takeS_on (i := 6) 17 (v := ?v29) rfl rfl (by kernel_rfl) (by kernel_rfl) (by kernel_rfl) (fun _ _ _ h => nomatch h.1) (by kernel_rfl) ?hy29 (by exact hS3) ?_
          case hy29 => (intro w' hSw; go_simp; try (with_reducible rfl))
          simp only [Act.put, List.setIfInBounds_toArray, List.set_cons_zero, List.set_cons_succ]
          refine takeS_on (i := 7) 18 (v := ?v30) rfl rfl (by kernel_rfl) (by kernel_rfl) (by kernel_rfl) (fun _ _ _ h => nomatch h.1) (by kernel_rfl) ?hy30 (by exact hS3) ?_
          case hy30 => (intro w' hSw; go_simp; try (with_reducible rfl))
          simp only [Act.put, List.setIfInBounds_toArray, List.set_cons_zero, List.set_cons_succ]
          refine wpAnyH_ready (rs := [8]) (by kernel_rfl) (by simp) (AllReadyH.cons rfl (fun K hK => ?_) AllReadyH.nil)
          go_simp
          have g4 : Gr w3 (w3.alloc (.cells #[.int .i64 0, .int .i64 0, .int .i64 0, .int .i64 0, .int .i64 0, .int .i64 0, .int .i64 0, .int .i64 0, .int .i64 0, .int .i64 0, .int .i64 0, .int .i64 0, .int .i64 0, .int .i64 0, .int .i64 0, .int .i64 0, .int .i64 0, .slice none 0 0] 30)) := Ch.alloc (Gr.refl _) _
          have LA := hid (show w.heap.size + 2 < w3.heap.size from lt_of_block hS3.e)
          have NA := hid (fun (q : Nat) (hq : Blk (.slice ao3 ks1.length cap3) q) => show q ≠ w3.heap.size from by have l2 := (OD.out.blk hq).2; omega)
          have NAB := hid (show V0.heap.size ≠ w3.heap.size from by have := lt_of_block BB.out; omega)
          have hS4 := hS3.gr g4
          have OD := hid (OD.out.gr g4)
          have BB := hid (gr_blk BB.out g4)
          have AA := hid (show (w3.alloc (.cells #[.int .i64 0, .int .i64 0, .int .i64 0, .int .i64 0, .int .i64 0, .int .i64 0, .int .i64 0, .int .i64 0, .int .i64 0, .int .i64 0, .int .i64 0, .int .i64 0, .int .i64 0, .int .i64 0, .int .i64 0, .int .i64 0, .int .i64 0, .slice none 0 0] 30)).heap[w3.heap.size]? = some (.cells #[.int .i64 0, .int .i64 0, .int .i64 0, .int .i64 0, .int .i64 0, .int .i64 0, .int .i64 0, .int .i64 0, .int .i64 0, .int .i64 0, .int .i64 0, .int .i64 0, .int .i64 0, .int .i64 0, .int .i64 0, .int .i64 0, .int .i64 0, .slice none 0 0] 30 (0, 0)) from (MapKept.heap_alloc w3 (.cells #[.int .i64 0, .int .i64 0, .int .i64 0, .int .i64 0, .int .i64 0, .int .i64 0, .int .i64 0, .int .i64 0, .int .i64 0, .int .i64 0, .int .i64 0, .int .i64 0, .int .i64 0, .int .i64 0, .int .i64 0, .int .i64 0, .int .i64 0, .slice none 0 0] 30)).1)
          clear g4
          generalize w3.alloc (.cells #[.int .i64 0, .int .i64 0, .int .i64 0, .int .i64 0, .int .i64 0, .int .i64 0, .int .i64 0, .int .i64 0, .int .i64 0, .int .i64 0, .int .i64 0, .int .i64 0, .int .i64 0, .int .i64 0, .int .i64 0, .int .i64 0, .int .i64 0, .slice none 0 0] 30) = w4 at hS4 OD AA BB ⊢
          refine hK.out _ _ (by exact hS4) (fun _ => ?_)
          clear hK K
          refine wpAnyH_ready (rs := [10]) (by kernel_rfl) (by simp) (AllReadyH.cons rfl (fun K hK => ?_) AllReadyH.nil)
          rw [if_pos (by kernel_rfl)]
          refine wp_store_row 30 (.tmp 7) (.tmp 17) rfl w3.heap.size (cC pc1 rr (.slice ao3 ks1.length cap3)) rfl rfl _ _ AA.out (ctx_size' (HSY.out _ _)) (HSY.out _ _).symm cC_one ?_
          have k9 := setRow_ch w4 w3.heap.size (cC pc1 rr (.slice ao3 ks1.length cap3))
          have hS5 := hS4.st k9 LA.out
          have OD := hid (OD.out.ch k9 (fun q hq e => NA.out q hq e))
          have BB := hid ((k9.block _ (lt_of_block BB.out) (fun e => NAB.out e)).trans BB.out)
          have AA := hid (setRow_blk (c := (cC pc1 rr (.slice ao3 ks1.length cap3))) AA.out)
          clear k9
          generalize w4.setRow w3.heap.size (cC pc1 rr (.slice ao3 ks1.length cap3)) = w5 at hS5 AA BB OD ⊢
          refine hK.out _ _ (by exact hS5) (fun _ => ?_)
          clear hK K
          refine wpAnyH_ready (rs := [11]) (by kernel_rfl) (by simp) (AllReadyH.cons rfl (fun K hK => ?_) AllReadyH.nil)
          rw [if_pos (by kernel_rfl)]
          refine wp_store_row 49 (.tmp 8) (.tmp 18) rfl V0.heap.size #[.int .i64 q0, .int .i64 q1, .int .i64 q2, .int .i64 q3, .int .i64 q4, .int .i64 q5, .int .i64 q6, .int .i64 q7, .int .i64 q8, .int .i64 q9, .int .i64 q10] rfl rfl _ _ BB.out want_size rfl (wt_one _ _ _ _ _ _ _ _ _ _ _) ?_
          have k9 := setRow_ch w5 V0.heap.size #[.int .i64 q0, .int .i64 q1, .int .i64 q2, .int .i64 q3, .int .i64 q4, .int .i64 q5, .int .i64 q6, .int .i64 q7, .int .i64 q8, .int .i64 q9, .int .i64 q10]
          have hS6 := hS5.st k9 LB.out
          have OD := hid (OD.out.ch k9 (fun q hq e => NB.out q hq e))
          have AA := hid ((k9.block _ (lt_of_block AA.out) (fun e => NAB.out e.symm)).trans AA.out)
          have BB := hid (setRow_blk (c := #[.int .i64 q0, .int .i64 q1, .int .i64 q2, .int .i64 q3, .int .i64 q4, .int .i64 q5, .int .i64 q6, .int .i64 q7, .int .i64 q8, .int .i64 q9, .int .i64 q10]) BB.out)
          clear k9
          generalize w5.setRow V0.heap.size #[.int .i64 q0, .int .i64 q1, .int .i64 q2, .int .i64 q3, .int .i64 q4, .int .i64 q5, .int .i64 q6, .int .i64 q7, .int .i64 q8, .int .i64 q9, .int .i64 q10] = w6 at hS6 AA BB OD ⊢
          refine hK.out _ _ (by exact hS6) (fun _ => ?_)
          clear hK K
          refine wpAnyH_done (by kernel_rfl) ?_ _
          exact ⟨rfl, w3.heap.size, V0.heap.size, ao3, cap3, _, _, _, _, _, _, _, _, _, _, _, _, _, _, _, _, _, _, _, _, _, _, _, _, _, _, _, _, _, _, _, _, rfl, ⟨hS6.g, hS6.p, hS6.c, hS6.e, AA.out, BB.out, ⟨_, OD.out⟩⟩⟩
        · go_simp
          have g3 : Gr w2 (w2.alloc (.cells #[.int .i64 0, .int .i64 0, .int .i64 0, .int .i64 0, .int .i64 0, .int .i64 0, .int .i64 0, .int .i64 0, .int .i64 0, .int .i64 0, .int .i64 0, .int .i64 0, .int .i64 0, .int .i64 0, .int .i64 0, .int .i64 0, .int .i64 0, .slice none 0 0] 30)) := Ch.alloc (Gr.refl _) _
          have LA := hid (show w.heap.size + 2 < w2.heap.size from lt_of_block hS2.e)
          have NAB := hid (show V0.heap.size ≠ w2.heap.size from by have := lt_of_block BB.out; omega)
          have hS3 := hS2.gr g3
          have OT := hid (OT.out.gr g3)
          have BB := hid (gr_blk BB.out g3)
          have AA := hid (show (w2.alloc (.cells #[.int .i64 0, .int .i64 0, .int .i64 0, .int .i64 0, .int .i64 0, .int .i64 0, .int .i64 0, .int .i64 0, .int .i64 0, .int .i64 0, .int .i64 0, .int .i64 0, .int .i64 0, .int .i64 0, .int .i64 0, .int .i64 0, .int .i64 0, .slice none 0 0] 30)).heap[w2.heap.size]? = some (.cells #[.int .i64 0, .int .i64 0, .int .i64 0, .int .i64 0, .int .i64 0, .int .i64 0, .int .i64 0, .int .i64 0, .int .i64 0, .int .i64 0, .int .i64 0, .int .i64 0, .int .i64 0, .int .i64 0, .int .i64 0, .int .i64 0, .int .i64 0, .slice none 0 0] 30 (0, 0)) from (MapKept.heap_alloc w2 (.cells #[.int .i64 0, .int .i64 0, .int .i64 0, .int .i64 0, .int .i64 0, .int .i64 0, .int .i64 0, .int .i64 0, .int .i64 0, .int .i64 0, .int .i64 0, .int .i64 0, .int .i64 0, .int .i64 0, .int .i64 0, .int .i64 0, .int .i64 0, .slice none 0 0] 30)).1)
          clear g3
          generalize w2.alloc (.cells #[.int .i64 0, .int .i64 0, .int .i64 0, .int .i64 0, .int .i64 0, .int .i64 0, .int .i64 0, .int .i64 0, .int .i64 0, .int .i64 0, .int .i64 0, .int .i64 0, .int .i64 0, .int .i64 0, .int .i64 0, .int .i64 0, .int .i64 0, .slice none 0 0] 30) = w3 at hS3 OT AA BB ⊢
          refine hK.out _ _ (by exact hS3) (fun _ => ?_)
          clear hK K
          refine wpAnyH_ready (rs := [4]) (by kernel_rfl) (by simp) (AllReadyH.cons rfl (fun K hK => ?_) AllReadyH.nil)
          go_simp
          refine (HP.out _ hS3.g _ _ _ _ OT.out).mono ?_
          rintro e w4 ⟨ao3, n3, cap3, rfl, o3, g4⟩
          obtain rfl : n3 = ks1.length := o3.len.1
          have NA := hid (fun (q : Nat) (hq : Blk (.slice ao3 ks1.length cap3) q) => show q ≠ w2.heap.size from by have l1 := lt_of_block AA.out; have l2 := (o3.blk hq).1; omega)
          have NB := hid (fun (q : Nat) (hq : Blk (.slice ao3 ks1.length cap3) q) => show q ≠ V0.heap.size from by have l1 := lt_of_block BB.out; have l2 := (o3.blk hq).1; omega)
          have hS4 := hS3.gr g4
          have AA := hid (gr_blk AA.out g4)
          have BB := hid (gr_blk BB.out g4)
          have OD := hid o3
          clear o3 OT g4
          refine hK.out _ _ (by exact hS4) (fun _ => ?_)
          clear hK K
          refine takeS_on (i := 5) 11 (v := ?v31) rfl rfl (by kernel_rfl) (by kernel_rfl) (by kernel_rfl) (fun _ _ _ h => nomatch h.1) (by kernel_rfl) ?hy31 (by exact hS4) ?_
          case hy31 => (intro w' hSw; go_simp; try (with_reducible rfl))
          simp only [Act.put, List.setIfInBounds_toArray, List.set_cons_zero, List.set_cons_succ]
          refine takeS_on (i := 6) 17 (v := ?v32) rfl rfl (by kernel_rfl) (by kernel_rfl) (by kernel_rfl) (fun _ _ _ h => nomatch h.1) (by kernel_rfl) ?hy32 (by exact hS4) ?_
          case hy32 => (intro w' hSw; go_simp; try (with_reducible rfl))
          simp only [Act.put, List.setIfInBounds_toArray, List.set_cons_zero, List.set_cons_succ]
          refine takeS_on (i := 7) 18 (v := ?v33) rfl rfl (by kernel_rfl) (by kernel_rfl) (by kernel_rfl) (fun _ _ _ h => nomatch h.1) (by kernel_rfl) ?hy33 (by exact hS4) ?_
          case hy33 => (intro w' hSw; go_simp; try (with_reducible rfl))
          simp only [Act.put, List.setIfInBounds_toArray, List.set_cons_zero, List.set_cons_succ]
          refine wpAnyH_ready (rs := [10]) (by kernel_rfl) (by simp) (AllReadyH.cons rfl (fun K hK => ?_) AllReadyH.nil)
          rw [if_pos (by kernel_rfl)]
          refine wp_store_row 30 (.tmp 7) (.tmp 17) rfl w2.heap.size (cC pc1 rr (.slice ao3 ks1.length cap3)) rfl rfl _ _ AA.out (ctx_size' (HSY.out _ _)) (HSY.out _ _).symm cC_one ?_
          have k9 := setRow_ch w4 w2.heap.size (cC pc1 rr (.slice ao3 ks1.length cap3))
          have hS5 := hS4.st k9 LA.out
          have OD := hid (OD.out.ch k9 (fun q hq e => NA.out q hq e))
          have BB := hid ((k9.block _ (lt_of_block BB.out) (fun e => NAB.out e)).trans BB.out)
          have AA := hid (setRow_blk (c := (cC pc1 rr (.slice ao3 ks1.length cap3))) AA.out)
          clear k9
          generalize w4.setRow w2.heap.size (cC pc1 rr (.slice ao3 ks1.length cap3)) = w5 at hS5 AA BB OD ⊢
          refine hK.out _ _ (by exact hS5) (fun _ => ?_)
          clear hK K
          refine wpAnyH_ready (rs := [11]) (by kernel_rfl) (by simp) (AllReadyH.cons rfl (fun K hK => ?_) AllReadyH.nil)
          rw [if_pos (by kernel_rfl)]
          refine wp_store_row 49 (.tmp 8) (.tmp 18) rfl V0.heap.size #[.int .i64 q0, .int .i64 q1, .int .i64 q2, .int .i64 q3, .int .i64 q4, .int .i64 q5, .int .i64 q6, .int .i64 q7, .int .i64 q8, .int .i64 q9, .int .i64 q10] rfl rfl _ _ BB.out want_size rfl (wt_one _ _ _ _ _ _ _ _ _ _ _) ?_
          have k9 := setRow_ch w5 V0.heap.size #[.int .i64 q0, .int .i64 q1, .int .i64 q2, .int .i64 q3, .int .i64 q4, .int .i64 q5, .int .i64 q6, .int .i64 q7, .int .i64 q8, .int .i64 q9, .int .i64 q10]
          have hS6 := hS5.st k9 LB.out
          have OD := hid (OD.out.ch k9 (fun q hq e => NB.out q hq e))
          have AA := hid ((k9.block _ (lt_of_block AA.out) (fun e => NAB.out e.symm)).trans AA.out)
          have BB := hid (setRow_blk (c := #[.int .i64 q0, .int .i64 q1, .int .i64 q2, .int .i64 q3, .int .i64 q4, .int .i64 q5, .int .i64 q6, .int .i64 q7, .int .i64 q8, .int .i64 q9, .int .i64 q10]) BB.out)
          clear k9
          generalize w5.setRow V0.heap.size #[.int .i64 q0, .int .i64 q1, .int .i64 q2, .int .i64 q3, .int .i64 q4, .int .i64 q5, .int .i64 q6, .int .i64 q7, .int .i64 q8, .int .i64 q9, .int .i64 q10] = w6 at hS6 AA BB OD ⊢
          refine hK.out _ _ (by exact hS6) (fun _ => ?_)
          clear hK K
          refine wpAnyH_done (by kernel_rfl) ?_ _
          exact ⟨rfl, w2.heap.size, V0.heap.size, ao3, cap3, _, _, _, _, _, _, _, _, _, _, _, _, _, _, _, _, _, _, _, _, _, _, _, _, _, _, _, _, _, _, _, _, rfl, ⟨hS6.g, hS6.p, hS6.c, hS6.e, AA.out, BB.out, ⟨_, OD.out⟩⟩⟩
      · go_simp
        have g2 : Gr w1 (w1.alloc (.cells #[.int .i64 0, .int .i64 0, .int .i64 0, .int .i64 0, .int .i64 0, .int .i64 0, .int .i64 0, .int .i64 0, .int .i64 0, .int .i64 0, .int .i64 0, .int .i64 0, .int .i64 0, .int .i64 0, .int .i64 0, .int .i64 0, .int .i64 0, .slice none 0 0] 30)) := Ch.alloc (Gr.refl _) _
        have LA := hid (show w.heap.size + 2 < w1.heap.size from lt_of_block hS1.e)
        have NAB := hid (show V0.heap.size ≠ w1.heap.size from by have := lt_of_block BB.out; omega)
        have hS2 := hS1.gr g2
        have BB := hid (gr_blk BB.out g2)
        have AA := hid (show (w1.alloc (.cells #[.int .i64 0, .int .i64 0, .int .i64 0, .int .i64 0, .int .i64 0, .int .i64 0, .int .i64 0, .int .i64 0, .int .i64 0, .int .i64 0, .int .i64 0, .int .i64 0, .int .i64 0, .int .i64 0, .int .i64 0, .int .i64 0, .int .i64 0, .slice none 0 0] 30)).heap[w1.heap.size]? = some (.cells #[.int .i64 0, .int .i64 0, .int .i64 0, .int .i64 0, .int .i64 0, .int .i64 0, .int .i64 0, .int .i64 0, .int .i64 0, .int .i64 0, .int .i64 0, .int .i64 0, .int .i64 0, .int .i64 0, .int .i64 0, .int .i64 0, .int .i64 0, .slice none 0 0] 30 (0, 0)) from (MapKept.heap_alloc w1 (.cells #[.int .i64 0, .int .i64 0, .int .i64 0, .int .i64 0, .int .i64 0, .int .i64 0, .int .i64 0, .int .i64 0, .int .i64 0, .int .i64 0, .int .i64 0, .int .i64 0, .int .i64 0, .int .i64 0, .int .i64 0, .int .i64 0, .int .i64 0, .slice none 0 0] 30)).1)
        clear g2
        generalize w1.alloc (.cells #[.int .i64 0, .int .i64 0, .int .i64 0, .int .i64 0, .int .i64 0, .int .i64 0, .int .i64 0, .int .i64 0, .int .i64 0, .int .i64 0, .int .i64 0, .int .i64 0, .int .i64 0, .int .i64 0, .int .i64 0, .int .i64 0, .int .i64 0, .slice none 0 0] 30) = w2 at hS2 AA BB ⊢
        refine hK.out _ _ (by exact hS2) (fun _ => ?_)
        clear hK K
        refine wpAnyH_ready (rs := [2]) (by kernel_rfl) (by simp) (AllReadyH.cons rfl (fun K hK => ?_) AllReadyH.nil)
        go_simp
        refine (HT.out _ hS2.g).mono ?_
        rintro e w3 ⟨ao2, n2, cap2, rfl, o2, g3⟩
        have hS3 := hS2.gr g3
        have AA := hid (gr_blk AA.out g3)
        have BB := hid (gr_blk BB.out g3)
        have OT := hid o2
        clear o2 g3
        refine hK.out _ _ (by exact hS3) (fun _ => ?_)
        clear hK K
        refine wpAnyH_ready (rs := [4]) (by kernel_rfl) (by simp) (AllReadyH.cons rfl (fun K hK => ?_) AllReadyH.nil)
        go_simp
        refine (HP.out _ hS3.g _ _ _ _ OT.out).mono ?_
        rintro e w4 ⟨ao3, n3, cap3, rfl, o3, g4⟩
        obtain rfl : n3 = ks1.length := o3.len.1
        have NA := hid (fun (q : Nat) (hq : Blk (.slice ao3 ks1.length cap3) q) => show q ≠ w1.heap.size from by have l1 := lt_of_block AA.out; have l2 := (o3.blk hq).1; omega)
        have NB := hid (fun (q : Nat) (hq : Blk (.slice ao3 ks1.length cap3) q) => show q ≠ V0.heap.size from by have l1 := lt_of_block BB.out; have l2 := (o3.blk hq).1; omega)
        have hS4 := hS3.gr g4
        have AA := hid (gr_blk AA.out g4)
        have BB := hid (gr_blk BB.out g4)
        have OD := hid o3
        clear o3 OT g4
        refine hK.out _ _ (by exact hS4) (fun _ => ?_)
        clear hK K
        refine takeS_on (i := 5) 11 (v := ?v34) rfl rfl (by kernel_rfl) (by kernel_rfl) (by kernel_rfl) (fun _ _ _ h => nomatch h.1) (by kernel_rfl) ?hy34 (by exact hS4) ?_
        case hy34 => (intro w' hSw; go_simp; try (with_reducible rfl))
        simp only [Act.put, List.setIfInBounds_toArray, List.set_cons_zero, List.set_cons_succ]
        refine takeS_on (i := 6) 17 (v := ?v35) rfl rfl (by kernel_rfl) (by kernel_rfl) (by kernel_rfl) (fun _ _ _ h => nomatch h.1) (by kernel_rfl) ?hy35 (by exact hS4) ?_
        case hy35 => (intro w' hSw; go_simp; try (with_reducible rfl))
        simp only [Act.put, List.setIfInBounds_toArray, List.set_cons_zero, List.set_cons_succ]
        refine takeS_on (i := 7) 18 (v := ?v36) rfl rfl (by kernel_rfl) (by kernel_rfl) (by kernel_rfl) (fun _ _ _ h => nomatch h.1) (by kernel_rfl) ?hy36 (by exact hS4) ?_
        case hy36 => (intro w' hSw; go_simp; try (with_reducible rfl))
        simp only [Act.put, List.setIfInBounds_toArray, List.set_cons_zero, List.set_cons_succ]
        refine wpAnyH_ready (rs := [10]) (by kernel_rfl) (by simp) (AllReadyH.cons rfl (fun K hK => ?_) AllReadyH.nil)
        rw [if_pos (by kernel_rfl)]
        refine wp_store_row 30 (.tmp 7) (.tmp 17) rfl w1.heap.size (cC pc1 rr (.slice ao3 ks1.length cap3)) rfl rfl _ _ AA.out (ctx_size' (HSY.out _ _)) (HSY.out _ _).symm cC_one ?_
        have k9 := setRow_ch w4 w1.heap.size (cC pc1 rr (.slice ao3 ks1.length cap3))
        have hS5 := hS4.st k9 LA.out
        have OD := hid (OD.out.ch k9 (fun q hq e => NA.out q hq e))
        have BB := hid ((k9.block _ (lt_of_block BB.out) (fun e => NAB.out e)).trans BB.out)
        have AA := hid (setRow_blk (c := (cC pc1 rr (.slice ao3 ks1.length cap3))) AA.out)
        clear k9
        generalize w4.setRow w1.heap.size (cC pc1 rr (.slice ao3 ks1.length cap3)) = w5 at hS5 AA BB OD ⊢
        refine hK.out _ _ (by exact hS5) (fun _ => ?_)
        clear hK K
        refine wpAnyH_ready (rs := [11]) (by kernel_rfl) (by simp) (AllReadyH.cons rfl (fun K hK => ?_) AllReadyH.nil)
        rw [if_pos (by kernel_rfl)]
        refine wp_store_row 49 (.tmp 8) (.tmp 18) rfl V0.heap.size #[.int .i64 q0, .int .i64 q1, .int .i64 q2, .int .i64 q3, .int .i64 q4, .int .i64 q5, .int .i64 q6, .int .i64 q7, .int .i64 q8, .int .i64 q9, .int .i64 q10] rfl rfl _ _ BB.out want_size rfl (wt_one _ _ _ _ _ _ _ _ _ _ _) ?_
        have k9 := setRow_ch w5 V0.heap.size #[.int .i64 q0, .int .i64 q1, .int .i64 q2, .int .i64 q3, .int .i64 q4, .int .i64 q5, .int .i64 q6, .int .i64 q7, .int .i64 q8, .int .i64 q9, .int .i64 q10]
        have hS6 := hS5.st k9 LB.out
        have OD := hid (OD.out.ch k9 (fun q hq e => NB.out q hq e))
        have AA := hid ((k9.block _ (lt_of_block AA.out) (fun e => NAB.out e.symm)).trans AA.out)
        have BB := hid (setRow_blk (c := #[.int .i64 q0, .int .i64 q1, .int .i64 q2, .int .i64 q3, .int .i64 q4, .int .i64 q5, .int .i64 q6, .int .i64 q7, .int .i64 q8, .int .i64 q9, .int .i64 q10]) BB.out)
        clear k9
        generalize w5.setRow V0.heap.size #[.int .i64 q0, .int .i64 q1, .int .i64 q2, .int .i64 q3, .int .i64 q4, .int .i64 q5, .int .i64 q6, .int .i64 q7, .int .i64 q8, .int .i64 q9, .int .i64 q10] = w6 at hS6 AA BB OD ⊢
        refine hK.out _ _ (by exact hS6) (fun _ => ?_)
        clear hK K
        refine wpAnyH_done (by kernel_rfl) ?_ _
        exact ⟨rfl, w1.heap.size, V0.heap.size, ao3, cap3, _, _, _, _, _, _, _, _, _, _, _, _, _, _, _, _, _, _, _, _, _, _, _, _, _, _, _, _, _, _, _, _, rfl, ⟨hS6.g, hS6.p, hS6.c, hS6.e, AA.out, BB.out, ⟨_, OD.out⟩⟩⟩

end Go.Proofs.YtcdlhfodeckleaaDoor.Lt
