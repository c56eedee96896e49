/-
  What the document's Load answers. Condition: the lists have no more than 1048576 elements.
-/
import Derived.Test.YtnpbehcfbceclaaPdCopyI
import Derived.Test.YtnpbehcfbceclaaPdPut
import Derived.Test.YtnpbehcfbceclaaPoLd
import Derived.Deep.Cut
namespace Go.Proofs.Ytnpbehcfbceclaa.Lt
open Go.RowKit Wd
attribute [local go_sem ↓] Go.wp_at_zero Go.wp_at_succ
set_option maxRecDepth 20000

theorem gr_own15 {w w1 w2 : World} {g : Nat} (h : Gr w w1) (k : Ch (Only g) w1 w2) (hg : w.heap.size ≤ g) : Gr w w2 :=
  Ch.trans h k (fun q e => .inr (by have e1 : q = g := e; omega))
/-- what Load asks ahead of the ages -/
def hdB (q : Bool) (c : Int) (n1 n2 : Nat) (l : Int) : Bool := capB q c && decide ((n1 : Int) ≤ c) && decide ((n2 : Int) ≤ c) && lostB q l
theorem mayB_eq (q : Bool) (c : Int) (n1 n2 : Nat) (ys : List Ag) (l : Int) : mayB q c n1 n2 ys l = (hdB q c n1 n2 l && agesB ys 2147483647) := by
  unfold mayB hdB
  cases capB q c <;> cases decide ((n1 : Int) ≤ c) <;> cases decide ((n2 : Int) ≤ c) <;> cases agesB ys 2147483647 <;> cases lostB q l <;> rfl
theorem cap_nat {q : Bool} {c : Int} (h : capB q c = true) : ∃ n : Nat, c = (n : Int) ∧ n ≤ 1024 := by
  refine ⟨c.toNat, ?_, ?_⟩ <;> unfold capB at h <;> cases q <;> simp at h <;> omega
def boxL (w A : World) (q : Bool) (c : Int) (a1 : Option Addr) (n1 c1 : Nat) (a2 : Option Addr) (n2 c2 : Nat) (l : Int) : Prop :=
  ∀ W, Gr A W → W.cell? ⟨w.heap.size, 0, none⟩ = some (.bool q) ∧ W.cell? ⟨w.heap.size, 1, none⟩ = some (.int .i64 c) ∧ W.cell? ⟨w.heap.size, 2, none⟩ = some (.slice a1 n1 c1) ∧ W.cell? ⟨w.heap.size, 3, none⟩ = some (.slice a2 n2 c2) ∧ W.cell? ⟨w.heap.size, 4, none⟩ = some (.int .i64 l) ∧ w.heap.size < W.heap.size
theorem boxL_of {w A : World} {q : Bool} {c : Int} {a1 : Option Addr} {n1 c1 : Nat} {a2 : Option Addr} {n2 c2 : Nat} {l : Int} (h : A.heap[w.heap.size]? = some (.cells #[.bool q, .int .i64 c, .slice a1 n1 c1, .slice a2 n2 c2, .int .i64 l] 32 (0, 0))) : boxL w A q c a1 n1 c1 a2 n2 c2 l := fun W g => by
  have k := gr_blk h g
  exact ⟨cell_of k 0, cell_of k 1, cell_of k 2, cell_of k 3, cell_of k 4, lt_of_block k⟩
set_option maxHeartbeats 8000000 in
theorem rload_hd (w : World) (q : Bool) (c l : Int) (a1 a2 : Option Addr) (n1 n2 c1 c2 : Nat) (hb : hdB q c n1 n2 l = false) :
    Calls Try.prog 17 #[.agg #[.bool q, .int .i64 c, .slice a1 n1 c1, .slice a2 n2 c2, .int .i64 l]] w fun e w' => e = .returned (.tuple #[.agg #[.bool false, .int .i64 0, .slice none 0 0, .slice none 0 0, .int .i64 0], .int .i64 150]) ∧ Gr w w' := by
  obtain ⟨A, hA⟩ : ∃ A, A = (w.alloc (.cells #[.bool q, .int .i64 c, .slice a1 n1 c1, .slice a2 n2 c2, .int .i64 l] 32)).alloc (.cells #[.bool false, .int .i64 0, .slice none 0 0, .slice none 0 0, .int .i64 0] 32) := ⟨_, rfl⟩
  have GA := hid (show Gr w A by rw [hA]; exact Ch.alloc (Ch.alloc (Gr.refl w) _) _)
  have XB := hid (show A.heap[w.heap.size]? = some (.cells #[.bool q, .int .i64 c, .slice a1 n1 c1, .slice a2 n2 c2, .int .i64 l] 32 (0, 0)) by rw [hA]; exact al_blk (al_at _ rfl) _)
  have XR := hid (show A.heap[w.heap.size + 1]? = some (.cells #[.bool false, .int .i64 0, .slice none 0 0, .slice none 0 0, .int .i64 0] 32 (0, 0)) by rw [hA]; exact al_at _ (by simp))
  have sB := boxL_of XB.out
  unfold boxL at sB
  have HB := hid sB
  obtain ⟨s0, s1, s2, s3, s4, sl⟩ := sB A (Gr.refl A)
  clear sB
  unfold hdB at hb
  cases hc : capB q c
  · have HC := hid hc
    clear hb hc
    go_enter Try.func17, Try.ntmps17
    go_wp2_with fail
    rw [← hA]
    clear hA
    refine (rnew_no q c _ HC.out).mono ?_
    rintro e w1 ⟨rfl, g1⟩
    have G1 := hid (Ch.alloc g1 (.cells #[.bool false, .int .i64 0, .slice none 0 0, .slice none 0 0, .int .i64 0] 32))
    have XR1 := hid (al_blk (gr_blk XR.out g1) (.cells #[.bool false, .int .i64 0, .slice none 0 0, .slice none 0 0, .int .i64 0] 32))
    clear g1
    go_upto_region 3 with (fail)
    go_wp2_with (refine st_row rfl 32 (.tmp 2) (.tmp 53) rfl (w.heap.size + 1) #[.bool false, .int .i64 0, .slice none 0 0, .slice none 0 0, .int .i64 0] rfl rfl _ _ XR1.out pst_size rfl (by simp [Value.oneCell']) ?_; intro w8 b8 k8; have B8 := hid b8; have K8 := hid k8; clear b8 k8)
    exact bodyPost_ret (results_cell_tmp2 rfl _ _ (w.heap.size + 1) _ rfl (run_loadVar_row _ _ _ _ _ _ _ B8.out Try.underlying32 rfl pst_size)) rfl ⟨rfl, gr_own15 (Gr.trans GA.out G1.out) K8.out (by omega)⟩
  · obtain ⟨cN, rfl, hcN⟩ := cap_nat hc
    have HC := hid hc
    rw [hc, Bool.true_and] at hb
    clear hc
    by_cases k1 : (cN : Int) < (n1 : Int)
    · clear hb
      go_enter Try.func17, Try.ntmps17
      go_wp2_with fail
      rw [← hA]
      clear hA
      refine (rnew_yes q cN _ HC.out).mono ?_
      rintro e w1 ⟨rfl, g1⟩
      obtain ⟨s0, s1, s2, s3, s4, sl⟩ := HB.out _ g1
      have G1 := hid (Ch.alloc g1 (.cells #[.bool q, .int .i64 (cN : Int), .slice none 0 0, .slice none 0 0, .int .i64 0] 32))
      have XR1 := hid (al_blk (gr_blk XR.out g1) (.cells #[.bool q, .int .i64 (cN : Int), .slice none 0 0, .slice none 0 0, .int .i64 0] 32))
      clear g1
      go_upto_region 3 with (fail)
      go_wp2_with (refine st_row rfl 32 (.tmp 2) (.tmp 53) rfl (w.heap.size + 1) #[.bool false, .int .i64 0, .slice none 0 0, .slice none 0 0, .int .i64 0] rfl rfl _ _ XR1.out pst_size rfl (by simp [Value.oneCell']) ?_; intro w8 b8 k8; have B8 := hid b8; have K8 := hid k8; clear b8 k8)
      exact bodyPost_ret (results_cell_tmp2 rfl _ _ (w.heap.size + 1) _ rfl (run_loadVar_row _ _ _ _ _ _ _ B8.out Try.underlying32 rfl pst_size)) rfl ⟨rfl, gr_own15 (Gr.trans GA.out G1.out) K8.out (by omega)⟩
    · rw [decide_eq_true (show (n1 : Int) ≤ (cN : Int) by omega), Bool.true_and] at hb
      by_cases k2 : (cN : Int) < (n2 : Int)
      · clear hb
        go_enter Try.func17, Try.ntmps17
        go_wp2_with fail
        rw [← hA]
        clear hA
        refine (rnew_yes q cN _ HC.out).mono ?_
        rintro e w1 ⟨rfl, g1⟩
        obtain ⟨s0, s1, s2, s3, s4, sl⟩ := HB.out _ g1
        have G1 := hid (Ch.alloc g1 (.cells #[.bool q, .int .i64 (cN : Int), .slice none 0 0, .slice none 0 0, .int .i64 0] 32))
        have XR1 := hid (al_blk (gr_blk XR.out g1) (.cells #[.bool q, .int .i64 (cN : Int), .slice none 0 0, .slice none 0 0, .int .i64 0] 32))
        clear g1
        go_upto_region 3 with (fail)
        go_wp2_with (refine st_row rfl 32 (.tmp 2) (.tmp 53) rfl (w.heap.size + 1) #[.bool false, .int .i64 0, .slice none 0 0, .slice none 0 0, .int .i64 0] rfl rfl _ _ XR1.out pst_size rfl (by simp [Value.oneCell']) ?_; intro w8 b8 k8; have B8 := hid b8; have K8 := hid k8; clear b8 k8)
        exact bodyPost_ret (results_cell_tmp2 rfl _ _ (w.heap.size + 1) _ rfl (run_loadVar_row _ _ _ _ _ _ _ B8.out Try.underlying32 rfl pst_size)) rfl ⟨rfl, gr_own15 (Gr.trans GA.out G1.out) K8.out (by omega)⟩
      · rw [decide_eq_true (show (n2 : Int) ≤ (cN : Int) by omega), Bool.true_and] at hb
        unfold lostB at hb
        by_cases k3 : l < 0
        · clear hb
          go_enter Try.func17, Try.ntmps17
          go_wp2_with fail
          rw [← hA]
          clear hA
          refine (rnew_yes q cN _ HC.out).mono ?_
          rintro e w1 ⟨rfl, g1⟩
          obtain ⟨s0, s1, s2, s3, s4, sl⟩ := HB.out _ g1
          have G1 := hid (Ch.alloc g1 (.cells #[.bool q, .int .i64 (cN : Int), .slice none 0 0, .slice none 0 0, .int .i64 0] 32))
          have XR1 := hid (al_blk (gr_blk XR.out g1) (.cells #[.bool q, .int .i64 (cN : Int), .slice none 0 0, .slice none 0 0, .int .i64 0] 32))
          clear g1
          go_upto_region 3 with (fail)
          go_wp2_with (refine st_row rfl 32 (.tmp 2) (.tmp 53) rfl (w.heap.size + 1) #[.bool false, .int .i64 0, .slice none 0 0, .slice none 0 0, .int .i64 0] rfl rfl _ _ XR1.out pst_size rfl (by simp [Value.oneCell']) ?_; intro w8 b8 k8; have B8 := hid b8; have K8 := hid k8; clear b8 k8)
          exact bodyPost_ret (results_cell_tmp2 rfl _ _ (w.heap.size + 1) _ rfl (run_loadVar_row _ _ _ _ _ _ _ B8.out Try.underlying32 rfl pst_size)) rfl ⟨rfl, gr_own15 (Gr.trans GA.out G1.out) K8.out (by omega)⟩
        · by_cases k4 : 2147483647 < l
          · clear hb
            go_enter Try.func17, Try.ntmps17
            go_wp2_with fail
            rw [← hA]
            clear hA
            refine (rnew_yes q cN _ HC.out).mono ?_
            rintro e w1 ⟨rfl, g1⟩
            obtain ⟨s0, s1, s2, s3, s4, sl⟩ := HB.out _ g1
            have G1 := hid (Ch.alloc g1 (.cells #[.bool q, .int .i64 (cN : Int), .slice none 0 0, .slice none 0 0, .int .i64 0] 32))
            have XR1 := hid (al_blk (gr_blk XR.out g1) (.cells #[.bool q, .int .i64 (cN : Int), .slice none 0 0, .slice none 0 0, .int .i64 0] 32))
            clear g1
            go_upto_region 3 with (fail)
            go_wp2_with (refine st_row rfl 32 (.tmp 2) (.tmp 53) rfl (w.heap.size + 1) #[.bool false, .int .i64 0, .slice none 0 0, .slice none 0 0, .int .i64 0] rfl rfl _ _ XR1.out pst_size rfl (by simp [Value.oneCell']) ?_; intro w8 b8 k8; have B8 := hid b8; have K8 := hid k8; clear b8 k8)
            exact bodyPost_ret (results_cell_tmp2 rfl _ _ (w.heap.size + 1) _ rfl (run_loadVar_row _ _ _ _ _ _ _ B8.out Try.underlying32 rfl pst_size)) rfl ⟨rfl, gr_own15 (Gr.trans GA.out G1.out) K8.out (by omega)⟩
          · cases q
            · have k5 : 0 < l := by
                rw [if_neg (by decide)] at hb
                have := of_decide_eq_false hb
                omega
              clear hb
              go_enter Try.func17, Try.ntmps17
              go_wp2_with fail
              rw [← hA]
              clear hA
              refine (rnew_yes false cN _ HC.out).mono ?_
              rintro e w1 ⟨rfl, g1⟩
              obtain ⟨s0, s1, s2, s3, s4, sl⟩ := HB.out _ g1
              have G1 := hid (Ch.alloc g1 (.cells #[.bool false, .int .i64 (cN : Int), .slice none 0 0, .slice none 0 0, .int .i64 0] 32))
              have XR1 := hid (al_blk (gr_blk XR.out g1) (.cells #[.bool false, .int .i64 (cN : Int), .slice none 0 0, .slice none 0 0, .int .i64 0] 32))
              clear g1
              go_upto_region 3 with (fail)
              go_wp2_with (refine st_row rfl 32 (.tmp 2) (.tmp 53) rfl (w.heap.size + 1) #[.bool false, .int .i64 0, .slice none 0 0, .slice none 0 0, .int .i64 0] rfl rfl _ _ XR1.out pst_size rfl (by simp [Value.oneCell']) ?_; intro w8 b8 k8; have B8 := hid b8; have K8 := hid k8; clear b8 k8)
              exact bodyPost_ret (results_cell_tmp2 rfl _ _ (w.heap.size + 1) _ rfl (run_loadVar_row _ _ _ _ _ _ _ B8.out Try.underlying32 rfl pst_size)) rfl ⟨rfl, gr_own15 (Gr.trans GA.out G1.out) K8.out (by omega)⟩
            · rw [if_pos rfl, decide_eq_true (show 0 ≤ l by omega), decide_eq_true (show l ≤ 2147483647 by omega)] at hb
              cases hb
end Go.Proofs.Ytnpbehcfbceclaa.Lt
