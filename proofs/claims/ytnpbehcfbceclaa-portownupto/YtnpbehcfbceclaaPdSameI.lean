/-
  What the document's Same answers of one state in two values, of any capacity. Condition: the lists are not too long.
-/
import Derived.Test.YtnpbehcfbceclaaPdPut
namespace Go.Proofs.Ytnpbehcfbceclaa.Lt
open Go.RowKit Wd
attribute [local go_sem ↓] Go.wp_at_zero Go.wp_at_succ
set_option maxRecDepth 20000

set_option maxHeartbeats 16000000 in
theorem rsamei_any {P1 P2 P3 P4 : Nat → Prop} (w : World) (q : Bool) (cap lost : Int) (a1 a2 a3 a4 : Option Addr) (n1 n2 c1 c2 c3 c4 : Nat) (xs : List Int) (ys : List Ag) (h1 : Ls eI P1 w (.slice a1 n1 c1) xs) (h2 : Ls eG P2 w (.slice a2 n2 c2) ys) (h3 : Ls eI P3 w (.slice a3 n1 c3) xs) (h4 : Ls eG P4 w (.slice a4 n2 c4) ys) (hn1 : n1 ≤ 1048576) (hn2 : n2 ≤ 1048576) :
    Calls Try.prog 13 #[.agg #[.bool q, .int .i64 cap, .slice a1 n1 c1, .slice a2 n2 c2, .int .i64 lost], .agg #[.bool q, .int .i64 cap, .slice a3 n1 c3, .slice a4 n2 c4, .int .i64 lost]] w fun e w' => e = .returned (.bool true) ∧ Gr w w' := by
  have HX1 := hid (show ∀ W, Gr w W → Ls eI P1 W (.slice a1 n1 c1) xs from fun W g => h1.gr g)
  have HX2 := hid (show ∀ W, Gr w W → Ls eG P2 W (.slice a2 n2 c2) ys from fun W g => h2.gr g)
  have HY1 := hid (show ∀ W, Gr w W → Ls eI P3 W (.slice a3 n1 c3) xs from fun W g => h3.gr g)
  have HY2 := hid (show ∀ W, Gr w W → Ls eG P4 W (.slice a4 n2 c4) ys from fun W g => h4.gr g)
  have HL2 := hid h1.len.1
  have HL3 := hid h2.len.1
  obtain ⟨WB, hwb⟩ : ∃ W, W = (w.alloc (.cells #[.bool q, .int .i64 cap, .slice a1 n1 c1, .slice a2 n2 c2, .int .i64 lost] 32)).alloc (.cells #[.bool q, .int .i64 cap, .slice a3 n1 c3, .slice a4 n2 c4, .int .i64 lost] 32) := ⟨_, rfl⟩
  have BX := hid (show WB.heap[w.heap.size]? = some (.cells #[.bool q, .int .i64 cap, .slice a1 n1 c1, .slice a2 n2 c2, .int .i64 lost] 32 (0, 0)) by rw [hwb]; exact al_blk (al_at _ rfl) _)
  have BY := hid (show WB.heap[w.heap.size + 1]? = some (.cells #[.bool q, .int .i64 cap, .slice a3 n1 c3, .slice a4 n2 c4, .int .i64 lost] 32 (0, 0)) by rw [hwb]; exact al_at _ (by simp))
  have GW := hid (show Gr w WB by rw [hwb]; exact Ch.alloc (Ch.alloc (Gr.refl w) _) _)
  have HWB := hid hwb
  clear h1 h2 h3 h4 hwb
  go_enter Try.func13, Try.ntmps13
  go_wp2_with fail
  rw [← HWB.out]
  have GB5 := Gr.refl WB
  go_loopg [5] n1 (fun k9 i wr => ∃ j : Nat, j + k9 = n1 ∧ i = .int .i64 (j : Int) ∧ Gr WB wr)
  case atStart => exact ⟨0, by omega, rfl, GB5⟩
  case round =>
    obtain ⟨j, hjk, rfl, hg⟩ := hrel
    obtain ⟨V, hV⟩ : ∃ W, W = wr := ⟨_, rfl⟩
    subst hV
    have s1 := cell_of (gr_blk BX.out hg) 2
    have s3 := cell_of (gr_blk BY.out hg) 2
    simp at s1 s3
    have sl1 := lt_of_block (gr_blk BX.out hg)
    have sl3 := lt_of_block (gr_blk BY.out hg)
    have G := hid hg
    clear hg
    by_cases hj : j < n1
    · have hj' : (j : Int) < (n1 : Int) := by omega
      have hjx : xs[j]? = some (xs[j]'(by rw [← HL2.out]; exact hj)) := List.getElem?_eq_getElem _
      generalize xs[j]'(by rw [← HL2.out]; exact hj) = u at hjx
      obtain ⟨g1, o1, cp1, e, _, hgl1, _, hc1⟩ := (HX1.out _ (Gr.trans GW.out G.out)).get eI_len hjx
      obtain ⟨g3, o3, cp3, e', _, hgl3, _, hc3⟩ := (HY1.out _ (Gr.trans GW.out G.out)).get eI_len hjx
      injection e with e1 e2 e3
      injection e' with e4 e5 e6
      subst e1 e3 e4 e6
      have q1 := hc1 0 _ rfl
      have q3 := hc3 0 _ rfl
      rw [Nat.add_zero, Nat.mul_one] at q1 q3
      have p0 : (0 : Int) ≤ (j : Int) := by omega
      clear hjx hc1 hc3 e2 e5
      go_wp2_with fail
      go_big_quiet (fail)
      go_wp2
      go_roundg (gk - 1)
      case measure => omega
      case rel =>
        refine ⟨j + 1, by omega, ?_, Ch.drewN G.out _⟩
        first | with_reducible rfl | simp
    · have hj' : ¬ ((j : Int) < (n1 : Int)) := by omega
      have GB6 := G.out
      go_wp2_with fail
      clear s1 s3 sl1 sl3
      go_loopg [6] n2 (fun k9 i wr => ∃ j : Nat, j + k9 = n2 ∧ i = .int .i64 (j : Int) ∧ Gr WB wr)
      case atStart => exact ⟨0, by omega, rfl, GB6⟩
      case round =>
        obtain ⟨j, hjk, rfl, hg⟩ := hrel
        obtain ⟨V, hV⟩ : ∃ W, W = wr := ⟨_, rfl⟩
        subst hV
        have s1 := cell_of (gr_blk BX.out hg) 3
        have s3 := cell_of (gr_blk BY.out hg) 3
        simp at s1 s3
        have sl1 := lt_of_block (gr_blk BX.out hg)
        have sl3 := lt_of_block (gr_blk BY.out hg)
        have G := hid hg
        clear hg
        by_cases hj : j < n2
        · have hj' : (j : Int) < (n2 : Int) := by omega
          have hjx : ys[j]? = some (ys[j]'(by rw [← HL3.out]; exact hj)) := List.getElem?_eq_getElem _
          generalize ys[j]'(by rw [← HL3.out]; exact hj) = u at hjx
          obtain ⟨g1, o1, cp1, e, _, hgl1, _, hc1⟩ := (HX2.out _ (Gr.trans GW.out G.out)).get eG_len hjx
          obtain ⟨g3, o3, cp3, e', _, hgl3, _, hc3⟩ := (HY2.out _ (Gr.trans GW.out G.out)).get eG_len hjx
          injection e with e1 e2 e3
          injection e' with e4 e5 e6
          subst e1 e3 e4 e6
          have q1 := hc1 0 _ rfl
          have q3 := hc3 0 _ rfl
          have q2 := hc1 1 _ rfl
          have q4 := hc3 1 _ rfl
          rw [Nat.add_zero] at q1 q3
          have p0 : (0 : Int) ≤ (j : Int) := by omega
          clear hjx hc1 hc3 e2 e5
          go_wp2_with fail
          go_big_quiet (fail)
          go_wp2
          go_roundg (gk - 1)
          case measure => omega
          case rel =>
            refine ⟨j + 1, by omega, ?_, Ch.drewN G.out _⟩
            first | with_reducible rfl | simp
        · have hj' : ¬ ((j : Int) < (n2 : Int)) := by omega
          go_wp2
          go_ret
          exact ⟨rfl, Gr.trans GW.out G.out⟩
end Go.Proofs.Ytnpbehcfbceclaa.Lt
