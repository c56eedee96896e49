/-
  What 'lives' of the statements answers: true. No conditions.
-/
import Derived.Test.YtphohfafehjafaaFfBatch
namespace Go.Proofs.Ytphohfafehjafaa.Ff
open Go.RowKit
attribute [local go_sem ↓] Go.wp_at_zero Go.wp_at_succ

theorem Que.new {w : World} {b : Nat} (h : QAt w b (.slice none 0 0)) : Que w.heap.size w b (.slice none 0 0) [] := ⟨h, Own.nil _ _, h.lt, by simp⟩
theorem Up.nil : Up [] := fun i j a b _ ha => by simp at ha
theorem Left.que {base b : Nat} {v : Value} {w w' : World} {xs : List W3} (h : Left base b v w xs w') : ∃ ao cap, Que base w' b (.slice ao xs.length cap) xs ∧ Ch (QS b v) w w' ∧ (∀ q, Blk (.slice ao xs.length cap) q → Blk v q ∨ w.heap.size ≤ q) := by
  obtain ⟨v', h1, h2, h3⟩ := h
  obtain ⟨ao, cap, rfl⟩ := h1.2.1.form
  exact ⟨ao, cap, h1, h2, h3⟩

set_option maxHeartbeats 1000000 in
theorem lives_any (w : World) : Calls Try.prog 10 #[] w fun e w' => e = .returned (.bool true) ∧ Ch NoB w w' := by
  go_enter Try.func10, Try.ntmps10
  go_wp2_with fail
  refine (new_any _).mono ?_
  rintro e w1 ⟨b, rfl, hb, q1, g1⟩
  have HQ1 := hid (Que.new q1)
  have HG1 := hid g1
  have HB := hid hb
  clear q1 g1 hb
  go_wp2_with fail
  have hp := put_any w1.heap.size b (.slice none 0 0) [] ⟨0, 0, 7⟩ w1 HQ1.out Up.nil (Nat.le_refl _)
  have he : putE [] ⟨0, 0, 7⟩ = 0 := by decide
  have hl : putL [] ⟨0, 0, 7⟩ = [⟨0, 0, 7⟩] := by unfold putL; rw [he]; rfl
  rw [he, hl] at hp
  refine hp.mono ?_
  rintro e w2 ⟨rfl, l2⟩
  obtain ⟨ao2, c2, h2, g2, b2⟩ := l2.que
  have HQ2 := hid h2
  have HG2 := hid (HG1.out.trans g2 (fun q e => .inr (by rcases e with e | e; have := HB.out; omega; cases e)))
  have HB2 := hid b2
  clear hp he hl l2 h2 g2 b2 HQ1
  go_wp2_with fail
  refine (take_some w1.heap.size b _ ⟨0, 0, 7⟩ [] _ HQ2.out).mono ?_
  rintro e w3 ⟨rfl, l3⟩
  obtain ⟨ao3, c3, h3, g3, b3⟩ := l3.que
  have HQ3 := hid h3
  have HG3 := hid (HG2.out.trans g3 (fun q e => .inr (by rcases e with e | e; have := HB.out; omega; have := (HQ2.out.2.1.blk e).1; have := HG1.out.size; omega)))
  clear l3 h3 g3 b3
  go_wp2_with fail
  refine (len_any b ao3 _ c3 _ (HQ3.out.1.alloc _)).mono ?_
  rintro e w4 ⟨rfl, rfl⟩
  go_wp2
  go_ret
  exact ⟨rfl, HG3.out.alloc _⟩
end Go.Proofs.Ytphohfafehjafaa.Ff
