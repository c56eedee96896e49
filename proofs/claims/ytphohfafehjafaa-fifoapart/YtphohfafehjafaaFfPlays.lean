/-
  What FifoPlays of the statements answers: true, at any calls. Condition: the list of calls is there, and shorter than 2^62.
-/
import Derived.Test.YtphohfafehjafaaFfActs
namespace Go.Proofs.Ytphohfafehjafaa.Ff
open Go.RowKit
attribute [local go_sem ↓] Go.wp_at_zero Go.wp_at_succ

/-- a queue and the document's list, the same, apart -/
def Stand (base b : Nat) (w : World) (lv : Value) (wr : World) : Prop :=
  ∃ (v : Value) (P : Nat → Prop) (xs : List W3), Que base wr b v xs ∧ Up xs ∧ Lst P wr lv xs ∧ (∀ q, P q → ¬ QS b v q) ∧ base ≤ wr.heap.size ∧ Ch NoB w wr ∧ w.heap.size ≤ b
theorem Stand.step {base b : Nat} {w wr w' : World} {v lv' : Value} {P : Nat → Prop} {xs xs' : List W3} (hq : Que base wr b v xs) (hb : base ≤ wr.heap.size) (hg : Ch NoB w wr) (hwb : w.heap.size ≤ b) (h : Done base b v P wr lv' xs' w') : Stand base b w lv' w' := by
  obtain ⟨v', P', h1, h2, h3, h4, h5, h6, h7⟩ := h
  have hs := h3.size
  refine ⟨v', P', xs', h1, h2, h5, h7, by omega, hg.trans h3 (fun q e => .inr ?_), hwb⟩
  have := hq.2.2.1
  rcases e with e | e
  · omega
  · have := (hq.2.1.blk e).1; omega
theorem Stand.new {w w1 : World} {b : Nat} (hb : w.heap.size ≤ b) (q1 : QAt w1 b (.slice none 0 0)) (g1 : Ch NoB w w1) (w2 : World) (g2 : Ch NoB w1 w2) : Stand w1.heap.size b w (.slice (some ⟨w2.heap.size, 0, none⟩) 0 0) (w2.alloc (.cells #[] 33)) := by
  have := g2.size
  refine ⟨.slice none 0 0, (w2.heap.size ≤ ·), [], ((Que.new q1).ch g2 (fun _ _ => noB _)).alloc _, Up.nil, (Own.lit w2).lst, fun q h e => ?_, by simp; omega, (g1.trans' g2).alloc _, hb⟩
  rcases e with e | e
  · have := q1.lt; have h' : w2.heap.size ≤ q := h; omega
  · cases e

set_option maxHeartbeats 1000000 in
theorem plays_law (ov : Value) (os : List A6) (w : World) (ho : Ops w.heap.size w ov os) (hl : os.length ≤ 4611686018427387903) :
    Calls Try.prog 3 #[ov] w fun e w' => e = .returned (.bool true) ∧ Ch NoB w w' := by
  obtain ⟨oa, oc, rfl⟩ := ho.form
  obtain ⟨m, hm⟩ : ∃ m, m = os.length := ⟨_, rfl⟩
  rw [← hm] at ho hl ⊢
  have HO := hid ho
  have HM := hid hm
  clear ho hm
  go_enter Try.func3, Try.ntmps3
  go_wp2_with fail
  refine (new_any _).mono ?_
  rintro e w1 ⟨b, rfl, hb, q1, g1⟩
  have HQ1 := hid q1
  have HG1 := hid g1
  clear q1 g1
  go_wp2_with fail
  refine (lives_any _).mono ?_
  rintro e w2 ⟨rfl, g2⟩
  have HS := hid (Stand.new hb HQ1.out HG1.out w2 g2)
  clear g2
  go_wp2_with fail
  go_loopg [4, 5, 6] m (fun k l ok i wr => ∃ j ao n c, j + k = m ∧ ok = .bool true ∧ i = .int .i64 ((j : Nat) : Int) ∧ l = .slice ao n c ∧ Stand w1.heap.size b w (.slice ao n c) wr)
  case atStart => exact ⟨0, _, _, _, by omega, rfl, rfl, rfl, HS.out⟩
  case round =>
    obtain ⟨j, ao, n, c, hjk, rfl, rfl, rfl, v, P, xs, hq, hu, hl1, hP, hbs, hg, hwb⟩ := hrel
    have HQ := hid hq
    have HU := hid hu
    have HL := hid hl1
    have HP := hid hP
    have HG := hid hg
    clear hq hu hl1 hP hg
    by_cases hj : j < m
    · obtain ⟨a, hq⟩ : ∃ q, os[j]? = some q := ⟨_, List.getElem?_eq_getElem (by rw [← HM.out]; exact hj)⟩
      obtain ⟨g, o, rfl, hgB, o0, o1, o2, o3, o4, o5⟩ := (HO.out.ch HG.out (Nat.le_refl _) (fun _ _ => noB _)).get hq
      have hgl := HG.out.size
      have hgl2 : g < wr.heap.size := by omega
      have j0 : (0 : Int) ≤ (j : Int) := by omega
      have j1 : (j : Int) < (m : Int) := by omega
      clear hq
      go_wp2_with fail
      refine (does_any P w1.heap.size b v _ xs a.d a.x a.p a.r _ HQ.out HU.out HL.out HP.out hbs).mono ?_
      rintro e w5 ⟨ao5, n5, c5, xs5, rfl, d5⟩
      have HS5 := hid (Stand.step HQ.out hbs HG.out hwb d5)
      clear d5
      go_wp2
      go_roundg (gk - 1)
      case measure => omega
      case rel => exact ⟨j + 1, _, _, _, by omega, rfl, by simp, rfl, HS5.out⟩
    · go_wp2_with fail
      refine (told_any P w1.heap.size b v _ xs 0 0 _ HQ.out HL.out).mono ?_
      rintro e w5 ⟨rfl, g5⟩
      have HG5 := hid (HG.out.trans' g5)
      clear g5
      go_wp2
      go_ret
      exact ⟨rfl, HG5.out⟩
end Go.Proofs.Ytphohfafehjafaa.Ff
