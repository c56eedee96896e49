/-
  Whether two lists of numbers are the same: the statement's own comparison of a list with itself. Condition: the list is not too long.
-/
import Derived.Test.YtbghagpjkkmhpabTbNum
namespace Go.Proofs.Ytbghagpjkkmhpab.Lt
open Go.RowKit Wd
attribute [local go_sem ↓] Go.wp_at_zero Go.wp_at_succ
set_option maxRecDepth 20000

theorem num_at {w : World} {P : Nat → Prop} {ao : Option Addr} {n cap : Nat} {xs : List Int} (h : Ls eI P w (.slice ao n cap) xs) {i : Nat} {x : Int} (hi : xs[i]? = some x) :
    ∃ g o, ao = some ⟨g, o, none⟩ ∧ g < w.heap.size ∧ n ≤ cap ∧ w.cell? ⟨g, o + i, none⟩ = some (.int .i64 x) := by
  obtain ⟨g, o, cp, e, _, hg, hc, hx⟩ := h.get eI_len hi
  injection e with e1 e2 e3
  have h0 := hx 0 _ rfl
  rw [Nat.add_zero, Nat.mul_one] at h0
  exact ⟨g, o, e1, hg, by omega, h0⟩
set_option maxHeartbeats 4000000 in
theorem same_any (w : World) (P Q : Nat → Prop) (ao bo : Option Addr) (n ca cb : Nat) (xs : List Int) (hn : n = xs.length) (ha : Ls eI P w (.slice ao n ca) xs) (hb : Ls eI Q w (.slice bo n cb) xs) (hl : xs.length ≤ 4294967296) :
    Calls Try.prog 15 #[.slice ao n ca, .slice bo n cb] w fun e w' => e = .returned (.bool true) ∧ Gr w w' := by
  have HA := hide (show ∀ W, Gr w W → Ls eI P W (.slice ao n ca) xs from fun W g => ha.gr g)
  have HB := hide (show ∀ W, Gr w W → Ls eI Q W (.slice bo n cb) xs from fun W g => hb.gr g)
  have HN := hide hn
  have hn1 : n ≤ 4294967296 := by omega
  have hne : (((n : Int)) != (n : Int)) = false := by simp
  clear ha hb hl hn
  go_enter Try.func15, Try.ntmps15
  go_wp2_with fail
  go_loopg [5] n (fun k i wr => ∃ (j : Nat), j + k = n ∧ i = .int .i64 (j : Int) ∧ Gr w wr)
  case atStart => exact ⟨0, by omega, rfl, Gr.refl _⟩
  case round =>
    obtain ⟨j, hjk, rfl, hg⟩ := hrel
    obtain ⟨V, hV⟩ : ∃ W, W = wr := ⟨_, rfl⟩
    subst hV
    have G := hide hg
    by_cases hj : j < n
    · have hj' : (j : Int) < (n : Int) := by omega
      have hj0 : (0 : Int) ≤ (j : Int) := by omega
      have hjl : j < xs.length := by rw [← HN.out]; exact hj
      have hjx : xs[j]? = some xs[j] := List.getElem?_eq_getElem hjl
      generalize xs[j] = x at hjx
      obtain ⟨g, o, e1, hgl, hcap, c0⟩ := num_at (HA.out _ hg) hjx
      subst e1
      obtain ⟨g2, o2, e1, hgl2, hcap2, d0⟩ := num_at (HB.out _ hg) hjx
      subst e1
      have hxe : (x != x) = false := by simp
      clear hjx hg
      go_wp2_with fail
      go_quiet (fail)
      go_wp2
      go_roundg (gk - 1)
      case measure => omega
      case rel =>
        refine ⟨j + 1, by omega, ?_, by first | exact G.out | exact Ch.drew G.out | exact Ch.drewN G.out _⟩
        first | with_reducible rfl | simp
    · have hj' : ¬ ((j : Int) < (n : Int)) := by omega
      clear hg
      go_wp2
      go_ret
      exact ⟨rfl, G.out⟩
end Go.Proofs.Ytbghagpjkkmhpab.Lt
