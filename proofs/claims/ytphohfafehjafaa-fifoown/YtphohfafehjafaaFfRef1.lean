/-
  What 'same' of the statements, at and Has of the document's answer tell. Condition: the lists are there.
-/
import Derived.Test.YtphohfafehjafaaFfLives
namespace Go.Proofs.Ytphohfafehjafaa.Ff
open Go.RowKit
attribute [local go_sem ↓] Go.wp_at_zero Go.wp_at_succ

theorem same_eq (P Q : Nat → Prop) (va vb : Value) (xs : List W3) (w : World) (ha : Lst P w va xs) (hb : Lst Q w vb xs) (hmax : xs.length ≤ 1000000) :
    Calls Try.prog 22 #[va, vb] w fun e w' => e = .returned (.bool true) ∧ ∃ n, w' = w.drewN n := by
  obtain ⟨ao, cap, rfl⟩ := ha.form
  obtain ⟨bo, cbp, rfl⟩ := hb.form
  obtain ⟨n, hn⟩ : ∃ n, n = xs.length := ⟨_, rfl⟩
  rw [← hn] at hmax ha hb ⊢
  have HA := hid ha
  have HB := hid hb
  have HN := hid hn
  clear ha hb hn
  go_enter Try.func22, Try.ntmps22
  go_wp2_with fail
  go_loopg [5] n (fun k i wr => ∃ j, j + k = n ∧ i = .int .i64 (j : Int) ∧ ∃ m, wr = w.drewN m)
  case atStart => exact ⟨0, by omega, rfl, 0, rfl⟩
  case round =>
    obtain ⟨j, hjk, rfl, m, rfl⟩ := hrel
    by_cases hj : j < n
    · obtain ⟨z, hz⟩ : ∃ z, xs[j]? = some z := ⟨_, List.getElem?_eq_getElem (by rw [← HN.out]; exact hj)⟩
      obtain ⟨g, o, rfl, _, _, a0, a1, a2⟩ := HA.out.get hz
      obtain ⟨g', o', rfl, _, _, b0, b1, b2⟩ := HB.out.get hz
      have j0 : (0 : Int) ≤ (j : Int) := by omega
      have j1 : (j : Int) < (n : Int) := by omega
      clear hz
      go_wp2
      go_quiet (fail)
      go_wp2
      go_roundg (gk - 1)
      case measure => omega
      case rel => exact ⟨j + 1, by omega, by simp, _, rfl⟩
    · go_wp2
      go_ret
      exact ⟨rfl, _, rfl⟩

theorem at_any (P : Nat → Prop) (v : Value) (xs : List W3) (s g : Int) (w : World) (hx : Lst P w v xs) (hl : xs.length ≤ 1000000) :
    Calls Try.prog 36 #[v, .agg #[.int .i64 s, .int .i64 g]] w fun e w' => e = .returned (.int .i64 (atG s g xs)) ∧ Ch NoB w w' := by
  obtain ⟨ao, cap, rfl⟩ := hx.form
  obtain ⟨n, hn⟩ : ∃ n, n = xs.length := ⟨_, rfl⟩
  rw [← hn] at hl hx ⊢
  have HX := hid hx
  have HN := hid hn
  clear hx hn
  go_enter Try.func36, Try.ntmps36
  go_wp2_with fail
  obtain ⟨W, hW⟩ : ∃ W, W = w.alloc (.cells #[.int .i64 s, .int .i64 g] 30) := ⟨_, rfl⟩
  have HG := hid (show Ch NoB w W by rw [hW]; exact (Ch.refl _ _).alloc _)
  have HX1 := hid (HX.out.ch HG.out (fun _ _ _ => noB _))
  have k0 : W.cell? ⟨w.heap.size, 0, none⟩ = some (.int .i64 s) := by rw [hW]; simp
  have k1 : W.cell? ⟨w.heap.size, 1, none⟩ = some (.int .i64 g) := by rw [hW]; simp
  rw [← hW]
  clear hW
  go_loopg [5] n (fun k i wr => ∃ j, j + k = n ∧ i = .int .i64 ((j : Nat) : Int) ∧ (∀ i y, i < j → xs[i]? = some y → isG s g y = false) ∧ ∃ m, wr = W.drewN m)
  case atStart => exact ⟨0, by omega, rfl, fun i y h => by omega, 0, rfl⟩
  case round =>
    obtain ⟨j, hjk, rfl, hno, m, rfl⟩ := hrel
    have HNO := hid hno
    clear hno
    by_cases hj : j < n
    · obtain ⟨z, hz⟩ : ∃ z, xs[j]? = some z := ⟨_, List.getElem?_eq_getElem (by rw [← HN.out]; exact hj)⟩
      obtain ⟨gb, o, rfl, _, hgl, a0, a1, a2⟩ := HX1.out.get hz
      have j0 : (0 : Int) ≤ (j : Int) := by omega
      have j1 : (j : Int) < (n : Int) := by omega
      have HZ := hid hz
      have hC := fun w' => eql_gid z.s z.g s g w'
      obtain ⟨B, hB⟩ : ∃ B, B = isG s g z := ⟨_, rfl⟩
      rw [show (z.s == s && z.g == g) = B from hB.symm] at hC
      have HB := hid hB
      clear hz hB
      go_wp2
      go_quiet (fail)
      cases B with
      | true =>
        have hA := atG_hit HZ.out HB.out.symm HNO.out
        have HA := hid hA
        clear hA
        go_wp2
        go_ret
        exact ⟨by rw [HA.out]; rfl, (HG.out.drewN _).drewN _⟩
      | false =>
        go_wp2
        go_roundg (gk - 1)
        case measure => omega
        case rel =>
          refine ⟨j + 1, by omega, by simp, fun i y hi hy => ?_, _, rfl⟩
          by_cases e : i = j
          · subst e
            rw [HZ.out] at hy
            injection hy with hy
            rw [← hy]
            exact HB.out.symm
          · exact HNO.out i y (by omega) hy
    · have hA : atG s g xs = -1 := atG_miss (fun i y hi hy => HNO.out i y (by rw [← HN.out] at hi; omega) hy)
      have HA := hid hA
      clear hA
      go_wp2
      go_ret
      exact ⟨by rw [HA.out]; rfl, HG.out.drewN _⟩

theorem rhas_any (P : Nat → Prop) (v : Value) (xs : List W3) (s g : Int) (w : World) (hx : Lst P w v xs) (hl : xs.length ≤ 1000000) :
    Calls Try.prog 27 #[v, .agg #[.int .i64 s, .int .i64 g]] w fun e w' => e = .returned (.bool (decide (0 ≤ atG s g xs))) ∧ Ch NoB w w' := by
  have HX := hid hx
  have HL := hid hl
  clear hx hl
  go_enter Try.func27, Try.ntmps27
  go_wp2_with fail
  refine (at_any P v xs s g _ (HX.out.alloc _) HL.out).mono ?_
  rintro e w1 ⟨rfl, g1⟩
  have HG := hid g1
  clear g1
  go_wp2
  go_ret
  exact ⟨rfl, ((Ch.refl _ _).alloc _).trans' HG.out⟩
end Go.Proofs.Ytphohfafehjafaa.Ff
