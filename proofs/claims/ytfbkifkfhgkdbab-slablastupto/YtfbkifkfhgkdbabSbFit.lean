/-
  What fit answers: a script whose slab may be. No conditions.
-/
import Derived.Test.YtfbkifkfhgkdbabSbNames2
import Derived.Handy
namespace Go.Proofs.Ytfbkifkfhgkdbab.Sb
open Go.RowKit
open Classical
attribute [local go_sem ↓] Go.wp_at_zero Go.wp_at_succ

/-- a script whose slab may be -/
def Fitted (vo : Value) (w : World) (e : Ending) (w' : World) : Prop := ∃ (L : Int) (n : Nat), Sized L n ∧ e = .returned (.agg #[.int .i64 L, .int .i64 (n : Int), vo]) ∧ Ch NoB w w'
theorem Fitted.mk {L P : Int} {vo : Value} {w w' : World} (h1 : 1 ≤ L ∧ L ≤ 4096) (h2 : 1 ≤ P ∧ P ≤ 64) (g : Ch NoB w w') : Fitted vo w (.returned (.agg #[.int .i64 L, .int .i64 P, vo])) w' := by
  obtain ⟨n, rfl⟩ : ∃ n : Nat, P = (n : Int) := ⟨P.toNat, by omega⟩
  exact ⟨L, n, ⟨h1, h2⟩, rfl, g⟩

set_option maxHeartbeats 1000000 in
theorem fit_any (l p : Int) (ao : Option Addr) (N cap : Nat) (w : World) : Calls Try.prog 7 #[.agg #[.int .i64 l, .int .i64 p, .slice ao N cap]] w fun e w' => Fitted (.slice ao N cap) w e w' := by
  have cl : (decide (l < 1) = true) ∨ (decide (l < 1) = false ∧ decide (4096 < l) = true) ∨ (decide (l < 1) = false ∧ decide (4096 < l) = false) := by
    by_cases h1 : l < 1
    · exact .inl (decide_eq_true h1)
    · by_cases h2 : 4096 < l
      · exact .inr (.inl ⟨decide_eq_false h1, decide_eq_true h2⟩)
      · exact .inr (.inr ⟨decide_eq_false h1, decide_eq_false h2⟩)
  have cp : (decide (p < 1) = true) ∨ (decide (p < 1) = false ∧ decide (64 < p) = true) ∨ (decide (p < 1) = false ∧ decide (64 < p) = false) := by
    by_cases h1 : p < 1
    · exact .inl (decide_eq_true h1)
    · by_cases h2 : 64 < p
      · exact .inr (.inl ⟨decide_eq_false h1, decide_eq_true h2⟩)
      · exact .inr (.inr ⟨decide_eq_false h1, decide_eq_false h2⟩)
  rcases cl with h1 | ⟨h1, h2⟩ | ⟨h1, h2⟩
  · rcases cp with k1 | ⟨k1, k2⟩ | ⟨k1, k2⟩
    · go_enter Try.func7, Try.ntmps7
      go_wp2
      exact bodyPost_ret (v := .agg #[.int .i64 5, .int .i64 2, .slice ao N cap]) (by simp [results, Try.results7, go_sem]) rfl (Fitted.mk (by omega) (by omega) (((Ch.refl _ _).alloc _).alloc _))
    · go_enter Try.func7, Try.ntmps7
      go_wp2
      exact bodyPost_ret (v := .agg #[.int .i64 5, .int .i64 2, .slice ao N cap]) (by simp [results, Try.results7, go_sem]) rfl (Fitted.mk (by omega) (by omega) (((Ch.refl _ _).alloc _).alloc _))
    · have K1 := hid k1
      have K2 := hid k2
      go_enter Try.func7, Try.ntmps7
      go_wp2
      exact bodyPost_ret (v := .agg #[.int .i64 5, .int .i64 p, .slice ao N cap]) (by simp [results, Try.results7, go_sem]) rfl (Fitted.mk (by omega) (by have e1 := of_decide_eq_false K1.out; have e2 := of_decide_eq_false K2.out; omega) (((Ch.refl _ _).alloc _).alloc _))
  · rcases cp with k1 | ⟨k1, k2⟩ | ⟨k1, k2⟩
    · go_enter Try.func7, Try.ntmps7
      go_wp2
      exact bodyPost_ret (v := .agg #[.int .i64 5, .int .i64 2, .slice ao N cap]) (by simp [results, Try.results7, go_sem]) rfl (Fitted.mk (by omega) (by omega) (((Ch.refl _ _).alloc _).alloc _))
    · go_enter Try.func7, Try.ntmps7
      go_wp2
      exact bodyPost_ret (v := .agg #[.int .i64 5, .int .i64 2, .slice ao N cap]) (by simp [results, Try.results7, go_sem]) rfl (Fitted.mk (by omega) (by omega) (((Ch.refl _ _).alloc _).alloc _))
    · have K1 := hid k1
      have K2 := hid k2
      go_enter Try.func7, Try.ntmps7
      go_wp2
      exact bodyPost_ret (v := .agg #[.int .i64 5, .int .i64 p, .slice ao N cap]) (by simp [results, Try.results7, go_sem]) rfl (Fitted.mk (by omega) (by have e1 := of_decide_eq_false K1.out; have e2 := of_decide_eq_false K2.out; omega) (((Ch.refl _ _).alloc _).alloc _))
  · rcases cp with k1 | ⟨k1, k2⟩ | ⟨k1, k2⟩
    · have H1 := hid h1
      have H2 := hid h2
      go_enter Try.func7, Try.ntmps7
      go_wp2
      exact bodyPost_ret (v := .agg #[.int .i64 l, .int .i64 2, .slice ao N cap]) (by simp [results, Try.results7, go_sem]) rfl (Fitted.mk (by have e1 := of_decide_eq_false H1.out; have e2 := of_decide_eq_false H2.out; omega) (by omega) (((Ch.refl _ _).alloc _).alloc _))
    · have H1 := hid h1
      have H2 := hid h2
      go_enter Try.func7, Try.ntmps7
      go_wp2
      exact bodyPost_ret (v := .agg #[.int .i64 l, .int .i64 2, .slice ao N cap]) (by simp [results, Try.results7, go_sem]) rfl (Fitted.mk (by have e1 := of_decide_eq_false H1.out; have e2 := of_decide_eq_false H2.out; omega) (by omega) (((Ch.refl _ _).alloc _).alloc _))
    · have H1 := hid h1
      have H2 := hid h2
      have K1 := hid k1
      have K2 := hid k2
      go_enter Try.func7, Try.ntmps7
      go_wp2
      exact bodyPost_ret (v := .agg #[.int .i64 l, .int .i64 p, .slice ao N cap]) (by simp [results, Try.results7, go_sem]) rfl (Fitted.mk (by have e1 := of_decide_eq_false H1.out; have e2 := of_decide_eq_false H2.out; omega) (by have e1 := of_decide_eq_false K1.out; have e2 := of_decide_eq_false K2.out; omega) (((Ch.refl _ _).alloc _).alloc _))
end Go.Proofs.Ytfbkifkfhgkdbab.Sb
