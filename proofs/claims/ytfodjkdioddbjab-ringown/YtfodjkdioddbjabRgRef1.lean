/-
  What Len, SameList, Same, rises and Load of the document's answer tell. Condition: the lists are there.
-/
import Derived.Test.YtfodjkdioddbjabRgLoad
namespace Go.Proofs.Ytfodjkdioddbjab.Rg
open Go.RowKit
attribute [local go_sem ↓] Go.wp_at_zero Go.wp_at_succ

/-- the blocks up to one -/
def Upto (k : Nat) : Nat → Prop := fun x => x ≤ k
theorem Ch.upto {K : Nat} {a w : World} (h : Ch (Upto K) a w) {k : Nat} (hk : k ≤ K) (o : Nat) (u : Value) : Ch (Upto K) a (w.setCell ⟨k, o, none⟩ u) := h.setCell (p := ⟨k, o, none⟩) (.inl hk) u

theorem rlen_any (P : Nat → Prop) (sv : Value) (xs : List W3) (hs : Bool) (y : W3) (w : World) (hx : Lst P w sv xs) (hmax : xs.length ≤ 64) :
    Calls Try.prog 13 #[.agg #[sv, .bool hs, .int .i64 y.s, .int .i64 y.g, .int .u64 y.t]] w fun e w' => e = .returned (.int .i64 ((xs.length + (nxo hs y).toList.length : Nat) : Int)) ∧ Ch NoB w w' := by
  obtain ⟨ao, cap, rfl⟩ := hx.form
  clear hx
  cases hs with
  | false =>
    go_enter Try.func13, Try.ntmps13
    go_wp2
    go_ret
    exact ⟨rfl, (Ch.refl _ _).alloc _⟩
  | true =>
    go_enter Try.func13, Try.ntmps13
    go_wp2
    go_ret
    exact ⟨rfl, (Ch.refl _ _).alloc _⟩

theorem Five.alloc {w : World} {k : Nat} {a b c d e : Value} (h : Five w k a b c d e) (o : Obj) : Five (w.alloc o) k a b c d e := (Below.heap_alloc _ _ _ h.lt).trans h
theorem Five.drewN {w : World} {k : Nat} {a b c d e : Value} (h : Five w k a b c d e) (n : Nat) : Five (w.drewN n) k a b c d e := h
theorem Five.fz {w : World} {k : Nat} {a b c d e : Value} (h : Five w k a b c d e) : w.frozen? ⟨k, 0, none⟩ = false ∧ w.frozen? ⟨k, 1, none⟩ = false ∧ w.frozen? ⟨k, 2, none⟩ = false ∧ w.frozen? ⟨k, 3, none⟩ = false ∧ w.frozen? ⟨k, 4, none⟩ = false :=
  ⟨h.frozen 0, h.frozen 1, h.frozen 2, h.frozen 3, h.frozen 4⟩
theorem Three.fz {w : World} {k : Nat} {x : W3} (h : Three w k x) : w.frozen? ⟨k, 0, none⟩ = false ∧ w.frozen? ⟨k, 1, none⟩ = false ∧ w.frozen? ⟨k, 2, none⟩ = false := ⟨h.frozen 0, h.frozen 1, h.frozen 2⟩

/-- an element's cells -/
theorem Lst.get {P : Nat → Prop} {w : World} {ao : Option Addr} {cap n : Nat} {xs : List W3} (h : Lst P w (.slice ao n cap) xs) {i : Nat} {x : W3} (hx : xs[i]? = some x) :
    ∃ g o, ao = some ⟨g, o, none⟩ ∧ P g ∧ g < w.heap.size ∧ w.cell? ⟨g, o + i * 3, none⟩ = some (.int .i64 x.s) ∧ w.cell? ⟨g, o + i * 3 + 1, none⟩ = some (.int .i64 x.g) ∧ w.cell? ⟨g, o + i * 3 + 2, none⟩ = some (.int .u64 x.t) := by
  obtain ⟨ao', cap', e, _, h⟩ := h
  injection e with e1 e2 e3
  subst e1 e3
  rcases h with rfl | ⟨g, o, rfl, h2, h3, h4⟩
  · simp at hx
  · exact ⟨g, o, rfl, h2, h3, h4 i x hx⟩

theorem sameList_eq (P Q : Nat → Prop) (va vb : Value) (xs : List W3) (w : World) (ha : Lst P w va xs) (hb : Lst Q w vb xs) (hmax : xs.length ≤ 1000000) :
    Calls Try.prog 14 #[va, vb] w fun e w' => e = .returned (.bool true) ∧ ∃ n, w' = w.drewN n := by
  obtain ⟨ao, cap, rfl⟩ := ha.form
  obtain ⟨bo, cbp, rfl⟩ := hb.form
  obtain ⟨n, hn⟩ : ∃ n, n = xs.length := ⟨_, rfl⟩
  rw [← hn] at hmax ha hb ⊢
  have HA := hid ha
  have HB := hid hb
  have HN := hid hn
  clear ha hb hn
  go_enter Try.func14, Try.ntmps14
  go_wp2_with fail
  go_loopg [5] n (fun k i wr => ∃ j, j + k = n ∧ i = .int .i64 (j : Int) ∧ ∃ m, wr = w.drewN m)
  case atStart => exact ⟨0, by omega, rfl, 0, rfl⟩
  case round =>
    obtain ⟨j, hjk, rfl, m, rfl⟩ := hrel
    by_cases hj : j < n
    · obtain ⟨z, hz⟩ : ∃ z, xs[j]? = some z := ⟨_, List.getElem?_eq_getElem (by rw [← HN.out]; exact hj)⟩
      obtain ⟨g, o, rfl, _, _, a0, a1, a2⟩ := HA.out.get hz
      obtain ⟨g', o', rfl, _, _, b0, b1, b2⟩ := HB.out.get hz
      have j0 : (0 : Int) ≤ (j : Int) := by omega
      have j1 : (j : Int) < (n : Int) := by omega
      clear hz
      go_wp2
      go_quiet (fail)
      go_wp2
      go_roundg (gk - 1)
      case measure => omega
      case rel => exact ⟨j + 1, by omega, by simp, _, rfl⟩
    · go_wp2
      go_ret
      exact ⟨rfl, _, rfl⟩

theorem same_eq (P Q : Nat → Prop) (va vb : Value) (xs : List W3) (hs : Bool) (y : W3) (w : World) (ha : Lst P w va xs) (hb : Lst Q w vb xs) (hmax : xs.length ≤ 1000000) :
    Calls Try.prog 10 #[.agg #[va, .bool hs, .int .i64 y.s, .int .i64 y.g, .int .u64 y.t], .agg #[vb, .bool hs, .int .i64 y.s, .int .i64 y.g, .int .u64 y.t]] w fun e w' => e = .returned (.bool true) ∧ Ch NoB w w' := by
  obtain ⟨ao, cap, rfl⟩ := ha.form
  obtain ⟨bo, cbp, rfl⟩ := hb.form
  obtain ⟨n, hn⟩ : ∃ n, n = xs.length := ⟨_, rfl⟩
  rw [← hn] at ha hb ⊢
  have HA := hid ha
  have HB := hid hb
  have HM := hid hmax
  clear ha hb hn hmax
  go_enter Try.func10, Try.ntmps10
  go_wp2_with fail
  refine (sameList_eq P Q _ _ xs _ ((HA.out.alloc _).alloc _) ((HB.out.alloc _).alloc _) HM.out).mono ?_
  rintro e w1 ⟨rfl, m, rfl⟩
  go_wp2
  go_ret
  exact ⟨rfl, (((Ch.refl _ _).alloc _).alloc _).drewN _⟩
end Go.Proofs.Ytfodjkdioddbjab.Rg
