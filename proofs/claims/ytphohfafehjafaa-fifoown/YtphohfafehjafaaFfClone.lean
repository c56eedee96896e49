/-
  What slices.Clone and All answer: the list anew, in memory of the call's own. Condition: the list is there, and has no more than 4096 elements.
-/
import Derived.Test.YtphohfafehjafaaFfSearch
import Derived.Lib.SliceRun
namespace Go.Proofs.Ytphohfafehjafaa.Ff
open Go.RowKit
attribute [local go_sem ↓] Go.wp_at_zero Go.wp_at_succ

theorem own_empty (w : World) : Own w.heap.size (w.alloc (.cells #[] 33)) (.slice (some ⟨w.heap.size, 0, none⟩) 0 0) [] :=
  ⟨rfl, .inr ⟨w.heap.size, 0, #[], rfl, Nat.le_refl _, (MapKept.heap_alloc w _).1, Nat.le_refl _, by unfold maxLen; omega, rfl, rfl⟩⟩

theorem clone_any (P : Nat → Prop) (v : Value) (xs : List W3) (w : World) (hx : Lst P w v xs) (hl : xs.length ≤ 4096) :
    Calls Try.prog 33 #[v] w fun e w' => ∃ v', e = .returned v' ∧ Own w.heap.size w' v' xs ∧ Ch NoB w w' := by
  have hx' := hx
  obtain ⟨ao, cap, rfl, ⟨hcap, hnone⟩, hcase⟩ := hx'
  cases ao with
  | none =>
    have hys : xs = [] := by
      rcases hcase with h0 | ⟨g, o, h1, _⟩
      · exact h0
      · cases h1
    subst hys
    have hc := hnone rfl
    subst hc
    have hN := fun w' => Lib.run_eql_slice_nil (P := Try.prog) w' 26 33 none 0 0 0 0 Try.underlying26
    go_enter Try.func33, Try.ntmps33
    go_wp2
    go_ret
    exact ⟨_, rfl, Own.nil _ _, Ch.refl _ _⟩
  | some ad =>
    have HX := hid hx
    clear hx hcase hnone
    have hN := fun w' => Lib.run_eql_slice_nil (P := Try.prog) w' 26 33 (some ad) xs.length cap 0 0 Try.underlying26
    go_enter Try.func33, Try.ntmps33
    go_wp2_with (first | (at_builtin; refine wpList_append_own2 rfl (.tmp 5) (.tmp 6) rfl w.heap.size _ [] rfl ?_ P _ xs rfl (HX.out.alloc _) xs.length (by simp) (by omega) (by simp) xs rfl ?_; exact own_empty w; intro ao2 cap2 w2 ow2 cw2 bl2; have HO2 := hid ow2; have HG2 := hid cw2; clear ow2 cw2 bl2))
    go_ret
    exact ⟨_, rfl, HO2.out, ((Ch.refl NoB w).alloc _).trans HG2.out (fun q e => .inr (by have : some w.heap.size = some q := e; injection this with this; omega))⟩

theorem all_any (P : Nat → Prop) (b : Nat) (v : Value) (xs : List W3) (w : World) (hq : QAt w b v) (hx : Lst P w v xs) (hl : xs.length ≤ 4096) :
    Calls Try.prog 18 #[.pointer (some ⟨b, 0, none⟩)] w fun e w' => ∃ v', e = .returned v' ∧ Own w.heap.size w' v' xs ∧ Ch NoB w w' := by
  have c0 := hq.cell
  have HX := hid hx
  have HL := hid hl
  clear hq hx hl
  go_enter Try.func18, Try.ntmps18
  go_wp2_with fail
  refine (clone_any P v xs _ HX.out HL.out).mono ?_
  rintro e w1 ⟨v', rfl, o1, g1⟩
  have HO := hid o1
  have HG := hid g1
  clear o1 g1
  go_wp2
  go_ret
  exact ⟨_, rfl, HO.out, HG.out⟩
end Go.Proofs.Ytphohfafehjafaa.Ff
