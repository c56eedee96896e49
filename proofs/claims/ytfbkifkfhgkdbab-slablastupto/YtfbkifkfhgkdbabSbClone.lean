/-
  What slices.Clone answers, at the three types of layer 4: the list anew, in memory of the call's own. Condition: the list is there, and has no more than 4294967296 elements.
-/
import Derived.Test.YtfbkifkfhgkdbabSbList
import Derived.Lib.SliceRun
namespace Go.Proofs.Ytfbkifkfhgkdbab.Sb
open Go.RowKit
attribute [local go_sem ↓] Go.wp_at_zero Go.wp_at_succ

theorem ow_empty (e : Nat) (w : World) : Ow e w.heap.size (w.alloc (.cells #[] e)) (.slice (some ⟨w.heap.size, 0, none⟩) 0 0) [] :=
  ⟨rfl, .inr ⟨w.heap.size, 0, #[], rfl, Nat.le_refl _, (MapKept.heap_alloc w _).1, Nat.le_refl _, by unfold maxLen; omega, rfl, rfl⟩⟩

theorem clone_int (P : Nat → Prop) (v : Value) (us : List Value) (w : World) (hx : Ls P w v us) (hone : ∀ u ∈ us, u.oneCell' = true) (hl : us.length ≤ 4294967296) :
    Calls Try.prog 50 #[v] w fun e w' => ∃ v', e = .returned v' ∧ Ow 3 w.heap.size w' v' us ∧ Ch NoB w w' := by
  have hx' := hx
  obtain ⟨ao, cap, rfl, ⟨hcap, hnone⟩, hcase⟩ := hx'
  cases ao with
  | none =>
    have hys : us = [] := by
      rcases hcase with h0 | ⟨g, o, h1, _⟩
      · exact h0
      · cases h1
    subst hys
    have hc := hnone rfl
    subst hc
    have hN := fun w' => Lib.run_eql_slice_nil (P := Try.prog) w' 41 3 none 0 0 0 0 Try.underlying41
    go_enter Try.func50, Try.ntmps50
    go_wp2
    go_ret
    exact ⟨_, rfl, Ow.nil _ _ _, Ch.refl _ _⟩
  | some ad =>
    obtain ⟨n, hn⟩ : ∃ n, n = us.length := ⟨_, rfl⟩
    rw [← hn] at hx hl ⊢
    have HX := hid hx
    have HO := hid hone
    have HN := hid hn
    clear hx hcase hnone hone hcap hn
    have hN := fun w' => Lib.run_eql_slice_nil (P := Try.prog) w' 41 3 (some ad) n cap 0 0 Try.underlying41
    go_enter Try.func50, Try.ntmps50
    go_wp2_with (first | (at_builtin; refine wpList_append_ow rfl (.tmp 5) (.tmp 6) 41 3 8 (.int .i64 0) Try.underlying41 int_info rfl rfl w.heap.size _ [] rfl (ow_empty _ w) P _ us rfl (HX.out.alloc _) HO.out n (by simp [HN.out]) (by omega) (by unfold maxLen; omega) (by simp) us rfl ?_; intro ao2 cap2 w2 ow2 cw2 bl2; have HO2 := hid ow2; have HG2 := hid cw2; clear ow2 cw2 bl2))
    go_ret
    exact ⟨_, rfl, HO2.out, ((Ch.refl NoB w).alloc _).trans HG2.out (fun q e => .inr (by have : some w.heap.size = some q := e; injection this with this; omega))⟩

theorem clone_bool (P : Nat → Prop) (v : Value) (us : List Value) (w : World) (hx : Ls P w v us) (hone : ∀ u ∈ us, u.oneCell' = true) (hl : us.length ≤ 4294967296) :
    Calls Try.prog 51 #[v] w fun e w' => ∃ v', e = .returned v' ∧ Ow 4 w.heap.size w' v' us ∧ Ch NoB w w' := by
  have hx' := hx
  obtain ⟨ao, cap, rfl, ⟨hcap, hnone⟩, hcase⟩ := hx'
  cases ao with
  | none =>
    have hys : us = [] := by
      rcases hcase with h0 | ⟨g, o, h1, _⟩
      · exact h0
      · cases h1
    subst hys
    have hc := hnone rfl
    subst hc
    have hN := fun w' => Lib.run_eql_slice_nil (P := Try.prog) w' 42 4 none 0 0 0 0 Try.underlying42
    go_enter Try.func51, Try.ntmps51
    go_wp2
    go_ret
    exact ⟨_, rfl, Ow.nil _ _ _, Ch.refl _ _⟩
  | some ad =>
    obtain ⟨n, hn⟩ : ∃ n, n = us.length := ⟨_, rfl⟩
    rw [← hn] at hx hl ⊢
    have HX := hid hx
    have HO := hid hone
    have HN := hid hn
    clear hx hcase hnone hone hcap hn
    have hN := fun w' => Lib.run_eql_slice_nil (P := Try.prog) w' 42 4 (some ad) n cap 0 0 Try.underlying42
    go_enter Try.func51, Try.ntmps51
    go_wp2_with (first | (at_builtin; refine wpList_append_ow rfl (.tmp 5) (.tmp 6) 42 4 1 (.bool false) Try.underlying42 bool_info rfl rfl w.heap.size _ [] rfl (ow_empty _ w) P _ us rfl (HX.out.alloc _) HO.out n (by simp [HN.out]) (by omega) (by unfold maxLen; omega) (by simp) us rfl ?_; intro ao2 cap2 w2 ow2 cw2 bl2; have HO2 := hid ow2; have HG2 := hid cw2; clear ow2 cw2 bl2))
    go_ret
    exact ⟨_, rfl, HO2.out, ((Ch.refl NoB w).alloc _).trans HG2.out (fun q e => .inr (by have : some w.heap.size = some q := e; injection this with this; omega))⟩

theorem clone_ints (P : Nat → Prop) (v : Value) (us : List Value) (w : World) (hx : Ls P w v us) (hone : ∀ u ∈ us, u.oneCell' = true) (hl : us.length ≤ 4294967296) :
    Calls Try.prog 52 #[v] w fun e w' => ∃ v', e = .returned v' ∧ Ow 41 w.heap.size w' v' us ∧ Ch NoB w w' := by
  have hx' := hx
  obtain ⟨ao, cap, rfl, ⟨hcap, hnone⟩, hcase⟩ := hx'
  cases ao with
  | none =>
    have hys : us = [] := by
      rcases hcase with h0 | ⟨g, o, h1, _⟩
      · exact h0
      · cases h1
    subst hys
    have hc := hnone rfl
    subst hc
    have hN := fun w' => Lib.run_eql_slice_nil (P := Try.prog) w' 43 41 none 0 0 0 0 Try.underlying43
    go_enter Try.func52, Try.ntmps52
    go_wp2
    go_ret
    exact ⟨_, rfl, Ow.nil _ _ _, Ch.refl _ _⟩
  | some ad =>
    obtain ⟨n, hn⟩ : ∃ n, n = us.length := ⟨_, rfl⟩
    rw [← hn] at hx hl ⊢
    have HX := hid hx
    have HO := hid hone
    have HN := hid hn
    clear hx hcase hnone hone hcap hn
    have hN := fun w' => Lib.run_eql_slice_nil (P := Try.prog) w' 43 41 (some ad) n cap 0 0 Try.underlying43
    go_enter Try.func52, Try.ntmps52
    go_wp2_with (first | (at_builtin; refine wpList_append_ow rfl (.tmp 5) (.tmp 6) 43 41 24 (.slice none 0 0) Try.underlying43 ints_info rfl rfl w.heap.size _ [] rfl (ow_empty _ w) P _ us rfl (HX.out.alloc _) HO.out n (by simp [HN.out]) (by omega) (by unfold maxLen; omega) (by simp) us rfl ?_; intro ao2 cap2 w2 ow2 cw2 bl2; have HO2 := hid ow2; have HG2 := hid cw2; clear ow2 cw2 bl2))
    go_ret
    exact ⟨_, rfl, HO2.out, ((Ch.refl NoB w).alloc _).trans HG2.out (fun q e => .inr (by have : some w.heap.size = some q := e; injection this with this; omega))⟩
end Go.Proofs.Ytfbkifkfhgkdbab.Sb
