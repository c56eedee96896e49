/-
  What slices.Insert of one answers and leaves, of a list that is owned. Condition: the list is there, and has fewer than 4096 elements.
-/
import Derived.Test.YtphohfafehjafaaFfDrop
import Derived.Lib.Overlaps
namespace Go.Proofs.Ytphohfafehjafaa.Ff
open Go.RowKit
attribute [local go_sem ↓] Go.wp_at_zero Go.wp_at_succ

theorem lst_three {w : World} {k : Nat} {x : W3} (h : Three w k x) : Lst (· = k) w (.slice (some ⟨k, 0, none⟩) 1 1) [x] := by
  refine ⟨_, 1, rfl, ⟨by simp, fun h => by cases h⟩, .inr ⟨k, 0, rfl, rfl, h.lt, ?_⟩⟩
  intro i y hy
  cases i with
  | zero =>
    simp only [List.getElem?_cons_zero, Option.some.injEq] at hy
    subst hy
    exact h.cells
  | succ i => simp at hy

theorem insert_end (base k : Nat) (v : Value) (xs : List W3) (x : W3) (w : World) (ho : Own base w v xs) (hk : Three w k x) (hl : xs.length < 4096) (hb : base ≤ w.heap.size) :
    Calls Try.prog 30 #[v, .int .i64 (xs.length : Int), .slice (some ⟨k, 0, none⟩) 1 1] w fun e w' => ∃ v', e = .returned v' ∧ Own base w' v' (xs ++ [x]) ∧ Ch (Blk v) w w' ∧ (∀ q, Blk v' q → Blk v q ∨ w.heap.size ≤ q) := by
  have hcap : ∃ ao cap, v = .slice ao xs.length cap ∧ xs.length ≤ cap := by
    obtain ⟨ao, cap, e, ⟨h1, _⟩, _⟩ := ho.lst
    exact ⟨ao, cap, e, h1⟩
  obtain ⟨ao, cap, rfl, hc⟩ := hcap
  obtain ⟨n, hn⟩ : ∃ n, n = xs.length := ⟨_, rfl⟩
  have HO := hid ho
  have HK := hid (lst_three hk)
  have b1 : (0 : Int) ≤ (n : Int) := by omega
  have b2 : (n : Int) ≤ (cap : Int) := by omega
  rw [← hn] at hl hc HO ⊢
  have HN := hid hn
  clear ho hk hn
  cases ao with
  | none =>
    go_enter Try.func30, Try.ntmps30
    go_wp2_with (first | (at_builtin; refine wpList_append_own2 rfl (.tmp 23) (.tmp 24) rfl base _ xs rfl HO.out _ _ [x] rfl HK.out (n + 1) (by rw [HN.out]; rfl) (by omega) hb (xs ++ [x]) rfl ?_; intro ao2 cap2 w2 ow2 cw2 bl2; have HO2 := hid ow2; have HG2 := hid cw2; have HB2 := hid bl2; clear ow2 cw2 bl2))
    all_goals go_ret
    all_goals exact ⟨_, rfl, HO2.out, HG2.out, HB2.out⟩
  | some ad =>
    by_cases hcn : cap = n
    · subst hcn
      go_enter Try.func30, Try.ntmps30
      go_wp2_with (first | (at_builtin; refine wpList_append_own2 rfl (.tmp 23) (.tmp 24) rfl base _ xs rfl HO.out _ _ [x] rfl HK.out (cap + 1) (by rw [HN.out]; rfl) (by omega) hb (xs ++ [x]) rfl ?_; intro ao2 cap2 w2 ow2 cw2 bl2; have HO2 := hid ow2; have HG2 := hid cw2; have HB2 := hid bl2; clear ow2 cw2 bl2))
      all_goals go_ret
      all_goals exact ⟨_, rfl, HO2.out, HG2.out, HB2.out⟩
    · have hcn' : ¬ (n = cap) := fun e => hcn e.symm
      go_enter Try.func30, Try.ntmps30
      go_wp2_with (first | (at_builtin; refine wpList_append_own2 rfl (.tmp 23) (.tmp 24) rfl base _ xs rfl HO.out _ _ [x] rfl HK.out (n + 1) (by rw [HN.out]; rfl) (by omega) hb (xs ++ [x]) rfl ?_; intro ao2 cap2 w2 ow2 cw2 bl2; have HO2 := hid ow2; have HG2 := hid cw2; have HB2 := hid bl2; clear ow2 cw2 bl2))
      all_goals go_ret
      all_goals exact ⟨_, rfl, HO2.out, HG2.out, HB2.out⟩
end Go.Proofs.Ytphohfafehjafaa.Ff
