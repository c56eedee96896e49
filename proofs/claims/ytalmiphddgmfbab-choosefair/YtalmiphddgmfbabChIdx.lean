/-
  What slices.Index, slices.Contains, slices.Clone of numbers, hasEachOnce, and the document's is answer. Conditions: a list is not too long.
-/
import Derived.Test.YtalmiphddgmfbabChOrd
namespace Go.Proofs.Ytalmiphddgmfbab.Lt
open Go.RowKit Wd
attribute [local go_sem ↓] Go.wp_at_zero Go.wp_at_succ

/-- where a number stands first, or -1 -/
def ixZ (l : List Int) (x : Int) : Int := if x ∈ l then ((l.idxOf x : Nat) : Int) else -1
theorem idx_first {l : List Int} {x : Int} {j : Nat} (hn : x ∉ l.take j) (hx : l[j]? = some x) : l.idxOf x = j := by
  induction l generalizing j with
  | nil => simp at hx
  | cons y r ih =>
    cases j with
    | zero =>
      simp at hx
      subst hx
      simp
    | succ j =>
      rw [List.getElem?_cons_succ] at hx
      rw [List.take_succ_cons, List.mem_cons, not_or] at hn
      rw [List.idxOf_cons, ih hn.2 hx]
      have : (y == x) = false := by simpa using fun e => hn.1 e.symm
      rw [this]
      rfl
set_option maxRecDepth 20000 in
theorem index_any (P : Nat → Prop) (w : World) (ao : Option Addr) (n cap : Nat) (xs : List Int) (x : Int) (h : Ls eI P w (.slice ao n cap) xs) (hn : n ≤ 4398046511104) : Calls Try.prog 34 #[.slice ao n cap, .int .i64 x] w fun e w' => e = .returned (.int .i64 (ixZ xs x)) ∧ w' = w := by
  have HL := hid h.len.1
  have HB := hid h
  clear h
  go_enter Try.func34, Try.ntmps34
  go_wp2_with fail
  go_loopg [8] n (fun q i wr => ∃ (j : Nat), j + q = n ∧ i = .int .i64 (j : Int) ∧ x ∉ xs.take j ∧ w = wr)
  case atStart => exact ⟨0, by omega, rfl, by simp, rfl⟩
  case round =>
    obtain ⟨j, hjk, rfl, hN, rfl⟩ := hrel
    have HN := hid hN
    clear hN
    by_cases hj : j < n
    · obtain ⟨y, hx⟩ : ∃ x, xs[j]? = some x := ⟨_, List.getElem?_eq_getElem (by rw [← HL.out]; omega)⟩
      obtain ⟨gg, oo, cap', hv, _, hgl, _, hcs⟩ := HB.out.get eI_len hx
      injection hv with hv1 hv2 hv3
      subst hv1
      have c0 := hcs 0 _ rfl
      simp only [Nat.mul_one, Nat.add_zero] at c0
      have j0 : (0 : Int) ≤ (j : Int) := by omega
      have j1 : (j : Int) < (n : Int) := by omega
      have HX := hid hx
      clear hcs hv2 hv3 hx hgl
      by_cases e : x = y
      · subst e
        have HI := hid (show ixZ xs x = (j : Int) from by unfold ixZ; rw [if_pos (List.mem_of_getElem? HX.out), idx_first HN.out HX.out])
        go_wp2
        go_ret
        exact ⟨by rw [HI.out]; rfl, rfl⟩
      · have e1 : (x == y) = false := by simpa using e
        have HE := hid e
        clear e
        go_wp2
        go_roundg (gk - 1)
        case measure => omega
        case rel => exact ⟨j + 1, by omega, by simp, by rw [take_one HX.out, List.mem_append, not_or]; exact ⟨HN.out, by simpa using HE.out⟩, rfl⟩
    · have jn : ¬ (j : Int) < (n : Int) := by omega
      have HI := hid (show ixZ xs x = -1 from by unfold ixZ; rw [if_neg]; have := HN.out; rwa [List.take_of_length_le (by rw [← HL.out]; omega)] at this)
      go_wp2
      go_ret
      exact ⟨by rw [HI.out]; rfl, rfl⟩
theorem contains_any (P : Nat → Prop) (w : World) (ao : Option Addr) (n cap : Nat) (xs : List Int) (x : Int) (h : Ls eI P w (.slice ao n cap) xs) (hn : n ≤ 4398046511104) : Calls Try.prog 53 #[.slice ao n cap, .int .i64 x] w fun e w' => e = .returned (.bool (decide (x ∈ xs))) ∧ w' = w := by
  have HI := hid (index_any P w ao n cap xs x h hn)
  have HD := hid (show decide (0 ≤ ixZ xs x) = decide (x ∈ xs) from by
    unfold ixZ
    by_cases e : x ∈ xs
    · rw [if_pos e]; simp [e]
    · rw [if_neg e]; simp [e])
  clear h
  generalize ixZ xs x = i at HI HD
  rw [← HD.out]
  clear HD
  go_enter Try.func53, Try.ntmps53
  go_wp2_with (go_at_call 34; refine HI.out.mono ?_; rintro e w1 ⟨rfl, rfl⟩)
  go_ret
  exact ⟨rfl, rfl⟩
theorem all_dec (l : List Int) : All l ↔ ∀ n : Nat, n < l.length → (n : Int) ∈ l := Iff.rfl
open Classical in
set_option maxRecDepth 20000 in
theorem each_any (P : Nat → Prop) (w : World) (ao : Option Addr) (n cap : Nat) (xs : List Int) (h : Ls eI P w (.slice ao n cap) xs) (hn : n ≤ 4398046511104) : Calls Try.prog 32 #[.slice ao n cap] w fun e w' => e = .returned (.bool (decide (All xs))) ∧ w' = w := by
  have HL := hid h.len.1
  have HC := hid (fun x => contains_any P w ao n cap xs x h hn)
  clear h
  go_enter Try.func32, Try.ntmps32
  go_wp2_with fail
  go_loopg [6] n (fun q i wr => ∃ (j : Nat), j + q = n ∧ i = .int .i64 (j : Int) ∧ (∀ k : Nat, k < j → (k : Int) ∈ xs) ∧ w = wr)
  case atStart => exact ⟨0, by omega, rfl, fun k hk => by omega, rfl⟩
  case round =>
    obtain ⟨j, hjk, rfl, hN, rfl⟩ := hrel
    have HN := hid hN
    clear hN
    by_cases hj : j < n
    · have j1 : (j : Int) < (n : Int) := by omega
      by_cases e : (j : Int) ∈ xs
      · have HE := hid e
        have e1 : decide ((j : Int) ∈ xs) = true := decide_eq_true e
        clear e
        go_wp2_with (go_at_call 53; refine (HC.out _).mono ?_; rintro e w1 ⟨rfl, rfl⟩)
        go_roundg (gk - 1)
        case measure => omega
        case rel => exact ⟨j + 1, by omega, by simp, fun k hk => by
          rcases Nat.lt_or_ge k j with h1 | h1
          · exact HN.out k h1
          · obtain rfl : k = j := by omega
            exact HE.out, rfl⟩
      · have e1 : decide ((j : Int) ∈ xs) = false := decide_eq_false e
        have HI := hid (show decide (All xs) = false from decide_eq_false (fun hA => e (hA j (by rw [← HL.out]; exact hj))))
        clear e
        go_wp2_with (go_at_call 53; refine (HC.out _).mono ?_; rintro e w1 ⟨rfl, rfl⟩)
        go_ret
        exact ⟨by rw [HI.out]; rfl, rfl⟩
    · have jn : ¬ (j : Int) < (n : Int) := by omega
      have HI := hid (show decide (All xs) = true from decide_eq_true (fun k hk => HN.out k (by rw [← HL.out] at hk; omega)))
      go_wp2
      go_ret
      exact ⟨by rw [HI.out]; rfl, rfl⟩
theorem count_snoc (l : List Int) (j : Nat) (x y : Int) (h : l[j]? = some y) : (l.take (j + 1)).count x = (l.take j).count x + (if y = x then 1 else 0) := by
  rw [take_one h, List.count_append]
  by_cases e : y = x <;> simp [e]
end Go.Proofs.Ytalmiphddgmfbab.Lt
