/-
  What slices.Index, slices.Contains of bools, slices.IndexFunc, slices.ContainsFunc of ints and strike answer, as the program's Load calls them. Condition: the lists are there, none longer than 4294967296.
-/
import Derived.Test.YtfbkifkfhgkdbabSbOpsP
namespace Go.Proofs.Ytfbkifkfhgkdbab.Sb
open Go.RowKit
attribute [local go_sem ↓] Go.wp_at_zero Go.wp_at_succ

theorem index_true (P : Nat → Prop) (v : Value) (M : List Bool) (w : World) (h : Ls P w v (bv M)) (hl : M.length ≤ 4294967296) :
    Calls Try.prog 56 #[v, .bool true] w fun e w' => (∃ r : Int, e = .returned (.int .i64 r) ∧ (decide (0 ≤ r) = M.any id)) ∧ w' = w := by
  obtain ⟨ao, cap, rfl⟩ := h.form
  obtain ⟨n, hn⟩ : ∃ n, n = (bv M).length := ⟨_, rfl⟩
  rw [← hn] at h ⊢
  have hnl : n = M.length := by rw [hn, bv_length]
  rw [← hnl] at hl
  have HB := hid h
  have HN := hid hnl
  clear h hn hnl
  go_enter Try.func56, Try.ntmps56
  go_wp2_with fail
  go_loopg [8] n (fun k i wr => ∃ j : Nat, j + k = n ∧ i = .int .i64 ((j : Nat) : Int) ∧ (∀ q, q < j → M[q]? = some false) ∧ wr = w)
  case atStart => exact ⟨0, by omega, rfl, fun q a => by omega, rfl⟩
  case round =>
    obtain ⟨j, hjk, rfl, hno, rfl⟩ := hrel
    have HNO := hid hno
    clear hno
    by_cases hj : j < n
    · obtain ⟨z, hz⟩ : ∃ z, M[j]? = some z := ⟨_, List.getElem?_eq_getElem (by rw [← HN.out]; exact hj)⟩
      obtain ⟨g, o, rfl, -, -, -, d0⟩ := HB.out.get1 (bv_get hz)
      have j0 : (0 : Int) ≤ (j : Int) := by omega
      have j1 : (j : Int) < (n : Int) := by omega
      have HZ := hid hz
      clear hz
      cases z with
      | true =>
        go_wp2
        go_ret
        refine ⟨⟨_, rfl, ?_⟩, rfl⟩
        rw [decide_eq_true (by omega)]
        exact (List.any_eq_true.2 ⟨true, List.mem_of_getElem? HZ.out, rfl⟩).symm
      | false =>
        go_wp2
        go_roundg (gk - 1)
        case measure => omega
        case rel => exact ⟨j + 1, by omega, by simp, fun q a => by
          by_cases e : q = j
          · rw [e]; exact HZ.out
          · exact HNO.out q (by omega), rfl⟩
    · go_wp2
      go_ret
      refine ⟨⟨_, rfl, ?_⟩, rfl⟩
      rw [decide_eq_false (by omega)]
      symm
      rw [List.any_eq_false]
      intro x hx
      obtain ⟨q, hq, e⟩ := List.getElem_of_mem hx
      have := HNO.out q (by have := HN.out; omega)
      rw [List.getElem?_eq_getElem hq, e] at this
      injection this with this
      simp [this]

theorem contains_true (P : Nat → Prop) (v : Value) (M : List Bool) (w : World) (h : Ls P w v (bv M)) (hl : M.length ≤ 4294967296) :
    Calls Try.prog 49 #[v, .bool true] w fun e w' => e = .returned (.bool (M.any id)) ∧ w' = w := by
  obtain ⟨ao, cap, rfl⟩ := h.form
  have H := hid h
  have HL := hid hl
  clear h hl
  go_enter Try.func49, Try.ntmps49
  go_wp2_with fail
  refine (index_true P _ M _ H.out HL.out).mono ?_
  rintro e w1 ⟨⟨r, rfl, hr⟩, rfl⟩
  have HR := hid hr
  clear hr
  go_wp2
  go_ret
  exact ⟨by rw [← HR.out]; rfl, rfl⟩
end Go.Proofs.Ytfbkifkfhgkdbab.Sb
