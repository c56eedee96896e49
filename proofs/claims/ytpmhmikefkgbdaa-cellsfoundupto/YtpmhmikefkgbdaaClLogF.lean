/-
  In a log that is replayed from noughts each access found what the last one that wrote its cell left, or nought: plain lists. No conditions.
-/
import Derived.Test.YtpmhmikefkgbdaaClLogP
namespace Go.Proofs.Ytpmhmikefkgbdaa.Lt
open Go.RowKit Wd

theorem mbe_b {a : Ac} {t : Int} (h : mbe a t = true) : a.b = t ∧ (a.w = false → a.a = a.b) := by
  unfold mbe at h
  simp only [Bool.and_eq_true, decide_eq_true_eq, Bool.or_eq_true] at h
  exact ⟨h.1.1, fun q => by
    rcases h.1.2 with r | r
    · rw [q] at r; cases r
    · exact r⟩
/-- what the last one that wrote a cell left -/
def Lw (l : List Ac) (j : Nat) (c : List Int) : Prop := ∀ p : Nat, p < c.length → (frm l j (p : Int) = -1 → inC c (p : Int) = 0) ∧ (0 ≤ frm l j (p : Int) → ∃ x, l[(frm l j (p : Int)).toNat]? = some x ∧ x.c = (p : Int) ∧ x.w = true ∧ x.a = inC c (p : Int))
theorem inC_set (c : List Int) (k p : Nat) (x : Int) (hk : k < c.length) : inC (c.set k x) (p : Int) = if p = k then x else inC c (p : Int) := by
  unfold inC
  rw [Int.toNat_natCast, List.getD_eq_getElem?_getD, List.getD_eq_getElem?_getD, List.getElem?_set]
  by_cases q : p = k
  · subst q; simp [hk]
  · rw [if_neg (fun e => q e.symm), if_neg q]
theorem lw_step {l : List Ac} {j : Nat} {c : List Int} {a : Ac} (h : Lw l j c) (ha : l[j]? = some a) (hm : mayE c a = 0) : Lw l (j + 1) (c.set a.c.toNat a.a) ∧ ((frm l j a.c = -1 → a.b = 0) ∧ (0 ≤ frm l j a.c → ∃ x, l[(frm l j a.c).toNat]? = some x ∧ x.c = a.c ∧ x.w = true ∧ x.a = a.b)) := by
  have hp : isP a.c c.length = true := by
    cases q : isP a.c c.length with
    | true => rfl
    | false => rw [mayE_no q] at hm; cases hm
  have hb : mbe a (inC c a.c) = true := by
    cases q : mbe a (inC c a.c) with
    | true => rfl
    | false => rw [mayE_yes hp q] at hm; cases hm
  obtain ⟨k, hk, hkl⟩ := isP_of hp
  obtain ⟨h1, h2⟩ := mbe_b hb
  have hkt : a.c.toNat = k := by omega
  have hh := h k hkl
  rw [← hk, ← h1] at hh
  refine ⟨fun p hpl => ?_, hh⟩
  rw [List.length_set] at hpl
  rw [hkt, frm_succ ha, inC_set _ _ _ _ hkl]
  by_cases q : a.w = true ∧ a.c = (p : Int)
  · rw [if_pos q]
    have e : p = k := by have := q.2; omega
    rw [if_pos e]
    exact ⟨fun r => by omega, fun _ => ⟨a, by rw [Int.toNat_natCast]; exact ha, q.2, q.1, rfl⟩⟩
  · rw [if_neg q]
    have e : (if p = k then a.a else inC c (p : Int)) = inC c (p : Int) := by
      by_cases r : p = k
      · subst r
        rw [if_pos rfl]
        have hw : a.w = false := by
          cases z : a.w with
          | false => rfl
          | true => exact (q ⟨z, hk⟩).elim
        rw [h2 hw, h1, hk]
      · rw [if_neg r]
    rw [e]
    exact h p hpl
theorem inC_zeros (N p : Nat) : inC (List.replicate N 0) (p : Int) = 0 := by
  unfold inC
  rw [List.getD_eq_getElem?_getD, List.getElem?_replicate]
  split <;> rfl
/-- each access found what the one that From tells left, or nought -/
theorem found_plain (N : Nat) (l : List Ac) (c : List Int) (h : rgo 0 (List.replicate N 0) l = (c, 0, 0)) : ∀ (i : Nat) (a : Ac), l[i]? = some a → (frm l i a.c = -1 → a.b = 0) ∧ (0 ≤ frm l i a.c → ∃ x, l[(frm l i a.c).toNat]? = some x ∧ x.c = a.c ∧ x.w = true ∧ x.a = a.b) := by
  have key : ∀ j, j ≤ l.length → ∃ cj, rgo 0 (List.replicate N 0) l = rgo j cj (l.drop j) ∧ Lw l j cj := by
    intro j
    induction j with
    | zero => exact fun _ => ⟨_, rfl, fun p _ => ⟨fun _ => inC_zeros N p, fun q => by simp [frm] at q⟩⟩
    | succ j ih =>
      intro hj
      obtain ⟨cj, h1, h2⟩ := ih (by omega)
      obtain ⟨a, ha⟩ : ∃ a, l[j]? = some a := ⟨_, List.getElem?_eq_getElem (by omega)⟩
      by_cases hm : mayE cj a = 0
      · exact ⟨_, h1.trans (rgo_ok ha hm), (lw_step h2 ha hm).1⟩
      · rw [rgo_bad ha rfl hm, h] at h1
        simp only [Prod.mk.injEq] at h1
        exact (hm h1.2.2.symm).elim
  intro i a ha
  have hi := (List.getElem?_eq_some_iff.1 ha).1
  obtain ⟨ci, h1, h2⟩ := key i (by omega)
  by_cases hm : mayE ci a = 0
  · exact (lw_step h2 ha hm).2
  · rw [rgo_bad ha rfl hm, h] at h1
    simp only [Prod.mk.injEq] at h1
    exact (hm h1.2.2.symm).elim
end Go.Proofs.Ytpmhmikefkgbdaa.Lt
