/-
  Plain facts on lists of those that wait: no goroutine twice; what is put comes from what was handed in; what was taken out and is put again stands where it stood. No conditions.
-/
import Derived.Test.YtphohfafehjafaaFfDoes
namespace Go.Proofs.Ytphohfafehjafaa.Ff
open Go.RowKit

/-- no goroutine twice -/
def Uq (xs : List W3) : Prop := xs.Pairwise (fun a b => ¬ (a.s = b.s ∧ a.g = b.g))
theorem Uq.nil : Uq [] := List.Pairwise.nil
theorem uq_sub {xs ys : List W3} (h : Uq xs) (hs : ys.Sublist xs) : Uq ys := h.sublist hs
theorem isG_iff (s g : Int) (x : W3) : isG s g x = true ↔ x.s = s ∧ x.g = g := by unfold isG; simp
theorem atG_neg {s g : Int} {xs : List W3} (h : ¬ 0 ≤ atG s g xs) : ∀ x ∈ xs, ¬ (x.s = s ∧ x.g = g) := by
  intro x hx e
  unfold atG at h
  cases hf : xs.findIdx? (isG s g) with
  | none =>
    have := List.findIdx?_eq_none_iff.1 hf x hx
    rw [(isG_iff s g x).2 e] at this
    cases this
  | some k =>
    rw [hf] at h
    simp only at h
    omega
theorem atG_none {s g : Int} {xs : List W3} (h : ∀ x ∈ xs, ¬ (x.s = s ∧ x.g = g)) : atG s g xs = -1 := by
  unfold atG
  have : xs.findIdx? (isG s g) = none := List.findIdx?_eq_none_iff.2 (fun x hx => by
    have := h x hx
    cases hb : isG s g x with
    | false => rfl
    | true => exact absurd ((isG_iff s g x).1 hb) this)
  rw [this]
theorem isThere_false {xs : List W3} {x : W3} (h : isThere xs x = false) : ¬ 0 ≤ atG x.s x.g xs := by
  unfold isThere at h
  intro e
  rw [decide_eq_true e] at h
  simp at h
theorem ins_perm (xs : List W3) (x : W3) (b : Nat) : (xs.take b ++ x :: xs.drop b).Perm (x :: xs) := by
  have := List.perm_middle (a := x) (l₁ := xs.take b) (l₂ := xs.drop b)
  rw [List.take_append_drop] at this
  exact this
theorem uq_put {xs : List W3} (h : Uq xs) (x : W3) : Uq (putL xs x) := by
  unfold putL
  split
  · rename_i h0
    obtain ⟨ht, _⟩ := putE_zero h0
    have hn := atG_neg (isThere_false ht)
    refine ((ins_perm xs x _).pairwise_iff (fun {a b} e e' => e ⟨e'.1.symm, e'.2.symm⟩)).2 ?_
    exact List.Pairwise.cons (fun y hy e => hn y hy ⟨e.1.symm, e.2.symm⟩) h
  · exact h
theorem put_mem {xs : List W3} {x y : W3} (h : y ∈ putL xs x) : y = x ∨ y ∈ xs := by
  unfold putL at h
  split at h
  · have := (ins_perm xs x _).mem_iff.1 h
    simpa using this
  · exact .inr h
theorem put_length (xs : List W3) (x : W3) : (putL xs x).length = if putE xs x = 0 then xs.length + 1 else xs.length := by
  unfold putL
  split
  · have hb := below_le x.t xs
    rw [List.length_append, List.length_take, List.length_cons, List.length_drop]
    omega
  · rfl
theorem load_uq (l : List W3) : ∀ a, Uq a → Uq (loadL a l) := by
  induction l with
  | nil => exact fun a h => h
  | cons x r ih => exact fun a h => ih (putL a x) (uq_put h x)
theorem load_mem (l : List W3) : ∀ a y, y ∈ loadL a l → y ∈ a ∨ y ∈ l := by
  induction l with
  | nil => exact fun a y h => .inl h
  | cons x r ih =>
    intro a y h
    rcases ih (putL a x) y h with h | h
    · rcases put_mem h with rfl | h
      · exact .inr (List.mem_cons_self)
      · exact .inl h
    · exact .inr (List.mem_cons_of_mem _ h)
/-- what was taken out and is put again stands where it stood -/
theorem put_back {B : List W3} {k : Nat} {y : W3} (hu : Up B) (hq : Uq B) (hl : B.length ≤ 4096) (hy : B[k]? = some y) : atG y.s y.g (B.eraseIdx k) = -1 ∧ putE (B.eraseIdx k) y = 0 ∧ putL (B.eraseIdx k) y = B := by
  obtain ⟨hk, hyk⟩ := List.getElem?_eq_some_iff.1 hy
  have he : B.eraseIdx k = B.take k ++ B.drop (k + 1) := List.eraseIdx_eq_take_drop_succ _ _
  have hB : B = B.take k ++ y :: B.drop (k + 1) := by
    rw [← hyk, ← List.drop_eq_getElem_cons hk, List.take_append_drop]
  have hl1 : (B.take k).length = k := by rw [List.length_take]; omega
  have hlen : (B.eraseIdx k).length < 4096 := by rw [List.length_eraseIdx_of_lt hk]; omega
  have hg : ∀ x ∈ B.eraseIdx k, ¬ (x.s = y.s ∧ x.g = y.g) := by
    intro x hx e
    have hq' := hq
    rw [hB] at hq'
    unfold Uq at hq'
    have hp := (List.perm_middle (a := y) (l₁ := B.take k) (l₂ := B.drop (k + 1))).pairwise_iff (R := fun a b : W3 => ¬ (a.s = b.s ∧ a.g = b.g)) (fun {a b} e e' => e ⟨e'.1.symm, e'.2.symm⟩)
    have h1 := hp.1 hq'
    rw [he] at hx
    exact (List.pairwise_cons.1 h1).1 x hx ⟨e.1.symm, e.2.symm⟩
  have hat := atG_none hg
  have hue : Up (B.eraseIdx k) := up_sub hu (List.eraseIdx_sublist _ _)
  have hget : ∀ i x, (B.eraseIdx k)[i]? = some x → (i < k → x.t < y.t) ∧ (k ≤ i → y.t < x.t) := by
    intro i x hx
    rw [he] at hx
    constructor
    · intro h
      rw [List.getElem?_append_left (by omega), List.getElem?_take_of_lt h] at hx
      exact hu i k x y h hx hy
    · intro h
      rw [List.getElem?_append_right (by omega), hl1, List.getElem?_drop] at hx
      exact hu k _ y x (by omega) hy hx
  have hbelow : below y.t (B.eraseIdx k) = k := by
    have hle := below_le y.t (B.eraseIdx k)
    have hlen2 : (B.eraseIdx k).length = B.length - 1 := List.length_eraseIdx_of_lt hk
    apply Nat.le_antisymm
    · by_cases h : k < (B.eraseIdx k).length
      · have hx := List.getElem?_eq_getElem h
        exact (below_at _ y.t k _ hue hx).1 (by have := (hget k _ hx).2 (Nat.le_refl _); omega)
      · omega
    · by_cases h : below y.t (B.eraseIdx k) < k
      · have hb : below y.t (B.eraseIdx k) < (B.eraseIdx k).length := by omega
        have hx := List.getElem?_eq_getElem hb
        have h1 := (below_at _ y.t _ _ hue hx).2 (Nat.le_refl _)
        have h2 := (hget _ _ hx).1 h
        omega
      · omega
  have ht : isThere (B.eraseIdx k) y = false := by
    unfold isThere
    rw [hat, hbelow]
    cases hx : (B.eraseIdx k)[k]? with
    | none => rfl
    | some x =>
      have := (hget k x hx).2 (Nat.le_refl _)
      have h2 : (x.t == y.t) = false := by simp; omega
      simp [h2]
  have hE : putE (B.eraseIdx k) y = 0 := by unfold putE; rw [ht, if_neg (by simp), if_neg (by omega)]
  refine ⟨hat, hE, ?_⟩
  unfold putL
  rw [if_pos hE, hbelow, he, List.take_left' hl1, List.drop_left' hl1]
  exact hB.symm
end Go.Proofs.Ytphohfafehjafaa.Ff
