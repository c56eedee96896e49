/-
  What a log of calls is: plain lists. No conditions.
-/
import Derived.Test.YtpmhmikefkgbdaaClAny
import Derived.Test.YtpmhmikefkgbdaaClReplay
import Derived.Test.YtpmhmikefkgbdaaClFrom
namespace Go.Proofs.Ytpmhmikefkgbdaa.Lt
open Go.RowKit Wd

/-- what is in the cells behind the first j calls -/
def cur (os : List O4) (vs : List Int) : Nat → List Int
  | 0 => vs
  | j + 1 => match os[j]? with
    | some o => cLeft o (cur os vs j)
    | none => cur os vs j
/-- the log of the first j calls -/
def lgs (os : List O4) (vs : List Int) : Nat → List Ac
  | 0 => []
  | j + 1 => match os[j]? with
    | some o => if cOk o (cur os vs j) = true then lgs os vs j ++ [cTold o (cur os vs j)] else lgs os vs j
    | none => lgs os vs j
theorem cur_succ {os : List O4} {vs : List Int} {j : Nat} {o : O4} (h : os[j]? = some o) : cur os vs (j + 1) = cLeft o (cur os vs j) := by rw [cur, h]
theorem lgs_yes {os : List O4} {vs : List Int} {j : Nat} {o : O4} (h : os[j]? = some o) (hk : cOk o (cur os vs j) = true) : lgs os vs (j + 1) = lgs os vs j ++ [cTold o (cur os vs j)] := by rw [lgs, h]; simp only; rw [if_pos hk]
theorem lgs_no {os : List O4} {vs : List Int} {j : Nat} {o : O4} (h : os[j]? = some o) (hk : cOk o (cur os vs j) = false) : lgs os vs (j + 1) = lgs os vs j := by rw [lgs, h]; simp only; rw [if_neg (by rw [hk]; simp)]
theorem cur_len (os : List O4) (vs : List Int) : ∀ j, (cur os vs j).length = vs.length
  | 0 => rfl
  | j + 1 => by
    rw [cur]
    split
    · rw [cLeft_len, cur_len os vs j]
    · exact cur_len os vs j
theorem lgs_len (os : List O4) (vs : List Int) : ∀ j, (lgs os vs j).length ≤ j
  | 0 => Nat.le_refl _
  | j + 1 => by
    have := lgs_len os vs j
    rw [lgs]
    split
    · split
      · rw [List.length_append]; simp; omega
      · omega
    · omega
theorem rgo_app : ∀ (l m : List Ac) (i : Nat) (vs c : List Int), rgo i vs l = (c, 0, 0) → rgo i vs (l ++ m) = rgo (i + l.length) c m
  | [], m, i, vs, c, h => by
    rw [rgo] at h
    injection h with h _
    rw [h]
    rfl
  | a :: l, m, i, vs, c, h => by
    rw [rgo] at h
    rw [List.cons_append, rgo]
    split at h
    · rename_i q
      rw [if_pos q, rgo_app l m _ _ _ h, List.length_cons]
      congr 1
      omega
    · rename_i q
      simp only [Prod.mk.injEq] at h
      exact (q h.2.2).elim
/-- an access that a call told may be, and leaves what the call leaves -/
theorem told_may {o : O4} {vs : List Int} (h : cOk o vs = true) : mayE vs (cTold o vs) = 0 ∧ vs.set (cTold o vs).c.toNat (cTold o vs).a = cLeft o vs := by
  unfold cOk at h
  rw [Bool.and_eq_true] at h
  have hk := h.1
  have hp : isP o.c vs.length = true := by
    cases q : isP o.c vs.length with
    | true => rfl
    | false => have := h.2; simp [terr, q] at this
  have e : cTold o vs = told o vs := by unfold cTold; rw [hk]; rfl
  have e2 : cLeft o vs = left o vs := by unfold cLeft; rw [hk]; rfl
  obtain ⟨e1, _, e3⟩ := told_yes hp
  have hk' := of_decide_eq_true hk
  obtain ⟨j, hj, hjl⟩ := isP_of hp
  have hset : vs.set j (inC vs o.c) = vs := by
    apply List.ext_getElem?
    intro i
    rw [List.getElem?_set]
    split
    · rename_i q
      subst q
      rw [hj, inC_get hjl]
    · rfl
  rw [e, e2, e1, e3]
  have hjn : o.c.toNat = j := by omega
  refine ⟨?_, ?_⟩
  · unfold mayE
    simp only
    rw [hp, if_pos rfl]
    have : mbe ⟨o.c, o.k, inC vs o.c, (putOf o (inC vs o.c)).1, (putOf o (inC vs o.c)).2⟩ (inC vs o.c) = true := by
      unfold mbe putOf
      rcases (by omega : o.k = 1 ∨ o.k = 2 ∨ o.k = 3 ∨ o.k = 4) with q | q | q | q
      · simp [q]
      · simp [q]
      · by_cases r : inC vs o.c = o.o <;> simp [q, r]
      · simp [q]
    rw [this, if_pos rfl]
  · simp only
    rw [hjn]
    cases q : (putOf o (inC vs o.c)).2 with
    | true => rfl
    | false =>
      have : (putOf o (inC vs o.c)).1 = inC vs o.c := by
        unfold putOf at q ⊢
        split
        · rfl
        · rename_i q1
          rw [if_neg q1] at q
          split
          · rename_i q2; rw [if_pos q2] at q; cases q
          · rename_i q2
            rw [if_neg q2] at q
            split
            · rename_i q3
              rw [if_pos q3] at q
              split
              · rename_i q4; rw [if_pos q4] at q; cases q
              · rfl
            · rename_i q3; rw [if_neg q3] at q; cases q
      rw [this, hset]
      rfl
theorem left_not {o : O4} {vs : List Int} (h : cOk o vs = false) : cLeft o vs = vs := by
  unfold cOk at h
  unfold cLeft
  cases hk : okK o with
  | false => rfl
  | true =>
    rw [hk] at h
    rw [if_pos rfl]
    unfold left
    cases hp : isP o.c vs.length with
    | false => rfl
    | true => simp [terr, hp] at h
/-- the log of calls is replayed to what is in the cells -/
theorem lgs_rgo (os : List O4) (vs : List Int) : ∀ j, j ≤ os.length → rgo 0 vs (lgs os vs j) = (cur os vs j, 0, 0)
  | 0, _ => by rw [lgs, rgo, cur]
  | j + 1, h => by
    have ih := lgs_rgo os vs j (by omega)
    obtain ⟨o, ho⟩ : ∃ o, os[j]? = some o := ⟨_, List.getElem?_eq_getElem (by omega)⟩
    rw [cur_succ ho]
    cases hk : cOk o (cur os vs j) with
    | true =>
      obtain ⟨h1, h2⟩ := told_may hk
      rw [lgs_yes ho hk, rgo_app _ _ _ _ _ ih, rgo, if_pos h1, rgo, h2]
    | false => rw [lgs_no ho hk, ih, left_not hk]
end Go.Proofs.Ytpmhmikefkgbdaa.Lt
