/-
  Which Ps a domain has at a tick, as a function of lists. No conditions but those that each theorem names.
-/
import Derived.Test.YtbghagpjkkmhpaaTbVis
namespace Go.Proofs.Ytbghagpjkkmhpaa.Lt

def hasB (F t dm : Int) (l : List Sl) : Bool := (slt F l t).elim false (fun x => decide (x.d = dm))
def hasL (F t dm : Int) : Nat → List (List Sl) → List Nat
  | _, [] => []
  | i, l :: r => (if hasB F t dm l = true then [i] else []) ++ hasL F t dm (i + 1) r
def hasP (F : Int) (L : List (List Sl)) (t dm : Int) : List Nat := hasL F t dm 0 L
/-- of the slots seen so far, the Ps of those that the tick is inside -/
def seenP (F t : Int) (vs : List (Nat × Sl)) : List Nat := (vs.filter fun q => inT F t q.2).map Prod.fst
theorem fil_slt {F t : Int} : ∀ {l : List Sl}, l.Pairwise (fun a b => a.s + a.l ≤ b.s) → l.filter (inT F t) = (slt F l t).toList := by
  intro l
  induction l with
  | nil => intro _; rfl
  | cons x r ih =>
    intro hp
    obtain ⟨h1, h2⟩ := List.pairwise_cons.1 hp
    unfold slt
    rw [List.find?_cons, List.filter_cons]
    cases hx : inT F t x
    · have := ih h2
      unfold slt at this
      simpa using this
    · have hz : r.filter (inT F t) = [] := by
        rw [List.filter_eq_nil_iff]
        intro y hy hq
        have h3 := h1 y hy
        simp only [inT, Tk.insB, decide_eq_true_eq] at hx hq
        omega
      simp [hz]
theorem seenP_row {F t dm : Int} {i : Nat} {l : List Sl} (h : l.Pairwise (fun a b => a.s + a.l ≤ b.s)) : seenP F t (visR dm i l) = if hasB F t dm l = true then [i] else [] := by
  unfold seenP visR hasB
  have e : (((l.filter fun x => decide (x.d = dm)).map fun x => (i, x)).filter fun q => inT F t q.2).map Prod.fst = ((l.filter (inT F t)).filter fun x => decide (x.d = dm)).map fun _ => i := by
    rw [List.filter_map, List.map_map, List.filter_filter, List.filter_filter]
    have e2 : (fun a => (((fun q : Nat × Sl => inT F t q.2) ∘ fun x => (i, x)) a && decide (a.d = dm))) = fun a => (decide (a.d = dm) && inT F t a) := by
      funext a
      exact Bool.and_comm _ _
    rw [e2]
    rfl
  rw [e, fil_slt h]
  cases slt F l t with
  | none => rfl
  | some x =>
    by_cases hd : x.d = dm
    · simp [hd]
    · simp [hd]
theorem seenP_app (F t : Int) (a b : List (Nat × Sl)) : seenP F t (a ++ b) = seenP F t a ++ seenP F t b := by
  unfold seenP
  rw [List.filter_append, List.map_append]
theorem seenP_in {F t : Int} {vs : List (Nat × Sl)} {P : Nat} {x : Sl} (h : inT F t x = true) : seenP F t (vs ++ [(P, x)]) = seenP F t vs ++ [P] := by
  rw [seenP_app]
  unfold seenP
  simp [h]
theorem seenP_out {F t : Int} {vs : List (Nat × Sl)} {P : Nat} {x : Sl} (h : inT F t x = false) : seenP F t (vs ++ [(P, x)]) = seenP F t vs := by
  rw [seenP_app]
  unfold seenP
  simp [h]
theorem seenP_len (F t : Int) (vs : List (Nat × Sl)) : (seenP F t vs).length ≤ vs.length := by
  unfold seenP
  rw [List.length_map]
  exact List.length_filter_le _ _
theorem seenP_visL {F t dm : Int} : ∀ (L : List (List Sl)) (i : Nat), (∀ l ∈ L, l.Pairwise (fun a b => a.s + a.l ≤ b.s)) → seenP F t (visL dm i L) = hasL F t dm i L := by
  intro L
  induction L with
  | nil => intro i _; rfl
  | cons l r ih =>
    intro i h
    show seenP F t (visR dm i l ++ visL dm (i + 1) r) = _
    rw [seenP_app, seenP_row (h l (by simp)), ih (i + 1) (fun x hx => h x (by simp [hx]))]
    rfl
theorem seenP_vis {F t dm : Int} {L : List (List Sl)} (hg : Good F L) : seenP F t (vis L dm) = hasP F L t dm := seenP_visL L 0 hg.apart
theorem hasL_mem {F t dm : Int} {P : Nat} : ∀ {L : List (List Sl)} {i : Nat}, P ∈ hasL F t dm i L ↔ i ≤ P ∧ ∃ l, L[P - i]? = some l ∧ hasB F t dm l = true := by
  intro L
  induction L with
  | nil => intro i; simp [hasL]
  | cons l r ih =>
    intro i
    show P ∈ (if hasB F t dm l = true then [i] else []) ++ hasL F t dm (i + 1) r ↔ _
    rw [List.mem_append, ih]
    constructor
    · rintro (h | ⟨h1, y, h2, h3⟩)
      · split at h
        · rename_i hb
          have e : P = i := by simpa using h
          subst e
          exact ⟨Nat.le_refl _, l, by simp, hb⟩
        · cases h
      · refine ⟨by omega, y, ?_, h3⟩
        rw [show P - i = (P - (i + 1)) + 1 by omega, List.getElem?_cons_succ]
        exact h2
    · rintro ⟨h1, y, h2, h3⟩
      rcases Nat.eq_or_lt_of_le h1 with e | e
      · subst e
        left
        rw [Nat.sub_self, List.getElem?_cons_zero] at h2
        injection h2 with h2
        subst h2
        rw [if_pos h3]
        simp
      · right
        rw [show P - i = (P - (i + 1)) + 1 by omega, List.getElem?_cons_succ] at h2
        exact ⟨by omega, y, h2, h3⟩
theorem hasP_mem {F t dm : Int} {P : Nat} {L : List (List Sl)} : P ∈ hasP F L t dm ↔ ∃ l, L[P]? = some l ∧ hasB F t dm l = true := by
  unfold hasP
  rw [hasL_mem]
  simp
theorem hasL_len {F t dm : Int} : ∀ (L : List (List Sl)) (i : Nat), (hasL F t dm i L).length ≤ L.length := by
  intro L
  induction L with
  | nil => intro i; exact Nat.le_refl _
  | cons l r ih =>
    intro i
    show ((if hasB F t dm l = true then [i] else []) ++ hasL F t dm (i + 1) r).length ≤ _
    rw [List.length_append, List.length_cons]
    have := ih (i + 1)
    split
    · rw [List.length_singleton]; omega
    · rw [List.length_nil]; omega
theorem hasP_len {F t dm : Int} {L : List (List Sl)} : (hasP F L t dm).length ≤ L.length := hasL_len L 0
theorem hasP_bd {F t dm : Int} {L : List (List Sl)} {P : Nat} (h : P ∈ hasP F L t dm) : P < L.length := by
  obtain ⟨l, h1, _⟩ := hasP_mem.1 h
  exact (List.getElem?_eq_some_iff.1 h1).1
/-- a frame later all is the same -/
theorem slt_mod {F t u : Int} (l : List Sl) (h : t % F = u % F) : slt F l t = slt F l u := by
  unfold slt
  congr 1
  funext x
  unfold inT
  rw [h]
theorem hasP_mod {F t u dm : Int} (L : List (List Sl)) (h : t % F = u % F) : hasP F L t dm = hasP F L u dm := by
  unfold hasP
  generalize 0 = i
  induction L generalizing i with
  | nil => rfl
  | cons l r ih =>
    show (if hasB F t dm l = true then [i] else []) ++ hasL F t dm (i + 1) r = (if hasB F u dm l = true then [i] else []) ++ hasL F u dm (i + 1) r
    rw [ih (i + 1)]
    unfold hasB
    rw [slt_mod l h]
end Go.Proofs.Ytbghagpjkkmhpaa.Lt
