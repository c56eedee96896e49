/-
  What is known of a program that may be: where its words go on, what they name. Plain words without memory. No conditions.
-/
import Derived.Test.YtollfepggicehabDoorPpRc
namespace Go.Proofs.YtollfepggicehabDoor.Lt
open Go.RowKit Wd

theorem fR_zero {ef : Nat → Int} {b e : Nat} (h : (fR ef b e).2 = 0) : ∀ l, b ≤ l → l < e → ef l = 0 := by
  intro l h1 h2
  unfold fR at h
  cases hfd : (List.range' b (e - b)).find? (fun n => decide (ef n ≠ 0)) with
  | none =>
    have := List.find?_eq_none.1 hfd l (by rw [List.mem_range'_1]; omega)
    simpa using this
  | some m =>
    rw [hfd] at h
    have := List.find?_some hfd
    simp only at h
    simp [h] at this
theorem wF_none {cs : List Int} {nf nt : Nat} : ∀ (fs : List (Int × Int)), (wF cs nf nt fs).2 = 0 → ∀ f ∈ fs, ∀ a : Nat, f.1.toNat ≤ a → a < f.2.toNat → wA cs nf nt f a = 0 := by
  intro fs
  induction fs with
  | nil => intro _ f hf; cases hf
  | cons g r ih =>
    intro h f hf a h1 h2
    unfold wF at h
    split at h
    · rename_i q
      rcases List.mem_cons.1 hf with rfl | hf
      · exact fR_zero q a h1 h2
      · exact ih h f hf a h1 h2
    · rename_i q
      exact absurd h q
/-- a program that may be -/
structure May (cs : List Int) (fs : List (Int × Int)) (nt : Nat) : Prop where
  nc : cs.length ≤ 4096
  nf : fs.length ≤ 256
  p : Prt fs cs.length
  w : ∀ (j : Nat) (f : Int × Int) (a : Nat) (x : Int), fs[j]? = some f → f.1 ≤ (a : Int) → (a : Int) < f.2 → cs[a]? = some x → wE fs.length nt f (a : Nat) x = 0
theorem may_of {cs : List Int} {fs : List (Int × Int)} {ts : List Tb} (h : (chk cs fs ts).2 = 0) : May cs fs ts.length := by
  unfold chk at h
  split at h
  · cases h
  · rename_i z
    split at h
    · rename_i q; exact absurd h q
    · rename_i q
      have hp := prt_of (Classical.byContradiction q)
      split at h
      · rename_i q2; exact absurd h q2
      · refine ⟨by omega, by omega, hp, fun j f a x hf h1 h2 hx => ?_⟩
        have := wF_none fs h f (List.mem_of_getElem? hf) a (by omega) (by omega)
        unfold wA at this
        rw [hx] at this
        exact this
/-- where a word goes on -/
def wN (cs : List Int) (a : Int) : List Int := nxt (dI (cs[a.toNat]?.getD 0)) a
theorem wN_at {cs : List Int} {a : Nat} {x : Int} (h : cs[a]? = some x) : wN cs (a : Int) = nxt (dI x) (a : Int) := by
  unfold wN
  rw [Int.toNat_natCast, h]
  rfl
theorem nxt_mem {i : Int × Int × Int × Int × Int} {a y : Int} (h : y ∈ nxt i a) : (hT i.1 = true ∧ y = i.2.2.2.2) ∨ (en i.1 = false ∧ y = a + 1) := by
  unfold nxt at h
  split at h
  · rename_i e
    left
    refine ⟨by unfold hT; simp [e], by simpa using h⟩
  · split at h
    · cases h
    · rename_i e1
      have e1' : en i.1 = false := by simpa using e1
      split at h
      · exact .inr ⟨e1', by simpa using h⟩
      · rename_i e2
        have e2' : hT i.1 = true := Classical.byContradiction fun q => e2 (.inl (by simpa using q))
        split at h
        · simp only [List.mem_cons, List.not_mem_nil, or_false] at h
          rcases h with h | h
          · exact .inl ⟨e2', h⟩
          · exact .inr ⟨e1', h⟩
        · simp only [List.mem_cons, List.not_mem_nil, or_false] at h
          rcases h with h | h
          · exact .inr ⟨e1', h⟩
          · exact .inl ⟨e2', h⟩
/-- a word goes on within its function -/
theorem May.next {cs : List Int} {fs : List (Int × Int)} {nt : Nat} (h : May cs fs nt) {j : Nat} {f : Int × Int} (hf : fs[j]? = some f) {a : Int} (h1 : f.1 ≤ a) (h2 : a < f.2) {y : Int} (hy : y ∈ wN cs a) : f.1 ≤ y ∧ y < f.2 := by
  have hi := h.p.i f (List.mem_of_getElem? hf)
  obtain ⟨b, rfl⟩ : ∃ b : Nat, a = (b : Int) := ⟨a.toNat, by omega⟩
  have hb : b < cs.length := by omega
  have hx := List.getElem?_eq_getElem hb
  have hw := h.w j f b _ hf h1 h2 hx
  rw [wN_at hx] at hy
  generalize cs[b] = x at hw hy
  unfold wE at hw
  split at hw
  · cases hw
  · split at hw
    · cases hw
    · rename_i q
      split at hw
      · cases hw
      · split at hw
        · cases hw
        · split at hw
          · cases hw
          · rename_i q4
            rcases nxt_mem hy with ⟨e1, rfl⟩ | ⟨e1, rfl⟩
            · exact ⟨Classical.byContradiction fun z => q ⟨e1, .inl (by omega)⟩, Classical.byContradiction fun z => q ⟨e1, .inr (by omega)⟩⟩
            · have : ¬ (b : Int) = f.2 - 1 := fun z => q4 ⟨z, e1⟩
              omega
theorem May.rc {cs : List Int} {fs : List (Int × Int)} {nt : Nat} (h : May cs fs nt) {j : Nat} {f : Int × Int} (hf : fs[j]? = some f) {x : Int} (hx : Rc (wN cs) f.1 x) : f.1 ≤ x ∧ x < f.2 := by
  have hi := h.p.i f (List.mem_of_getElem? hf)
  exact hx (fun x => f.1 ≤ x ∧ x < f.2) ⟨Int.le_refl _, by omega⟩ (fun x q y hy => h.next hf q.1 q.2 hy)
/-- does an operation name a function? -/
def cO (sp : Bool) (o : Int) : Bool := decide (o = 20) || (sp && decide (o = 22))
/-- what a word names, if it does -/
def cW (cs : List Int) (sp : Bool) (x : Int) : Option Int := if cO sp (dI (cs[x.toNat]?.getD 0)).1 = true then some (dI (cs[x.toNat]?.getD 0)).2.2.2.2 else none
/-- what words name -/
def nmL (cs : List Int) (sp : Bool) (xs : List Int) : List Int := xs.filterMap (cW cs sp)
theorem nmL_snoc (cs : List Int) (sp : Bool) (xs : List Int) (x : Int) : nmL cs sp (xs ++ [x]) = if cO sp (dI (cs[x.toNat]?.getD 0)).1 = true then nmL cs sp xs ++ [(dI (cs[x.toNat]?.getD 0)).2.2.2.2] else nmL cs sp xs := by
  unfold nmL
  rw [List.filterMap_append]
  unfold cW
  by_cases h : cO sp (dI (cs[x.toNat]?.getD 0)).1 = true
  · simp [h]
  · simp [h]
theorem dI_imm {n : Int} (ho : (dI n).1 = 20 ∨ (dI n).1 = 22) : 0 ≤ (dI n).2.2.2.2 := by
  unfold dI at ho ⊢
  split at ho
  · rename_i q
    rw [if_pos q]
    simp only at ho ⊢
    unfold dE at q
    split at q
    · cases q
    · split at q
      · rename_i hf
        have hop : opOf n = 20 ∨ opOf n = 22 := by omega
        unfold fit fitB at hf
        rw [decide_eq_true_eq] at hf
        have h3 := hf.2.2.2.1
        have h4 : fl (sh (opOf n)) = 0 := by rcases hop with e | e <;> rw [e] <;> decide
        omega
      · cases q
  · omega
/-- what a word names is a function -/
theorem May.named {cs : List Int} {fs : List (Int × Int)} {nt : Nat} (h : May cs fs nt) {sp : Bool} {x y : Int} (hx : 0 ≤ x) (hl : x < (cs.length : Int)) (hy : cW cs sp x = some y) : 0 ≤ y ∧ y < (fs.length : Int) := by
  obtain ⟨b, rfl⟩ : ∃ b : Nat, x = (b : Int) := ⟨x.toNat, by omega⟩
  have hb : b < cs.length := by omega
  have hg := List.getElem?_eq_getElem hb
  obtain ⟨j, f, hf, f1, f2⟩ := h.p.has b hb
  have hw := h.w j f b _ hf f1 f2 hg
  unfold cW at hy
  rw [Int.toNat_natCast, hg] at hy
  simp only [Option.getD_some] at hy
  generalize cs[b] = n at hw hy
  split at hy
  · rename_i ho
    injection hy with hy
    have ho' : (dI n).1 = 20 ∨ (dI n).1 = 22 := by
      unfold cO at ho
      cases sp <;> simp at ho <;> omega
    have := dI_imm ho'
    subst hy
    refine ⟨this, ?_⟩
    unfold wE at hw
    split at hw
    · cases hw
    · split at hw
      · cases hw
      · split at hw
        · cases hw
        · rename_i q
          exact Classical.byContradiction fun z => q ⟨ho', by omega⟩
  · cases hy
/-- what the words of a function that can be come to name: given which these words are -/
def nmF (cs : List Int) (sp : Bool) (rch : Int → List Int) (f : Int) : List Int := nmL cs sp (rch f)
theorem nmL_mem {cs : List Int} {sp : Bool} {xs : List Int} {y : Int} : y ∈ nmL cs sp xs ↔ ∃ x ∈ xs, cW cs sp x = some y := by
  unfold nmL
  rw [List.mem_filterMap]
end Go.Proofs.YtollfepggicehabDoor.Lt
