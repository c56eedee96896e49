/-
  The heap's order in plain lists: what rises and sinks, and where each number stands. No conditions: plain lists alone.
-/
import Derived.Test.YtgkapopkjgljjaaThRegion
namespace Go.Proofs.Ytgkapopkjgljjaa.Hp
open Go.RowKit Wd

/-- one comes ahead of another in order -/
def lt (x y : W3) : Bool := decide (x.w < y.w ∨ (x.w = y.w ∧ x.n < y.n))
theorem lt_asymm {x y : W3} (h : lt x y = true) : lt y x = false := by
  have h := of_decide_eq_true h
  exact decide_eq_false (fun h2 => by omega)
theorem lt_le {x y z : W3} (h1 : lt y x = false) (h2 : lt z y = false) : lt z x = false := by
  have h1 := of_decide_eq_false h1
  have h2 := of_decide_eq_false h2
  exact decide_eq_false (fun h => by omega)
theorem lt_of {x y z : W3} (h1 : lt x y = true) (h2 : lt z y = false) : lt z x = false := by
  have h1 := of_decide_eq_true h1
  have h2 := of_decide_eq_false h2
  exact decide_eq_false (fun h => by omega)
theorem lt_irr (x : W3) : lt x x = false := decide_eq_false (fun h => by omega)
theorem lt_total {x y : W3} (h : lt x y = false) (hn : x.n ≠ y.n) : lt y x = true := by
  have h := of_decide_eq_false h
  exact decide_eq_true (by omega)

/-- what stands at i is not ahead of what stands at j -/
def nb (xs : List W3) (i j : Nat) : Prop := ∀ x y, xs[i]? = some x → xs[j]? = some y → lt x y = false
/-- the heap's order -/
def HP (xs : List W3) : Prop := ∀ i, 0 < i → nb xs i ((i - 1) / 4)
/-- .. but at a: its own place and its children's are not looked at; the children are not ahead of its parent -/
def HX (xs : List W3) (a : Nat) : Prop := (∀ i, 0 < i → i ≠ a → (i - 1) / 4 ≠ a → nb xs i ((i - 1) / 4)) ∧ ∀ c, 0 < c → (c - 1) / 4 = a → 0 < a → nb xs c ((a - 1) / 4)
/-- .. but a's own place -/
def HR (xs : List W3) (a : Nat) : Prop := (∀ i, 0 < i → i ≠ a → nb xs i ((i - 1) / 4)) ∧ ∀ c, 0 < c → (c - 1) / 4 = a → 0 < a → nb xs c ((a - 1) / 4)
/-- .. but the children of a -/
def HS (xs : List W3) (a : Nat) : Prop := (∀ i, 0 < i → (i - 1) / 4 ≠ a → nb xs i ((i - 1) / 4)) ∧ ∀ c, 0 < c → (c - 1) / 4 = a → 0 < a → nb xs c ((a - 1) / 4)
theorem HR.hx {xs : List W3} {a : Nat} (h : HR xs a) : HX xs a := ⟨fun i h0 h1 _ => h.1 i h0 h1, h.2⟩
theorem nb_trans {xs : List W3} {i j k : Nat} {y : W3} (hy : xs[j]? = some y) (h1 : nb xs i j) (h2 : nb xs j k) : nb xs i k := fun x z hx hz => lt_le (h2 y z hy hz) (h1 x y hx hy)
theorem get_of_child {xs : List W3} {c p : Nat} {x : W3} (h : xs[c]? = some x) (hp : p ≤ c) : ∃ y, xs[p]? = some y := ⟨_, List.getElem?_eq_getElem (Nat.lt_of_le_of_lt hp (List.getElem?_eq_some_iff.1 h).1)⟩
theorem HP.hs {xs : List W3} (h : HP xs) (a : Nat) : HS xs a := ⟨fun i h0 _ => h i h0, fun c h0 h1 h2 x z hx hz => by
  obtain ⟨y, hy⟩ := get_of_child hx (p := a) (by omega)
  have e := h c h0
  rw [h1] at e
  exact nb_trans hy e (h a h2) x z hx hz⟩

/-- two places changed -/
def swp (xs : List W3) (i j : Nat) (x y : W3) : List W3 := (xs.set i y).set j x
theorem swp_len (xs : List W3) (i j : Nat) (x y : W3) : (swp xs i j x y).length = xs.length := by simp [swp]
section
variable {xs : List W3} {i j : Nat} {x y : W3}
theorem swp_j (hj : xs[j]? = some y) : (swp xs i j x y)[j]? = some x := by
  have : j < xs.length := (List.getElem?_eq_some_iff.1 hj).1
  unfold swp
  rw [List.getElem?_set_self (by simpa using this)]
theorem swp_i (hi : xs[i]? = some x) (hj : xs[j]? = some y) : (swp xs i j x y)[i]? = some y := by
  have h1 : i < xs.length := (List.getElem?_eq_some_iff.1 hi).1
  unfold swp
  by_cases e : i = j
  · subst e
    rw [hi] at hj
    injection hj with hj
    subst hj
    rw [List.getElem?_set_self (by simpa using h1)]
  · rw [List.getElem?_set_ne (fun e' => e e'.symm), List.getElem?_set_self h1]
theorem swp_o {k : Nat} (h1 : k ≠ i) (h2 : k ≠ j) : (swp xs i j x y)[k]? = xs[k]? := by
  unfold swp
  rw [List.getElem?_set_ne (fun e => h2 e.symm), List.getElem?_set_ne (fun e => h1 e.symm)]
theorem set_perm1 {α : Type} : ∀ (l : List α) (i : Nat) (z : α), i < l.length → (l.set i z).Perm (z :: l.eraseIdx i)
  | [], i, z, h => by simp at h
  | y :: l, 0, z, _ => by simp
  | y :: l, i + 1, z, h => by
    simp only [List.set_cons_succ, List.eraseIdx_cons_succ]
    exact ((set_perm1 l i z (by simpa using h)).cons y).trans (List.Perm.swap z y _)
theorem perm_idx {α : Type} {l : List α} {i : Nat} {z : α} (h : l[i]? = some z) : l.Perm (z :: l.eraseIdx i) := by
  have h1 : i < l.length := (List.getElem?_eq_some_iff.1 h).1
  have h2 : l.set i z = l := by
    apply List.ext_getElem?
    intro k
    by_cases e : k = i
    · subst e
      rw [List.getElem?_set_self h1, h]
    · rw [List.getElem?_set_ne (fun e' => e e'.symm)]
  have := set_perm1 l i z h1
  rw [h2] at this
  exact this
theorem swp_perm (hi : xs[i]? = some x) (hj : xs[j]? = some y) : (swp xs i j x y).Perm xs := by
  have h1 : i < xs.length := (List.getElem?_eq_some_iff.1 hi).1
  have h2 : j < xs.length := (List.getElem?_eq_some_iff.1 hj).1
  -- (xs.set i y).set j x ~ x :: (xs.set i y).eraseIdx j, and xs.set i y ~ y :: xs.eraseIdx i, xs.set i y has y' at j
  have a1 := set_perm1 (xs.set i y) j x (by simpa using h2)
  have hj' : (xs.set i y)[j]? = some y := by
    by_cases e : i = j
    · subst e
      rw [List.getElem?_set_self h1]
    · rw [List.getElem?_set_ne e, hj]
  have a2 := perm_idx hj'
  have a3 := set_perm1 xs i y h1
  have a4 : (y :: (xs.set i y).eraseIdx j).Perm (y :: xs.eraseIdx i) := a2.symm.trans a3
  have a5 := (List.perm_cons y).1 a4
  exact (a1.trans (a5.cons x)).trans (perm_idx hi).symm
theorem rise_step {a : Nat} (h : HX xs a) (ha : 0 < a) (hx : xs[a]? = some x) (hy : xs[(a - 1) / 4]? = some y) (hl : lt x y = true) : HR (swp xs a ((a - 1) / 4) x y) ((a - 1) / 4) := by
  obtain ⟨p, hp⟩ : ∃ p, p = (a - 1) / 4 := ⟨_, rfl⟩
  rw [← hp] at hy ⊢
  have hpa : p < a := by omega
  have za := swp_i (j := p) hx hy
  have zp := swp_j (i := a) (x := x) hy
  have zo : ∀ k, k ≠ a → k ≠ p → (swp xs a p x y)[k]? = xs[k]? := fun k h1 h2 => swp_o h1 h2
  refine ⟨fun i h0 hi u v hu hv => ?_, fun c h0 h1 h2 u v hu hv => ?_⟩
  · by_cases e1 : i = a
    · subst e1
      rw [← hp] at hv
      rw [za] at hu
      rw [zp] at hv
      injection hu with hu
      injection hv with hv
      subst hu hv
      exact lt_asymm hl
    · rw [zo i e1 hi] at hu
      by_cases e2 : (i - 1) / 4 = a
      · rw [e2, za] at hv
        injection hv with hv
        subst hv
        exact h.2 i h0 e2 ha u _ hu (by rw [← hp]; exact hy)
      · by_cases e3 : (i - 1) / 4 = p
        · rw [e3, zp] at hv
          injection hv with hv
          subst hv
          have := h.1 i h0 e1 e2
          rw [e3] at this
          exact lt_of hl (this u y hu hy)
        · rw [zo _ e2 e3] at hv
          exact h.1 i h0 e1 e2 u v hu hv
  · have hv' : xs[(p - 1) / 4]? = some v := by rw [← zo _ (by omega) (by omega)]; exact hv
    have hpo := h.1 p h2 (by omega) (by omega)
    by_cases e1 : c = a
    · subst e1
      rw [za] at hu
      injection hu with hu
      subst hu
      exact hpo _ v hy hv'
    · rw [zo c e1 (by omega)] at hu
      have hc := h.1 c h0 e1 (by omega)
      rw [h1] at hc
      exact lt_le (hpo y v hy hv') (hc u y hu hy)
theorem rise_end0 (h : HX xs 0) : HS xs 0 := ⟨fun i h0 h1 => h.1 i h0 (by omega) h1, fun c h0 h1 h2 => absurd h2 (by omega)⟩
theorem rise_end {a : Nat} (h : HX xs a) (hn : nb xs a ((a - 1) / 4)) : HS xs a := ⟨fun i h0 h1 => by
    by_cases e : i = a
    · subst e
      exact hn
    · exact h.1 i h0 e h1, h.2⟩
theorem rise_hp0 (h : HR xs 0) : HP xs := fun i h0 => h.1 i h0 (by omega)
theorem rise_hp {a : Nat} (h : HR xs a) (hn : nb xs a ((a - 1) / 4)) : HP xs := fun i h0 => by
  by_cases e : i = a
  · subst e
    exact hn
  · exact h.1 i h0 e
/-- f is the first of a and its children -/
def First (xs : List W3) (a f : Nat) : Prop := (f = a ∨ (0 < f ∧ (f - 1) / 4 = a ∧ ∃ x y, xs[f]? = some x ∧ xs[a]? = some y ∧ lt x y = true)) ∧ ∀ c, 0 < c → (c - 1) / 4 = a → nb xs c f
theorem sink_end {a : Nat} (h : HS xs a) (hf : First xs a a) : HP xs := fun i h0 => by
  by_cases e : (i - 1) / 4 = a
  · rw [e]
    exact hf.2 i h0 e
  · exact h.1 i h0 e
theorem sink_step {a f : Nat} (h : HS xs a) (hf : First xs a f) (hne : f ≠ a) (hx : xs[a]? = some x) (hy : xs[f]? = some y) : HS (swp xs a f x y) f ∧ a < f := by
  obtain ⟨h1, h2⟩ := hf
  obtain ⟨f0, f1, x', y', e1, e2, hl⟩ := h1.resolve_left hne
  rw [hy] at e1
  injection e1 with e1
  rw [hx] at e2
  injection e2 with e2
  subst e1 e2
  have haf : a < f := by omega
  have za := swp_i hx hy
  have zf := swp_j (i := a) (x := x) hy
  have zo : ∀ k, k ≠ a → k ≠ f → (swp xs a f x y)[k]? = xs[k]? := fun k h1 h2 => swp_o h1 h2
  refine ⟨⟨fun i h0 hi u v hu hv => ?_, fun c h0 h3 h4 u v hu hv => ?_⟩, haf⟩
  · by_cases e1 : i = f
    · subst e1
      rw [f1, za] at hv
      rw [zf] at hu
      injection hu with hu
      injection hv with hv
      subst hu hv
      exact lt_asymm hl
    · by_cases e2 : i = a
      · subst e2
        rw [za] at hu
        injection hu with hu
        subst hu
        rw [zo _ (by omega) hi] at hv
        exact h.2 f f0 f1 h0 _ v hy hv
      · rw [zo i e2 e1] at hu
        by_cases e3 : (i - 1) / 4 = a
        · rw [e3, za] at hv
          injection hv with hv
          subst hv
          exact h2 i h0 e3 u _ hu hy
        · rw [zo _ e3 hi] at hv
          exact h.1 i h0 e3 u v hu hv
  · rw [f1, za] at hv
    injection hv with hv
    subst hv
    rw [zo c (by omega) (by omega)] at hu
    have hc := h.1 c h0 (by omega)
    rw [h3] at hc
    exact hc u _ hu hy
end
theorem HP.root {xs : List W3} (h : HP xs) {x : W3} (hx : xs[0]? = some x) : ∀ (i : Nat) (y : W3), xs[i]? = some y → lt y x = false := by
  intro i
  induction i using Nat.strongRecOn with
  | _ i ih =>
    intro y hy
    by_cases h0 : i = 0
    · subst h0
      rw [hx] at hy
      injection hy with hy
      subst hy
      exact lt_irr _
    · obtain ⟨z, hz⟩ := get_of_child hy (p := (i - 1) / 4) (by omega)
      exact lt_le (ih _ (by omega) z hz) (h i (by omega) y z hy hz)
theorem HP.nil : HP [] := fun i _ x y h => by simp at h
/-- behind a push -/
theorem HP.push {xs : List W3} (h : HP xs) (z : W3) : HX (xs ++ [z]) xs.length := by
  refine ⟨fun i h0 h1 h2 u v hu hv => ?_, fun c h0 h1 h2 u v hu hv => ?_⟩
  · have hi : i < (xs ++ [z]).length := (List.getElem?_eq_some_iff.1 hu).1
    rw [List.length_append] at hi
    simp at hi
    rw [List.getElem?_append_left (by omega)] at hu
    rw [List.getElem?_append_left (by omega)] at hv
    exact h i h0 u v hu hv
  · have hi : c < (xs ++ [z]).length := (List.getElem?_eq_some_iff.1 hu).1
    rw [List.length_append] at hi
    simp at hi
    omega
theorem HS.last {xs : List W3} {a : Nat} (h : HS xs a) (hl : xs.length ≤ a + 1) : HP xs := fun i h0 => by
  by_cases e : (i - 1) / 4 = a
  · intro u v hu _
    have hi : i < xs.length := (List.getElem?_eq_some_iff.1 hu).1
    omega
  · exact h.1 i h0 e
/-- behind the last one's coming to a place -/
theorem HP.take {xs : List W3} (h : HP xs) {a l : Nat} {x y : W3} (hal : a < l) : HX ((swp xs a l x y).take l) a := by
  have zo : ∀ k, k ≠ a → k < l → ((swp xs a l x y).take l)[k]? = xs[k]? := fun k h1 h2 => by
    rw [List.getElem?_take_of_lt h2, swp_o h1 (by omega)]
  have zn : ∀ k u, ((swp xs a l x y).take l)[k]? = some u → k < l := fun k u hu => by
    have := (List.getElem?_eq_some_iff.1 hu).1
    rw [List.length_take] at this
    omega
  refine ⟨fun i h0 h1 h2 u v hu hv => ?_, fun c h0 h1 h2 u v hu hv => ?_⟩
  · have hi := zn i u hu
    rw [zo i h1 hi] at hu
    rw [zo _ h2 (by omega)] at hv
    exact h i h0 u v hu hv
  · have hc := zn c u hu
    rw [zo c (by omega) hc] at hu
    rw [zo _ (by omega) (by omega)] at hv
    exact (h.hs a).2 c h0 h1 h2 u v hu hv
theorem HP.cut {xs : List W3} (h : HP xs) (l : Nat) : HP (xs.take l) := fun i h0 u v hu hv => by
  have h1 : i < (xs.take l).length := (List.getElem?_eq_some_iff.1 hu).1
  rw [List.length_take] at h1
  rw [List.getElem?_take_of_lt (by omega)] at hu hv
  exact h i h0 u v hu hv
theorem take_perm {xs : List W3} {a l : Nat} {x y : W3} (hx : xs[a]? = some x) (hy : xs[l]? = some y) (hl : l + 1 = xs.length) : xs.Perm (x :: (swp xs a l x y).take l) := by
  have h1 := swp_perm hx hy
  have h2 : (swp xs a l x y) = (swp xs a l x y).take l ++ [x] := by
    have h3 := swp_j (i := a) (x := x) hy
    have h4 : l < (swp xs a l x y).length := by rw [swp_len]; omega
    have h5 : (swp xs a l x y).drop l = [x] := by
      rw [List.drop_eq_getElem_cons h4, List.drop_of_length_le (by rw [swp_len]; omega)]
      congr 1
      exact (List.getElem?_eq_some_iff.1 h3).2
    rw [← h5, List.take_append_drop]
  rw [h2] at h1
  exact h1.symm.trans (List.perm_append_singleton x _)

/-- no number twice -/
def Nn (xs : List W3) : Prop := (xs.map (·.n)).Nodup
theorem Nn.perm {xs ys : List W3} (h : Nn xs) (p : ys.Perm xs) : Nn ys := (p.map _).nodup_iff.2 h
theorem Nn.inj {xs : List W3} (h : Nn xs) {i j : Nat} {x y : W3} (hi : xs[i]? = some x) (hj : xs[j]? = some y) (e : x.n = y.n) : i = j := by
  have h1 : i < (xs.map (·.n)).length := by rw [List.length_map]; exact (List.getElem?_eq_some_iff.1 hi).1
  have a1 : (xs.map (·.n))[i]? = some x.n := by rw [List.getElem?_map, hi]; rfl
  have a2 : (xs.map (·.n))[j]? = some x.n := by rw [List.getElem?_map, hj, e]; rfl
  exact (List.getElem?_inj h1 h).1 (a1.trans a2.symm)

/-- what the places' map says -/
structure MOk (M : List (Int × Int × Nat)) (clock : Nat) : Prop where
  k : (M.map (·.1)).Nodup
  t : (M.map (·.2.2)).Nodup
  c : ∀ e ∈ M, e.2.2 < clock
/-- .. just where each number stands -/
def Pl (M : List (Int × Int × Nat)) (xs : List W3) : Prop := ∀ a v, (∃ t, (a, v, t) ∈ M) ↔ ∃ i : Nat, v = (i : Int) ∧ ∃ x, xs[i]? = some x ∧ x.n = a
theorem MOk.nil : MOk [] 0 := ⟨by simp, by simp, fun e h => by simp at h⟩
theorem Pl.nil : Pl [] [] := fun a v => ⟨fun ⟨t, h⟩ => by simp at h, fun ⟨i, _, x, h, _⟩ => by simp at h⟩
theorem MOk.set {M : List (Int × Int × Nat)} {clock j : Nat} {a u : Int} {t : Nat} (h : MOk M clock) (hj : M[j]? = some (a, u, t)) (v : Int) : MOk (M.set j (a, v, t)) clock := by
  have hl : j < M.length := (List.getElem?_eq_some_iff.1 hj).1
  have e1 : (M.set j (a, v, t)).map (·.1) = M.map (·.1) := by
    apply List.ext_getElem?
    intro k
    rw [List.getElem?_map, List.getElem?_map]
    by_cases e : k = j
    · subst e
      rw [List.getElem?_set_self hl, hj]
      rfl
    · rw [List.getElem?_set_ne (fun e' => e e'.symm)]
  have e2 : (M.set j (a, v, t)).map (·.2.2) = M.map (·.2.2) := by
    apply List.ext_getElem?
    intro k
    rw [List.getElem?_map, List.getElem?_map]
    by_cases e : k = j
    · subst e
      rw [List.getElem?_set_self hl, hj]
      rfl
    · rw [List.getElem?_set_ne (fun e' => e e'.symm)]
  refine ⟨by rw [e1]; exact h.k, by rw [e2]; exact h.t, fun e he => ?_⟩
  have : e.2.2 ∈ (M.set j (a, v, t)).map (·.2.2) := List.mem_map.2 ⟨e, he, rfl⟩
  rw [e2] at this
  obtain ⟨e', h1, h2⟩ := List.mem_map.1 this
  rw [← h2]
  exact h.c e' h1
theorem MOk.push {M : List (Int × Int × Nat)} {clock : Nat} {a : Int} (h : MOk M clock) (ha : ∀ e ∈ M, e.1 ≠ a) (v : Int) : MOk (M ++ [(a, v, clock)]) (clock + 1) := by
  refine ⟨?_, ?_, fun e he => ?_⟩
  · rw [List.map_append, List.nodup_append]
    refine ⟨h.k, by simp, fun b hb c hc e => ?_⟩
    obtain ⟨e', h1, h2⟩ := List.mem_map.1 hb
    simp at hc
    exact ha e' h1 (h2.trans (e.trans hc))
  · rw [List.map_append, List.nodup_append]
    refine ⟨h.t, by simp, fun b hb c hc e => ?_⟩
    obtain ⟨e', h1, h2⟩ := List.mem_map.1 hb
    simp at hc
    have := h.c e' h1
    omega
  · rw [List.mem_append, List.mem_singleton] at he
    rcases he with he | rfl
    · have := h.c e he
      omega
    · simp
theorem MOk.erase {M : List (Int × Int × Nat)} {clock : Nat} (h : MOk M clock) (j : Nat) : MOk (M.eraseIdx j) clock :=
  ⟨h.k.sublist ((List.eraseIdx_sublist _ _).map _), h.t.sublist ((List.eraseIdx_sublist _ _).map _), fun e he => h.c e ((List.eraseIdx_sublist _ _).subset he)⟩
theorem MOk.one {M : List (Int × Int × Nat)} {clock : Nat} (h : MOk M clock) {i j : Nat} {e f : Int × Int × Nat} (hi : M[i]? = some e) (hj : M[j]? = some f) (he : e.1 = f.1) : i = j := by
  have h1 : i < (M.map (·.1)).length := by rw [List.length_map]; exact (List.getElem?_eq_some_iff.1 hi).1
  have a1 : (M.map (·.1))[i]? = some e.1 := by rw [List.getElem?_map, hi]; rfl
  have a2 : (M.map (·.1))[j]? = some e.1 := by rw [List.getElem?_map, hj, he]; rfl
  exact (List.getElem?_inj h1 h.k).1 (a1.trans a2.symm)
theorem MOk.mem_set {M : List (Int × Int × Nat)} {clock j : Nat} {a u : Int} {t : Nat} (h : MOk M clock) (hj : M[j]? = some (a, u, t)) (v b w : Int) : (∃ s, (b, w, s) ∈ M.set j (a, v, t)) ↔ (b = a ∧ w = v) ∨ (b ≠ a ∧ ∃ s, (b, w, s) ∈ M) := by
  have hl : j < M.length := (List.getElem?_eq_some_iff.1 hj).1
  constructor
  · rintro ⟨s, hs⟩
    obtain ⟨k, hk⟩ := List.mem_iff_getElem?.1 hs
    by_cases e : k = j
    · subst e
      rw [List.getElem?_set_self hl] at hk
      injection hk with hk
      injection hk with h1 h2
      injection h2 with h2 _
      exact .inl ⟨h1.symm, h2.symm⟩
    · rw [List.getElem?_set_ne (fun e' => e e'.symm)] at hk
      refine .inr ⟨fun eb => e (h.one hk hj eb), s, List.mem_of_getElem? hk⟩
  · rintro (⟨rfl, rfl⟩ | ⟨hb, s, hs⟩)
    · exact ⟨t, List.mem_of_getElem? (List.getElem?_set_self hl)⟩
    · obtain ⟨k, hk⟩ := List.mem_iff_getElem?.1 hs
      have e : j ≠ k := fun e => by
        subst e
        rw [hj] at hk
        injection hk with hk
        injection hk with h1 _
        exact hb h1.symm
      exact ⟨s, List.mem_of_getElem? (i := k) (by rw [List.getElem?_set_ne e]; exact hk)⟩
theorem MOk.mem_erase {M : List (Int × Int × Nat)} {clock j : Nat} {a u : Int} {t : Nat} (h : MOk M clock) (hj : M[j]? = some (a, u, t)) (b w : Int) : (∃ s, (b, w, s) ∈ M.eraseIdx j) ↔ b ≠ a ∧ ∃ s, (b, w, s) ∈ M := by
  have p := perm_idx hj
  have hnd : ((((a, u, t) : Int × Int × Nat) :: M.eraseIdx j).map (·.1)).Nodup := (p.map _).nodup_iff.1 h.k
  rw [List.map_cons, List.nodup_cons] at hnd
  constructor
  · rintro ⟨s, hs⟩
    refine ⟨fun e => hnd.1 (List.mem_map.2 ⟨_, hs, e⟩), s, p.mem_iff.2 (List.mem_cons_of_mem _ hs)⟩
  · rintro ⟨hb, s, hs⟩
    have := p.mem_iff.1 hs
    rw [List.mem_cons] at this
    rcases this with e | h1
    · injection e with e _
      exact absurd e hb
    · exact ⟨s, h1⟩
/-- where a number stands the map has it -/
theorem Pl.find {M : List (Int × Int × Nat)} {xs : List W3} (h : Pl M xs) {i : Nat} {x : W3} (hx : xs[i]? = some x) : ∃ (j t : Nat), M[j]? = some (x.n, (i : Int), t) := by
  obtain ⟨t, ht⟩ := (h x.n (i : Int)).2 ⟨i, rfl, x, hx, rfl⟩
  obtain ⟨j, hj⟩ := List.mem_iff_getElem?.1 ht
  exact ⟨j, t, hj⟩
theorem Pl.swap {M M1 M2 : List (Int × Int × Nat)} {xs : List W3} {i j : Nat} {x y : W3} (h : Pl M xs) (hn : Nn xs) (hi : xs[i]? = some x) (hj : xs[j]? = some y)
    (h1 : ∀ b w, (∃ s, (b, w, s) ∈ M1) ↔ (b = y.n ∧ w = (i : Int)) ∨ (b ≠ y.n ∧ ∃ s, (b, w, s) ∈ M)) (h2 : ∀ b w, (∃ s, (b, w, s) ∈ M2) ↔ (b = x.n ∧ w = (j : Int)) ∨ (b ≠ x.n ∧ ∃ s, (b, w, s) ∈ M1)) : Pl M2 (swp xs i j x y) := by
  intro a v
  rw [h2, h1, h]
  have zi := swp_i hi hj
  have zj := swp_j (i := i) (x := x) hj
  constructor
  · rintro (⟨rfl, rfl⟩ | ⟨ha, ⟨rfl, rfl⟩ | ⟨hb, k, rfl, z, hz, rfl⟩⟩)
    · exact ⟨j, rfl, x, zj, rfl⟩
    · exact ⟨i, rfl, y, zi, rfl⟩
    · refine ⟨k, rfl, z, ?_, rfl⟩
      rw [swp_o (fun e => ?_) (fun e => ?_)]
      · exact hz
      · subst e
        rw [hi] at hz
        injection hz with hz
        exact ha (by rw [hz])
      · subst e
        rw [hj] at hz
        injection hz with hz
        exact hb (by rw [hz])
  · rintro ⟨k, rfl, z, hz, rfl⟩
    by_cases e1 : k = j
    · subst e1
      rw [zj] at hz
      injection hz with hz
      subst hz
      exact .inl ⟨rfl, rfl⟩
    · by_cases e2 : k = i
      · subst e2
        rw [zi] at hz
        injection hz with hz
        subst hz
        refine .inr ⟨fun e => e1 (hn.inj hi hj e.symm), .inl ⟨rfl, rfl⟩⟩
      · rw [swp_o e2 e1] at hz
        exact .inr ⟨fun e => e2 (hn.inj hz hi e), .inr ⟨fun e => e1 (hn.inj hz hj e), k, rfl, z, hz, rfl⟩⟩
theorem Pl.push {M : List (Int × Int × Nat)} {clock : Nat} {xs : List W3} (h : Pl M xs) (z : W3) : Pl (M ++ [(z.n, (xs.length : Int), clock)]) (xs ++ [z]) := by
  intro a v
  constructor
  · rintro ⟨t, ht⟩
    rw [List.mem_append, List.mem_singleton] at ht
    rcases ht with ht | ht
    · obtain ⟨i, rfl, x, hx, rfl⟩ := (h a v).1 ⟨t, ht⟩
      exact ⟨i, rfl, x, by rw [List.getElem?_append_left (List.getElem?_eq_some_iff.1 hx).1]; exact hx, rfl⟩
    · injection ht with e1 e2
      injection e2 with e2 _
      exact ⟨xs.length, e2, z, by simp, e1.symm⟩
  · rintro ⟨i, rfl, x, hx, rfl⟩
    by_cases hi : i < xs.length
    · rw [List.getElem?_append_left hi] at hx
      obtain ⟨t, ht⟩ := (h x.n (i : Int)).2 ⟨i, rfl, x, hx, rfl⟩
      exact ⟨t, List.mem_append_left _ ht⟩
    · have hl : i < (xs ++ [z]).length := (List.getElem?_eq_some_iff.1 hx).1
      have e : i = xs.length := by rw [List.length_append] at hl; simp at hl; omega
      subst e
      have e : z = x := by simpa using hx
      subst e
      exact ⟨clock, by simp⟩
theorem Pl.drop {M M1 : List (Int × Int × Nat)} {xs : List W3} (h : Pl M xs) (hn : Nn xs) {l : Nat} {x : W3} (hl : l + 1 = xs.length) (hx : xs[l]? = some x) (h1 : ∀ b w, (∃ s, (b, w, s) ∈ M1) ↔ b ≠ x.n ∧ ∃ s, (b, w, s) ∈ M) : Pl M1 (xs.take l) := by
  intro a v
  rw [h1, h]
  constructor
  · rintro ⟨ha, i, rfl, z, hz, rfl⟩
    have hi : i < xs.length := (List.getElem?_eq_some_iff.1 hz).1
    have hne : i ≠ l := fun e => by
      subst e
      rw [hx] at hz
      injection hz with hz
      exact ha (by rw [hz])
    exact ⟨i, rfl, z, by rw [List.getElem?_take_of_lt (by omega)]; exact hz, rfl⟩
  · rintro ⟨i, rfl, z, hz, rfl⟩
    have hi : i < (xs.take l).length := (List.getElem?_eq_some_iff.1 hz).1
    rw [List.length_take] at hi
    rw [List.getElem?_take_of_lt (by omega)] at hz
    refine ⟨fun e => ?_, i, rfl, z, hz, rfl⟩
    have := hn.inj hz hx e
    omega
end Go.Proofs.Ytgkapopkjgljjaa.Hp
