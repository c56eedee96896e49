/-
  A slab that may be: its lists and numbers, and that calls keep it so. No conditions: plain lists alone.
-/
import Derived.Test.YtfbkifkfhgkdbabSbGive
namespace Go.Proofs.Ytfbkifkfhgkdbab.Sb
open Go.RowKit

/-- how often a slot stands in the free lists -/
def fcnt (x : Sl) (s : Int) : Nat := x.C.flatten.count s + x.F.count s
theorem flat_set {C : List (List Int)} {p : Nat} {c c' : List Int} (h : C[p]? = some c) (s : Int) : (C.set p c').flatten.count s + c.count s = C.flatten.count s + c'.count s := by
  induction C generalizing p with
  | nil => simp at h
  | cons d C ih =>
    cases p with
    | zero =>
      have e : d = c := by simpa using h
      subst e
      simp only [List.set_cons_zero, List.flatten_cons, List.count_append]
      omega
    | succ p =>
      have h2 : C[p]? = some c := by simpa using h
      have := ih h2
      simp only [List.set_cons_succ, List.flatten_cons, List.count_append]
      omega
theorem flat_le {C : List (List Int)} {p : Nat} {c : List Int} (h : C[p]? = some c) (s : Int) : c.count s ≤ C.flatten.count s := by
  have := flat_set (c' := []) h s
  simp at this
  omega

/-- a slab that may be -/
structure May (L : Int) (x : Sl) : Prop where
  l1 : 1 ≤ L
  l2 : L ≤ 4096
  gl : (x.G.length : Int) ≤ L
  ag : x.A.length = x.G.length
  c1 : 1 ≤ x.C.length
  c2 : x.C.length ≤ 64
  cl : ∀ (i : Nat) c, x.C[i]? = some c → c.length < 64
  gen : ∀ (i : Nat) g, x.G[i]? = some g → 1 ≤ g ∧ g ≤ 2147483647
  fr : ∀ s, 0 < fcnt x s → ∃ k : Nat, s = (k : Int) ∧ x.A[k]? = some false ∧ ∃ g, x.G[k]? = some g ∧ g < 2147483647
  nd : ∀ s, fcnt x s ≤ 1

theorem few : ∀ (n : Nat) (l : List Int), (∀ s, l.count s ≤ 1) → (∀ s ∈ l, ∃ k : Nat, s = (k : Int) ∧ k < n) → l.length ≤ n
  | 0, l, _, h => by
    cases l with
    | nil => exact Nat.le_refl _
    | cons a l =>
      obtain ⟨k, _, hk⟩ := h a (List.mem_cons_self ..)
      omega
  | n + 1, l, hc, h => by
    have h1 : ∀ s ∈ l.erase (n : Int), ∃ k : Nat, s = (k : Int) ∧ k < n := fun s hs => by
      obtain ⟨k, e, hk⟩ := h s (List.mem_of_mem_erase hs)
      refine ⟨k, e, ?_⟩
      have hne : s ≠ (n : Int) := fun e2 => by
        subst e2
        have h2 := List.count_pos_iff.2 hs
        have h3 := hc (n : Int)
        rw [List.count_erase_self] at h2
        omega
      omega
    have h2 := few n (l.erase (n : Int)) (fun s => Nat.le_trans (by rw [List.count_erase]; exact Nat.sub_le _ _) (hc s)) h1
    have h3 := List.length_erase (a := (n : Int)) (l := l)
    split at h3 <;> omega

theorem May.fl {L : Int} {x : Sl} (h : May L x) : x.F.length ≤ 4096 := by
  have := few x.G.length x.F (fun s => by have := h.nd s; unfold fcnt at this; omega) (fun s hs => by
    obtain ⟨k, e, _, g, hg, _⟩ := h.fr s (by have := List.count_pos_iff.2 hs; unfold fcnt; omega)
    exact ⟨k, e, (List.getElem?_eq_some_iff.1 hg).1⟩)
  have := h.gl
  have := h.l2
  omega
theorem May.gl2 {L : Int} {x : Sl} (h : May L x) : x.G.length ≤ 4096 := by
  have := h.gl
  have := h.l2
  omega
theorem May.fits {L : Int} {x : Sl} (h : May L x) : x.Fits where
  g := by have := h.gl2; omega
  a := by have := h.gl2; have := h.ag; omega
  c := by have := h.c2; omega
  f := by have := h.fl; omega
  e := fun i l hl => by have := h.cl i l hl; omega

theorem May.new {L : Int} {n : Nat} (h1 : 1 ≤ L) (h2 : L ≤ 4096) (h3 : 1 ≤ n) (h4 : n ≤ 64) : May L (newSl n) := by
  have hz : ∀ s, fcnt (newSl n) s = 0 := fun s => by simp [fcnt, newSl]
  refine ⟨h1, h2, by simp [newSl]; omega, by simp [newSl], by simpa [newSl] using h3, by simpa [newSl] using h4, fun i c hc => ?_, fun i g hg => by simp [newSl] at hg, fun s hs => by rw [hz] at hs; omega, fun s => by rw [hz]; omega⟩
  have : c ∈ (newSl n).C := List.mem_of_getElem? hc
  simp [newSl] at this
  rw [this.2]
  simp

/-- the same slots, elsewhere in the lists -/
theorem May.move {L : Int} {x : Sl} (h : May L x) {C : List (List Int)} {F : List Int} (hl : C.length = x.C.length) (hc : ∀ (i : Nat) c, C[i]? = some c → c.length < 64) (he : ∀ s, C.flatten.count s + F.count s = fcnt x s) : May L { x with C := C, F := F } :=
  { l1 := h.l1, l2 := h.l2, gl := h.gl, ag := h.ag, c1 := by rw [hl]; exact h.c1, c2 := by rw [hl]; exact h.c2, cl := hc, gen := h.gen, fr := fun s hs => h.fr s (by rw [← he s]; exact hs), nd := fun s => by show C.flatten.count s + F.count s ≤ 1; rw [he s]; exact h.nd s }
theorem set_cl {C : List (List Int)} {p : Nat} {c' : List Int} (h : ∀ (i : Nat) c, C[i]? = some c → c.length < 64) (h' : c'.length < 64) : ∀ (i : Nat) c, (C.set p c')[i]? = some c → c.length < 64 := fun i c hc => by
  by_cases e : i = p
  · subst e
    by_cases hi : i < C.length
    · rw [List.getElem?_set_self hi] at hc
      injection hc with hc
      rw [← hc]
      exact h'
    · rw [List.getElem?_eq_none (by rw [List.length_set]; omega)] at hc
      cases hc
  · rw [List.getElem?_set_ne (fun e' => e e'.symm)] at hc
    exact h i c hc

theorem May.fill {L : Int} {x : Sl} (h : May L x) {p n : Nat} (hc : x.C[p]? = some []) (hn : n ≤ 16) : May L (fillS x p n) := by
  refine h.move (by simp) (set_cl h.cl (by rw [List.length_take]; omega)) (fun s => ?_)
  have h1 := flat_set (c' := x.F.take n) hc s
  have h2 : (x.F.take n).count s + (x.F.drop n).count s = x.F.count s := by rw [← List.count_append, List.take_append_drop]
  simp at h1
  unfold fcnt
  omega
theorem May.refill {L : Int} {x : Sl} (h : May L x) {p : Nat} {c : List Int} (hc : x.C[p]? = some c) : May L (refillS x p c) := by
  unfold refillS
  split
  · subst_vars
    exact h.fill hc (by omega)
  · exact h
theorem May.spill {L : Int} {x : Sl} {p n : Nat} {c : List Int} (h : May L x) (hc : x.C[p]? = some c) : May L (spillS x p n c) := by
  refine h.move (by simp) (set_cl h.cl (by have := h.cl p c hc; rw [List.length_drop]; omega)) (fun s => ?_)
  have h1 := flat_set (c' := c.drop n) hc s
  have h2 : (c.take n).count s + (c.drop n).count s = c.count s := by rw [← List.count_append, List.take_append_drop]
  rw [List.count_append]
  unfold fcnt
  omega
theorem May.flush {L : Int} {x : Sl} {p : Nat} {c : List Int} (h : May L x) (hc : x.C[p]? = some c) : May L (flushS x p c) := by
  rw [← flushS_eq]
  exact h.spill hc
end Go.Proofs.Ytfbkifkfhgkdbab.Sb
