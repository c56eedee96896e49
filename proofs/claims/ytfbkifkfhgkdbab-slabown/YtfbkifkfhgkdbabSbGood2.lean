/-
  That Take and Give keep a slab that may be. No conditions: plain lists alone.
-/
import Derived.Test.YtfbkifkfhgkdbabSbGood
namespace Go.Proofs.Ytfbkifkfhgkdbab.Sb
open Go.RowKit

theorem May.take {L : Int} {x : Sl} (h : May L x) {C : List (List Int)} {z : Int} (hl : C.length = x.C.length) (hc : ∀ (i : Nat) c, C[i]? = some c → c.length < 64) (he : ∀ s, C.flatten.count s + x.F.count s + (if s = z then 1 else 0) = fcnt x s) :
    ∃ (k : Nat) (g : Int), z = (k : Int) ∧ x.G[k]? = some g ∧ x.A[k]? = some false ∧ 1 ≤ g ∧ g < 2147483647 ∧ May L (givenS { x with C := C } k g) := by
  have hz := he z
  rw [if_pos rfl] at hz
  obtain ⟨k, rfl, hA, g, hG, hg⟩ := h.fr z (by omega)
  have hk : k < x.G.length := (List.getElem?_eq_some_iff.1 hG).1
  have hkA : k < x.A.length := (List.getElem?_eq_some_iff.1 hA).1
  have hnk := h.nd (k : Int)
  have h0 : C.flatten.count (k : Int) + x.F.count (k : Int) = 0 := by omega
  refine ⟨k, g, rfl, hG, hA, (h.gen k g hG).1, hg, { l1 := h.l1, l2 := h.l2, gl := ?_, ag := ?_, c1 := ?_, c2 := ?_, cl := hc, gen := fun i y hy => ?_, fr := fun s hs => ?_, nd := fun s => ?_ }⟩
  · show ((x.G.set k (g + 1)).length : Int) ≤ L
    rw [List.length_set]
    exact h.gl
  · show (x.A.set k true).length = (x.G.set k (g + 1)).length
    rw [List.length_set, List.length_set]
    exact h.ag
  · show 1 ≤ C.length
    rw [hl]
    exact h.c1
  · show C.length ≤ 64
    rw [hl]
    exact h.c2
  · have hy' : (x.G.set k (g + 1))[i]? = some y := hy
    by_cases e : i = k
    · subst e
      rw [List.getElem?_set_self hk] at hy'
      injection hy' with hy'
      have := (h.gen i g hG).1
      omega
    · rw [List.getElem?_set_ne (fun e' => e e'.symm)] at hy'
      exact h.gen i y hy'
  · have hs' : 0 < C.flatten.count s + x.F.count s := hs
    have hne : s ≠ (k : Int) := fun e => by rw [e] at hs'; omega
    have := he s
    rw [if_neg hne] at this
    obtain ⟨k', e', hA', g', hG', hg'⟩ := h.fr s (by omega)
    have hkk : k ≠ k' := fun e => hne (by rw [e', e])
    refine ⟨k', e', ?_, g', ?_, hg'⟩
    · show (x.A.set k true)[k']? = some false
      rw [List.getElem?_set_ne hkk]
      exact hA'
    · show (x.G.set k (g + 1))[k']? = some g'
      rw [List.getElem?_set_ne hkk]
      exact hG'
  · show C.flatten.count s + x.F.count s ≤ 1
    have := he s
    have := h.nd s
    omega

theorem set_last {α : Type} (l : List α) (a b : α) (n : Nat) (h : n = l.length) : (l ++ [a]).set n b = l ++ [b] := by
  subst h
  rw [List.set_append_right _ _ (Nat.le_refl _)]
  simp
theorem May.made {L : Int} {x : Sl} (h : May L x) (hl : (x.G.length : Int) < L) : May L (givenS (makeS x) x.G.length 0) := by
  have eG : (givenS (makeS x) x.G.length 0).G = x.G ++ [1] := set_last _ _ _ _ rfl
  have eA : (givenS (makeS x) x.G.length 0).A = x.A ++ [true] := set_last _ _ _ _ h.ag.symm
  refine { l1 := h.l1, l2 := h.l2, gl := ?_, ag := ?_, c1 := h.c1, c2 := h.c2, cl := h.cl, gen := fun i y hy => ?_, fr := fun s hs => ?_, nd := h.nd }
  · rw [eG, List.length_append]
    simp
    omega
  · rw [eG, eA, List.length_append, List.length_append, h.ag]
    rfl
  · rw [eG] at hy
    by_cases hi : i < x.G.length
    · rw [List.getElem?_append_left hi] at hy
      exact h.gen i y hy
    · have hi2 : i < (x.G ++ [1]).length := (List.getElem?_eq_some_iff.1 hy).1
      have : i = x.G.length := by rw [List.length_append] at hi2; simp at hi2; omega
      subst this
      have : (1 : Int) = y := by simpa using hy
      omega
  · obtain ⟨k, e, hA, g, hG, hg⟩ := h.fr s hs
    refine ⟨k, e, ?_, g, ?_, hg⟩
    · rw [eA, List.getElem?_append_left (List.getElem?_eq_some_iff.1 hA).1]
      exact hA
    · rw [eG, List.getElem?_append_left (List.getElem?_eq_some_iff.1 hG).1]
      exact hG

theorem cut_count {k : Nat} (c : List Int) (z s : Int) (hz : c[k]? = some z) : (c.take k ++ c.drop (k + 1)).count s + (if s = z then 1 else 0) = c.count s := by
  have hk : k < c.length := (List.getElem?_eq_some_iff.1 hz).1
  have e : c = c.take k ++ (z :: c.drop (k + 1)) := by
    have h1 : c.drop k = z :: c.drop (k + 1) := by
      rw [List.drop_eq_getElem_cons hk]
      congr 1
      exact (List.getElem?_eq_some_iff.1 hz).2
    rw [← h1, List.take_append_drop]
  rw [List.count_append]
  conv => rhs; rw [e]
  rw [List.count_append, List.count_cons]
  by_cases h : s = z
  · subst h
    simp
    omega
  · have h' : ¬ (z = s) := fun e => h e.symm
    simp [h, h']

theorem May.uncache {L : Int} {x : Sl} (h : May L x) {q k : Nat} {c : List Int} {z : Int} (hc : x.C[q]? = some c) (hz : c[k]? = some z) :
    ∃ (n : Nat) (g : Int), z = (n : Int) ∧ x.G[n]? = some g ∧ x.A[n]? = some false ∧ 1 ≤ g ∧ g < 2147483647 ∧ May L (givenS (uncacheS x q k c) n g) := by
  refine h.take (C := x.C.set q (c.take k ++ c.drop (k + 1))) (by simp) (set_cl h.cl ?_) (fun s => ?_)
  · have := h.cl q c hc
    rw [List.length_append, List.length_take, List.length_drop]
    omega
  · have h1 := flat_set (c' := c.take k ++ c.drop (k + 1)) hc s
    have h2 := cut_count (k := k) c z s hz
    unfold fcnt
    omega

/-- whatever freeSlot found is a slot that may be given -/
theorem May.freed {L : Int} {x : Sl} {p : Nat} {r : Option Int} {x' : Sl} (h : May L x) (hf : Freed L x p r x') : Fine x' r ∧ May L (tookV r x').2 := by
  cases hf using Freed.elim with
  | @own c z hc =>
    obtain ⟨k, g, rfl, hG, hA, hg1, hg2, hm⟩ := h.uncache (k := c.length) (z := z) hc (by simp)
    refine ⟨fun y hy => ?_, ?_⟩
    · injection hy with hy
      subst hy
      exact ⟨k, g, false, rfl, hG, hA, by omega, hg2⟩
    · rw [tookV_some (show (uncacheS x p c.length (c ++ [(k : Int)])).G[k]? = some g from hG)]
      exact hm
  | made hc hl =>
    have hG : (makeS x).G[x.G.length]? = some 0 := by simp [makeS]
    have hA : (makeS x).A[x.G.length]? = some false := by simp [makeS, ← h.ag]
    refine ⟨fun y hy => ?_, ?_⟩
    · injection hy with hy
      subst hy
      exact ⟨x.G.length, 0, false, rfl, hG, hA, by omega, by omega⟩
    · rw [tookV_some hG]
      exact h.made hl
  | @found q z c hc hl hq hz =>
    obtain ⟨k, g, rfl, hG, hA, hg1, hg2, hm⟩ := h.uncache (k := 0) hz rfl
    refine ⟨fun y hy => ?_, ?_⟩
    · injection hy with hy
      subst hy
      exact ⟨k, g, false, rfl, hG, hA, by omega, hg2⟩
    · rw [tookV_some (show (uncacheS x q 0 ((k : Int) :: c)).G[k]? = some g from hG)]
      exact hm
  | none hc hl hq => exact ⟨fun y hy => (by cases hy), h⟩

theorem May.alone {L : Int} {x : Sl} (h : May L x) {k : Nat} (hA : x.A[k]? = some true) : fcnt x (k : Int) = 0 := by
  by_cases h0 : fcnt x (k : Int) = 0
  · exact h0
  · obtain ⟨k', e, hA', _⟩ := h.fr (k : Int) (by omega)
    have e' : k = k' := by omega
    subst e'
    rw [hA] at hA'
    cases hA'
theorem May.dead {L : Int} {x : Sl} (h : May L x) {k : Nat} (hA : x.A[k]? = some true) : May L (deadS x k) := by
  refine { l1 := h.l1, l2 := h.l2, gl := h.gl, ag := ?_, c1 := h.c1, c2 := h.c2, cl := h.cl, gen := h.gen, fr := fun s hs => ?_, nd := h.nd }
  · show (x.A.set k false).length = x.G.length
    rw [List.length_set]
    exact h.ag
  · obtain ⟨k', e, hA', g, hG, hg⟩ := h.fr s hs
    refine ⟨k', e, ?_, g, hG, hg⟩
    show (x.A.set k false)[k']? = some false
    by_cases ek : k = k'
    · subst ek
      rw [hA] at hA'
      cases hA'
    · rw [List.getElem?_set_ne ek]
      exact hA'
theorem May.more {L : Int} {x : Sl} (h : May L x) {k : Nat} {g : Int} {C : List (List Int)} {F : List Int} (hA : x.A[k]? = some false) (hG : x.G[k]? = some g) (hg : g < 2147483647) (h0 : fcnt x (k : Int) = 0) (hl : C.length = x.C.length) (hc : ∀ (i : Nat) c, C[i]? = some c → c.length < 64)
    (he : ∀ s, C.flatten.count s + F.count s = fcnt x s + (if s = (k : Int) then 1 else 0)) : May L { x with C := C, F := F } := by
  refine { l1 := h.l1, l2 := h.l2, gl := h.gl, ag := h.ag, c1 := by rw [hl]; exact h.c1, c2 := by rw [hl]; exact h.c2, cl := hc, gen := h.gen, fr := fun s hs => ?_, nd := fun s => ?_ }
  · have hs' : 0 < C.flatten.count s + F.count s := hs
    by_cases e : s = (k : Int)
    · exact ⟨k, e, hA, g, hG, hg⟩
    · rw [he s, if_neg e] at hs'
      exact h.fr s hs'
  · show C.flatten.count s + F.count s ≤ 1
    rw [he s]
    by_cases e : s = (k : Int)
    · rw [if_pos e, e, h0]
      omega
    · rw [if_neg e]
      exact h.nd s
theorem May.give {L : Int} {x : Sl} (h : May L x) {p k : Nat} {gn : Int} {c : List Int} (hc : x.C[p]? = some c) (hG : x.G[k]? = some gn) (hA : x.A[k]? = some true) : May L (giveS x p k gn c) := by
  have hd := h.dead hA
  have hk : k < x.A.length := (List.getElem?_eq_some_iff.1 hA).1
  have hA' : (deadS x k).A[k]? = some false := List.getElem?_set_self hk
  have h0 : fcnt (deadS x k) (k : Int) = 0 := h.alone hA
  have hcl := h.cl p c hc
  have hone : ∀ s : Int, [(k : Int)].count s = if s = (k : Int) then 1 else 0 := fun s => by
    by_cases e : s = (k : Int)
    · rw [if_pos e, e]
      simp
    · have e' : ¬ ((k : Int) = s) := fun e2 => e e2.symm
      rw [if_neg e]
      simp [e']
  unfold giveS
  by_cases hg : gn < 2147483647
  · rw [if_pos hg]
    unfold cacheS
    by_cases h64 : 64 ≤ c.length + 1
    · rw [if_pos h64]
      refine hd.more (k := k) (C := (x.C.set p (c ++ [(k : Int)])).set p ((c ++ [(k : Int)]).drop 32)) (F := x.F ++ (c ++ [(k : Int)]).take 32) hA' hG hg h0 (by rw [List.length_set, List.length_set]; rfl) ?_ (fun s => ?_)
      · rw [List.set_set]
        exact set_cl h.cl (by rw [List.length_drop, List.length_append]; simp; omega)
      · rw [List.set_set]
        have h1 := flat_set (c' := (c ++ [(k : Int)]).drop 32) hc s
        have h2 : ((c ++ [(k : Int)]).take 32).count s + ((c ++ [(k : Int)]).drop 32).count s = (c ++ [(k : Int)]).count s := by rw [← List.count_append, List.take_append_drop]
        have h3 := List.count_append (a := s) (l₁ := c) (l₂ := [(k : Int)])
        have h4 := hone s
        rw [List.count_append]
        show _ = x.C.flatten.count s + x.F.count s + _
        omega
    · rw [if_neg h64]
      refine hd.more (k := k) (C := x.C.set p (c ++ [(k : Int)])) (F := x.F) hA' hG hg h0 (by rw [List.length_set]; rfl) (set_cl h.cl (by rw [List.length_append]; simp; omega)) (fun s => ?_)
      have h1 := flat_set (c' := c ++ [(k : Int)]) hc s
      have h3 := List.count_append (a := s) (l₁ := c) (l₂ := [(k : Int)])
      have h4 := hone s
      show _ = x.C.flatten.count s + x.F.count s + _
      omega
  · rw [if_neg hg]
    exact hd
end Go.Proofs.Ytfbkifkfhgkdbab.Sb
