/-
  What the statements' own book says of a slab, and that Take, Give and Flush keep it. Condition: fewer names than 2147483647 were told. No conditions else: plain lists alone.
-/
import Derived.Test.YtfbkifkfhgkdbabSbLoad5
namespace Go.Proofs.Ytfbkifkfhgkdbab.Sb
open Go.RowKit
open Classical

theorem tookV_snd {x : Sl} {k : Nat} {g : Int} (h : x.G[k]? = some g) : (tookV (some (k : Int)) x).2 = givenS x k g := by rw [tookV_some h]
/-- what the statement's own book says of a slab: the names that were told, and those of them that are alive -/
structure Book (L : Int) (n : Nat) (x : Sl) (had alive : List (Int × Int)) : Prop where
  m : May L x
  c : x.C.length = n
  g : ∀ (i : Nat) y, x.G[i]? = some y → y ≤ (had.length : Int)
  w : ∀ k : Nat, x.A[k]? = some false → fcnt x (k : Int) = 1
  h : ∀ y ∈ had, ∃ (k : Nat) (z : Int), y.1 = (k : Int) ∧ x.G[k]? = some z ∧ y.2 ≤ z
  a : ∀ y : Int × Int, y ∈ alive ↔ aliveB x y.1 y.2 = true
  nd : alive.Nodup
  len : alive.length = cnt x.A

theorem cnt_append (a b : List Bool) : cnt (a ++ b) = cnt a + cnt b := by simp [cnt]
theorem cnt_set : ∀ {l : List Bool} {k : Nat} {a : Bool} (b : Bool), l[k]? = some a → cnt (l.set k b) + (if a then 1 else 0) = cnt l + (if b then 1 else 0)
  | [], _, _, _, h => by simp at h
  | z :: l, 0, a, b, h => by
    have e : z = a := by simpa using h
    subst e
    cases z <;> cases b <;> simp [cnt] <;> omega
  | z :: l, k + 1, a, b, h => by
    have ih := cnt_set (l := l) (k := k) (a := a) b (by simpa using h)
    cases z <;> simp [cnt] at ih ⊢ <;> omega
theorem cnt_all {l : List Bool} (h : ∀ (k : Nat), l[k]? ≠ some false) : cnt l = l.length := by
  unfold cnt
  congr 1
  rw [List.filter_eq_self]
  intro b hb
  obtain ⟨k, hk⟩ := List.mem_iff_getElem?.1 hb
  cases b with
  | true => rfl
  | false => exact absurd hk (h k)
theorem all_cnt {l : List Bool} (h : cnt l = l.length) (k : Nat) : l[k]? ≠ some false := by
  intro hk
  have h1 := cnt_set true hk
  have h2 : cnt (l.set k true) ≤ (l.set k true).length := List.length_filter_le _ _
  rw [List.length_set] at h2
  simp at h1
  omega

theorem Book.new {L : Int} {n : Nat} (h1 : 1 ≤ L) (h2 : L ≤ 4096) (h3 : 1 ≤ n) (h4 : n ≤ 64) : Book L n (newSl n) [] [] :=
  { m := May.new h1 h2 h3 h4, c := by simp [newSl], g := fun i y hy => by simp [newSl] at hy, w := fun k hk => by simp [newSl] at hk, h := fun y hy => by simp at hy
    a := fun y => ⟨fun h => by simp at h, fun h => by rw [aliveB_out (fun h => by have h1 := h.1; have h2 := h.2; simp [newSl] at h2; omega)] at h; cases h⟩, nd := List.nodup_nil, len := by simp [newSl, cnt] }

/-- the same slots, elsewhere in the lists -/
theorem Book.move {L : Int} {n : Nat} {x : Sl} {had alive : List (Int × Int)} (b : Book L n x had alive) {C : List (List Int)} {F : List Int} (hm : May L { x with C := C, F := F }) (hl : C.length = x.C.length) (he : ∀ s, C.flatten.count s + F.count s = fcnt x s) : Book L n { x with C := C, F := F } had alive :=
  { m := hm, c := hl.trans b.c, g := b.g, w := fun k hk => (he _).trans (b.w k hk), h := b.h, a := b.a, nd := b.nd, len := b.len }

theorem fill_count {x : Sl} {p m : Nat} (hc : x.C[p]? = some []) (s : Int) : (x.C.set p (x.F.take m)).flatten.count s + (x.F.drop m).count s = fcnt x s := by
  have h1 := flat_set (c' := x.F.take m) hc s
  have h2 : (x.F.take m).count s + (x.F.drop m).count s = x.F.count s := by rw [← List.count_append, List.take_append_drop]
  simp at h1
  unfold fcnt
  omega
theorem Book.refill {L : Int} {n : Nat} {x : Sl} {had alive : List (Int × Int)} (b : Book L n x had alive) {p : Nat} {c : List Int} (hc : x.C[p]? = some c) : Book L n (refillS x p c) had alive := by
  have hm := b.m.refill hc
  unfold refillS at hm ⊢
  split
  · rename_i e
    subst e
    rw [if_pos rfl] at hm
    exact b.move hm (by simp) (fun s => fill_count hc s)
  · exact b
theorem Book.flush {L : Int} {n : Nat} {x : Sl} {had alive : List (Int × Int)} (b : Book L n x had alive) {p : Nat} {c : List Int} (hc : x.C[p]? = some c) : Book L n (flushS x p c) had alive := by
  refine b.move (b.m.flush hc) (by simp) (fun s => ?_)
  have h1 := flat_set (c' := []) hc s
  rw [List.count_append]
  simp at h1
  unfold fcnt
  omega

theorem alive_other {x y : Sl} {s gn : Int} (hG : y.G[s.toNat]? = x.G[s.toNat]?) (hA : y.A[s.toNat]? = x.A[s.toNat]?) (hl : y.G.length = x.G.length) : aliveB y s gn = aliveB x s gn := by
  unfold aliveB
  rw [hG, hA, hl]

/-- a slot of a free list is given -/
theorem Book.pop {L : Int} {n : Nat} {x : Sl} {had alive : List (Int × Int)} (b : Book L n x had alive) {C : List (List Int)} {k : Nat} {g : Int} (hm : May L (givenS { x with C := C } k g)) (hl : C.length = x.C.length) (hG : x.G[k]? = some g) (hA : x.A[k]? = some false)
    (he : ∀ s, C.flatten.count s + x.F.count s + (if s = (k : Int) then 1 else 0) = fcnt x s) : Book L n (givenS { x with C := C } k g) (had ++ [((k : Int), g + 1)]) (alive ++ [((k : Int), g + 1)]) ∧ ((k : Int), g + 1) ∉ had := by
  have hkG : k < x.G.length := (List.getElem?_eq_some_iff.1 hG).1
  have hkA : k < x.A.length := (List.getElem?_eq_some_iff.1 hA).1
  have eG : (givenS { x with C := C } k g).G[k]? = some (g + 1) := List.getElem?_set_self hkG
  have eA : (givenS { x with C := C } k g).A[k]? = some true := List.getElem?_set_self hkA
  have oG : ∀ i, i ≠ k → (givenS { x with C := C } k g).G[i]? = x.G[i]? := fun i hi => List.getElem?_set_ne (fun e => hi e.symm)
  have oA : ∀ i, i ≠ k → (givenS { x with C := C } k g).A[i]? = x.A[i]? := fun i hi => List.getElem?_set_ne (fun e => hi e.symm)
  have lG : (givenS { x with C := C } k g).G.length = x.G.length := List.length_set
  have old : ∀ gn, aliveB x (k : Int) gn = false := fun gn => by rw [aliveB_in hG hA]; rfl
  have new : ∀ gn, aliveB (givenS { x with C := C } k g) (k : Int) gn = decide (g + 1 = gn) := fun gn => by rw [aliveB_in eG eA]; simp
  have hnot : ((k : Int), g + 1) ∉ had := fun hin => by
    obtain ⟨k', z, e1, e2, e3⟩ := b.h _ hin
    have e4 : k = k' := by have e5 : (k : Int) = (k' : Int) := e1; omega
    subst e4
    rw [hG] at e2
    injection e2 with e2
    simp only at e3
    omega
  have other : ∀ s gn, s ≠ (k : Int) → aliveB (givenS { x with C := C } k g) s gn = aliveB x s gn := fun s gn hs => by
    by_cases h0 : 0 ≤ s
    · exact alive_other (oG _ (by omega)) (oA _ (by omega)) lG
    · rw [aliveB_out (fun h => h0 h.1), aliveB_out (fun h => h0 h.1)]
  refine ⟨{ m := hm, c := hl.trans b.c, g := fun i y hy => ?_, w := fun i hi => ?_, h := fun y hy => ?_, a := fun y => ?_, nd := ?_, len := ?_ }, hnot⟩
  · rw [List.length_append]
    by_cases e : i = k
    · subst e
      rw [eG] at hy
      injection hy with hy
      have := b.g i g hG
      simp
      omega
    · rw [oG i e] at hy
      have := b.g i y hy
      simp
      omega
  · have e : i ≠ k := fun e => by subst e; rw [eA] at hi; cases hi
    rw [oA i e] at hi
    have h1 := b.w i hi
    have h2 := he (i : Int)
    rw [if_neg (by omega)] at h2
    show C.flatten.count (i : Int) + x.F.count (i : Int) = 1
    omega
  · rw [List.mem_append, List.mem_singleton] at hy
    rcases hy with hy | rfl
    · obtain ⟨k', z, e1, e2, e3⟩ := b.h y hy
      by_cases e : k' = k
      · subst e
        rw [hG] at e2
        injection e2 with e2
        exact ⟨k', g + 1, e1, eG, by omega⟩
      · exact ⟨k', z, e1, by rw [oG _ e]; exact e2, e3⟩
    · exact ⟨k, g + 1, rfl, eG, Int.le_refl _⟩
  · rw [List.mem_append, List.mem_singleton]
    obtain ⟨s, gn⟩ := y
    by_cases e : s = (k : Int)
    · subst e
      rw [new]
      constructor
      · rintro (h | h)
        · have := (b.a _).1 h
          rw [old] at this
          cases this
        · simp only [Prod.mk.injEq, true_and] at h
          simpa using h.symm
      · intro h
        right
        simp only [Prod.mk.injEq, true_and]
        exact (of_decide_eq_true h).symm
    · rw [other s gn e, ← b.a (s, gn)]
      constructor
      · rintro (h | h)
        · exact h
        · simp only [Prod.mk.injEq] at h
          exact absurd h.1 e
      · exact fun h => .inl h
  · rw [List.nodup_append]
    refine ⟨b.nd, by simp, fun y hy z hz e => ?_⟩
    rw [List.mem_singleton] at hz
    rw [hz] at e
    subst e
    have := (b.a _).1 hy
    simp only at this
    rw [old] at this
    cases this
  · rw [List.length_append, b.len]
    have := cnt_set true hA
    simp at this
    show cnt x.A + _ = cnt (x.A.set k true)
    simp
    omega

/-- a slot that was not made is given -/
theorem Book.made {L : Int} {n : Nat} {x : Sl} {had alive : List (Int × Int)} (b : Book L n x had alive) (hm : May L (givenS (makeS x) x.G.length 0)) : Book L n (givenS (makeS x) x.G.length 0) (had ++ [((x.G.length : Int), 0 + 1)]) (alive ++ [((x.G.length : Int), 0 + 1)]) ∧ ((x.G.length : Int), 0 + 1) ∉ had := by
  have eG : (givenS (makeS x) x.G.length 0).G = x.G ++ [1] := set_last _ _ _ _ rfl
  have eA : (givenS (makeS x) x.G.length 0).A = x.A ++ [true] := set_last _ _ _ _ b.m.ag.symm
  have hag := b.m.ag
  have hnot : ((x.G.length : Int), (0 : Int) + 1) ∉ had := fun hin => by
    obtain ⟨k', z, e1, e2, e3⟩ := b.h _ hin
    have e4 : x.G.length = k' := by have e5 : (x.G.length : Int) = (k' : Int) := e1; omega
    have := (List.getElem?_eq_some_iff.1 e2).1
    omega
  have old : ∀ gn, aliveB x (x.G.length : Int) gn = false := fun gn => aliveB_out (fun h => by omega)
  have new : ∀ gn, aliveB (givenS (makeS x) x.G.length 0) (x.G.length : Int) gn = decide ((1 : Int) = gn) := fun gn => by
    rw [aliveB_in (z := 1) (a := true) (by rw [eG]; simp) (by rw [eA, ← hag]; simp)]
    simp
  have other : ∀ s gn, s ≠ (x.G.length : Int) → aliveB (givenS (makeS x) x.G.length 0) s gn = aliveB x s gn := fun s gn hs => by
    by_cases h0 : 0 ≤ s ∧ s < (x.G.length : Int)
    · have h1 : s.toNat < x.G.length := by omega
      unfold aliveB
      rw [if_pos h0, if_pos ⟨h0.1, by rw [eG, List.length_append]; simp; omega⟩, eG, eA, List.getElem?_append_left h1, List.getElem?_append_left (by omega)]
    · rw [aliveB_out h0, aliveB_out (fun h => h0 ⟨h.1, by have := h.2; rw [eG, List.length_append] at this; simp at this; omega⟩)]
  refine ⟨{ m := hm, c := b.c, g := fun i y hy => ?_, w := fun i hi => ?_, h := fun y hy => ?_, a := fun y => ?_, nd := ?_, len := ?_ }, hnot⟩
  · rw [List.length_append]
    rw [eG] at hy
    by_cases hi : i < x.G.length
    · rw [List.getElem?_append_left hi] at hy
      have := b.g i y hy
      simp
      omega
    · have hi2 : i < (x.G ++ [1]).length := (List.getElem?_eq_some_iff.1 hy).1
      have : i = x.G.length := by rw [List.length_append] at hi2; simp at hi2; omega
      subst this
      have : (1 : Int) = y := by simpa using hy
      simp
      omega
  · rw [eA] at hi
    by_cases hi1 : i < x.A.length
    · rw [List.getElem?_append_left hi1] at hi
      exact b.w i hi
    · have hi2 : i < (x.A ++ [true]).length := (List.getElem?_eq_some_iff.1 hi).1
      have : i = x.A.length := by rw [List.length_append] at hi2; simp at hi2; omega
      subst this
      simp at hi
  · rw [List.mem_append, List.mem_singleton] at hy
    rcases hy with hy | rfl
    · obtain ⟨k', z, e1, e2, e3⟩ := b.h y hy
      exact ⟨k', z, e1, by rw [eG, List.getElem?_append_left (List.getElem?_eq_some_iff.1 e2).1]; exact e2, e3⟩
    · exact ⟨x.G.length, 1, rfl, by rw [eG]; simp, by simp⟩
  · rw [List.mem_append, List.mem_singleton]
    obtain ⟨s, gn⟩ := y
    by_cases e : s = (x.G.length : Int)
    · subst e
      rw [new]
      constructor
      · rintro (h | h)
        · have := (b.a _).1 h
          rw [old] at this
          cases this
        · simp only [Prod.mk.injEq, true_and] at h
          simpa using h.symm
      · intro h
        right
        simp only [Prod.mk.injEq, true_and]
        have := of_decide_eq_true h
        omega
    · rw [other s gn e, ← b.a (s, gn)]
      constructor
      · rintro (h | h)
        · exact h
        · simp only [Prod.mk.injEq] at h
          exact absurd h.1 e
      · exact fun h => .inl h
  · rw [List.nodup_append]
    refine ⟨b.nd, by simp, fun y hy z hz e => ?_⟩
    rw [List.mem_singleton] at hz
    rw [hz] at e
    subst e
    have := (b.a _).1 hy
    simp only at this
    rw [old] at this
    cases this
  · rw [List.length_append, b.len, eA, cnt_append]
    simp [cnt]

theorem seek_none {C : List (List Int)} {p : Nat} : ∀ {m i : Nat}, seek C p m i = none → ∀ j, i ≤ j → j < i + m → (C[(p + j) % C.length]?).getD [] = []
  | 0, _, _, j, h1, h2 => by omega
  | m + 1, i, h, j, h1, h2 => by
    unfold seek at h
    split at h
    · rename_i he
      rcases Nat.eq_or_lt_of_le h1 with e | e
      · subst e
        exact he
      · exact seek_none h j (by omega) (by omega)
    · cases h
theorem seek_all {C : List (List Int)} {p : Nat} (hp : C[p]? = some []) (h : seek C p (C.length - 1) 1 = none) : ∀ (q : Nat) c, C[q]? = some c → c = [] := by
  intro q c hq
  have hpl : p < C.length := (List.getElem?_eq_some_iff.1 hp).1
  have hql : q < C.length := (List.getElem?_eq_some_iff.1 hq).1
  by_cases e : q = p
  · subst e
    rw [hp] at hq
    injection hq with hq
    exact hq.symm
  · have key : ∃ j, 1 ≤ j ∧ j < 1 + (C.length - 1) ∧ (p + j) % C.length = q := by
      by_cases hlt : p < q
      · exact ⟨q - p, by omega, by omega, by rw [show p + (q - p) = q by omega]; exact Nat.mod_eq_of_lt hql⟩
      · refine ⟨q + C.length - p, by omega, by omega, ?_⟩
        rw [show p + (q + C.length - p) = q + C.length by omega, Nat.add_mod_right]
        exact Nat.mod_eq_of_lt hql
    obtain ⟨j, h1, h2, h3⟩ := key
    have := seek_none h j h1 h2
    rw [h3, hq] at this
    simpa using this
theorem flat_nil {C : List (List Int)} (h : ∀ (q : Nat) c, C[q]? = some c → c = []) : C.flatten = [] := by
  rw [List.flatten_eq_nil_iff]
  intro l hl
  obtain ⟨k, hk⟩ := List.mem_iff_getElem?.1 hl
  exact h k l hk
/-- where nobody has a slot in a list, all that were made are alive -/
theorem Book.full {L : Int} {n : Nat} {x : Sl} {had alive : List (Int × Int)} (b : Book L n x had alive) (hC : x.C.flatten = []) (hF : x.F = []) : alive.length = x.G.length := by
  rw [b.len, ← b.m.ag]
  refine cnt_all (fun k hk => ?_)
  have := b.w k hk
  unfold fcnt at this
  rw [hC, hF] at this
  simp at this

/-- what Take tells, by the book -/
def Tells (L : Int) (n : Nat) (x : Sl) (had alive : List (Int × Int)) (p : Int) (r : Int × Int × Int) (x' : Sl) : Prop :=
  (¬ HasP x p ∧ r = (0, 0, 1) ∧ x' = x) ∨
  (HasP x p ∧ (alive.length : Int) = L ∧ Book L n x' had alive ∧ (x'.C.flatten = [] ∧ x'.F = []) ∧ r = (0, 0, 2)) ∨
  (∃ s g : Int, HasP x p ∧ (s, g) ∉ had ∧ Book L n x' (had ++ [(s, g)]) (alive ++ [(s, g)]) ∧ r = (s, g, 0))
section
variable {L : Int} {n : Nat} {x : Sl} {had alive : List (Int × Int)} {p : Int}
theorem Tells.bad (hp : ¬ HasP x p) : Tells L n x had alive p (0, 0, 1) x := .inl ⟨hp, rfl, rfl⟩
theorem Tells.full {x' : Sl} (hp : HasP x p) (hl : (alive.length : Int) = L) (b : Book L n x' had alive) (hf : x'.C.flatten = [] ∧ x'.F = []) : Tells L n x had alive p (0, 0, 2) x' := .inr (.inl ⟨hp, hl, b, hf, rfl⟩)
theorem Tells.name {x' : Sl} {s g : Int} (hp : HasP x p) (hn : (s, g) ∉ had) (b : Book L n x' (had ++ [(s, g)]) (alive ++ [(s, g)])) : Tells L n x had alive p (s, g, 0) x' := .inr (.inr ⟨s, g, hp, hn, b, rfl⟩)
theorem Tells.elim {motive : (r : Int × Int × Int) → (x' : Sl) → Tells L n x had alive p r x' → Prop}
    (bad : ∀ (hp : ¬ HasP x p), motive _ _ (Tells.bad hp))
    (full : ∀ {x' : Sl} (hp : HasP x p) (hl : (alive.length : Int) = L) (b : Book L n x' had alive) (hf : x'.C.flatten = [] ∧ x'.F = []), motive _ _ (Tells.full hp hl b hf))
    (name : ∀ {x' : Sl} {s g : Int} (hp : HasP x p) (hn : (s, g) ∉ had) (b : Book L n x' (had ++ [(s, g)]) (alive ++ [(s, g)])), motive _ _ (Tells.name hp hn b)) {r : Int × Int × Int} {x' : Sl} (h : Tells L n x had alive p r x') : motive r x' h := by
  rcases h with ⟨hp, rfl, rfl⟩ | ⟨hp, hl, b, hf, rfl⟩ | ⟨s, g, hp, hn, b, rfl⟩
  · exact bad hp
  · exact full hp hl b hf
  · exact name hp hn b
end

theorem refill_nil {x : Sl} {p : Nat} {c : List Int} (hc : x.C[p]? = some c) (h : (refillS x p c).C[p]? = some []) : (refillS x p c).F = [] := by
  have hp : p < x.C.length := (List.getElem?_eq_some_iff.1 hc).1
  unfold refillS at h ⊢
  split at h
  · rename_i e
    rw [if_pos e]
    have h1 : (x.C.set p (x.F.take (min 16 x.F.length)))[p]? = some [] := h
    rw [List.getElem?_set_self hp] at h1
    injection h1 with h1
    have h2 := congrArg List.length h1
    rw [List.length_take, List.length_nil] at h2
    have h3 : x.F = [] := List.eq_nil_of_length_eq_zero (by omega)
    show x.F.drop _ = []
    rw [h3, List.drop_nil]
  · rename_i e
    rw [hc] at h
    injection h with h
    exact absurd h e
theorem tells_of {L : Int} {n : Nat} {x x' : Sl} {had alive : List (Int × Int)} {p : Int} {r : Int × Int × Int} (b : Book L n x had alive) (h : TakeR L x p r x') : Tells L n x had alive p r x' := by
  have hm' := h.may b.m
  rcases h with ⟨hp, rfl, rfl⟩ | ⟨k, c, r, x1, rfl, hc, hf, rfl, rfl⟩
  · exact Tells.bad hp
  · have hp : HasP x (k : Int) := ⟨by omega, by have := (List.getElem?_eq_some_iff.1 hc).1; omega⟩
    have b1 := b.refill hc
    generalize hy : refillS x k c = y at hf b1
    cases hf using Freed.elim with
    | @own c0 z hc0 =>
      have hcnt : ∀ s, (y.C.set k ((c0 ++ [z]).take c0.length ++ (c0 ++ [z]).drop (c0.length + 1))).flatten.count s + y.F.count s + (if s = z then 1 else 0) = fcnt y s := fun s => by
        have h1 := flat_set (c' := (c0 ++ [z]).take c0.length ++ (c0 ++ [z]).drop (c0.length + 1)) hc0 s
        have h2 := cut_count (k := c0.length) (c0 ++ [z]) z s (by simp)
        unfold fcnt
        omega
      obtain ⟨i, rfl, hA, g, hG, _⟩ := b1.m.fr z (by rw [← hcnt z, if_pos rfl]; omega)
      have hG1 : (uncacheS y k c0.length (c0 ++ [(i : Int)])).G[i]? = some g := hG
      rw [tookV_snd hG1] at hm' ⊢
      rw [tookN_some hG1]
      obtain ⟨b2, hn⟩ := b1.pop (C := y.C.set k ((c0 ++ [(i : Int)]).take c0.length ++ (c0 ++ [(i : Int)]).drop (c0.length + 1))) hm' (by simp) hG hA hcnt
      exact Tells.name hp hn b2
    | made hc0 hl =>
      have hG1 : (makeS y).G[y.G.length]? = some 0 := by simp [makeS]
      rw [tookV_snd hG1] at hm' ⊢
      rw [tookN_some hG1]
      obtain ⟨b2, hn⟩ := b1.made hm'
      exact Tells.name hp hn b2
    | @found q z c0 hc0 hl hq hz =>
      have hcnt : ∀ s, (y.C.set q ((z :: c0).take 0 ++ (z :: c0).drop (0 + 1))).flatten.count s + y.F.count s + (if s = z then 1 else 0) = fcnt y s := fun s => by
        have h1 := flat_set (c' := (z :: c0).take 0 ++ (z :: c0).drop (0 + 1)) hz s
        have h2 := cut_count (k := 0) (z :: c0) z s (by simp)
        unfold fcnt
        omega
      obtain ⟨i, rfl, hA, g, hG, _⟩ := b1.m.fr z (by rw [← hcnt z, if_pos rfl]; omega)
      have hG1 : (uncacheS y q 0 ((i : Int) :: c0)).G[i]? = some g := hG
      rw [tookV_snd hG1] at hm' ⊢
      rw [tookN_some hG1]
      obtain ⟨b2, hn⟩ := b1.pop (C := y.C.set q (((i : Int) :: c0).take 0 ++ ((i : Int) :: c0).drop (0 + 1))) hm' (by simp) hG hA hcnt
      exact Tells.name hp hn b2
    | none hc0 hl hq =>
      have hF := refill_nil hc (by rw [hy]; exact hc0)
      rw [hy] at hF
      have hC := flat_nil (seek_all hc0 hq)
      have := b1.full hC hF
      have := b1.m.gl
      exact Tells.full hp (by omega) b1 ⟨hC, hF⟩

/-- a list without one of its places, the last one put there -/
def outL {α : Type} (l : List α) (i : Nat) (z : α) : List α := (l.set i z).take (l.length - 1)
theorem set_perm {α : Type} : ∀ (l : List α) (i : Nat) (z : α), i < l.length → (l.set i z).Perm (z :: l.eraseIdx i)
  | [], i, z, h => by simp at h
  | y :: l, 0, z, _ => by simp
  | y :: l, i + 1, z, h => by
    simp only [List.set_cons_succ, List.eraseIdx_cons_succ]
    exact ((set_perm l i z (by simpa using h)).cons y).trans (List.Perm.swap z y _)
theorem outL_perm {α : Type} {l : List α} {i : Nat} {z : α} (hi : i < l.length) (hz : l[l.length - 1]? = some z) : (outL l i z).Perm (l.eraseIdx i) := by
  obtain ⟨l', e⟩ : ∃ l', l = l' ++ [z] := by
    have hne : l ≠ [] := fun e => by subst e; simp at hi
    refine ⟨l.dropLast, ?_⟩
    have h1 := List.dropLast_concat_getLast hne
    have h2 : l.getLast hne = z := by
      have h3 := List.getLast?_eq_some_getLast hne
      rw [List.getLast?_eq_getElem?, hz] at h3
      injection h3 with h3
      exact h3.symm
    rw [h2] at h1
    exact h1.symm
  subst e
  unfold outL
  have hlen : (l' ++ [z]).length - 1 = l'.length := by simp
  rw [hlen]
  by_cases h : i < l'.length
  · rw [List.set_append_left _ _ h, List.eraseIdx_append_of_lt_length h, List.take_append_of_le_length (by simp), List.take_of_length_le (by simp)]
    exact (set_perm l' i z h).trans (List.perm_append_singleton z _).symm
  · have e : i = l'.length := by simp at hi; omega
    subst e
    rw [set_last _ _ _ _ rfl, List.take_left, List.eraseIdx_append_of_length_le (Nat.le_refl _)]
    simp
theorem erase_mem {α : Type} {l : List α} {i : Nat} {y z : α} (hn : l.Nodup) (hi : l[i]? = some y) : z ∈ l.eraseIdx i ↔ z ∈ l ∧ z ≠ y := by
  have hlt := (List.getElem?_eq_some_iff.1 hi).1
  have e : l = l.take i ++ y :: l.drop (i + 1) := by
    have h1 : l.drop i = y :: l.drop (i + 1) := by
      rw [List.drop_eq_getElem_cons hlt]
      congr 1
      exact (List.getElem?_eq_some_iff.1 hi).2
    rw [← h1, List.take_append_drop]
  rw [List.eraseIdx_eq_take_drop_succ]
  rw [e, List.nodup_append] at hn
  obtain ⟨h1, h2, h3⟩ := hn
  rw [List.nodup_cons] at h2
  conv => rhs; rw [e]
  simp only [List.mem_append, List.mem_cons]
  constructor
  · rintro (h | h)
    · exact ⟨.inl h, fun e => h3 z h y (by simp) e⟩
    · exact ⟨.inr (.inr h), fun e => by subst e; exact h2.1 h⟩
  · rintro ⟨h | h | h, hne⟩
    · exact .inl h
    · exact absurd h hne
    · exact .inr h

theorem give_count {x : Sl} {p k : Nat} {gn : Int} {c : List Int} (hc : x.C[p]? = some c) (hg : gn < 2147483647) (s : Int) : fcnt (giveS x p k gn c) s = fcnt x s + (if s = (k : Int) then 1 else 0) := by
  have hone : [(k : Int)].count s = if s = (k : Int) then 1 else 0 := by
    by_cases e : s = (k : Int)
    · rw [if_pos e, e]
      simp
    · have e' : ¬ ((k : Int) = s) := fun e2 => e e2.symm
      rw [if_neg e]
      simp [e']
  unfold giveS
  rw [if_pos hg]
  unfold cacheS
  have h3 := List.count_append (a := s) (l₁ := c) (l₂ := [(k : Int)])
  split
  · show ((x.C.set p (c ++ [(k : Int)])).set p ((c ++ [(k : Int)]).drop 32)).flatten.count s + (x.F ++ (c ++ [(k : Int)]).take 32).count s = x.C.flatten.count s + x.F.count s + _
    rw [List.set_set]
    have h1 := flat_set (c' := (c ++ [(k : Int)]).drop 32) hc s
    have h2 : ((c ++ [(k : Int)]).take 32).count s + ((c ++ [(k : Int)]).drop 32).count s = (c ++ [(k : Int)]).count s := by rw [← List.count_append, List.take_append_drop]
    rw [List.count_append]
    omega
  · show (x.C.set p (c ++ [(k : Int)])).flatten.count s + x.F.count s = x.C.flatten.count s + x.F.count s + _
    have h1 := flat_set (c' := c ++ [(k : Int)]) hc s
    omega
theorem give_G (x : Sl) (p k : Nat) (gn : Int) (c : List Int) : (giveS x p k gn c).G = x.G := by
  unfold giveS cacheS
  split
  · split <;> rfl
  · rfl
theorem give_A (x : Sl) (p k : Nat) (gn : Int) (c : List Int) : (giveS x p k gn c).A = x.A.set k false := by
  unfold giveS cacheS
  split
  · split <;> rfl
  · rfl
theorem give_Cl (x : Sl) (p k : Nat) (gn : Int) (c : List Int) : (giveS x p k gn c).C.length = x.C.length := by
  unfold giveS cacheS
  split
  · split
    · show ((x.C.set p _).set p _).length = _
      rw [List.length_set, List.length_set]
    · show (x.C.set p _).length = _
      rw [List.length_set]
  · rfl
/-- a name is given back -/
theorem Book.give {L : Int} {n : Nat} {x : Sl} {had alive : List (Int × Int)} (b : Book L n x had alive) {p k i : Nat} {gn : Int} {c : List Int} {z : Int × Int} (hc : x.C[p]? = some c) (hG : x.G[k]? = some gn) (hA : x.A[k]? = some true) (hi : alive[i]? = some ((k : Int), gn)) (hz : alive[alive.length - 1]? = some z) (hh : had.length < 2147483647) :
    Book L n (giveS x p k gn c) had (outL alive i z) := by
  have hkA : k < x.A.length := (List.getElem?_eq_some_iff.1 hA).1
  have hil : i < alive.length := (List.getElem?_eq_some_iff.1 hi).1
  have hg : gn < 2147483647 := by have := b.g k gn hG; omega
  have hper := outL_perm hil hz
  have eA : (giveS x p k gn c).A[k]? = some false := by rw [give_A, List.getElem?_set_self hkA]
  have oA : ∀ j, j ≠ k → (giveS x p k gn c).A[j]? = x.A[j]? := fun j hj => by rw [give_A, List.getElem?_set_ne (fun e => hj e.symm)]
  refine { m := b.m.give hc hG hA, c := (give_Cl ..).trans b.c, g := fun j y hy => ?_, w := fun j hj => ?_, h := fun y hy => ?_, a := fun y => ?_, nd := ?_, len := ?_ }
  · rw [give_G] at hy
    exact b.g j y hy
  · rw [give_count hc hg]
    by_cases e : j = k
    · subst e
      rw [if_pos rfl, b.m.alone hA]
    · rw [oA j e] at hj
      rw [if_neg (by omega), b.w j hj]
  · rw [give_G]
    exact b.h y hy
  · rw [hper.mem_iff, erase_mem b.nd hi]
    obtain ⟨s, g'⟩ := y
    rw [b.a (s, g')]
    by_cases e : s = (k : Int)
    · subst e
      simp only
      rw [aliveB_in hG hA, aliveB_in (by rw [give_G]; exact hG) eA]
      simp only [Bool.true_and, decide_eq_true_eq, Bool.false_and, Bool.false_eq_true, iff_false, ne_eq, Prod.mk.injEq, true_and, not_and, Classical.not_not]
      exact fun h => h.symm
    · simp only [ne_eq, Prod.mk.injEq, e, false_and, not_false_eq_true, and_true]
      by_cases h0 : 0 ≤ s
      · rw [alive_other (x := x) (y := giveS x p k gn c) (by rw [give_G]) (oA _ (by omega)) (by rw [give_G])]
      · rw [aliveB_out (fun h => h0 h.1), aliveB_out (fun h => h0 h.1)]
  · rw [hper.nodup_iff]
    exact b.nd.sublist (List.eraseIdx_sublist _ _)
  · rw [hper.length_eq, List.length_eraseIdx_of_lt hil, b.len, give_A]
    have := cnt_set false hA
    simp at this
    omega

/-- a list of slots that are all missing, each once -/
theorem strike_ok : ∀ (l : List Int) (M : List Bool), (∀ s, l.count s ≤ 1) → (∀ s ∈ l, ∃ k : Nat, s = (k : Int) ∧ M[k]? = some true) → ∃ M', strikeL M l = some M' ∧ ∀ k : Nat, M'[k]? = (M[k]?).map (fun b => b && decide (l.count (k : Int) = 0))
  | [], M, _, _ => ⟨M, rfl, fun k => by simp⟩
  | s :: l, M, h1, h2 => by
    obtain ⟨k0, rfl, hk⟩ := h2 s (List.mem_cons_self ..)
    have hlt : k0 < M.length := (List.getElem?_eq_some_iff.1 hk).1
    have hc0 : l.count (k0 : Int) = 0 := by
      have := h1 (k0 : Int)
      rw [List.count_cons_self] at this
      omega
    obtain ⟨M', e1, e2⟩ := strike_ok l (M.set k0 false) (fun s => Nat.le_trans (by rw [List.count_cons]; omega) (h1 s)) (fun s hs => by
      obtain ⟨k, rfl, hk'⟩ := h2 s (List.mem_cons_of_mem _ hs)
      refine ⟨k, rfl, ?_⟩
      rw [List.getElem?_set_ne (fun e => by subst e; have := List.count_pos_iff.2 hs; omega)]
      exact hk')
    refine ⟨M', ?_, fun k => ?_⟩
    · unfold strikeL
      rw [if_pos ⟨by omega, by rw [Int.toNat_natCast]; exact hk⟩, Int.toNat_natCast]
      exact e1
    · rw [e2]
      by_cases e : k0 = k
      · subst e
        rw [List.getElem?_set_self hlt, hk]
        simp
      · rw [List.getElem?_set_ne e, List.count_cons_of_ne (fun h => e (by omega))]
theorem caches_ok : ∀ (C : List (List Int)) (M : List Bool), (∀ c ∈ C, c.length < 64) → (∀ s, C.flatten.count s ≤ 1) → (∀ s ∈ C.flatten, ∃ k : Nat, s = (k : Int) ∧ M[k]? = some true) → ∃ M', cachesL M C = some M' ∧ ∀ k : Nat, M'[k]? = (M[k]?).map (fun b => b && decide (C.flatten.count (k : Int) = 0))
  | [], M, _, _, _ => ⟨M, rfl, fun k => by simp⟩
  | c :: C, M, h0, h1, h2 => by
    have hcnt : ∀ s, (c :: C).flatten.count s = c.count s + C.flatten.count s := fun s => by rw [List.flatten_cons, List.count_append]
    obtain ⟨M1, e1, e2⟩ := strike_ok c M (fun s => by have := h1 s; rw [hcnt] at this; omega) (fun s hs => h2 s (by rw [List.flatten_cons]; exact List.mem_append_left _ hs))
    obtain ⟨M2, e3, e4⟩ := caches_ok C M1 (fun d hd => h0 d (List.mem_cons_of_mem _ hd)) (fun s => by have := h1 s; rw [hcnt] at this; omega) (fun s hs => by
      obtain ⟨k, rfl, hk⟩ := h2 s (by rw [List.flatten_cons]; exact List.mem_append_right _ hs)
      refine ⟨k, rfl, ?_⟩
      have hz : c.count (k : Int) = 0 := by
        have a1 := h1 (k : Int)
        have a2 := List.count_pos_iff.2 hs
        rw [hcnt] at a1
        omega
      rw [e2, hk]
      simp [hz])
    refine ⟨M2, ?_, fun k => ?_⟩
    · unfold cachesL
      rw [if_neg (by have := h0 c (List.mem_cons_self ..); omega), e1]
      exact e3
    · rw [e4, e2, hcnt]
      cases M[k]? with
      | none => rfl
      | some b =>
        simp only [Option.map_some, Option.some.injEq]
        by_cases z1 : c.count (k : Int) = 0 <;> by_cases z2 : C.flatten.count (k : Int) = 0 <;> cases b <;> simp [z1, z2]
/-- what the document's Load says of it -/
theorem Book.load {L : Int} {n : Nat} {x : Sl} {had alive : List (Int × Int)} (b : Book L n x had alive) (hh : had.length < 2147483647) : (slotsB L x && listsB x) = true := by
  have hs : slotsB L x = true := by
    unfold slotsB
    simp only [Bool.and_eq_true, decide_eq_true_eq, Bool.not_eq_true', List.any_eq_false]
    refine ⟨b.m.gl, b.m.ag, fun g hg => ?_⟩
    obtain ⟨k, hk⟩ := List.mem_iff_getElem?.1 hg
    have := b.m.gen k g hk
    unfold badG
    simp
    omega
  have free : ∀ k : Nat, (freeL x)[k]? = (x.A[k]?).map (fun a => !a) := fun k => by
    rcases Nat.lt_or_ge k x.G.length with h | h
    · have hG : x.G[k]? = some x.G[k] := List.getElem?_eq_getElem h
      have h' : k < x.A.length := by rw [b.m.ag]; exact h
      have hA : x.A[k]? = some x.A[k] := List.getElem?_eq_getElem h'
      rw [freeL_get hG hA, hA]
      have := b.g k _ hG
      simp
      intro _
      omega
    · have h' : x.A.length ≤ k := by rw [b.m.ag]; exact h
      rw [List.getElem?_eq_none h', List.getElem?_eq_none (by unfold freeL; rw [List.length_zipWith]; omega)]
      rfl
  have isf : ∀ s, 0 < fcnt x s → ∃ k : Nat, s = (k : Int) ∧ (freeL x)[k]? = some true := fun s hs => by
    obtain ⟨k, e, hA, _⟩ := b.m.fr s hs
    exact ⟨k, e, by rw [free, hA]; rfl⟩
  obtain ⟨M, e1, e2⟩ := caches_ok x.C (freeL x) (fun c hc => by
      obtain ⟨k, hk⟩ := List.mem_iff_getElem?.1 hc
      exact b.m.cl k c hk) (fun s => by have := b.m.nd s; unfold fcnt at this; omega) (fun s hs => isf s (by have := List.count_pos_iff.2 hs; unfold fcnt; omega))
  obtain ⟨M', e3, e4⟩ := strike_ok x.F M (fun s => by have := b.m.nd s; unfold fcnt at this; omega) (fun s hs => by
      have hp := List.count_pos_iff.2 hs
      obtain ⟨k, rfl, hk⟩ := isf s (by unfold fcnt; omega)
      refine ⟨k, rfl, ?_⟩
      have hz : x.C.flatten.count (k : Int) = 0 := by have := b.m.nd (k : Int); unfold fcnt at this; omega
      rw [e2, hk]
      simp [hz])
  have hnone : M'.any id = false := by
    rw [List.any_eq_false]
    intro y hy
    obtain ⟨k, hk⟩ := List.mem_iff_getElem?.1 hy
    rw [e4, e2, free] at hk
    cases hA : x.A[k]? with
    | none => rw [hA] at hk; cases hk
    | some a =>
      rw [hA] at hk
      simp only [Option.map_some, Option.some.injEq] at hk
      cases a with
      | true => simp at hk; simp [hk]
      | false =>
        have := b.w k hA
        unfold fcnt at this
        rw [← hk]
        simp
        omega
  unfold listsB
  rw [hs, e1]
  simp only [Option.bind_some, e3, Option.map_some, Option.getD_some, hnone]
  rfl
/-- behind Flush of the first j Ps -/
structure Flushed (L : Int) (n : Nat) (x : Sl) (had alive : List (Int × Int)) (j : Nat) (y : Sl) : Prop where
  b : Book L n y had alive
  lo : ∀ i : Nat, i < j → y.C[i]? = some []
  hi : ∀ i : Nat, j ≤ i → y.C[i]? = x.C[i]?
  fl : y.F.length = x.F.length + ((x.C.take j).map List.length).sum
theorem Flushed.start {L : Int} {n : Nat} {x : Sl} {had alive : List (Int × Int)} (b : Book L n x had alive) : Flushed L n x had alive 0 x := ⟨b, fun i h => by omega, fun _ _ => rfl, by simp⟩
theorem sum_next {C : List (List Int)} {j : Nat} {c : List Int} (h : C[j]? = some c) : ((C.take (j + 1)).map List.length).sum = ((C.take j).map List.length).sum + c.length := by
  rw [List.take_add_one, h]
  simp
theorem Flushed.next {L : Int} {n : Nat} {x y : Sl} {had alive : List (Int × Int)} {j : Nat} {c : List Int} (h : Flushed L n x had alive j y) (hc : x.C[j]? = some c) : y.C[j]? = some c ∧ Flushed L n x had alive (j + 1) (flushS y j c) := by
  have hy : y.C[j]? = some c := (h.hi j (Nat.le_refl _)).trans hc
  have hl : j < y.C.length := (List.getElem?_eq_some_iff.1 hy).1
  refine ⟨hy, h.b.flush hy, fun i hi => ?_, fun i hi => ?_, ?_⟩
  · show (y.C.set j [])[i]? = some []
    by_cases e : i = j
    · subst e
      rw [List.getElem?_set_self hl]
    · rw [List.getElem?_set_ne (fun e' => e e'.symm)]
      exact h.lo i (by omega)
  · show (y.C.set j [])[i]? = _
    rw [List.getElem?_set_ne (by omega)]
    exact h.hi i (by omega)
  · show (y.F ++ c).length = _
    rw [List.length_append, h.fl, sum_next hc]
    omega

/-- the last name, given back, is had by any P -/
theorem again_take {L : Int} {n : Nat} {x x' : Sl} {had alive : List (Int × Int)} (b : Book L n x had alive) (hC : x.C.flatten = []) (hF : x.F = []) (hl : (alive.length : Int) = L) {p k : Nat} {gn q : Int} {r : Int × Int × Int} (hp : x.C[p]? = some []) (hG : x.G[k]? = some gn) (hg : gn < 2147483647) (hq : HasP x q) (h : TakeR L (giveS x p k gn []) q r x') : r = ((k : Int), gn + 1, 0) := by
  have hGl : (x.G.length : Int) = L := by have := b.full hC hF; omega
  have hnil : ∀ (i : Nat) c, x.C[i]? = some c → c = [] := fun i c hc => by
    rw [List.flatten_eq_nil_iff] at hC
    exact hC c (List.mem_of_getElem? hc)
  have hpl : p < x.C.length := (List.getElem?_eq_some_iff.1 hp).1
  have ey : giveS x p k gn [] = { x with A := x.A.set k false, C := x.C.set p [(k : Int)] } := by
    unfold giveS cacheS
    rw [if_pos hg, if_neg (by simp)]
    rfl
  rw [ey] at h
  generalize hy : ({ x with A := x.A.set k false, C := x.C.set p [(k : Int)] } : Sl) = y at h
  have yG : y.G = x.G := by rw [← hy]
  have yF : y.F = [] := by rw [← hy]; exact hF
  have yC : y.C = x.C.set p [(k : Int)] := by rw [← hy]
  have yp : y.C[p]? = some [(k : Int)] := by rw [yC, List.getElem?_set_self hpl]
  have yo : ∀ (i : Nat) c, i ≠ p → y.C[i]? = some c → c = [] := fun i c hi hc => by
    rw [yC, List.getElem?_set_ne (fun e => hi e.symm)] at hc
    exact hnil i c hc
  have hyG : y.G[k]? = some gn := by rw [yG]; exact hG
  rcases h with ⟨hn, _⟩ | ⟨m, c, r, x1, rfl, hc, hf, rfl, _⟩
  · exact absurd (show HasP y q from ⟨hq.1, by rw [yC, List.length_set]; exact hq.2⟩) hn
  · by_cases e : m = p
    · subst e
      rw [yp] at hc
      injection hc with hc
      subst hc
      have er : refillS y m [(k : Int)] = y := if_neg (by simp)
      rw [er] at hf
      cases hf using Freed.elim with
      | @own c0 z hc0 =>
        rw [yp] at hc0
        injection hc0 with hc0
        cases c0 with
        | nil =>
          simp only [List.nil_append, List.cons.injEq, and_true] at hc0
          subst hc0
          exact tookN_some hyG
        | cons a c0 =>
          have := congrArg List.length hc0
          simp at this
      | made hc0 _ => rw [yp] at hc0; cases hc0
      | found hc0 _ _ _ => rw [yp] at hc0; cases hc0
      | none hc0 _ _ => rw [yp] at hc0; cases hc0
    · have hc' := yo m c e hc
      subst hc'
      have er : refillS y m [] = y := by
        unfold refillS fillS
        rw [if_pos rfl, yF]
        have e1 : y.C.set m [] = y.C := by
          apply List.ext_getElem?
          intro i
          by_cases hi : i = m
          · subst hi
            rw [List.getElem?_set_self (List.getElem?_eq_some_iff.1 hc).1, hc]
          · rw [List.getElem?_set_ne (fun e => hi e.symm)]
        simp only [List.take_nil, List.drop_nil, e1]
        rw [← yF]
      rw [er] at hf
      cases hf using Freed.elim with
      | @own c0 z hc0 =>
        rw [hc] at hc0
        injection hc0 with hc0
        have := congrArg List.length hc0
        simp at this
      | made _ hl0 =>
        rw [yG] at hl0
        omega
      | @found q z c0 _ _ _ hz =>
        by_cases e2 : q = p
        · subst e2
          rw [yp] at hz
          injection hz with hz
          injection hz with hz _
          subst hz
          exact tookN_some hyG
        · have := yo q _ e2 hz
          cases this
      | none hc0 _ hq0 =>
        have := seek_all hc0 hq0 p _ yp
        cases this
end Go.Proofs.Ytfbkifkfhgkdbab.Sb
