/-
  The words in which the walks speak of a list whose elements have some cells each: what reads as one, what a call owns, what append leaves. No conditions.
-/
import Derived.Test.YtnpbehcfbceclaaGnWorld
import Derived.Deep.LoopGhost
import Derived.Laws.AppendOwnNone
import Derived.Laws.OwnMore
import Derived.Maps.AppendAt
import Derived.Deep.RegionHeld3
namespace Go.Proofs.Ytnpbehcfbceclaa.Lt
open Go.RowKit Wd

section
variable {α : Type} {enc : α → List Value} {K : Nat}
theorem flat_len (hK : ∀ x, (enc x).length = K) (xs : List α) : (xs.flatMap enc).length = xs.length * K := by
  induction xs with
  | nil => simp
  | cons x xs ih => rw [List.flatMap_cons, List.length_append, ih, hK, List.length_cons, Nat.add_mul, Nat.one_mul, Nat.add_comm]
theorem flat_get (hK : ∀ x, (enc x).length = K) : ∀ (xs : List α) (i j : Nat) (a : α) (x : Value), xs[i]? = some a → (enc a)[j]? = some x → (xs.flatMap enc)[i * K + j]? = some x := by
  intro xs
  induction xs with
  | nil => intro i j a x h; simp at h
  | cons y ys ih =>
    intro i j a x h hx
    have hj : j < K := by rw [← hK a]; exact (List.getElem?_eq_some_iff.1 hx).1
    cases i with
    | zero =>
      simp only [List.getElem?_cons_zero, Option.some.injEq] at h
      subst h
      rw [List.flatMap_cons, Nat.zero_mul, Nat.zero_add, List.getElem?_append_left (by rw [hK]; exact hj)]
      exact hx
    | succ i =>
      rw [List.getElem?_cons_succ] at h
      have e : (i + 1) * K + j = K + (i * K + j) := by rw [Nat.add_mul]; omega
      rw [List.flatMap_cons, e, List.getElem?_append_right (by rw [hK]; omega), hK, show K + (i * K + j) - K = i * K + j by omega]
      exact ih i j a x h hx
end

/-- a slice value that reads as a list; where it is not empty its cells lie in a block of which P holds -/
def Ls {α : Type} (enc : α → List Value) (P : Nat → Prop) (w : World) (v : Value) (xs : List α) : Prop :=
  ∃ ao cap, v = .slice ao xs.length cap ∧ (xs.length ≤ cap ∧ (ao = none → cap = 0)) ∧ (xs = [] ∨ ∃ g o, ao = some ⟨g, o, none⟩ ∧ P g ∧ g < w.heap.size ∧
    ∀ j x, (xs.flatMap enc)[j]? = some x → w.cell? ⟨g, o + j, none⟩ = some x)

theorem add_none (g o j : Nat) : (⟨g, o, none⟩ : Addr).add j = ⟨g, o + j, none⟩ := by unfold Addr.add; split <;> simp_all

section
variable {α : Type} {enc : α → List Value} {K : Nat} {P Q S : Nat → Prop} {w w' : World} {v : Value} {xs : List α}
theorem Ls.nil (enc : α → List Value) (P : Nat → Prop) (w : World) : Ls enc P w (.slice none 0 0) [] := ⟨none, 0, rfl, ⟨Nat.le_refl _, fun _ => rfl⟩, .inl rfl⟩
theorem Ls.mono (h : Ls enc P w v xs) (hq : ∀ g, g < w.heap.size → P g → Q g) : Ls enc Q w v xs := by
  obtain ⟨ao, cap, e, hc, h⟩ := h
  refine ⟨ao, cap, e, hc, h.imp id ?_⟩
  rintro ⟨g, o, h1, h2, h3, h4⟩
  exact ⟨g, o, h1, hq g h3 h2, h3, h4⟩
theorem Ls.ch (h : Ls enc P w v xs) (k : Ch S w w') (hs : ∀ g, g < w.heap.size → P g → ¬ S g) : Ls enc P w' v xs := by
  obtain ⟨ao, cap, e, hc, h⟩ := h
  refine ⟨ao, cap, e, hc, h.imp id ?_⟩
  rintro ⟨g, o, h1, h2, h3, h4⟩
  refine ⟨g, o, h1, h2, Nat.lt_of_lt_of_le h3 k.size, fun i x hx => ?_⟩
  rw [k.cell h3 (hs g h3 h2)]
  exact h4 i x hx
theorem Ls.gr (h : Ls enc P w v xs) (k : Gr w w') : Ls enc P w' v xs := h.ch k (fun _ _ _ => noB _)
theorem Ls.drew (h : Ls enc P w v xs) : Ls enc P w.drew v xs := h
theorem Ls.drewN (h : Ls enc P w v xs) (n : Nat) : Ls enc P (w.drewN n) v xs := h
theorem Ls.alloc (h : Ls enc P w v xs) (o : Obj) : Ls enc P (w.alloc o) v xs := h.ch (S := NoB) ((Ch.refl _ _).alloc _) (fun _ _ _ x => x)
/-- the value of a list's slice -/
theorem Ls.form (h : Ls enc P w v xs) : ∃ ao cap, v = .slice ao xs.length cap := by
  obtain ⟨ao, cap, e, _⟩ := h
  exact ⟨ao, cap, e⟩
theorem Ls.len {m cap : Nat} {ao : Option Addr} (h : Ls enc P w (.slice ao m cap) xs) : m = xs.length ∧ m ≤ cap ∧ (ao = none → cap = 0) := by
  obtain ⟨ao', cap', e, hc, _⟩ := h
  injection e with a1 a2 a3
  subst a1 a3
  exact ⟨a2, by omega, hc.2⟩
/-- an element's cells -/
theorem Ls.get (hK : ∀ x, (enc x).length = K) (h : Ls enc P w v xs) {i : Nat} {a : α} (ha : xs[i]? = some a) : ∃ g o cap, v = .slice (some ⟨g, o, none⟩) xs.length cap ∧ P g ∧ g < w.heap.size ∧ xs.length ≤ cap ∧ ∀ j x, (enc a)[j]? = some x → w.cell? ⟨g, o + i * K + j, none⟩ = some x := by
  obtain ⟨ao, cap, e, hc, h⟩ := h
  rcases h with rfl | ⟨g, o, h1, h2, h3, h4⟩
  · simp at ha
  · refine ⟨g, o, cap, by rw [e, h1], h2, h3, hc.1, fun j x hx => ?_⟩
    have := h4 (i * K + j) x (flat_get hK xs i j a x ha hx)
    rwa [← Nat.add_assoc] at this
/-- all elements' cells, where there is one -/
theorem Ls.at (hK : ∀ x, (enc x).length = K) (h : Ls enc P w v xs) (hp : 0 < xs.length) : ∃ g o cap, v = .slice (some ⟨g, o, none⟩) xs.length cap ∧ P g ∧ g < w.heap.size ∧ xs.length ≤ cap ∧ ∀ i a, xs[i]? = some a → ∀ j x, (enc a)[j]? = some x → w.cell? ⟨g, o + i * K + j, none⟩ = some x := by
  obtain ⟨ao, cap, e, hc, h⟩ := h
  rcases h with rfl | ⟨g, o, h1, h2, h3, h4⟩
  · simp at hp
  · refine ⟨g, o, cap, by rw [e, h1], h2, h3, hc.1, fun i a ha j x hx => ?_⟩
    have := h4 (i * K + j) x (flat_get hK xs i j a x ha hx)
    rwa [← Nat.add_assoc] at this
/-- the cells of a list, at its address -/
theorem Ls.news {a : Addr} {cap n : Nat} (h : Ls enc P w (.slice (some a) n cap) xs) : ∀ j u, (xs.flatMap enc)[j]? = some u → w.cell? (a.add j) = some u := by
  intro j u hu
  obtain ⟨ao, cap', e, _, h⟩ := h
  injection e with e1 e2 e3
  rcases h with rfl | ⟨g, o, h1, h2, h3, h4⟩
  · simp at hu
  · rw [← e1] at h1
    injection h1 with h1
    subst h1
    rw [add_none]
    exact h4 j u hu
end

/-- a slice value of elements of type e that the call owns reads as a list; its block is none below base -/
def Ow {α : Type} (enc : α → List Value) (K e base : Nat) (w : World) (v : Value) (xs : List α) : Prop := w.ownsRow base e K v xs.length (xs.flatMap enc)
/-- the block of a value -/
def Blk (v : Value) : Nat → Prop := fun q => v.ownBlock = some q
theorem Blk.len {ao : Option Addr} {n cap q : Nat} (h : Blk (.slice ao n cap) q) (m : Nat) : Blk (.slice ao m cap) q := by
  cases ao
  · cases h
  · exact h

section
variable {α : Type} {enc : α → List Value} {K e base : Nat} {S : Nat → Prop} {w w' : World} {v : Value} {xs : List α}
theorem Ow.nil (enc : α → List Value) (K e base : Nat) (w : World) : Ow enc K e base w (.slice none 0 0) [] := World.ownsRow_nil _ _ _ _
theorem own_form {n : Nat} {us : List Value} (h : w.ownsRow base e K v n us) : ∃ ao cap, v = .slice ao n cap := by
  rcases h.2 with ⟨rfl, rfl⟩ | ⟨g, cap, cur, rfl, _⟩
  · exact ⟨none, 0, rfl⟩
  · exact ⟨_, cap, rfl⟩
theorem Ow.form (h : Ow enc K e base w v xs) : ∃ ao cap, v = .slice ao xs.length cap := own_form h
theorem Ow.lst (h : Ow enc K e base w v xs) : Ls enc (base ≤ ·) w v xs := by
  rcases h.2 with ⟨rfl, h0⟩ | ⟨g, cap, cur, rfl, hb, hg, hc, _, hs, ht⟩
  · have : xs = [] := List.eq_nil_of_length_eq_zero h0
    subst this
    exact Ls.nil _ _ _
  · refine ⟨some ⟨g, 0, none⟩, cap, rfl, ⟨hc, fun h => by cases h⟩, .inr ⟨g, 0, rfl, hb, lt_of_block hg, fun i x hx => ?_⟩⟩
    have hi : i < (xs.flatMap enc).length := (List.getElem?_eq_some_iff.1 hx).1
    rw [h.1] at hi
    have k0 := hx
    rw [← ht, List.getElem?_take_of_lt hi, Array.getElem?_toList] at k0
    rw [Nat.zero_add]
    exact (cell_of hg _).trans k0
theorem Ow.blk (h : Ow enc K e base w v xs) {q : Nat} (hq : Blk v q) : base ≤ q ∧ q < w.heap.size := World.ownsRow.lt h q hq
theorem Ow.ch (h : Ow enc K e base w v xs) (k : Ch S w w') (hs : ∀ g, Blk v g → ¬ S g) : Ow enc K e base w' v xs := by
  refine ⟨h.1, ?_⟩
  rcases h.2 with h2 | ⟨g, cap, cur, hv, hb, hg, r⟩
  · exact .inl h2
  · exact .inr ⟨g, cap, cur, hv, hb, (k.block g (lt_of_block hg) (hs g (by rw [hv]; rfl))).trans hg, r⟩
theorem Ow.gr (h : Ow enc K e base w v xs) (k : Gr w w') : Ow enc K e base w' v xs := h.ch k (fun _ _ => noB _)
theorem Ow.alloc (h : Ow enc K e base w v xs) (o : Obj) : Ow enc K e base (w.alloc o) v xs := World.ownsRow.alloc h o
theorem Ow.drew (h : Ow enc K e base w v xs) : Ow enc K e base w.drew v xs := h
theorem Ow.drewN (h : Ow enc K e base w v xs) (n : Nat) : Ow enc K e base (w.drewN n) v xs := h
theorem Ow.lower {base' : Nat} (h : Ow enc K e base w v xs) (hb : base' ≤ base) : Ow enc K e base' w v xs := by
  refine ⟨h.1, h.2.imp id ?_⟩
  rintro ⟨g, cap, cur, hv, h1, r⟩
  exact ⟨g, cap, cur, hv, Nat.le_trans hb h1, r⟩
/-- the list with its own block told -/
theorem Ow.lstB (h : Ow enc K e base w v xs) : Ls enc (Blk v) w v xs := by
  obtain ⟨ao, cap, e, hc, h2⟩ := h.lst
  refine ⟨ao, cap, e, hc, h2.imp id ?_⟩
  rintro ⟨g, o, h3, _, h5, h6⟩
  exact ⟨g, o, h3, by rw [e, h3]; rfl, h5, h6⟩
theorem Ow.len {m cap : Nat} {ao : Option Addr} (h : Ow enc K e base w (.slice ao m cap) xs) : m = xs.length ∧ m ≤ cap := by
  have := h.lst.len
  exact ⟨this.1, this.2.1⟩
/-- where an owned list lies that is not empty, and what is stored there -/
theorem Ow.get (hK : ∀ x, (enc x).length = K) (h : Ow enc K e base w v xs) {i : Nat} {a : α} (ha : xs[i]? = some a) : ∃ g cap, v = .slice (some ⟨g, 0, none⟩) xs.length cap ∧ base ≤ g ∧ g < w.heap.size ∧ xs.length ≤ cap ∧
    (∀ j x, (enc a)[j]? = some x → w.cell? ⟨g, i * K + j, none⟩ = some x) ∧ (∀ o, w.frozen? ⟨g, o, none⟩ = false) ∧
    ∀ j u b, j < K → enc b = (enc a).set j u → Ow enc K e base (w.setCell ⟨g, i * K + j, none⟩ u) v (xs.set i b) := by
  have hi : i < xs.length := (List.getElem?_eq_some_iff.1 ha).1
  rcases h.2 with ⟨rfl, h0⟩ | ⟨g, cap, cur, rfl, hb, hg, hc, hm, hs, ht⟩
  · omega
  · have hl : ∀ j, j < K → i * K + j < xs.length * K := fun j hj => by
      have : (i + 1) * K ≤ xs.length * K := Nat.mul_le_mul_right _ hi
      rw [Nat.add_mul] at this
      omega
    refine ⟨g, cap, rfl, hb, lt_of_block hg, hc, fun j x hx => ?_, frozen_of hg, fun j u b hj hu => ?_⟩
    · have k0 := flat_get hK xs i j a x ha hx
      have hj : j < K := by rw [← hK a]; exact (List.getElem?_eq_some_iff.1 hx).1
      rw [← ht, List.getElem?_take_of_lt (hl j hj), Array.getElem?_toList] at k0
      exact (cell_of hg _).trans k0
    · refine ⟨by rw [flat_len hK], .inr ⟨g, cap, cur.setIfInBounds (i * K + j) u, by rw [List.length_set], hb, setCell_block hg _ u, by rw [List.length_set]; exact hc, hm, by simpa using hs, ?_⟩⟩
      rw [List.length_set, Array.toList_setIfInBounds, List.take_set, ht]
      clear ht hs hm hc hg hb h hl
      induction xs generalizing i with
      | nil => simp at hi
      | cons y ys ih =>
        cases i with
        | zero =>
          simp only [List.getElem?_cons_zero, Option.some.injEq] at ha
          subst ha
          rw [List.set_cons_zero, List.flatMap_cons, List.flatMap_cons, Nat.zero_mul, Nat.zero_add, List.set_append_left _ _ (by rw [hK]; exact hj), hu]
        | succ i =>
          rw [List.getElem?_cons_succ] at ha
          have e : (i + 1) * K + j = K + (i * K + j) := by rw [Nat.add_mul]; omega
          rw [List.set_cons_succ, List.flatMap_cons, List.flatMap_cons, e, List.set_append_right _ _ (by rw [hK]; omega), hK, show K + (i * K + j) - K = i * K + j by omega, ih ha (by simpa using hi)]
/-- an owned list's head part -/
theorem Ow.take (hK : ∀ x, (enc x).length = K) {m cap n : Nat} {ao : Option Addr} (h : Ow enc K e base w (.slice ao m cap) xs) (hn : n ≤ m) : Ow enc K e base w (.slice ao n cap) (xs.take n) := by
  rcases h.2 with ⟨h1, h0⟩ | ⟨g, cap', cur, h1, hb, hg, hc, hm, hs, ht⟩
  · cases h1
    have e1 : xs = [] := List.eq_nil_of_length_eq_zero h0
    subst e1
    simp at hn
    subst hn
    exact Ow.nil _ _ _ _ _
  · injection h1 with a1 a2 a3
    subst a1 a3
    subst a2
    have hl : (xs.take n).length = n := by rw [List.length_take]; omega
    refine ⟨by rw [flat_len hK], .inr ⟨g, cap, cur, by rw [hl], hb, hg, by omega, hm, hs, ?_⟩⟩
    rw [hl]
    have e2 : cur.toList.take (n * K) = (xs.flatMap enc).take (n * K) := by
      rw [← ht, List.take_take, Nat.min_eq_left (Nat.mul_le_mul_right _ hn)]
    rw [e2]
    have e3 : xs.flatMap enc = (xs.take n).flatMap enc ++ (xs.drop n).flatMap enc := by rw [← List.flatMap_append, List.take_append_drop]
    rw [e3, List.take_left' (by rw [flat_len hK, hl])]
end

theorem info_parts {t K B : Nat} {z : Value} (h : (Try.prog.info? t).map (fun i => (i.zero, i.size, i.bytes)) = some (some z, K, B)) : ∃ i, Try.prog.info? t = some i ∧ i.zero = some z ∧ i.size = K ∧ i.bytes = B := by
  cases hi : Try.prog.info? t with
  | none => rw [hi] at h; cases h
  | some i =>
    rw [hi] at h
    simp only [Option.map_some, Option.some.injEq, Prod.mk.injEq] at h
    exact ⟨i, rfl, h.1, h.2.1, h.2.2⟩

section
variable {α : Type} {enc : α → List Value} {K : Nat}
/-- a whole list is appended to one that the call owns -/
theorem wp_append_ow (hK : ∀ x, (enc x).length = K) {w : World} {o : Oper} {a : Act} {Kk : Act → World → Prop} {Q : Exit → Act → World → Prop} (s x : Operand) (t e B : Nat) (z : Value) (ht : Try.prog.underlying t = some (.slice e))
    (hinf : (Try.prog.info? e).map (fun i => (i.zero, i.size, i.bytes)) = some (some z, K, B)) (hzc : z.cells.size = K) (hK0 : 0 < K)
    (ho : o.op = .call { callee := .builtin .append, args := #[s, x], argTypes := #[t, t] })
    (base : Nat) (v : Value) (xs : List α) (hs : a.eval s = v) (hown : Ow enc K e base w v xs) (P : Nat → Prop) (sv : Value) (ys : List α) (hx : a.eval x = sv) (hl : Ls enc P w sv ys) (hone : ∀ u ∈ ys.flatMap enc, u.oneCell' = true)
    (k : Nat) (hk : k = xs.length + ys.length) (hb : k * B ≤ 140737488355328) (hk63 : k ≤ maxLen) (hbase : base ≤ w.heap.size) (zs : List α) (hz : xs ++ ys = zs)
    (h : ∀ ao cap w', Ow enc K e base w' (.slice ao k cap) zs → Ch (Blk v) w w' → (∀ q, Blk (.slice ao k cap) q → Blk v q ∨ w.heap.size ≤ q) → Kk (a.put o.dst (.slice ao k cap)) w') : Oper.wp Try.prog o a w Kk Q := by
  subst hz
  obtain ⟨i0, hi, hz0, hz1, hz2⟩ := info_parts hinf
  have hl' := hl
  obtain ⟨ao, cap, rfl, ⟨hcap, hnone⟩, hcase⟩ := hl'
  cases ao with
  | none =>
    have hys : ys = [] := by
      rcases hcase with h0 | ⟨g, o, h1, _⟩
      · exact h0
      · cases h1
    subst hys
    have hc := hnone rfl
    subst hc
    have hrun := run_append_owned_none (P := Try.prog) (w := w) base t o.type e i0 K ht hi v xs.length _ hown
    unfold Oper.wp
    simp [execOp, ho, resolve, invoke, builtin, hs, hx, hrun, Result.andThen]
    obtain ⟨ao', cap', rfl⟩ := hown.form
    have hkn : k = xs.length := by simpa using hk
    subst hkn
    rw [List.append_nil] at h
    exact h ao' cap' w hown (Ch.refl _ _) (fun _ q => .inl q)
  | some ad =>
    subst hk
    obtain ⟨v', w', hrun, h2, h3, _, h5⟩ := run_append_own_at (P := Try.prog) w base t o.type e i0 _ K B ht hi hz0 hz1 hz2 hzc hK0 v xs.length _ hown ad ys.length cap (ys.flatMap enc) (flat_len hK ys) hl.news hone hk63 hb hbase
    unfold Oper.wp execOp
    simp only [ho, resolve, invoke, builtin, Sem.run_bind, Sem.run_pure, Result.andThen_ok, List.map_toArray, List.map_cons, List.map_nil, hs, hx, hrun]
    obtain ⟨ao', cap', rfl⟩ := own_form h2
    refine h ao' cap' w' ?_ ((Ch.refl _ _).grown h3 (fun k hk => .inl hk)) ?_
    · show World.ownsRow _ _ _ _ _ _ _
      rw [List.length_append, List.flatMap_append]
      exact h2
    · intro q hq
      rcases h5 with h5 | h5
      · exact .inl (h5.symm.trans hq)
      · right
        have : some q = some w.heap.size := hq.symm.trans h5
        injection this with this
        omega
/-- the same, at a step of a region that draws -/
theorem step_append_ow (hK : ∀ x, (enc x).length = K) {w : World} {ops : Array Oper} {o : Oper} {a : Act} {Kk : Act → World → Prop} {Q : Exit → Act → World → Prop} {E : Prop} (hgd : o.guard = none) (s x : Operand) (t e B : Nat) (z : Value) (ht : Try.prog.underlying t = some (.slice e))
    (hinf : (Try.prog.info? e).map (fun i => (i.zero, i.size, i.bytes)) = some (some z, K, B)) (hzc : z.cells.size = K) (hK0 : 0 < K)
    (ho : o.op = .call { callee := .builtin .append, args := #[s, x], argTypes := #[t, t] })
    (base : Nat) (v : Value) (xs : List α) (hs : a.eval s = v) (hown : Ow enc K e base w v xs) (P : Nat → Prop) (sv : Value) (ys : List α) (hx : a.eval x = sv) (hl : Ls enc P w sv ys) (hone : ∀ u ∈ ys.flatMap enc, u.oneCell' = true)
    (k : Nat) (hk : k = xs.length + ys.length) (hb : k * B ≤ 140737488355328) (hk63 : k ≤ maxLen) (hbase : base ≤ w.heap.size) (zs : List α) (hz : xs ++ ys = zs)
    (h : ∀ ao cap w', Ow enc K e base w' (.slice ao k cap) zs → Ch (Blk v) w w' → (∀ q, Blk (.slice ao k cap) q → Blk v q ∨ w.heap.size ≤ q) → Kk (a.put o.dst (.slice ao k cap)) w') :
    if Region.wanted o (yielded ops a.tmps) = true then Oper.wp Try.prog o a w Kk Q else E := by
  have hw : Region.wanted o (yielded ops a.tmps) = true := by simp [Region.wanted, hgd]
  rw [if_pos hw]
  exact wp_append_ow hK s x t e B z ht hinf hzc hK0 ho base v xs hs hown P sv ys hx hl hone k hk hb hk63 hbase zs hz h
/-- the same, in order -/
theorem wpList_append_ow (hK : ∀ x, (enc x).length = K) {w : World} {ops : Array Oper} {rest : List Oper} {o : Oper} {a : Act} {Q : Exit → Act → World → Prop} (hgd : o.guard = none) (s x : Operand) (t e B : Nat) (z : Value) (ht : Try.prog.underlying t = some (.slice e))
    (hinf : (Try.prog.info? e).map (fun i => (i.zero, i.size, i.bytes)) = some (some z, K, B)) (hzc : z.cells.size = K) (hK0 : 0 < K)
    (ho : o.op = .call { callee := .builtin .append, args := #[s, x], argTypes := #[t, t] })
    (base : Nat) (v : Value) (xs : List α) (hs : a.eval s = v) (hown : Ow enc K e base w v xs) (P : Nat → Prop) (sv : Value) (ys : List α) (hx : a.eval x = sv) (hl : Ls enc P w sv ys) (hone : ∀ u ∈ ys.flatMap enc, u.oneCell' = true)
    (k : Nat) (hk : k = xs.length + ys.length) (hb : k * B ≤ 140737488355328) (hk63 : k ≤ maxLen) (hbase : base ≤ w.heap.size) (zs : List α) (hz : xs ++ ys = zs)
    (h : ∀ ao cap w', Ow enc K e base w' (.slice ao k cap) zs → Ch (Blk v) w w' → (∀ q, Blk (.slice ao k cap) q → Blk v q ∨ w.heap.size ≤ q) → wpList Try.prog ops Q rest (a.put o.dst (.slice ao k cap)) w') : wpList Try.prog ops Q (o :: rest) a w := by
  subst hz
  obtain ⟨i0, hi, hz0, hz1, hz2⟩ := info_parts hinf
  have hl' := hl
  obtain ⟨ao, cap, rfl, ⟨hcap, hnone⟩, hcase⟩ := hl'
  cases ao with
  | none =>
    have hys : ys = [] := by
      rcases hcase with h0 | ⟨g, o, h1, _⟩
      · exact h0
      · cases h1
    subst hys
    have hc := hnone rfl
    subst hc
    refine wpList_append_own_none hgd s x _ ho base e i0 K ht hi v xs.length _ hs hown hx ?_
    obtain ⟨ao', cap', rfl⟩ := hown.form
    have hkn : k = xs.length := by simpa using hk
    subst hkn
    rw [List.append_nil] at h
    exact h ao' cap' w hown (Ch.refl _ _) (fun _ q => .inl q)
  | some ad =>
    subst hk
    refine wpList_append_own_at w hgd s x _ ho base e i0 _ K B ht hi hz0 hz1 hz2 hzc hK0 v xs.length _ hs hown ad ys.length cap (ys.flatMap enc) hx (flat_len hK ys) hl.news hone hk63 hb hbase ?_
    intro v' w' h2 h3 _ h5
    obtain ⟨ao', cap', rfl⟩ := own_form h2
    refine h ao' cap' w' ?_ ((Ch.refl _ _).grown h3 (fun k hk => .inl hk)) ?_
    · show World.ownsRow _ _ _ _ _ _ _
      rw [List.length_append, List.flatMap_append]
      exact h2
    · intro q hq
      rcases h5 with h5 | h5
      · exact .inl (h5.symm.trans hq)
      · right
        have : some q = some w.heap.size := hq.symm.trans h5
        injection this with this
        omega
end
/-- one in a new block is a list -/
theorem Ls.single {α : Type} {enc : α → List Value} (w : World) (x : α) (T : TypeId) (c : Array Value) (hc : c.toList = enc x) : Ls enc (· = w.heap.size) (w.alloc (.cells c T)) (.slice (some ⟨w.heap.size, 0, none⟩) 1 1) [x] := by
  refine ⟨_, 1, rfl, ⟨by simp, fun h => by cases h⟩, .inr ⟨w.heap.size, 0, rfl, rfl, by simp, ?_⟩⟩
  intro i y hy
  have e : [x].flatMap enc = enc x := by simp
  rw [e, ← hc, Array.getElem?_toList] at hy
  rw [cell_of (MapKept.heap_alloc w _).1, Nat.zero_add]
  exact hy
end Go.Proofs.Ytnpbehcfbceclaa.Lt
