/-
  The words in which the walks of the heap speak of a list of one-cell values (numbers, truths, lists): what reads as one, what a call owns. No conditions.
-/
import Derived.Test.YtgkapopkjgljjaaThPush
import Derived.Deep.LoopGhost
import Derived.Laws.AppendOwnNone
import Derived.Maps.AppendAt
namespace Go.Proofs.Ytgkapopkjgljjaa.Hp
open Go.RowKit Wd

/-- a slice value that reads as a list of one-cell values; where it is not empty its cells lie in a block of which P holds -/
def Ls (P : Nat → Prop) (w : World) (v : Value) (us : List Value) : Prop :=
  ∃ ao cap, v = .slice ao us.length cap ∧ (us.length ≤ cap ∧ (ao = none → cap = 0)) ∧ (us = [] ∨ ∃ g o, ao = some ⟨g, o, none⟩ ∧ P g ∧ g < w.heap.size ∧
    ∀ i x, us[i]? = some x → w.cell? ⟨g, o + i, none⟩ = some x)

section
variable {P Q S : Nat → Prop} {w w' : World} {v : Value} {us : List Value}
theorem Ls.nil (P : Nat → Prop) (w : World) : Ls P w (.slice none 0 0) [] := ⟨none, 0, rfl, ⟨Nat.le_refl _, fun _ => rfl⟩, .inl rfl⟩
theorem Ls.mono (h : Ls P w v us) (hq : ∀ g, g < w.heap.size → P g → Q g) : Ls Q w v us := by
  obtain ⟨ao, cap, e, hc, h⟩ := h
  refine ⟨ao, cap, e, hc, h.imp id ?_⟩
  rintro ⟨g, o, h1, h2, h3, h4⟩
  exact ⟨g, o, h1, hq g h3 h2, h3, h4⟩
theorem Ls.ch (h : Ls P w v us) (k : Ch S w w') (hs : ∀ g, g < w.heap.size → P g → ¬ S g) : Ls P w' v us := by
  obtain ⟨ao, cap, e, hc, h⟩ := h
  refine ⟨ao, cap, e, hc, h.imp id ?_⟩
  rintro ⟨g, o, h1, h2, h3, h4⟩
  refine ⟨g, o, h1, h2, Nat.lt_of_lt_of_le h3 k.size, fun i x hx => ?_⟩
  rw [k.cell h3 (hs g h3 h2)]
  exact h4 i x hx
theorem Ls.drew (h : Ls P w v us) : Ls P w.drew v us := h
theorem Ls.drewN (h : Ls P w v us) (n : Nat) : Ls P (w.drewN n) v us := h
theorem Ls.alloc (h : Ls P w v us) (o : Obj) : Ls P (w.alloc o) v us := h.ch (S := NoB) ((Ch.refl _ _).alloc _) (fun _ _ _ x => x)
/-- the value of a list's slice -/
theorem Ls.form (h : Ls P w v us) : ∃ ao cap, v = .slice ao us.length cap := by
  obtain ⟨ao, cap, e, _⟩ := h
  exact ⟨ao, cap, e⟩
/-- an element's cell -/
theorem Ls.get (h : Ls P w v us) {i : Nat} {x : Value} (hx : us[i]? = some x) : ∃ g o cap, v = .slice (some ⟨g, o, none⟩) us.length cap ∧ P g ∧ g < w.heap.size ∧ us.length ≤ cap ∧ w.cell? ⟨g, o + i, none⟩ = some x := by
  obtain ⟨ao, cap, e, hc, h⟩ := h
  rcases h with rfl | ⟨g, o, h1, h2, h3, h4⟩
  · simp at hx
  · exact ⟨g, o, cap, by rw [e, h1], h2, h3, hc.1, h4 i x hx⟩
/-- the cells of a list, at its address -/
theorem Ls.news {a : Addr} {cap n : Nat} (h : Ls P w (.slice (some a) n cap) us) : ∀ j u, us[j]? = some u → w.cell? (a.add j) = some u := by
  intro j u hu
  obtain ⟨ao, cap', e, _, h⟩ := h
  injection e with e1 e2 e3
  rcases h with rfl | ⟨g, o, h1, h2, h3, h4⟩
  · simp at hu
  · rw [← e1] at h1
    injection h1 with h1
    subst h1
    have hadd : (⟨g, o, none⟩ : Addr).add j = ⟨g, o + j, none⟩ := by unfold Addr.add; split <;> simp_all
    rw [hadd]
    exact h4 j u hu
end

/-- a slice value of elements of type e that the call owns reads as a list; its block is none below base -/
def Ow (e base : Nat) (w : World) (v : Value) (us : List Value) : Prop := w.ownsRow base e 1 v us.length us
section
variable {S : Nat → Prop} {e base : Nat} {w w' : World} {v : Value} {us : List Value}
theorem Ow.nil (e base : Nat) (w : World) : Ow e base w (.slice none 0 0) [] := World.ownsRow_nil _ _ _ _
theorem own_form1 {n : Nat} (h : w.ownsRow base e 1 v n us) : ∃ ao cap, v = .slice ao n cap := by
  rcases h.2 with ⟨rfl, rfl⟩ | ⟨g, cap, cur, rfl, _⟩
  · exact ⟨none, 0, rfl⟩
  · exact ⟨_, cap, rfl⟩
theorem Ow.form (h : Ow e base w v us) : ∃ ao cap, v = .slice ao us.length cap := own_form1 h
theorem Ow.lst (h : Ow e base w v us) : Ls (base ≤ ·) w v us := by
  rcases h.2 with ⟨rfl, h0⟩ | ⟨g, cap, cur, rfl, hb, hg, hc, _, hs, ht⟩
  · have : us = [] := List.eq_nil_of_length_eq_zero h0
    subst this
    exact Ls.nil _ _
  · refine ⟨some ⟨g, 0, none⟩, cap, rfl, ⟨hc, fun h => by cases h⟩, .inr ⟨g, 0, rfl, hb, lt_of_block hg, fun i x hx => ?_⟩⟩
    have hi : i < us.length := (List.getElem?_eq_some_iff.1 hx).1
    have k0 := hx
    rw [← ht, List.getElem?_take_of_lt (by omega), Array.getElem?_toList] at k0
    rw [Nat.zero_add]
    exact (cell_of hg _).trans k0
theorem Ow.blk (h : Ow e base w v us) {q : Nat} (hq : Blk v q) : base ≤ q ∧ q < w.heap.size := World.ownsRow.lt h q hq
theorem Ow.ch (h : Ow e base w v us) (k : Ch S w w') (hs : ∀ g, Blk v g → ¬ S g) : Ow e base w' v us := by
  refine ⟨h.1, ?_⟩
  rcases h.2 with h2 | ⟨g, cap, cur, hv, hb, hg, r⟩
  · exact .inl h2
  · exact .inr ⟨g, cap, cur, hv, hb, (k.block g (lt_of_block hg) (hs g (by rw [hv]; rfl))).trans hg, r⟩
theorem Ow.alloc (h : Ow e base w v us) (o : Obj) : Ow e base (w.alloc o) v us := World.ownsRow.alloc h o
theorem Ow.drew (h : Ow e base w v us) : Ow e base w.drew v us := h
theorem Ow.drewN (h : Ow e base w v us) (n : Nat) : Ow e base (w.drewN n) v us := h
theorem Ow.lower {base' : Nat} (h : Ow e base w v us) (hb : base' ≤ base) : Ow e base' w v us := by
  refine ⟨h.1, h.2.imp id ?_⟩
  rintro ⟨g, cap, cur, hv, h1, r⟩
  exact ⟨g, cap, cur, hv, Nat.le_trans hb h1, r⟩
/-- the list with its own block told -/
theorem Ow.lstB (h : Ow e base w v us) : Ls (Blk v) w v us := by
  obtain ⟨ao, cap, e, hc, h2⟩ := h.lst
  refine ⟨ao, cap, e, hc, h2.imp id ?_⟩
  rintro ⟨g, o, h3, _, h5, h6⟩
  exact ⟨g, o, h3, by rw [e, h3]; rfl, h5, h6⟩
/-- an element of an owned list: where it lies, and what a store there leaves -/
theorem Ow.get (h : Ow e base w v us) {i : Nat} {x : Value} (hx : us[i]? = some x) : ∃ g cap, v = .slice (some ⟨g, 0, none⟩) us.length cap ∧ base ≤ g ∧ g < w.heap.size ∧ us.length ≤ cap ∧ w.cell? ⟨g, i, none⟩ = some x ∧ w.frozen? ⟨g, i, none⟩ = false ∧ ∀ u, Ow e base (w.setCell ⟨g, i, none⟩ u) v (us.set i u) := by
  have hi : i < us.length := (List.getElem?_eq_some_iff.1 hx).1
  rcases h.2 with ⟨rfl, h0⟩ | ⟨g, cap, cur, rfl, hb, hg, hc, hm, hs, ht⟩
  · omega
  · have k0 := hx
    rw [← ht, List.getElem?_take_of_lt (by omega), Array.getElem?_toList] at k0
    refine ⟨g, cap, rfl, hb, lt_of_block hg, hc, (cell_of hg _).trans k0, frozen_of hg i, fun u => ?_⟩
    refine ⟨by simp, .inr ⟨g, cap, cur.setIfInBounds i u, by rw [List.length_set], hb, setCell_block hg i u, by rw [List.length_set]; exact hc, hm, by simpa using hs, ?_⟩⟩
    rw [List.length_set, Array.toList_setIfInBounds, List.take_set, ht]
end

theorem info_parts1 {t : Nat} {z : Value} {B : Nat} (h : (Try.prog.info? t).map (fun i => (i.zero, i.size, i.bytes)) = some (some z, 1, B)) : ∃ i, Try.prog.info? t = some i ∧ i.zero = some z ∧ i.size = 1 ∧ i.bytes = B := by
  cases hi : Try.prog.info? t with
  | none => rw [hi] at h; cases h
  | some i =>
    rw [hi] at h
    simp only [Option.map_some, Option.some.injEq, Prod.mk.injEq] at h
    exact ⟨i, rfl, h.1, h.2.1, h.2.2⟩
theorem int_info : (Try.prog.info? 3).map (fun i => (i.zero, i.size, i.bytes)) = some (some (.int .i64 0), 1, 8) := by kernel_rfl
theorem bool_info : (Try.prog.info? 4).map (fun i => (i.zero, i.size, i.bytes)) = some (some (.bool false), 1, 1) := by kernel_rfl
/-- the values of a list of numbers -/
def iv (xs : List Int) : List Value := xs.map (.int .i64)
/-- the values of a list of truths -/
def bv (xs : List Bool) : List Value := xs.map .bool
theorem iv_length (xs : List Int) : (iv xs).length = xs.length := List.length_map _
theorem bv_length (xs : List Bool) : (bv xs).length = xs.length := List.length_map _
theorem iv_append (a b : List Int) : iv (a ++ b) = iv a ++ iv b := List.map_append
theorem bv_append (a b : List Bool) : bv (a ++ b) = bv a ++ bv b := List.map_append
theorem iv_get {xs : List Int} {i : Nat} {x : Int} (h : xs[i]? = some x) : (iv xs)[i]? = some (.int .i64 x) := by simp [iv, h]
theorem bv_get {xs : List Bool} {i : Nat} {x : Bool} (h : xs[i]? = some x) : (bv xs)[i]? = some (.bool x) := by simp [bv, h]
theorem iv_set (xs : List Int) (i : Nat) (x : Int) : (iv xs).set i (.int .i64 x) = iv (xs.set i x) := by simp [iv, List.map_set]
theorem bv_set (xs : List Bool) (i : Nat) (x : Bool) : (bv xs).set i (.bool x) = bv (xs.set i x) := by simp [bv, List.map_set]
theorem iv_one (xs : List Int) : ∀ u ∈ iv xs, u.oneCell' = true := fun u hu => by
  obtain ⟨x, _, rfl⟩ := List.mem_map.1 hu
  rfl
theorem bv_one (xs : List Bool) : ∀ u ∈ bv xs, u.oneCell' = true := fun u hu => by
  obtain ⟨x, _, rfl⟩ := List.mem_map.1 hu
  rfl
theorem Ls.get1 {P : Nat → Prop} {w : World} {ao : Option Addr} {n cap : Nat} {us : List Value} (h : Ls P w (.slice ao n cap) us) {i : Nat} {x : Value} (hx : us[i]? = some x) : ∃ g o, ao = some ⟨g, o, none⟩ ∧ P g ∧ g < w.heap.size ∧ n ≤ cap ∧ w.cell? ⟨g, o + i, none⟩ = some x := by
  obtain ⟨g, o, c, e, h1, h2, h3, h4⟩ := h.get hx
  injection e with a1 a2 a3
  subst a1 a2 a3
  exact ⟨g, o, rfl, h1, h2, h3, h4⟩

theorem Ow.get1 {e base n cap : Nat} {w : World} {ao : Option Addr} {us : List Value} (h : Ow e base w (.slice ao n cap) us) {i : Nat} {x : Value} (hx : us[i]? = some x) :
    ∃ g, ao = some ⟨g, 0, none⟩ ∧ base ≤ g ∧ g < w.heap.size ∧ n ≤ cap ∧ w.cell? ⟨g, i, none⟩ = some x ∧ w.frozen? ⟨g, i, none⟩ = false ∧ ∀ u, Ow e base (w.setCell ⟨g, i, none⟩ u) (.slice (some ⟨g, 0, none⟩) n cap) (us.set i u) := by
  obtain ⟨g, c, e1, h1, h2, h3, h4, h5, h6⟩ := h.get hx
  injection e1 with a1 a2 a3
  subst a1 a2 a3
  exact ⟨g, rfl, h1, h2, h3, h4, h5, h6⟩


/-- a list of times -/
def uv (xs : List Int) : List Value := xs.map (.int .u64)
theorem uv_length (xs : List Int) : (uv xs).length = xs.length := List.length_map _
theorem uv_get {xs : List Int} {i : Nat} {x : Int} (h : xs[i]? = some x) : (uv xs)[i]? = some (.int .u64 x) := by simp [uv, h]
end Go.Proofs.Ytgkapopkjgljjaa.Hp
