/-
  The words in which the walks of layer 2 speak of a list of those that wait. No conditions.
-/
import Derived.Test.YtfodjkdioddbjabRgNew
import Derived.Deep.LoopGhost
import Derived.Laws.AppendOwnNone
namespace Go.Proofs.Ytfodjkdioddbjab.Rg
open Go.RowKit

/-- the cells of a list -/
def rowOf : List W3 → List Value
  | [] => []
  | x :: r => .int .i64 x.s :: .int .i64 x.g :: .int .u64 x.t :: rowOf r
theorem rowOf_append : ∀ (a b : List W3), rowOf (a ++ b) = rowOf a ++ rowOf b
  | [], _ => rfl
  | x :: r, b => by simp only [List.cons_append, rowOf, rowOf_append r b]
theorem rowOf_length : ∀ (a : List W3), (rowOf a).length = a.length * 3
  | [] => rfl
  | x :: r => by simp only [rowOf, List.length_cons, rowOf_length r]; omega
theorem rowOf_get : ∀ (a : List W3) (i : Nat) (x : W3), a[i]? = some x → (rowOf a)[i * 3]? = some (.int .i64 x.s) ∧ (rowOf a)[i * 3 + 1]? = some (.int .i64 x.g) ∧ (rowOf a)[i * 3 + 2]? = some (.int .u64 x.t)
  | [], i, x, h => by simp at h
  | y :: r, 0, x, h => by
    simp only [List.getElem?_cons_zero, Option.some.injEq] at h
    subst h
    exact ⟨rfl, rfl, rfl⟩
  | y :: r, i + 1, x, h => by
    have := rowOf_get r i x (by simpa using h)
    have e : (i + 1) * 3 = i * 3 + 3 := by omega
    rw [e]
    exact this
theorem rowOf_one (a : List W3) : ∀ u ∈ rowOf a, u.oneCell' = true := by
  induction a with
  | nil => intro u hu; simp [rowOf] at hu
  | cons x r ih =>
    intro u hu
    simp only [rowOf, List.mem_cons] at hu
    rcases hu with rfl | rfl | rfl | hu
    · rfl
    · rfl
    · rfl
    · exact ih u hu

/-- a slice value that reads as a list; where it is not empty its cells lie in a block of which P holds -/
def Lst (P : Nat → Prop) (w : World) (v : Value) (xs : List W3) : Prop :=
  ∃ ao cap, v = .slice ao xs.length cap ∧ (xs = [] ∨ ∃ g o, ao = some ⟨g, o, none⟩ ∧ P g ∧ g < w.heap.size ∧
    ∀ i x, xs[i]? = some x → w.cell? ⟨g, o + i * 3, none⟩ = some (.int .i64 x.s) ∧ w.cell? ⟨g, o + i * 3 + 1, none⟩ = some (.int .i64 x.g) ∧ w.cell? ⟨g, o + i * 3 + 2, none⟩ = some (.int .u64 x.t))

theorem Lst.nil (P : Nat → Prop) (w : World) (ao : Option Addr) (cap : Nat) : Lst P w (.slice ao 0 cap) [] := ⟨ao, cap, rfl, .inl rfl⟩
theorem Lst.mono {P Q : Nat → Prop} {w : World} {v : Value} {xs : List W3} (h : Lst P w v xs) (hq : ∀ g, g < w.heap.size → P g → Q g) : Lst Q w v xs := by
  obtain ⟨ao, cap, e, h⟩ := h
  refine ⟨ao, cap, e, h.imp id ?_⟩
  rintro ⟨g, o, h1, h2, h3, h4⟩
  exact ⟨g, o, h1, hq g h3 h2, h3, h4⟩
theorem Lst.ch {P S : Nat → Prop} {w w' : World} {v : Value} {xs : List W3} (h : Lst P w v xs) (k : Ch S w w') (hs : ∀ g, g < w.heap.size → P g → ¬ S g) : Lst P w' v xs := by
  obtain ⟨ao, cap, e, h⟩ := h
  refine ⟨ao, cap, e, h.imp id ?_⟩
  rintro ⟨g, o, h1, h2, h3, h4⟩
  refine ⟨g, o, h1, h2, Nat.lt_of_lt_of_le h3 k.size, fun i x hx => ?_⟩
  rw [k.cell h3 (hs g h3 h2), k.cell h3 (hs g h3 h2), k.cell h3 (hs g h3 h2)]
  exact h4 i x hx
theorem Lst.drew {P : Nat → Prop} {w : World} {v : Value} {xs : List W3} (h : Lst P w v xs) : Lst P w.drew v xs := h
theorem Lst.drewN {P : Nat → Prop} {w : World} {v : Value} {xs : List W3} (h : Lst P w v xs) (n : Nat) : Lst P (w.drewN n) v xs := h
theorem Lst.alloc {P : Nat → Prop} {w : World} {v : Value} {xs : List W3} (h : Lst P w v xs) (o : Obj) : Lst P (w.alloc o) v xs :=
  h.ch (S := NoB) ((Ch.refl _ _).alloc _) (fun _ _ _ x => x)

/-- the value of a list's slice -/
theorem Lst.form {P : Nat → Prop} {w : World} {v : Value} {xs : List W3} (h : Lst P w v xs) : ∃ ao cap, v = .slice ao xs.length cap := by
  obtain ⟨ao, cap, e, _⟩ := h
  exact ⟨ao, cap, e⟩

/-- what a call owns reads as a list -/
theorem Lst.of_own {w : World} {base : Nat} {v : Value} {n : Nat} {xs : List W3} (h : w.ownsRow base 27 3 v n (rowOf xs)) : Lst (base ≤ ·) w v xs := by
  have hl := h.1
  rw [rowOf_length] at hl
  have hn : xs.length = n := by omega
  rcases h.2 with ⟨rfl, h0⟩ | ⟨g, cap, cur, rfl, hb, hg, hc, _, hs, ht⟩
  · have : xs = [] := List.eq_nil_of_length_eq_zero (by omega)
    subst this
    exact Lst.nil _ _ _ _
  · refine ⟨some ⟨g, 0, none⟩, cap, by rw [hn], .inr ⟨g, 0, rfl, hb, lt_of_block hg, fun i x hx => ?_⟩⟩
    obtain ⟨k0, k1, k2⟩ := rowOf_get xs i x hx
    have hi : i < xs.length := (List.getElem?_eq_some_iff.1 hx).1
    rw [← ht] at k0 k1 k2
    rw [List.getElem?_take_of_lt (by omega), Array.getElem?_toList] at k0 k1 k2
    rw [Nat.zero_add]
    exact ⟨(cell_of hg _).trans k0, (cell_of hg _).trans k1, (cell_of hg _).trans k2⟩

theorem own_ch {S : Nat → Prop} {w w' : World} {base : Nat} {v : Value} {n : Nat} {xs : List Value} (h : w.ownsRow base 27 3 v n xs) (k : Ch S w w') (hs : ∀ g, S g → g < base) : w'.ownsRow base 27 3 v n xs := by
  refine ⟨h.1, ?_⟩
  rcases h.2 with h2 | ⟨g, cap, cur, hv, hb, hg, r⟩
  · exact .inl h2
  · exact .inr ⟨g, cap, cur, hv, hb, (k.block g (lt_of_block hg) (fun x => by have := hs g x; omega)).trans hg, r⟩

theorem W_info : (Try.prog.info? 27).map (fun i => (i.zero, i.size, i.bytes)) = some (some (.agg #[.int .i64 0, .int .i64 0, .int .u64 0]), 3, 24) := by kernel_rfl
end Go.Proofs.Ytfodjkdioddbjab.Rg
