/-
  What Above answers: the program and the document. Condition: the list is not too long.
-/
import Derived.Test.YtcoaefojamhloabPyRch
namespace Go.Proofs.Ytcoaefojamhloab.Lt
open Go.RowKit Wd
attribute [local go_sem ↓] Go.wp_at_zero Go.wp_at_succ
set_option maxRecDepth 20000

/-- the domains below j that are so, rising -/
def abP (p : St) (j : Nat) : List Int := ((List.range j).filter p).map fun d : Nat => (d : Int)
theorem abP_yes {p : St} {j : Nat} (h : p j = true) : abP p (j + 1) = abP p j ++ [(j : Int)] := by
  unfold abP
  rw [List.range_succ, List.filter_append, List.map_append]
  simp [h]
theorem abP_no {p : St} {j : Nat} (h : p j = false) : abP p (j + 1) = abP p j := by
  unfold abP
  rw [List.range_succ, List.filter_append, List.map_append]
  simp [h]
theorem abP_len (p : St) (j : Nat) : (abP p j).length ≤ j := by
  unfold abP
  rw [List.length_map]
  have := List.length_filter_le p (List.range j)
  rw [List.length_range] at this
  exact this
theorem abP_congr {p q : St} {n : Nat} (h : ∀ j, j < n → p j = q j) : ∀ j, j ≤ n → abP p j = abP q j := by
  intro j
  induction j with
  | zero => intro _; rfl
  | succ j ih =>
    intro hj
    have e := h j (by omega)
    cases hq : q j
    · rw [abP_no (e.trans hq), abP_no hq, ih (by omega)]
    · rw [abP_yes (e.trans hq), abP_yes hq, ih (by omega)]
/-- what Above tells -/
def abvI (n : Int) (l : List Eg) (x : Int) : List Int := if wrgP n l [x] = 0 then abP (fun d => pthR n.toNat l d x.toNat) n.toNat else []
theorem abvI_len (n : Int) (l : List Eg) (x : Int) : (abvI n l x).length ≤ 16 := by
  unfold abvI
  split
  · rename_i h
    have := (wrgP_ok h).2.1
    have := abP_len (fun d => pthR n.toNat l d x.toNat) n.toNat
    omega
  · simp
/-- a list of numbers in new memory, and an error -/
def NumR (w : World) (xs : List Int) (E : Int) (e : Ending) (w' : World) : Prop := ∃ ao cap, e = .returned (.tuple #[.slice ao xs.length cap, .int .i64 E]) ∧ Ls eI (w.heap.size ≤ ·) w' (.slice ao xs.length cap) xs ∧ Gr w w'
theorem wrgP_two {n : Int} {l : List Eg} {x : Int} : wrgP n l [x, x] = wrgP n l [x] := by
  unfold wrgP
  simp
end Go.Proofs.Ytcoaefojamhloab.Lt
