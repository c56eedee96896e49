/-
  How calls that are handed in read, where all is small. No conditions.
-/
import Derived.Test.YtnpbehcfbceclaaPoFrame
namespace Go.Proofs.Ytnpbehcfbceclaa.Lt
open Go.ChangeShapes Go.WideShapes Go.ChangeAt Go.RowKit Go.Deep Go.Joins Wd
set_option maxRecDepth 100000

theorem len_bulk {H : Type} {α : Type} {xs : List α} {d : DataW H} {Q : α → DataW H → Prop} (h : (xs = [] ∧ d = .nil) ∨ ∃ el sp, d = .slice el sp ∧ el.length = xs.length ∧ ∀ (i : Nat) (x : α), xs[i]? = some x → ∃ d', el[i]? = some d' ∧ Q x d') : xs.length ≤ Rows.uptoBulk d ∧ ∀ x ∈ xs, ∃ d', Q x d' := by
  rcases h with ⟨e1, _⟩ | ⟨el, sp, e1, hle, hq⟩
  · rw [e1]; exact ⟨Nat.zero_le _, fun x hx => by cases hx⟩
  · rw [e1]
    have := bulk_slice el sp
    refine ⟨by omega, fun x hx => ?_⟩
    obtain ⟨i, hi⟩ := List.mem_iff_getElem?.1 hx
    obtain ⟨d', _, q⟩ := hq i x hi
    exact ⟨d', q⟩
section
variable {H : Type} {enc : TypeId × Value → H} {w : World} {base : Nat} {spare : Nat → Bool} {held : Bool}
/-- calls that are handed in, where all is small -/
theorem open_actsU {r : Reach} {b0 : Nat} {v : Value} {d : DataW H} {p : List MemPlace} {ds : List (DataW H)}
    (hv : Value.okWide Try.prog w r b0 24 v) (h : DataW.Trod enc Try.prog w base spare held 24 v d p) (hk : Rows.uptoSmall H ds = true) (hd : d ∈ ds) :
    ∃ (a : Option Addr) (n c : Nat) (xs : List Ac), v = .slice a n c ∧ Ls eC (· < w.heap.size) w (.slice a n c) xs ∧ n ≤ 1048576 := by
  have : Inhabited Ac := ⟨⟨0, 0⟩⟩
  have hb : Rows.uptoBulkAll ds ≤ 1048576 := of_decide_eq_true hk
  have hb1 := Nat.le_trans (bulk_part hd) hb
  obtain ⟨va, vl, vc, rfl⟩ := okWide_slice Try.underlying24 hv
  obtain ⟨fuel, hf⟩ := h
  have hf' : DataW.trod enc Try.prog w base spare held fuel 24 [.slice va vl vc] = some (d, p) := hf
  obtain ⟨xs, lx, sx⟩ := open_gen eC Try.underlying24 cellsAc eC_len (by omega) (fun _ _ => True) (fun n cs z hl h => el_act n cs z hl h) hf'
  have b' : xs.length ≤ Rows.uptoBulk d := (len_bulk sx).1
  exact ⟨va, vl, vc, xs, rfl, lx, by rw [lx.len.1]; omega⟩
end
end Go.Proofs.Ytnpbehcfbceclaa.Lt
