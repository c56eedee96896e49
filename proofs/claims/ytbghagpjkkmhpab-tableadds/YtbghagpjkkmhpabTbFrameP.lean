/-
  How two numbers that are handed in as an array read. No conditions.
-/
import Derived.Test.YtbghagpjkkmhpabTbFrame
import Derived.OpenShut
namespace Go.Proofs.Ytbghagpjkkmhpab.Lt
open Go.ChangeShapes Go.WideShapes Go.ChangeAt Go.RowKit Go.Deep Go.Joins Wd
set_option maxRecDepth 100000

theorem cellsP16 : Try.prog.cellsOf 55 = 2 := by kernel_rfl
section
variable {H : Type} {enc : TypeId × Value → H} {w : World} {base : Nat} {spare : Nat → Bool} {held : Bool}
theorem open_pair {r : Reach} {b0 : Nat} {v : Value} {d : DataW H} {p : List MemPlace} (hv : Value.okWide Try.prog w r b0 55 v) (h : DataW.Trod enc Try.prog w base spare held 55 v d p) :
    ∃ x y : Int, v = .agg #[.int .u64 x, .int .u64 y] ∧ Tk.U x ∧ Tk.U y := by
  simp only [Value.okWide, Try.underlying55] at hv
  obtain ⟨cs, rfl, hsz, -⟩ := hv
  rw [cellsP16] at hsz
  obtain ⟨l⟩ := cs
  obtain ⟨fuel, hf⟩ := h
  obtain ⟨c0, c1, rfl⟩ : ∃ a b, l = [a, b] := by
    match l, hsz with
    | [a, b], _ => exact ⟨a, b, rfl⟩
  obtain ⟨xs, m, _, _, _, hn, hel⟩ := DataW.trod_array Try.underlying55 hf
  have h0 := hel 0 (by omega)
  have h1 := hel 1 (by omega)
  rw [cellsU16] at h0 h1
  obtain ⟨y0, e0⟩ : ∃ y, xs[0]? = some y := ⟨_, List.getElem?_eq_getElem (by omega)⟩
  obtain ⟨y1, e1⟩ : ∃ y, xs[1]? = some y := ⟨_, List.getElem?_eq_getElem (by omega)⟩
  rw [e0] at h0
  rw [e1] at h1
  have h0' : DataW.trod enc Try.prog w base spare held m 22 [c0] = some y0 := by simpa [Value.cells] using h0
  have h1' : DataW.trod enc Try.prog w base spare held m 22 [c1] = some y1 := by simpa [Value.cells] using h1
  obtain ⟨x, g0, _, wx⟩ := DataW.trod_int Try.underlying22 h0'
  obtain ⟨y, g1, _, wy⟩ := DataW.trod_int Try.underlying22 h1'
  simp at g0 g1
  exact ⟨x, y, by rw [g0, g1], u_wf wx, u_wf wy⟩
end
end Go.Proofs.Ytbghagpjkkmhpab.Lt
