/-
  How a ticker that is handed in reads. No conditions.
-/
import Derived.Test.YtgkapopkjgljjaaTmFrameU
namespace Go.Proofs.Ytgkapopkjgljjaa.Lt
open Go.ChangeShapes Go.WideShapes Go.ChangeAt Go.RowKit Go.Deep Go.Joins Wd
set_option maxRecDepth 100000

theorem cellsJk : Try.prog.cellsOf 2 = 1 := by kernel_rfl
theorem cellsUk : Try.prog.cellsOf 32 = 1 := by kernel_rfl
theorem cellsCk : Try.prog.cellsOf 5 = 1 := by kernel_rfl
theorem cellsTk : Try.prog.cellsOf 59 = 4 := by kernel_rfl
theorem wf_u8k {n : Int} (h : (Lit.int .u8 n).wf = true) : 0 ≤ n ∧ n ≤ 255 := by
  simp only [Lit.wf, IntKind.min, IntKind.max, IntKind.signed, IntKind.bits, Bool.and_eq_true] at h
  simp at h
  omega
section
variable {H : Type} {enc : TypeId × Value → H} {w : World} {base : Nat} {spare : Nat → Bool} {held : Bool}
/-- a ticker that is handed in -/
theorem open_tick {r : Reach} {b0 : Nat} {v : Value} {d : DataW H} {p : List MemPlace} (hv : Value.okWide Try.prog w r b0 59 v) (h : DataW.Trod enc Try.prog w base spare held 59 v d p) : ∃ c n q l : Int, v = .agg #[.int .i64 c, .int .u64 n, .int .u8 q, .int .u8 l] ∧ (0 ≤ n ∧ n < 18446744073709551616) ∧ (0 ≤ q ∧ q ≤ 255) ∧ (0 ≤ l ∧ l ≤ 255) := by
  obtain ⟨cs, rfl, hsz⟩ := okWide_struct Try.underlying59 hv
  rw [cellsTk] at hsz
  obtain ⟨l⟩ := cs
  obtain ⟨fuel, hf⟩ := h
  obtain ⟨c0, c1, c2, c3, rfl⟩ : ∃ a b c d, l = [a, b, c, d] := by
    match l, hsz with
    | [a, b, c, d], _ => exact ⟨a, b, c, d, rfl⟩
  obtain ⟨xs, n, _, _, _, hlen, hfs⟩ := DataW.trod_struct Try.underlying59 (by simpa [Value.cells] using hf)
  match xs, hlen with
  | [y0, y1, y2, y3], _ =>
    have h0 := hfs 0 _ rfl
    have h1 := hfs 1 _ rfl
    have h2 := hfs 2 _ rfl
    have h3 := hfs 3 _ rfl
    have h0' : DataW.trod enc Try.prog w base spare held n 2 [c0] = some y0 := by simpa [Value.cells, cellsJk, cellsUk, cellsCk] using h0
    have h1' : DataW.trod enc Try.prog w base spare held n 32 [c1] = some y1 := by simpa [Value.cells, cellsJk, cellsUk, cellsCk] using h1
    have h2' : DataW.trod enc Try.prog w base spare held n 5 [c2] = some y2 := by simpa [Value.cells, cellsJk, cellsUk, cellsCk] using h2
    have h3' : DataW.trod enc Try.prog w base spare held n 5 [c3] = some y3 := by simpa [Value.cells, cellsJk, cellsUk, cellsCk] using h3
    obtain ⟨x0, e0, _, _⟩ := DataW.trod_int Try.underlying2 h0'
    obtain ⟨x1, e1, _, w1⟩ := DataW.trod_int Try.underlying32 h1'
    obtain ⟨x2, e2, _, w2⟩ := DataW.trod_int Try.underlying5 h2'
    obtain ⟨x3, e3, _, w3⟩ := DataW.trod_int Try.underlying5 h3'
    simp at e0 e1 e2 e3
    exact ⟨x0, x1, x2, x3, by rw [e0, e1, e2, e3], wf_u64c w1, wf_u8k w2, wf_u8k w3⟩
end
end Go.Proofs.Ytgkapopkjgljjaa.Lt
