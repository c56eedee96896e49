/-
  How a call of timers that is handed in reads. No conditions.
-/
import Derived.Test.YtgkapopkjgljjabGnFrame
namespace Go.Proofs.Ytgkapopkjgljjab.Lt
open Go.ChangeShapes Go.WideShapes Go.ChangeAt Go.RowKit Go.Deep Go.Joins Wd
set_option maxRecDepth 100000

theorem cellsJ : Try.prog.cellsOf 2 = 1 := by kernel_rfl
theorem cellsU : Try.prog.cellsOf 22 = 1 := by kernel_rfl
theorem cellsGd : Try.prog.cellsOf 30 = 2 := by kernel_rfl
theorem cellsO : Try.prog.cellsOf 34 = 6 := by kernel_rfl
section
variable {H : Type} {enc : TypeId × Value → H} {w : World} {base : Nat} {spare : Nat → Bool} {held : Bool}
theorem el_op (n : Nat) (cs : List Value) (z : DataW H × List MemPlace) (hl : cs.length = 6) (h : DataW.trod enc Try.prog w base spare held n 34 cs = some z) : ∃ d s g c n k : Int, cs = [.int .i64 d, .int .i64 s, .int .i64 g, .int .i64 c, .int .u64 n, .int .u64 k] := by
  obtain ⟨c0, c1, c2, c3, c4, c5, rfl⟩ : ∃ a b c d e f, cs = [a, b, c, d, e, f] := by
    match cs, hl with
    | [a, b, c, d, e, f], _ => exact ⟨a, b, c, d, e, f, rfl⟩
  obtain ⟨xs, n, _, _, _, hlen, hfs⟩ := DataW.trod_struct Try.underlying34 h
  match xs, hlen with
  | [y0, y1, y2, y3, y4], _ =>
    have h0 := hfs 0 _ rfl
    have h1 := hfs 1 _ rfl
    have h2 := hfs 2 _ rfl
    have h3 := hfs 3 _ rfl
    have h4 := hfs 4 _ rfl
    have h0' : DataW.trod enc Try.prog w base spare held n 3 [c0] = some y0 := by simpa [Value.cells, cellsI, cellsJ, cellsGd, cellsU] using h0
    have h1' : DataW.trod enc Try.prog w base spare held n 30 [c1, c2] = some y1 := by simpa [Value.cells, cellsI, cellsJ, cellsGd, cellsU] using h1
    have h2' : DataW.trod enc Try.prog w base spare held n 2 [c3] = some y2 := by simpa [Value.cells, cellsI, cellsJ, cellsGd, cellsU] using h2
    have h3' : DataW.trod enc Try.prog w base spare held n 22 [c4] = some y3 := by simpa [Value.cells, cellsI, cellsJ, cellsGd, cellsU] using h3
    have h4' : DataW.trod enc Try.prog w base spare held n 22 [c5] = some y4 := by simpa [Value.cells, cellsI, cellsJ, cellsGd, cellsU] using h4
    obtain ⟨x0, e0, _, _⟩ := DataW.trod_int Try.underlying3 h0'
    obtain ⟨x3, e3, _, _⟩ := DataW.trod_int Try.underlying2 h2'
    obtain ⟨x4, e4, _, _⟩ := DataW.trod_int Try.underlying22 h3'
    obtain ⟨x5, e5, _, _⟩ := DataW.trod_int Try.underlying22 h4'
    obtain ⟨zs, m, _, _, _, hlen2, hgs⟩ := DataW.trod_struct Try.underlying30 h1'
    match zs, hlen2 with
    | [z0, z1], _ =>
      have k0 := hgs 0 _ rfl
      have k1 := hgs 1 _ rfl
      have k0' : DataW.trod enc Try.prog w base spare held m 3 [c1] = some z0 := by simpa [Value.cells, cellsI] using k0
      have k1' : DataW.trod enc Try.prog w base spare held m 3 [c2] = some z1 := by simpa [Value.cells, cellsI] using k1
      obtain ⟨x1, e1, _, _⟩ := DataW.trod_int Try.underlying3 k0'
      obtain ⟨x2, e2, _, _⟩ := DataW.trod_int Try.underlying3 k1'
      simp at e0 e1 e2 e3 e4 e5
      exact ⟨x0, x1, x2, x3, x4, x5, by rw [e0, e1, e2, e3, e4, e5]⟩
/-- a call that is handed in -/
theorem open_call {r : Reach} {b0 : Nat} {v : Value} {d : DataW H} {p : List MemPlace} (hv : Value.okWide Try.prog w r b0 34 v) (h : DataW.Trod enc Try.prog w base spare held 34 v d p) : ∃ d s g c n k : Int, v = .agg #[.int .i64 d, .int .i64 s, .int .i64 g, .int .i64 c, .int .u64 n, .int .u64 k] := by
  obtain ⟨cs, rfl, hsz⟩ := okWide_struct Try.underlying34 hv
  obtain ⟨l⟩ := cs
  obtain ⟨fuel, hf⟩ := h
  obtain ⟨d, s, g, c, n, k, hx⟩ := el_op _ l _ (hsz.trans cellsO) (by simpa [Value.cells] using hf)
  exact ⟨d, s, g, c, n, k, by rw [hx]⟩
end
end Go.Proofs.Ytgkapopkjgljjab.Lt
