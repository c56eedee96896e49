/-
  How a list of calls, of accesses and of numbers that is handed in reads. No conditions.
-/
import Derived.Test.YtpmhmikefkgbdabGnFrame
import Derived.Test.YtpmhmikefkgbdabClBase
namespace Go.Proofs.Ytpmhmikefkgbdab.Lt
open Go.ChangeShapes Go.WideShapes Go.ChangeAt Go.RowKit Go.Deep Go.Joins Wd
set_option maxRecDepth 100000

theorem cellsJ : Try.prog.cellsOf 2 = 1 := by kernel_rfl
theorem cellsB : Try.prog.cellsOf 4 = 1 := by kernel_rfl
theorem cellsO : Try.prog.cellsOf 35 = 4 := by kernel_rfl
theorem cellsA : Try.prog.cellsOf 28 = 5 := by kernel_rfl
theorem bytesJ : Try.prog.bytesOf 2 = 8 := by kernel_rfl
theorem bytesO : Try.prog.bytesOf 35 = 32 := by kernel_rfl
theorem bytesA : Try.prog.bytesOf 28 = 40 := by kernel_rfl
section
variable {H : Type} {enc : TypeId × Value → H} {w : World} {base : Nat} {spare : Nat → Bool} {held : Bool}
theorem el_num (n : Nat) (cs : List Value) (z : DataW H × List MemPlace) (_hl : cs.length = 1) (h : DataW.trod enc Try.prog w base spare held n 2 cs = some z) : ∃ x : Int, cs = eI x ∧ True := by
  obtain ⟨x, e1, _, _⟩ := DataW.trod_int Try.underlying2 h
  exact ⟨x, by rw [e1]; rfl, trivial⟩
theorem el_op (n : Nat) (cs : List Value) (z : DataW H × List MemPlace) (hl : cs.length = 4) (h : DataW.trod enc Try.prog w base spare held n 35 cs = some z) : ∃ x : O4, cs = eO x ∧ True := by
  obtain ⟨c0, c1, c2, c3, rfl⟩ : ∃ a b c d, cs = [a, b, c, d] := by
    match cs, hl with
    | [a, b, c, d], _ => exact ⟨a, b, c, d, rfl⟩
  obtain ⟨xs, n, _, _, _, hlen, hfs⟩ := DataW.trod_struct Try.underlying35 h
  match xs, hlen with
  | [y0, y1, y2, y3], _ =>
    have h0 := hfs 0 _ rfl
    have h1 := hfs 1 _ rfl
    have h2 := hfs 2 _ rfl
    have h3 := hfs 3 _ rfl
    have h0' : DataW.trod enc Try.prog w base spare held n 3 [c0] = some y0 := by simpa [Value.cells, cellsI] using h0
    have h1' : DataW.trod enc Try.prog w base spare held n 3 [c1] = some y1 := by simpa [Value.cells, cellsI] using h1
    have h2' : DataW.trod enc Try.prog w base spare held n 2 [c2] = some y2 := by simpa [Value.cells, cellsJ] using h2
    have h3' : DataW.trod enc Try.prog w base spare held n 2 [c3] = some y3 := by simpa [Value.cells, cellsJ] using h3
    obtain ⟨x0, e0, _, _⟩ := DataW.trod_int Try.underlying3 h0'
    obtain ⟨x1, e1, _, _⟩ := DataW.trod_int Try.underlying3 h1'
    obtain ⟨x2, e2, _, _⟩ := DataW.trod_int Try.underlying2 h2'
    obtain ⟨x3, e3, _, _⟩ := DataW.trod_int Try.underlying2 h3'
    simp at e0 e1 e2 e3
    exact ⟨⟨x0, x1, x2, x3⟩, by rw [e0, e1, e2, e3]; rfl, trivial⟩
theorem el_acc (n : Nat) (cs : List Value) (z : DataW H × List MemPlace) (hl : cs.length = 5) (h : DataW.trod enc Try.prog w base spare held n 28 cs = some z) : ∃ x : Ac, cs = eA x ∧ True := by
  obtain ⟨c0, c1, c2, c3, c4, rfl⟩ : ∃ a b c d e, cs = [a, b, c, d, e] := by
    match cs, hl with
    | [a, b, c, d, e], _ => exact ⟨a, b, c, d, e, rfl⟩
  obtain ⟨xs, n, _, _, _, hlen, hfs⟩ := DataW.trod_struct Try.underlying28 h
  match xs, hlen with
  | [y0, y1, y2, y3, y4], _ =>
    have h0 := hfs 0 _ rfl
    have h1 := hfs 1 _ rfl
    have h2 := hfs 2 _ rfl
    have h3 := hfs 3 _ rfl
    have h4 := hfs 4 _ rfl
    have h0' : DataW.trod enc Try.prog w base spare held n 3 [c0] = some y0 := by simpa [Value.cells, cellsI] using h0
    have h1' : DataW.trod enc Try.prog w base spare held n 3 [c1] = some y1 := by simpa [Value.cells, cellsI] using h1
    have h2' : DataW.trod enc Try.prog w base spare held n 2 [c2] = some y2 := by simpa [Value.cells, cellsJ] using h2
    have h3' : DataW.trod enc Try.prog w base spare held n 2 [c3] = some y3 := by simpa [Value.cells, cellsJ] using h3
    have h4' : DataW.trod enc Try.prog w base spare held n 4 [c4] = some y4 := by simpa [Value.cells, cellsB] using h4
    obtain ⟨x0, e0, _, _⟩ := DataW.trod_int Try.underlying3 h0'
    obtain ⟨x1, e1, _, _⟩ := DataW.trod_int Try.underlying3 h1'
    obtain ⟨x2, e2, _, _⟩ := DataW.trod_int Try.underlying2 h2'
    obtain ⟨x3, e3, _, _⟩ := DataW.trod_int Try.underlying2 h3'
    obtain ⟨x4, e4, _⟩ := DataW.trod_bool Try.underlying4 h4'
    simp at e0 e1 e2 e3 e4
    exact ⟨⟨x0, x1, x2, x3, x4⟩, by rw [e0, e1, e2, e3, e4]; rfl, trivial⟩
/-- a call that is handed in -/
theorem open_call {r : Reach} {b0 : Nat} {v : Value} {d : DataW H} {p : List MemPlace} (hv : Value.okWide Try.prog w r b0 35 v) (h : DataW.Trod enc Try.prog w base spare held 35 v d p) : ∃ o : O4, v = .agg #[.int .i64 o.k, .int .i64 o.c, .int .i64 o.o, .int .i64 o.v] := by
  obtain ⟨cs, rfl, hsz⟩ := okWide_struct Try.underlying35 hv
  obtain ⟨l⟩ := cs
  obtain ⟨fuel, hf⟩ := h
  obtain ⟨x, hx, _⟩ := el_op _ l _ (hsz.trans cellsO) (by simpa [Value.cells] using hf)
  exact ⟨x, by rw [hx]; rfl⟩
end
end Go.Proofs.Ytpmhmikefkgbdab.Lt
