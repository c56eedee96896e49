/-
  How a reply that is handed in reads. No conditions.
-/
import Derived.Test.YtcdlhfodeckleaaDoorStFrame
namespace Go.Proofs.YtcdlhfodeckleaaDoor.Lt
open Go.ChangeShapes Go.WideShapes Go.ChangeAt Go.RowKit Go.Deep Go.Joins Wd
set_option maxRecDepth 100000

theorem cRp : Tryd.prog.cellsOf 54 = 7 := by kernel_rfl
theorem open_reply {H : Type} {enc : TypeId × Value → H} {w : World} {base : Nat} {spare : Nat → Bool} {held : Bool} {r : Reach} {b0 : Nat} {v : Value} {d : DataW H} {p : List MemPlace}
    (hv : Value.okWide Tryd.prog w r b0 54 v) (h : DataW.Trod enc Tryd.prog w base spare held 54 v d p) : ∃ o a b c m x k : Int, v = .agg #[.int .i64 o, .int .i64 a, .int .i64 b, .int .i64 c, .int .i64 m, .int .i64 x, .int .i64 k] := by
  obtain ⟨vs, rfl, hsz⟩ := okWide_struct Tryd.underlying54 hv
  rw [cRp] at hsz
  obtain ⟨fuel, hf⟩ := h
  obtain ⟨l⟩ := vs
  match l, hsz with
  | [c0, c1, c2, c3, c4, c5, c6], _ =>
    obtain ⟨xs, n, _, hx, hl, hlen, hfs⟩ := DataW.trod_struct Tryd.underlying54 hf
    match xs, hlen with
    | [y0, y1, y2], _ =>
      have h0 := hfs 0 _ rfl
      have h1 := hfs 1 _ rfl
      have h2 := hfs 2 _ rfl
      have h0' : DataW.trod enc Tryd.prog w base spare held n 46 [c0, c1, c2, c3, c4] = some y0 := by simpa [Value.cells, cellsN] using h0
      have h1' : DataW.trod enc Tryd.prog w base spare held n 2 [c5] = some y1 := by simpa [Value.cells, cL] using h1
      have h2' : DataW.trod enc Tryd.prog w base spare held n 2 [c6] = some y2 := by simpa [Value.cells, cL] using h2
      obtain ⟨o, a, b, c, m, rfl, rfl, rfl, rfl, rfl, _⟩ := trod_five Tryd.underlying46 ⟨rfl, rfl, rfl, rfl, rfl⟩ ⟨rfl, rfl, rfl, rfl, rfl⟩ h0'
      obtain ⟨x, e1, _⟩ := DataW.trod_int Tryd.underlying2 h1'
      obtain ⟨k, e2, _⟩ := DataW.trod_int Tryd.underlying2 h2'
      simp at e1 e2
      exact ⟨o, a, b, c, m, x, k, by rw [e1, e2]⟩
end Go.Proofs.YtcdlhfodeckleaaDoor.Lt
