/-
  How sixteen numbers that are handed in read. No conditions.
-/
import Derived.Test.YtcdlhfodeckleaaDoorStBegin
import Derived.Test.YtcdlhfodeckleaaDoorStFrame
import Derived.Test.YtcdlhfodeckleaaDoorPpFrame3
namespace Go.Proofs.YtcdlhfodeckleaaDoor.Lt
open Go.ChangeShapes Go.WideShapes Go.ChangeAt Go.RowKit Go.Deep Go.Joins Wd
set_option maxRecDepth 100000

theorem open_regs {H : Type} {enc : TypeId × Value → H} {w : World} {base : Nat} {spare : Nat → Bool} {held : Bool} {r : Reach} {b0 : Nat} {v : Value} {d : DataW H} {p : List MemPlace}
    (hv : Value.okWide Tryd.prog w r b0 27 v) (h : DataW.Trod enc Tryd.prog w base spare held 27 v d p) : ∃ rg : List Int, v = .agg (rA rg) ∧ rg.length = 16 := by
  simp only [Value.okWide, Tryd.underlying27] at hv
  obtain ⟨vs, rfl, _⟩ := hv
  obtain ⟨fuel, hf⟩ := h
  obtain ⟨rg, hr, e⟩ := open_sixteen hf
  refine ⟨rg, ?_, hr⟩
  have e' : vs.toList = rg.map (Value.int .i64) := by simpa [Value.cells] using e
  unfold rA
  rw [← e']
end Go.Proofs.YtcdlhfodeckleaaDoor.Lt
