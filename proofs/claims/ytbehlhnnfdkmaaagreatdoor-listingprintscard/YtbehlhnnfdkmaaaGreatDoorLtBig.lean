/-
  How many blocks there are at least: one for each package-level variable. No conditions.
-/
import Derived.Test.YtbehlhnnfdkmaaaGreatDoorLtFrame
namespace Go.Proofs.YtbehlhnnfdkmaaaGreatDoor.Lt
open Go.RowKit Wd

theorem big_of {W : World} (hs : W.ShapedOpen Tryz.prog) : 10 < W.heap.size := by
  have h0 : (((begin Tryz.prog (fun _ _ => 0) default).world.heap[10]?).bind Obj.row?).isSome = true := by kernel_rfl
  obtain ⟨⟨zero, t⟩, h1⟩ := Option.isSome_iff_exists.1 h0
  obtain ⟨cs, hh, _⟩ := hs.1 10 zero t (of_decide_eq_true (by kernel_rfl)) h1
  exact lt_of_block hh
end Go.Proofs.YtbehlhnnfdkmaaaGreatDoor.Lt
