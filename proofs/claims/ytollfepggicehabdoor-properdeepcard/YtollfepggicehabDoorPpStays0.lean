/-
  A small number in memory. No conditions.
-/
import Derived.Test.YtollfepggicehabDoorPpBase
namespace Go.Proofs.YtollfepggicehabDoor.Lt
open Go.RowKit Wd

def eY (n : Int) : List Value := [.int .u8 n]
theorem eY_len (n : Int) : (eY n).length = 1 := rfl
end Go.Proofs.YtollfepggicehabDoor.Lt
