/-
  What the program's Encode answers. Condition: the tables lie where they lie.
-/
import Derived.Test.YtollfepggicehabDoorWdBits
namespace Go.Proofs.YtollfepggicehabDoor.Wd
open Go.RowKit

end Go.Proofs.YtollfepggicehabDoor.Wd
