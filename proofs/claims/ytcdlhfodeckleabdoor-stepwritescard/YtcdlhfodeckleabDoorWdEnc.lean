/-
  What the program's Encode answers. Condition: the tables lie where they lie.
-/
import Derived.Test.YtcdlhfodeckleabDoorWdBits
namespace Go.Proofs.YtcdlhfodeckleabDoor.Wd
open Go.RowKit

end Go.Proofs.YtcdlhfodeckleabDoor.Wd
