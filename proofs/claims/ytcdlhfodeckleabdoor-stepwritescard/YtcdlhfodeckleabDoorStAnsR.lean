/-
  What the document's Answer answers. No conditions.
-/
import Derived.Test.YtcdlhfodeckleabDoorStReg
namespace Go.Proofs.YtcdlhfodeckleabDoor.Lt
open Go.RowKit Wd

end Go.Proofs.YtcdlhfodeckleabDoor.Lt
