/-
  What the program's Encode answers. Condition: the tables lie where they lie.
-/
import Derived.Test.YtcdlhfodeckleaaDoorWdBits
namespace Go.Proofs.YtcdlhfodeckleaaDoor.Wd
open Go.RowKit

end Go.Proofs.YtcdlhfodeckleaaDoor.Wd
