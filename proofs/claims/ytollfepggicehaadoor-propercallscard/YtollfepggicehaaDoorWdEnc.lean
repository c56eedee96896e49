/-
  What the program's Encode answers. Condition: the tables lie where they lie.
-/
import Derived.Test.YtollfepggicehaaDoorWdBits
namespace Go.Proofs.YtollfepggicehaaDoor.Wd
open Go.RowKit

end Go.Proofs.YtollfepggicehaaDoor.Wd
