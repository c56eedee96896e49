/-
  Where paths lead, the document's way: reached; Path of the document. Conditions: at most 16 domains, edges that may be, a list that is not too long.
-/
import Derived.Test.YtcoaefojamhloabPyBits
import Derived.Test.YtcoaefojamhloabPyAsk
import Derived.Test.YtcoaefojamhloabPyRChk
namespace Go.Proofs.Ytcoaefojamhloab.Lt
open Go.RowKit Wd
attribute [local go_sem ↓] Go.wp_at_zero Go.wp_at_succ
set_option maxRecDepth 20000

theorem rnd_step {l : List Eg} {s : St} {j : Nat} {x : Eg} (h : l[j]? = some x) : (l.take (j + 1)).foldl stS s = stS ((l.take j).foldl stS s) x := by
  rw [List.take_add_one, h, List.foldl_append]
  rfl
end Go.Proofs.Ytcoaefojamhloab.Lt
