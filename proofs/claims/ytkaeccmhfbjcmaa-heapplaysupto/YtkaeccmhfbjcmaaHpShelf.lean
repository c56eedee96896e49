/-
  slices.SortFunc of the shelf, laid at this program. No conditions.
-/
import Derived.Test.YtkaeccmhfbjcmaaHpItems
import Derived.Shelf.SlSortCmp.WholeK
import Derived.Shelf.Lay
import Derived.Ground.SlsfProg
namespace Go.Proofs
open Go.Shelf Go.RowKit Go.Lib Go.Sort
shelf_lay_g SlLaysF0.n6 Slsf 6 at Try 31 as Try.sortDue
#check @Try.sortDue
end Go.Proofs
