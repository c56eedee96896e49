/-
  A want in cells; the context in memory left whole. No conditions.
-/
import Derived.Test.YtcdlhfodeckleaaDoorStStep1
namespace Go.Proofs.YtcdlhfodeckleaaDoor.Lt
open Go.RowKit Wd

/-- a want's cells: its operation, its instruction, its three numbers, its trap and code -/
def wt (op i1 i2 i3 i4 i5 x y z t c : Int) : Array Value := #[.int .i64 op, .int .i64 i1, .int .i64 i2, .int .i64 i3, .int .i64 i4, .int .i64 i5, .int .i64 x, .int .i64 y, .int .i64 z, .int .i64 t, .int .i64 c]
theorem wt_one (op i1 i2 i3 i4 i5 x y z t c : Int) : (wt op i1 i2 i3 i4 i5 x y z t c).all (·.oneCell') = true := by simp [wt, Value.oneCell']
theorem wt_is (op i1 i2 i3 i4 i5 x y z t c : Int) : (#[.int .i64 op, .int .i64 i1, .int .i64 i2, .int .i64 i3, .int .i64 i4, .int .i64 i5, .int .i64 x, .int .i64 y, .int .i64 z, .int .i64 t, .int .i64 c] : Array Value) = wt op i1 i2 i3 i4 i5 x y z t c := rfl
theorem cC_pc (pc : Int) (r : List Int) (v : Value) : (cC pc r v)[0]? = some (.int .i64 pc) := by unfold cC; simp
theorem cC_v {r : List Int} (hr : r.length = 16) (pc : Int) (v : Value) : (cC pc r v)[17]? = some v := by
  unfold cC
  rw [List.getElem?_toArray, List.getElem?_cons_succ, List.getElem?_append_right (by simp [hr])]
  simp [hr]
theorem cC_setpc (pc p : Int) (r : List Int) (v : Value) : (cC pc r v).setIfInBounds 0 (.int .i64 p) = cC p r v := by
  unfold cC
  rw [List.setIfInBounds_toArray, List.set_cons_zero]
theorem cC_setv {r : List Int} (hr : r.length = 16) (pc : Int) (v u : Value) : (cC pc r v).setIfInBounds 17 u = cC pc r u := by
  unfold cC
  rw [List.setIfInBounds_toArray, List.set_cons_succ, List.set_append_right _ _ (by simp [hr])]
  simp [hr]
end Go.Proofs.YtcdlhfodeckleaaDoor.Lt
