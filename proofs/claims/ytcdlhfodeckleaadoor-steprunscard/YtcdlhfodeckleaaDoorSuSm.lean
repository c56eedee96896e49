/-
  What the program's small functions of layer 9 answer: trap, handle, jumps, number. No conditions.
-/
import Derived.Test.YtcdlhfodeckleaaDoorSuBase
namespace Go.Proofs.YtcdlhfodeckleaaDoor.Lt
open Go.RowKit Wd

/-- a register's number -/
def gt (r : List Int) (a : Int) : Int := r.getD a.toNat 0
theorem gt_get {r : List Int} {a : Nat} (h : a < r.length) : r[a]? = some (gt r (a : Int)) := by
  have : gt r (a : Int) = r[a] := by unfold gt; rw [Int.toNat_natCast, List.getD_eq_getElem?_getD, List.getElem?_eq_getElem h]; rfl
  rw [this]
  exact List.getElem?_eq_getElem h
theorem ptrap_any (t : Int) (w : World) : Calls Tryd.prog 29 #[.int .i64 t] w fun e w' => e = .returned (.agg (wt 58 0 0 0 0 0 0 0 0 t 0)) ∧ Gr w w' := by
  go_enter Tryd.func29, Tryd.ntmps29
  go_wp2
  exact bodyPost_ret (v := .agg (wt 58 0 0 0 0 0 0 0 0 t 0)) (by simp [results, Tryd.results29, go_sem, wt]) rfl ⟨rfl, by first | exact Gr.refl _ | exact Ch.alloc (Gr.refl w) _⟩
/-- a goroutine's name as a number -/
def hd (s g : Int) : Int := wrap64 (s + wrap64 (g * 4294967296))
theorem phandle_any (s g : Int) (w : World) : Calls Tryd.prog 31 #[.agg #[.int .i64 s, .int .i64 g]] w fun e w' => e = .returned (.int .i64 (hd s g)) ∧ Gr w w' := by
  go_enter Tryd.func31, Tryd.ntmps31
  go_wp2
  go_ret
  exact ⟨rfl, Gr.alloc (Gr.refl w) _ _⟩
theorem rhandle_any (s g : Int) (w : World) : Calls Tryd.prog 41 #[.agg #[.int .i64 s, .int .i64 g]] w fun e w' => e = .returned (.int .i64 (hd s g)) ∧ Gr w w' := by
  go_enter Tryd.func41, Tryd.ntmps41
  go_wp2
  go_ret
  exact ⟨rfl, Gr.alloc (Gr.refl w) _ _⟩
theorem number_any (b : Bool) (w : World) : Calls Tryd.prog 51 #[.bool b] w fun e w' => e = .returned (.int .i64 (if b = true then 1 else 0)) ∧ w' = w := by
  cases b with
  | true =>
    go_enter Tryd.func51, Tryd.ntmps51
    go_wp2
    go_ret
    exact ⟨rfl, rfl⟩
  | false =>
    go_enter Tryd.func51, Tryd.ntmps51
    go_wp2
    go_ret
    exact ⟨rfl, rfl⟩
theorem jumps_17 (w : World) (pc : Int) (r : List Int) (v : Value) (o2 o3 o4 im : Int) : Calls Tryd.prog 32 #[.agg (cC pc r v), .agg #[.int .i64 17, .int .i64 o2, .int .i64 o3, .int .i64 o4, .int .i64 im]] w fun e w' => e = .returned (.bool true) ∧ Gr w w' := by
  go_enter Tryd.func32, Tryd.ntmps32
  go_wp2
  go_ret
  exact ⟨rfl, by first | exact Ch.alloc (Ch.alloc (Gr.refl w) _) _⟩
theorem jumps_18 (w : World) (pc : Int) (r : List Int) (v : Value) (a : Nat) (x o3 o4 im : Int) (hx : r[a]? = some x) (ha : a < 16) : Calls Tryd.prog 32 #[.agg (cC pc r v), .agg #[.int .i64 18, .int .i64 (a : Int), .int .i64 o3, .int .i64 o4, .int .i64 im]] w fun e w' => e = .returned (.bool (x == 0)) ∧ Gr w w' := by
  have hc := cC_get (pc := pc) (v := v) hx
  have a0 : (0 : Int) ≤ (a : Int) := by omega
  have a1 : (a : Int) < 16 := by omega
  go_enter Tryd.func32, Tryd.ntmps32
  go_wp2
  go_ret
  exact ⟨rfl, by first | exact Ch.alloc (Ch.alloc (Gr.refl w) _) _⟩
theorem jumps_19 (w : World) (pc : Int) (r : List Int) (v : Value) (a : Nat) (x o3 o4 im : Int) (hx : r[a]? = some x) (ha : a < 16) : Calls Tryd.prog 32 #[.agg (cC pc r v), .agg #[.int .i64 19, .int .i64 (a : Int), .int .i64 o3, .int .i64 o4, .int .i64 im]] w fun e w' => e = .returned (.bool (!(x == 0))) ∧ Gr w w' := by
  have hc := cC_get (pc := pc) (v := v) hx
  have a0 : (0 : Int) ≤ (a : Int) := by omega
  have a1 : (a : Int) < 16 := by omega
  go_enter Tryd.func32, Tryd.ntmps32
  go_wp2
  go_ret
  exact ⟨rfl, by first | exact Ch.alloc (Ch.alloc (Gr.refl w) _) _⟩
end Go.Proofs.YtcdlhfodeckleaaDoor.Lt
