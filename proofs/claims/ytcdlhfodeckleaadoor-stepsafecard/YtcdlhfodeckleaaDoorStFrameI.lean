/-
  A list of numbers that an argument tells. No conditions.
-/
import Derived.Test.YtcdlhfodeckleaaDoorStFrame
import Derived.Test.YtcdlhfodeckleaaDoorPpFrame3
namespace Go.Proofs.YtcdlhfodeckleaaDoor.Lt
open Go.ChangeShapes Go.WideShapes Go.ChangeAt Go.RowKit Wd

theorem cI64 : Tryd.prog.cellsOf 2 = 1 := by kernel_rfl
theorem bI64 : Tryd.prog.bytesOf 2 = 8 := by kernel_rfl
section
variable {H : Type} {enc : TypeId × Value → H} {w : World} {base : Nat} {spare : Nat → Bool} {held : Bool}
theorem el_i64 (n : Nat) (cs : List Value) (z : DataW H × List MemPlace) (_hl : cs.length = 1) (h : DataW.trod enc Tryd.prog w base spare held n 2 cs = some z) : ∃ x : Int, cs = eI x ∧ True := by
  obtain ⟨x, e1, _, _⟩ := DataW.trod_int Tryd.underlying2 h
  exact ⟨x, by rw [e1]; rfl, trivial⟩
set_option maxRecDepth 100000 in
theorem open_i64s {r : Reach} {b0 : Nat} {v : Value} {d : DataW H} {p : List MemPlace} {ts : List TypeId} {ds : List (DataW H)} {j : Nat}
    (hv : Value.okWide Tryd.prog w r b0 57 v) (h : DataW.Trod enc Tryd.prog w base spare held 57 v d p) (hz : (DataW.weightsEach Tryd.prog ts ds).all (· ≤ reachBytes) = true) (ht : ts[j]? = some 57) (hd : ds[j]? = some d) :
    ∃ (ao : Option Addr) (n cap : Nat) (ys : List Int), v = .slice ao n cap ∧ Ls eI (· < w.heap.size) w (.slice ao n cap) ys ∧ n ≤ 17592186044416 := by
  obtain ⟨va, vl, vc, rfl⟩ := okWide_slice Tryd.underlying57 hv
  obtain ⟨fuel, hf⟩ := h
  have hf' : DataW.trod enc Tryd.prog w base spare held fuel 57 [.slice va vl vc] = some (d, p) := hf
  have hb : ∀ k ∈ d.weights Tryd.prog 57, k ≤ 140737488351232 := fun k hk => by
    have e' : reachBytes = 140737488351232 := by decide
    have := List.all_eq_true.1 hz _ (DataW.weights_mem_each ht hd k hk)
    simp only [decide_eq_true_eq] at this
    omega
  obtain ⟨ys, ly, sy⟩ := open_gen eI Tryd.underlying57 cI64 eI_len (by omega) (fun _ _ => True) (fun n cs z hl h => el_i64 n cs z hl h) hf'
  refine ⟨va, vl, vc, ys, rfl, ly, ?_⟩
  rw [ly.len.1]
  rcases sy with ⟨e, _⟩ | ⟨el, sp, e, hle, _⟩
  · rw [e]; simp
  · have := hb ((el.length + sp.length) * 8) (by
      have e9 : d = .slice el sp := e
      rw [e9]
      simp only [DataW.weights, Tryd.underlying57, bI64]
      exact List.mem_cons_self)
    omega
end
end Go.Proofs.YtcdlhfodeckleaaDoor.Lt
