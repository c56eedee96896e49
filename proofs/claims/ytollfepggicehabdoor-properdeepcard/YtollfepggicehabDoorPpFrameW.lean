/-
  A list of small numbers that an argument tells. No conditions.
-/
import Derived.Test.YtollfepggicehabDoorPpFrame3
import Derived.Test.YtollfepggicehabDoorPpStays0
namespace Go.Proofs.YtollfepggicehabDoor.Lt
open Go.ChangeShapes Go.WideShapes Go.ChangeAt Go.RowKit Wd

theorem cY : Tryd.prog.cellsOf 5 = 1 := by kernel_rfl
theorem bY : Tryd.prog.bytesOf 5 = 1 := by kernel_rfl
section
variable {H : Type} {enc : TypeId × Value → H} {w : World} {base : Nat} {spare : Nat → Bool} {held : Bool}
theorem el_byte (n : Nat) (cs : List Value) (z : DataW H × List MemPlace) (_hl : cs.length = 1) (h : DataW.trod enc Tryd.prog w base spare held n 5 cs = some z) : ∃ x : Int, cs = eY x ∧ 0 ≤ x ∧ x < 256 := by
  obtain ⟨x, e1, _, hw⟩ := DataW.trod_int Tryd.underlying5 h
  simp [Lit.wf, IntKind.min, IntKind.max, IntKind.signed, IntKind.bits] at hw
  exact ⟨x, by rw [e1]; rfl, by omega, by omega⟩
set_option maxRecDepth 100000 in
theorem open_ways {r : Reach} {b0 : Nat} {v : Value} {d : DataW H} {p : List MemPlace} {ts : List TypeId} {ds : List (DataW H)} {j : Nat}
    (hv : Value.okWide Tryd.prog w r b0 27 v) (h : DataW.Trod enc Tryd.prog w base spare held 27 v d p) (hz : (DataW.weightsEach Tryd.prog ts ds).all (· ≤ reachBytes) = true) (ht : ts[j]? = some 27) (hd : ds[j]? = some d) :
    ∃ (ao : Option Addr) (n cap : Nat) (ys : List Int), v = .slice ao n cap ∧ Ls eY (· < w.heap.size) w (.slice ao n cap) ys ∧ n ≤ 140737488355328 ∧ ∀ y ∈ ys, 0 ≤ y ∧ y < 256 := by
  obtain ⟨va, vl, vc, rfl⟩ := okWide_slice Tryd.underlying27 hv
  obtain ⟨fuel, hf⟩ := h
  have hf' : DataW.trod enc Tryd.prog w base spare held fuel 27 [.slice va vl vc] = some (d, p) := hf
  have hb : ∀ k ∈ d.weights Tryd.prog 27, k ≤ 140737488351232 := fun k hk => by
    have e' : reachBytes = 140737488351232 := by decide
    have := List.all_eq_true.1 hz _ (DataW.weights_mem_each ht hd k hk)
    simp only [decide_eq_true_eq] at this
    omega
  obtain ⟨ys, ly, sy⟩ := open_gen eY Tryd.underlying27 cY eY_len (by omega) (fun x _ => 0 ≤ x ∧ x < 256) (fun n cs z hl h => el_byte n cs z hl h) hf'
  refine ⟨va, vl, vc, ys, rfl, ly, ?_, fun x hm => ?_⟩
  · rw [ly.len.1]
    rcases sy with ⟨e, _⟩ | ⟨el, sp, e, hle, _⟩
    · rw [e]; simp
    · have := hb ((el.length + sp.length) * 1) (by
        have e9 : d = .slice el sp := e
        rw [e9]
        simp only [DataW.weights, Tryd.underlying27, bY]
        exact List.mem_cons_self)
      omega
  · obtain ⟨i, hi⟩ := List.getElem?_of_mem hm
    rcases sy with ⟨e, _⟩ | ⟨el, sp, e, _, hq⟩
    · rw [e] at hm
      cases hm
    · obtain ⟨_, _, h2⟩ := hq i x hi
      exact h2
end
end Go.Proofs.YtollfepggicehabDoor.Lt
