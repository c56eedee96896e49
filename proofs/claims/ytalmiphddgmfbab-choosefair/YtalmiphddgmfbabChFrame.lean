/-
  How lists of numbers and of draws that are handed in read. No conditions.
-/
import Derived.Test.YtalmiphddgmfbabGnFrame
import Derived.Test.YtalmiphddgmfbabChOrd
namespace Go.Proofs.Ytalmiphddgmfbab.Lt
open Go.ChangeShapes Go.WideShapes Go.ChangeAt Go.RowKit Go.Deep Go.Joins Wd
set_option maxRecDepth 100000

theorem cellsU : Try.prog.cellsOf 77 = 1 := by kernel_rfl
theorem bytesU : Try.prog.bytesOf 77 = 8 := by kernel_rfl
theorem bytesI : Try.prog.bytesOf 3 = 8 := by kernel_rfl
theorem wf_u64 {n : Int} (h : (Lit.int .u64 n).wf = true) : 0 ≤ n ∧ n ≤ 18446744073709551615 := by
  simp only [Lit.wf, IntKind.min, IntKind.max, IntKind.signed, IntKind.bits, Bool.and_eq_true] at h
  simp at h
  omega
section
variable {H : Type} {enc : TypeId × Value → H} {w : World} {base : Nat} {spare : Nat → Bool} {held : Bool}
theorem el_int (n : Nat) (cs : List Value) (z : DataW H × List MemPlace) (_hl : cs.length = 1) (h : DataW.trod enc Try.prog w base spare held n 3 cs = some z) : ∃ x : Int, cs = eI x ∧ True := by
  obtain ⟨x, e1, _, _⟩ := DataW.trod_int Try.underlying3 h
  exact ⟨x, by rw [e1]; rfl, trivial⟩
/-- draws that are handed in -/
theorem open_draws {r : Reach} {b0 : Nat} {v : Value} {d : DataW H} {p : List MemPlace} {ts : List TypeId} {ds : List (DataW H)} {j : Nat}
    (hv : Value.okWide Try.prog w r b0 26 v) (h : DataW.Trod enc Try.prog w base spare held 26 v d p) (hz : (DataW.weightsEach Try.prog ts ds).all (· ≤ reachBytes) = true) (ht : ts[j]? = some 26) (hd : ds[j]? = some d) :
    ∃ xs : List Int, Ls eU (· < w.heap.size) w v xs ∧ xs.length * 8 ≤ 140737488351232 ∧ Dok xs := by
  obtain ⟨va, vl, vc, rfl⟩ := okWide_slice Try.underlying26 hv
  obtain ⟨fuel, hf⟩ := h
  have hf' : DataW.trod enc Try.prog w base spare held fuel 26 [.slice va vl vc] = some (d, p) := hf
  obtain ⟨xs, lx, sx⟩ := open_gen eU Try.underlying26 cellsU eU_len (by omega) (fun x _ => 0 ≤ x ∧ x ≤ 18446744073709551615) (fun n cs z _ h => by
    obtain ⟨x, e1, _, hw⟩ := DataW.trod_int Try.underlying77 h
    exact ⟨x, by rw [e1]; rfl, wf_u64 hw⟩) hf'
  refine ⟨xs, lx, ?_, ?_⟩
  · rcases sx with ⟨e1, _⟩ | ⟨el, sp, e1, hle, _⟩
    · rw [e1]; simp
    · have e9 : d = .slice el sp := e1
      subst e9
      have := sized_slice hz ht hd Try.underlying26
      rw [bytesU] at this
      have e' : reachBytes = 140737488351232 := by decide
      rw [e'] at this
      rw [← hle]
      omega
  · intro x hx
    rcases sx with ⟨e1, _⟩ | ⟨el, sp, e1, hle, hq⟩
    · rw [e1] at hx; cases hx
    · obtain ⟨i, hi⟩ := List.mem_iff_getElem?.1 hx
      obtain ⟨_, _, h2⟩ := hq i x hi
      exact h2
end
end Go.Proofs.Ytalmiphddgmfbab.Lt
