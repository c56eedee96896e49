/-
  How a list of acts that is handed in reads. No conditions.
-/
import Derived.Test.YtpkbgfneebjnjabCpFrame
import Derived.Test.YtpkbgfneebjnjabCnMe
namespace Go.Proofs.Ytpkbgfneebjnjab.Lt
open Go.ChangeShapes Go.WideShapes Go.ChangeAt Go.RowKit Go.Deep Go.Joins Wd
set_option maxRecDepth 100000

theorem cellsAc : Try.prog.cellsOf 39 = 7 := by kernel_rfl
theorem cellsGd : Try.prog.cellsOf 37 = 2 := by kernel_rfl
theorem bytesAc : Try.prog.bytesOf 39 = 56 := by kernel_rfl
theorem wf_i64c {n : Int} (h : (Lit.int .i64 n).wf = true) : -9223372036854775808 ≤ n ∧ n ≤ 9223372036854775807 := by
  simp only [Lit.wf, IntKind.min, IntKind.max, IntKind.signed, IntKind.bits, Bool.and_eq_true] at h
  simp at h
  omega
section
variable {H : Type} {enc : TypeId × Value → H} {w : World} {base : Nat} {spare : Nat → Bool} {held : Bool}
theorem el_act (n : Nat) (cs : List Value) (z : DataW H × List MemPlace) (hl : cs.length = 7) (h : DataW.trod enc Try.prog w base spare held n 39 cs = some z) : ∃ x : Ac, cs = eA x ∧ Gok x.s x.g := by
  obtain ⟨c0, c1, c2, c3, c4, c5, c6, rfl⟩ : ∃ a b c d e f g, cs = [a, b, c, d, e, f, g] := by
    match cs, hl with
    | [a, b, c, d, e, f, g], _ => exact ⟨a, b, c, d, e, f, g, rfl⟩
  obtain ⟨xs, n, _, _, _, hlen, hfs⟩ := DataW.trod_struct Try.underlying39 h
  match xs, hlen with
  | [y0, y1, y2, y3, y4, y5], _ =>
    have h0 := hfs 0 _ rfl
    have h1 := hfs 1 _ rfl
    have h2 := hfs 2 _ rfl
    have h3 := hfs 3 _ rfl
    have h4 := hfs 4 _ rfl
    have h5 := hfs 5 _ rfl
    have h0' : DataW.trod enc Try.prog w base spare held n 3 [c0] = some y0 := by simpa [Value.cells, cellsI, cellsJ, cellsGd, cellsB] using h0
    have h1' : DataW.trod enc Try.prog w base spare held n 2 [c1] = some y1 := by simpa [Value.cells, cellsI, cellsJ, cellsGd, cellsB] using h1
    have h2' : DataW.trod enc Try.prog w base spare held n 37 [c2, c3] = some y2 := by simpa [Value.cells, cellsI, cellsJ, cellsGd, cellsB] using h2
    have h3' : DataW.trod enc Try.prog w base spare held n 2 [c4] = some y3 := by simpa [Value.cells, cellsI, cellsJ, cellsGd, cellsB] using h3
    have h4' : DataW.trod enc Try.prog w base spare held n 3 [c5] = some y4 := by simpa [Value.cells, cellsI, cellsJ, cellsGd, cellsB] using h4
    have h5' : DataW.trod enc Try.prog w base spare held n 4 [c6] = some y5 := by simpa [Value.cells, cellsI, cellsJ, cellsGd, cellsB] using h5
    obtain ⟨x0, e0, _, _⟩ := DataW.trod_int Try.underlying3 h0'
    obtain ⟨x1, e1, _, _⟩ := DataW.trod_int Try.underlying2 h1'
    obtain ⟨x4, e4, _, _⟩ := DataW.trod_int Try.underlying2 h3'
    obtain ⟨x5, e5, _, _⟩ := DataW.trod_int Try.underlying3 h4'
    obtain ⟨x6, e6, _⟩ := DataW.trod_bool Try.underlying4 h5'
    obtain ⟨zs, m, _, _, _, hlen2, hgs⟩ := DataW.trod_struct Try.underlying37 h2'
    match zs, hlen2 with
    | [z0, z1], _ =>
      have k0 := hgs 0 _ rfl
      have k1 := hgs 1 _ rfl
      have k0' : DataW.trod enc Try.prog w base spare held m 3 [c2] = some z0 := by simpa [Value.cells, cellsI] using k0
      have k1' : DataW.trod enc Try.prog w base spare held m 3 [c3] = some z1 := by simpa [Value.cells, cellsI] using k1
      obtain ⟨x2, e2, _, w2⟩ := DataW.trod_int Try.underlying3 k0'
      obtain ⟨x3, e3, _, w3⟩ := DataW.trod_int Try.underlying3 k1'
      simp at e0 e1 e2 e3 e4 e5 e6
      exact ⟨⟨x0, x1, x2, x3, x4, x5, x6⟩, by rw [e0, e1, e2, e3, e4, e5, e6]; rfl, wf_i64c w2, wf_i64c w3⟩
/-- acts that are handed in -/
theorem open_acts {r : Reach} {b0 : Nat} {v : Value} {d : DataW H} {p : List MemPlace} {ts : List TypeId} {ds : List (DataW H)} {j : Nat}
    (hv : Value.okWide Try.prog w r b0 23 v) (h : DataW.Trod enc Try.prog w base spare held 23 v d p) (hz : (DataW.weightsEach Try.prog ts ds).all (· ≤ reachBytes) = true) (ht : ts[j]? = some 23) (hd : ds[j]? = some d) :
    ∃ xs : List Ac, Ls eA (· < w.heap.size) w v xs ∧ xs.length * 56 ≤ 140737488351232 ∧ ∀ x ∈ xs, Gok x.s x.g := by
  have : Inhabited Ac := ⟨⟨0, 0, 0, 0, 0, 0, false⟩⟩
  obtain ⟨va, vl, vc, rfl⟩ := okWide_slice Try.underlying23 hv
  obtain ⟨fuel, hf⟩ := h
  have hf' : DataW.trod enc Try.prog w base spare held fuel 23 [.slice va vl vc] = some (d, p) := hf
  obtain ⟨xs, lx, sx⟩ := open_gen eA Try.underlying23 cellsAc eA_len (by omega) (fun x _ => Gok x.s x.g) (fun n cs z hl h => el_act n cs z hl h) hf'
  refine ⟨xs, lx, ?_, ?_⟩
  · rcases sx with ⟨e1, _⟩ | ⟨el, sp, e1, hle, _⟩
    · rw [e1]; simp
    · have e9 : d = .slice el sp := e1
      subst e9
      have := sized_slice hz ht hd Try.underlying23
      rw [bytesAc] at this
      have e' : reachBytes = 140737488351232 := by decide
      rw [e'] at this
      rw [← hle]
      omega
  · intro x hx
    rcases sx with ⟨e1, _⟩ | ⟨el, sp, e1, hle, hq⟩
    · rw [e1] at hx; cases hx
    · obtain ⟨i, hi⟩ := List.mem_iff_getElem?.1 hx
      obtain ⟨_, _, h2⟩ := hq i x hi
      exact h2
end
end Go.Proofs.Ytpkbgfneebjnjab.Lt
