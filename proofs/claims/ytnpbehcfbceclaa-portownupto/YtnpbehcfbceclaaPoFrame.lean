/-
  How a port's shape, calls and numbers that are handed in read. No conditions.
-/
import Derived.Test.YtnpbehcfbceclaaGnFrame
import Derived.Test.YtnpbehcfbceclaaPoCall
namespace Go.Proofs.Ytnpbehcfbceclaa.Lt
open Go.ChangeShapes Go.WideShapes Go.ChangeAt Go.RowKit Go.Deep Go.Joins Wd
set_option maxRecDepth 100000

theorem cellsJ : Try.prog.cellsOf 2 = 1 := by kernel_rfl
theorem cellsBl : Try.prog.cellsOf 4 = 1 := by kernel_rfl
theorem cellsAc : Try.prog.cellsOf 39 = 2 := by kernel_rfl
theorem cellsSh : Try.prog.cellsOf 23 = 2 := by kernel_rfl
theorem bytesAc : Try.prog.bytesOf 39 = 16 := by kernel_rfl
theorem bytesJ : Try.prog.bytesOf 2 = 8 := by kernel_rfl
section
variable {H : Type} {enc : TypeId × Value → H} {w : World} {base : Nat} {spare : Nat → Bool} {held : Bool}
theorem el_num (n : Nat) (cs : List Value) (z : DataW H × List MemPlace) (_hl : cs.length = 1) (h : DataW.trod enc Try.prog w base spare held n 2 cs = some z) : ∃ x : Int, cs = eI x ∧ True := by
  obtain ⟨x, e1, _, _⟩ := DataW.trod_int Try.underlying2 h
  exact ⟨x, by rw [e1]; rfl, trivial⟩
theorem el_act (n : Nat) (cs : List Value) (z : DataW H × List MemPlace) (hl : cs.length = 2) (h : DataW.trod enc Try.prog w base spare held n 39 cs = some z) : ∃ x : Ac, cs = eC x ∧ True := by
  obtain ⟨c0, c1, rfl⟩ : ∃ a b, cs = [a, b] := by
    match cs, hl with
    | [a, b], _ => exact ⟨a, b, rfl⟩
  obtain ⟨xs, n, _, _, _, hlen, hfs⟩ := DataW.trod_struct Try.underlying39 h
  match xs, hlen with
  | [y0, y1], _ =>
    have h0 := hfs 0 _ rfl
    have h1 := hfs 1 _ rfl
    have h0' : DataW.trod enc Try.prog w base spare held n 3 [c0] = some y0 := by simpa [Value.cells, cellsI, cellsJ] using h0
    have h1' : DataW.trod enc Try.prog w base spare held n 2 [c1] = some y1 := by simpa [Value.cells, cellsI, cellsJ] using h1
    obtain ⟨x0, e0, _, _⟩ := DataW.trod_int Try.underlying3 h0'
    obtain ⟨x1, e1, _, _⟩ := DataW.trod_int Try.underlying2 h1'
    simp at e0 e1
    exact ⟨⟨x0, x1⟩, by rw [e0, e1]; rfl, trivial⟩
/-- a shape that is handed in -/
theorem open_shape {r : Reach} {b0 : Nat} {v : Value} {d : DataW H} {p : List MemPlace} (hv : Value.okWide Try.prog w r b0 23 v) (h : DataW.Trod enc Try.prog w base spare held 23 v d p) : ∃ (q : Bool) (c : Int), v = .agg #[.bool q, .int .i64 c] ∧ -9223372036854775808 ≤ c ∧ c ≤ 9223372036854775807 := by
  obtain ⟨cs, rfl, hsz⟩ := okWide_struct Try.underlying23 hv
  rw [cellsSh] at hsz
  obtain ⟨l⟩ := cs
  obtain ⟨fuel, hf⟩ := h
  obtain ⟨c0, c1, rfl⟩ : ∃ a b, l = [a, b] := by
    match l, hsz with
    | [a, b], _ => exact ⟨a, b, rfl⟩
  obtain ⟨xs, n, _, _, _, hlen, hfs⟩ := DataW.trod_struct Try.underlying23 (by simpa [Value.cells] using hf)
  match xs, hlen with
  | [y0, y1], _ =>
    have h0 := hfs 0 _ rfl
    have h1 := hfs 1 _ rfl
    have h0' : DataW.trod enc Try.prog w base spare held n 4 [c0] = some y0 := by simpa [Value.cells, cellsI, cellsBl] using h0
    have h1' : DataW.trod enc Try.prog w base spare held n 3 [c1] = some y1 := by simpa [Value.cells, cellsI, cellsBl] using h1
    obtain ⟨x0, e0, _⟩ := DataW.trod_bool Try.underlying4 h0'
    obtain ⟨x1, e1, _, w1⟩ := DataW.trod_int Try.underlying3 h1'
    simp only [Lit.wf, IntKind.min, IntKind.max, IntKind.signed, IntKind.bits, Bool.and_eq_true] at w1
    simp at e0 e1 w1
    exact ⟨x0, x1, by rw [e0, e1], by omega, by omega⟩
/-- calls that are handed in -/
theorem open_acts {r : Reach} {b0 : Nat} {v : Value} {d : DataW H} {p : List MemPlace} {ts : List TypeId} {ds : List (DataW H)} {j : Nat}
    (hv : Value.okWide Try.prog w r b0 24 v) (h : DataW.Trod enc Try.prog w base spare held 24 v d p) (hz : (DataW.weightsEach Try.prog ts ds).all (· ≤ reachBytes) = true) (ht : ts[j]? = some 24) (hd : ds[j]? = some d) :
    ∃ (a : Option Addr) (n c : Nat) (xs : List Ac), v = .slice a n c ∧ Ls eC (· < w.heap.size) w (.slice a n c) xs ∧ n * 16 ≤ 140737488351232 := by
  have : Inhabited Ac := ⟨⟨0, 0⟩⟩
  obtain ⟨va, vl, vc, rfl⟩ := okWide_slice Try.underlying24 hv
  obtain ⟨fuel, hf⟩ := h
  have hf' : DataW.trod enc Try.prog w base spare held fuel 24 [.slice va vl vc] = some (d, p) := hf
  obtain ⟨xs, lx, sx⟩ := open_gen eC Try.underlying24 cellsAc eC_len (by omega) (fun _ _ => True) (fun n cs z hl h => el_act n cs z hl h) hf'
  refine ⟨va, vl, vc, xs, rfl, lx, ?_⟩
  rw [lx.len.1]
  rcases sx with ⟨e1, _⟩ | ⟨el, sp, e1, hle, _⟩
  · rw [e1]; simp
  · have e9 : d = .slice el sp := e1
    subst e9
    have := sized_slice hz ht hd Try.underlying24
    rw [bytesAc] at this
    have e' : reachBytes = 140737488351232 := by decide
    rw [e'] at this
    rw [← hle]
    omega
/-- numbers that are handed in -/
theorem open_nums {r : Reach} {b0 : Nat} {v : Value} {d : DataW H} {p : List MemPlace} {ts : List TypeId} {ds : List (DataW H)} {j : Nat}
    (hv : Value.okWide Try.prog w r b0 29 v) (h : DataW.Trod enc Try.prog w base spare held 29 v d p) (hz : (DataW.weightsEach Try.prog ts ds).all (· ≤ reachBytes) = true) (ht : ts[j]? = some 29) (hd : ds[j]? = some d) :
    ∃ (a : Option Addr) (n c : Nat) (xs : List Int), v = .slice a n c ∧ Ls eI (· < w.heap.size) w (.slice a n c) xs ∧ n * 8 ≤ 140737488351232 := by
  have : Inhabited Int := ⟨0⟩
  obtain ⟨va, vl, vc, rfl⟩ := okWide_slice Try.underlying29 hv
  obtain ⟨fuel, hf⟩ := h
  have hf' : DataW.trod enc Try.prog w base spare held fuel 29 [.slice va vl vc] = some (d, p) := hf
  obtain ⟨xs, lx, sx⟩ := open_gen eI Try.underlying29 cellsJ eI_len (by omega) (fun _ _ => True) (fun n cs z hl h => el_num n cs z hl h) hf'
  refine ⟨va, vl, vc, xs, rfl, lx, ?_⟩
  rw [lx.len.1]
  rcases sx with ⟨e1, _⟩ | ⟨el, sp, e1, hle, _⟩
  · rw [e1]; simp
  · have e9 : d = .slice el sp := e1
    subst e9
    have := sized_slice hz ht hd Try.underlying29
    rw [bytesJ] at this
    have e' : reachBytes = 140737488351232 := by decide
    rw [e'] at this
    rw [← hle]
    omega
end
end Go.Proofs.Ytnpbehcfbceclaa.Lt
