/-
  How calls of timers, times and numbers that are handed in read. No conditions.
-/
import Derived.Test.YtgkapopkjgljjaaGnFrame
import Derived.Test.YtgkapopkjgljjaaTmOnce
namespace Go.Proofs.Ytgkapopkjgljjaa.Lt
open Go.ChangeShapes Go.WideShapes Go.ChangeAt Go.RowKit Go.Deep Go.Joins Wd
set_option maxRecDepth 100000

theorem cellsJ : Try.prog.cellsOf 2 = 1 := by kernel_rfl
theorem cellsU : Try.prog.cellsOf 32 = 1 := by kernel_rfl
theorem cellsGd : Try.prog.cellsOf 31 = 2 := by kernel_rfl
theorem cellsO : Try.prog.cellsOf 34 = 6 := by kernel_rfl
theorem bytesO : Try.prog.bytesOf 34 = 48 := by kernel_rfl
theorem bytesU : Try.prog.bytesOf 32 = 8 := by kernel_rfl
theorem wf_i64c {n : Int} (h : (Lit.int .i64 n).wf = true) : -9223372036854775808 ≤ n ∧ n ≤ 9223372036854775807 := by
  simp only [Lit.wf, IntKind.min, IntKind.max, IntKind.signed, IntKind.bits, Bool.and_eq_true] at h
  simp at h
  omega
theorem wf_u64c {n : Int} (h : (Lit.int .u64 n).wf = true) : 0 ≤ n ∧ n < 18446744073709551616 := by
  simp only [Lit.wf, IntKind.min, IntKind.max, IntKind.signed, IntKind.bits, Bool.and_eq_true] at h
  simp at h
  omega
section
variable {H : Type} {enc : TypeId × Value → H} {w : World} {base : Nat} {spare : Nat → Bool} {held : Bool}
theorem el_opn (n : Nat) (cs : List Value) (z : DataW H × List MemPlace) (hl : cs.length = 6) (h : DataW.trod enc Try.prog w base spare held n 34 cs = some z) : ∃ x : Opn, cs = eO x ∧ Ook x := by
  obtain ⟨c0, c1, c2, c3, c4, c5, rfl⟩ : ∃ a b c d e f, cs = [a, b, c, d, e, f] := by
    match cs, hl with
    | [a, b, c, d, e, f], _ => exact ⟨a, b, c, d, e, f, rfl⟩
  obtain ⟨xs, n, _, _, _, hlen, hfs⟩ := DataW.trod_struct Try.underlying34 h
  match xs, hlen with
  | [y0, y1, y2, y3, y4], _ =>
    have h0 := hfs 0 _ rfl
    have h1 := hfs 1 _ rfl
    have h2 := hfs 2 _ rfl
    have h3 := hfs 3 _ rfl
    have h4 := hfs 4 _ rfl
    have h0' : DataW.trod enc Try.prog w base spare held n 3 [c0] = some y0 := by simpa [Value.cells, cellsI, cellsJ, cellsGd, cellsU] using h0
    have h1' : DataW.trod enc Try.prog w base spare held n 31 [c1, c2] = some y1 := by simpa [Value.cells, cellsI, cellsJ, cellsGd, cellsU] using h1
    have h2' : DataW.trod enc Try.prog w base spare held n 2 [c3] = some y2 := by simpa [Value.cells, cellsI, cellsJ, cellsGd, cellsU] using h2
    have h3' : DataW.trod enc Try.prog w base spare held n 32 [c4] = some y3 := by simpa [Value.cells, cellsI, cellsJ, cellsGd, cellsU] using h3
    have h4' : DataW.trod enc Try.prog w base spare held n 32 [c5] = some y4 := by simpa [Value.cells, cellsI, cellsJ, cellsGd, cellsU] using h4
    obtain ⟨x0, e0, _, _⟩ := DataW.trod_int Try.underlying3 h0'
    obtain ⟨x3, e3, _, _⟩ := DataW.trod_int Try.underlying2 h2'
    obtain ⟨x4, e4, _, w4⟩ := DataW.trod_int Try.underlying32 h3'
    obtain ⟨x5, e5, _, w5⟩ := DataW.trod_int Try.underlying32 h4'
    obtain ⟨zs, m, _, _, _, hlen2, hgs⟩ := DataW.trod_struct Try.underlying31 h1'
    match zs, hlen2 with
    | [z0, z1], _ =>
      have k0 := hgs 0 _ rfl
      have k1 := hgs 1 _ rfl
      have k0' : DataW.trod enc Try.prog w base spare held m 3 [c1] = some z0 := by simpa [Value.cells, cellsI] using k0
      have k1' : DataW.trod enc Try.prog w base spare held m 3 [c2] = some z1 := by simpa [Value.cells, cellsI] using k1
      obtain ⟨x1, e1, _, w1⟩ := DataW.trod_int Try.underlying3 k0'
      obtain ⟨x2, e2, _, w2⟩ := DataW.trod_int Try.underlying3 k1'
      simp at e0 e1 e2 e3 e4 e5
      exact ⟨⟨x0, x1, x2, x3, x4, x5⟩, by rw [e0, e1, e2, e3, e4, e5]; rfl, ⟨⟨wf_i64c w1, wf_i64c w2⟩, (wf_u64c w4).1, (wf_u64c w4).2, (wf_u64c w5).1, (wf_u64c w5).2⟩⟩
theorem el_now (n : Nat) (cs : List Value) (z : DataW H × List MemPlace) (_hl : cs.length = 1) (h : DataW.trod enc Try.prog w base spare held n 32 cs = some z) : ∃ x : Int, cs = eW x ∧ (0 ≤ x ∧ x < 18446744073709551616) := by
  obtain ⟨x, e1, _, w1⟩ := DataW.trod_int Try.underlying32 h
  exact ⟨x, by rw [e1]; rfl, wf_u64c w1⟩
/-- calls that are handed in -/
theorem open_ops {r : Reach} {b0 : Nat} {v : Value} {d : DataW H} {p : List MemPlace} {ts : List TypeId} {ds : List (DataW H)} {j : Nat}
    (hv : Value.okWide Try.prog w r b0 22 v) (h : DataW.Trod enc Try.prog w base spare held 22 v d p) (hz : (DataW.weightsEach Try.prog ts ds).all (· ≤ reachBytes) = true) (ht : ts[j]? = some 22) (hd : ds[j]? = some d) :
    ∃ (a : Option Addr) (n c : Nat) (xs : List Opn), v = .slice a n c ∧ Ls eO (· < w.heap.size) w (.slice a n c) xs ∧ n * 48 ≤ 140737488351232 ∧ ∀ x ∈ xs, Ook x := by
  have : Inhabited Opn := ⟨⟨0, 0, 0, 0, 0, 0⟩⟩
  obtain ⟨va, vl, vc, rfl⟩ := okWide_slice Try.underlying22 hv
  obtain ⟨fuel, hf⟩ := h
  have hf' : DataW.trod enc Try.prog w base spare held fuel 22 [.slice va vl vc] = some (d, p) := hf
  obtain ⟨xs, lx, sx⟩ := open_gen eO Try.underlying22 cellsO eO_len (by omega) (fun x _ => Ook x) (fun n cs z hl h => el_opn n cs z hl h) hf'
  refine ⟨va, vl, vc, xs, rfl, lx, ?_, ?_⟩
  · rw [lx.len.1]
    rcases sx with ⟨e1, _⟩ | ⟨el, sp, e1, hle, _⟩
    · rw [e1]; simp
    · have e9 : d = .slice el sp := e1
      subst e9
      have := sized_slice hz ht hd Try.underlying22
      rw [bytesO] at this
      have e' : reachBytes = 140737488351232 := by decide
      rw [e'] at this
      rw [← hle]
      omega
  · intro x hx
    rcases sx with ⟨e1, _⟩ | ⟨el, sp, e1, hle, hq⟩
    · rw [e1] at hx; cases hx
    · obtain ⟨i, hi⟩ := List.mem_iff_getElem?.1 hx
      obtain ⟨_, _, h2⟩ := hq i x hi
      exact h2
/-- times that are handed in -/
theorem open_nows {r : Reach} {b0 : Nat} {v : Value} {d : DataW H} {p : List MemPlace} {ts : List TypeId} {ds : List (DataW H)} {j : Nat}
    (hv : Value.okWide Try.prog w r b0 52 v) (h : DataW.Trod enc Try.prog w base spare held 52 v d p) (hz : (DataW.weightsEach Try.prog ts ds).all (· ≤ reachBytes) = true) (ht : ts[j]? = some 52) (hd : ds[j]? = some d) :
    ∃ (a : Option Addr) (n c : Nat) (xs : List Int), v = .slice a n c ∧ Ls eW (· < w.heap.size) w (.slice a n c) xs ∧ n * 8 ≤ 140737488351232 ∧ ∀ x ∈ xs, (0 ≤ x ∧ x < 18446744073709551616) := by
  have : Inhabited Int := ⟨0⟩
  obtain ⟨va, vl, vc, rfl⟩ := okWide_slice Try.underlying52 hv
  obtain ⟨fuel, hf⟩ := h
  have hf' : DataW.trod enc Try.prog w base spare held fuel 52 [.slice va vl vc] = some (d, p) := hf
  obtain ⟨xs, lx, sx⟩ := open_gen eW Try.underlying52 cellsU eW_len (by omega) (fun x _ => (0 ≤ x ∧ x < 18446744073709551616)) (fun n cs z hl h => el_now n cs z hl h) hf'
  refine ⟨va, vl, vc, xs, rfl, lx, ?_, ?_⟩
  · rw [lx.len.1]
    rcases sx with ⟨e1, _⟩ | ⟨el, sp, e1, hle, _⟩
    · rw [e1]; simp
    · have e9 : d = .slice el sp := e1
      subst e9
      have := sized_slice hz ht hd Try.underlying52
      rw [bytesU] at this
      have e' : reachBytes = 140737488351232 := by decide
      rw [e'] at this
      rw [← hle]
      omega
  · intro x hx
    rcases sx with ⟨e1, _⟩ | ⟨el, sp, e1, hle, hq⟩
    · rw [e1] at hx; cases hx
    · obtain ⟨i, hi⟩ := List.mem_iff_getElem?.1 hx
      obtain ⟨_, _, h2⟩ := hq i x hi
      exact h2
end
end Go.Proofs.Ytgkapopkjgljjaa.Lt
