/-
  How a select that is handed in reads. No conditions.
-/
import Derived.Test.YtalmiphddgmfbabChFrame
import Derived.Test.YtalmiphddgmfbabChSel
namespace Go.Proofs.Ytalmiphddgmfbab.Lt
open Go.ChangeShapes Go.WideShapes Go.ChangeAt Go.RowKit Go.Deep Go.Joins Wd
set_option maxRecDepth 100000

theorem cellsJ : Try.prog.cellsOf 2 = 1 := by kernel_rfl
theorem cellsB : Try.prog.cellsOf 4 = 1 := by kernel_rfl
theorem cellsP : Try.prog.cellsOf 39 = 3 := by kernel_rfl
theorem bytesP : Try.prog.bytesOf 39 = 24 := by kernel_rfl
theorem cellsG : Try.prog.cellsOf 24 = 2 := by kernel_rfl
theorem cellsPs : Try.prog.cellsOf 25 = 1 := by kernel_rfl
theorem cellsDs : Try.prog.cellsOf 26 = 1 := by kernel_rfl
theorem wf_of {n : Int} (h : (Lit.int .i64 n).wf = true) : -9223372036854775808 ≤ n ∧ n ≤ 9223372036854775807 := by
  simp only [Lit.wf, IntKind.min, IntKind.max, IntKind.signed, IntKind.bits, Bool.and_eq_true, decide_eq_true_eq, if_true] at h
  omega
section
variable {H : Type} {enc : TypeId × Value → H} {w : World} {base : Nat} {spare : Nat → Bool} {held : Bool}
theorem el_pick (n : Nat) (cs : List Value) (z : DataW H × List MemPlace) (hl : cs.length = 3) (h : DataW.trod enc Try.prog w base spare held n 39 cs = some z) : ∃ x : Pk, cs = eP x ∧ True := by
  obtain ⟨c0, c1, c2, rfl⟩ : ∃ a b c, cs = [a, b, c] := by
    match cs, hl with
    | [a, b, c], _ => exact ⟨a, b, c, rfl⟩
  obtain ⟨xs, n, _, _, _, hlen, hfs⟩ := DataW.trod_struct Try.underlying39 h
  match xs, hlen with
  | [y0, y1, y2], _ =>
    have h0 := hfs 0 _ rfl
    have h1 := hfs 1 _ rfl
    have h2 := hfs 2 _ rfl
    have h0' : DataW.trod enc Try.prog w base spare held n 4 [c0] = some y0 := by simpa [Value.cells, cellsB] using h0
    have h1' : DataW.trod enc Try.prog w base spare held n 2 [c1] = some y1 := by simpa [Value.cells, cellsJ] using h1
    have h2' : DataW.trod enc Try.prog w base spare held n 2 [c2] = some y2 := by simpa [Value.cells, cellsJ] using h2
    obtain ⟨x0, e0, _⟩ := DataW.trod_bool Try.underlying4 h0'
    obtain ⟨x1, e1, _, _⟩ := DataW.trod_int Try.underlying2 h1'
    obtain ⟨x2, e2, _, _⟩ := DataW.trod_int Try.underlying2 h2'
    simp at e0 e1 e2
    exact ⟨⟨x0, x1, x2⟩, by rw [e0, e1, e2]; rfl, trivial⟩
/-- a goroutine that is handed in -/
theorem el_gid (n : Nat) (cs : List Value) (z : DataW H × List MemPlace) (hl : cs.length = 2) (h : DataW.trod enc Try.prog w base spare held n 24 cs = some z) : ∃ s g : Int, cs = [.int .i64 s, .int .i64 g] ∧ Gok s g := by
  obtain ⟨c0, c1, rfl⟩ : ∃ a b, cs = [a, b] := by
    match cs, hl with
    | [a, b], _ => exact ⟨a, b, rfl⟩
  obtain ⟨xs, n, _, _, _, hlen, hfs⟩ := DataW.trod_struct Try.underlying24 h
  match xs, hlen with
  | [y0, y1], _ =>
    have h0 := hfs 0 _ rfl
    have h1 := hfs 1 _ rfl
    have h0' : DataW.trod enc Try.prog w base spare held n 3 [c0] = some y0 := by simpa [Value.cells, cellsI] using h0
    have h1' : DataW.trod enc Try.prog w base spare held n 3 [c1] = some y1 := by simpa [Value.cells, cellsI] using h1
    obtain ⟨x0, e0, _, w0⟩ := DataW.trod_int Try.underlying3 h0'
    obtain ⟨x1, e1, _, w1⟩ := DataW.trod_int Try.underlying3 h1'
    simp at e0 e1
    exact ⟨x0, x1, by rw [e0, e1], wf_of w0, wf_of w1⟩
theorem open_gid {r : Reach} {b0 : Nat} {v : Value} {d : DataW H} {p : List MemPlace} (hv : Value.okWide Try.prog w r b0 24 v) (h : DataW.Trod enc Try.prog w base spare held 24 v d p) : ∃ s g : Int, v = .agg #[.int .i64 s, .int .i64 g] ∧ Gok s g := by
  obtain ⟨vs, rfl, hsz⟩ := okWide_struct Try.underlying24 hv
  rw [cellsG] at hsz
  obtain ⟨fuel, hf⟩ := h
  obtain ⟨l⟩ := vs
  obtain ⟨s, g, e, hg⟩ := el_gid fuel l _ hsz hf
  exact ⟨s, g, by rw [e], hg⟩
theorem cellsX : Try.prog.cellsOf 28 = 5 := by kernel_rfl
/-- a select that is handed in -/
theorem open_ask {r : Reach} {b0 : Nat} {v : Value} {d : DataW H} {p : List MemPlace} {ts : List TypeId} {ds : List (DataW H)} {j : Nat}
    (hv : Value.okWide Try.prog w r b0 28 v) (h : DataW.Trod enc Try.prog w base spare held 28 v d p) (hz : (DataW.weightsEach Try.prog ts ds).all (· ≤ reachBytes) = true) (ht : ts[j]? = some 28) (hd : ds[j]? = some d) :
    ∃ (s g : Int) (vp : Value) (df : Bool) (vd : Value) (ps : List Pk) (xs : List Int), v = .agg #[.int .i64 s, .int .i64 g, vp, .bool df, vd] ∧ Gok s g ∧ Ls eP (· < w.heap.size) w vp ps ∧ ps.length * 24 ≤ 140737488351232 ∧ Ls eU (· < w.heap.size) w vd xs ∧ xs.length * 8 ≤ 140737488351232 ∧ Dok xs := by
  obtain ⟨vs, rfl, hsz⟩ := okWide_struct Try.underlying28 hv
  rw [cellsX] at hsz
  obtain ⟨fuel, hf⟩ := h
  have hb : ∀ k ∈ d.weights Try.prog 28, k ≤ 140737488351232 := fun k hk => by
    have e' : reachBytes = 140737488351232 := by decide
    have := List.all_eq_true.1 hz _ (DataW.weights_mem_each ht hd k hk)
    simp only [decide_eq_true_eq] at this
    omega
  obtain ⟨l⟩ := vs
  match l, hsz with
  | [c0, c1, c2, c3, c4], _ =>
    obtain ⟨ys, n, _, hx, hl, hlen, hfs⟩ := DataW.trod_struct Try.underlying28 hf
    match ys, hlen with
    | [y0, y1, y2, y3], _ =>
      have h0 := hfs 0 _ rfl
      have h1 := hfs 1 _ rfl
      have h2 := hfs 2 _ rfl
      have h3 := hfs 3 _ rfl
      have h0' : DataW.trod enc Try.prog w base spare held n 24 [c0, c1] = some y0 := by simpa [Value.cells, cellsG] using h0
      have h1' : DataW.trod enc Try.prog w base spare held n 25 [c2] = some y1 := by simpa [Value.cells, cellsPs] using h1
      have h2' : DataW.trod enc Try.prog w base spare held n 4 [c3] = some y2 := by simpa [Value.cells, cellsB] using h2
      have h3' : DataW.trod enc Try.prog w base spare held n 26 [c4] = some y3 := by simpa [Value.cells, cellsDs] using h3
      obtain ⟨s, g, e0, hg⟩ := el_gid n _ _ rfl h0'
      have : Inhabited Pk := ⟨⟨false, 0, 0⟩⟩
      obtain ⟨ps, lp, sp⟩ := open_gen eP Try.underlying25 cellsP eP_len (by omega) (fun _ _ => True) (fun n cs z hl h => el_pick n cs z hl h) h1'
      obtain ⟨df, e2, _⟩ := DataW.trod_bool Try.underlying4 h2'
      obtain ⟨xs, lx, sx⟩ := open_gen eU Try.underlying26 cellsU eU_len (by omega) (fun x _ => 0 ≤ x ∧ x ≤ 18446744073709551615) (fun n cs z _ h => by
        obtain ⟨x, e1, _, hw⟩ := DataW.trod_int Try.underlying77 h
        exact ⟨x, by rw [e1]; rfl, wf_u64 hw⟩) h3'
      have hdx : d = .agg [y0.1, y1.1, y2.1, y3.1] := by
        have := congrArg Prod.fst hx
        simpa using this
      simp at e0 e2
      refine ⟨s, g, c2, df, c4, ps, xs, by rw [e0.1, e0.2, e2], hg, lp, ?_, lx, ?_, ?_⟩
      · rcases sp with ⟨e, _⟩ | ⟨el, sp, e, hle, _⟩
        · rw [e]; simp
        · have := hb ((el.length + sp.length) * 24) (by
            rw [hdx]
            simp only [DataW.weights, Try.underlying28, e]
            simp [DataW.weights, DataW.weightsEach, Try.underlying25, bytesP])
          rw [← hle]
          omega
      · rcases sx with ⟨e, _⟩ | ⟨el, sp, e, hle, _⟩
        · rw [e]; simp
        · have := hb ((el.length + sp.length) * 8) (by
            rw [hdx]
            simp only [DataW.weights, Try.underlying28, e]
            simp [DataW.weights, DataW.weightsEach, Try.underlying26, bytesU])
          rw [← hle]
          omega
      · intro x hx
        rcases sx with ⟨e1, _⟩ | ⟨el, sp, e1, hle, hq⟩
        · rw [e1] at hx; cases hx
        · obtain ⟨i, hi⟩ := List.mem_iff_getElem?.1 hx
          obtain ⟨_, _, h2⟩ := hq i x hi
          exact h2
end
end Go.Proofs.Ytalmiphddgmfbab.Lt
