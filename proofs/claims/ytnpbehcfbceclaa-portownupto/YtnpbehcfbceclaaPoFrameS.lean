/-
  How a port's state that is handed in and small reads. No conditions.
-/
import Derived.Test.YtnpbehcfbceclaaPoFrameU
namespace Go.Proofs.Ytnpbehcfbceclaa.Lt
open Go.ChangeShapes Go.WideShapes Go.ChangeAt Go.RowKit Go.Deep Go.Joins Wd
set_option maxRecDepth 100000

theorem cellsPst : Try.prog.cellsOf 32 = 5 := by kernel_rfl
theorem cellsAgd : Try.prog.cellsOf 59 = 2 := by kernel_rfl
theorem cellsIn15 : Try.prog.cellsOf 3 = 1 := by kernel_rfl
theorem cellsLJ15 : Try.prog.cellsOf 29 = 1 := by kernel_rfl
theorem cellsLG15 : Try.prog.cellsOf 30 = 1 := by kernel_rfl
section
variable {H : Type} {enc : TypeId × Value → H} {w : World} {base : Nat} {spare : Nat → Bool} {held : Bool}
theorem el_agd (n : Nat) (cs : List Value) (z : DataW H × List MemPlace) (hl : cs.length = 2) (h : DataW.trod enc Try.prog w base spare held n 59 cs = some z) : ∃ x : Ag, cs = eG x ∧ True := by
  obtain ⟨c0, c1, rfl⟩ : ∃ a b, cs = [a, b] := by
    match cs, hl with
    | [a, b], _ => exact ⟨a, b, rfl⟩
  obtain ⟨y0, y1, m, _, _, h0, h1⟩ := trod_struct2 Try.underlying59 h
  have h0' : DataW.trod enc Try.prog w base spare held m 2 [c0] = some y0 := by simpa [Value.cells, cellsJ, cellsIn15] using h0
  have h1' : DataW.trod enc Try.prog w base spare held m 3 [c1] = some y1 := by simpa [Value.cells, cellsJ, cellsIn15] using h1
  obtain ⟨x0, e0, _, _⟩ := DataW.trod_int Try.underlying2 h0'
  obtain ⟨x1, e1, _, _⟩ := DataW.trod_int Try.underlying3 h1'
  simp at e0 e1
  exact ⟨⟨x0, x1⟩, by rw [e0, e1]; rfl, trivial⟩
/-- a state that is handed in -/
theorem open_stateU {r : Reach} {b0 : Nat} {v : Value} {d : DataW H} {p : List MemPlace} {ds : List (DataW H)} (hv : Value.okWide Try.prog w r b0 32 v) (h : DataW.Trod enc Try.prog w base spare held 32 v d p) (hk : Rows.uptoSmall H ds = true) (hd : d ∈ ds) :
    ∃ (q : Bool) (c : Int) (a1 : Option Addr) (n1 c1 : Nat) (a2 : Option Addr) (n2 c2 : Nat) (l : Int) (xs : List Int) (ys : List Ag), v = .agg #[.bool q, .int .i64 c, .slice a1 n1 c1, .slice a2 n2 c2, .int .i64 l] ∧ Ls eI (· < w.heap.size) w (.slice a1 n1 c1) xs ∧ Ls eG (· < w.heap.size) w (.slice a2 n2 c2) ys ∧ n1 ≤ 1048576 ∧ n2 ≤ 1048576 := by
  have hb : Rows.uptoBulkAll ds ≤ 1048576 := of_decide_eq_true hk
  have hb1 := Nat.le_trans (bulk_part hd) hb
  obtain ⟨vs, rfl, hsz⟩ := okWide_struct Try.underlying32 hv
  rw [cellsPst] at hsz
  obtain ⟨fuel, hf⟩ := h
  obtain ⟨l⟩ := vs
  match l, hsz with
  | [c0, c1, c2, c3, c4], _ =>
    obtain ⟨ys, n, _, hx9, _, hlen, hfs⟩ := DataW.trod_struct Try.underlying32 hf
    match ys, hlen with
    | [y0, y1, y2, y3, y4], _ =>
      have h0 := hfs 0 _ rfl
      have h1 := hfs 1 _ rfl
      have h2 := hfs 2 _ rfl
      have h3 := hfs 3 _ rfl
      have h4 := hfs 4 _ rfl
      have h0' : DataW.trod enc Try.prog w base spare held n 4 [c0] = some y0 := by simpa [Value.cells, cellsBl, cellsIn15, cellsLJ15, cellsLG15] using h0
      have h1' : DataW.trod enc Try.prog w base spare held n 3 [c1] = some y1 := by simpa [Value.cells, cellsBl, cellsIn15, cellsLJ15, cellsLG15] using h1
      have h2' : DataW.trod enc Try.prog w base spare held n 29 [c2] = some y2 := by simpa [Value.cells, cellsBl, cellsIn15, cellsLJ15, cellsLG15] using h2
      have h3' : DataW.trod enc Try.prog w base spare held n 30 [c3] = some y3 := by simpa [Value.cells, cellsBl, cellsIn15, cellsLJ15, cellsLG15] using h3
      have h4' : DataW.trod enc Try.prog w base spare held n 3 [c4] = some y4 := by simpa [Value.cells, cellsBl, cellsIn15, cellsLJ15, cellsLG15] using h4
      obtain ⟨x0, e0, _⟩ := DataW.trod_bool Try.underlying4 h0'
      obtain ⟨x1, e1, _, _⟩ := DataW.trod_int Try.underlying3 h1'
      obtain ⟨x4, e4, _, _⟩ := DataW.trod_int Try.underlying3 h4'
      have : Inhabited Ag := ⟨⟨0, 0⟩⟩
      obtain ⟨us, lu, su⟩ := open_gen eI Try.underlying29 cellsJ eI_len (by omega) (fun _ _ => True) (fun n cs z hl h => el_num n cs z hl h) h2'
      obtain ⟨gs, lg, sg⟩ := open_gen eG Try.underlying30 cellsAgd eG_len (by omega) (fun _ _ => True) (fun n cs z hl h => el_agd n cs z hl h) h3'
      simp at e0 e1 e4
      obtain ⟨a1, k1, rfl⟩ := lu.form
      obtain ⟨a2, k2, rfl⟩ := lg.form
      have b1 := (len_bulk su).1
      have b2 := (len_bulk sg).1
      have hdx : d = .agg [y0.1, y1.1, y2.1, y3.1, y4.1] := by
        have := congrArg Prod.fst hx9
        simpa using this
      rw [hdx] at hb1
      simp only [Rows.uptoBulk, Rows.uptoBulkAll] at hb1
      exact ⟨x0, x1, a1, us.length, k1, a2, gs.length, k2, x4, us, gs, by rw [e0, e1, e4], lu, lg, by omega, by omega⟩
end
end Go.Proofs.Ytnpbehcfbceclaa.Lt
