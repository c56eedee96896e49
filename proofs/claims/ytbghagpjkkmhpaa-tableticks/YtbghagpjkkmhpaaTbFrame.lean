/-
  How a table, a tick with a P and a domain, and numbers that are handed in read. No conditions.
-/
import Derived.Test.YtbghagpjkkmhpaaGnFrame
import Derived.Test.YtbghagpjkkmhpaaTbBase
import Derived.Lib.SmallJoins
namespace Go.Proofs.Ytbghagpjkkmhpaa.Lt
open Go.ChangeShapes Go.WideShapes Go.ChangeAt Go.RowKit Go.Deep Go.Joins Wd
set_option maxRecDepth 100000

theorem cellsS16 : Try.prog.cellsOf 54 = 4 := by kernel_rfl
theorem cellsW16 : Try.prog.cellsOf 52 = 2 := by kernel_rfl
theorem cellsT16 : Try.prog.cellsOf 25 = 2 := by kernel_rfl
theorem cellsU16 : Try.prog.cellsOf 22 = 1 := by kernel_rfl
theorem cellsL16 : Try.prog.cellsOf 49 = 1 := by kernel_rfl
theorem cellsK16 : Try.prog.cellsOf 23 = 1 := by kernel_rfl
theorem cellsA16 : Try.prog.cellsOf 32 = 3 := by kernel_rfl
theorem u_wf {x : Int} (h : (Lit.int .u64 x).wf = true) : Tk.U x := by
  simp only [Lit.wf, IntKind.min, IntKind.max, IntKind.signed, IntKind.bits, Bool.and_eq_true] at h
  simp at h
  exact ⟨by omega, by omega⟩
theorem i_wf {x : Int} (h : (Lit.int .i64 x).wf = true) : -9223372036854775808 ≤ x ∧ x ≤ 9223372036854775807 := by
  simp only [Lit.wf, IntKind.min, IntKind.max, IntKind.signed, IntKind.bits, Bool.and_eq_true] at h
  simp at h
  exact ⟨by omega, by omega⟩
theorem h_wf {x : Int} (h : (Lit.int .u16 x).wf = true) : 0 ≤ x ∧ x ≤ 65535 := by
  simp only [Lit.wf, IntKind.min, IntKind.max, IntKind.signed, IntKind.bits, Bool.and_eq_true] at h
  simp at h
  exact ⟨by omega, by omega⟩
section
variable {H : Type} {enc : TypeId × Value → H} {w : World} {base : Nat} {spare : Nat → Bool} {held : Bool}
theorem el_slot16 (n : Nat) (cs : List Value) (z : DataW H × List MemPlace) (hl : cs.length = 4) (h : DataW.trod enc Try.prog w base spare held n 54 cs = some z) : ∃ x : Sl, cs = eS x ∧ x.rg := by
  obtain ⟨c0, c1, c2, c3, rfl⟩ : ∃ a b c d, cs = [a, b, c, d] := by
    match cs, hl with
    | [a, b, c, d], _ => exact ⟨a, b, c, d, rfl⟩
  obtain ⟨y0, y1, y2, m, _, _, h0, h1, h2⟩ := trod_struct3 Try.underlying54 h
  have h0' : DataW.trod enc Try.prog w base spare held m 3 [c0] = some y0 := by simpa [Value.cells, cellsI, cellsW16] using h0
  have h1' : DataW.trod enc Try.prog w base spare held m 52 [c1, c2] = some y1 := by simpa [Value.cells, cellsI, cellsW16] using h1
  have h2' : DataW.trod enc Try.prog w base spare held m 22 [c3] = some y2 := by simpa [Value.cells, cellsI, cellsU16, cellsW16] using h2
  obtain ⟨z0, z1, m2, _, _, k0, k1⟩ := trod_struct2 Try.underlying52 h1'
  have k0' : DataW.trod enc Try.prog w base spare held m2 22 [c1] = some z0 := by simpa [cellsU16] using k0
  have k1' : DataW.trod enc Try.prog w base spare held m2 22 [c2] = some z1 := by simpa [cellsU16] using k1
  obtain ⟨d, e0, _, wd⟩ := DataW.trod_int Try.underlying3 h0'
  obtain ⟨s, e1, _, ws⟩ := DataW.trod_int Try.underlying22 k0'
  obtain ⟨l, e2, _, wl⟩ := DataW.trod_int Try.underlying22 k1'
  obtain ⟨p, e3, _, wp⟩ := DataW.trod_int Try.underlying22 h2'
  simp at e0 e1 e2 e3
  exact ⟨⟨d, s, l, p⟩, by rw [e0, e1, e2, e3]; rfl, i_wf wd, u_wf ws, u_wf wl, u_wf wp⟩
theorem el_row16 (n : Nat) (cs : List Value) (z : DataW H × List MemPlace) (hl : cs.length = 1) (h : DataW.trod enc Try.prog w base spare held n 49 cs = some z) : ∃ v, cs = eV v ∧ ∃ xs : List Sl, Ls eS (· < w.heap.size) w v xs ∧ ∀ x ∈ xs, x.rg := by
  obtain ⟨c0, rfl⟩ : ∃ a, cs = [a] := by
    match cs, hl with
    | [a], _ => exact ⟨a, rfl⟩
  have : Inhabited Sl := ⟨⟨0, 0, 0, 0⟩⟩
  obtain ⟨xs, lx, sx⟩ := open_gen eS Try.underlying49 cellsS16 eS_len (by omega) (fun x _ => x.rg) (fun n cs z hl h => el_slot16 n cs z hl h) h
  refine ⟨c0, rfl, xs, lx, fun x hx => ?_⟩
  rcases sx with ⟨e1, _⟩ | ⟨el, sp, _, _, hq⟩
  · rw [e1] at hx; cases hx
  · obtain ⟨i, hi, rfl⟩ := List.getElem_of_mem hx
    obtain ⟨_, _, q⟩ := hq i _ (List.getElem?_eq_getElem hi)
    exact q
/-- a table that is handed in -/
theorem open_table {r : Reach} {b0 : Nat} {v : Value} {d : DataW H} {p : List MemPlace} (hv : Value.okWide Try.prog w r b0 25 v) (h : DataW.Trod enc Try.prog w base spare held 25 v d p) :
    ∃ (F : Int) (a : Option Addr) (n c : Nat) (L : List (List Sl)), v = .agg #[.int .u64 F, .slice a n c] ∧ Rw w (.slice a n c) L ∧ Rgs L ∧ Tk.U F := by
  obtain ⟨cs, rfl, hsz⟩ := okWide_struct Try.underlying25 hv
  rw [cellsT16] at hsz
  obtain ⟨l⟩ := cs
  obtain ⟨fuel, hf⟩ := h
  obtain ⟨c0, c1, rfl⟩ : ∃ a b, l = [a, b] := by
    match l, hsz with
    | [a, b], _ => exact ⟨a, b, rfl⟩
  obtain ⟨y0, y1, m, _, _, h0, h1⟩ := trod_struct2 Try.underlying25 (by simpa [Value.cells] using hf)
  have h0' : DataW.trod enc Try.prog w base spare held m 22 [c0] = some y0 := by simpa [Value.cells, cellsU16, cellsK16] using h0
  have h1' : DataW.trod enc Try.prog w base spare held m 23 [c1] = some y1 := by simpa [Value.cells, cellsU16, cellsK16] using h1
  obtain ⟨F, e0, _, wF⟩ := DataW.trod_int Try.underlying22 h0'
  have : Inhabited Value := ⟨undef⟩
  obtain ⟨vs, lx, sx⟩ := open_gen eV Try.underlying23 cellsL16 eV_len (by omega) (fun v _ => ∃ xs : List Sl, Ls eS (· < w.heap.size) w v xs ∧ ∀ x ∈ xs, x.rg) (fun n cs z hl h => el_row16 n cs z hl h) h1'
  simp at e0
  subst e0
  obtain ⟨a, cap, rfl⟩ := lx.form
  have hq : ∀ i, i < vs.length → ∃ xs : List Sl, ∀ v, vs[i]? = some v → Ls eS AnyB w v xs ∧ ∀ x ∈ xs, x.rg := fun i hi => by
    rcases sx with ⟨e1, _⟩ | ⟨el, sp, _, _, hq⟩
    · rw [e1] at hi; simp at hi
    · obtain ⟨_, _, xs, q1, q2⟩ := hq i _ (List.getElem?_eq_getElem hi)
      refine ⟨xs, fun v hv => ?_⟩
      rw [List.getElem?_eq_getElem hi] at hv
      injection hv with hv
      subst hv
      exact ⟨q1.mono (fun _ _ _ => trivial), q2⟩
  have : Inhabited (List Sl) := ⟨[]⟩
  obtain ⟨X, hX⟩ := choose_lt (α := List Sl) (n := vs.length) (p := fun i xs => ∀ v, vs[i]? = some v → Ls eS AnyB w v xs ∧ ∀ x ∈ xs, x.rg) hq
  have gt : ∀ (i : Nat) (l : List Sl), ((List.range vs.length).map X)[i]? = some l → i < vs.length ∧ l = X i := fun i l h => by
    rw [List.getElem?_map] at h
    rcases Nat.lt_or_ge i vs.length with hi | hi
    · rw [List.getElem?_range hi] at h
      simp only [Option.map_some, Option.some.injEq] at h
      exact ⟨hi, h.symm⟩
    · rw [List.getElem?_eq_none (by simpa using hi)] at h
      cases h
  refine ⟨F, a, vs.length, cap, (List.range vs.length).map X, rfl, ⟨vs, lx.mono (fun _ _ _ => trivial), by simp, fun i v l h1 h2 => ?_⟩, fun l hl x hx => ?_, u_wf wF⟩
  · obtain ⟨hi, rfl⟩ := gt i l h2
    exact (hX i hi v h1).1
  · obtain ⟨i, hi, rfl⟩ := List.getElem_of_mem hl
    obtain ⟨hi', e⟩ := gt i _ (List.getElem?_eq_getElem hi)
    rw [e] at hx
    exact (hX i hi' _ (List.getElem?_eq_getElem hi')).2 x hx
/-- a tick, a P and a domain -/
theorem open_att {r : Reach} {b0 : Nat} {v : Value} {d : DataW H} {p : List MemPlace} (hv : Value.okWide Try.prog w r b0 32 v) (h : DataW.Trod enc Try.prog w base spare held 32 v d p) :
    ∃ t q k : Int, v = .agg #[.int .u64 t, .int .i64 q, .int .i64 k] ∧ Tk.U t ∧ (-9223372036854775808 ≤ q ∧ q ≤ 9223372036854775807) ∧ (-9223372036854775808 ≤ k ∧ k ≤ 9223372036854775807) := by
  obtain ⟨cs, rfl, hsz⟩ := okWide_struct Try.underlying32 hv
  rw [cellsA16] at hsz
  obtain ⟨l⟩ := cs
  obtain ⟨fuel, hf⟩ := h
  obtain ⟨c0, c1, c2, rfl⟩ : ∃ a b c, l = [a, b, c] := by
    match l, hsz with
    | [a, b, c], _ => exact ⟨a, b, c, rfl⟩
  obtain ⟨y0, y1, y2, m, _, _, h0, h1, h2⟩ := trod_struct3 Try.underlying32 (by simpa [Value.cells] using hf)
  have h0' : DataW.trod enc Try.prog w base spare held m 22 [c0] = some y0 := by simpa [Value.cells, cellsU16, cellsI] using h0
  have h1' : DataW.trod enc Try.prog w base spare held m 3 [c1] = some y1 := by simpa [Value.cells, cellsU16, cellsI] using h1
  have h2' : DataW.trod enc Try.prog w base spare held m 3 [c2] = some y2 := by simpa [Value.cells, cellsU16, cellsI] using h2
  obtain ⟨t, e0, _, wt⟩ := DataW.trod_int Try.underlying22 h0'
  obtain ⟨q, e1, _, wq⟩ := DataW.trod_int Try.underlying3 h1'
  obtain ⟨k, e2, _, wk⟩ := DataW.trod_int Try.underlying3 h2'
  simp at e0 e1 e2
  exact ⟨t, q, k, by rw [e0, e1, e2], u_wf wt, i_wf wq, i_wf wk⟩
end
end Go.Proofs.Ytbghagpjkkmhpaa.Lt
