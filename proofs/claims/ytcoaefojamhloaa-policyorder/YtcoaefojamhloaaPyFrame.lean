/-
  How domains with edges, numbers, three numbers, and truths that are handed in read. No conditions.
-/
import Derived.Test.YtcoaefojamhloaaGnFrame
import Derived.Test.YtcoaefojamhloaaPyBits
import Derived.SizedLaws
import Derived.OpenShut
import Derived.Lib.SmallJoins
namespace Go.Proofs.Ytcoaefojamhloaa.Lt
open Go.ChangeShapes Go.WideShapes Go.ChangeAt Go.RowKit Go.Deep Go.Joins Wd
set_option maxRecDepth 100000

theorem cellsE17 : Try.prog.cellsOf 42 = 2 := by kernel_rfl
theorem bytesE17 : Try.prog.bytesOf 42 = 16 := by kernel_rfl
theorem cellsG17 : Try.prog.cellsOf 24 = 2 := by kernel_rfl
theorem cellsL17 : Try.prog.cellsOf 22 = 1 := by kernel_rfl
theorem cellsB17 : Try.prog.cellsOf 4 = 1 := by kernel_rfl
theorem i_wf {x : Int} (h : (Lit.int .i64 x).wf = true) : -9223372036854775808 ≤ x ∧ x ≤ 9223372036854775807 := by
  simp only [Lit.wf, IntKind.min, IntKind.max, IntKind.signed, IntKind.bits, Bool.and_eq_true] at h
  simp at h
  exact ⟨by omega, by omega⟩
section
variable {H : Type} {enc : TypeId × Value → H} {w : World} {base : Nat} {spare : Nat → Bool} {held : Bool}
theorem el_edge (n : Nat) (cs : List Value) (z : DataW H × List MemPlace) (hl : cs.length = 2) (h : DataW.trod enc Try.prog w base spare held n 42 cs = some z) : ∃ x : Eg, cs = eE x ∧ True := by
  obtain ⟨c0, c1, rfl⟩ : ∃ a b, cs = [a, b] := by
    match cs, hl with
    | [a, b], _ => exact ⟨a, b, rfl⟩
  obtain ⟨y0, y1, m, _, _, h0, h1⟩ := trod_struct2 Try.underlying42 h
  have h0' : DataW.trod enc Try.prog w base spare held m 3 [c0] = some y0 := by simpa [cellsI] using h0
  have h1' : DataW.trod enc Try.prog w base spare held m 3 [c1] = some y1 := by simpa [cellsI] using h1
  obtain ⟨x0, e0, _, _⟩ := DataW.trod_int Try.underlying3 h0'
  obtain ⟨x1, e1, _, _⟩ := DataW.trod_int Try.underlying3 h1'
  simp at e0 e1
  exact ⟨⟨x0, x1⟩, by rw [e0, e1]; rfl, trivial⟩
theorem el_bool17 (n : Nat) (cs : List Value) (z : DataW H × List MemPlace) (_hl : cs.length = 1) (h : DataW.trod enc Try.prog w base spare held n 4 cs = some z) : ∃ x : Bool, cs = eB x ∧ True := by
  obtain ⟨x, e1, _⟩ := DataW.trod_bool Try.underlying4 h
  exact ⟨x, by rw [e1]; rfl, trivial⟩
/-- domains and edges that are handed in -/
theorem open_graph0 {r : Reach} {b0 : Nat} {v : Value} {d : DataW H} {p : List MemPlace}
    (hv : Value.okWide Try.prog w r b0 24 v) (h : DataW.Trod enc Try.prog w base spare held 24 v d p) :
    ∃ (n : Int) (a : Option Addr) (m c : Nat) (l : List Eg) (d0 d1 : DataW H), v = .agg #[.int .i64 n, .slice a m c] ∧ Le w (.slice a m c) l ∧ (-9223372036854775808 ≤ n ∧ n ≤ 9223372036854775807) ∧ d = .agg [d0, d1] ∧ (m = 0 ∨ ∃ el sp, d1 = .slice el sp ∧ el.length = m) := by
  have : Inhabited Eg := ⟨⟨0, 0⟩⟩
  obtain ⟨cs, rfl, hsz⟩ := okWide_struct Try.underlying24 hv
  rw [cellsG17] at hsz
  obtain ⟨l⟩ := cs
  obtain ⟨fuel, hf⟩ := h
  obtain ⟨c0, c1, rfl⟩ : ∃ a b, l = [a, b] := by
    match l, hsz with
    | [a, b], _ => exact ⟨a, b, rfl⟩
  obtain ⟨y0, y1, k, e, _, h0, h1⟩ := trod_struct2 Try.underlying24 (by simpa [Value.cells] using hf)
  have h0' : DataW.trod enc Try.prog w base spare held k 3 [c0] = some y0 := by simpa [cellsI, cellsL17] using h0
  have h1' : DataW.trod enc Try.prog w base spare held k 22 [c1] = some y1 := by simpa [cellsI, cellsL17] using h1
  obtain ⟨n, e0, _, wn⟩ := DataW.trod_int Try.underlying3 h0'
  obtain ⟨xs, lx, sx⟩ := open_gen eE Try.underlying22 cellsE17 eE_len (by omega) (fun _ _ => True) (fun n cs z hl h => el_edge n cs z hl h) h1'
  simp at e0
  subst e0
  obtain ⟨a, cap, rfl⟩ := lx.form
  injection e with e1 e2
  refine ⟨n, a, xs.length, cap, xs, y0.1, y1.1, rfl, lx.mono (fun _ _ _ => trivial), i_wf wn, e1, ?_⟩
  rcases sx with ⟨q, _⟩ | ⟨el, sp, q, hle, _⟩
  · left; rw [q]; rfl
  · exact .inr ⟨el, sp, q, hle⟩
theorem open_graph {r : Reach} {b0 : Nat} {v : Value} {d : DataW H} {p : List MemPlace} {ts : List TypeId} {ds : List (DataW H)} {j : Nat}
    (hv : Value.okWide Try.prog w r b0 24 v) (h : DataW.Trod enc Try.prog w base spare held 24 v d p) (hz : (DataW.weightsEach Try.prog ts ds).all (· ≤ reachBytes) = true) (ht : ts[j]? = some 24) (hd : ds[j]? = some d) :
    ∃ (n : Int) (a : Option Addr) (m c : Nat) (l : List Eg), v = .agg #[.int .i64 n, .slice a m c] ∧ Le w (.slice a m c) l ∧ m ≤ 8796093022208 ∧ (-9223372036854775808 ≤ n ∧ n ≤ 9223372036854775807) := by
  obtain ⟨n, a, m, c, l, d0, d1, e, hl, hn, rfl, hs⟩ := open_graph0 hv h
  refine ⟨n, a, m, c, l, e, hl, ?_, hn⟩
  rcases hs with rfl | ⟨el, sp, rfl, hle⟩
  · omega
  · have hz2 : (DataW.weightsEach Try.prog [3, 22] [d0, .slice el sp]).all (· ≤ reachBytes) = true := by
      rw [List.all_eq_true] at hz ⊢
      intro x hx
      refine hz x (DataW.weights_mem_each ht hd x ?_)
      simp only [DataW.weights, Try.underlying24]
      exact hx
    have := sized_slice hz2 (j := 1) rfl rfl Try.underlying22
    rw [bytesE17] at this
    have e' : reachBytes = 140737488351232 := by decide
    rw [e'] at this
    omega
/-- three numbers -/
theorem cellsT17 : Try.prog.cellsOf 40 = 3 := by kernel_rfl
theorem open_three {r : Reach} {b0 : Nat} {v : Value} {d : DataW H} {p : List MemPlace} (hv : Value.okWide Try.prog w r b0 40 v) (h : DataW.Trod enc Try.prog w base spare held 40 v d p) :
    ∃ x y z : Int, v = .agg #[.int .i64 x, .int .i64 y, .int .i64 z] ∧ (-9223372036854775808 ≤ x ∧ x ≤ 9223372036854775807) ∧ (-9223372036854775808 ≤ y ∧ y ≤ 9223372036854775807) ∧ (-9223372036854775808 ≤ z ∧ z ≤ 9223372036854775807) := by
  simp only [Value.okWide, Try.underlying40] at hv
  obtain ⟨cs, rfl, hsz, -⟩ := hv
  rw [cellsT17] at hsz
  obtain ⟨l⟩ := cs
  obtain ⟨fuel, hf⟩ := h
  obtain ⟨c0, c1, c2, rfl⟩ : ∃ a b c, l = [a, b, c] := by
    match l, hsz with
    | [a, b, c], _ => exact ⟨a, b, c, rfl⟩
  obtain ⟨xs, m, _, _, _, hn, hel⟩ := DataW.trod_array Try.underlying40 hf
  have h0 := hel 0 (by omega)
  have h1 := hel 1 (by omega)
  have h2 := hel 2 (by omega)
  rw [cellsI] at h0 h1 h2
  obtain ⟨y0, e0⟩ : ∃ y, xs[0]? = some y := ⟨_, List.getElem?_eq_getElem (by omega)⟩
  obtain ⟨y1, e1⟩ : ∃ y, xs[1]? = some y := ⟨_, List.getElem?_eq_getElem (by omega)⟩
  obtain ⟨y2, e2⟩ : ∃ y, xs[2]? = some y := ⟨_, List.getElem?_eq_getElem (by omega)⟩
  rw [e0] at h0
  rw [e1] at h1
  rw [e2] at h2
  have h0' : DataW.trod enc Try.prog w base spare held m 3 [c0] = some y0 := by simpa [Value.cells] using h0
  have h1' : DataW.trod enc Try.prog w base spare held m 3 [c1] = some y1 := by simpa [Value.cells] using h1
  have h2' : DataW.trod enc Try.prog w base spare held m 3 [c2] = some y2 := by simpa [Value.cells] using h2
  obtain ⟨x, g0, _, wx⟩ := DataW.trod_int Try.underlying3 h0'
  obtain ⟨y, g1, _, wy⟩ := DataW.trod_int Try.underlying3 h1'
  obtain ⟨z, g2, _, wz⟩ := DataW.trod_int Try.underlying3 h2'
  simp at g0 g1 g2
  exact ⟨x, y, z, by rw [g0, g1, g2], i_wf wx, i_wf wy, i_wf wz⟩
/-- truths -/
theorem open_truths {r : Reach} {b0 : Nat} {v : Value} {d : DataW H} {p : List MemPlace}
    (hv : Value.okWide Try.prog w r b0 44 v) (h : DataW.Trod enc Try.prog w base spare held 44 v d p) :
    ∃ (a : Option Addr) (m c : Nat) (l : List Bool), v = .slice a m c ∧ Ls eB AnyB w (.slice a m c) l := by
  have : Inhabited Bool := ⟨false⟩
  obtain ⟨va, vl, vc, rfl⟩ := okWide_slice Try.underlying44 hv
  obtain ⟨fuel, hf⟩ := h
  have hf' : DataW.trod enc Try.prog w base spare held fuel 44 [.slice va vl vc] = some (d, p) := hf
  obtain ⟨xs, lx, _⟩ := open_gen eB Try.underlying44 cellsB17 eB_len (by omega) (fun _ _ => True) (fun n cs z hl h => el_bool17 n cs z hl h) hf'
  exact ⟨va, vl, vc, xs, rfl, lx.mono (fun _ _ _ => trivial)⟩
/-- the same, where all that is handed in is small -/
theorem bulk_agg {d0 d1 : DataW H} : Rows.uptoBulk d1 ≤ Rows.uptoBulk (.agg [d0, d1]) := by
  simp only [Rows.uptoBulk, Rows.uptoBulkAll]
  omega
theorem open_graphU {r : Reach} {b0 : Nat} {v : Value} {d : DataW H} {p : List MemPlace} {ds : List (DataW H)}
    (hv : Value.okWide Try.prog w r b0 24 v) (h : DataW.Trod enc Try.prog w base spare held 24 v d p) (hk : Rows.uptoSmall H ds = true) (hd : d ∈ ds) :
    ∃ (n : Int) (a : Option Addr) (m c : Nat) (l : List Eg), v = .agg #[.int .i64 n, .slice a m c] ∧ Le w (.slice a m c) l ∧ m ≤ 1048576 ∧ (-9223372036854775808 ≤ n ∧ n ≤ 9223372036854775807) := by
  have hb : Rows.uptoBulkAll ds ≤ 1048576 := of_decide_eq_true hk
  have hb1 := Nat.le_trans (bulk_part hd) hb
  obtain ⟨n, a, m, c, l, d0, d1, e, hl, hn, rfl, hs⟩ := open_graph0 hv h
  refine ⟨n, a, m, c, l, e, hl, ?_, hn⟩
  rcases hs with rfl | ⟨el, sp, rfl, hle⟩
  · omega
  · have := bulk_slice el sp
    have := bulk_agg (d0 := d0) (d1 := .slice el sp)
    omega
theorem open_edgesU {r : Reach} {b0 : Nat} {v : Value} {d : DataW H} {p : List MemPlace} {ds : List (DataW H)}
    (hv : Value.okWide Try.prog w r b0 22 v) (h : DataW.Trod enc Try.prog w base spare held 22 v d p) (hk : Rows.uptoSmall H ds = true) (hd : d ∈ ds) :
    ∃ (a : Option Addr) (m c : Nat) (l : List Eg), v = .slice a m c ∧ Le w (.slice a m c) l ∧ m ≤ 1048576 := by
  have : Inhabited Eg := ⟨⟨0, 0⟩⟩
  obtain ⟨va, vl, vc, e⟩ := okWide_slice Try.underlying22 hv
  subst e
  obtain ⟨xs, lx, hx⟩ := open_slU eE Try.underlying22 cellsE17 eE_len (by omega) (fun n cs z hl h => el_edge n cs z hl h) hv h hk hd
  exact ⟨va, vl, vc, xs, rfl, lx.mono (fun _ _ _ => trivial), by rw [lx.len.1]; exact hx⟩
end
end Go.Proofs.Ytcoaefojamhloaa.Lt
