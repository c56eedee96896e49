/-
  How a tick, a frame and a window, handed in by value as one, read as four numbers, and back. No conditions.
-/
import Derived.Test.YtikipkjanojgaabFrame
import Derived.Lib.SmallJoins
namespace Go.Proofs.Ytikipkjanojgaab.Tk
open Go.ChangeShapes Go.WideShapes Go.ChangeAt Go.RowKit Go.Deep Go.Joins

theorem cellsF : Try.prog.cellsOf 26 = 4 := by kernel_rfl
theorem cellsW : Try.prog.cellsOf 24 = 2 := by kernel_rfl
theorem cellsU : Try.prog.cellsOf 22 = 1 := by kernel_rfl

theorem open_framed {H : Type} {enc : TypeId × Value → H} {w : World} {base : Nat} {spare : Nat → Bool} {held : Bool} {r : Reach} {b0 : Nat} {v : Value} {d : DataW H} {p : List MemPlace}
    (hv : Value.okWide Try.prog w r b0 26 v) (h : DataW.Trod enc Try.prog w base spare held 26 v d p) :
    ∃ t f s l : Int, v = .agg #[.int .u64 t, .int .u64 f, .int .u64 s, .int .u64 l] ∧ d = .agg [.lit (.int .u64 t), .lit (.int .u64 f), .agg [.lit (.int .u64 s), .lit (.int .u64 l)]] ∧ p = [] ∧
      (Lit.int .u64 t).wf = true ∧ (Lit.int .u64 f).wf = true ∧ (Lit.int .u64 s).wf = true ∧ (Lit.int .u64 l).wf = true := by
  obtain ⟨cs, rfl, hsz⟩ := okWide_struct Try.underlying26 hv
  obtain ⟨c0, c1, c2, c3, rfl⟩ := array4 (hsz.trans cellsF)
  obtain ⟨fuel, hf⟩ := h
  obtain ⟨y0, y1, y2, n, hx, _, h0, h1, h2⟩ := trod_struct3 Try.underlying26 hf
  simp only [Prod.mk.injEq] at hx
  have h0' : DataW.trod enc Try.prog w base spare held n 22 [c0] = some y0 := by simpa [Value.cells, cellsU] using h0
  have h1' : DataW.trod enc Try.prog w base spare held n 22 [c1] = some y1 := by simpa [Value.cells, cellsU] using h1
  have h2' : DataW.trod enc Try.prog w base spare held n 24 [c2, c3] = some y2 := by simpa [Value.cells, cellsW] using h2
  obtain ⟨z0, z1, m, hz, _, k0, k1⟩ := trod_struct2 Try.underlying24 h2'
  have k0' : DataW.trod enc Try.prog w base spare held m 22 [c2] = some z0 := by simpa [cellsU] using k0
  have k1' : DataW.trod enc Try.prog w base spare held m 22 [c3] = some z1 := by simpa [cellsU] using k1
  obtain ⟨t, e0, rfl, wt⟩ := DataW.trod_int Try.underlying22 h0'
  obtain ⟨f, e1, rfl, wf⟩ := DataW.trod_int Try.underlying22 h1'
  obtain ⟨s, e2, rfl, ws⟩ := DataW.trod_int Try.underlying22 k0'
  obtain ⟨l, e3, rfl, wl⟩ := DataW.trod_int Try.underlying22 k1'
  simp at e0 e1 e2 e3
  subst e0 e1 e2 e3
  subst hz
  exact ⟨t, f, s, l, rfl, hx.1, by simpa using hx.2, wt, wf, ws, wl⟩

theorem shut_framed {H : Type} {enc : TypeId × Value → H} {w : World} {base : Nat} {spare : Nat → Bool} {held : Bool} {t f s l : Int}
    (wt : (Lit.int .u64 t).wf = true) (wf : (Lit.int .u64 f).wf = true) (ws : (Lit.int .u64 s).wf = true) (wl : (Lit.int .u64 l).wf = true) :
    DataW.Trod enc Try.prog w base spare held 26 (.agg #[.int .u64 t, .int .u64 f, .int .u64 s, .int .u64 l]) (.agg [.lit (.int .u64 t), .lit (.int .u64 f), .agg [.lit (.int .u64 s), .lit (.int .u64 l)]]) [] := by
  have i0 : DataW.trod enc Try.prog w base spare held 1 22 [.int .u64 s] = some (.lit (.int .u64 s), []) := trod_int_mk 0 Try.underlying22 ws
  have i1 : DataW.trod enc Try.prog w base spare held 1 22 [.int .u64 l] = some (.lit (.int .u64 l), []) := trod_int_mk 0 Try.underlying22 wl
  have j0 : DataW.trod enc Try.prog w base spare held 2 22 [.int .u64 t] = some (.lit (.int .u64 t), []) := trod_int_mk 1 Try.underlying22 wt
  have j1 : DataW.trod enc Try.prog w base spare held 2 22 [.int .u64 f] = some (.lit (.int .u64 f), []) := trod_int_mk 1 Try.underlying22 wf
  have j2 : DataW.trod enc Try.prog w base spare held 2 24 [.int .u64 s, .int .u64 l] = some (.agg [.lit (.int .u64 s), .lit (.int .u64 l)], []) := by
    have := trod_struct2_mk (enc := enc) (w := w) (base := base) (spare := spare) (held := held) (n := 1) (cs := [.int .u64 s, .int .u64 l]) Try.underlying24 (by simp [cellsW]) (by simpa [cellsU] using i0) (by simpa [cellsU] using i1)
    simpa using this
  have := trod_struct3_mk (enc := enc) (w := w) (base := base) (spare := spare) (held := held) (n := 2) (cs := [.int .u64 t, .int .u64 f, .int .u64 s, .int .u64 l]) Try.underlying26 (by simp [cellsF]) (by simpa [cellsU] using j0) (by simpa [cellsU] using j1) (by simpa [cellsW] using j2)
  exact ⟨3, by simpa [Value.cells] using this⟩
end Go.Proofs.Ytikipkjanojgaab.Tk
