/-
  What each step from a walk to a statement of layer 4 takes: how a call, handed in by value, reads; and that what lay there before the call is as it was. No conditions.
-/
import Derived.Test.YtfbkifkfhgkdbabSbWorld
import Derived.ProofKit
import Derived.OpenShut
import Derived.Carry
import Derived.Lib.SmallJoins
namespace Go.Proofs.Ytfbkifkfhgkdbab.Sb
open Go.ChangeShapes Go.WideShapes Go.ChangeAt Go.RowKit Go.Deep Go.Joins

theorem own : ownKnob Try.prog.godebug = none := by kernel_rfl
theorem laid : laidOutB Try.prog = true := by kernel_rfl
theorem cellsO : Try.prog.cellsOf 49 = 5 := by kernel_rfl
theorem cellsG : Try.prog.cellsOf 34 = 2 := by kernel_rfl
theorem cellsI : Try.prog.cellsOf 3 = 1 := by kernel_rfl

theorem array5 {α : Type} {a : Array α} (h : a.size = 5) : ∃ x y z u v, a = #[x, y, z, u, v] := by
  obtain ⟨l⟩ := a
  match l, h with
  | [x, y, z, u, v], _ => exact ⟨x, y, z, u, v, rfl⟩

/-- an Op's five numbers -/
structure O5 where
  d : Int
  p : Int
  k : Int
  s : Int
  g : Int
theorem trod_op {H : Type} {enc : TypeId × Value → H} {w : World} {base : Nat} {spare : Nat → Bool} {held : Bool} {fuel : Nat} {c0 c1 c2 c3 c4 : Value} {y : DataW H × List MemPlace}
    (hf : DataW.trod enc Try.prog w base spare held fuel 49 [c0, c1, c2, c3, c4] = some y) :
    ∃ o : O5, c0 = .int .i64 o.d ∧ c1 = .int .i64 o.p ∧ c2 = .int .i64 o.k ∧ c3 = .int .i64 o.s ∧ c4 = .int .i64 o.g := by
  obtain ⟨y0, y1, y2, y3, n, hx, _, h0, h1, h2, h3⟩ := trod_struct4 Try.underlying49 hf
  have h0' : DataW.trod enc Try.prog w base spare held n 3 [c0] = some y0 := by simpa [cellsI] using h0
  have h1' : DataW.trod enc Try.prog w base spare held n 3 [c1] = some y1 := by simpa [cellsI] using h1
  have h2' : DataW.trod enc Try.prog w base spare held n 3 [c2] = some y2 := by simpa [cellsI] using h2
  have h3' : DataW.trod enc Try.prog w base spare held n 34 [c3, c4] = some y3 := by simpa [cellsG] using h3
  obtain ⟨z0, z1, m, hz, _, k0, k1⟩ := trod_struct2 Try.underlying34 h3'
  have k0' : DataW.trod enc Try.prog w base spare held m 3 [c3] = some z0 := by simpa [cellsI] using k0
  have k1' : DataW.trod enc Try.prog w base spare held m 3 [c4] = some z1 := by simpa [cellsI] using k1
  obtain ⟨d, e0, rfl, _⟩ := DataW.trod_int Try.underlying3 h0'
  obtain ⟨p, e1, rfl, _⟩ := DataW.trod_int Try.underlying3 h1'
  obtain ⟨k, e2, rfl, _⟩ := DataW.trod_int Try.underlying3 h2'
  obtain ⟨s, e3, rfl, _⟩ := DataW.trod_int Try.underlying3 k0'
  obtain ⟨g, e4, rfl, _⟩ := DataW.trod_int Try.underlying3 k1'
  simp at e0 e1 e2 e3 e4
  exact ⟨⟨d, p, k, s, g⟩, e0, e1, e2, e3, e4⟩

theorem open_op {H : Type} {enc : TypeId × Value → H} {w : World} {base : Nat} {spare : Nat → Bool} {held : Bool} {r : Reach} {b0 : Nat} {v : Value} {d : DataW H} {p : List MemPlace}
    (hv : Value.okWide Try.prog w r b0 49 v) (h : DataW.Trod enc Try.prog w base spare held 49 v d p) :
    ∃ o : O5, v = .agg #[.int .i64 o.d, .int .i64 o.p, .int .i64 o.k, .int .i64 o.s, .int .i64 o.g] := by
  obtain ⟨cs, rfl, hsz⟩ := okWide_struct Try.underlying49 hv
  obtain ⟨c0, c1, c2, c3, c4, rfl⟩ := array5 (hsz.trans cellsO)
  obtain ⟨fuel, hf⟩ := h
  obtain ⟨o, rfl, rfl, rfl, rfl, rfl⟩ := trod_op (by simpa [Value.cells] using hf)
  exact ⟨o, rfl⟩

/-- what a law leaves behind a call that turned nothing that was there -/
theorem post_law1 {H : Type} {enc : TypeId × Value → H} {f : Func} {s : ChangeSpec} {W W' : World} {v0 : Value} {d0 : DataW H} {p : List MemPlace} {t0 tb : TypeId}
    (hW : DataW.Whole enc Try.prog f.params.toList s.vars false W [v0] [d0] [] p) (hf : f.params.toList = [t0]) (hr : f.resultTypes = #[tb]) (hb : Try.prog.underlying tb = some .bool) (hs : s.vars = [])
    (hfn : s.fn H [d0] = { results := [.lit (.bool true)], args := [d0] }) (rd : Try.prog.readableRec t0 = true) (hl : t0 < Try.prog.types.size) (h0 : DataW.Trod enc Try.prog W 0 (fun _ => true) true t0 v0 d0 p)
    (k : Below W.heap.size W W') : s.post enc Try.prog f false true false false W #[v0] (.bool true) W' := by
  have hlt : ∀ x ∈ p, x.block < W.heap.size := fun x hx => hW.lt x hx
  refine ⟨[d0], [], p, [], p, [], hW, ?_, ?_, ?_, k.frame _, fun h => by cases h⟩
  · rw [hr, List.append_nil, hfn]
    exact trodAll_mk1 (shut_bool hb _)
  · rw [hf, List.append_nil, hfn]
    have := trodAll_mk1 (Below.trod laid rd hl h0 k hlt)
    simpa using this
  · rw [hs, List.append_nil, hfn]
    rfl
end Go.Proofs.Ytfbkifkfhgkdbab.Sb
