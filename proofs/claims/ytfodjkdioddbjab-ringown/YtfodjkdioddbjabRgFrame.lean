/-
  What each step from a walk to a statement of layer 2 takes: how one that waits, handed in by value, reads as three numbers; and that what lay there before the call is as it was. No conditions.
-/
import Derived.Test.YtfodjkdioddbjabRgWorld
import Derived.ProofKit
import Derived.OpenShut
import Derived.Carry
import Derived.Lib.SmallJoins
namespace Go.Proofs.Ytfodjkdioddbjab.Rg
open Go.ChangeShapes Go.WideShapes Go.ChangeAt Go.RowKit Go.Deep Go.Joins

theorem own : ownKnob Try.prog.godebug = none := by kernel_rfl
theorem laid : laidOutB Try.prog = true := by kernel_rfl
theorem cellsW : Try.prog.cellsOf 27 = 3 := by kernel_rfl
theorem cellsG : Try.prog.cellsOf 24 = 2 := by kernel_rfl
theorem cellsI : Try.prog.cellsOf 3 = 1 := by kernel_rfl
theorem cellsU : Try.prog.cellsOf 25 = 1 := by kernel_rfl

theorem array3 {α : Type} {a : Array α} (h : a.size = 3) : ∃ x y z, a = #[x, y, z] := by
  obtain ⟨l⟩ := a
  match l, h with
  | [x, y, z], _ => exact ⟨x, y, z, rfl⟩

theorem trod_w3 {H : Type} {enc : TypeId × Value → H} {w : World} {base : Nat} {spare : Nat → Bool} {held : Bool} {fuel : Nat} {c0 c1 c2 : Value} {y : DataW H × List MemPlace}
    (hf : DataW.trod enc Try.prog w base spare held fuel 27 [c0, c1, c2] = some y) :
    ∃ x : W3, c0 = .int .i64 x.s ∧ c1 = .int .i64 x.g ∧ c2 = .int .u64 x.t := by
  obtain ⟨y0, y1, n, hx, _, h0, h1⟩ := trod_struct2 Try.underlying27 hf
  have h0' : DataW.trod enc Try.prog w base spare held n 24 [c0, c1] = some y0 := by simpa [cellsG] using h0
  have h1' : DataW.trod enc Try.prog w base spare held n 25 [c2] = some y1 := by simpa [cellsU] using h1
  obtain ⟨z0, z1, m, hz, _, k0, k1⟩ := trod_struct2 Try.underlying24 h0'
  have k0' : DataW.trod enc Try.prog w base spare held m 3 [c0] = some z0 := by simpa [cellsI] using k0
  have k1' : DataW.trod enc Try.prog w base spare held m 3 [c1] = some z1 := by simpa [cellsI] using k1
  obtain ⟨t, e0, rfl, _⟩ := DataW.trod_int Try.underlying25 h1'
  obtain ⟨s, e1, rfl, _⟩ := DataW.trod_int Try.underlying3 k0'
  obtain ⟨g, e2, rfl, _⟩ := DataW.trod_int Try.underlying3 k1'
  simp at e0 e1 e2
  exact ⟨⟨s, g, t⟩, e1, e2, e0⟩

theorem open_w3 {H : Type} {enc : TypeId × Value → H} {w : World} {base : Nat} {spare : Nat → Bool} {held : Bool} {r : Reach} {b0 : Nat} {v : Value} {d : DataW H} {p : List MemPlace}
    (hv : Value.okWide Try.prog w r b0 27 v) (h : DataW.Trod enc Try.prog w base spare held 27 v d p) :
    ∃ x : W3, v = .agg #[.int .i64 x.s, .int .i64 x.g, .int .u64 x.t] := by
  obtain ⟨cs, rfl, hsz⟩ := okWide_struct Try.underlying27 hv
  obtain ⟨c0, c1, c2, rfl⟩ := array3 (hsz.trans cellsW)
  obtain ⟨fuel, hf⟩ := h
  obtain ⟨x, rfl, rfl, rfl⟩ := trod_w3 (by simpa [Value.cells] using hf)
  exact ⟨x, rfl⟩

/-- what a law leaves behind a call that turned nothing that was there -/
theorem post_law1 {H : Type} {enc : TypeId × Value → H} {f : Func} {s : ChangeSpec} {W W' : World} {v0 : Value} {d0 : DataW H} {p : List MemPlace} {t0 tb : TypeId}
    (hW : DataW.Whole enc Try.prog f.params.toList s.vars false W [v0] [d0] [] p) (hf : f.params.toList = [t0]) (hr : f.resultTypes = #[tb]) (hb : Try.prog.underlying tb = some .bool) (hs : s.vars = [])
    (hfn : s.fn H [d0] = { results := [.lit (.bool true)], args := [d0] }) (rd : Try.prog.readableRec t0 = true) (hl : t0 < Try.prog.types.size) (h0 : DataW.Trod enc Try.prog W 0 (fun _ => true) true t0 v0 d0 p)
    (k : Below W.heap.size W W') : s.post enc Try.prog f false true false false W #[v0] (.bool true) W' := by
  have hlt : ∀ x ∈ p, x.block < W.heap.size := fun x hx => hW.lt x hx
  refine ⟨[d0], [], p, [], p, [], hW, ?_, ?_, ?_, k.frame _, fun h => by cases h⟩
  · rw [hr, List.append_nil, hfn]
    exact trodAll_mk1 (shut_bool hb _)
  · rw [hf, List.append_nil, hfn]
    have := trodAll_mk1 (Below.trod laid rd hl h0 k hlt)
    simpa using this
  · rw [hs, List.append_nil, hfn]
    rfl
end Go.Proofs.Ytfodjkdioddbjab.Rg
