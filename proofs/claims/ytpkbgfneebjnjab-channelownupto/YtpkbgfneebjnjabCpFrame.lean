/-
  How a list of numbers and of truths that is handed in reads. No conditions.
-/
import Derived.Test.YtpkbgfneebjnjabGnFrame
import Derived.Test.YtpkbgfneebjnjabCnBase
namespace Go.Proofs.Ytpkbgfneebjnjab.Lt
open Go.ChangeShapes Go.WideShapes Go.ChangeAt Go.RowKit Go.Deep Go.Joins Wd
set_option maxRecDepth 100000

theorem cellsJ : Try.prog.cellsOf 2 = 1 := by kernel_rfl
theorem cellsB : Try.prog.cellsOf 4 = 1 := by kernel_rfl
def eBo (b : Bool) : List Value := [.bool b]
theorem eBo_len (b : Bool) : (eBo b).length = 1 := rfl
theorem wf_u8c {n : Int} (h : (Lit.int .u8 n).wf = true) : 0 ≤ n ∧ n ≤ 255 := by
  simp only [Lit.wf, IntKind.min, IntKind.max, IntKind.signed, IntKind.bits, Bool.and_eq_true] at h
  simp at h
  omega
section
variable {H : Type} {enc : TypeId × Value → H} {w : World} {base : Nat} {spare : Nat → Bool} {held : Bool}
theorem el_num (n : Nat) (cs : List Value) (z : DataW H × List MemPlace) (_hl : cs.length = 1) (h : DataW.trod enc Try.prog w base spare held n 2 cs = some z) : ∃ x : Int, cs = eI x ∧ True := by
  obtain ⟨x, e1, _, _⟩ := DataW.trod_int Try.underlying2 h
  exact ⟨x, by rw [e1]; rfl, trivial⟩
theorem el_bool (n : Nat) (cs : List Value) (z : DataW H × List MemPlace) (_hl : cs.length = 1) (h : DataW.trod enc Try.prog w base spare held n 4 cs = some z) : ∃ x : Bool, cs = eBo x ∧ True := by
  obtain ⟨x, e1, _⟩ := DataW.trod_bool Try.underlying4 h
  exact ⟨x, by rw [e1]; rfl, trivial⟩
end
end Go.Proofs.Ytpkbgfneebjnjab.Lt
