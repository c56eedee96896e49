/-
  What awake of the statements answers: true, and nothing that was there is turned. No conditions.
-/
import Derived.Test.YtfodjkdioddbjabRgLoad
namespace Go.Proofs.Ytfodjkdioddbjab.Rg
open Go.RowKit
attribute [local go_sem ↓] Go.wp_at_zero Go.wp_at_succ

theorem awake_any (w : World) : Calls Try.prog 7 #[] w fun e w' => e = .returned (.bool true) ∧ Ch NoB w w' := by
  go_enter Try.func7, Try.ntmps7
  go_wp2_with fail
  refine (new_ex _).mono ?_
  rintro e w1 ⟨b, rfl, hb, r1, g1⟩
  have hlt := r1.lt
  have hP := put_any b ⟨0, 0, 3⟩ [] none _ (r1.alloc (.cells #[.int .i64 0, .int .i64 0, .int .u64 3] 27))
  have e1 : putE [] none ⟨0, 0, 3⟩ = 0 := rfl
  have e2 : putP [] none ⟨0, 0, 3⟩ = [⟨0, 0, 3⟩] := rfl
  rw [e1, e2] at hP
  have HP := hid hP
  have HG1 := hid g1
  clear hP e1 e2 r1 g1
  go_wp2_with fail
  refine HP.out.mono ?_
  rintro e w2 ⟨v, rfl, l2, r2, g2⟩
  have hT := take_any b [⟨0, 0, 3⟩] none _ r2
  have e3 : tkX [⟨0, 0, 3⟩] none = ⟨0, 0, 3⟩ := rfl
  have e4 : tkE [⟨0, 0, 3⟩] none = 0 := rfl
  rw [e3, e4] at hT
  have T2 := (Three.new w1 ⟨0, 0, 3⟩).ch g2 (fun e => by have : w1.heap.size = b := e; omega)
  have HT := hid hT
  have HT2 := hid T2
  have HG2 := hid ((HG1.out.alloc _).trans g2 (fun q e => .inr (by have : q = b := e; omega)))
  clear hT e3 e4 l2 r2 g2 T2
  go_wp2_with fail
  refine HT.out.mono ?_
  rintro e w3 ⟨rfl, r3, g3⟩
  have T3 := HT2.out.ch g3 (fun e => by have : w1.heap.size = b := e; omega)
  obtain ⟨x0, x1, x2⟩ := T3.cells
  have hlt3 := T3.lt
  have HG3 := hid (HG2.out.trans g3 (fun q e => .inr (by have : q = b := e; omega)))
  clear r3 g3 T3
  go_wp2
  go_ret
  exact ⟨rfl, HG3.out.alloc _⟩
end Go.Proofs.Ytfodjkdioddbjab.Rg
