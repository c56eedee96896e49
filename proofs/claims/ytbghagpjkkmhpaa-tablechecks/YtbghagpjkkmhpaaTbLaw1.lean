/-
  TableChecks, walked: both sides tell the same of any table and number. Condition: the numbers are of their types.
-/
import Derived.Test.YtbghagpjkkmhpaaTbAwake
import Derived.Test.YtbghagpjkkmhpaaTbRChk
namespace Go.Proofs.Ytbghagpjkkmhpaa.Lt
open Go.RowKit Wd
attribute [local go_sem ↓] Go.wp_at_zero Go.wp_at_succ
set_option maxRecDepth 20000

set_option maxHeartbeats 4000000 in
theorem checks_walk (w : World) (F : Int) (a : Option Addr) (n c : Nat) (L : List (List Sl)) (dm : Int) (h : Rw w (.slice a n c) L) (hx : Rgs L) (hF : Tk.U F) (_hd : -9223372036854775808 ≤ dm ∧ dm ≤ 9223372036854775807) :
    Calls Try.prog 3 #[.agg #[.int .u64 F, .slice a n c], .int .i64 dm] w fun e w' => e = .returned (.bool true) ∧ Gr w w' := by
  have HC := hide (fun W (g : Gr w W) => check_any W a n c L (h.gr g) hx F dm hF)
  have HR := hide (fun W (g : Gr w W) => rcheck_any W a n c L (h.gr g) hx F dm hF)
  unfold chkV at HC HR
  generalize chk F L dm = R at HC HR
  obtain ⟨r1, r2, r3⟩ := R
  dsimp only at HC HR
  clear h hx hF
  go_enter Try.func3, Try.ntmps3
  go_wp2_with fail
  refine (HC.out _ (Ch.alloc (Gr.refl w) _)).mono ?_
  rintro e w1 ⟨rfl, g1⟩
  obtain ⟨t0, t1, tb, gt⟩ := box2 g1
  have G1 := hide gt
  clear gt
  go_wp2_with fail
  refine (HR.out _ G1.out).mono ?_
  rintro e w2 ⟨rfl, g2⟩
  have G2 := hide (Gr.trans G1.out g2)
  clear g1 g2
  go_wp2_with fail
  refine (awake_any _).mono ?_
  rintro e w3 ⟨rfl, g3⟩
  have G3 := hide (Gr.trans G2.out g3)
  clear g3
  go_wp2
  go_ret
  exact ⟨rfl, G3.out⟩
end Go.Proofs.Ytbghagpjkkmhpaa.Lt
