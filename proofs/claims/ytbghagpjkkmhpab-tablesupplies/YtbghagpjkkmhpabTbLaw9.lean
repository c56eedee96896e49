/-
  TableSupplies, walked: both sides tell the same of any table, domain and number of ticks. Condition: the numbers are of their types.
-/
import Derived.Test.YtbghagpjkkmhpabTbAwake
import Derived.Test.YtbghagpjkkmhpabTbRSup
namespace Go.Proofs.Ytbghagpjkkmhpab.Lt
open Go.RowKit Wd
attribute [local go_sem ↓] Go.wp_at_zero Go.wp_at_succ
set_option maxRecDepth 20000

set_option maxHeartbeats 4000000 in
theorem supplies_walk (w : World) (F : Int) (a : Option Addr) (n c : Nat) (L : List (List Sl)) (dm x : Int) (h : Rw w (.slice a n c) L) (hx : Rgs L) (hF : Tk.U F) (_hd : -9223372036854775808 ≤ dm ∧ dm ≤ 9223372036854775807) (hu : Tk.U x) :
    Calls Try.prog 6 #[.agg #[.int .u64 F, .slice a n c], .int .i64 dm, .int .u64 x] w fun e w' => e = .returned (.bool true) ∧ Gr w w' := by
  obtain ⟨u0, u1⟩ := hu
  obtain ⟨N, rfl⟩ : ∃ N : Nat, x = (N : Int) := ⟨x.toNat, by omega⟩
  have H1 := hide (fun W (g : Gr w W) => supply_any W a n c L (h.gr g) hx F dm hF N u1)
  have H2 := hide (fun W (g : Gr w W) => rsupply_any W a n c L (h.gr g) hx F dm hF N u1)
  clear h hx hF
  go_enter Try.func6, Try.ntmps6
  go_wp2_with fail
  refine (H1.out _ (Ch.alloc (Gr.refl w) _)).mono ?_
  rintro e w1 ⟨v, E, rfl, hE, hz, hs, g1⟩
  obtain ⟨t0, t1, tb, gt⟩ := box2 g1
  have G1 := hide gt
  have HE := hide hE
  have HZ := hide hz
  have HS := hide hs
  clear gt hE hz hs g1
  go_wp2_with fail
  refine (H2.out _ G1.out).mono ?_
  rintro e w2 ⟨v2, E2, rfl, hE2, hz2, hs2, g2⟩
  have G2 := hide (Gr.trans G1.out g2)
  have e2 : E2 = E := hE2.trans HE.out.symm
  subst e2
  have ev : v2 = v := by
    by_cases h0 : E2 = 0
    · obtain ⟨f1, q1, s1⟩ := HS.out h0
      obtain ⟨f2, q2, s2⟩ := hs2 h0
      have e3 : f1 = f2 := by omega
      subst e3
      exact s2.uniq s1
    · rw [hz2 h0, HZ.out h0]
  subst ev
  clear g2 hE2 hz2 hs2 t0 t1 tb
  go_wp2_with fail
  refine (awake_any _).mono ?_
  rintro e w3 ⟨rfl, g3⟩
  have G3 := hide (Gr.trans G2.out g3)
  clear g3
  go_wp2
  go_ret
  exact ⟨rfl, G3.out⟩
end Go.Proofs.Ytbghagpjkkmhpab.Lt
