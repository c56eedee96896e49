/-
  TableTicks, walked: both sides tell the same of any table, domain and number of ticks; the sort is a premise. Condition: the numbers are of their types.
-/
import Derived.Test.YtbghagpjkkmhpaaTbAwake
import Derived.Test.YtbghagpjkkmhpaaTbTck
namespace Go.Proofs.Ytbghagpjkkmhpaa.Lt
open Go.RowKit Wd
attribute [local go_sem ↓] Go.wp_at_zero Go.wp_at_succ
set_option maxRecDepth 20000

set_option maxHeartbeats 4000000 in
theorem ticks_walk (hS : SortsW) (w : World) (F : Int) (a : Option Addr) (n c : Nat) (L : List (List Sl)) (x dm : Int) (h : Rw w (.slice a n c) L) (hx : Rgs L) (hF : Tk.U F) (hu : Tk.U x) (_hd : -9223372036854775808 ≤ dm ∧ dm ≤ 9223372036854775807) :
    Calls Try.prog 6 #[.agg #[.int .u64 F, .slice a n c], .int .u64 x, .int .i64 dm] w fun e w' => e = .returned (.bool true) ∧ Gr w w' := by
  obtain ⟨u0, u1⟩ := hu
  obtain ⟨N, rfl⟩ : ∃ N : Nat, x = (N : Int) := ⟨x.toNat, by omega⟩
  have H1 := hide (fun W (g : Gr w W) => ticks_any hS W a n c L (h.gr g) hx F dm hF N u1)
  have H2 := hide (fun W (g : Gr w W) => rticks_any W a n c L (h.gr g) hx F dm hF N u1)
  clear h hx hF
  go_enter Try.func6, Try.ntmps6
  go_wp2_with fail
  refine (H1.out _ (Ch.alloc (Gr.refl w) _)).mono ?_
  rintro e w1 ⟨v, rfl, hz, hs, g1⟩
  obtain ⟨t0, t1, tb, gt⟩ := box2 g1
  have G1 := hide gt
  have HZ := hide hz
  have HS := hide hs
  clear gt hz hs g1
  go_wp2_with fail
  refine (H2.out _ G1.out).mono ?_
  rintro e w2 ⟨v2, rfl, hz2, hs2, g2⟩
  have G2 := hide (Gr.trans G1.out g2)
  have ev : v2 = v := by
    by_cases h0 : lkE F L dm 16 = 0
    · obtain ⟨f1, q1, s1⟩ := HS.out h0
      obtain ⟨f2, q2, s2⟩ := hs2 h0
      have e3 : f1 = f2 := by omega
      subst e3
      rw [s1, s2]
    · rw [hz2 h0, HZ.out h0]
  subst ev
  generalize lkE F L dm 16 = E at *
  clear g2 hz2 hs2 t0 t1 tb HZ HS
  go_wp2_with fail
  refine (awake_any _).mono ?_
  rintro e w3 ⟨rfl, g3⟩
  have G3 := hide (Gr.trans G2.out g3)
  clear g3
  go_wp2
  go_ret
  exact ⟨rfl, G3.out⟩
end Go.Proofs.Ytbghagpjkkmhpaa.Lt
