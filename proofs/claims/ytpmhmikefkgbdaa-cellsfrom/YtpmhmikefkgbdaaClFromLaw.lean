/-
  What CellsFrom of the statements answers: true, of any log. Condition: it lies where it lies.
-/
import Derived.Test.YtpmhmikefkgbdaaClRFrom
namespace Go.Proofs.Ytpmhmikefkgbdaa.Lt
open Go.RowKit Wd
attribute [local go_sem ↓] Go.wp_at_zero Go.wp_at_succ

set_option maxHeartbeats 4000000 in
theorem from_law (Q : Nat → Prop) (vl : Value) (l : List Ac) (w : World) (hl : Ls eA Q w vl l) (hln : l.length ≤ 4398046511104) : Calls Try.prog 6 #[vl] w fun e w' => e = .returned (.bool true) ∧ Gr w w' := by
  obtain ⟨M, hM⟩ : ∃ M, M = l.length := ⟨_, rfl⟩
  have H1 := hid (fun (W : World) (p : Gr w W) => from_any Q W vl l M hM (hl.gr p) hln)
  have H2 := hid (fun (W : World) (p : Gr w W) => rfrom_any Q W vl l M hM (hl.gr p) hln)
  have HA := hid (fun (W : World) => awake_any W)
  have HFL := hid (frs_len l M)
  unfold FrR at H1 H2
  generalize frs l M = xs at *
  rw [← hM] at hln
  clear hl hM
  go_enter Try.func6, Try.ntmps6
  go_wp2_with (first
    | (go_at_call 19; refine (H1.out _ (Gr.refl w)).mono ?_; rintro e w1 ⟨ao1, cap1, rfl, o1, g1⟩; have O1 := hid o1; have G1 := hid g1; clear o1 g1)
    | (go_at_call 20; refine (H2.out _ G1.out).mono ?_; rintro e w2 ⟨ao2, cap2, rfl, o2, g2⟩; have O2 := hid o2.lst; have O1b := hid (O1.out.gr g2).lst; have G2 := hid (Gr.trans G1.out g2); clear o2 g2))
  go_loopg [5] M (fun k i wr => ∃ j : Nat, j + k = M ∧ i = .int .i64 ((j : Nat) : Int) ∧ ∃ m, wr = w2.drewN m)
  case atStart => exact ⟨0, by omega, rfl, 0, rfl⟩
  case round =>
    obtain ⟨j, hjk, rfl, m, rfl⟩ := hrel
    by_cases hj : j < M
    · obtain ⟨z, hz⟩ : ∃ z, xs[j]? = some z := ⟨_, List.getElem?_eq_getElem (by rw [HFL.out]; exact hj)⟩
      obtain ⟨g, o, cap3, e1, -, -, -, d2⟩ := O1b.out.get eI_len hz
      obtain ⟨g', o', cap4, e2, -, -, -, d3⟩ := O2.out.get eI_len hz
      injection e1 with e1 h1 h2
      injection e2 with e2 h3 h4
      subst e1 e2
      have d0 := d2 0 _ rfl
      have d1 := d3 0 _ rfl
      clear d2 d3 h1 h2 h3 h4
      simp only [Nat.mul_one, Nat.add_zero] at d0 d1
      have j0 : (0 : Int) ≤ (j : Int) := by omega
      have j1 : (j : Int) < (M : Int) := by omega
      clear hz
      go_wp2
      go_quiet (fail)
      go_wp2
      go_roundg (gk - 1)
      case measure => omega
      case rel => exact ⟨j + 1, by omega, by simp, _, rfl⟩
    · have jn : ¬ (j : Int) < (M : Int) := by omega
      go_wp2_with (go_at_call 14; refine (HA.out _).mono ?_; rintro e w4 ⟨rfl, g4⟩; have G4 := hid (show Gr w w4 from Gr.trans (Ch.drewN G2.out m) g4); clear g4)
      go_ret
      exact ⟨rfl, G4.out⟩
end Go.Proofs.Ytpmhmikefkgbdaa.Lt
