/-
  The walks of WordCosts and WordNames. Condition: the tables lie where they lie.
-/
import Derived.Test.YtejmmpgclgdbbabDoorWdFind
namespace Go.Proofs.YtejmmpgclgdbbabDoor.Wd
open Go.RowKit

/-- two operations have two names -/
theorem nm_list : ∀ j, j < 59 → ∀ k, k < 59 → (nm j).data.toList = (nm k).data.toList → j = k := by decide +kernel
theorem nm_inj {j k : Nat} (hj : j < 59) (hk : k < 59) (h : nm j = nm k) : j = k := nm_list j hj k hk (by rw [h])
theorem nm_size : ∀ k, 1 ≤ k → k < 59 → 0 < (nm k).size ∧ (nm k).size ≤ 9 :=
  ops_all (P := fun k => 0 < (nm k).size ∧ (nm k).size ≤ 9) (by decide) (by decide) (by decide) (by decide) (by decide) (by decide) (by decide) (by decide) (by decide) (by decide) (by decide) (by decide) (by decide) (by decide) (by decide) (by decide) (by decide) (by decide) (by decide) (by decide) (by decide) (by decide) (by decide) (by decide) (by decide) (by decide) (by decide) (by decide) (by decide) (by decide) (by decide) (by decide) (by decide) (by decide) (by decide) (by decide) (by decide) (by decide) (by decide) (by decide) (by decide) (by decide) (by decide) (by decide) (by decide) (by decide) (by decide) (by decide) (by decide) (by decide) (by decide) (by decide) (by decide) (by decide) (by decide) (by decide) (by decide) (by decide)
theorem found_nm {k : Nat} {r x : Int} (h1 : 1 ≤ k) (h2 : k < 59) (h : Found (nm k) r x) : r = (k : Nat) ∧ x = 0 := by
  rcases h with ⟨j, j1, j2, j3, _, rfl, rfl⟩ | ⟨h, _⟩
  · rw [nm_inj j2 h2 j3]
    exact ⟨rfl, rfl⟩
  · exact absurd rfl (h k h1 h2)

set_option maxRecDepth 20000 in
theorem costs_any (o : Int) (w : World) (hn : Nums w) (hf : Forms w) (hm : Names w) :
    Calls Tryd.prog 4 #[.int .i64 o] w fun e w' => e = .returned (.bool true) ∧ Gr w w' := by
  have HN := hid hn
  have HF := hid hf
  have HM := hid hm
  clear hn hf hm
  rcases kn_cases o with h | ⟨k, h1, h2, rfl⟩
  · have H := hid h
    rcases h with h | h
    · go_enter Tryd.func4, Tryd.ntmps4
      go_wp2_with fail
      refine (cost_no o H.out _).mono ?_
      rintro e w1 ⟨rfl, rfl⟩
      go_wp2_with fail
      refine (name_no o H.out _).mono ?_
      rintro e w1 ⟨rfl, rfl⟩
      go_wp2_with fail
      refine (awake_any _ HN.out HF.out).mono ?_
      rintro e w1 ⟨rfl, g⟩
      go_wp2
      go_ret
      exact ⟨rfl, g⟩
    · have h' : ¬ o < 1 := by omega
      go_enter Tryd.func4, Tryd.ntmps4
      go_wp2_with fail
      refine (cost_no o H.out _).mono ?_
      rintro e w1 ⟨rfl, rfl⟩
      go_wp2_with fail
      refine (name_no o H.out _).mono ?_
      rintro e w1 ⟨rfl, rfl⟩
      go_wp2_with fail
      refine (awake_any _ HN.out HF.out).mono ?_
      rintro e w1 ⟨rfl, g⟩
      go_wp2
      go_ret
      exact ⟨rfl, g⟩
  · obtain ⟨_, _, q1, q2⟩ := nu_bd k h1 h2
    have T1 := hid (cost_yes k h1 h2 w HN.out)
    have T2 := hid (name_yes k h1 h2 w HM.out)
    have FN := hid (fun (r x : Int) (h : Found (nm k) r x) => found_nm h1 h2 h)
    obtain ⟨c, hc⟩ : ∃ c, c = co k := ⟨_, rfl⟩
    obtain ⟨t, ht⟩ : ∃ t, t = nm k := ⟨_, rfl⟩
    rw [← hc] at T1 q1 q2
    rw [← ht] at T2 FN
    clear hc ht
    go_enter Tryd.func4, Tryd.ntmps4
    go_wp2_with fail
    refine T1.out.mono ?_
    rintro e w1 ⟨rfl, rfl⟩
    go_wp2_with fail
    refine T2.out.mono ?_
    rintro e w1 ⟨rfl, rfl⟩
    go_wp2_with fail
    refine (find_any t _ HM.out).mono ?_
    rintro e w1 ⟨⟨r, x, rfl, hf1⟩, rfl⟩
    obtain ⟨rfl, rfl⟩ := FN.out _ _ hf1
    clear hf1
    go_wp2
    go_ret
    exact ⟨rfl, Gr.refl _⟩

set_option maxRecDepth 20000 in
theorem names_any (a b : Int) (w : World) (hn : Nums w) (hf : Forms w) (hm : Names w) :
    Calls Tryd.prog 5 #[.int .i64 a, .int .i64 b] w fun e w' => e = .returned (.bool true) ∧ Gr w w' := by
  have HN := hid hn
  have HF := hid hf
  have HM := hid hm
  clear hn hf hm
  rcases kn_cases a with h | ⟨k, h1, h2, rfl⟩
  · have H := hid h
    clear h
    rcases kn_cases b with h | ⟨l, l1, l2, rfl⟩
    · have H2 := hid h
      clear h
      go_enter Tryd.func5, Tryd.ntmps5
      go_wp2_with fail
      refine (name_no a H.out _).mono ?_
      rintro e w1 ⟨rfl, rfl⟩
      go_wp2_with fail
      refine (name_no b H2.out _).mono ?_
      rintro e w1 ⟨rfl, rfl⟩
      go_wp2_with fail
      refine (awake_any _ HN.out HF.out).mono ?_
      rintro e w1 ⟨rfl, g⟩
      go_wp2
      go_ret
      exact ⟨rfl, g⟩
    · go_enter Tryd.func5, Tryd.ntmps5
      go_wp2_with fail
      refine (name_no a H.out _).mono ?_
      rintro e w1 ⟨rfl, rfl⟩
      go_wp2_with fail
      refine (name_yes l l1 l2 _ HM.out).mono ?_
      rintro e w1 ⟨rfl, rfl⟩
      go_wp2_with fail
      refine (awake_any _ HN.out HF.out).mono ?_
      rintro e w1 ⟨rfl, g⟩
      go_wp2
      go_ret
      exact ⟨rfl, g⟩
  · rcases kn_cases b with h | ⟨l, l1, l2, rfl⟩
    · have H2 := hid h
      clear h
      go_enter Tryd.func5, Tryd.ntmps5
      go_wp2_with fail
      refine (name_yes k h1 h2 _ HM.out).mono ?_
      rintro e w1 ⟨rfl, rfl⟩
      go_wp2_with fail
      refine (name_no b H2.out _).mono ?_
      rintro e w1 ⟨rfl, rfl⟩
      go_wp2_with fail
      refine (awake_any _ HN.out HF.out).mono ?_
      rintro e w1 ⟨rfl, g⟩
      go_wp2
      go_ret
      exact ⟨rfl, g⟩
    · have T1 := hid (name_yes k h1 h2 w HM.out)
      have T2 := hid (name_yes l l1 l2 w HM.out)
      obtain ⟨z0, z1⟩ := nm_size k h1 h2
      have hI : ((nm k).toList == (nm l).toList) = decide (k = l) := by
        by_cases e : k = l
        · rw [e]; simp
        · rw [decide_eq_false e]
          cases hq : ((nm k).toList == (nm l).toList) with
          | false => rfl
          | true => exact absurd (nm_inj h2 l2 (str_eq hq)) e
      have hE : ((k : Int) == (l : Int)) = decide (k = l) := by
        by_cases e : k = l
        · rw [e]; simp
        · rw [decide_eq_false e]; simp; omega
      obtain ⟨q, hq⟩ : ∃ q, q = decide (k = l) := ⟨_, rfl⟩
      rw [← hq] at hI hE
      obtain ⟨t, ht⟩ : ∃ t, t = nm k := ⟨_, rfl⟩
      obtain ⟨s, hs⟩ : ∃ s, s = nm l := ⟨_, rfl⟩
      rw [← ht] at T1 z0 z1 hI
      rw [← hs] at T2 hI
      obtain ⟨y, hy⟩ : ∃ y, y = t.size := ⟨_, rfl⟩
      have hy' : t.size = y := hy.symm
      rw [hy'] at z0 z1
      clear hq ht hs hy
      cases q
      all_goals go_enter Tryd.func5, Tryd.ntmps5
      all_goals go_wp2_with fail
      all_goals refine T1.out.mono ?_
      all_goals rintro e w1 ⟨rfl, rfl⟩
      all_goals go_wp2_with fail
      all_goals refine T2.out.mono ?_
      all_goals rintro e w1 ⟨rfl, rfl⟩
      all_goals go_wp2
      all_goals go_ret
      all_goals exact ⟨rfl, Gr.refl _⟩
end Go.Proofs.YtejmmpgclgdbbabDoor.Wd
