/-
  What sameInts and sameDraws of the statements answer. Conditions: lists are not too long.
-/
import Derived.Test.YtalmiphddgmfbaaChOrd
import Derived.Test.YtalmiphddgmfbaaGnRegion
namespace Go.Proofs.Ytalmiphddgmfbaa.Lt
open Go.RowKit Wd
attribute [local go_sem ↓] Go.wp_at_zero Go.wp_at_succ

set_option maxRecDepth 20000 in
set_option maxHeartbeats 2000000 in
theorem sameI_any (P Q : Nat → Prop) (w : World) (ao bo : Option Addr) (n m ca cb : Nat) (xs ys : List Int) (ha : Ls eI P w (.slice ao n ca) xs) (hb : Ls eI Q w (.slice bo m cb) ys) (hn : n ≤ 4398046511104) (hm : m ≤ 4398046511104) : Calls Try.prog 11 #[.slice ao n ca, .slice bo m cb] w fun e w' => e = .returned (.bool (decide (xs = ys))) ∧ Gr w w' := by
  have HL := hid ha.len.1
  have HM := hid hb.len.1
  have HA := hid ha
  have HB := hid hb
  clear ha hb
  by_cases hnm : n = m
  · subst hnm
    go_enter Try.func11, Try.ntmps11
    go_wp2_with fail
    go_loopg [5] n (fun q i wr => ∃ (j : Nat), j + q = n ∧ i = .int .i64 (j : Int) ∧ xs.take j = ys.take j ∧ Gr w wr)
    case atStart => exact ⟨0, by omega, rfl, by simp, Gr.refl _⟩
    case round =>
      obtain ⟨j, hjk, rfl, hN, hG⟩ := hrel
      have HN := hid hN
      have HG := hid hG
      clear hN hG
      by_cases hj : j < n
      · obtain ⟨x, hx⟩ : ∃ x, xs[j]? = some x := ⟨_, List.getElem?_eq_getElem (by rw [← HL.out]; omega)⟩
        obtain ⟨y, hy⟩ : ∃ x, ys[j]? = some x := ⟨_, List.getElem?_eq_getElem (by rw [← HM.out]; omega)⟩
        obtain ⟨gg, oo, cap', hv, _, hgl, _, hcs⟩ := (HA.out.gr HG.out).get eI_len hx
        injection hv with hv1 hv2 hv3
        subst hv1
        obtain ⟨gh, oh, cbp', hw, _, hgh, _, hds⟩ := (HB.out.gr HG.out).get eI_len hy
        injection hw with hw1 hw2 hw3
        subst hw1
        have c0 := hcs 0 _ rfl
        have c1 := hds 0 _ rfl
        simp only [Nat.mul_one, Nat.add_zero] at c0 c1
        have j0 : (0 : Int) ≤ (j : Int) := by omega
        have j1 : (j : Int) < (n : Int) := by omega
        have HX := hid hx
        have HY := hid hy
        clear hcs hv2 hv3 hx hgl hds hw2 hw3 hy hgh
        by_cases e : x = y
        · subst e
          go_wp2_with fail
          go_region
          all_goals go_wp2
          all_goals go_roundg (gk - 1)
          all_goals first | omega | skip
          all_goals exact ⟨j + 1, by omega, by simp, by rw [take_one HX.out, take_one HY.out, HN.out], Ch.drew HG.out⟩
        · have e1 : (x == y) = false := by simpa using e
          have HI := hid (show decide (xs = ys) = false from decide_eq_false (fun q => by have h1 := HX.out; rw [q, HY.out] at h1; injection h1 with h1; exact e h1.symm))
          clear e
          go_wp2_with fail
          go_region
          all_goals go_wp2
          all_goals go_ret
          all_goals exact ⟨by rw [HI.out]; rfl, Ch.drew HG.out⟩
      · have jn : ¬ (j : Int) < (n : Int) := by omega
        have HI := hid (show decide (xs = ys) = true from decide_eq_true (by have h1 := HN.out; rwa [List.take_of_length_le (by rw [← HL.out]; omega), List.take_of_length_le (by rw [← HM.out]; omega)] at h1))
        go_wp2
        go_ret
        exact ⟨by rw [HI.out]; rfl, HG.out⟩
  · have e1 : ((n : Int) == (m : Int)) = false := by simpa using (show (n : Int) ≠ (m : Int) by omega)
    have HI := hid (show decide (xs = ys) = false from decide_eq_false (fun q => hnm (by rw [HL.out, HM.out, q])))
    clear hnm
    go_enter Try.func11, Try.ntmps11
    go_wp2
    go_ret
    exact ⟨by rw [HI.out]; rfl, Gr.refl _⟩
set_option maxRecDepth 20000 in
set_option maxHeartbeats 2000000 in
theorem sameU_any (P Q : Nat → Prop) (w : World) (ao bo : Option Addr) (n m ca cb : Nat) (xs ys : List Int) (ha : Ls eU P w (.slice ao n ca) xs) (hb : Ls eU Q w (.slice bo m cb) ys) (hn : n ≤ 4398046511104) (hm : m ≤ 4398046511104) : Calls Try.prog 15 #[.slice ao n ca, .slice bo m cb] w fun e w' => e = .returned (.bool (decide (xs = ys))) ∧ Gr w w' := by
  have HL := hid ha.len.1
  have HM := hid hb.len.1
  have HA := hid ha
  have HB := hid hb
  clear ha hb
  by_cases hnm : n = m
  · subst hnm
    go_enter Try.func15, Try.ntmps15
    go_wp2_with fail
    go_loopg [5] n (fun q i wr => ∃ (j : Nat), j + q = n ∧ i = .int .i64 (j : Int) ∧ xs.take j = ys.take j ∧ Gr w wr)
    case atStart => exact ⟨0, by omega, rfl, by simp, Gr.refl _⟩
    case round =>
      obtain ⟨j, hjk, rfl, hN, hG⟩ := hrel
      have HN := hid hN
      have HG := hid hG
      clear hN hG
      by_cases hj : j < n
      · obtain ⟨x, hx⟩ : ∃ x, xs[j]? = some x := ⟨_, List.getElem?_eq_getElem (by rw [← HL.out]; omega)⟩
        obtain ⟨y, hy⟩ : ∃ x, ys[j]? = some x := ⟨_, List.getElem?_eq_getElem (by rw [← HM.out]; omega)⟩
        obtain ⟨gg, oo, cap', hv, _, hgl, _, hcs⟩ := (HA.out.gr HG.out).get eU_len hx
        injection hv with hv1 hv2 hv3
        subst hv1
        obtain ⟨gh, oh, cbp', hw, _, hgh, _, hds⟩ := (HB.out.gr HG.out).get eU_len hy
        injection hw with hw1 hw2 hw3
        subst hw1
        have c0 := hcs 0 _ rfl
        have c1 := hds 0 _ rfl
        simp only [Nat.mul_one, Nat.add_zero] at c0 c1
        have j0 : (0 : Int) ≤ (j : Int) := by omega
        have j1 : (j : Int) < (n : Int) := by omega
        have HX := hid hx
        have HY := hid hy
        clear hcs hv2 hv3 hx hgl hds hw2 hw3 hy hgh
        by_cases e : x = y
        · subst e
          go_wp2_with fail
          go_region
          all_goals go_wp2
          all_goals go_roundg (gk - 1)
          all_goals first | omega | skip
          all_goals exact ⟨j + 1, by omega, by simp, by rw [take_one HX.out, take_one HY.out, HN.out], Ch.drew HG.out⟩
        · have e1 : (x == y) = false := by simpa using e
          have HI := hid (show decide (xs = ys) = false from decide_eq_false (fun q => by have h1 := HX.out; rw [q, HY.out] at h1; injection h1 with h1; exact e h1.symm))
          clear e
          go_wp2_with fail
          go_region
          all_goals go_wp2
          all_goals go_ret
          all_goals exact ⟨by rw [HI.out]; rfl, Ch.drew HG.out⟩
      · have jn : ¬ (j : Int) < (n : Int) := by omega
        have HI := hid (show decide (xs = ys) = true from decide_eq_true (by have h1 := HN.out; rwa [List.take_of_length_le (by rw [← HL.out]; omega), List.take_of_length_le (by rw [← HM.out]; omega)] at h1))
        go_wp2
        go_ret
        exact ⟨by rw [HI.out]; rfl, HG.out⟩
  · have e1 : ((n : Int) == (m : Int)) = false := by simpa using (show (n : Int) ≠ (m : Int) by omega)
    have HI := hid (show decide (xs = ys) = false from decide_eq_false (fun q => hnm (by rw [HL.out, HM.out, q])))
    clear hnm
    go_enter Try.func15, Try.ntmps15
    go_wp2
    go_ret
    exact ⟨by rw [HI.out]; rfl, Gr.refl _⟩
end Go.Proofs.Ytalmiphddgmfbaa.Lt
