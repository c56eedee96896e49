/-
  What channelsAll, firstThatGoes and carryOut of the select answer, by what Goes, Send and Recv do. Conditions: a list is not too long.
-/
import Derived.Test.YtalmiphddgmfbabCpSnd
import Derived.Test.YtalmiphddgmfbabChOrd
namespace Go.Proofs.Ytalmiphddgmfbab.Lt
open Go.RowKit Wd
attribute [local go_sem ↓] Go.wp_at_zero Go.wp_at_succ

/-- a case: whether it sends, its channel, its value -/
structure Pk where
  sd : Bool
  ch : Int
  v : Int
def eP (x : Pk) : List Value := [.bool x.sd, .int .i64 x.ch, .int .i64 x.v]
theorem eP_len (x : Pk) : (eP x).length = 3 := rfl
theorem eP_one (xs : List Pk) : ∀ u ∈ xs.flatMap eP, u.oneCell' = true := by
  intro u hu
  rw [List.mem_flatMap] at hu
  obtain ⟨x, _, hx⟩ := hu
  simp only [eP, List.mem_cons, List.not_mem_nil, or_false] at hx
  rcases hx with h | h | h <;> rw [h] <;> rfl
/-- Goes of these channels answers so -/
def GoA (cv : Value) (w : World) (gz : Int → Bool → Bool) (tz : Int → Int) : Prop := ∀ W, Gr w W → ∀ ch sd, Calls Try.prog 9 #[cv, .int .i64 ch, .bool sd] W fun e w' => e = .returned (.tuple #[.bool (gz ch sd), .int .i64 (tz ch)]) ∧ Gr W w'
set_option maxRecDepth 20000 in
set_option maxHeartbeats 2000000 in
theorem chall_any (cv : Option Addr) (P : Nat → Prop) (w : World) (ao : Option Addr) (n cap : Nat) (ps : List Pk) (gz : Int → Bool → Bool) (tz : Int → Int) (h : Ls eP P w (.slice ao n cap) ps) (hn : n ≤ 4398046511104) (hG : GoA (.pointer cv) w gz tz) : Calls Try.prog 28 #[.pointer cv, .slice ao n cap] w fun e w' => e = .returned (.bool (ps.all (fun p => tz p.ch == 0))) ∧ Gr w w' := by
  have HL := hid h.len.1
  have HB := hid h
  have HGo := hid hG
  clear h hG
  go_enter Try.func28, Try.ntmps28
  go_wp2_with fail
  go_loopg [11] n (fun q i wr => ∃ (j : Nat), j + q = n ∧ i = .int .i64 (j : Int) ∧ (ps.take j).all (fun p => tz p.ch == 0) = true ∧ Gr w wr)
  case atStart => exact ⟨0, by omega, rfl, rfl, Gr.refl _⟩
  case round =>
    obtain ⟨j, hjk, rfl, hN, hG⟩ := hrel
    have HN := hid hN
    have HG := hid hG
    clear hN hG
    by_cases hj : j < n
    · obtain ⟨⟨x0, x1, x2⟩, hx⟩ : ∃ x, ps[j]? = some x := ⟨_, List.getElem?_eq_getElem (by rw [← HL.out]; omega)⟩
      obtain ⟨gg, oo, cap', hv, _, hgl, _, hcs⟩ := (HB.out.gr HG.out).get eP_len hx
      injection hv with hv1 hv2 hv3
      subst hv1
      have c0 := hcs 0 _ rfl
      have c1 := hcs 1 _ rfl
      have c2 := hcs 2 _ rfl
      dsimp only [Nat.add_zero] at c0 c1 c2
      have j0 : (0 : Int) ≤ (j : Int) := by omega
      have j1 : (j : Int) < (n : Int) := by omega
      have HX := hid hx
      have G5 := hid (show Gr w (wr.alloc (.cells #[.bool x0, .int .i64 x1, .int .i64 x2] 39)) from Ch.alloc HG.out _)
      have HT := hid (take_one hx)
      obtain ⟨z, hz⟩ : ∃ z, z = tz x1 := ⟨_, rfl⟩
      have HZ := hid hz
      clear hcs hv2 hv3 hx hgl hz
      by_cases e : z = 0
      · have HE := hid e
        subst e
        go_wp2_with (go_at_call 9; refine (HGo.out _ G5.out x1 x0).mono ?_; rw [← HZ.out]; rintro e w5 ⟨rfl, g5⟩; have G6 := hid (Gr.trans G5.out g5); clear g5)
        go_roundg (gk - 1)
        case measure => omega
        case rel => exact ⟨j + 1, by omega, by simp, by rw [HT.out, List.all_append, HN.out]; simp [← HZ.out], G6.out⟩
      · have e1 : (z == 0) = false := by simpa using e
        have HI := hid (show ps.all (fun p => tz p.ch == 0) = false from by
          rw [List.all_eq_false]
          exact ⟨_, List.mem_of_getElem? HX.out, by rw [← HZ.out]; simpa using e⟩)
        clear e
        go_wp2_with (go_at_call 9; refine (HGo.out _ G5.out x1 x0).mono ?_; rw [← HZ.out]; rintro e w5 ⟨rfl, g5⟩; have G6 := hid (Gr.trans G5.out g5); clear g5)
        go_ret
        exact ⟨by rw [HI.out]; rfl, G6.out⟩
    · have jn : ¬ (j : Int) < (n : Int) := by omega
      have HI := hid (show ps.all (fun p => tz p.ch == 0) = true from by have := HN.out; rwa [List.take_of_length_le (by rw [← HL.out]; omega)] at this)
      go_wp2
      go_ret
      exact ⟨by rw [HI.out]; rfl, HG.out⟩
/-- the first that goes on, or -1 -/
def fst1 (gz : Int → Bool → Bool) (ps : List Pk) (os : List Int) : Int := (os.find? (fun o => match ps[o.toNat]? with | some p => gz p.ch p.sd | none => false)).getD (-1)
theorem fst1_yes {gz : Int → Bool → Bool} {ps : List Pk} {os : List Int} {j : Nat} {o : Int} {p : Pk} (hN : (os.take j).find? (fun o => match ps[o.toNat]? with | some p => gz p.ch p.sd | none => false) = none) (ho : os[j]? = some o) (hp : ps[o.toNat]? = some p) (hg : gz p.ch p.sd = true) : fst1 gz ps os = o := by
  unfold fst1
  have e : os = os.take j ++ (o :: os.drop (j + 1)) := by
    have hl := (List.getElem?_eq_some_iff.1 ho).1
    have := List.take_append_drop j os
    rw [List.drop_eq_getElem_cons hl] at this
    rw [(List.getElem?_eq_some_iff.1 ho).2] at this
    exact this.symm
  rw [e, List.find?_append, hN, List.find?_cons]
  simp [hp, hg]
theorem fst1_step {gz : Int → Bool → Bool} {ps : List Pk} {os : List Int} {j : Nat} {o : Int} {p : Pk} (hN : (os.take j).find? (fun o => match ps[o.toNat]? with | some p => gz p.ch p.sd | none => false) = none) (ho : os[j]? = some o) (hp : ps[o.toNat]? = some p) (hg : gz p.ch p.sd = false) : (os.take (j + 1)).find? (fun o => match ps[o.toNat]? with | some p => gz p.ch p.sd | none => false) = none := by
  rw [take_one ho, List.find?_append, hN]
  simp [hp, hg]
set_option maxRecDepth 20000 in
set_option maxHeartbeats 4000000 in
theorem first_any (cv : Option Addr) (P Q : Nat → Prop) (w : World) (ao : Option Addr) (n cap : Nat) (ps : List Pk) (oo : Option Addr) (m co : Nat) (os : List Int) (gz : Int → Bool → Bool) (tz : Int → Int) (h : Ls eP P w (.slice ao n cap) ps) (ho : Ls eI Q w (.slice oo m co) os) (hm : m ≤ 4398046511104) (hI : ∀ o ∈ os, 0 ≤ o ∧ o < (n : Int)) (hG : GoA (.pointer cv) w gz tz) : Calls Try.prog 29 #[.pointer cv, .slice ao n cap, .slice oo m co] w fun e w' => e = .returned (.int .i64 (fst1 gz ps os)) ∧ Gr w w' := by
  have HL := hid h.len.1
  have HM := hid ho.len.1
  have HB := hid h
  have HO := hid ho
  have HGo := hid hG
  have HI := hid hI
  clear h ho hG hI
  go_enter Try.func29, Try.ntmps29
  go_wp2_with fail
  go_loopg [13] m (fun q i wr => ∃ (j : Nat), j + q = m ∧ i = .int .i64 (j : Int) ∧ (os.take j).find? (fun o => match ps[o.toNat]? with | some p => gz p.ch p.sd | none => false) = none ∧ Gr w wr)
  case atStart => exact ⟨0, by omega, rfl, rfl, Gr.refl _⟩
  case round =>
    obtain ⟨j, hjk, rfl, hN, hG⟩ := hrel
    have HN := hid hN
    have HG := hid hG
    clear hN hG
    by_cases hj : j < m
    · obtain ⟨o, hx⟩ : ∃ x, os[j]? = some x := ⟨_, List.getElem?_eq_getElem (by rw [← HM.out]; omega)⟩
      obtain ⟨gg, ob, cap', hv, _, hgl, _, hcs⟩ := (HO.out.gr HG.out).get eI_len hx
      injection hv with hv1 hv2 hv3
      subst hv1
      have hoo := HI.out o (List.mem_of_getElem? hx)
      obtain ⟨k, rfl⟩ : ∃ k : Nat, o = (k : Int) := ⟨o.toNat, by omega⟩
      have hkn : k < n := by omega
      obtain ⟨⟨x0, x1, x2⟩, hy⟩ : ∃ x, ps[k]? = some x := ⟨_, List.getElem?_eq_getElem (by rw [← HL.out]; omega)⟩
      obtain ⟨gp, op, capp, hvp, _, hgp, _, hps⟩ := (HB.out.gr HG.out).get eP_len hy
      injection hvp with hvp1 hvp2 hvp3
      subst hvp1
      have d0 := hcs 0 _ rfl
      simp only [Nat.mul_one, Nat.add_zero] at d0
      have c0 := hps 0 _ rfl
      have c1 := hps 1 _ rfl
      dsimp only [Nat.add_zero] at c0 c1
      have j0 : (0 : Int) ≤ (j : Int) := by omega
      have j1 : (j : Int) < (m : Int) := by omega
      have k0 : (0 : Int) ≤ (k : Int) := by omega
      have k1 : (k : Int) < (n : Int) := by omega
      have HX := hid hx
      have HY := hid hy
      have HK := hid (show (k : Int).toNat = k from Int.toNat_natCast k)
      obtain ⟨z, hz⟩ : ∃ z, z = gz x1 x0 := ⟨_, rfl⟩
      have HZ := hid hz
      clear hcs hv2 hv3 hx hgl hz hps hvp2 hvp3 hy hgp hoo
      cases z with
      | true =>
        have HI2 := hid (fst1_yes HN.out HX.out (by rw [HK.out]; exact HY.out) HZ.out.symm)
        go_wp2_with fail
        go_region_with (go_at_call 9; refine (HGo.out _ (show Gr w wr.drew from Ch.drew HG.out) x1 x0).mono ?_; rw [← HZ.out]; rintro e w5 ⟨rfl, g5⟩; have G6 := hid (Gr.trans (show Gr w wr.drew from Ch.drew HG.out) g5); clear g5)
        all_goals go_wp2
        all_goals go_ret
        all_goals exact ⟨by rw [HI2.out]; rfl, G6.out⟩
      | false =>
        have HI2 := hid (fst1_step HN.out HX.out (by rw [HK.out]; exact HY.out) HZ.out.symm)
        go_wp2_with fail
        go_region_with (go_at_call 9; refine (HGo.out _ (show Gr w wr.drew from Ch.drew HG.out) x1 x0).mono ?_; rw [← HZ.out]; rintro e w5 ⟨rfl, g5⟩; have G6 := hid (Gr.trans (show Gr w wr.drew from Ch.drew HG.out) g5); clear g5)
        all_goals go_wp2
        all_goals go_roundg (gk - 1)
        all_goals first | omega | skip
        all_goals exact ⟨j + 1, by omega, by simp, HI2.out, G6.out⟩
    · have jn : ¬ (j : Int) < (m : Int) := by omega
      have HI2 := hid (show fst1 gz ps os = -1 from by have := HN.out; rw [List.take_of_length_le (by rw [← HM.out]; omega)] at this; unfold fst1; rw [this]; rfl)
      go_wp2
      go_ret
      exact ⟨by rw [HI2.out]; rfl, HG.out⟩
end Go.Proofs.Ytalmiphddgmfbab.Lt
