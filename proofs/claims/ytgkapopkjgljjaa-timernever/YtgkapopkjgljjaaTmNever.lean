/-
  What TimerNever of the statements answers: true, of any calls and any time. Condition: numbers are numbers of their kinds.
-/
import Derived.Test.YtgkapopkjgljjaaTmStateC
import Derived.Test.YtgkapopkjgljjaaTmMade
namespace Go.Proofs.Ytgkapopkjgljjaa.Lt
open Go.RowKit Wd
attribute [local go_sem ↓] Go.wp_at_zero Go.wp_at_succ
set_option maxRecDepth 20000

theorem left_not {now : Int} {L : List Tk} (ok : ∀ t ∈ L, Tok t) (h : SrtL L) : ∀ t ∈ dueL now L, isDue now t = false :=
  fold_not _ _ (fun t ht => ok t (by rw [← dues_left now L]; exact List.mem_append_left _ ht)) (left_all h)
theorem dues_none {now : Int} : ∀ {L : List Tk}, (∀ t ∈ L, isDue now t = false) → duesL now L = []
  | [], _ => rfl
  | t :: r, h => by unfold duesL; rw [List.takeWhile_cons_of_neg (by rw [h t List.mem_cons_self]; exact Bool.false_ne_true)]
theorem next_past {now : Int} {L : List Tk} (h : ∀ t ∈ L, isDue now t = false) (e : (nextL L).2 = true) : now < (nextL L).1 := by
  cases L with
  | nil => cases e
  | cons t r =>
    have h1 := h t List.mem_cons_self
    unfold nextL at e ⊢
    dsimp only at e ⊢
    by_cases hv : t.nv = true
    · rw [if_pos hv] at e; cases e
    · rw [if_neg hv]
      have hv : t.nv = false := by simpa using hv
      simp only [isDue, hv, Bool.not_false, Bool.true_and, decide_eq_false_iff_not] at h1
      dsimp only
      omega
theorem due_wh {now : Int} {t : Tk} (h : isDue now t = true) : t.nv = false ∧ t.wh ≤ now := by
  simpa [isDue] using h
theorem srt_next {now : Int} {L : List Tk} (h : SrtL L) {k : Nat} {t u : Tk} (hu : (duesL now L)[k]? = some u) (ht : (duesL now L)[k + 1]? = some t) : u.wh ≤ t.wh := by
  have hs : SrtL (duesL now L) := by
    have := h
    unfold SrtL at this ⊢
    rw [← dues_left now L] at this
    exact (List.pairwise_append.1 this).1
  have h1 := (due_wh (dues_all t (List.mem_of_getElem? ht))).1
  obtain ⟨l1, e1⟩ := List.getElem?_eq_some_iff.1 hu
  obtain ⟨l2, e2⟩ := List.getElem?_eq_some_iff.1 ht
  have := List.pairwise_iff_getElem.1 hs k (k + 1) l1 l2 (by omega)
  rw [e1, e2] at this
  rcases this with e | e
  · rw [h1] at e; cases e
  · exact e.2
set_option maxHeartbeats 1600000 in
theorem never_walk {P : Nat → Prop} (w : World) (lo : Option Addr) (n cap : Nat) (os : List Opn) (now : Int) (hl : Ls eO P w (.slice lo n cap) os) (ho : ∀ o ∈ os, Ook o) (hn : n ≤ 4398046511104) (n0 : 0 ≤ now) (n1 : now < 18446744073709551616) : Calls Try.prog 5 #[.slice lo n cap, .int .u64 now] w fun e w' => e = .returned (.bool true) ∧ Gr w w' := by
  have HM := hid (made_any w lo n cap os hl ho (by omega))
  have HWF := hid (wf_made os)
  have HN := hid hn
  have NX := hid (show 0 ≤ now ∧ now < 18446744073709551616 from ⟨n0, n1⟩)
  obtain ⟨S, hS⟩ : ∃ S, S = madeF os := ⟨_, rfl⟩
  rw [← hS] at HM HWF
  obtain ⟨last, L⟩ := S
  dsimp only at HM HWF
  clear hl ho hn n0 n1 hS
  go_enter Try.func5, Try.ntmps5
  go_wp2_with (first
    | (go_at_call 16; have SR1 := hid TM1.out.srt; have OK1 := hid TM1.out.ok; refine (due_any TM1.out HWF.out.len now NX.out.1 NX.out.2 (by have := HN.out; omega)).mono ?_; rintro e w7 ⟨v7, T7, rfl, o7, k7, c7, t7, b7⟩; have OD7 := hid o7; have TM7 := hid k7; have G7 := hid (show Gr w w7 from Ch.trans G1.out c7 (fun q e => .inr (N1.out q e))); have N7 := hid (show ∀ q, T7 q → w.heap.size ≤ q from fun q e => (t7 q e).elim (N1.out q) (fun x => Nat.le_trans G1.out.size x)); clear o7 k7 c7 t7 b7)
    | (go_at_call 15; refine HM.out.mono ?_; rintro e w1 ⟨b, T, rfl, h1, g1, n1⟩; dsimp only at h1; have TM1 := hid h1; have G1 := hid g1; have N1 := hid n1; clear h1 g1 n1))
  obtain ⟨D, hD⟩ : ∃ D, D = duesL now L := ⟨_, rfl⟩
  obtain ⟨R, hR⟩ : ∃ R, R = dueL now L := ⟨_, rfl⟩
  have HWR := hid (show Wf last R from by rw [hR]; exact HWF.out.due now)
  have HDA := hid (show ∀ t ∈ D, t.nv = false ∧ t.wh ≤ now from fun t ht => due_wh (dues_all t (by rw [hD] at ht; exact ht)))
  have HSR := hid (show ∀ (k : Nat) (t u : Tk), D[k]? = some u → D[k + 1]? = some t → u.wh ≤ t.wh from fun k t u h1 h2 => by rw [hD] at h1 h2; exact srt_next SR1.out h1 h2)
  have HRD := hid (show ∀ t ∈ R, isDue now t = false from by rw [hR]; exact left_not OK1.out SR1.out)
  have HDZ := hid (dues_none HRD.out)
  have HDL := hid (show D.length ≤ 1024 from by have h1 := congrArg List.length (dues_left now L); have h2 := HWF.out.len; rw [List.length_append, ← hD] at h1; omega)
  obtain ⟨m, hm⟩ : ∃ m, m = (nextL R).1 := ⟨_, rfl⟩
  obtain ⟨s, hs⟩ : ∃ s, s = (nextL R).2 := ⟨_, rfl⟩
  have HNX := hid (show ∀ T W, Tm T W b last R (1024 * (n : Int) + 1024) → Calls Try.prog 18 #[.pointer (some ⟨b, 0, none⟩)] W fun e w' => e = .returned (.tuple #[.int .u64 m, .bool s]) ∧ Gr W w' from fun T W h => by rw [hm, hs]; exact next_any h)
  have HMS := hid (show s = true → now < m from fun e => by rw [hm]; exact next_past HRD.out (by rw [← hs]; exact e))
  rw [← hD] at OD7
  rw [← hR] at TM7
  clear hD hR hm hs
  obtain ⟨a7, cc7, hv7⟩ := OD7.out.form
  obtain ⟨dn, hdn⟩ : ∃ x, x = D.length := ⟨_, rfl⟩
  rw [← hdn] at hv7
  subst hv7
  have OD := hid OD7.out
  have HDN := hid hdn
  have HDB := hid (show dn ≤ 1024 from by rw [hdn]; exact HDL.out)
  clear hdn OD7
  go_loopg [7] dn (fun q i wr => ∃ j : Nat, j + q = dn ∧ i = .int .i64 (j : Int) ∧ Gr w7 wr)
  case atStart => exact ⟨0, by omega, rfl, Gr.refl _⟩
  case round =>
    obtain ⟨j, hjq, rfl, hg⟩ := hrel
    obtain ⟨V, hV⟩ : ∃ W, W = wr := ⟨_, rfl⟩
    subst hV
    have G := hid hg
    by_cases hj : j < dn
    · obtain ⟨t, ht⟩ : ∃ t, D[j]? = some t := ⟨_, List.getElem?_eq_getElem (by rw [← HDN.out]; exact hj)⟩
      obtain ⟨gd, cd, hsd, _, gdl, _, hcd, _⟩ := (OD.out.gr hg).get eT_len ht
      injection hsd with hs1 hs2 hs3
      subst hs1
      have z6 := hcd 6 _ rfl
      have z5 := hcd 5 _ rfl
      have jm : (j : Int) < (dn : Int) := Int.ofNat_lt.2 hj
      have j00 : (0 : Int) ≤ (j : Int) := Int.natCast_nonneg _
      have jb : j ≤ 1024 := by have := HDB.out; omega
      obtain ⟨hnv, hwh⟩ := HDA.out t (List.mem_of_getElem? ht)
      have HC1 := hid (show ¬ (now < t.wh) by omega)
      by_cases hz : j = 0
      · have HJ0 := hid (show ¬ (0 < j) by omega)
        clear hz
        clear hg hcd hs2 hs3 ht
        go_wp2_with fail
        have c1 : ¬ (now < t.wh) := by have := HC1.out; omega
        have j0 : ¬ (0 < j) := by have := HJ0.out; omega
        have j0i : ¬ ((0 : Int) < (j : Int)) := by omega
        go_big_quiet (fail)
        clear c1 j0 j0i
        go_wp2
        go_roundg (gk - 1)
        case measure => omega
        case rel => exact ⟨j + 1, by omega, by first | with_reducible rfl | simp, G.out.drewN _⟩
      · have HJ0 := hid (show 0 < j by omega)
        obtain ⟨k, hk⟩ : ∃ k : Nat, j = k + 1 := ⟨j - 1, by omega⟩
        obtain ⟨u, hu⟩ : ∃ u, D[k]? = some u := ⟨_, List.getElem?_eq_getElem (by rw [← HDN.out]; omega)⟩
        have HC2 := hid (show ¬ (t.wh < u.wh) by have := HSR.out k t u hu (by rw [← hk]; exact ht); omega)
        obtain ⟨gd2, cd2, hsd2, _, gdl2, _, hcd2, _⟩ := (OD.out.gr hg).get eT_len hu
        injection hsd2 with hs4 hs5 hs6
        injection hs4 with hs4
        injection hs4 with hs4
        subst hs4
        have u6 := hcd2 6 _ rfl
        have u5 := hcd2 5 _ rfl
        have km : (k : Int) < (dn : Int) := by omega
        have k00 : (0 : Int) ≤ (k : Int) := Int.natCast_nonneg _
        have jk : (j : Int) - 1 = (k : Int) := by omega
        clear hz hk
        clear hcd2 hs5 hs6 hu
        clear hg hcd hs2 hs3 ht
        go_wp2_with fail
        have c1 : ¬ (now < t.wh) := by have := HC1.out; omega
        have c2 : ¬ (t.wh < u.wh) := by have := HC2.out; omega
        have j0 : 0 < j := HJ0.out
        have j0i : (0 : Int) < (j : Int) := by omega
        go_big_quiet (fail)
        clear c1 j0 j0i
        go_wp2
        go_roundg (gk - 1)
        case measure => omega
        case rel => exact ⟨j + 1, by omega, by first | with_reducible rfl | simp, G.out.drewN _⟩
    · have ej : j = dn := by omega
      subst ej
      have jm : ¬ ((j : Int) < (j : Int)) := by omega
      have G7w := hid (show Gr w V from Gr.trans G7.out hg)
      have TM8 := hid (TM7.out.gr hg)
      clear hg
      go_wp2_with (go_at_call 17; refine (state_any TM8.out HWR.out.len).mono ?_; rintro e w8 ⟨v8, rfl, o8, g8⟩; have OR8 := hid o8; have G8v := hid g8; have G8 := hid (Gr.trans G7w.out g8); clear o8 g8)
      obtain ⟨a8, cc8, hv8⟩ := OR8.out.form
      obtain ⟨rn, hrn⟩ : ∃ x, x = R.length := ⟨_, rfl⟩
      rw [← hrn] at hv8
      subst hv8
      have OR := hid OR8.out
      have HRN := hid hrn
      have HRB := hid (show rn ≤ 1024 from by rw [hrn]; exact HWR.out.len)
      clear hrn OR8
      go_loopg [10] rn (fun q i wr => ∃ j : Nat, j + q = rn ∧ i = .int .i64 (j : Int) ∧ Gr w8 wr)
      case atStart => exact ⟨0, by omega, rfl, Gr.refl _⟩
      case round =>
        obtain ⟨j, hjq, rfl, hg⟩ := hrel
        obtain ⟨V2, hV2⟩ : ∃ W, W = wr := ⟨_, rfl⟩
        subst hV2
        have G := hid hg
        by_cases hj : j < rn
        · obtain ⟨t, ht⟩ : ∃ t, R[j]? = some t := ⟨_, List.getElem?_eq_getElem (by rw [← HRN.out]; exact hj)⟩
          obtain ⟨gd, cd, hsd, _, gdl, _, hcd, _⟩ := (OR.out.gr hg).get eT_len ht
          injection hsd with hs1 hs2 hs3
          subst hs1
          have z6 := hcd 6 _ rfl
          have z5 := hcd 5 _ rfl
          have jm : (j : Int) < (rn : Int) := Int.ofNat_lt.2 hj
          have jb : j ≤ 1024 := by have := HRB.out; omega
          by_cases hv : t.nv = true
          · have hv : t.nv = true := hv
            clear hg hcd hs2 hs3 ht
            go_wp2
            go_roundg (gk - 1)
            case measure => omega
            case rel => exact ⟨j + 1, by omega, by first | with_reducible rfl | simp, G.out⟩
          · have hv : t.nv = false := by simpa using hv
            have c1 : ¬ (t.wh ≤ now) := by have := HRD.out t (List.mem_of_getElem? ht); simpa [isDue, hv] using this
            clear hg hcd hs2 hs3 ht
            go_wp2
            go_roundg (gk - 1)
            case measure => omega
            case rel => exact ⟨j + 1, by omega, by first | with_reducible rfl | simp, G.out⟩
        · have ej : j = rn := by omega
          subst ej
          have jm : ¬ ((j : Int) < (j : Int)) := by omega
          have G8w := hid (Gr.trans G8v.out hg)
          have G8 := hid (Gr.trans G8.out hg)
          clear hg
          cases s with
          | false =>
            go_wp2_with (first
              | (go_at_call 18; refine (HNX.out _ _ (TM8.out.gr G8w.out)).mono ?_; rintro e w9 ⟨rfl, g9⟩; have TM9 := hid ((TM8.out.gr G8w.out).gr g9); have G9 := hid (Gr.trans G8.out g9); clear g9)
              | (refine callG (by kernel_rfl) 16 #[.tmp 97, .tmp 98] _ rfl #[.pointer (some ⟨b, 0, none⟩), .int .u64 now] (by kernel_rfl) (due_any TM9.out HWR.out.len now NX.out.1 NX.out.2 (by have := HN.out; omega)) ?_; rw [HDZ.out]; rintro e w4 ⟨v4, T4, rfl, o4, k4, g4, n4, b4⟩; obtain ⟨a4, c4, rfl⟩ := o4.form; have G4 := hid (show Gr w w4 from Ch.trans G9.out g4 (fun q e => .inr (N7.out q e))); clear o4 k4 g4 n4 b4; refine ⟨_, rfl, ?_⟩; simp only [Act.put, List.setIfInBounds_toArray, List.set_cons_zero, List.set_cons_succ])
              | (refine callG (by kernel_rfl) 12 #[] _ rfl #[] (by kernel_rfl) (awake_any _) ?_; rintro e w10 ⟨rfl, g10⟩; have G10 := hid (Gr.trans G4.out g10); clear g10; refine ⟨_, rfl, ?_⟩; simp only [Act.put, List.setIfInBounds_toArray, List.set_cons_zero, List.set_cons_succ]))
            go_ret
            exact ⟨rfl, G10.out⟩
          | true =>
            have hmn : now < m := HMS.out rfl
            go_wp2_with (first
              | (go_at_call 18; refine (HNX.out _ _ (TM8.out.gr G8w.out)).mono ?_; rintro e w9 ⟨rfl, g9⟩; have TM9 := hid ((TM8.out.gr G8w.out).gr g9); have G9 := hid (Gr.trans G8.out g9); clear g9)
              | (refine callG (by kernel_rfl) 16 #[.tmp 97, .tmp 98] _ rfl #[.pointer (some ⟨b, 0, none⟩), .int .u64 now] (by kernel_rfl) (due_any TM9.out HWR.out.len now NX.out.1 NX.out.2 (by have := HN.out; omega)) ?_; rw [HDZ.out]; rintro e w4 ⟨v4, T4, rfl, o4, k4, g4, n4, b4⟩; obtain ⟨a4, c4, rfl⟩ := o4.form; have G4 := hid (show Gr w w4 from Ch.trans G9.out g4 (fun q e => .inr (N7.out q e))); clear o4 k4 g4 n4 b4; refine ⟨_, rfl, ?_⟩; simp only [Act.put, List.setIfInBounds_toArray, List.set_cons_zero, List.set_cons_succ])
              | (refine callG (by kernel_rfl) 12 #[] _ rfl #[] (by kernel_rfl) (awake_any _) ?_; rintro e w10 ⟨rfl, g10⟩; have G10 := hid (Gr.trans G4.out g10); clear g10; refine ⟨_, rfl, ?_⟩; simp only [Act.put, List.setIfInBounds_toArray, List.set_cons_zero, List.set_cons_succ]))
            go_ret
            exact ⟨rfl, G10.out⟩
end Go.Proofs.Ytgkapopkjgljjaa.Lt
