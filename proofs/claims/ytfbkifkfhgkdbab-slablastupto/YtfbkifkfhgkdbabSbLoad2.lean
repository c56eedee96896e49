/-
  What the program's slotsMayBe and strike answer. Condition: the state and the lists are there, none longer than 4294967296.
-/
import Derived.Test.YtfbkifkfhgkdbabSbLoad1
namespace Go.Proofs.Ytfbkifkfhgkdbab.Sb
open Go.RowKit
attribute [local go_sem ↓] Go.wp_at_zero Go.wp_at_succ

/-- a generation that may not be -/
def badG (g : Int) : Bool := decide (g < 1 ∨ 2147483647 < g)
theorem bad_any (g : Int) (w : World) : Calls Try.prog 47 #[.int .i64 g] w fun e w' => e = .returned (.bool (badG g)) ∧ w' = w := by
  by_cases h : g < 1
  · have e1 : badG g = true := by unfold badG; simp; omega
    rw [e1]
    clear e1
    go_enter Try.func47, Try.ntmps47
    go_wp2
    go_ret
    exact ⟨rfl, rfl⟩
  · by_cases h2 : 2147483647 < g
    · have e1 : badG g = true := by unfold badG; simp; omega
      rw [e1]
      clear e1
      go_enter Try.func47, Try.ntmps47
      go_wp2
      go_ret
      exact ⟨rfl, rfl⟩
    · have e1 : badG g = false := by unfold badG; simp; omega
      rw [e1]
      clear e1
      go_enter Try.func47, Try.ntmps47
      go_wp2
      go_ret
      exact ⟨rfl, rfl⟩

theorem indexf_bad (P : Nat → Prop) (v : Value) (G : List Int) (w : World) (h : Ls P w v (iv G)) (hl : G.length ≤ 4294967296) :
    Calls Try.prog 55 #[v, .func (.func 47) #[] #[]] w fun e w' => (∃ r : Int, e = .returned (.int .i64 r) ∧ (decide (0 ≤ r) = G.any badG)) ∧ w' = w := by
  obtain ⟨ao, cap, rfl⟩ := h.form
  obtain ⟨n, hn⟩ : ∃ n, n = (iv G).length := ⟨_, rfl⟩
  rw [← hn] at h ⊢
  have hnl : n = G.length := by rw [hn, iv_length]
  rw [← hnl] at hl
  have HB := hid h
  have HN := hid hnl
  clear h hn hnl
  go_enter Try.func55, Try.ntmps55
  go_wp2_with fail
  go_loopg [8] n (fun k i wr => ∃ j : Nat, j + k = n ∧ i = .int .i64 ((j : Nat) : Int) ∧ (∀ q z, q < j → G[q]? = some z → badG z = false) ∧ wr = w)
  case atStart => exact ⟨0, by omega, rfl, fun q z a => by omega, rfl⟩
  case round =>
    obtain ⟨j, hjk, rfl, hno, rfl⟩ := hrel
    have HNO := hid hno
    clear hno
    by_cases hj : j < n
    · obtain ⟨z, hz⟩ : ∃ z, G[j]? = some z := ⟨_, List.getElem?_eq_getElem (by rw [← HN.out]; exact hj)⟩
      obtain ⟨g, o, rfl, -, -, -, d0⟩ := HB.out.get1 (iv_get hz)
      have j0 : (0 : Int) ≤ (j : Int) := by omega
      have j1 : (j : Int) < (n : Int) := by omega
      have HZ := hid hz
      clear hz
      go_wp2_with fail
      refine (bad_any z _).mono ?_
      rintro e w1 ⟨rfl, rfl⟩
      cases hb : badG z with
      | true =>
        go_wp2
        go_ret
        refine ⟨⟨_, rfl, ?_⟩, rfl⟩
        rw [decide_eq_true (by omega)]
        exact (List.any_eq_true.2 ⟨z, List.mem_of_getElem? HZ.out, hb⟩).symm
      | false =>
        go_wp2
        go_roundg (gk - 1)
        case measure => omega
        case rel => exact ⟨j + 1, by omega, by simp, fun q y a hy => by
          by_cases e : q = j
          · rw [e, HZ.out] at hy
            injection hy with hy
            rw [← hy]; exact hb
          · exact HNO.out q y (by omega) hy, rfl⟩
    · go_wp2
      go_ret
      refine ⟨⟨_, rfl, ?_⟩, rfl⟩
      rw [decide_eq_false (by omega)]
      symm
      rw [List.any_eq_false]
      intro x hx
      obtain ⟨q, hq, e⟩ := List.getElem_of_mem hx
      have := HNO.out q x (by have := HN.out; omega) (by rw [List.getElem?_eq_getElem hq, e])
      simp [this]

theorem containsf_bad (P : Nat → Prop) (v : Value) (G : List Int) (w : World) (h : Ls P w v (iv G)) (hl : G.length ≤ 4294967296) :
    Calls Try.prog 46 #[v, .func (.func 47) #[] #[]] w fun e w' => e = .returned (.bool (G.any badG)) ∧ w' = w := by
  obtain ⟨ao, cap, rfl⟩ := h.form
  have H := hid h
  have HL := hid hl
  clear h hl
  go_enter Try.func46, Try.ntmps46
  go_wp2_with fail
  refine (indexf_bad P _ G _ H.out HL.out).mono ?_
  rintro e w1 ⟨⟨r, rfl, hr⟩, rfl⟩
  have HR := hid hr
  clear hr
  go_wp2
  go_ret
  exact ⟨by rw [← HR.out]; rfl, rfl⟩

/-- may the slots be? -/
def slotsB (L : Int) (x : Sl) : Bool := decide ((x.G.length : Int) ≤ L) && (decide (x.A.length = x.G.length) && !(x.G.any badG))
theorem slots_any (P : Nat → Prop) (L : Int) (vg va vc vf : Value) (cv : List Value) (x : Sl) (w : World) (h : Rd P w vg va vc vf cv x) (hL : L ≤ 4294967296) :
    Calls Try.prog 30 #[.agg #[.int .i64 L, vg, va, vc, vf]] w fun e w' => e = .returned (.bool (slotsB L x)) ∧ Ch NoB w w' := by
  obtain ⟨ga, gc, rfl⟩ := h.g.form
  obtain ⟨aa, ac, rfl⟩ := h.a.form
  obtain ⟨ca, cc, rfl⟩ := h.c.form
  obtain ⟨fa, fc, rfl⟩ := h.f.form
  obtain ⟨nG, hnG⟩ : ∃ n, n = (iv x.G).length := ⟨_, rfl⟩
  obtain ⟨nA, hnA⟩ : ∃ n, n = (bv x.A).length := ⟨_, rfl⟩
  obtain ⟨nC, hnC⟩ : ∃ n, n = cv.length := ⟨_, rfl⟩
  obtain ⟨nF, hnF⟩ : ∃ n, n = (iv x.F).length := ⟨_, rfl⟩
  have HC := hid (fun (W : World) (g : Ch NoB w W) (hh : x.G.length ≤ 4294967296) => containsf_bad P _ x.G W (h.g.ch g (fun _ _ _ => noB _)) hh)
  have HNl := hid (show nG = x.G.length by rw [hnG, iv_length])
  rw [← hnG] at HC
  rw [← hnG, ← hnA, ← hnC, ← hnF]
  have e1 : slotsB L x = (decide ((nG : Int) ≤ L) && (decide (nA = nG) && !(x.G.any badG))) := by
    unfold slotsB
    rw [hnG, hnA, iv_length, bv_length]
  have HE := hid e1
  clear h hnG hnA hnC hnF e1
  by_cases h1 : (nG : Int) ≤ L
  · by_cases h2 : nA = nG
    · subst h2
      go_enter Try.func30, Try.ntmps30
      go_wp2_with fail
      refine (HC.out _ ((Ch.refl _ _).alloc _) (by rw [← HNl.out]; omega)).mono ?_
      rintro e w1 ⟨rfl, rfl⟩
      go_wp2
      go_ret
      exact ⟨by rw [HE.out, decide_eq_true h1]; simp, (Ch.refl _ _).alloc _⟩
    · have d2 : ((nA : Int) == (nG : Int)) = false := by simp; omega
      have d3 : ((nA : Int) != (nG : Int)) = true := by simp; omega
      go_enter Try.func30, Try.ntmps30
      go_wp2
      go_ret
      exact ⟨by rw [HE.out, decide_eq_false h2]; simp, (Ch.refl _ _).alloc _⟩
  · have d1 : decide (L < (nG : Int)) = true := decide_eq_true (by omega)
    go_enter Try.func30, Try.ntmps30
    go_wp2
    go_ret
    exact ⟨by rw [HE.out, decide_eq_false (show ¬ ((nG : Int) ≤ L) by omega)]; simp, (Ch.refl _ _).alloc _⟩

/-- what is left of those that are missing, behind a list -/
def strikeL : List Bool → List Int → Option (List Bool)
  | M, [] => some M
  | M, s :: l => if 0 ≤ s ∧ M[s.toNat]? = some true then strikeL (M.set s.toNat false) l else none
theorem strikeL_len : ∀ (l : List Int) (M M' : List Bool), strikeL M l = some M' → M'.length = M.length
  | [], M, M', h => by
    simp only [strikeL, Option.some.injEq] at h
    rw [h]
  | s :: l, M, M', h => by
    unfold strikeL at h
    split at h
    · rw [strikeL_len l _ M' h, List.length_set]
    · cases h

set_option maxHeartbeats 1000000 in
theorem strike_any (base : Nat) (P : Nat → Prop) (v vl : Value) (M : List Bool) (l : List Int) (w : World) (h : Ow 4 base w v (bv M)) (hv : Ls P w vl (iv l)) (hP : ∀ q, P q → ¬ Blk v q) (hl : l.length ≤ 140737488355328) :
    Calls Try.prog 48 #[v, vl] w fun e w' => (∃ M', M'.length = M.length ∧ e = .returned (.bool (strikeL M l).isSome) ∧ (∀ M1, strikeL M l = some M1 → M' = M1) ∧ Ow 4 base w' v (bv M')) ∧ Ch (Blk v) w w' := by
  obtain ⟨ao, cap, rfl⟩ := h.form
  obtain ⟨la, lc, rfl⟩ := hv.form
  obtain ⟨n, hn⟩ : ∃ n, n = (iv l).length := ⟨_, rfl⟩
  obtain ⟨m, hmm⟩ : ∃ m, m = (bv M).length := ⟨_, rfl⟩
  rw [← hn] at hv ⊢
  rw [← hmm] at h hP ⊢
  have hnl : n = l.length := by rw [hn, iv_length]
  have hml : m = M.length := by rw [hmm, bv_length]
  rw [← hnl] at hl
  rw [← hml]
  have H := hid h
  have HV := hid hv
  have HP := hid hP
  have HN := hid hnl
  have HM := hid hml
  clear h hv hP hn hmm hnl hml
  go_enter Try.func48, Try.ntmps48
  go_wp2_with fail
  go_loopg [9] n (fun k i wr => ∃ (j : Nat) (N : List Bool), j + k = n ∧ i = .int .i64 ((j : Nat) : Int) ∧ N.length = m ∧ strikeL M l = strikeL N (l.drop j) ∧ Ow 4 base wr (.slice ao m cap) (bv N) ∧ Ch (Blk (.slice ao m cap)) w wr)
  case atStart => exact ⟨0, M, by omega, rfl, HM.out.symm, rfl, H.out, Ch.refl _ _⟩
  case round =>
    obtain ⟨j, N, hjk, rfl, hN, hst, ho, hg⟩ := hrel
    have HS := hid hst
    have HO := hid ho
    have HG := hid hg
    have HNN := hid hN
    clear hst ho hg hN
    by_cases hj : j < n
    · obtain ⟨z, hz⟩ : ∃ z, l[j]? = some z := ⟨_, List.getElem?_eq_getElem (by rw [← HN.out]; exact hj)⟩
      obtain ⟨g, o, rfl, hgp, hgl, -, d0⟩ := HV.out.get1 (iv_get hz)
      have d0' := (HG.out.cell hgl (HP.out g hgp)).trans d0
      have j0 : (0 : Int) ≤ (j : Int) := by omega
      have j1 : (j : Int) < (n : Int) := by omega
      have hd : l.drop j = z :: l.drop (j + 1) := by
        have hj' : j < l.length := by rw [← HN.out]; exact hj
        rw [List.drop_eq_getElem_cons hj']
        congr 1
        rw [List.getElem?_eq_getElem hj'] at hz
        injection hz
      have HD := hid hd
      clear hz hd d0
      by_cases z0 : 0 ≤ z
      · by_cases z1 : z < (m : Int)
        · obtain ⟨s, rfl⟩ : ∃ s : Nat, z = (s : Int) := ⟨z.toNat, by omega⟩
          obtain ⟨b, hb⟩ : ∃ b, N[s]? = some b := ⟨_, List.getElem?_eq_getElem (by rw [HNN.out]; omega)⟩
          obtain ⟨g2, cap2, e2, -, gl2, -, y0, yf, yset⟩ := HO.out.get (bv_get hb)
          injection e2 with a1 a2 a3
          subst a1 a3
          clear a2
          have HB := hid hb
          cases b with
          | false =>
            clear yset hb
            go_wp2
            go_ret
            refine ⟨⟨N, by rw [HNN.out], ?_, fun M1 e => ?_, HO.out⟩, HG.out⟩
            · rw [HS.out, HD.out]
              unfold strikeL
              rw [if_neg (by rw [Int.toNat_natCast, HB.out]; simp)]
              rfl
            · rw [HS.out, HD.out] at e
              unfold strikeL at e
              rw [if_neg (by rw [Int.toNat_natCast, HB.out]; simp)] at e
              cases e
          | true =>
            have YS := hid (yset (.bool false))
            clear yset hb
            go_wp2
            go_roundg (gk - 1)
            case measure => omega
            case rel =>
              refine ⟨j + 1, N.set s false, by omega, by simp, by rw [List.length_set, HNN.out], ?_, ?_, HG.out.setCell (p := ⟨g2, s, none⟩) (.inl rfl) _⟩
              · rw [HS.out, HD.out]
                unfold strikeL
                rw [if_pos ⟨by omega, by rw [Int.toNat_natCast, HB.out]⟩, Int.toNat_natCast]
                cases l.drop (j + 1) <;> rfl
              · have := YS.out
                rw [bv_set] at this
                exact this
        · have z2 : ¬ (z : Int) < (m : Int) := z1
          have dd : decide ((m : Int) ≤ z) = true := decide_eq_true (by omega)
          go_wp2
          go_ret
          refine ⟨⟨N, by rw [HNN.out], ?_, fun M1 e => ?_, HO.out⟩, HG.out⟩
          · rw [HS.out, HD.out]
            unfold strikeL
            rw [if_neg (by rw [List.getElem?_eq_none (by rw [HNN.out]; omega)]; simp)]
            rfl
          · rw [HS.out, HD.out] at e
            unfold strikeL at e
            rw [if_neg (by rw [List.getElem?_eq_none (by rw [HNN.out]; omega)]; simp)] at e
            cases e
      · have dd : decide (z < 0) = true := decide_eq_true (by omega)
        go_wp2
        go_ret
        refine ⟨⟨N, by rw [HNN.out], ?_, fun M1 e => ?_, HO.out⟩, HG.out⟩
        · rw [HS.out, HD.out]
          unfold strikeL
          rw [if_neg (fun a => by have := a.1; omega)]
          rfl
        · rw [HS.out, HD.out] at e
          unfold strikeL at e
          rw [if_neg (fun a => by have := a.1; omega)] at e
          cases e
    · have e0 : l.drop j = [] := List.drop_eq_nil_of_le (by rw [← HN.out]; omega)
      go_wp2
      go_ret
      refine ⟨⟨N, by rw [HNN.out], ?_, fun M1 e => ?_, HO.out⟩, HG.out⟩
      · rw [HS.out, e0]
        rfl
      · rw [HS.out, e0] at e
        simp only [strikeL, Option.some.injEq] at e
        exact e
end Go.Proofs.Ytfbkifkfhgkdbab.Sb
