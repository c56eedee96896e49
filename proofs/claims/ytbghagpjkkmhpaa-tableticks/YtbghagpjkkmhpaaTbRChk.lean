/-
  What Check tells of a table: the document's answer. Condition: the numbers are of their types.
-/
import Derived.Test.YtbghagpjkkmhpaaTbRChk1
import Derived.Test.YtbghagpjkkmhpaaTbChk3
namespace Go.Proofs.Ytbghagpjkkmhpaa.Lt
open Go.RowKit Wd
attribute [local go_sem ↓] Go.wp_at_zero Go.wp_at_succ
set_option maxRecDepth 20000

set_option maxHeartbeats 8000000 in
theorem rcheck_any (w : World) (a : Option Addr) (n c : Nat) (L : List (List Sl)) (h : Rw w (.slice a n c) L) (hx : Rgs L) (F dm : Int) (hF : Tk.U F) :
    Calls Try.prog 10 #[.agg #[.int .u64 F, .slice a n c], .int .i64 dm] w fun e w' => e = chkV (chk F L dm) ∧ Gr w w' := by
  have HX := hide (show ∀ W, Gr w W → Rw W (.slice a n c) L from fun W g => h.gr g)
  have HL := hide h.len
  have HRG := hide hx
  have HF := hide hF
  obtain ⟨R, hR⟩ : ∃ R, R = chk F L dm := ⟨_, rfl⟩
  rw [← hR]
  unfold chk at hR
  by_cases hd1 : dm < 1
  · rw [if_pos (.inl hd1)] at hR
    have HR := hide hR
    clear hR h hx hF
    go_enter Try.func10, Try.ntmps10
    go_wp2
    go_ret3
    exact ⟨by rw [HR.out]; rfl, Ch.alloc (Gr.refl _) _⟩
  by_cases hd2 : 16 < dm
  · rw [if_pos (.inr hd2)] at hR
    have HR := hide hR
    clear hR h hx hF
    go_enter Try.func10, Try.ntmps10
    go_wp2
    go_ret3
    exact ⟨by rw [HR.out]; rfl, Ch.alloc (Gr.refl _) _⟩
  rw [if_neg (fun q => q.elim hd1 hd2)] at hR
  by_cases hf1 : F < 1
  · rw [if_pos (.inl hf1)] at hR
    have HR := hide hR
    clear hR h hx hF
    go_enter Try.func10, Try.ntmps10
    go_wp2
    go_ret3
    exact ⟨by rw [HR.out]; rfl, Ch.alloc (Gr.refl _) _⟩
  by_cases hf2 : 65536 < F
  · rw [if_pos (.inr (.inl hf2))] at hR
    have HR := hide hR
    clear hR h hx hF
    go_enter Try.func10, Try.ntmps10
    go_wp2
    go_ret3
    exact ⟨by rw [HR.out]; rfl, Ch.alloc (Gr.refl _) _⟩
  by_cases hn1 : n < 1
  · rw [if_pos (.inr (.inr (.inl (by rw [← HL.out]; exact hn1))))] at hR
    have HR := hide hR
    have hn1' : (n : Int) < 1 := by omega
    clear hR h hx hF
    go_enter Try.func10, Try.ntmps10
    go_wp2
    go_ret3
    exact ⟨by rw [HR.out]; rfl, Ch.alloc (Gr.refl _) _⟩
  by_cases hn2 : 64 < n
  · rw [if_pos (.inr (.inr (.inr (by rw [← HL.out]; exact hn2))))] at hR
    have HR := hide hR
    have hn2' : (64 : Int) < (n : Int) := by omega
    have hn1' : ¬ (n : Int) < 1 := by omega
    clear hR h hx hF
    go_enter Try.func10, Try.ntmps10
    go_wp2
    go_ret3
    exact ⟨by rw [HR.out]; rfl, Ch.alloc (Gr.refl _) _⟩
  rw [if_neg (fun q => q.elim hf1 (fun q => q.elim hf2 (fun q => by rw [← HL.out] at q; exact q.elim hn1 hn2)))] at hR
  have HR := hide hR
  have hn1' : ¬ (n : Int) < 1 := by omega
  have hn2' : ¬ (64 : Int) < (n : Int) := by omega
  have hn3 : n ≤ 64 := by omega
  clear hR h hx hF
  go_enter Try.func10, Try.ntmps10
  go_wp2_with fail
  go_loopg [7] n (fun k i wr => ∃ (j : Nat), j + k = n ∧ i = .int .i64 (j : Int) ∧ R = chL F dm j (L.drop j) ∧ Gr (w.alloc (.cells #[.int .u64 F, .slice a n c] 25)) wr)
  case atStart => exact ⟨0, by omega, rfl, HR.out, Gr.refl _⟩
  case round =>
    obtain ⟨j, hjk, rfl, hr, hg⟩ := hrel
    obtain ⟨V, hV⟩ : ∃ W, W = wr := ⟨_, rfl⟩
    subst hV
    have G := hide hg
    have HH := hide hr
    clear hr
    obtain ⟨b0, b1, bb, gw⟩ := box2 hg
    by_cases hj : j < n
    · have hj' : (j : Int) < (n : Int) := by omega
      have hjl : j < L.length := by rw [← HL.out]; exact hj
      have hjx : L[j]? = some L[j] := List.getElem?_eq_getElem hjl
      have hd : L.drop j = L[j] :: L.drop (j + 1) := List.drop_eq_getElem_cons hjl
      have hrg : ∀ x ∈ L[j], x.rg := HRG.out L[j] (List.getElem_mem hjl)
      generalize L[j] = l at hjx hd hrg
      have HD := hide hd
      have HRx := hide hrg
      obtain ⟨g, o, al, cl, e1, hgl, hcap, c0, hls⟩ := (HX.out _ gw).at hjx
      subst e1
      have HJX := hide hjx
      have HS := hide (show ∀ W, Gr V W → Ls eS AnyB W (.slice al l.length cl) l from fun W g => hls.gr g)
      have HC := hide (show ∀ W, Gr V W → W.cell? ⟨g, o + j, none⟩ = some (.slice al l.length cl) from fun W k => (k.cell hgl).trans c0)
      have HGL := hide hgl
      obtain ⟨m, hm⟩ : ∃ m, m = l.length := ⟨_, rfl⟩
      rw [← hm] at c0 HS HC
      have HM := hide hm
      clear hjx hd hg hrg hls hgl
      by_cases h0 : 1024 < m
      · have h0' : (1024 : Int) < (m : Int) := by omega
        have HF' := hide (show R = (j, 0, 2) by rw [HH.out, HD.out]; have e : chQ F dm l = (0, 2) := (by unfold chQ; rw [if_pos (by omega)]); rw [chL_no (by rw [e]; decide), e])
        clear hm
        go_wp2
        go_ret3
        exact ⟨by rw [HF'.out]; rfl, gw⟩
      · have h0' : ¬ (1024 : Int) < (m : Int) := by omega
        have h02 : m ≤ 1024 := by omega
        obtain ⟨S, hS⟩ : ∃ S, S = chS F dm 0 0 l := ⟨_, rfl⟩
        have HQ := hide (show chQ F dm l = S by rw [hS]; unfold chQ; rw [if_neg (by omega)])
        have HS0 := hide hS
        clear hS hm
        obtain ⟨K1, hK1⟩ : ∃ K, K = gk - 1 := ⟨_, rfl⟩
        have HK1 := hide hK1
        obtain ⟨V, hV⟩ : ∃ W, W = V := ⟨_, rfl⟩
        have HKK := hide (show j + 1 + K1 = n by omega)
        have HK2 := hide (show K1 < gk by omega)
        clear hK1
        go_wp2_with fail
        go_loopg [8, 9] m (fun k ev i wr => ∃ (q : Nat) (en : Int), q + k = m ∧ i = .int .i64 (q : Int) ∧ ev = .int .u64 en ∧ S = chS F dm en q (l.drop q) ∧ Gr V wr)
        case atStart => exact ⟨0, 0, by omega, rfl, rfl, HS0.out, by rw [hV]; exact Gr.refl _⟩
        case round =>
          obtain ⟨q, en, hqk, rfl, rfl, hr, hg⟩ := hrel
          subst hV
          have HHq := hide hr
          have Gq := hide hg
          have GQ := hide (Gr.trans G.out hg)
          obtain ⟨b0, b1, bb, gw⟩ := box2 GQ.out
          have c0 := HC.out _ hg
          have hgl : g < wr.heap.size := Nat.lt_of_lt_of_le HGL.out hg.size
          clear hr
          by_cases hq : q < m
          · have hq' : (q : Int) < (m : Int) := by omega
            have hql : q < l.length := by rw [← HM.out]; exact hq
            have hqx : l[q]? = some l[q] := List.getElem?_eq_getElem hql
            have hdq : l.drop q = l[q] :: l.drop (q + 1) := List.drop_eq_getElem_cons hql
            have hrq := HRx.out l[q] (List.getElem_mem hql)
            generalize l[q] = x at hqx hdq hrq
            have HDq := hide hdq
            have HRq := hide hrq
            obtain ⟨g2, o2, e1, hgl2, hcap2, d0, d1, d2, d3⟩ := slot_at (HS.out _ hg) hqx
            subst e1
            clear hqx hdq hg hrq
            have C := window_any x.d x.s x.l x.p F HRq.out.2.1 HRq.out.2.2.1 HRq.out.2.2.2 HF.out
            by_cases hw : wOk F x
            · have HW := hide (show decide (wOk F ⟨x.d, x.s, x.l, x.p⟩) = true from decide_eq_true hw)
              obtain ⟨k1, k2, k3⟩ := hw
              have k0 : 0 ≤ x.s := HRq.out.2.1.1
              have k4 : x.s + x.l ≤ 65536 := by omega
              have HWk := hide (show wOk F x from ⟨k1, k2, k3⟩)
              by_cases h2 : x.d < 0
              · have HE := hide (slE_own (dm := dm) (en := en) HWk.out (.inl h2))
                have HF' := hide (show R = (j, q, 162) by rw [HH.out, HD.out]; have e : S = (q, 162) := (by rw [HHq.out, HDq.out, chS_no (by rw [HE.out]; decide), HE.out]); rw [chL_no (by rw [HQ.out, e]; show (162 : Int) ≠ 0; decide), HQ.out, e])
                go_wp2_with fail
                refine (C _).mono ?_
                rintro e w1 ⟨rfl, g1⟩
                rw [HW.out]
                have GB := hide (box2 (Gr.trans GQ.out (box4 g1).2.2.2.2.2))
                obtain ⟨d0, d1, d2, d3, db, gw4⟩ := box4 g1
                go_wp2
                go_ret3
                exact ⟨by rw [HF'.out]; rfl, GB.out.2.2.2⟩
              · by_cases h3 : dm ≤ x.d
                · have HE := hide (slE_own (dm := dm) (en := en) HWk.out (.inr h3))
                  have HF' := hide (show R = (j, q, 162) by rw [HH.out, HD.out]; have e : S = (q, 162) := (by rw [HHq.out, HDq.out, chS_no (by rw [HE.out]; decide), HE.out]); rw [chL_no (by rw [HQ.out, e]; show (162 : Int) ≠ 0; decide), HQ.out, e])
                  go_wp2_with fail
                  refine (C _).mono ?_
                  rintro e w1 ⟨rfl, g1⟩
                  rw [HW.out]
                  have GB := hide (box2 (Gr.trans GQ.out (box4 g1).2.2.2.2.2))
                  obtain ⟨d0, d1, d2, d3, db, gw4⟩ := box4 g1
                  go_wp2
                  go_ret3
                  exact ⟨by rw [HF'.out]; rfl, GB.out.2.2.2⟩
                · by_cases h4 : x.s < en
                  · have HE := hide (slE_meet (dm := dm) (en := en) HWk.out (fun q => q.elim h2 h3) h4)
                    have HF' := hide (show R = (j, q, 163) by rw [HH.out, HD.out]; have e : S = (q, 163) := (by rw [HHq.out, HDq.out, chS_no (by rw [HE.out]; decide), HE.out]); rw [chL_no (by rw [HQ.out, e]; show (163 : Int) ≠ 0; decide), HQ.out, e])
                    go_wp2_with fail
                    refine (C _).mono ?_
                    rintro e w1 ⟨rfl, g1⟩
                    rw [HW.out]
                    have GB := hide (box2 (Gr.trans GQ.out (box4 g1).2.2.2.2.2))
                    obtain ⟨d0, d1, d2, d3, db, gw4⟩ := box4 g1
                    go_wp2
                    go_ret3
                    exact ⟨by rw [HF'.out]; rfl, GB.out.2.2.2⟩
                  · have HE := hide (slE_of (dm := dm) (en := en) HWk.out (by omega) (by omega) (by omega))
                    have HF' := hide (show S = chS F dm (x.s + x.l) (q + 1) (l.drop (q + 1)) by rw [HHq.out, HDq.out, chS_go HE.out])
                    go_wp2_with fail
                    refine (C _).mono ?_
                    rintro e w1 ⟨rfl, g1⟩
                    rw [HW.out]
                    have GB := hide (Gr.trans Gq.out (box4 g1).2.2.2.2.2)
                    obtain ⟨d0, d1, d2, d3, db, gw4⟩ := box4 g1
                    go_wp2
                    go_roundg (gk - 1)
                    case measure => omega
                    case rel =>
                      refine ⟨q + 1, x.s + x.l, by omega, ?_, rfl, HF'.out, GB.out⟩
                      first | with_reducible rfl | simp
            · have HW := hide (show decide (wOk F ⟨x.d, x.s, x.l, x.p⟩) = false from decide_eq_false hw)
              have HE := hide (slE_bad (dm := dm) (en := en) hw)
              have HF' := hide (show R = (j, q, 161) by rw [HH.out, HD.out]; have e : S = (q, 161) := (by rw [HHq.out, HDq.out, chS_no (by rw [HE.out]; decide), HE.out]); rw [chL_no (by rw [HQ.out, e]; show (161 : Int) ≠ 0; decide), HQ.out, e])
              clear hw
              go_wp2_with fail
              refine (C _).mono ?_
              rintro e w1 ⟨rfl, g1⟩
              rw [HW.out]
              have GB := hide (box2 (Gr.trans GQ.out (box4 g1).2.2.2.2.2))
              obtain ⟨d0, d1, d2, d3, db, gw4⟩ := box4 g1
              go_wp2
              go_ret3
              exact ⟨by rw [HF'.out]; rfl, GB.out.2.2.2⟩
          · have hq' : ¬ ((q : Int) < (m : Int)) := by omega
            have HF' := hide (show R = chL F dm (j + 1) (L.drop (j + 1)) by rw [HH.out, HD.out]; have e : S = (0, 0) := (by rw [HHq.out, List.drop_of_length_le (by rw [← HM.out]; omega)]; rfl); rw [chL_go (by rw [HQ.out, e])])
            clear hg
            go_wp2
            go_roundg K1
            case measure => exact HK2.out
            case rel =>
              refine ⟨j + 1, HKK.out, ?_, HF'.out, GQ.out⟩
              first | with_reducible rfl | simp
    · have hj' : ¬ ((j : Int) < (n : Int)) := by omega
      have HF' := hide (show R = (0, 0, 0) by rw [HH.out, List.drop_of_length_le (by rw [← HL.out]; omega)]; rfl)
      clear hg
      go_wp2
      go_ret3
      exact ⟨by rw [HF'.out]; rfl, gw⟩
end Go.Proofs.Ytbghagpjkkmhpaa.Lt
