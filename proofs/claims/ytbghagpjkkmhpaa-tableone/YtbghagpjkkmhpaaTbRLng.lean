/-
  What Longest answers: the document. Condition: the numbers are of their types.
-/
import Derived.Test.YtbghagpjkkmhpaaTbSlt
import Derived.Test.YtbghagpjkkmhpaaTbFold
namespace Go.Proofs.Ytbghagpjkkmhpaa.Lt
open Go.RowKit Wd
attribute [local go_sem ↓] Go.wp_at_zero Go.wp_at_succ
set_option maxRecDepth 20000

set_option maxHeartbeats 8000000 in
theorem rlongest_any (w : World) (a : Option Addr) (n c : Nat) (L : List (List Sl)) (h : Rw w (.slice a n c) L) (hx : Rgs L) (F dm : Int) (hF : Tk.U F) :
    Calls Try.prog 23 #[.agg #[.int .u64 F, .slice a n c], .int .i64 dm] w fun e w' => e = .returned (.tuple #[.int .u64 (if lkE F L dm 16 = 0 then fo lgF 0 (dsl L dm) else 0), .int .i64 (lkE F L dm 16)]) ∧ Gr w w' := by
  have CL := look_any _ a n c L (h.gr (Ch.alloc (Gr.refl w) (.cells #[.int .u64 F, .slice a n c] 25))) hx F dm 16 hF
  by_cases h0 : lkE F L dm 16 = 0
  · obtain ⟨hg, -, -, -⟩ := lkE_ok hx h0
    rw [if_pos h0]
    rw [h0] at CL ⊢
    obtain ⟨R, hR⟩ : ∃ R, R = fo lgF 0 (dsl L dm) := ⟨_, rfl⟩
    have HR := hide hR
    have HR2 := hide (show 0 ≤ R ∧ R ≤ 4294967296 from by rw [hR, ← vf_all]; exact vf_bd lgF_stp hg (List.prefix_refl _))
    rw [← hR]
    have HG := hide hg
    have HX := hide (show ∀ W, Gr w W → Rw W (.slice a n c) L from fun W g => h.gr g)
    have HL := hide h.len
    have hn64 : n ≤ 64 := by rw [h.len]; exact hg.n2
    clear h hx hF h0 hg hR
    go_enter Try.func23, Try.ntmps23
    go_wp2_with fail
    refine CL.mono ?_
    rintro e w1 ⟨rfl, g1⟩
    have G1 := hide (box2 g1)
    have GB := hide g1
    clear g1
    go_wp2_with fail
    go_loopg [7, 8] n (fun k sv i wr => ∃ (j : Nat) (s : Int), j + k = n ∧ i = .int .i64 (j : Int) ∧ sv = .int .u64 s ∧ 0 ≤ s ∧ fo lgF s (dsl (L.drop j) dm) = R ∧ Gr (w.alloc (.cells #[.int .u64 F, .slice a n c] 25)) wr)
    case atStart => exact ⟨0, 0, by omega, rfl, rfl, Int.le_refl _, HR.out.symm, GB.out⟩
    case round =>
      obtain ⟨j, s, hjk, rfl, rfl, hs0, hr, hg⟩ := hrel
      obtain ⟨V, hV⟩ : ∃ W, W = wr := ⟨_, rfl⟩
      subst hV
      have G := hide hg
      have HH := hide hr
      have HS0 := hide hs0
      obtain ⟨b0, b1, bb, gw⟩ := box2 hg
      clear hr
      by_cases hj : j < n
      · have hj' : (j : Int) < (n : Int) := by omega
        have hjl : j < L.length := by rw [← HL.out]; exact hj
        have hjx : L[j]? = some L[j] := List.getElem?_eq_getElem hjl
        have hd : L.drop j = L[j] :: L.drop (j + 1) := List.drop_eq_getElem_cons hjl
        have hlm : L[j] ∈ L := List.getElem_mem hjl
        generalize L[j] = l at hjx hd hlm
        have HLM := hide hlm
        have HD := hide (show fo lgF (fo lgF s (l.filter fun x => decide (x.d = dm))) (dsl (L.drop (j + 1)) dm) = R by rw [← fo_app, ← dsl_cons, ← hd]; exact HH.out)
        obtain ⟨g, o, al, cl, e1, hgl, hcap, c0, hls⟩ := (HX.out _ gw).at hjx
        subst e1
        obtain ⟨m, hm⟩ : ∃ m, m = l.length := ⟨_, rfl⟩
        have hm1 : m ≤ 1024 := by rw [hm]; exact HG.out.len l hlm
        have HM := hide hm
        rw [← hm] at c0 hls
        have HS := hide (show ∀ W, Gr V W → Ls eS AnyB W (.slice al m cl) l from fun W g => hls.gr g)
        have HC := hide (show ∀ W, Gr V W → W.cell? ⟨g, o + j, none⟩ = some (.slice al m cl) from fun W k => (k.cell hgl).trans c0)
        have HGL := hide hgl
        obtain ⟨K1, hK1⟩ : ∃ K, K = gk - 1 := ⟨_, rfl⟩
        have HKK := hide (show j + 1 + K1 = n by omega)
        have HK2 := hide (show K1 < gk by omega)
        clear hjx hd hg hls hgl hlm hm hK1
        obtain ⟨V0, hV0⟩ : ∃ W, W = V := ⟨_, rfl⟩
        go_wp2_with fail
        go_loopg [7, 9] m (fun k sv i wr => ∃ (q : Nat) (u : Int), q + k = m ∧ i = .int .i64 (q : Int) ∧ sv = .int .u64 u ∧ 0 ≤ u ∧ fo lgF (fo lgF u ((l.drop q).filter fun x => decide (x.d = dm))) (dsl (L.drop (j + 1)) dm) = R ∧ Gr V0 wr)
        case atStart => exact ⟨0, s, by omega, rfl, rfl, HS0.out, HD.out, by rw [hV0]; exact Gr.refl _⟩
        case round =>
          obtain ⟨q, u, hqk, rfl, rfl, hu0, hr, hg⟩ := hrel
          subst hV0
          have HHq := hide hr
          have Gq := hide hg
          have GQ := hide (Gr.trans G.out hg)
          obtain ⟨b0, b1, bb, gw⟩ := box2 GQ.out
          have c0 := HC.out _ hg
          have hgl : g < wr.heap.size := Nat.lt_of_lt_of_le HGL.out hg.size
          clear hr
          by_cases hq : q < m
          · have hq' : (q : Int) < (m : Int) := by omega
            have hql : q < l.length := by rw [← HM.out]; exact hq
            have hqx : l[q]? = some l[q] := List.getElem?_eq_getElem hql
            have hdq : l.drop q = l[q] :: l.drop (q + 1) := List.drop_eq_getElem_cons hql
            have hxm : l[q] ∈ l := List.getElem_mem hql
            generalize l[q] = x at hqx hdq hxm
            obtain ⟨⟨k1, k2, k3⟩, _, _, k0⟩ := HG.out.slot l HLM.out x hxm
            have k5 : 0 ≤ x.p := (HG.out.rg l HLM.out x hxm).2.2.2.1
            have k6 : x.s + x.l ≤ 65536 := by have := HG.out.f2; omega
            obtain ⟨g2, o2, e1, hgl2, hcap2, d0, d1, d2, d3⟩ := slot_at (HS.out _ hg) hqx
            subst e1
            by_cases hdm : x.d = dm
            · have HV2 := hide (show fo lgF (fo lgF (lgF u x) ((l.drop (q + 1)).filter fun x => decide (x.d = dm))) (dsl (L.drop (j + 1)) dm) = R by rw [← HHq.out, hdq, fil_in hdm, fo_cons])
              have hub : u ≤ 4294967296 := by
                have hR2 := HR2.out
                have hx1 : ∀ y ∈ (l.drop q).filter (fun x => decide (x.d = dm)), 0 ≤ y.l - y.p ∧ y.l - y.p ≤ 65536 := fun y hy => by
                  have hy2 := List.mem_of_mem_drop (List.mem_filter.1 hy).1
                  obtain ⟨⟨a1, a2, a3⟩, _, _, a4⟩ := HG.out.slot l HLM.out y hy2
                  have a5 : 0 ≤ y.p := (HG.out.rg l HLM.out y hy2).2.2.2.1
                  have := HG.out.f2
                  omega
                have hx2 : ∀ y ∈ dsl (L.drop (j + 1)) dm, 0 ≤ y.l - y.p ∧ y.l - y.p ≤ 65536 := fun y hy => by
                  obtain ⟨⟨l2, hl2, hy2⟩, _⟩ := dsl_mem hy
                  have hl3 := List.mem_of_mem_drop hl2
                  obtain ⟨⟨a1, a2, a3⟩, _, _, a4⟩ := HG.out.slot l2 hl3 y hy2
                  have a5 : 0 ≤ y.p := (HG.out.rg l2 hl3 y hy2).2.2.2.1
                  have := HG.out.f2
                  omega
                have e1 := (fo_bd lgF_stp _ u hu0 hx1).1
                have e2 := (fo_bd lgF_stp (dsl (L.drop (j + 1)) dm) (fo lgF u ((l.drop q).filter fun x => decide (x.d = dm))) (by omega) hx2).1
                rw [HHq.out] at e2
                omega
              have hdb : (x.d == dm) = true := by simpa using hdm
              clear hqx hdq hg hdm hxm
              have k7 : 0 ≤ x.l - x.p := by omega
              by_cases hlt : u < x.l - x.p
              · have HE2 := hide (show x.l - x.p = lgF u x from (if_pos hlt).symm)
                have HU := hide (show 0 ≤ lgF u x by rw [← HE2.out]; omega)
                go_wp2
                go_roundg (gk - 1)
                case measure => omega
                case rel =>
                  refine ⟨q + 1, lgF u x, by omega, ?_, congrArg _ HE2.out, HU.out, HV2.out, Ch.alloc Gq.out _⟩
                  first | with_reducible rfl | simp
              · have HE2 := hide (show u = lgF u x from (if_neg hlt).symm)
                have HU := hide (show 0 ≤ lgF u x by rw [← HE2.out]; omega)
                go_wp2
                go_roundg (gk - 1)
                case measure => omega
                case rel =>
                  refine ⟨q + 1, lgF u x, by omega, ?_, congrArg _ HE2.out, HU.out, HV2.out, Ch.alloc Gq.out _⟩
                  first | with_reducible rfl | simp
            · have HV2 := hide (show fo lgF (fo lgF u ((l.drop (q + 1)).filter fun x => decide (x.d = dm))) (dsl (L.drop (j + 1)) dm) = R by rw [← HHq.out, hdq, fil_out hdm])
              have hdb : (x.d == dm) = false := by simpa using hdm
              have HU := hide hu0
              clear hqx hdq hg hdm hxm
              go_wp2
              go_roundg (gk - 1)
              case measure => omega
              case rel =>
                refine ⟨q + 1, u, by omega, ?_, rfl, HU.out, HV2.out, Ch.alloc Gq.out _⟩
                first | with_reducible rfl | simp
          · have hq' : ¬ ((q : Int) < (m : Int)) := by omega
            have HF' := hide (show fo lgF u (dsl (L.drop (j + 1)) dm) = R by
              have e : l.drop q = [] := List.drop_of_length_le (by rw [← HM.out]; omega)
              rw [← HHq.out, e]
              rfl)
            have HU := hide hu0
            clear hg
            go_wp2
            go_roundg K1
            case measure => exact HK2.out
            case rel =>
              refine ⟨j + 1, u, HKK.out, ?_, rfl, HU.out, HF'.out, GQ.out⟩
              first | with_reducible rfl | simp
      · have hj' : ¬ ((j : Int) < (n : Int)) := by omega
        have HF' := hide (show s = R by
          have e : L.drop j = [] := List.drop_of_length_le (by rw [← HL.out]; omega)
          rw [← HH.out, e]
          rfl)
        clear hg
        go_wp2
        go_ret2
        exact ⟨by rw [HF'.out]; rfl, gw⟩
  · rw [if_neg h0]
    generalize lkE F L dm 16 = E at CL h0 ⊢
    have hne : (E != 0) = true := by simpa using h0
    clear h hx hF h0
    go_enter Try.func23, Try.ntmps23
    go_wp2_with fail
    refine CL.mono ?_
    rintro e w1 ⟨rfl, g1⟩
    obtain ⟨b0, b1, bb, gw⟩ := box2 g1
    clear g1
    go_wp2
    go_ret2
    exact ⟨rfl, gw⟩
end Go.Proofs.Ytbghagpjkkmhpaa.Lt
