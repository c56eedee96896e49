/-
  TableCounts, walked: going over a frame, a domain owns a P as many ticks as its windows there are long, and can run as many as Share tells. Condition: the numbers are of their types.
-/
import Derived.Test.YtbghagpjkkmhpabTbAwake
import Derived.Test.YtbghagpjkkmhpabTbCntP
import Derived.Test.YtbghagpjkkmhpabTbShr
namespace Go.Proofs.Ytbghagpjkkmhpab.Lt
open Go.RowKit Wd
attribute [local go_sem ↓] Go.wp_at_zero Go.wp_at_succ
set_option maxRecDepth 20000

def rsN (L : List (List Sl)) (dm : Int) : Int := ls L (fun l => ls l (fun x => if x.d = dm then x.l - x.p else 0))
theorem rsN_cons (l : List Sl) (r : List (List Sl)) (dm : Int) : rsN (l :: r) dm = ls l (fun x => if x.d = dm then x.l - x.p else 0) + rsN r dm := ls_cons _ _
set_option maxHeartbeats 16000000 in
theorem counts_walk (w : World) (F : Int) (a : Option Addr) (n c : Nat) (L : List (List Sl)) (dm : Int) (h : Rw w (.slice a n c) L) (hx : Rgs L) (hF : Tk.U F) (_hd : -9223372036854775808 ≤ dm ∧ dm ≤ 9223372036854775807) :
    Calls Try.prog 4 #[.agg #[.int .u64 F, .slice a n c], .int .i64 dm] w fun e w' => e = .returned (.bool true) ∧ Gr w w' := by
  obtain ⟨A, hA⟩ : ∃ A, A = w.alloc (.cells #[.int .u64 F, .slice a n c] 25) := ⟨_, rfl⟩
  have HBX := hide (show ∀ W, Gr A W → _ from fun W g => box2 (by rw [hA] at g; exact g))
  have GA := hide (show Gr A A from Gr.refl _)
  have HS := hide (fun W (g : Gr w W) => share_any W a n c L (h.gr g) hx F dm hF)
  by_cases h0 : lkE F L dm 16 = 0
  · obtain ⟨hg, hc, hd0, -⟩ := lkE_ok hx h0
    have HG := hide hg
    obtain ⟨Fn, rfl⟩ : ∃ Fn : Nat, F = (Fn : Int) := ⟨F.toNat, by have := hg.f1; omega⟩
    have hFl : Fn ≤ 65536 := by have := hg.f2; omega
    have hn64 : n ≤ 64 := by rw [h.len]; exact hg.n2
    have HD0 := hide hd0
    have HL := hide h.len
    have HR := hide (show ∀ W, Gr w W → Rw W (.slice a n c) L from fun W g => h.gr g)
    have HO := hide (fun (P : Nat) (l : List Sl) (hl : L[P]? = some l) (t : Int) (ht : Tk.U t) W (g : Gr w W) => by
      have k := owner_any W a n c L (h.gr g) hx (Fn : Int) t (P : Int) hF ht
      rw [(row_at hc hl t).1, (row_at hc hl t).2.1] at k
      exact k)
    have HT := hide (fun (P : Nat) (l : List Sl) (hl : L[P]? = some l) (t : Int) (ht : Tk.U t) W (g : Gr w W) => by
      have k := left_any W a n c L (h.gr g) hx (Fn : Int) t (P : Int) hF ht
      rw [(row_at hc hl t).1, (row_at hc hl t).2.2] at k
      exact k)
    rw [if_pos h0, h0] at HS
    obtain ⟨R, hR⟩ : ∃ R, R = fo shF 0 (dsl L dm) := ⟨_, rfl⟩
    rw [← hR] at HS
    have HR1 := hide (show 0 + rsN (L.drop 0) dm = R by rw [hR, fo_shr, Int.zero_add]; unfold shr rsN; rw [dsl_sum]; rfl)
    have HR2 := hide (show 0 ≤ R ∧ R ≤ 4294967296 by rw [hR, ← vf_all]; exact vf_bd shF_stp hg (List.prefix_refl _))
    have HPOS := hide (show ∀ (L2 : List (List Sl)), (∀ l ∈ L2, l ∈ L) → 0 ≤ rsN L2 dm from fun L2 h2 => ls_nonneg fun l hl => ls_nonneg fun x hxl => by
      have := (hg.slot l (h2 l hl) x hxl).1.2.2
      split <;> omega)
    clear hd0 hc hg h0 h hx hF hR
    go_enter Try.func4, Try.ntmps4
    go_wp2_with fail
    rw [← hA]
    clear hA
    refine (HS.out _ (HBX.out _ GA.out).2.2.2).mono ?_
    rintro e w1 ⟨rfl, g1⟩
    have G1 := hide (Gr.trans GA.out g1)
    clear g1
    go_wp2_with fail
    go_loopg [7, 8] n (fun k rv i wr => ∃ (P : Nat) (r : Int), P + k = n ∧ i = .int .i64 (P : Int) ∧ rv = .int .u64 r ∧ 0 ≤ r ∧ r + rsN (L.drop P) dm = R ∧ Gr A wr)
    case atStart => exact ⟨0, 0, by omega, rfl, rfl, Int.le_refl _, HR1.out, G1.out⟩
    case round =>
      obtain ⟨P, r, hjk, rfl, rfl, hr0, hr, hg⟩ := hrel
      obtain ⟨V, hV⟩ : ∃ W, W = wr := ⟨_, rfl⟩
      subst hV
      have G := hide hg
      have HH := hide hr
      have Hr0 := hide hr0
      obtain ⟨t0, t1, tb, gw⟩ := HBX.out _ hg
      clear hr
      by_cases hj : P < n
      · have hj' : (P : Int) < (n : Int) := by omega
        have hP0 : (0 : Int) ≤ (P : Int) := by omega
        have hjl : P < L.length := by rw [← HL.out]; exact hj
        have hjx : L[P]? = some L[P] := List.getElem?_eq_getElem hjl
        have hdr : L.drop P = L[P] :: L.drop (P + 1) := List.drop_eq_getElem_cons hjl
        have hlm : L[P] ∈ L := List.getElem_mem hjl
        generalize L[P] = l at hjx hdr hlm
        have HLM := hide hlm
        have HO1 := hide (HO.out P l hjx)
        have HT1 := hide (HT.out P l hjx)
        have HQ := hide (show r + ls l (fun x => if x.d = dm then x.l - x.p else 0) + rsN (L.drop (P + 1)) dm = R by rw [← HH.out, hdr, rsN_cons]; omega)
        have hrR : r ≤ 4294967296 := by
          have h1 := HPOS.out (L.drop P) (fun x hx => List.mem_of_mem_drop hx)
          have h2 := HH.out
          have h3 := HR2.out
          omega
        obtain ⟨g, o, al, cl, e1, hgl, hcap, c0, hls⟩ := (HR.out _ gw).at hjx
        subst e1
        obtain ⟨m, hm⟩ : ∃ m, m = l.length := ⟨_, rfl⟩
        have hm1 : m ≤ 1024 := by rw [hm]; exact HG.out.len l hlm
        have HM := hide hm
        rw [← hm] at c0 hls
        have HLS := hide (show ∀ W, Gr V W → Ls eS AnyB W (.slice al m cl) l from fun W k => hls.gr k)
        have HC := hide (show ∀ W, Gr V W → W.cell? ⟨g, o + P, none⟩ = some (.slice al m cl) ∧ g < W.heap.size from fun W k => ⟨(k.cell hgl).trans c0, Nat.lt_of_lt_of_le hgl k.size⟩)
        obtain ⟨K1, hK1⟩ : ∃ K, K = gk - 1 := ⟨_, rfl⟩
        have HKK := hide (show P + 1 + K1 = n by omega)
        have HK2 := hide (show K1 < gk by omega)
        have HCO := hide (cnt_own (rfl : (Fn : Int) = (Fn : Int)) HG.out hlm HD0.out)
        have HCR := hide (cnt_run (rfl : (Fn : Int) = (Fn : Int)) HG.out hlm HD0.out)
        have HOL := hide (fun q => own_le (rfl : (Fn : Int) = (Fn : Int)) HG.out hlm HD0.out q)
        have HBD := hide (fun t => lN_bd HG.out hlm t)
        have HNX := hide (fun (i : Nat) (hi : (i : Int) < (Fn : Int)) (h : 1 < lN (Fn : Int) l (i : Int)) => lN_next HG.out hlm hi h)
        clear hjx hdr hg hls hgl hlm hm hK1 c0
        obtain ⟨V0, hV0⟩ : ∃ W, W = V := ⟨_, rfl⟩
        go_wp2_with fail
        go_loopg [7, 9, 10] Fn (fun k rv ov iv wr => ∃ (i : Nat), i + k = Fn ∧ iv = .int .u64 (i : Int) ∧ ov = .int .u64 (sm i (fO (Fn : Int) l dm)) ∧ rv = .int .u64 (r + sm i (fR (Fn : Int) l dm)) ∧ Gr V0 wr)
        case atStart => exact ⟨0, by omega, rfl, rfl, by show Value.int .u64 r = .int .u64 (r + 0); rw [Int.add_zero], by rw [hV0]; exact Gr.refl _⟩
        case round =>
          obtain ⟨i, hik, rfl, rfl, rfl, hg⟩ := hrel
          subst hV0
          have GI := hide hg
          have GQ := hide (Gr.trans G.out hg)
          obtain ⟨t0, t1, tb, gw⟩ := HBX.out _ GQ.out
          by_cases hi : i < Fn
          · have hi' : (i : Int) < (Fn : Int) := by omega
            have hiF : (i : Int) < (Fn : Int) := hi'
            have ui : Tk.U (i : Int) := ⟨by omega, by omega⟩
            have ui2 : Tk.U ((i + 1 : Nat) : Int) := ⟨by omega, by omega⟩
            have CO := HO1.out _ ui _ gw
            have CT := hide (HT1.out _ ui)
            have CT2 := hide (HT1.out _ ui2)
            obtain ⟨n0, n1, d0, d1⟩ := HBD.out (i : Int)
            have hnx := HNX.out i hiF
            have SO := hide (show sm (i + 1) (fO (Fn : Int) l dm) = sm i (fO (Fn : Int) l dm) + (if oD (Fn : Int) l (i : Int) = dm then 1 else 0) from rfl)
            have SR := hide (show sm (i + 1) (fR (Fn : Int) l dm) = sm i (fR (Fn : Int) l dm) + (if oD (Fn : Int) l (i : Int) = dm ∧ 0 < lN (Fn : Int) l (i : Int) then 1 else 0) from rfl)
            obtain ⟨s1, s2⟩ := sm_01 (fO_bd (Fn : Int) l dm) i
            obtain ⟨s3, s4⟩ := sm_01 (fR_bd (Fn : Int) l dm) i
            generalize sm i (fO (Fn : Int) l dm) = so at *
            generalize sm i (fR (Fn : Int) l dm) = sr at *
            generalize lN (Fn : Int) l ((i + 1 : Nat) : Int) = N2 at *
            generalize oD (Fn : Int) l (i : Int) = Di at *
            generalize lN (Fn : Int) l (i : Int) = Ni at *
            have hN2 : ((i + 1 : Nat) : Int) = (i : Int) + 1 := by omega
            rw [hN2] at CT2
            have e1 : 0 ≤ r + sr := by omega
            have e2 : r + sr + 1 ≤ 18446744073709551615 := by omega
            clear hg ui ui2 hiF hN2 gw
            by_cases hdm : Di = dm
            · subst hdm
              have hm1 : Di ≠ -1 := by have := HD0.out; omega
              have hmb : (Di == -1) = false := by simpa using hm1
              have HA := hide (show (if Di = Di then (1 : Int) else 0) = 1 from if_pos rfl)
              by_cases hn0 : 0 < Ni
              · have HBb := hide (show (if Di = Di ∧ (0 : Int) < Ni then (1 : Int) else 0) = 1 from if_pos ⟨rfl, hn0⟩)
                by_cases hn1 : 1 < Ni
                · have hnx2 := hnx hn1
                  subst hnx2
                  clear d0 d1 hnx
                  go_wp2_with fail
                  refine CO.mono ?_
                  rintro e w2 ⟨rfl, g2⟩
                  have G2 := hide (Gr.trans GQ.out g2)
                  have I2 := hide (Gr.trans GI.out g2)
                  clear t0 t1 tb g2
                  obtain ⟨t0, t1, tb, gw⟩ := HBX.out _ G2.out
                  go_wp2_with fail
                  refine (CT.out _ gw).mono ?_
                  rintro e w3 ⟨rfl, g3⟩
                  have G3 := hide (Gr.trans G2.out g3)
                  have I3 := hide (Gr.trans I2.out g3)
                  clear t0 t1 tb g3 gw
                  obtain ⟨t0, t1, tb, gw⟩ := HBX.out _ G3.out
                  go_wp2_with fail
                  refine (CT2.out _ gw).mono ?_
                  rintro e w4 ⟨rfl, g4⟩
                  have I4 := hide (Gr.trans I3.out g4)
                  clear t0 t1 tb g4 gw
                  go_wp2
                  go_roundg (gk - 1)
                  case measure => omega
                  case rel =>
                    refine ⟨i + 1, by omega, ?_, by rw [SO.out, HA.out], by rw [SR.out, HBb.out, Int.add_assoc], I4.out⟩
                    first | with_reducible rfl | simp
                · have hN1 : Ni = 1 := by omega
                  subst hN1
                  clear d0 d1 hnx
                  go_wp2_with fail
                  refine CO.mono ?_
                  rintro e w2 ⟨rfl, g2⟩
                  have G2 := hide (Gr.trans GQ.out g2)
                  have I2 := hide (Gr.trans GI.out g2)
                  clear t0 t1 tb g2
                  obtain ⟨t0, t1, tb, gw⟩ := HBX.out _ G2.out
                  go_wp2_with fail
                  refine (CT.out _ gw).mono ?_
                  rintro e w3 ⟨rfl, g3⟩
                  have G3 := hide (Gr.trans G2.out g3)
                  have I3 := hide (Gr.trans I2.out g3)
                  clear t0 t1 tb g3 gw
                  obtain ⟨t0, t1, tb, gw⟩ := HBX.out _ G3.out
                  go_wp2_with fail
                  refine (CT2.out _ gw).mono ?_
                  rintro e w4 ⟨rfl, g4⟩
                  have I4 := hide (Gr.trans I3.out g4)
                  clear t0 t1 tb g4 gw
                  go_wp2
                  go_roundg (gk - 1)
                  case measure => omega
                  case rel =>
                    refine ⟨i + 1, by omega, ?_, by rw [SO.out, HA.out], by rw [SR.out, HBb.out, Int.add_assoc], I4.out⟩
                    first | with_reducible rfl | simp
              · have hN0 : Ni = 0 := by omega
                subst hN0
                have HBb := hide (show (if Di = Di ∧ (0 : Int) < 0 then (1 : Int) else 0) = 0 from if_neg (fun q => by have := q.2; omega))
                clear d0 d1 hnx
                go_wp2_with fail
                refine CO.mono ?_
                rintro e w2 ⟨rfl, g2⟩
                have G2 := hide (Gr.trans GQ.out g2)
                have I2 := hide (Gr.trans GI.out g2)
                clear t0 t1 tb g2
                obtain ⟨t0, t1, tb, gw⟩ := HBX.out _ G2.out
                go_wp2_with fail
                refine (CT.out _ gw).mono ?_
                rintro e w3 ⟨rfl, g3⟩
                have G3 := hide (Gr.trans G2.out g3)
                have I3 := hide (Gr.trans I2.out g3)
                clear t0 t1 tb g3 gw
                obtain ⟨t0, t1, tb, gw⟩ := HBX.out _ G3.out
                go_wp2
                go_roundg (gk - 1)
                case measure => omega
                case rel =>
                  refine ⟨i + 1, by omega, ?_, by rw [SO.out, HA.out], by rw [SR.out, HBb.out, Int.add_zero], I3.out⟩
                  first | with_reducible rfl | simp
            · have hdb : (Di == dm) = false := by simpa using hdm
              by_cases hm1 : Di = -1
              · have hN := d1 hm1
                subst hN
                have HA := hide (show (if Di = dm then (1 : Int) else 0) = 0 from if_neg hdm)
                have HBb := hide (show (if Di = dm ∧ (0 : Int) < 0 then (1 : Int) else 0) = 0 from if_neg (fun q => hdm q.1))
                subst hm1
                clear d0 d1 hnx
                go_wp2_with fail
                refine CO.mono ?_
                rintro e w2 ⟨rfl, g2⟩
                have G2 := hide (Gr.trans GQ.out g2)
                have I2 := hide (Gr.trans GI.out g2)
                clear t0 t1 tb g2
                obtain ⟨t0, t1, tb, gw⟩ := HBX.out _ G2.out
                go_wp2_with fail
                refine (CT.out _ gw).mono ?_
                rintro e w3 ⟨rfl, g3⟩
                have G3 := hide (Gr.trans G2.out g3)
                have I3 := hide (Gr.trans I2.out g3)
                clear t0 t1 tb g3 gw
                obtain ⟨t0, t1, tb, gw⟩ := HBX.out _ G3.out
                go_wp2
                go_roundg (gk - 1)
                case measure => omega
                case rel =>
                  refine ⟨i + 1, by omega, ?_, by rw [SO.out, HA.out, Int.add_zero], by rw [SR.out, HBb.out, Int.add_zero], I3.out⟩
                  first | with_reducible rfl | simp
              · have hmb : (Di == -1) = false := by simpa using hm1
                have HA := hide (show (if Di = dm then (1 : Int) else 0) = 0 from if_neg hdm)
                have HBb := hide (show (if Di = dm ∧ (0 : Int) < Ni then (1 : Int) else 0) = 0 from if_neg (fun q => hdm q.1))
                clear d1 hnx
                go_wp2_with fail
                refine CO.mono ?_
                rintro e w2 ⟨rfl, g2⟩
                have G2 := hide (Gr.trans GQ.out g2)
                have I2 := hide (Gr.trans GI.out g2)
                clear t0 t1 tb g2
                obtain ⟨t0, t1, tb, gw⟩ := HBX.out _ G2.out
                go_wp2_with fail
                refine (CT.out _ gw).mono ?_
                rintro e w3 ⟨rfl, g3⟩
                have G3 := hide (Gr.trans G2.out g3)
                have I3 := hide (Gr.trans I2.out g3)
                clear t0 t1 tb g3 gw
                obtain ⟨t0, t1, tb, gw⟩ := HBX.out _ G3.out
                go_wp2
                go_roundg (gk - 1)
                case measure => omega
                case rel =>
                  refine ⟨i + 1, by omega, ?_, by rw [SO.out, HA.out, Int.add_zero], by rw [SR.out, HBb.out, Int.add_zero], I3.out⟩
                  first | with_reducible rfl | simp
          · have hi' : ¬ ((i : Int) < (Fn : Int)) := by omega
            have hie : Fn = i := by omega
            subst hie
            obtain ⟨s1, s2⟩ := sm_01 (fO_bd (Fn : Int) l dm) Fn
            obtain ⟨s3, s4⟩ := sm_01 (fR_bd (Fn : Int) l dm) Fn
            have HSO := hide (show sm Fn (fO (Fn : Int) l dm) = ls l (fun x => if x.d = dm then x.l else 0) from HCO.out)
            have HSR := hide (show r + sm Fn (fR (Fn : Int) l dm) + rsN (L.drop (P + 1)) dm = R by rw [HCR.out]; exact HQ.out)
            generalize sm Fn (fO (Fn : Int) l dm) = so at *
            generalize sm Fn (fR (Fn : Int) l dm) = sr at *
            have e1 : 0 ≤ r + sr := by omega
            have e2 : r + sr + 1 ≤ 18446744073709551615 := by omega
            clear hg
            obtain ⟨Z0, hZ0⟩ : ∃ W, W = wr := ⟨_, rfl⟩
            go_wp2_with fail
            go_loopg [17, 18] m (fun k wv iv wr => ∃ (q : Nat), q + k = m ∧ iv = .int .i64 (q : Int) ∧ wv = .int .u64 (ls (l.take q) (fun x => if x.d = dm then x.l else 0)) ∧ Gr Z0 wr)
            case atStart => exact ⟨0, by omega, rfl, rfl, by rw [hZ0]; exact Gr.refl _⟩
            case round =>
              obtain ⟨q, hqk, rfl, rfl, hg⟩ := hrel
              subst hZ0
              have GZ := hide (Gr.trans GQ.out hg)
              have IZ := hide (Gr.trans GI.out hg)
              have GN := hide hg
              obtain ⟨t0, t1, tb, gw⟩ := HBX.out _ GZ.out
              obtain ⟨c0, cg⟩ := HC.out _ IZ.out
              obtain ⟨b1, b2⟩ := HOL.out q
              by_cases hq : q < m
              · have hq' : (q : Int) < (m : Int) := by omega
                have hq0 : (0 : Int) ≤ (q : Int) := by omega
                have hql : q < l.length := by rw [← HM.out]; exact hq
                have hqx : l[q]? = some l[q] := List.getElem?_eq_getElem hql
                have hxm : l[q] ∈ l := List.getElem_mem hql
                generalize l[q] = x at hqx hxm
                have HT9 := hide (ls_take_snoc (fun x : Sl => if x.d = dm then x.l else 0) hqx)
                obtain ⟨⟨k1, k2, k3⟩, _, _, k0⟩ := HG.out.slot l HLM.out x hxm
                have k6 : x.s + x.l ≤ 65536 := by have := HG.out.f2; omega
                obtain ⟨g2, o2, e9, hgl2, hcap2, d0, d1, d2, d3⟩ := slot_at (HLS.out _ IZ.out) hqx
                subst e9
                generalize ls (l.take q) (fun x => if x.d = dm then x.l else 0) = wn0 at *
                have k7 : 0 ≤ wn0 + x.l := by omega
                have k8 : wn0 + x.l ≤ 18446744073709551615 := by omega
                clear hqx hxm hg gw
                by_cases hdm : x.d = dm
                · have hdb : (x.d == dm) = true := by simpa using hdm
                  have HA := hide (show (if x.d = dm then x.l else 0) = x.l from if_pos hdm)
                  clear hdm
                  go_wp2
                  go_roundg (gk - 1)
                  case measure => omega
                  case rel =>
                    refine ⟨q + 1, by omega, ?_, by rw [HT9.out, HA.out], GN.out⟩
                    first | with_reducible rfl | simp
                · have hdb : (x.d == dm) = false := by simpa using hdm
                  have HA := hide (show (if x.d = dm then x.l else 0) = 0 from if_neg hdm)
                  clear hdm
                  go_wp2
                  go_roundg (gk - 1)
                  case measure => omega
                  case rel =>
                    refine ⟨q + 1, by omega, ?_, by rw [HT9.out, HA.out, Int.add_zero], GN.out⟩
                    first | with_reducible rfl | simp
              · have hq' : ¬ ((q : Int) < (m : Int)) := by omega
                have HE := hide (show ls (l.take q) (fun x => if x.d = dm then x.l else 0) = so by rw [HSO.out, List.take_of_length_le (by rw [← HM.out]; omega)])
                rw [HE.out]
                have hsb : (so != so) = false := by simp
                clear hg b1 b2 gw
                go_wp2
                go_roundg K1
                case measure => exact HK2.out
                case rel =>
                  refine ⟨P + 1, r + sr, HKK.out, ?_, rfl, e1, HSR.out, GZ.out⟩
                  first | with_reducible rfl | simp
      · have hj' : ¬ ((P : Int) < (n : Int)) := by omega
        have HE := hide (show r = R by
          have e : L.drop P = [] := List.drop_of_length_le (by rw [← HL.out]; omega)
          have h1 := HH.out
          rw [e] at h1
          have e2 : rsN [] dm = 0 := rfl
          omega)
        rw [HE.out]
        have GW := hide gw
        clear hg gw hr0
        go_wp2
        go_ret
        exact ⟨rfl, GW.out⟩
  · rw [if_neg h0] at HS
    generalize lkE F L dm 16 = E at HS h0
    have hne : (E != 0) = true := by simpa using h0
    clear h hx hF h0
    go_enter Try.func4, Try.ntmps4
    go_wp2_with fail
    rw [← hA]
    clear hA
    refine (HS.out _ (HBX.out _ GA.out).2.2.2).mono ?_
    rintro e w1 ⟨rfl, g1⟩
    have G1 := hide (Gr.trans GA.out g1)
    clear g1
    go_wp2_with fail
    refine (awake_any _).mono ?_
    rintro e w8 ⟨rfl, g8⟩
    have G8 := hide (HBX.out _ (Gr.trans G1.out g8)).2.2.2
    clear g8
    go_wp2
    go_ret
    exact ⟨rfl, G8.out⟩
end Go.Proofs.Ytbghagpjkkmhpab.Lt
