/-
  ChannelOrders walked: it answers true. Conditions: the lists that are handed in are not too long.
-/
import Derived.Test.YtpkbgfneebjnjaaCpOr0
import Derived.Test.YtpkbgfneebjnjaaGnGrd
import Derived.Test.YtpkbgfneebjnjaaCpFrame
import Derived.Deep.Cut
import Derived.Deep.QuietTactic
import Derived.BigQuiet
namespace Go.Proofs.Ytpkbgfneebjnjaa.Lt
open Go.RowKit Wd
attribute [local go_sem ↓] Go.wp_at_zero Go.wp_at_succ

set_option maxRecDepth 40000 in
set_option maxHeartbeats 8000000 in
theorem orders_walk (cp : Int) (h0 : 0 ≤ cp) (h1 : cp ≤ 255) (P Q : Nat → Prop) (w : World) (so to_ : Option Addr) (sn sc tn tc : Nat) (sends : List Int) (turns : List Bool) (hs : Ls eI P w (.slice so sn sc) sends) (ht : Ls eBo Q w (.slice to_ tn tc) turns) (bs : sn ≤ 1048576) (bt : tn ≤ 1048576) :
    Calls Try.prog 5 #[.int .u8 cp, .slice so sn sc, .slice to_ tn tc] w fun e w' => e = .returned (.bool true) ∧ Gr w w' := by
  have HSE := hid hs
  have HTU := hid ht
  have HSL := hid hs.len.1
  have HTL := hid ht.len.1
  have H0 := hid h0
  have H1 := hid (show cp ≤ 1024 from by omega)
  have BS := hid bs
  have HNW := hid (new_any w)
  have HLV := hid lives_any
  clear hs ht
  go_enter Try.func5, Try.ntmps5
  go_upto_region 4 with (first
    | (go_at_call 9; refine HNW.out.mono ?_; rintro e w1 ⟨b, t1, rfl, c1, g1, z1⟩; have C1 := hid c1; have G1 := hid g1; have Z1 := hid z1; clear c1 g1 z1)
    | (go_at_call 10; refine (HLV.out _).mono ?_; rintro e w2 ⟨rfl, g2⟩; have C2 := hid (C1.out.gr g2); have G2 := hid (Gr.trans G1.out g2); clear g2))
  have HM := hid (make_yes C2.out cp ⟨h0, by omega, by decide⟩)
  go_wp2_with (first
    | (go_at_call 17; refine HM.out.mono ?_; rintro e w3 ⟨rfl, t3, c3, n3⟩; have C3 := hid (show Cs t3 w3 b [⟨cp, [], [], [], false⟩] from c3); obtain ⟨g3, z3⟩ := Tn.base Z1.out G2.out n3; have G3 := hid g3; have Z3 := hid z3; clear c3 n3 g3 z3))
  have OE := hid (ow_empty 2 w3)
  have GE := hid (show Gr w3 (w3.alloc (.cells #[] 2)) from Ch.alloc (Gr.refl _) _)
  have OI0 := hid (show Oi cp sends 0 0 [] ⟨cp, [], [], [], false⟩ from ⟨rfl, rfl, h0, by simp, Nat.zero_le _, fun e => (e rfl).elim, fun e => (e rfl).elim, fun x hx => (by cases hx), fun x hx => (by cases hx), List.nodup_nil, List.nodup_nil, Nat.zero_le _⟩)
  go_loopg [10, 11, 12] tn (fun q v10 v11 v12 wr => ∃ (i sent gl gc : Nat) (gt : List Int) (c : Cn) (t : Nat → Tg) (ga : Option Addr), i + q = tn ∧ v10 = .int .i64 (sent : Int) ∧ v12 = .int .i64 (i : Int) ∧ v11 = .slice ga gl gc ∧ Oi cp sends i sent gt c ∧ Cs t wr b [c] ∧ (∀ q, q < w.heap.size → t q = .no) ∧ Ow eI 1 2 w.heap.size wr (.slice ga gl gc) gt ∧ (∀ q, Blk (.slice ga gl gc) q → t q = .no) ∧ Gr w wr)
  case atStart => exact ⟨0, 0, 0, 0, [], _, t3, _, by omega, rfl, rfl, rfl, OI0.out, C3.out.gr GE.out, Z3.out, OE.out.lower G3.out.size, fun q hq => cs_hi C3.out q (OE.out.blk hq).1, Gr.trans G3.out GE.out⟩
  case round =>
    obtain ⟨i, sent, gl, gc, gt, c, t, ga, hiq, rfl, rfl, rfl, hOi, hC, hZ, hO, hB, hG⟩ := hrel
    have OJ := hid hOi
    have CJ := hid hC
    have ZJ := hid hZ
    have PJ := hid hO
    have BJ := hid hB
    have GJ := hid hG
    clear hOi hC hZ hO hB hG OI0 C3 Z3 OE GE G3
    by_cases hi : i < tn
    · obtain ⟨bb, hx⟩ : ∃ x, turns[i]? = some x := ⟨_, List.getElem?_eq_getElem (by rw [← HTL.out]; exact hi)⟩
      obtain ⟨gg, oo, cap', hv, _, hgl, _, hcs⟩ := (HTU.out.gr GJ.out).get eBo_len hx
      injection hv with hv1 hv2 hv3
      subst hv1
      clear hv2 hv3
      have c0 := hcs 0 _ rfl
      simp only [Nat.mul_one, Nat.add_zero] at c0
      have i0 : (0 : Int) ≤ (i : Int) := by omega
      have i1 : (i : Int) < (tn : Int) := by omega
      have w1 : wrap64 (2 * (i : Int)) = 2 * (i : Int) := by unfold wrap64; omega
      have w2 : wrap64 (2 * (i : Int) + 1) = 2 * (i : Int) + 1 := by unfold wrap64; omega
      have HX := hid hx
      clear hcs hx hgl
      cases bb with
      | true =>
        by_cases hsn : sent < sn
        · have tb : decide ((sent : Int) < (sn : Int)) = true := decide_eq_true (by omega)
          obtain ⟨v, hv⟩ : ∃ v, sends[sent]? = some v := ⟨_, List.getElem?_eq_getElem (by rw [← HSL.out]; exact hsn)⟩
          obtain ⟨her, htr, hkl, c', hcs', hoi⟩ := OJ.out.send hv
          have HS := send_any (s := 2 * (i : Int) + 1) (g := 0) CJ.out (OJ.out.gd H0.out H1.out (by omega)) (by omega) (by unfold Gok; omega) 1 v
          unfold MvO at HS
          rw [her, htr, hcs'] at HS
          generalize (sndF [c] 1 (2 * (i : Int) + 1) 0 v).ks = ks at hkl hoi HS
          generalize (sndF [c] 1 (2 * (i : Int) + 1) 0 v).wa = wa at HS
          generalize (sndF [c] 1 (2 * (i : Int) + 1) 0 v).va = va at HS
          generalize (sndF [c] 1 (2 * (i : Int) + 1) 0 v).ok = ok at HS
          have HS' := hid HS
          have OI := hid hoi
          have HKL := hid hkl
          obtain ⟨gs, os, cs', es, -, hgs, -, hcv⟩ := (HSE.out.gr GJ.out).get eI_len hv
          injection es with es en ec
          subst es
          clear en ec
          have cv := hcv 0 _ rfl
          simp only [Nat.mul_one, Nat.add_zero] at cv
          have s0 : (0 : Int) ≤ (sent : Int) := by omega
          have s1 : (sent : Int) < (sn : Int) := by omega
          clear her htr hkl hcs' hoi HS hcv hv hgs
          go_upto_region 13 with (first
            | (go_at_call 18; refine HS'.out.mono ?_; rintro e w3 ⟨mo, mn, mc, rfl, ok3, t3, c3, n3, b3⟩; have C3 := hid c3; obtain ⟨g3, z3⟩ := Tn.base ZJ.out GJ.out n3; have G3 := hid g3; have Z3 := hid z3; have K3 := hid ok3; have B3 := hid b3; have O3 := hid (PJ.out.ch n3.c (fun q hq hs => hs (BJ.out q hq))); have T3 := hid (show ∀ q, Blk (.slice ga gl gc) q → t3 q = .no from fun q hq => n3.o q (PJ.out.blk hq).2 (BJ.out q hq)); have D3 := hid (show ∀ q, Blk (.slice ga gl gc) q → ¬ Blk (.slice mo mn mc) q from fun q h1 h2 => by have := (PJ.out.blk h1).2; have := (ok3.blk h2).1; omega); have S3 := hid n3.c.size; clear ok3 c3 n3 b3 g3 z3))
          clear c0 cv s0 s1 tb
          have HMN := hid K3.out.len.1
          obtain ⟨W4, hW4⟩ : ∃ W, W = w3.alloc (.cells #[.bool wa, .int .i64 va, .bool ok, .int .i64 0, .slice mo mn mc] 50) := ⟨_, rfl⟩
          rw [← hW4]
          have GA : Gr w3 W4 := by rw [hW4]; exact Ch.alloc (Gr.refl w3) _
          have M4 := hid (show W4.heap[w3.heap.size]? = some (.cells #[.bool wa, .int .i64 va, .bool ok, .int .i64 0, .slice mo mn mc] 50 (0, 0)) from by rw [hW4]; exact (MapKept.heap_alloc w3 _).1)
          have C4 := hid (C3.out.gr GA)
          have G4 := hid (Gr.trans G3.out GA)
          have K4 := hid ((K3.out.gr GA).lower (Nat.zero_le _))
          have O4 := hid (O3.out.gr GA)
          have N4 := hid (show t3 w3.heap.size = .no from cs_hi C3.out _ (Nat.le_refl _))
          have D4 := hid (show ∀ q, Blk (.slice ga gl gc) q → q ≠ w3.heap.size from fun q hq e => by have := (O3.out.blk hq).2; omega)
          have LM := hid (show ∀ q, Blk (.slice mo mn mc) q → q < w3.heap.size from fun q hq => (K3.out.blk hq).2)
          clear GA hW4 C3 G3 K3 O3
          generalize w3.heap.size = MB at M4 N4 D4 LM ⊢
          have q3 := cell_of M4.out 3
          have lM := lt_of_block M4.out
          simp at q3
          go_upto_region 16 with fail
          clear q3 lM
          go_wp2_with fail
          go_loopg [11, 15] mn (fun q v11 v15 wq => ∃ (k gl2 gc2 : Nat) (ga2 : Option Addr), k + q = mn ∧ v15 = .int .i64 (k : Int) ∧ v11 = .slice ga2 gl2 gc2 ∧ Ow eI 1 2 w.heap.size wq (.slice ga2 gl2 gc2) (gt ++ (ks.take k).map (·.v)) ∧ (∀ q, Blk (.slice ga2 gl2 gc2) q → t3 q = .no) ∧ (∀ q, Blk (.slice ga2 gl2 gc2) q → ¬ Blk (.slice mo mn mc) q) ∧ (∀ q, Blk (.slice ga2 gl2 gc2) q → q ≠ MB) ∧ Cs t3 wq b [c'] ∧ Gr w wq ∧ Ow eK 6 54 0 wq (.slice mo mn mc) ks ∧ wq.heap[MB]? = some (.cells #[.bool wa, .int .i64 va, .bool ok, .int .i64 0, .slice mo mn mc] 50 (0, 0)))
          case atStart => exact ⟨0, gl, gc, ga, by omega, rfl, rfl, by rw [List.take_zero, List.map_nil, List.append_nil]; exact O4.out, T3.out, D3.out, D4.out, C4.out, G4.out, K4.out, M4.out⟩
          case round =>
            obtain ⟨k, gl2, gc2, ga2, hkq, rfl, rfl, hO, hT, hD, hE, hC, hG, hK, hM⟩ := hrel
            have IQ := hid hO
            have IT_ := hid hT
            have ID := hid hD
            have IE := hid hE
            have IC := hid hC
            have IG := hid hG
            have IK := hid hK
            have IM := hid hM
            clear hO hT hD hE hC hG hK hM C4 G4 K4 O4 M4 T3 D3 D4
            have q4 := cell_of IM.out 4
            have lM := lt_of_block IM.out
            simp at q4
            by_cases hk : k < mn
            · obtain ⟨⟨x0, x1, x2, x3, x4, x5⟩, hx⟩ : ∃ x, ks[k]? = some x := ⟨_, List.getElem?_eq_getElem (by rw [← HMN.out]; exact hk)⟩
              obtain ⟨gk', kc, ek, -, hgk, -, hck, -, -⟩ := IK.out.get eK_len hx
              injection ek with ek e1 e2
              subst ek
              clear e1 e2
              have d3 := hck 3 _ rfl
              have k0 : (0 : Int) ≤ (k : Int) := by omega
              have k1 : (k : Int) < (mn : Int) := by omega
              have HWK := hid (show wrap64 ((k : Int) + 1) = ((k + 1 : Nat) : Int) from by have := HKL.out; have := HMN.out; unfold wrap64; omega)
              have HTK := hid (take_one hx)
              have HL2 := hid IQ.out.len.1
              have S9 := hid IG.out.size
              have LGT := hid (show (gt ++ (ks.take k).map (·.v)).length ≤ 1048578 from by
                have h2 := congrArg List.length OJ.out.q
                rw [List.length_append, List.length_append, List.length_take] at h2
                have h3 := HKL.out
                have h4 := HSL.out
                have h5 := BS.out
                rw [List.length_append, List.length_map, List.length_take]
                omega)
              clear hck hx hgk
              go_wp2_with (first
                | (at_builtin; refine wpList_append_ow eI_len rfl (.tmp 84) (.tmp 91) _ 2 8 _ Try.underlying43 i64_info rfl (by omega) rfl w.heap.size _ (gt ++ (ks.take k).map (·.v)) rfl (IQ.out.alloc _) _ _ [x3] rfl (Ls.single wr x3 2 #[.int .i64 x3] rfl) (eI_one _) (gl2 + 1) (by rw [← HL2.out]; rfl) (by have := LGT.out; have := HL2.out; omega) (by unfold maxLen; have := LGT.out; have := HL2.out; omega) (by simp; have := S9.out; omega) (gt ++ (ks.take (k + 1)).map (·.v)) (by rw [HTK.out, List.map_append, ← List.append_assoc]; rfl) ?_; intro ao5 cap5 w5 ow5 cw5 bl5; have O5 := hid ow5; have C5 := hid cw5; have L5 := hid bl5; clear ow5 cw5 bl5))
              go_roundg (gk - 1)
              case measure => omega
              case rel =>
                have GB := (show Gr wr (wr.alloc (.cells #[.int .i64 x3] 2)) from Ch.alloc (Gr.refl wr) _)
                refine ⟨k + 1, gl2 + 1, cap5, ao5, by omega, (by first | exact congrArg _ HWK.out | simp), rfl, O5.out, fun q hq => ?_, fun q hq => ?_, fun q hq => ?_, (IC.out.gr GB).ch C5.out (fun q hq => IT_.out q hq), Ch.trans (show Ch NoB w _ from Gr.trans IG.out GB) C5.out (fun q hq => .inr (IQ.out.blk hq).1), (IK.out.gr GB).ch C5.out (fun q hq hs => ID.out q hs hq), (C5.out.block MB (Nat.lt_of_lt_of_le lM GB.size) (fun hq => IE.out _ hq rfl)).trans (gr_blk IM.out GB)⟩
                · rcases L5.out q hq with h1 | h1
                  · exact IT_.out q h1
                  · exact cs_hi IC.out q (Nat.le_trans GB.size h1)
                · rcases L5.out q hq with h1 | h1
                  · exact ID.out q h1
                  · exact fun h2 => by have := (IK.out.blk h2).2; have := GB.size; omega
                · rcases L5.out q hq with h1 | h1
                  · exact IE.out q h1
                  · have := GB.size; omega
            · have kn : ¬ (k : Int) < (mn : Int) := by omega
              have IQ' := hid (show Ow eI 1 2 w.heap.size wr (.slice ga2 gl2 gc2) (gt ++ ks.map (·.v)) from by have := IQ.out; rwa [List.take_of_length_le (by rw [← HMN.out]; omega)] at this)
              obtain ⟨gg', oo', cap'', hv', -, -, -, hcs'⟩ := (HTU.out.gr IG.out).get eBo_len HX.out
              injection hv' with hv' hv2 hv3
              injection hv' with hv'
              injection hv' with e1 e2 _
              subst e1 e2
              clear hv2 hv3
              have c0 := hcs' 0 _ rfl
              simp only [Nat.mul_one, Nat.add_zero] at c0
              clear hcs' IQ
              go_upto_region 26 with fail
              clear c0 q4 lM
              have HLN := hid (len_yes (i := 0) IC.out rfl (by simp))
              have VL := (OI).out.v
              have GLS : gl2 ≤ (sent + 1) := by
                have h1 := (IQ').out.len.1
                have h2 := congrArg List.length (OI).out.q
                rw [List.length_append, List.length_append, List.length_take] at h2
                omega
              have g1 : ¬ (gl2 : Int) > ((sent : Int) + 1) := by omega
              have g2 : ¬ ((sent : Int) + 1) < (gl2 : Int) := by omega
              have v1 : ¬ (c'.vs.length : Int) > cp := by omega
              have v2 : ¬ cp < (c'.vs.length : Int) := by omega
              go_wp2_with (first
                | (go_at_call 20; refine HLN.out.mono ?_; rintro e w9 ⟨rfl, hw9⟩; obtain rfl := hw9.symm; clear hw9))
              go_roundg (tn - (i + 1))
              case measure => omega
              case rel =>
                refine ⟨i + 1, (sent + 1), gl2, gc2, (gt ++ ks.map (·.v)), c', t3, ga2, ?_, ?_, ?_, ?_, OI.out, IC.out, Z3.out, IQ'.out, IT_.out, IG.out⟩
                · omega
                · first | with_reducible rfl | simp
                · first | with_reducible rfl | simp
                · with_reducible rfl
        · have tb : decide ((sent : Int) < (sn : Int)) = false := decide_eq_false (by omega)
          have OI := hid OJ.out.skip
          go_upto_region 26 with fail
          clear c0 tb

          have HLN := hid (len_yes (i := 0) CJ.out rfl (by simp))
          have VL := (OI).out.v
          have GLS : gl ≤ sent := by
            have h1 := (PJ).out.len.1
            have h2 := congrArg List.length (OI).out.q
            rw [List.length_append, List.length_append, List.length_take] at h2
            omega
          have g1 : ¬ (gl : Int) > (sent : Int) := by omega
          have g2 : ¬ (sent : Int) < (gl : Int) := by omega
          have v1 : ¬ (c.vs.length : Int) > cp := by omega
          have v2 : ¬ cp < (c.vs.length : Int) := by omega
          go_wp2_with (first
            | (go_at_call 20; refine HLN.out.mono ?_; rintro e w9 ⟨rfl, hw9⟩; obtain rfl := hw9.symm; clear hw9))
          go_roundg (tn - (i + 1))
          case measure => omega
          case rel =>
            refine ⟨i + 1, sent, gl, gc, gt, c, t, ga, ?_, ?_, ?_, ?_, OI.out, CJ.out, ZJ.out, PJ.out, BJ.out, GJ.out⟩
            · omega
            · first | with_reducible rfl | simp
            · first | with_reducible rfl | simp
            · with_reducible rfl
      | false =>
        obtain ⟨her, htr, c', hcs', hoi⟩ := OJ.out.recv
        have HS := recv_any (s := 2 * (i : Int)) (g := 0) CJ.out (OJ.out.gd H0.out H1.out (by omega)) (by omega) (by unfold Gok; omega) 1
        unfold MvO at HS
        rw [her, htr, hcs'] at HS
        generalize (rcvF [c] 1 (2 * (i : Int)) 0).ks = ks at HS
        generalize (rcvF [c] 1 (2 * (i : Int)) 0).wa = wa at HS hoi
        generalize (rcvF [c] 1 (2 * (i : Int)) 0).va = va at HS hoi
        generalize (rcvF [c] 1 (2 * (i : Int)) 0).ok = ok at HS
        have HS' := hid HS
        have OI := hid hoi
        clear her htr hcs' hoi HS
        go_upto_region 22 with (first
          | (go_at_call 19; refine HS'.out.mono ?_; rintro e w3 ⟨mo, mn, mc, rfl, ok3, t3, c3, n3, b3⟩; have C3 := hid c3; obtain ⟨g3, z3⟩ := Tn.base ZJ.out GJ.out n3; have G3 := hid g3; have Z3 := hid z3; have O3 := hid (PJ.out.ch n3.c (fun q hq hs => hs (BJ.out q hq))); have T3 := hid (show ∀ q, Blk (.slice ga gl gc) q → t3 q = .no from fun q hq => n3.o q (PJ.out.blk hq).2 (BJ.out q hq)); clear ok3 c3 n3 b3 g3 z3))
        clear c0
        obtain ⟨W4, hW4⟩ : ∃ W, W = w3.alloc (.cells #[.bool wa, .int .i64 va, .bool ok, .int .i64 0, .slice mo mn mc] 50) := ⟨_, rfl⟩
        rw [← hW4]
        have GA : Gr w3 W4 := by rw [hW4]; exact Ch.alloc (Gr.refl w3) _
        have M4 := hid (show W4.heap[w3.heap.size]? = some (.cells #[.bool wa, .int .i64 va, .bool ok, .int .i64 0, .slice mo mn mc] 50 (0, 0)) from by rw [hW4]; exact (MapKept.heap_alloc w3 _).1)
        have C4 := hid (C3.out.gr GA)
        have G4 := hid (Gr.trans G3.out GA)
        have O4 := hid (O3.out.gr GA)
        clear GA hW4 C3 G3 O3
        generalize w3.heap.size = MB at M4 ⊢
        have q0 := cell_of M4.out 0
        have q1 := cell_of M4.out 1
        have q3 := cell_of M4.out 3
        have lM := lt_of_block M4.out
        simp at q0 q1 q3
        cases wa with
        | true =>
          rw [if_pos rfl] at OI
          go_upto_region 26 with fail
          clear q0 q1 q3 lM
          have HLN := hid (len_yes (i := 0) C4.out rfl (by simp))
          have VL := (OI).out.v
          have GLS : gl ≤ sent := by
            have h1 := (O4).out.len.1
            have h2 := congrArg List.length (OI).out.q
            rw [List.length_append, List.length_append, List.length_take] at h2
            omega
          have g1 : ¬ (gl : Int) > (sent : Int) := by omega
          have g2 : ¬ (sent : Int) < (gl : Int) := by omega
          have v1 : ¬ (c'.vs.length : Int) > cp := by omega
          have v2 : ¬ cp < (c'.vs.length : Int) := by omega
          go_wp2_with (first
            | (go_at_call 20; refine HLN.out.mono ?_; rintro e w9 ⟨rfl, hw9⟩; obtain rfl := hw9.symm; clear hw9))
          go_roundg (tn - (i + 1))
          case measure => omega
          case rel =>
            refine ⟨i + 1, sent, gl, gc, gt, c', t3, ga, ?_, ?_, ?_, ?_, OI.out, C4.out, Z3.out, O4.out, T3.out, G4.out⟩
            · omega
            · first | with_reducible rfl | simp
            · first | with_reducible rfl | simp
            · with_reducible rfl
        | false =>
          rw [if_neg (by simp)] at OI
          have HL2 := hid O4.out.len.1
          have S9 := hid G4.out.size
          have LGT := hid (show gt.length ≤ 1048576 from by
            have h2 := congrArg List.length OJ.out.q
            rw [List.length_append, List.length_append, List.length_take] at h2
            have h4 := HSL.out
            have h5 := BS.out
            omega)
          go_upto_region 26 with (first
            | (at_builtin; refine wpList_append_ow eI_len rfl (.tmp 117) (.tmp 120) _ 2 8 _ Try.underlying43 i64_info rfl (by omega) rfl w.heap.size _ gt rfl (O4.out.alloc _) _ _ [va] rfl (Ls.single W4 va 2 #[.int .i64 va] rfl) (eI_one _) (gl + 1) (by rw [← HL2.out]; rfl) (by have := LGT.out; have := HL2.out; omega) (by unfold maxLen; have := LGT.out; have := HL2.out; omega) (by simp; have := S9.out; omega) (gt ++ [va]) rfl ?_; intro ao5 cap5 w5 ow5 cw5 bl5; have O5 := hid ow5; have C5 := hid ((C4.out.gr (show Gr W4 (W4.alloc (.cells #[.int .i64 va] 2)) from Ch.alloc (Gr.refl W4) _)).ch cw5 (fun q hq => T3.out q hq)); have G5 := hid (Ch.trans (show Ch NoB w _ from Gr.trans G4.out (show Gr W4 (W4.alloc (.cells #[.int .i64 va] 2)) from Ch.alloc (Gr.refl W4) _)) cw5 (fun q hq => .inr (O4.out.blk hq).1)); have B5 := hid (show ∀ q, Blk (.slice ao5 (gl + 1) cap5) q → t3 q = .no from fun q hq => (bl5 q hq).elim (fun h1 => T3.out q h1) (fun h1 => cs_hi C4.out q (Nat.le_trans (show Gr W4 (W4.alloc (.cells #[.int .i64 va] 2)) from Ch.alloc (Gr.refl W4) _).size h1))); clear ow5 cw5 bl5))
          clear q0 q1 q3 lM
          have HLN := hid (len_yes (i := 0) C5.out rfl (by simp))
          have VL := (OI).out.v
          have GLS : (gl + 1) ≤ sent := by
            have h1 := (O5).out.len.1
            have h2 := congrArg List.length (OI).out.q
            rw [List.length_append, List.length_append, List.length_take] at h2
            omega
          have g1 : ¬ ((gl + 1) : Int) > (sent : Int) := by omega
          have g2 : ¬ (sent : Int) < ((gl + 1) : Int) := by omega
          have v1 : ¬ (c'.vs.length : Int) > cp := by omega
          have v2 : ¬ cp < (c'.vs.length : Int) := by omega
          go_wp2_with (first
            | (go_at_call 20; refine HLN.out.mono ?_; rintro e w9 ⟨rfl, hw9⟩; obtain rfl := hw9.symm; clear hw9))
          go_roundg (tn - (i + 1))
          case measure => omega
          case rel =>
            refine ⟨i + 1, sent, (gl + 1), cap5, (gt ++ [va]), c', t3, ao5, ?_, ?_, ?_, ?_, OI.out, C5.out, Z3.out, O5.out, B5.out, G5.out⟩
            · omega
            · first | with_reducible rfl | simp
            · first | with_reducible rfl | simp
            · with_reducible rfl
    · skip
      have inn : ¬ (i : Int) < (tn : Int) := by omega
      have HEQ := hid (show ∀ j x, gt[j]? = some x → sends[j]? = some x from fun j x hx => by
        have hj := (List.getElem?_eq_some_iff.1 hx).1
        have h2 := OJ.out.q
        have h3 : (sends.take sent)[j]? = some x := by rw [← h2, List.append_assoc, List.getElem?_append_left hj]; exact hx
        rw [List.getElem?_take] at h3
        split at h3
        · exact h3
        · cases h3)
      have HGL := hid PJ.out.len.1
      have GLB := hid (show gl ≤ 1048576 from by
        have h1 := PJ.out.len.1
        have h2 := congrArg List.length OJ.out.q
        rw [List.length_append, List.length_append, List.length_take] at h2
        have h4 := HSL.out
        have h5 := BS.out
        omega)
      go_wp2_with fail
      obtain ⟨WL, hWL⟩ : ∃ W, W = wr := ⟨_, rfl⟩
      rw [← hWL] at PJ GJ
      have HWL := hid hWL
      clear hWL CJ
      go_loopg [20] gl (fun q v20 wq => ∃ (j : Nat), j + q = gl ∧ v20 = .int .i64 (j : Int) ∧ Gr WL wq)
      case atStart => exact ⟨0, by omega, rfl, by rw [HWL.out]; exact Gr.refl _⟩
      case round =>
        obtain ⟨j, hjq, rfl, hR⟩ := hrel
        have GR := hid hR
        clear hR HWL
        by_cases hj : j < gl
        · obtain ⟨x, hx⟩ : ∃ x, gt[j]? = some x := ⟨_, List.getElem?_eq_getElem (by rw [← HGL.out]; exact hj)⟩
          have hy := HEQ.out j x hx
          obtain ⟨g1, k1, e1, -, l1, -, q1, -, -⟩ := (PJ.out.gr GR.out).get eI_len hx
          injection e1 with e1 e2 e3
          subst e1
          clear e2 e3
          obtain ⟨g2, o2, k2, e4, -, l2, -, q2⟩ := ((HSE.out.gr GJ.out).gr GR.out).get eI_len hy
          injection e4 with e4 e5 e6
          subst e4
          clear e5 e6
          have d1 := q1 0 _ rfl
          have d2 := q2 0 _ rfl
          simp only [Nat.mul_one, Nat.add_zero] at d1 d2
          have j0 : (0 : Int) ≤ (j : Int) := by omega
          have j1 : (j : Int) < (gl : Int) := by omega
          have j2 : (j : Int) < (sn : Int) := by have := (List.getElem?_eq_some_iff.1 hy).1; have := HSL.out; omega
          have jb := GLB.out
          clear q1 q2 hx hy
          go_wp2_with fail
          go_quiet (fail)
          go_wp2
          go_roundg (gl - (j + 1))
          case measure => omega
          case rel => exact ⟨j + 1, by omega, by simp, Ch.drewN GR.out _⟩
        · have jn : ¬ (j : Int) < (gl : Int) := by omega
          go_wp2
          go_ret
          exact ⟨rfl, Gr.trans GJ.out GR.out⟩
theorem orders_any (cp : Int) (h0 : 0 ≤ cp) (h1 : cp ≤ 255) (P : Nat → Prop) (v0 : Value) (sends : List Int) (Q : Nat → Prop) (v1 : Value) (turns : List Bool) (w : World) (hs : Ls eI P w v0 sends) (bs : sends.length ≤ 1048576) (ht : Ls eBo Q w v1 turns) (bt : turns.length ≤ 1048576) :
    Calls Try.prog 5 #[.int .u8 cp, v0, v1] w fun e w' => e = .returned (.bool true) ∧ Gr w w' := by
  obtain ⟨a0, c0, rfl⟩ := hs.form
  obtain ⟨a1, c1, rfl⟩ := ht.form
  exact orders_walk cp h0 h1 P Q w a0 a1 _ c0 _ c1 sends turns hs ht bs bt
end Go.Proofs.Ytpkbgfneebjnjaa.Lt
