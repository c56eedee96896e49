/-
  What the document's Deliver answers of the queueing kind. Condition: the lists have no more than 1024 elements, and ages are ages.
-/
import Derived.Test.YtnpbehcfbceclaaPdDlvS
namespace Go.Proofs.Ytnpbehcfbceclaa.Lt
open Go.RowKit Wd
attribute [local go_sem ↓] Go.wp_at_zero Go.wp_at_succ
set_option maxRecDepth 20000

set_option maxHeartbeats 16000000 in
theorem rdlvq_any {P Q : Nat → Prop} (w : World) (cap lost : Nat) (a1 a2 : Option Addr) (n1 n2 c1 c2 : Nat) (out : List Int) (inn : List Ag) (h1 : Ls eI P w (.slice a1 n1 c1) out) (h2 : Ls eG Q w (.slice a2 n2 c2) inn) (hok : Pt.ok ⟨true, cap, out, inn, lost⟩) :
    Calls Try.prog 27 #[.agg #[.bool true, .int .i64 (cap : Nat), .slice a1 n1 c1, .slice a2 n2 c2, .int .i64 (lost : Nat)]] w fun e w' => ∃ u1 u2, e = .returned (stV (dlvP ⟨true, cap, out, inn, lost⟩) u1 u2) ∧ RdR P Q w (dlvP ⟨true, cap, out, inn, lost⟩) u1 u2 w' := by
  have HA := hid hok.ages
  have k1 : out.length ≤ cap := hok.o
  have k2 : inn.length ≤ cap := hok.i
  have k3 : cap ≤ 1024 := hok.c2
  have k5 : lost ≤ 2147483647 := hok.l
  have hm1 : n1 ≤ 1024 := by have := h1.len.1; omega
  have hm2 : n2 ≤ cap := by have := h2.len.1; omega
  have hm3 : n1 ≤ cap := by have := h1.len.1; omega
  clear hok k1 k2
  unfold dlvP stV RdR comeN
  rw [if_pos rfl]
  dsimp only
  obtain ⟨cm, hcm⟩ : ∃ cm, cm = min out.length (cap - inn.length) := ⟨_, rfl⟩
  rw [← hcm]
  rw [← h1.len.1, ← h2.len.1] at hcm
  have HCM := hid hcm
  rw [← h1.len.1]
  clear hcm
  have HX := hid (show ∀ W, Gr w W → Ls eI P W (.slice a1 n1 c1) out from fun W k => h1.gr k)
  have HL1 := hid h1.len.1
  have HL2 := hid h2.len.1
  obtain ⟨W2, hw2⟩ : ∃ W, W = (w.alloc (.cells #[.bool true, .int .i64 (cap : Nat), .slice a1 n1 c1, .slice a2 n2 c2, .int .i64 (lost : Nat)] 32)).alloc (.cells #[.bool false, .int .i64 0, .slice none 0 0, .slice none 0 0, .int .i64 0] 32) := ⟨_, rfl⟩
  have XB := hid (show W2.heap[w.heap.size]? = some (.cells #[.bool true, .int .i64 (cap : Nat), .slice a1 n1 c1, .slice a2 n2 c2, .int .i64 (lost : Nat)] 32 (0, 0)) by rw [hw2]; exact al_blk (al_at _ rfl) _)
  have XR0 := hid (show W2.heap[w.heap.size + 1]? = some (.cells #[.bool false, .int .i64 0, .slice none 0 0, .slice none 0 0, .int .i64 0] 32 (0, 0)) by rw [hw2]; exact al_at _ (by simp))
  have G2 := hid (show Gr w W2 by rw [hw2]; exact Ch.alloc (Ch.alloc (Gr.refl w) _) _)
  have HS2 := hid (show W2.heap.size = w.heap.size + 2 by rw [hw2]; simp)
  have HC := hid (show Calls Try.prog 16 #[.agg #[.bool true, .int .i64 (cap : Nat), .slice a1 n1 c1, .slice a2 n2 c2, .int .i64 (lost : Nat)]] ((w.alloc (.cells #[.bool true, .int .i64 (cap : Nat), .slice a1 n1 c1, .slice a2 n2 c2, .int .i64 (lost : Nat)] 32)).alloc (.cells #[.bool false, .int .i64 0, .slice none 0 0, .slice none 0 0, .int .i64 0] 32)) (fun e w' => ∃ v1 v2, e = .returned (.agg #[.bool true, .int .i64 (cap : Nat), v1, v2, .int .i64 (lost : Nat)]) ∧ Ow eI 1 2 W2.heap.size w' v1 out ∧ Ow eG 2 59 W2.heap.size w' v2 inn ∧ Gr W2 w') from by
    rw [← hw2]
    exact copy_any W2 true cap lost a1 a2 n1 n2 c1 c2 out inn (h1.gr G2.out) (h2.gr G2.out) (by omega) (by omega))
  clear h1 h2 hw2
  go_enter Try.func27, Try.ntmps27
  go_wp2_with (go_at_call 16; refine HC.out.mono ?_; rintro e w4 ⟨v1, v2, rfl, o1, o2, k4⟩; obtain ⟨b1, d1, rfl⟩ := o1.form; obtain ⟨b2, d2, rfl⟩ := o2.form; rw [← HL2.out] at o2 ⊢; have O2 := hid (o2.lower G2.out.size); have K4 := hid k4; clear o1 o2 k4)
  obtain ⟨b3, hb3⟩ : ∃ b, b = w4.heap.size := ⟨_, rfl⟩
  have HB3 := hid (show w.heap.size + 2 ≤ b3 by have := K4.out.size; have := HS2.out; omega)
  have CZ0 := hid (show Cz w b3 #[.bool true, .int .i64 (cap : Nat), .slice a1 n1 c1, .slice a2 n2 c2, .int .i64 (lost : Nat)] (w4.alloc (.cells #[.bool true, .int .i64 (cap : Nat), .slice none 0 0, .slice b2 n2 d2, .int .i64 (lost : Nat)] 32)) from ⟨Ch.alloc (Gr.trans G2.out K4.out) _, al_blk (gr_blk XB.out K4.out) _, al_blk (gr_blk XR0.out K4.out) _, HB3.out, by rw [hb3]; simp⟩)
  have CV0 := hid (show Cv b3 #[.bool true, .int .i64 (cap : Nat), .slice none 0 0, .slice b2 n2 d2, .int .i64 (lost : Nat)] (w4.alloc (.cells #[.bool true, .int .i64 (cap : Nat), .slice none 0 0, .slice b2 n2 d2, .int .i64 (lost : Nat)] 32)) from by rw [hb3]; exact al_at _ rfl)
  have OG0 := hid (show Ow eG 2 59 w.heap.size (w4.alloc (.cells #[.bool true, .int .i64 (cap : Nat), .slice none 0 0, .slice b2 n2 d2, .int .i64 (lost : Nat)] 32)) (.slice b2 n2 d2) (grown inn 0) from O2.out.alloc _)
  rw [← hb3]
  generalize w4.alloc (.cells #[.bool true, .int .i64 (cap : Nat), .slice none 0 0, .slice b2 n2 d2, .int .i64 (lost : Nat)] 32) = W5 at CZ0 CV0 OG0 ⊢
  clear hb3
  go_loopg [4] n2 (fun k9 i wr => ∃ j : Nat, j + k9 = n2 ∧ i = .int .i64 (j : Int) ∧ Cz w b3 #[.bool true, .int .i64 (cap : Nat), .slice a1 n1 c1, .slice a2 n2 c2, .int .i64 (lost : Nat)] wr ∧ Cv b3 #[.bool true, .int .i64 (cap : Nat), .slice none 0 0, .slice b2 n2 d2, .int .i64 (lost : Nat)] wr ∧ Ow eG 2 59 w.heap.size wr (.slice b2 n2 d2) (grown inn j))
  case atStart => exact ⟨0, by omega, rfl, CZ0.out, CV0.out, OG0.out⟩
  case round =>
    obtain ⟨j, hjk, rfl, hcz, hcv, how⟩ := hrel
    obtain ⟨V, hV⟩ : ∃ W, W = wr := ⟨_, rfl⟩
    subst hV
    obtain ⟨d3, f3, l3⟩ := hcv.cell 3
    simp at d3
    have CZ := hid hcz
    have CV := hid hcv
    have OW := hid how
    by_cases hj : j < n2
    · have hj' : (j : Int) < (n2 : Int) := by omega
      have hjx : inn[j]? = some (inn[j]'(by rw [← HL2.out]; exact hj)) := List.getElem?_eq_getElem _
      generalize inn[j]'(by rw [← HL2.out]; exact hj) = u at hjx
      have HJ := hid hjx
      obtain ⟨g, cp, e, _, hgl, hcp, hc, hf, hs⟩ := how.get eG_len (grown_get hjx)
      injection e with e1 e2 e3
      subst e1 e3
      have g1 := hc 1 _ rfl
      have f1 := hf (j * 2 + 1)
      have HS := hid (hs 1 (.int .i64 (u.a + 1)) ⟨u.v, u.a + 1⟩ (by omega) rfl)
      have hb : u.a ≤ 2147483647 ∧ 0 ≤ u.a := by have := HA.out u (List.mem_of_getElem? hjx); omega
      obtain ⟨hb1, hb2⟩ := hb
      have hne := hid (show b3 ≠ g from fun e => not_blk OW.out (by decide) CV.out (by rw [e]; rfl))
      have p0 : (0 : Int) ≤ (j : Int) := by omega
      clear how hc hf hs hcp e2 hjx hcz hcv
      by_cases ha : u.a < 2147483647
      · go_wp2
        go_roundg (gk - 1)
        case measure => omega
        case rel =>
          have c9 : Ch (Blk (.slice (some ⟨g, 0, none⟩) n2 d2)) V (V.setCell ⟨g, j * 2 + 1, none⟩ (.int .i64 (u.a + 1))) := Ch.setCell (S := Blk (.slice (some ⟨g, 0, none⟩) n2 d2)) (Ch.refl _ V) (p := ⟨g, j * 2 + 1, none⟩) (.inl rfl) _
          refine ⟨j + 1, by omega, ?_, CZ.out.app OW.out (by decide) c9, CV.out.app OW.out (by decide) c9, ?_⟩
          · first | with_reducible rfl | simp
          · have e : older u = ⟨u.v, u.a + 1⟩ := by unfold older; rw [if_pos ha]
            rw [← grown_set HJ.out, e]
            exact HS.out
      · go_wp2
        go_roundg (gk - 1)
        case measure => omega
        case rel =>
          refine ⟨j + 1, by omega, ?_, CZ.out, CV.out, ?_⟩
          · first | with_reducible rfl | simp
          · have e : older u = u := by unfold older; rw [if_neg (by omega)]
            rw [grown_same HJ.out e]
            exact OW.out
    · have hj' : ¬ ((j : Int) < (n2 : Int)) := by omega
      obtain rfl : n2 = j := by omega
      have hgr : grown inn n2 = inn.map older := by unfold grown; rw [HL2.out, List.take_length, List.drop_length, List.append_nil]
      rw [hgr] at how
      have OI := hid how
      have s0 := cell_of hcz.b 0
      have s1 := cell_of hcz.b 1
      have s2 := cell_of hcz.b 2
      simp at s0 s1 s2
      have sl := lt_of_block hcz.b
      clear hcz hcv how hgr OW
      go_wp2_with fail
      clear s0 s1 s2 sl d3 f3 l3
      go_loopg [5] n1 (fun k9 i wr => ∃ (j c l : Nat) (ao : Option Addr) (co : Nat), j + k9 = n1 ∧ i = .int .i64 (j : Int) ∧ Cz w b3 #[.bool true, .int .i64 (cap : Nat), .slice a1 n1 c1, .slice a2 n2 c2, .int .i64 (lost : Nat)] wr ∧ Cv b3 #[.bool true, .int .i64 (cap : Nat), .slice none 0 0, .slice ao (n2 + c) co, .int .i64 (l : Nat)] wr ∧ Ow eG 2 59 w.heap.size wr (.slice ao (n2 + c) co) (inn.map older ++ (out.take c).map fresh) ∧ c = min j cm ∧ l = lost + min (j - c) (2147483647 - lost))
      case atStart => exact ⟨0, 0, lost, _, _, by omega, rfl, CZ.out, CV.out, by rw [List.take_zero, List.map_nil, List.append_nil]; exact OI.out, by omega, by omega⟩
      case round =>
        obtain ⟨j, c, l, ao, co, hjk, rfl, hcz, hcv, how, hc, hl⟩ := hrel
        obtain ⟨V6, hV6⟩ : ∃ W, W = wr := ⟨_, rfl⟩
        subst hV6
        obtain ⟨d3, f3, l3⟩ := hcv.cell 3
        obtain ⟨d4, f4, _⟩ := hcv.cell 4
        simp at d3 d4
        have s1 := cell_of hcz.b 1
        have s2 := cell_of hcz.b 2
        simp at s1 s2
        have sl := lt_of_block hcz.b
        have CZ6 := hid hcz
        have CV6 := hid hcv
        have OW6 := hid how
        have HCc := hid hc
        have HLo := hid hl
        have hb1 : c ≤ 1024 := by have := HCM.out; omega
        have hb2 : l ≤ 2147483647 := by omega
        clear hc hl
        by_cases hj : j < n1
        · have hj' : (j : Int) < (n1 : Int) := by omega
          by_cases hr : n2 + c < cap
          · have hr' : (n2 : Int) + (c : Int) < (cap : Int) := by omega
            have hcj : c = j := by have := HCc.out; have := HCM.out; omega
            have hjx : out[c]? = some (out[c]'(by rw [← HL1.out]; omega)) := List.getElem?_eq_getElem _
            generalize out[c]'(by rw [← HL1.out]; omega) = u at hjx
            have HJ := hid hjx
            have HLT := hid (show (inn.map older ++ (out.take c).map fresh).length = n2 + c by rw [List.length_append, List.length_map, List.length_map, List.length_take, ← HL2.out, Nat.min_eq_left (by rw [← HL1.out]; omega)])
            obtain ⟨g, o, cp, e, _, hgl, _, hgc⟩ := (HX.out _ hcz.g).get eI_len hjx
            injection e with e1 e2 e3
            subst e1 e3
            clear hgl hgc e2 hjx
            have HU := hid (show ∀ W, Gr w W → W.cell? ⟨g, o + j, none⟩ = some (.int .i64 u) ∧ g < W.heap.size from fun W gw => by
              obtain ⟨g', o', cp', e', _, hgl', _, hc'⟩ := (HX.out W gw).get eI_len HJ.out
              injection e' with e1' _ _
              injection e1' with e1'
              injection e1' with e4 e5
              subst e4 e5
              rw [← hcj]
              exact ⟨by have := hc' 0 _ rfl; rwa [Nat.add_zero, Nat.mul_one] at this, hgl'⟩)
            have hS0 : Cz w b3 #[.bool true, .int .i64 (cap : Nat), .slice (some ⟨g, o, none⟩) n1 c1, .slice a2 n2 c2, .int .i64 (lost : Nat)] (World.drew V6) := hcz.gr (Ch.drew (Gr.refl V6))
            have cv0 : Cv b3 #[.bool true, .int .i64 (cap : Nat), .slice none 0 0, .slice ao (n2 + c) co, .int .i64 (l : Nat)] (World.drew V6) := hcv
            have OW0 := hid (how.drew)
            have p0 : (0 : Int) ≤ (j : Int) := by omega
            have HCJ := hid hcj
            have d3' := d3
            clear hcz hcv how hcj
            go_wp2_with fail
            have d3 : (World.drew V6).cell? ⟨b3, 3, none⟩ = some (.slice ao (n2 + c) co) := d3'
            refine wp_region_held_drew (S := Cz w b3 #[.bool true, .int .i64 (cap : Nat), .slice (some ⟨g, o, none⟩) n1 c1, .slice a2 n2 c2, .int .i64 (lost : Nat)]) (by kernel_rfl) (by exact hS0) (fun _ => ?_)
            generalize World.drew V6 = V0 at hS0 cv0 OW0 d3 ⊢
            refine takeS_on (i := 0) 60 (v := ?hv1) rfl rfl (by kernel_rfl) (by kernel_rfl) (by kernel_rfl) (fun _ _ _ h => h) (by kernel_rfl) ?hh1 (by exact hS0) ?_
            case hh1 => (intro w' hSw; go_simp; try (with_reducible rfl))
            simp only [Act.put, List.setIfInBounds_toArray, List.set_cons_zero, List.set_cons_succ]
            refine takeS_on (i := 2) 62 (v := ?hv2) rfl rfl (by kernel_rfl) (by kernel_rfl) (by kernel_rfl) (fun _ _ _ h => h) (by kernel_rfl) ?hh2 (by exact hS0) ?_
            case hh2 => (intro w' hSw; go_simp; try (with_reducible rfl))
            simp only [Act.put, List.setIfInBounds_toArray, List.set_cons_zero, List.set_cons_succ]
            refine takeS_on (i := 3) 63 (v := ?hv3) rfl rfl (by kernel_rfl) (by kernel_rfl) (by kernel_rfl) (fun _ _ _ h => h) (by kernel_rfl) ?hh3 (by exact hS0) ?_
            case hh3 => (intro w' hSw; have c2 := cell_of hSw.b 2; simp at c2; have bl := lt_of_block hSw.b; go_simp; try (with_reducible rfl))
            simp only [Act.put, List.setIfInBounds_toArray, List.set_cons_zero, List.set_cons_succ]
            refine takeS_on (i := 4) 64 (v := ?hv4) rfl rfl (by kernel_rfl) (by kernel_rfl) (by kernel_rfl) (fun _ _ _ h => h) (by kernel_rfl) ?hh4 (by exact hS0) ?_
            case hh4 => (intro w' hSw; go_simp; try (with_reducible rfl))
            simp only [Act.put, List.setIfInBounds_toArray, List.set_cons_zero, List.set_cons_succ]
            refine takeS_on (i := 5) 65 (v := ?hv5) rfl rfl (by kernel_rfl) (by kernel_rfl) (by kernel_rfl) (fun _ _ _ h => h) (by kernel_rfl) ?hh5 (by exact hS0) ?_
            case hh5 => (intro w' hSw; go_simp; try (with_reducible rfl))
            simp only [Act.put, List.setIfInBounds_toArray, List.set_cons_zero, List.set_cons_succ]
            refine takeS_on (i := 6) 66 (v := ?hv6) rfl rfl (by kernel_rfl) (by kernel_rfl) (by kernel_rfl) (fun _ _ _ h => h) (by kernel_rfl) ?hh6 (by exact hS0) ?_
            case hh6 => (intro w' hSw; have u1 := HU.out _ hSw.g; obtain ⟨u1, ul⟩ := u1; go_simp; try (with_reducible rfl))
            simp only [Act.put, List.setIfInBounds_toArray, List.set_cons_zero, List.set_cons_succ]
            refine takeS_on (i := 7) 67 (v := ?hv7) rfl rfl (by kernel_rfl) (by kernel_rfl) (by kernel_rfl) (fun _ _ _ h => h) (by kernel_rfl) ?hh7 (by exact hS0) ?_
            case hh7 => (intro w' hSw; go_simp; try (with_reducible rfl))
            simp only [Act.put, List.setIfInBounds_toArray, List.set_cons_zero, List.set_cons_succ]
            refine wpAnyH_ready (rs := [1, 8]) (by kernel_rfl) (by simp) (AllReadyH.cons rfl (fun K hK => ?_) (AllReadyH.cons rfl (fun K hK => ?_) AllReadyH.nil))
            · go_simp
              refine hK.out _ _ (by exact hS0) (fun _ => ?_)
              clear hK K
              refine wpAnyH_ready (rs := [8]) (by kernel_rfl) (by simp) (AllReadyH.cons rfl (fun K hK => ?_) AllReadyH.nil)
              go_simp
              have hS1 := hS0.gr (Ch.alloc (Gr.refl V0) (.cells #[.int .i64 u, .int .i64 0] 59))
              have cv1 := Cv.gr cv0 (Ch.alloc (Gr.refl V0) (.cells #[.int .i64 u, .int .i64 0] 59))
              obtain ⟨d3, _, _⟩ := cv1.cell 3
              have LS1 := hid (Ls.single (enc := eG) V0 (fresh u) 59 #[.int .i64 u, .int .i64 0] rfl)
              have OW1 := hid (OW0.out.alloc (.cells #[.int .i64 u, .int .i64 0] 59))
              generalize V0.alloc (.cells #[.int .i64 u, .int .i64 0] 59) = V1 at hS1 cv1 d3 LS1 OW1 ⊢
              simp at d3
              refine hK.out _ _ (by exact hS1) (fun _ => ?_)
              clear hK K
              refine wpAnyH_ready (rs := [9]) (by kernel_rfl) (by simp) (AllReadyH.cons rfl (fun K hK => ?_) AllReadyH.nil)
              refine step_append_ow eG_len rfl (.tmp 61) (.tmp 68) 30 59 16 (.agg #[.int .i64 0, .int .i64 0]) Try.underlying30 agd_info rfl (by omega) rfl w.heap.size (.slice ao (n2 + c) co) (inn.map older ++ (out.take c).map fresh) rfl OW1.out _ _ [(fresh u)] rfl LS1.out (eG_one _) ((n2 + c) + 1) (by rw [HLT.out]; rfl) (by omega) (by unfold maxLen; omega) hS1.g.size (inn.map older ++ (out.take (c + 1)).map fresh) (take_step HJ.out _) ?_
              intro a5 c5 w5 o5 k5 b5
              have hS2 := hS1.app OW1.out (by decide) k5
              have cv2 := cv1.app OW1.out (by decide) k5
              obtain ⟨e3, f5, l5⟩ := cv2.cell 3
              simp at e3
              have OW2 := hid o5
              clear o5 k5 b5
              refine hK.out _ _ (by exact hS2) (fun _ => ?_)
              change wpAnyH _ _ _ _ _ _ _ (Act.put _ (some 69) _) _
              simp only [Act.put, List.setIfInBounds_toArray, List.set_cons_zero, List.set_cons_succ]
              clear hK K
              refine takeS_on (i := 10) 70 (v := ?hv8) rfl rfl (by kernel_rfl) (by kernel_rfl) (by kernel_rfl) (fun _ _ _ h => h) (by kernel_rfl) ?hh8 (by exact hS2) ?_
              case hh8 => (intro w' hSw; go_simp; try (with_reducible rfl))
              simp only [Act.put, List.setIfInBounds_toArray, List.set_cons_zero, List.set_cons_succ]
              refine wpAnyH_ready (rs := [11]) (by kernel_rfl) (by simp) (AllReadyH.cons rfl (fun K hK => ?_) AllReadyH.nil)
              have hS3 := hS2.st 3 (.slice a5 ((n2 + c) + 1) c5)
              have cv3 := hid (cv2.st 3 (.slice a5 ((n2 + c) + 1) c5))
              have OW3 := hid (OW2.out.st (by decide) cv2 3 (.slice a5 ((n2 + c) + 1) c5))
              go_simp
              refine hK.out _ _ (by exact hS3) (fun _ => ?_)
              clear hK K
              refine wpAnyH_done (by kernel_rfl) ?_ _
              clear hS0 hS1 hS2
              go_wp2_with fail
              go_roundg (gk - 1)
              case measure => omega
              case rel =>
                refine ⟨j + 1, c + 1, l, _, _, by omega, ?_, hS3, cv3.out, OW3.out, ?_, ?_⟩
                · first | with_reducible rfl | simp
                · have := HCM.out; have := HCc.out; omega
                · have := HCM.out; have := HCc.out; have := HLo.out; omega
            · go_simp
              have hS1 := hS0.gr (Ch.alloc (Gr.refl V0) (.cells #[.int .i64 u, .int .i64 0] 59))
              have cv1 := Cv.gr cv0 (Ch.alloc (Gr.refl V0) (.cells #[.int .i64 u, .int .i64 0] 59))
              obtain ⟨d3, _, _⟩ := cv1.cell 3
              have LS1 := hid (Ls.single (enc := eG) V0 (fresh u) 59 #[.int .i64 u, .int .i64 0] rfl)
              have OW1 := hid (OW0.out.alloc (.cells #[.int .i64 u, .int .i64 0] 59))
              generalize V0.alloc (.cells #[.int .i64 u, .int .i64 0] 59) = V1 at hS1 cv1 d3 LS1 OW1 ⊢
              simp at d3
              refine hK.out _ _ (by exact hS1) (fun _ => ?_)
              clear hK K
              refine wpAnyH_ready (rs := [1]) (by kernel_rfl) (by simp) (AllReadyH.cons rfl (fun K hK => ?_) AllReadyH.nil)
              go_simp
              refine hK.out _ _ (by exact hS1) (fun _ => ?_)
              clear hK K
              refine wpAnyH_ready (rs := [9]) (by kernel_rfl) (by simp) (AllReadyH.cons rfl (fun K hK => ?_) AllReadyH.nil)
              refine step_append_ow eG_len rfl (.tmp 61) (.tmp 68) 30 59 16 (.agg #[.int .i64 0, .int .i64 0]) Try.underlying30 agd_info rfl (by omega) rfl w.heap.size (.slice ao (n2 + c) co) (inn.map older ++ (out.take c).map fresh) rfl OW1.out _ _ [(fresh u)] rfl LS1.out (eG_one _) ((n2 + c) + 1) (by rw [HLT.out]; rfl) (by omega) (by unfold maxLen; omega) hS1.g.size (inn.map older ++ (out.take (c + 1)).map fresh) (take_step HJ.out _) ?_
              intro a5 c5 w5 o5 k5 b5
              have hS2 := hS1.app OW1.out (by decide) k5
              have cv2 := cv1.app OW1.out (by decide) k5
              obtain ⟨e3, f5, l5⟩ := cv2.cell 3
              simp at e3
              have OW2 := hid o5
              clear o5 k5 b5
              refine hK.out _ _ (by exact hS2) (fun _ => ?_)
              change wpAnyH _ _ _ _ _ _ _ (Act.put _ (some 69) _) _
              simp only [Act.put, List.setIfInBounds_toArray, List.set_cons_zero, List.set_cons_succ]
              clear hK K
              refine takeS_on (i := 10) 70 (v := ?hv9) rfl rfl (by kernel_rfl) (by kernel_rfl) (by kernel_rfl) (fun _ _ _ h => h) (by kernel_rfl) ?hh9 (by exact hS2) ?_
              case hh9 => (intro w' hSw; go_simp; try (with_reducible rfl))
              simp only [Act.put, List.setIfInBounds_toArray, List.set_cons_zero, List.set_cons_succ]
              refine wpAnyH_ready (rs := [11]) (by kernel_rfl) (by simp) (AllReadyH.cons rfl (fun K hK => ?_) AllReadyH.nil)
              have hS3 := hS2.st 3 (.slice a5 ((n2 + c) + 1) c5)
              have cv3 := hid (cv2.st 3 (.slice a5 ((n2 + c) + 1) c5))
              have OW3 := hid (OW2.out.st (by decide) cv2 3 (.slice a5 ((n2 + c) + 1) c5))
              go_simp
              refine hK.out _ _ (by exact hS3) (fun _ => ?_)
              clear hK K
              refine wpAnyH_done (by kernel_rfl) ?_ _
              clear hS0 hS1 hS2
              go_wp2_with fail
              go_roundg (gk - 1)
              case measure => omega
              case rel =>
                refine ⟨j + 1, c + 1, l, _, _, by omega, ?_, hS3, cv3.out, OW3.out, ?_, ?_⟩
                · first | with_reducible rfl | simp
                · have := HCM.out; have := HCc.out; omega
                · have := HCM.out; have := HCc.out; have := HLo.out; omega
          · have hr' : ¬ ((n2 : Int) + (c : Int) < (cap : Int)) := by omega
            clear hcz hcv how
            by_cases hm : l < 2147483647
            · have hm' : (l : Int) < 2147483647 := by omega
              go_wp2
              go_roundg (gk - 1)
              case measure => omega
              case rel =>
                refine ⟨j + 1, c, l + 1, _, _, by omega, ?_, CZ6.out.st 4 _, CV6.out.st 4 _, OW6.out.st (by decide) CV6.out 4 _, ?_, ?_⟩
                · first | with_reducible rfl | simp
                · have := HCM.out; have := HCc.out; omega
                · have := HCM.out; have := HCc.out; have := HLo.out; omega
            · have hm' : ¬ ((l : Int) < 2147483647) := by omega
              go_wp2
              go_roundg (gk - 1)
              case measure => omega
              case rel =>
                refine ⟨j + 1, c, l, _, _, by omega, ?_, CZ6.out, CV6.out, OW6.out, ?_, ?_⟩
                · first | with_reducible rfl | simp
                · have := HCM.out; have := HCc.out; omega
                · have := HCM.out; have := HCc.out; have := HLo.out; omega
        · have hj' : ¬ ((j : Int) < (n1 : Int)) := by omega
          have ec := hid (show c = cm ∧ l = lost + min (n1 - cm) (2147483647 - lost) by have := HCM.out; have := HCc.out; have := HLo.out; omega)
          clear hcz hcv how d3 f3 l3 d4 f4
          go_wp2_with (first
            | (refine wpList_load_row rfl 32 (.tmp 3) rfl b3 rfl _ _ _ _ CV6.out Try.underlying32 rfl pst_size ?_)
            | (refine st_row rfl 32 (.tmp 2) (.tmp 78) rfl (w.heap.size + 1) #[.bool true, .int .i64 (cap : Nat), .slice none 0 0, .slice ao (n2 + c) co, .int .i64 (l : Nat)] rfl rfl _ _ CZ6.out.r pst_size rfl (by simp [Value.oneCell']) ?_; intro w8 b8 k8; have B9 := hid b8; have K9 := hid k8; clear b8 k8))
          refine bodyPost_ret (results_cell_row rfl _ _ (w.heap.size + 1) _ _ _ _ rfl B9.out Try.underlying32 rfl pst_size) rfl ?_
          rw [← ec.out.1, ← List.map_take, show ((lost : Int) + ((min (n1 - c) (2147483647 - lost) : Nat) : Int)) = (l : Int) by have h1 := ec.out.1; have h2 := ec.out.2; rw [← h1] at h2; omega]
          exact ⟨_, _, rfl, Ls.nil _ _ _, (OW6.out.ch K9.out (fun q e e1 => not_blk OW6.out (by decide) CZ6.out.r (by have e2 : q = w.heap.size + 1 := e1; rw [← e2]; exact e))).lst.mono (fun g _ e => .inr e), Ch.trans CZ6.out.g K9.out (fun q e => .inr (by have e1 : q = w.heap.size + 1 := e; omega))⟩
end Go.Proofs.Ytnpbehcfbceclaa.Lt
