/-
  What the document's Get answers of the queueing kind. Condition: the lists have no more than 1024 elements.
-/
import Derived.Test.YtnpbehcfbceclaaPdGet
namespace Go.Proofs.Ytnpbehcfbceclaa.Lt
open Go.RowKit Wd
attribute [local go_sem ↓] Go.wp_at_zero Go.wp_at_succ
set_option maxRecDepth 20000

set_option maxHeartbeats 16000000 in
theorem rgetq_any {P Q : Nat → Prop} (w : World) (cap lost : Nat) (a1 : Option Addr) (n1 n2 c1 c2 g o : Nat) (out : List Int) (uv ua : Int) (us : List Ag) (h1 : Ls eI P w (.slice a1 n1 c1) out) (h2 : Ls eG Q w (.slice (some ⟨g, o, none⟩) n2 c2) (⟨uv, ua⟩ :: us)) (hm1 : n1 ≤ 1024) (hm2 : n2 ≤ 1024) :
    Calls Try.prog 26 #[.agg #[.bool true, .int .i64 (cap : Nat), .slice a1 n1 c1, .slice (some ⟨g, o, none⟩) n2 c2, .int .i64 (lost : Nat)]] w fun e w' => ∃ u1 u2, e = .returned (.tuple #[.agg #[.bool true, .int .i64 (cap : Nat), u1, u2, .int .i64 (lost : Nat)], .int .i64 uv, .int .i64 ua]) ∧ RdR P Q w ⟨true, cap, out, us, lost⟩ u1 u2 w' := by
  have HX3 := hid (show ∀ W, Gr w W → Ls eG Q W (.slice (some ⟨g, o, none⟩) n2 c2) (⟨uv, ua⟩ :: us) from fun W k => h2.gr k)
  have HL1 := hid h1.len.1
  have HL3 := hid (show n2 = us.length + 1 by have := h2.len.1; simpa using this)
  obtain ⟨g', o', cp, e, _, hgl, _, hc⟩ := h2.get eG_len (i := 0) (a := ⟨uv, ua⟩) rfl
  injection e with e1 e2 e3
  injection e1 with e1
  injection e1 with e4 e5
  subst e4 e5
  have g0 := hc 0 _ rfl
  have g1 := hc 1 _ rfl
  rw [Nat.zero_mul, Nat.add_zero] at g0 g1
  have hn : ¬ ((n2 : Int) = 0) := by have := HL3.out; omega
  have hn2 : (0 : Int) < (n2 : Int) := by have := HL3.out; omega
  clear hc e2 e3
  obtain ⟨W3, hw3⟩ : ∃ W, W = ((w.alloc (.cells #[.bool true, .int .i64 (cap : Nat), .slice a1 n1 c1, .slice (some ⟨g, o, none⟩) n2 c2, .int .i64 (lost : Nat)] 32)).alloc (.cells #[.bool false, .int .i64 0, .slice none 0 0, .slice none 0 0, .int .i64 0] 32)).alloc (.cells #[.int .i64 uv, .int .i64 ua] 59) := ⟨_, rfl⟩
  have XB := hid (show W3.heap[w.heap.size]? = some (.cells #[.bool true, .int .i64 (cap : Nat), .slice a1 n1 c1, .slice (some ⟨g, o, none⟩) n2 c2, .int .i64 (lost : Nat)] 32 (0, 0)) by rw [hw3]; exact al_blk (al_blk (al_at _ rfl) _) _)
  have XR0 := hid (show W3.heap[w.heap.size + 1]? = some (.cells #[.bool false, .int .i64 0, .slice none 0 0, .slice none 0 0, .int .i64 0] 32 (0, 0)) by rw [hw3]; exact al_blk (al_at _ (by simp)) _)
  have XE := hid (show W3.heap[w.heap.size + 1 + 1]? = some (.cells #[.int .i64 uv, .int .i64 ua] 59 (0, 0)) by rw [hw3]; exact al_at _ (by simp))
  have G3 := hid (show Gr w W3 by rw [hw3]; exact Ch.alloc (Ch.alloc (Ch.alloc (Gr.refl w) _) _) _)
  have HS3 := hid (show W3.heap.size = w.heap.size + 3 by rw [hw3]; simp)
  have HC := hid (show Calls Try.prog 16 #[.agg #[.bool true, .int .i64 (cap : Nat), .slice a1 n1 c1, .slice (some ⟨g, o, none⟩) n2 c2, .int .i64 (lost : Nat)]] (((w.alloc (.cells #[.bool true, .int .i64 (cap : Nat), .slice a1 n1 c1, .slice (some ⟨g, o, none⟩) n2 c2, .int .i64 (lost : Nat)] 32)).alloc (.cells #[.bool false, .int .i64 0, .slice none 0 0, .slice none 0 0, .int .i64 0] 32)).alloc (.cells #[.int .i64 uv, .int .i64 ua] 59)) (fun e w' => ∃ v1 v2, e = .returned (.agg #[.bool true, .int .i64 (cap : Nat), v1, v2, .int .i64 (lost : Nat)]) ∧ Ow eI 1 2 W3.heap.size w' v1 out ∧ Ow eG 2 59 W3.heap.size w' v2 (⟨uv, ua⟩ :: us) ∧ Gr W3 w') from by
    rw [← hw3]
    exact copy_any W3 true cap lost a1 (some ⟨g, o, none⟩) n1 n2 c1 c2 out (⟨uv, ua⟩ :: us) (h1.gr G3.out) (h2.gr G3.out) (by omega) (by omega))
  clear h1 h2 hw3
  go_enter Try.func26, Try.ntmps26
  go_wp2_with (go_at_call 16; refine HC.out.mono ?_; rintro e w4 ⟨v1, v2, rfl, o1, o2, k4⟩; obtain ⟨b1, d1, rfl⟩ := o1.form; obtain ⟨b2, d2, rfl⟩ := o2.form; rw [← HL1.out] at o1 ⊢; have O1 := hid (o1.lower G3.out.size); have K4 := hid k4; clear o1 o2 k4)
  obtain ⟨b3, hb3⟩ : ∃ b, b = w4.heap.size := ⟨_, rfl⟩
  have HW4 := hid (show w.heap.size + 3 ≤ w4.heap.size by have := K4.out.size; have := HS3.out; omega)
  have HB3 := hid (show w.heap.size + 3 ≤ b3 by have := HW4.out; omega)
  have CZ0 := hid (show Cz w b3 #[.bool true, .int .i64 (cap : Nat), .slice a1 n1 c1, .slice (some ⟨g, o, none⟩) n2 c2, .int .i64 (lost : Nat)] (w4.alloc (.cells #[.bool true, .int .i64 (cap : Nat), .slice b1 n1 d1, .slice none 0 0, .int .i64 (lost : Nat)] 32)) from ⟨Ch.alloc (Gr.trans G3.out K4.out) _, al_blk (gr_blk XB.out K4.out) _, al_blk (gr_blk XR0.out K4.out) _, by have := HB3.out; omega, by rw [hb3]; simp⟩)
  have CV0 := hid (show Cv b3 #[.bool true, .int .i64 (cap : Nat), .slice b1 n1 d1, .slice none 0 0, .int .i64 (lost : Nat)] (w4.alloc (.cells #[.bool true, .int .i64 (cap : Nat), .slice b1 n1 d1, .slice none 0 0, .int .i64 (lost : Nat)] 32)) from by rw [hb3]; exact al_at _ rfl)
  have OX9 := hid (O1.out.alloc (.cells #[.bool true, .int .i64 (cap : Nat), .slice b1 n1 d1, .slice none 0 0, .int .i64 (lost : Nat)] 32))
  have E9 := hid (show (w4.alloc (.cells #[.bool true, .int .i64 (cap : Nat), .slice b1 n1 d1, .slice none 0 0, .int .i64 (lost : Nat)] 32)).heap[w.heap.size + 1 + 1]? = some (.cells #[.int .i64 uv, .int .i64 ua] 59 (0, 0)) from al_blk (gr_blk XE.out K4.out) _)
  have HV9 := hid (show w4.heap.size ≤ (w4.alloc (.cells #[.bool true, .int .i64 (cap : Nat), .slice b1 n1 d1, .slice none 0 0, .int .i64 (lost : Nat)] 32)).heap.size by simp)
  rw [← hb3]
  generalize w4.alloc (.cells #[.bool true, .int .i64 (cap : Nat), .slice b1 n1 d1, .slice none 0 0, .int .i64 (lost : Nat)] 32) = W5 at CZ0 CV0 OX9 E9 HV9 ⊢
  have HBW := hid hb3
  clear hb3
  go_loopg [7] (n2 - 1) (fun k9 i wr => ∃ (j m : Nat) (ao : Option Addr) (co : Nat), m + 1 = j ∧ j + k9 = n2 ∧ i = .int .i64 (j : Int) ∧ Cz w b3 #[.bool true, .int .i64 (cap : Nat), .slice a1 n1 c1, .slice (some ⟨g, o, none⟩) n2 c2, .int .i64 (lost : Nat)] wr ∧ Cv b3 #[.bool true, .int .i64 (cap : Nat), .slice b1 n1 d1, .slice ao m co, .int .i64 (lost : Nat)] wr ∧ Ow eG 2 59 w.heap.size wr (.slice ao m co) (us.take m) ∧ Ow eI 1 2 w.heap.size wr (.slice b1 n1 d1) out ∧ wr.heap[w.heap.size + 1 + 1]? = some (.cells #[.int .i64 uv, .int .i64 ua] 59 (0, 0)) ∧ ∀ q, Blk (.slice ao m co) q → w4.heap.size ≤ q)
  case atStart => exact ⟨1, 0, none, 0, rfl, by have := HL3.out; omega, rfl, CZ0.out, CV0.out, Ow.nil _ _ _ _ _, OX9.out, E9.out, nofun⟩
  case round =>
    obtain ⟨j, m, ao, co, hj1, hjk, rfl, hcz, hcv, how, hoo, hee, hbk⟩ := hrel
    obtain ⟨V, hV⟩ : ∃ W, W = wr := ⟨_, rfl⟩
    subst hV
    obtain ⟨d3, f3, l3⟩ := hcv.cell 3
    simp at d3
    have s3 := cell_of hcz.b 3
    simp at s3
    have eb := lt_of_block hcz.b
    have CZ := hid hcz
    have CV := hid hcv
    have OW := hid how
    have OO := hid hoo
    have HBK := hid hbk
    have HEE := hid hee
    have HM := hid hj1
    clear hj1
    by_cases hj : j < n2
    · have hj' : (j : Int) < (n2 : Int) := by omega
      have hjx : us[m]? = some (us[m]'(by have := HL3.out; have := HM.out; omega)) := List.getElem?_eq_getElem _
      generalize us[m]'(by have := HL3.out; have := HM.out; omega) = u at hjx
      have HJ := hid hjx
      have HLT := hid (show (us.take m).length = m by rw [List.length_take, Nat.min_eq_left (by have := HL3.out; have := HM.out; omega)])
      have HJ2 := hid (show ((⟨uv, ua⟩ : Ag) :: us)[j]? = some u by rw [← HM.out, List.getElem?_cons_succ]; exact hjx)
      have HU := hid (show ∀ W, Gr w W → (W.cell? ⟨g, o + j * 2, none⟩ = some (.int .i64 u.v) ∧ W.cell? ⟨g, o + j * 2 + 1, none⟩ = some (.int .i64 u.a)) ∧ g < W.heap.size from fun W gw => by
        obtain ⟨g', o', cp', e', _, hgl', _, hc'⟩ := (HX3.out W gw).get eG_len HJ2.out
        injection e' with e1' _ _
        injection e1' with e1'
        injection e1' with e4 e5
        subst e4 e5
        exact ⟨⟨by have := hc' 0 _ rfl; rwa [Nat.add_zero] at this, hc' 1 _ rfl⟩, hgl'⟩)
      have hS0 : Cz w b3 #[.bool true, .int .i64 (cap : Nat), .slice a1 n1 c1, .slice (some ⟨g, o, none⟩) n2 c2, .int .i64 (lost : Nat)] (World.drew V) := hcz.gr (Ch.drew (Gr.refl V))
      have cv0 : Cv b3 #[.bool true, .int .i64 (cap : Nat), .slice b1 n1 d1, .slice ao m co, .int .i64 (lost : Nat)] (World.drew V) := hcv
      have OW0 := hid (how.drew)
      have OX0 := hid (hoo.drew)
      have E0 := hid (show (World.drew V).heap[w.heap.size + 1 + 1]? = some (.cells #[.int .i64 uv, .int .i64 ua] 59 (0, 0)) from hee)
      have p0 : (0 : Int) ≤ (j : Int) := by omega
      have hmm : m ≤ 1024 := by have := HM.out; omega
      have d3 : (World.drew V).cell? ⟨b3, 3, none⟩ = some (.slice ao m co) := d3
      clear hcz hcv how hoo hjx f3 l3 hee hbk g0 g1
      go_wp2_with fail
      refine wp_region_held_drew (S := Cz w b3 #[.bool true, .int .i64 (cap : Nat), .slice a1 n1 c1, .slice (some ⟨g, o, none⟩) n2 c2, .int .i64 (lost : Nat)]) (by kernel_rfl) (by exact hS0) (fun _ => ?_)
      generalize World.drew V = V0 at hS0 cv0 OW0 d3 OX0 E0 ⊢
      refine takeS_on (i := 0) 35 (v := ?hv8) rfl rfl (by kernel_rfl) (by kernel_rfl) (by kernel_rfl) (fun _ _ _ h => h) (by kernel_rfl) ?hh8 (by exact hS0) ?_
      case hh8 => (intro w' hSw; go_simp; try (with_reducible rfl))
      simp only [Act.put, List.setIfInBounds_toArray, List.set_cons_zero, List.set_cons_succ]
      refine takeS_on (i := 2) 37 (v := ?hv9) rfl rfl (by kernel_rfl) (by kernel_rfl) (by kernel_rfl) (fun _ _ _ h => h) (by kernel_rfl) ?hh9 (by exact hS0) ?_
      case hh9 => (intro w' hSw; go_simp; try (with_reducible rfl))
      simp only [Act.put, List.setIfInBounds_toArray, List.set_cons_zero, List.set_cons_succ]
      refine takeS_on (i := 3) 38 (v := ?hv10) rfl rfl (by kernel_rfl) (by kernel_rfl) (by kernel_rfl) (fun _ _ _ h => h) (by kernel_rfl) ?hh10 (by exact hS0) ?_
      case hh10 => (intro w' hSw; have c3 := cell_of hSw.b 3; simp at c3; have bl := lt_of_block hSw.b; go_simp; try (with_reducible rfl))
      simp only [Act.put, List.setIfInBounds_toArray, List.set_cons_zero, List.set_cons_succ]
      refine takeS_on (i := 4) 39 (v := ?hv11) rfl rfl (by kernel_rfl) (by kernel_rfl) (by kernel_rfl) (fun _ _ _ h => h) (by kernel_rfl) ?hh11 (by exact hS0) ?_
      case hh11 => (intro w' hSw; go_simp; try (with_reducible rfl))
      simp only [Act.put, List.setIfInBounds_toArray, List.set_cons_zero, List.set_cons_succ]
      refine takeS_on (i := 5) 40 (v := ?hv12) rfl rfl (by kernel_rfl) (by kernel_rfl) (by kernel_rfl) (fun _ _ _ h => h) (by kernel_rfl) ?hh12 (by exact hS0) ?_
      case hh12 => (intro w' hSw; go_simp; try (with_reducible rfl))
      simp only [Act.put, List.setIfInBounds_toArray, List.set_cons_zero, List.set_cons_succ]
      refine takeS_on (i := 6) 41 (v := ?hv13) rfl rfl (by kernel_rfl) (by kernel_rfl) (by kernel_rfl) (fun _ _ _ h => h) (by kernel_rfl) ?hh13 (by exact hS0) ?_
      case hh13 => (intro w' hSw; have u1 := HU.out _ hSw.g; obtain ⟨u1, ul⟩ := u1; obtain ⟨u1, u2⟩ := u1; go_simp; try (with_reducible rfl))
      simp only [Act.put, List.setIfInBounds_toArray, List.set_cons_zero, List.set_cons_succ]
      refine wpAnyH_ready (rs := [1, 7]) (by kernel_rfl) (by simp) (AllReadyH.cons rfl (fun K hK => ?_) (AllReadyH.cons rfl (fun K hK => ?_) AllReadyH.nil))
      · go_simp
        refine hK.out _ _ (by exact hS0) (fun _ => ?_)
        clear hK K
        refine wpAnyH_ready (rs := [7]) (by kernel_rfl) (by simp) (AllReadyH.cons rfl (fun K hK => ?_) AllReadyH.nil)
        go_simp
        have hS1 := hS0.gr (Ch.alloc (Gr.refl V0) (.cells #[.int .i64 u.v, .int .i64 u.a] 59))
        have cv1 := Cv.gr cv0 (Ch.alloc (Gr.refl V0) (.cells #[.int .i64 u.v, .int .i64 u.a] 59))
        obtain ⟨d3, _, _⟩ := cv1.cell 3
        have LS1 := hid (Ls.single (enc := eG) V0 u 59 #[.int .i64 u.v, .int .i64 u.a] rfl)
        have OX1 := hid (OX0.out.alloc (.cells #[.int .i64 u.v, .int .i64 u.a] 59)); have E1 := hid (al_blk E0.out (.cells #[.int .i64 u.v, .int .i64 u.a] 59)); have hS1w := (Ch.alloc (Gr.refl V0) (.cells #[.int .i64 u.v, .int .i64 u.a] 59)).size; have OW1 := hid (OW0.out.alloc (.cells #[.int .i64 u.v, .int .i64 u.a] 59))
        generalize V0.alloc (.cells #[.int .i64 u.v, .int .i64 u.a] 59) = V1 at hS1 cv1 d3 LS1 OW1 OX1 E1 hS1w ⊢
        simp at d3
        refine hK.out _ _ (by exact hS1) (fun _ => ?_)
        clear hK K
        refine wpAnyH_ready (rs := [8]) (by kernel_rfl) (by simp) (AllReadyH.cons rfl (fun K hK => ?_) AllReadyH.nil)
        refine step_append_ow eG_len rfl (.tmp 36) (.tmp 42) 30 59 16 (.agg #[.int .i64 0, .int .i64 0]) Try.underlying30 agd_info rfl (by omega) rfl w.heap.size (.slice ao m co) (us.take m) rfl OW1.out _ _ [u] rfl LS1.out (eG_one _) (m + 1) (by rw [HLT.out]; rfl) (by omega) (by unfold maxLen; omega) hS1.g.size (us.take (m + 1)) (take_one HJ.out) ?_
        intro a5 c5 w5 o5 k5 b5
        have hS2 := hS1.app OW1.out (by decide) k5
        have cv2 := cv1.app OW1.out (by decide) k5
        obtain ⟨e3, f5, l5⟩ := cv2.cell 3
        simp at e3
        have OW2 := hid o5
        have OX2 := hid (OX1.out.ch k5 (fun q e e1 => ox_ne OX1.out OW1.out e e1))
        have E2 := hid (ch_blk E1.out k5 (fun e => by have := HBK.out _ e; have := HW4.out; omega))
        have HB2 := hid (show ∀ q, Blk (.slice a5 (m + 1) c5) q → w4.heap.size ≤ q from fun q e => (b5 q e).elim (HBK.out q) (fun e => by have := hS0.l; have := HBW.out; have := hS1w; omega))
        clear o5 k5 b5
        refine hK.out _ _ (by exact hS2) (fun _ => ?_)
        change wpAnyH _ _ _ _ _ _ _ (Act.put _ (some 43) _) _
        simp only [Act.put, List.setIfInBounds_toArray, List.set_cons_zero, List.set_cons_succ]
        clear hK K
        refine takeS_on (i := 9) 44 (v := ?hv14) rfl rfl (by kernel_rfl) (by kernel_rfl) (by kernel_rfl) (fun _ _ _ h => h) (by kernel_rfl) ?hh14 (by exact hS2) ?_
        case hh14 => (intro w' hSw; go_simp; try (with_reducible rfl))
        simp only [Act.put, List.setIfInBounds_toArray, List.set_cons_zero, List.set_cons_succ]
        refine wpAnyH_ready (rs := [10]) (by kernel_rfl) (by simp) (AllReadyH.cons rfl (fun K hK => ?_) AllReadyH.nil)
        have hS3 := hS2.st 3 (.slice a5 (m + 1) c5)
        have cv3 := hid (cv2.st 3 (.slice a5 (m + 1) c5))
        have OW3 := hid (OW2.out.st (by decide) cv2 3 (.slice a5 (m + 1) c5))
        have OX3 := hid (OX2.out.st (by decide) cv2 3 (.slice a5 (m + 1) c5))
        have E3 := hid (ch_blk E2.out ((Ch.refl (Only b3) _).own 3 (.slice a5 (m + 1) c5)) (fun e => by have e1 : w.heap.size + 1 + 1 = b3 := e; have := HB3.out; omega))
        go_simp
        refine hK.out _ _ (by exact hS3) (fun _ => ?_)
        clear hK K
        refine wpAnyH_done (by kernel_rfl) ?_ _
        clear hS0 hS1 hS2 hS1w
        go_wp2_with fail
        go_roundg (gk - 1)
        case measure => omega
        case rel =>
          refine ⟨j + 1, m + 1, _, _, by have := HM.out; omega, by omega, ?_, hS3, cv3.out, OW3.out, OX3.out, E3.out, HB2.out⟩
          first | with_reducible rfl | simp
      · go_simp
        have hS1 := hS0.gr (Ch.alloc (Gr.refl V0) (.cells #[.int .i64 u.v, .int .i64 u.a] 59))
        have cv1 := Cv.gr cv0 (Ch.alloc (Gr.refl V0) (.cells #[.int .i64 u.v, .int .i64 u.a] 59))
        obtain ⟨d3, _, _⟩ := cv1.cell 3
        have LS1 := hid (Ls.single (enc := eG) V0 u 59 #[.int .i64 u.v, .int .i64 u.a] rfl)
        have OX1 := hid (OX0.out.alloc (.cells #[.int .i64 u.v, .int .i64 u.a] 59)); have E1 := hid (al_blk E0.out (.cells #[.int .i64 u.v, .int .i64 u.a] 59)); have hS1w := (Ch.alloc (Gr.refl V0) (.cells #[.int .i64 u.v, .int .i64 u.a] 59)).size; have OW1 := hid (OW0.out.alloc (.cells #[.int .i64 u.v, .int .i64 u.a] 59))
        generalize V0.alloc (.cells #[.int .i64 u.v, .int .i64 u.a] 59) = V1 at hS1 cv1 d3 LS1 OW1 OX1 E1 hS1w ⊢
        simp at d3
        refine hK.out _ _ (by exact hS1) (fun _ => ?_)
        clear hK K
        refine wpAnyH_ready (rs := [1]) (by kernel_rfl) (by simp) (AllReadyH.cons rfl (fun K hK => ?_) AllReadyH.nil)
        go_simp
        refine hK.out _ _ (by exact hS1) (fun _ => ?_)
        clear hK K
        refine wpAnyH_ready (rs := [8]) (by kernel_rfl) (by simp) (AllReadyH.cons rfl (fun K hK => ?_) AllReadyH.nil)
        refine step_append_ow eG_len rfl (.tmp 36) (.tmp 42) 30 59 16 (.agg #[.int .i64 0, .int .i64 0]) Try.underlying30 agd_info rfl (by omega) rfl w.heap.size (.slice ao m co) (us.take m) rfl OW1.out _ _ [u] rfl LS1.out (eG_one _) (m + 1) (by rw [HLT.out]; rfl) (by omega) (by unfold maxLen; omega) hS1.g.size (us.take (m + 1)) (take_one HJ.out) ?_
        intro a5 c5 w5 o5 k5 b5
        have hS2 := hS1.app OW1.out (by decide) k5
        have cv2 := cv1.app OW1.out (by decide) k5
        obtain ⟨e3, f5, l5⟩ := cv2.cell 3
        simp at e3
        have OW2 := hid o5
        have OX2 := hid (OX1.out.ch k5 (fun q e e1 => ox_ne OX1.out OW1.out e e1))
        have E2 := hid (ch_blk E1.out k5 (fun e => by have := HBK.out _ e; have := HW4.out; omega))
        have HB2 := hid (show ∀ q, Blk (.slice a5 (m + 1) c5) q → w4.heap.size ≤ q from fun q e => (b5 q e).elim (HBK.out q) (fun e => by have := hS0.l; have := HBW.out; have := hS1w; omega))
        clear o5 k5 b5
        refine hK.out _ _ (by exact hS2) (fun _ => ?_)
        change wpAnyH _ _ _ _ _ _ _ (Act.put _ (some 43) _) _
        simp only [Act.put, List.setIfInBounds_toArray, List.set_cons_zero, List.set_cons_succ]
        clear hK K
        refine takeS_on (i := 9) 44 (v := ?hv15) rfl rfl (by kernel_rfl) (by kernel_rfl) (by kernel_rfl) (fun _ _ _ h => h) (by kernel_rfl) ?hh15 (by exact hS2) ?_
        case hh15 => (intro w' hSw; go_simp; try (with_reducible rfl))
        simp only [Act.put, List.setIfInBounds_toArray, List.set_cons_zero, List.set_cons_succ]
        refine wpAnyH_ready (rs := [10]) (by kernel_rfl) (by simp) (AllReadyH.cons rfl (fun K hK => ?_) AllReadyH.nil)
        have hS3 := hS2.st 3 (.slice a5 (m + 1) c5)
        have cv3 := hid (cv2.st 3 (.slice a5 (m + 1) c5))
        have OW3 := hid (OW2.out.st (by decide) cv2 3 (.slice a5 (m + 1) c5))
        have OX3 := hid (OX2.out.st (by decide) cv2 3 (.slice a5 (m + 1) c5))
        have E3 := hid (ch_blk E2.out ((Ch.refl (Only b3) _).own 3 (.slice a5 (m + 1) c5)) (fun e => by have e1 : w.heap.size + 1 + 1 = b3 := e; have := HB3.out; omega))
        go_simp
        refine hK.out _ _ (by exact hS3) (fun _ => ?_)
        clear hK K
        refine wpAnyH_done (by kernel_rfl) ?_ _
        clear hS0 hS1 hS2 hS1w
        go_wp2_with fail
        go_roundg (gk - 1)
        case measure => omega
        case rel =>
          refine ⟨j + 1, m + 1, _, _, by have := HM.out; omega, by omega, ?_, hS3, cv3.out, OW3.out, OX3.out, E3.out, HB2.out⟩
          first | with_reducible rfl | simp
    · have hj' : ¬ ((j : Int) < (n2 : Int)) := by omega
      obtain rfl : n2 = j := by omega
      have hS5 : Cg b3 (w.heap.size + 1 + 1) #[.bool true, .int .i64 (cap : Nat), .slice b1 n1 d1, .slice ao m co, .int .i64 (lost : Nat)] uv ua (World.drew V) := ⟨hcv, hee⟩
      have XR := hid (show (World.drew V).heap[w.heap.size + 1]? = some (.cells #[.bool false, .int .i64 0, .slice none 0 0, .slice none 0 0, .int .i64 0] 32 (0, 0)) from hcz.r)
      have GG := hid (show Gr w (World.drew V) from Gr.trans hcz.g (Ch.drew (Gr.refl V)))
      have hl2 : us.take m = us := by rw [show m = us.length by have := HL3.out; have := HM.out; omega, List.take_length]
      rw [hl2] at how
      replace OO := hid (hoo.drew)
      have OL := hid (how.drew)
      clear hcz hcv how hoo f3 l3 hee hbk hl2 OW CZ CV HEE
      go_wp2_with fail
      refine wp_region_held_drew (S := Cg b3 (w.heap.size + 1 + 1) #[.bool true, .int .i64 (cap : Nat), .slice b1 n1 d1, .slice ao m co, .int .i64 (lost : Nat)] uv ua) (by kernel_rfl) (by exact hS5) (fun _ => ?_)
      generalize World.drew V = V9 at hS5 XR GG OO OL ⊢
      refine takeS_on (i := 0) 45 (v := (.agg #[.bool true, .int .i64 (cap : Nat), .slice b1 n1 d1, .slice ao m co, .int .i64 (lost : Nat)])) rfl rfl (by kernel_rfl) (by kernel_rfl) (by kernel_rfl) (fun _ _ _ h => h) (by kernel_rfl) ?hh16 (by exact hS5) ?_
      case hh16 => (intro w' hSw; have x0 := cell_of hSw.b 0; have x1 := cell_of hSw.b 1; have x2 := cell_of hSw.b 2; have x3 := cell_of hSw.b 3; have x4 := cell_of hSw.b 4; simp at x0 x1 x2 x3 x4; have xl := lt_of_block hSw.b; go_simp; try (with_reducible rfl))
      simp only [Act.put, List.setIfInBounds_toArray, List.set_cons_zero, List.set_cons_succ]
      refine takeS_on (i := 1) 46 (v := ?hv17) rfl rfl (by kernel_rfl) (by kernel_rfl) (by kernel_rfl) (fun _ _ _ h => h) (by kernel_rfl) ?hh17 (by exact hS5) ?_
      case hh17 => (intro w' hSw; go_simp; try (with_reducible rfl))
      simp only [Act.put, List.setIfInBounds_toArray, List.set_cons_zero, List.set_cons_succ]
      refine takeS_on (i := 2) 47 (v := ?hv18) rfl rfl (by kernel_rfl) (by kernel_rfl) (by kernel_rfl) (fun _ _ _ h => h) (by kernel_rfl) ?hh18 (by exact hS5) ?_
      case hh18 => (intro w' hSw; have y0 := cell_of hSw.e 0; have y1 := cell_of hSw.e 1; simp at y0 y1; have yl := lt_of_block hSw.e; go_simp; try (with_reducible rfl))
      simp only [Act.put, List.setIfInBounds_toArray, List.set_cons_zero, List.set_cons_succ]
      refine takeS_on (i := 3) 48 (v := ?hv19) rfl rfl (by kernel_rfl) (by kernel_rfl) (by kernel_rfl) (fun _ _ _ h => h) (by kernel_rfl) ?hh19 (by exact hS5) ?_
      case hh19 => (intro w' hSw; go_simp; try (with_reducible rfl))
      simp only [Act.put, List.setIfInBounds_toArray, List.set_cons_zero, List.set_cons_succ]
      refine takeS_on (i := 4) 49 (v := ?hv20) rfl rfl (by kernel_rfl) (by kernel_rfl) (by kernel_rfl) (fun _ _ _ h => h) (by kernel_rfl) ?hh20 (by exact hS5) ?_
      case hh20 => (intro w' hSw; have y0 := cell_of hSw.e 0; have y1 := cell_of hSw.e 1; simp at y0 y1; have yl := lt_of_block hSw.e; go_simp; try (with_reducible rfl))
      simp only [Act.put, List.setIfInBounds_toArray, List.set_cons_zero, List.set_cons_succ]
      refine wpAnyH_ready (rs := [5]) (by kernel_rfl) (by simp) (AllReadyH.cons rfl (fun K hK => ?_) AllReadyH.nil)
      refine step_st_row rfl 32 (.tmp 2) (.tmp 45) rfl (w.heap.size + 1) #[.bool true, .int .i64 (cap : Nat), .slice b1 n1 d1, .slice ao m co, .int .i64 (lost : Nat)] rfl rfl _ _ XR.out pst_size rfl (by simp [Value.oneCell']) ?_
      intro w8 b8 k8
      have hS7 := hS5.st k8 (by have := HB3.out; omega) (by omega)
      have B9 := hid b8
      have K9 := hid k8
      clear b8 k8
      refine hK.out _ _ (by exact hS7) (fun _ => ?_)
      change wpAnyH _ _ _ _ _ _ _ (Act.put _ none _) _
      simp only [Act.put]
      clear hK K
      refine takeS_on (i := 6) 3 (v := ?hv21) rfl rfl (by kernel_rfl) (by kernel_rfl) (by kernel_rfl) (fun _ _ _ h => h) (by kernel_rfl) ?hh21 (by exact hS7) ?_
      case hh21 => (intro w' hSw; go_simp; try (with_reducible rfl))
      simp only [Act.put, List.setIfInBounds_toArray, List.set_cons_zero, List.set_cons_succ]
      refine takeS_on (i := 7) 4 (v := ?hv22) rfl rfl (by kernel_rfl) (by kernel_rfl) (by kernel_rfl) (fun _ _ _ h => h) (by kernel_rfl) ?hh22 (by exact hS7) ?_
      case hh22 => (intro w' hSw; go_simp; try (with_reducible rfl))
      simp only [Act.put, List.setIfInBounds_toArray, List.set_cons_zero, List.set_cons_succ]
      refine wpAnyH_done (by kernel_rfl) ?_ _
      go_wp2_with fail
      refine bodyPost_ret (results_cell_tmp3 rfl _ _ (w.heap.size + 1) _ rfl (run_loadVar_row _ _ _ _ _ _ _ B9.out Try.underlying32 rfl pst_size)) rfl ?_
      have GZ : Gr w w8 := Ch.trans GG.out K9.out (fun q e => .inr (by have e1 : q = w.heap.size + 1 := e; omega))
      exact ⟨_, _, rfl, (OO.out.ch K9.out (fun q e e1 => not_blk OO.out (by decide) XR.out (by have e2 : q = w.heap.size + 1 := e1; rw [← e2]; exact e))).lst.mono (fun g _ e => .inr e), (OL.out.ch K9.out (fun q e e1 => not_blk OL.out (by decide) XR.out (by have e2 : q = w.heap.size + 1 := e1; rw [← e2]; exact e))).lst.mono (fun g _ e => .inr e), GZ⟩
end Go.Proofs.Ytnpbehcfbceclaa.Lt
