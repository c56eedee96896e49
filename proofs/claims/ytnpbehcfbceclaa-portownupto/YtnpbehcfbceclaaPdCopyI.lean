/-
  What the document's Copy answers: the same state in new memory. Condition: the lists have no more than 1048576 elements.
-/
import Derived.Test.YtnpbehcfbceclaaPdCopy
namespace Go.Proofs.Ytnpbehcfbceclaa.Lt
open Go.RowKit Wd
attribute [local go_sem ↓] Go.wp_at_zero Go.wp_at_succ
set_option maxRecDepth 20000

set_option maxHeartbeats 16000000 in
theorem copyi_any {P Q : Nat → Prop} (w : World) (q : Bool) (cap lost : Int) (a1 a2 : Option Addr) (n1 n2 c1 c2 : Nat) (xs : List Int) (ys : List Ag) (h1 : Ls eI P w (.slice a1 n1 c1) xs) (h2 : Ls eG Q w (.slice a2 n2 c2) ys) (hn1 : n1 ≤ 1048576) (hn2 : n2 ≤ 1048576) :
    Calls Try.prog 16 #[.agg #[.bool q, .int .i64 cap, .slice a1 n1 c1, .slice a2 n2 c2, .int .i64 lost]] w fun e w' => ∃ v1 v2, e = .returned (.agg #[.bool q, .int .i64 cap, v1, v2, .int .i64 lost]) ∧ Ow eI 1 2 w.heap.size w' v1 xs ∧ Ow eG 2 59 w.heap.size w' v2 ys ∧ Gr w w' := by
  have HX2 := hid (show ∀ W, Gr w W → Ls eI P W (.slice a1 n1 c1) xs from fun W g => h1.gr g)
  have HX3 := hid (show ∀ W, Gr w W → Ls eG Q W (.slice a2 n2 c2) ys from fun W g => h2.gr g)
  have HL2 := hid h1.len.1
  have HL3 := hid h2.len.1
  clear h1 h2
  go_enter Try.func16, Try.ntmps16
  go_wp2_with fail
  go_loopg [4] n1 (fun k9 i wr => ∃ (j : Nat) (ao : Option Addr) (co : Nat), j + k9 = n1 ∧ i = .int .i64 (j : Int) ∧ Cz w (w.heap.size + 1 + 1) #[.bool q, .int .i64 cap, .slice a1 n1 c1, .slice a2 n2 c2, .int .i64 lost] wr ∧ Cv (w.heap.size + 1 + 1) #[.bool q, .int .i64 cap, .slice ao j co, .slice none 0 0, .int .i64 lost] wr ∧ Ow eI 1 2 w.heap.size wr (.slice ao j co) (xs.take j))
  case atStart => exact ⟨0, none, 0, by omega, rfl, Cz.start w _ _, Cv.start w _ _, by rw [List.take_zero]; exact Ow.nil _ _ _ _ _⟩
  case round =>
    obtain ⟨j, ao, co, hjk, rfl, hcz, hcv, how⟩ := hrel
    obtain ⟨V, hV⟩ : ∃ W, W = wr := ⟨_, rfl⟩
    subst hV
    obtain ⟨d2, f2, l2⟩ := hcv.cell 2
    simp at d2
    have s2 := cell_of hcz.b 2
    simp at s2
    have eb := lt_of_block hcz.b
    have CZ := hid hcz
    have CV := hid hcv
    have OW := hid how
    by_cases hj : j < n1
    · have hj' : (j : Int) < (n1 : Int) := by omega
      have hjx : xs[j]? = some (xs[j]'(by rw [← HL2.out]; exact hj)) := List.getElem?_eq_getElem _
      generalize xs[j]'(by rw [← HL2.out]; exact hj) = u at hjx
      have HJ := hid hjx
      have HLT := hid (show (xs.take j).length = j by rw [List.length_take, ← HL2.out, Nat.min_eq_left (by omega)])
      obtain ⟨g, o, cp, e, _, hgl, _, hc⟩ := (HX2.out _ hcz.g).get eI_len hjx
      injection e with e1 e2 e3
      subst e1 e3
      clear hgl hc e2
      have HU := hid (show ∀ W, Gr w W → W.cell? ⟨g, o + j, none⟩ = some (.int .i64 u) ∧ g < W.heap.size from fun W gw => by
        obtain ⟨g', o', cp', e', _, hgl', _, hc'⟩ := (HX2.out W gw).get eI_len HJ.out
        injection e' with e1' _ _
        injection e1' with e1'
        injection e1' with e4 e5
        subst e4 e5
        exact ⟨by have := hc' 0 _ rfl; rwa [Nat.add_zero, Nat.mul_one] at this, hgl'⟩)
      have hS0 : Cz w (w.heap.size + 1 + 1) #[.bool q, .int .i64 cap, .slice (some ⟨g, o, none⟩) n1 c1, .slice a2 n2 c2, .int .i64 lost] (World.drew V) := hcz.gr (Ch.drew (Gr.refl V))
      have cv0 : Cv (w.heap.size + 1 + 1) #[.bool q, .int .i64 cap, .slice ao j co, .slice none 0 0, .int .i64 lost] (World.drew V) := hcv
      have OW0 := hid (how.drew)
      have p0 : (0 : Int) ≤ (j : Int) := by omega
      have d2 : (World.drew V).cell? ⟨w.heap.size + 1 + 1, 2, none⟩ = some (.slice ao j co) := d2
      clear hcz hcv how hjx f2 l2
      go_wp2_with fail
      refine wp_region_held_drew (S := Cz w (w.heap.size + 1 + 1) #[.bool q, .int .i64 cap, .slice (some ⟨g, o, none⟩) n1 c1, .slice a2 n2 c2, .int .i64 lost]) (by kernel_rfl) (by exact hS0) (fun _ => ?_)
      generalize World.drew V = V0 at hS0 cv0 OW0 d2 ⊢
      refine takeS_on (i := 0) 20 (v := ?hv9) rfl rfl (by kernel_rfl) (by kernel_rfl) (by kernel_rfl) (fun _ _ _ h => h) (by kernel_rfl) ?hh9 (by exact hS0) ?_
      case hh9 => (intro w' hSw; go_simp; try (with_reducible rfl))
      simp only [Act.put, List.setIfInBounds_toArray, List.set_cons_zero, List.set_cons_succ]
      refine takeS_on (i := 2) 22 (v := ?hv10) rfl rfl (by kernel_rfl) (by kernel_rfl) (by kernel_rfl) (fun _ _ _ h => h) (by kernel_rfl) ?hh10 (by exact hS0) ?_
      case hh10 => (intro w' hSw; go_simp; try (with_reducible rfl))
      simp only [Act.put, List.setIfInBounds_toArray, List.set_cons_zero, List.set_cons_succ]
      refine takeS_on (i := 3) 23 (v := ?hv11) rfl rfl (by kernel_rfl) (by kernel_rfl) (by kernel_rfl) (fun _ _ _ h => h) (by kernel_rfl) ?hh11 (by exact hS0) ?_
      case hh11 => (intro w' hSw; have c2 := cell_of hSw.b 2; simp at c2; have bl := lt_of_block hSw.b; go_simp; try (with_reducible rfl))
      simp only [Act.put, List.setIfInBounds_toArray, List.set_cons_zero, List.set_cons_succ]
      refine takeS_on (i := 4) 24 (v := ?hv12) rfl rfl (by kernel_rfl) (by kernel_rfl) (by kernel_rfl) (fun _ _ _ h => h) (by kernel_rfl) ?hh12 (by exact hS0) ?_
      case hh12 => (intro w' hSw; go_simp; try (with_reducible rfl))
      simp only [Act.put, List.setIfInBounds_toArray, List.set_cons_zero, List.set_cons_succ]
      refine takeS_on (i := 5) 25 (v := ?hv13) rfl rfl (by kernel_rfl) (by kernel_rfl) (by kernel_rfl) (fun _ _ _ h => h) (by kernel_rfl) ?hh13 (by exact hS0) ?_
      case hh13 => (intro w' hSw; go_simp; try (with_reducible rfl))
      simp only [Act.put, List.setIfInBounds_toArray, List.set_cons_zero, List.set_cons_succ]
      refine takeS_on (i := 6) 26 (v := ?hv14) rfl rfl (by kernel_rfl) (by kernel_rfl) (by kernel_rfl) (fun _ _ _ h => h) (by kernel_rfl) ?hh14 (by exact hS0) ?_
      case hh14 => (intro w' hSw; have u1 := HU.out _ hSw.g; obtain ⟨u1, ul⟩ := u1; skip; go_simp; try (with_reducible rfl))
      simp only [Act.put, List.setIfInBounds_toArray, List.set_cons_zero, List.set_cons_succ]
      refine wpAnyH_ready (rs := [1, 7]) (by kernel_rfl) (by simp) (AllReadyH.cons rfl (fun K hK => ?_) (AllReadyH.cons rfl (fun K hK => ?_) AllReadyH.nil))
      · go_simp
        refine hK.out _ _ (by exact hS0) (fun _ => ?_)
        clear hK K
        refine wpAnyH_ready (rs := [7]) (by kernel_rfl) (by simp) (AllReadyH.cons rfl (fun K hK => ?_) AllReadyH.nil)
        go_simp
        have hS1 := hS0.gr (Ch.alloc (Gr.refl V0) (.cells #[.int .i64 u] 2))
        have cv1 := Cv.gr cv0 (Ch.alloc (Gr.refl V0) (.cells #[.int .i64 u] 2))
        obtain ⟨d2, _, _⟩ := cv1.cell 2
        have LS1 := hid (Ls.single (enc := eI) V0 u 2 #[.int .i64 u] rfl)
        have OW1 := hid (OW0.out.alloc (.cells #[.int .i64 u] 2))
        generalize V0.alloc (.cells #[.int .i64 u] 2) = V1 at hS1 cv1 d2 LS1 OW1 ⊢
        simp at d2
        refine hK.out _ _ (by exact hS1) (fun _ => ?_)
        clear hK K
        refine wpAnyH_ready (rs := [8]) (by kernel_rfl) (by simp) (AllReadyH.cons rfl (fun K hK => ?_) AllReadyH.nil)
        refine step_append_ow eI_len rfl (.tmp 21) (.tmp 27) 29 2 8 (.int .i64 0) Try.underlying29 i64_info rfl (by omega) rfl w.heap.size (.slice ao j co) (xs.take j) rfl OW1.out _ _ [u] rfl LS1.out (eI_one _) (j + 1) (by rw [HLT.out]; rfl) (by omega) (by unfold maxLen; omega) hS1.g.size (xs.take (j + 1)) (take_one HJ.out) ?_
        intro a5 c5 w5 o5 k5 b5
        have hS2 := hS1.app OW1.out (by decide) k5
        have cv2 := cv1.app OW1.out (by decide) k5
        obtain ⟨e2, f5, l5⟩ := cv2.cell 2
        simp at e2
        have OW2 := hid o5
        clear o5 k5 b5
        refine hK.out _ _ (by exact hS2) (fun _ => ?_)
        change wpAnyH _ _ _ _ _ _ _ (Act.put _ (some 28) _) _
        simp only [Act.put, List.setIfInBounds_toArray, List.set_cons_zero, List.set_cons_succ]
        clear hK K
        refine takeS_on (i := 9) 29 (v := ?hv15) rfl rfl (by kernel_rfl) (by kernel_rfl) (by kernel_rfl) (fun _ _ _ h => h) (by kernel_rfl) ?hh15 (by exact hS2) ?_
        case hh15 => (intro w' hSw; go_simp; try (with_reducible rfl))
        simp only [Act.put, List.setIfInBounds_toArray, List.set_cons_zero, List.set_cons_succ]
        refine wpAnyH_ready (rs := [10]) (by kernel_rfl) (by simp) (AllReadyH.cons rfl (fun K hK => ?_) AllReadyH.nil)
        have hS3 := hS2.st 2 (.slice a5 (j + 1) c5)
        have cv3 := hid (cv2.st 2 (.slice a5 (j + 1) c5))
        have OW3 := hid (OW2.out.st (by decide) cv2 2 (.slice a5 (j + 1) c5))
        go_simp
        refine hK.out _ _ (by exact hS3) (fun _ => ?_)
        clear hK K
        refine wpAnyH_done (by kernel_rfl) ?_ _
        clear hS0 hS1 hS2
        go_wp2_with fail
        go_roundg (gk - 1)
        case measure => omega
        case rel =>
          refine ⟨j + 1, _, _, by omega, ?_, hS3, cv3.out, OW3.out⟩
          first | with_reducible rfl | simp
      · go_simp
        have hS1 := hS0.gr (Ch.alloc (Gr.refl V0) (.cells #[.int .i64 u] 2))
        have cv1 := Cv.gr cv0 (Ch.alloc (Gr.refl V0) (.cells #[.int .i64 u] 2))
        obtain ⟨d2, _, _⟩ := cv1.cell 2
        have LS1 := hid (Ls.single (enc := eI) V0 u 2 #[.int .i64 u] rfl)
        have OW1 := hid (OW0.out.alloc (.cells #[.int .i64 u] 2))
        generalize V0.alloc (.cells #[.int .i64 u] 2) = V1 at hS1 cv1 d2 LS1 OW1 ⊢
        simp at d2
        refine hK.out _ _ (by exact hS1) (fun _ => ?_)
        clear hK K
        refine wpAnyH_ready (rs := [1]) (by kernel_rfl) (by simp) (AllReadyH.cons rfl (fun K hK => ?_) AllReadyH.nil)
        go_simp
        refine hK.out _ _ (by exact hS1) (fun _ => ?_)
        clear hK K
        refine wpAnyH_ready (rs := [8]) (by kernel_rfl) (by simp) (AllReadyH.cons rfl (fun K hK => ?_) AllReadyH.nil)
        refine step_append_ow eI_len rfl (.tmp 21) (.tmp 27) 29 2 8 (.int .i64 0) Try.underlying29 i64_info rfl (by omega) rfl w.heap.size (.slice ao j co) (xs.take j) rfl OW1.out _ _ [u] rfl LS1.out (eI_one _) (j + 1) (by rw [HLT.out]; rfl) (by omega) (by unfold maxLen; omega) hS1.g.size (xs.take (j + 1)) (take_one HJ.out) ?_
        intro a5 c5 w5 o5 k5 b5
        have hS2 := hS1.app OW1.out (by decide) k5
        have cv2 := cv1.app OW1.out (by decide) k5
        obtain ⟨e2, f5, l5⟩ := cv2.cell 2
        simp at e2
        have OW2 := hid o5
        clear o5 k5 b5
        refine hK.out _ _ (by exact hS2) (fun _ => ?_)
        change wpAnyH _ _ _ _ _ _ _ (Act.put _ (some 28) _) _
        simp only [Act.put, List.setIfInBounds_toArray, List.set_cons_zero, List.set_cons_succ]
        clear hK K
        refine takeS_on (i := 9) 29 (v := ?hv16) rfl rfl (by kernel_rfl) (by kernel_rfl) (by kernel_rfl) (fun _ _ _ h => h) (by kernel_rfl) ?hh16 (by exact hS2) ?_
        case hh16 => (intro w' hSw; go_simp; try (with_reducible rfl))
        simp only [Act.put, List.setIfInBounds_toArray, List.set_cons_zero, List.set_cons_succ]
        refine wpAnyH_ready (rs := [10]) (by kernel_rfl) (by simp) (AllReadyH.cons rfl (fun K hK => ?_) AllReadyH.nil)
        have hS3 := hS2.st 2 (.slice a5 (j + 1) c5)
        have cv3 := hid (cv2.st 2 (.slice a5 (j + 1) c5))
        have OW3 := hid (OW2.out.st (by decide) cv2 2 (.slice a5 (j + 1) c5))
        go_simp
        refine hK.out _ _ (by exact hS3) (fun _ => ?_)
        clear hK K
        refine wpAnyH_done (by kernel_rfl) ?_ _
        clear hS0 hS1 hS2
        go_wp2_with fail
        go_roundg (gk - 1)
        case measure => omega
        case rel =>
          refine ⟨j + 1, _, _, by omega, ?_, hS3, cv3.out, OW3.out⟩
          first | with_reducible rfl | simp
    · have hj' : ¬ ((j : Int) < (n1 : Int)) := by omega
      obtain rfl : n1 = j := by omega
      clear hcz hcv how f2 l2
      have hl1 : xs.take n1 = xs := by rw [HL2.out, List.take_length]
      have o9 := OW.out
      rw [hl1] at o9
      have OO1 := hid o9
      have CZ1 := CZ
      have CV1 := CV
      obtain ⟨a3, ha3⟩ : ∃ a3, a3 = ao := ⟨_, rfl⟩
      obtain ⟨c3, hc3⟩ : ∃ c3, c3 = co := ⟨_, rfl⟩
      rw [← ha3, ← hc3] at OO1 CV1
      clear o9 hl1 CZ CV OW ha3 hc3 d2
      go_wp2_with fail
      go_loopg [5] n2 (fun k9 i wr => ∃ (j : Nat) (ao : Option Addr) (co : Nat), j + k9 = n2 ∧ i = .int .i64 (j : Int) ∧ Cz w (w.heap.size + 1 + 1) #[.bool q, .int .i64 cap, .slice a1 n1 c1, .slice a2 n2 c2, .int .i64 lost] wr ∧ Cv (w.heap.size + 1 + 1) #[.bool q, .int .i64 cap, .slice a3 n1 c3, .slice ao j co, .int .i64 lost] wr ∧ Ow eG 2 59 w.heap.size wr (.slice ao j co) (ys.take j) ∧ Ow eI 1 2 w.heap.size wr (.slice a3 n1 c3) xs)
      case atStart => exact ⟨0, none, 0, by omega, rfl, CZ1.out, CV1.out, by rw [List.take_zero]; exact Ow.nil _ _ _ _ _, OO1.out⟩
      case round =>
        obtain ⟨j, ao, co, hjk, rfl, hcz, hcv, how, hoo⟩ := hrel
        obtain ⟨V, hV⟩ : ∃ W, W = wr := ⟨_, rfl⟩
        subst hV
        obtain ⟨d3, f3, l3⟩ := hcv.cell 3
        simp at d3
        have s3 := cell_of hcz.b 3
        simp at s3
        have eb := lt_of_block hcz.b
        have CZ := hid hcz
        have CV := hid hcv
        have OW := hid how
        have OO := hid hoo
        by_cases hj : j < n2
        · have hj' : (j : Int) < (n2 : Int) := by omega
          have hjx : ys[j]? = some (ys[j]'(by rw [← HL3.out]; exact hj)) := List.getElem?_eq_getElem _
          generalize ys[j]'(by rw [← HL3.out]; exact hj) = u at hjx
          have HJ := hid hjx
          have HLT := hid (show (ys.take j).length = j by rw [List.length_take, ← HL3.out, Nat.min_eq_left (by omega)])
          obtain ⟨g, o, cp, e, _, hgl, _, hc⟩ := (HX3.out _ hcz.g).get eG_len hjx
          injection e with e1 e2 e3
          subst e1 e3
          clear hgl hc e2
          have HU := hid (show ∀ W, Gr w W → (W.cell? ⟨g, o + j * 2, none⟩ = some (.int .i64 u.v) ∧ W.cell? ⟨g, o + j * 2 + 1, none⟩ = some (.int .i64 u.a)) ∧ g < W.heap.size from fun W gw => by
            obtain ⟨g', o', cp', e', _, hgl', _, hc'⟩ := (HX3.out W gw).get eG_len HJ.out
            injection e' with e1' _ _
            injection e1' with e1'
            injection e1' with e4 e5
            subst e4 e5
            exact ⟨⟨by have := hc' 0 _ rfl; rwa [Nat.add_zero] at this, hc' 1 _ rfl⟩, hgl'⟩)
          have hS0 : Cz w (w.heap.size + 1 + 1) #[.bool q, .int .i64 cap, .slice a1 n1 c1, .slice (some ⟨g, o, none⟩) n2 c2, .int .i64 lost] (World.drew V) := hcz.gr (Ch.drew (Gr.refl V))
          have cv0 : Cv (w.heap.size + 1 + 1) #[.bool q, .int .i64 cap, .slice a3 n1 c3, .slice ao j co, .int .i64 lost] (World.drew V) := hcv
          have OW0 := hid (how.drew)
          have OX0 := hid (hoo.drew)
          have p0 : (0 : Int) ≤ (j : Int) := by omega
          have d3 : (World.drew V).cell? ⟨w.heap.size + 1 + 1, 3, none⟩ = some (.slice ao j co) := d3
          clear hcz hcv how hoo hjx f3 l3
          go_wp2_with fail
          refine wp_region_held_drew (S := Cz w (w.heap.size + 1 + 1) #[.bool q, .int .i64 cap, .slice a1 n1 c1, .slice (some ⟨g, o, none⟩) n2 c2, .int .i64 lost]) (by kernel_rfl) (by exact hS0) (fun _ => ?_)
          generalize World.drew V = V0 at hS0 cv0 OW0 d3 OX0 ⊢
          refine takeS_on (i := 0) 37 (v := ?hv1) rfl rfl (by kernel_rfl) (by kernel_rfl) (by kernel_rfl) (fun _ _ _ h => h) (by kernel_rfl) ?hh1 (by exact hS0) ?_
          case hh1 => (intro w' hSw; go_simp; try (with_reducible rfl))
          simp only [Act.put, List.setIfInBounds_toArray, List.set_cons_zero, List.set_cons_succ]
          refine takeS_on (i := 2) 39 (v := ?hv2) rfl rfl (by kernel_rfl) (by kernel_rfl) (by kernel_rfl) (fun _ _ _ h => h) (by kernel_rfl) ?hh2 (by exact hS0) ?_
          case hh2 => (intro w' hSw; go_simp; try (with_reducible rfl))
          simp only [Act.put, List.setIfInBounds_toArray, List.set_cons_zero, List.set_cons_succ]
          refine takeS_on (i := 3) 40 (v := ?hv3) rfl rfl (by kernel_rfl) (by kernel_rfl) (by kernel_rfl) (fun _ _ _ h => h) (by kernel_rfl) ?hh3 (by exact hS0) ?_
          case hh3 => (intro w' hSw; have c3 := cell_of hSw.b 3; simp at c3; have bl := lt_of_block hSw.b; go_simp; try (with_reducible rfl))
          simp only [Act.put, List.setIfInBounds_toArray, List.set_cons_zero, List.set_cons_succ]
          refine takeS_on (i := 4) 41 (v := ?hv4) rfl rfl (by kernel_rfl) (by kernel_rfl) (by kernel_rfl) (fun _ _ _ h => h) (by kernel_rfl) ?hh4 (by exact hS0) ?_
          case hh4 => (intro w' hSw; go_simp; try (with_reducible rfl))
          simp only [Act.put, List.setIfInBounds_toArray, List.set_cons_zero, List.set_cons_succ]
          refine takeS_on (i := 5) 42 (v := ?hv5) rfl rfl (by kernel_rfl) (by kernel_rfl) (by kernel_rfl) (fun _ _ _ h => h) (by kernel_rfl) ?hh5 (by exact hS0) ?_
          case hh5 => (intro w' hSw; go_simp; try (with_reducible rfl))
          simp only [Act.put, List.setIfInBounds_toArray, List.set_cons_zero, List.set_cons_succ]
          refine takeS_on (i := 6) 43 (v := ?hv6) rfl rfl (by kernel_rfl) (by kernel_rfl) (by kernel_rfl) (fun _ _ _ h => h) (by kernel_rfl) ?hh6 (by exact hS0) ?_
          case hh6 => (intro w' hSw; have u1 := HU.out _ hSw.g; obtain ⟨u1, ul⟩ := u1; obtain ⟨u1, u2⟩ := u1; go_simp; try (with_reducible rfl))
          simp only [Act.put, List.setIfInBounds_toArray, List.set_cons_zero, List.set_cons_succ]
          refine wpAnyH_ready (rs := [1, 7]) (by kernel_rfl) (by simp) (AllReadyH.cons rfl (fun K hK => ?_) (AllReadyH.cons rfl (fun K hK => ?_) AllReadyH.nil))
          · go_simp
            refine hK.out _ _ (by exact hS0) (fun _ => ?_)
            clear hK K
            refine wpAnyH_ready (rs := [7]) (by kernel_rfl) (by simp) (AllReadyH.cons rfl (fun K hK => ?_) AllReadyH.nil)
            go_simp
            have hS1 := hS0.gr (Ch.alloc (Gr.refl V0) (.cells #[.int .i64 u.v, .int .i64 u.a] 59))
            have cv1 := Cv.gr cv0 (Ch.alloc (Gr.refl V0) (.cells #[.int .i64 u.v, .int .i64 u.a] 59))
            obtain ⟨d3, _, _⟩ := cv1.cell 3
            have LS1 := hid (Ls.single (enc := eG) V0 u 59 #[.int .i64 u.v, .int .i64 u.a] rfl)
            have OX1 := hid (OX0.out.alloc (.cells #[.int .i64 u.v, .int .i64 u.a] 59)); have OW1 := hid (OW0.out.alloc (.cells #[.int .i64 u.v, .int .i64 u.a] 59))
            generalize V0.alloc (.cells #[.int .i64 u.v, .int .i64 u.a] 59) = V1 at hS1 cv1 d3 LS1 OW1 OX1 ⊢
            simp at d3
            refine hK.out _ _ (by exact hS1) (fun _ => ?_)
            clear hK K
            refine wpAnyH_ready (rs := [8]) (by kernel_rfl) (by simp) (AllReadyH.cons rfl (fun K hK => ?_) AllReadyH.nil)
            refine step_append_ow eG_len rfl (.tmp 38) (.tmp 44) 30 59 16 (.agg #[.int .i64 0, .int .i64 0]) Try.underlying30 agd_info rfl (by omega) rfl w.heap.size (.slice ao j co) (ys.take j) rfl OW1.out _ _ [u] rfl LS1.out (eG_one _) (j + 1) (by rw [HLT.out]; rfl) (by omega) (by unfold maxLen; omega) hS1.g.size (ys.take (j + 1)) (take_one HJ.out) ?_
            intro a5 c5 w5 o5 k5 b5
            have hS2 := hS1.app OW1.out (by decide) k5
            have cv2 := cv1.app OW1.out (by decide) k5
            obtain ⟨e3, f5, l5⟩ := cv2.cell 3
            simp at e3
            have OW2 := hid o5
            have OX2 := hid (OX1.out.ch k5 (fun q e e1 => ox_ne OX1.out OW1.out e e1))
            clear o5 k5 b5
            refine hK.out _ _ (by exact hS2) (fun _ => ?_)
            change wpAnyH _ _ _ _ _ _ _ (Act.put _ (some 45) _) _
            simp only [Act.put, List.setIfInBounds_toArray, List.set_cons_zero, List.set_cons_succ]
            clear hK K
            refine takeS_on (i := 9) 46 (v := ?hv7) rfl rfl (by kernel_rfl) (by kernel_rfl) (by kernel_rfl) (fun _ _ _ h => h) (by kernel_rfl) ?hh7 (by exact hS2) ?_
            case hh7 => (intro w' hSw; go_simp; try (with_reducible rfl))
            simp only [Act.put, List.setIfInBounds_toArray, List.set_cons_zero, List.set_cons_succ]
            refine wpAnyH_ready (rs := [10]) (by kernel_rfl) (by simp) (AllReadyH.cons rfl (fun K hK => ?_) AllReadyH.nil)
            have hS3 := hS2.st 3 (.slice a5 (j + 1) c5)
            have cv3 := hid (cv2.st 3 (.slice a5 (j + 1) c5))
            have OW3 := hid (OW2.out.st (by decide) cv2 3 (.slice a5 (j + 1) c5))
            have OX3 := hid (OX2.out.st (by decide) cv2 3 (.slice a5 (j + 1) c5))
            go_simp
            refine hK.out _ _ (by exact hS3) (fun _ => ?_)
            clear hK K
            refine wpAnyH_done (by kernel_rfl) ?_ _
            clear hS0 hS1 hS2
            go_wp2_with fail
            go_roundg (gk - 1)
            case measure => omega
            case rel =>
              refine ⟨j + 1, _, _, by omega, ?_, hS3, cv3.out, OW3.out, OX3.out⟩
              first | with_reducible rfl | simp
          · go_simp
            have hS1 := hS0.gr (Ch.alloc (Gr.refl V0) (.cells #[.int .i64 u.v, .int .i64 u.a] 59))
            have cv1 := Cv.gr cv0 (Ch.alloc (Gr.refl V0) (.cells #[.int .i64 u.v, .int .i64 u.a] 59))
            obtain ⟨d3, _, _⟩ := cv1.cell 3
            have LS1 := hid (Ls.single (enc := eG) V0 u 59 #[.int .i64 u.v, .int .i64 u.a] rfl)
            have OX1 := hid (OX0.out.alloc (.cells #[.int .i64 u.v, .int .i64 u.a] 59)); have OW1 := hid (OW0.out.alloc (.cells #[.int .i64 u.v, .int .i64 u.a] 59))
            generalize V0.alloc (.cells #[.int .i64 u.v, .int .i64 u.a] 59) = V1 at hS1 cv1 d3 LS1 OW1 OX1 ⊢
            simp at d3
            refine hK.out _ _ (by exact hS1) (fun _ => ?_)
            clear hK K
            refine wpAnyH_ready (rs := [1]) (by kernel_rfl) (by simp) (AllReadyH.cons rfl (fun K hK => ?_) AllReadyH.nil)
            go_simp
            refine hK.out _ _ (by exact hS1) (fun _ => ?_)
            clear hK K
            refine wpAnyH_ready (rs := [8]) (by kernel_rfl) (by simp) (AllReadyH.cons rfl (fun K hK => ?_) AllReadyH.nil)
            refine step_append_ow eG_len rfl (.tmp 38) (.tmp 44) 30 59 16 (.agg #[.int .i64 0, .int .i64 0]) Try.underlying30 agd_info rfl (by omega) rfl w.heap.size (.slice ao j co) (ys.take j) rfl OW1.out _ _ [u] rfl LS1.out (eG_one _) (j + 1) (by rw [HLT.out]; rfl) (by omega) (by unfold maxLen; omega) hS1.g.size (ys.take (j + 1)) (take_one HJ.out) ?_
            intro a5 c5 w5 o5 k5 b5
            have hS2 := hS1.app OW1.out (by decide) k5
            have cv2 := cv1.app OW1.out (by decide) k5
            obtain ⟨e3, f5, l5⟩ := cv2.cell 3
            simp at e3
            have OW2 := hid o5
            have OX2 := hid (OX1.out.ch k5 (fun q e e1 => ox_ne OX1.out OW1.out e e1))
            clear o5 k5 b5
            refine hK.out _ _ (by exact hS2) (fun _ => ?_)
            change wpAnyH _ _ _ _ _ _ _ (Act.put _ (some 45) _) _
            simp only [Act.put, List.setIfInBounds_toArray, List.set_cons_zero, List.set_cons_succ]
            clear hK K
            refine takeS_on (i := 9) 46 (v := ?hv8) rfl rfl (by kernel_rfl) (by kernel_rfl) (by kernel_rfl) (fun _ _ _ h => h) (by kernel_rfl) ?hh8 (by exact hS2) ?_
            case hh8 => (intro w' hSw; go_simp; try (with_reducible rfl))
            simp only [Act.put, List.setIfInBounds_toArray, List.set_cons_zero, List.set_cons_succ]
            refine wpAnyH_ready (rs := [10]) (by kernel_rfl) (by simp) (AllReadyH.cons rfl (fun K hK => ?_) AllReadyH.nil)
            have hS3 := hS2.st 3 (.slice a5 (j + 1) c5)
            have cv3 := hid (cv2.st 3 (.slice a5 (j + 1) c5))
            have OW3 := hid (OW2.out.st (by decide) cv2 3 (.slice a5 (j + 1) c5))
            have OX3 := hid (OX2.out.st (by decide) cv2 3 (.slice a5 (j + 1) c5))
            go_simp
            refine hK.out _ _ (by exact hS3) (fun _ => ?_)
            clear hK K
            refine wpAnyH_done (by kernel_rfl) ?_ _
            clear hS0 hS1 hS2
            go_wp2_with fail
            go_roundg (gk - 1)
            case measure => omega
            case rel =>
              refine ⟨j + 1, _, _, by omega, ?_, hS3, cv3.out, OW3.out, OX3.out⟩
              first | with_reducible rfl | simp
        · have hj' : ¬ ((j : Int) < (n2 : Int)) := by omega
          obtain rfl : n2 = j := by omega
          clear hcz hcv how hoo f3 l3
          clear d3
          have hl2 : ys.take n2 = ys := by rw [HL3.out, List.take_length]
          go_wp2_with (first
            | (refine wpList_load_row rfl 32 (.tmp 3) rfl (w.heap.size + 1 + 1) rfl _ _ _ _ CV.out Try.underlying32 rfl pst_size ?_)
            | (refine st_row rfl 32 (.tmp 2) (.tmp 47) rfl (w.heap.size + 1) _ rfl rfl _ _ CZ.out.r pst_size rfl (by simp [Value.oneCell']) ?_; intro w8 b8 k8; have B9 := hid b8; have K9 := hid k8; clear b8 k8))
          refine bodyPost_ret (results_cell_row rfl _ _ (w.heap.size + 1) _ _ _ _ rfl B9.out Try.underlying32 rfl pst_size) rfl ?_
          have O2 := OW.out
          rw [hl2] at O2
          have O1 := OO.out
          refine ⟨_, _, rfl, O1.ch K9.out (fun q e e1 => not_blk O1 (by decide) CZ.out.r (by have e2 : q = w.heap.size + 1 := e1; rw [← e2]; exact e)), O2.ch K9.out (fun q e e1 => not_blk O2 (by decide) CZ.out.r (by have e2 : q = w.heap.size + 1 := e1; rw [← e2]; exact e)), Ch.trans CZ.out.g K9.out (fun q e => .inr (by have e1 : q = w.heap.size + 1 := e; omega))⟩
end Go.Proofs.Ytnpbehcfbceclaa.Lt
