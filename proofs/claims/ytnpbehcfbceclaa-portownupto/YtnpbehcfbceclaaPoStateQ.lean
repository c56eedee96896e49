/-
  What the two kinds of ports tell by state. Condition: the part that does is there, and may be.
-/
import Derived.Test.YtnpbehcfbceclaaPoStateH
namespace Go.Proofs.Ytnpbehcfbceclaa.Lt
open Go.RowKit Wd
attribute [local go_sem ↓] Go.wp_at_zero Go.wp_at_succ
set_option maxRecDepth 20000

set_option maxHeartbeats 8000000 in
theorem qst_any (w : World) (k : Nat) (vo vi : Value) (x : Pt) (h : Kq w k vo vi x) (hq : x.q = true) (hok : x.ok) : Calls Try.prog 55 #[.pointer (some ⟨k, 0, none⟩)] w (StR w x) := by
  obtain ⟨q, cap, out, inn, lost⟩ := x
  dsimp only at hq
  subst hq
  have hlo : out.length ≤ 1024 := Nat.le_trans hok.o hok.c2
  have hli : inn.length ≤ 1024 := Nat.le_trans hok.i hok.c2
  skip
  obtain ⟨ao, co, rfl⟩ := h.ho.form
  obtain ⟨ai, ci, rfl⟩ := h.hi.form
  have hS0 := Hy.start h
  dsimp only at hS0 hlo hli ⊢
  clear h hok
  have HLO := hid hlo
  have HLI := hid hli
  generalize hn : out.length = n at *
  generalize hm : inn.length = m at *
  rw [← hn] at HLO
  rw [← hm] at HLI
  clear hn hm hlo hli
  obtain ⟨c0, c1, _, l0⟩ := hS0.q.c1
  have BR := hid hS0.r
  clear c0 c1 l0 BR
  go_enter Try.func55, Try.ntmps55
  go_wp2_with fail
  refine wp_region_held_drew (S := Hy w k (.slice ao n co) (.slice ai m ci) ⟨true, cap, out, inn, lost⟩) (by kernel_rfl) (by exact hS0) (fun _ => ?_)
  generalize World.drew (w.alloc (.cells #[.bool false, .int .i64 0, .slice none 0 0, .slice none 0 0, .int .i64 0] 32)) = V0 at hS0 ⊢
  refine takeS_on (i := 0) 4 (v := ?hv11) rfl rfl (by kernel_rfl) (by kernel_rfl) (by kernel_rfl) (fun _ _ _ h => h) (by kernel_rfl) ?hh11 (by exact hS0) ?_
  case hh11 => (intro w' hSw; go_simp; try (with_reducible rfl))
  simp only [Act.put, List.setIfInBounds_toArray, List.set_cons_zero, List.set_cons_succ]
  refine takeS_on (i := 1) 5 (v := ?hv12) rfl rfl (by kernel_rfl) (by kernel_rfl) (by kernel_rfl) (fun _ _ _ h => h) (by kernel_rfl) ?hh12 (by exact hS0) ?_
  case hh12 => (intro w' hSw; go_simp; try (with_reducible rfl))
  simp only [Act.put, List.setIfInBounds_toArray, List.set_cons_zero, List.set_cons_succ]
  refine takeS_on (i := 2) 6 (v := ?hv13) rfl rfl (by kernel_rfl) (by kernel_rfl) (by kernel_rfl) (fun _ _ _ h => h) (by kernel_rfl) ?hh13 (by exact hS0) ?_
  case hh13 => (intro w' hSw; go_simp; try (with_reducible rfl))
  simp only [Act.put, List.setIfInBounds_toArray, List.set_cons_zero, List.set_cons_succ]
  refine takeS_on (i := 3) 7 (v := ?hv14) rfl rfl (by kernel_rfl) (by kernel_rfl) (by kernel_rfl) (fun _ _ _ h => h) (by kernel_rfl) ?hh14 (by exact hS0) ?_
  case hh14 => (intro w' hSw; go_simp; try (with_reducible rfl))
  simp only [Act.put, List.setIfInBounds_toArray, List.set_cons_zero, List.set_cons_succ]
  refine takeS_on (i := 4) 8 (v := ?hv15) rfl rfl (by kernel_rfl) (by kernel_rfl) (by kernel_rfl) (fun _ _ _ h => h) (by kernel_rfl) ?hh15 (by exact hS0) ?_
  case hh15 => (intro w' hSw; have c0 := hSw.q.c1.1; go_simp; try (with_reducible rfl))
  simp only [Act.put, List.setIfInBounds_toArray, List.set_cons_zero, List.set_cons_succ]
  refine takeS_on (i := 5) 9 (v := ?hv16) rfl rfl (by kernel_rfl) (by kernel_rfl) (by kernel_rfl) (fun _ _ _ h => h) (by kernel_rfl) ?hh16 (by exact hS0) ?_
  case hh16 => (intro w' hSw; go_simp; try (with_reducible rfl))
  simp only [Act.put, List.setIfInBounds_toArray, List.set_cons_zero, List.set_cons_succ]
  refine takeS_on (i := 6) 10 (v := ?hv17) rfl rfl (by kernel_rfl) (by kernel_rfl) (by kernel_rfl) (fun _ _ _ h => h) (by kernel_rfl) ?hh17 (by exact hS0) ?_
  case hh17 => (intro w' hSw; go_simp; try (with_reducible rfl))
  simp only [Act.put, List.setIfInBounds_toArray, List.set_cons_zero, List.set_cons_succ]
  refine takeS_on (i := 7) 11 (v := ?hv18) rfl rfl (by kernel_rfl) (by kernel_rfl) (by kernel_rfl) (fun _ _ _ h => h) (by kernel_rfl) ?hh18 (by exact hS0) ?_
  case hh18 => (intro w' hSw; go_simp; try (with_reducible rfl))
  simp only [Act.put, List.setIfInBounds_toArray, List.set_cons_zero, List.set_cons_succ]
  refine takeS_on (i := 8) 12 (v := ?hv19) rfl rfl (by kernel_rfl) (by kernel_rfl) (by kernel_rfl) (fun _ _ _ h => h) (by kernel_rfl) ?hh19 (by exact hS0) ?_
  case hh19 => (intro w' hSw; go_simp; try (with_reducible rfl))
  simp only [Act.put, List.setIfInBounds_toArray, List.set_cons_zero, List.set_cons_succ]
  refine takeS_on (i := 9) 13 (v := ?hv20) rfl rfl (by kernel_rfl) (by kernel_rfl) (by kernel_rfl) (fun _ _ _ h => h) (by kernel_rfl) ?hh20 (by exact hS0) ?_
  case hh20 => (intro w' hSw; have c1 := hSw.q.c1.2.1; go_simp; try (with_reducible rfl))
  simp only [Act.put, List.setIfInBounds_toArray, List.set_cons_zero, List.set_cons_succ]
  refine wpAnyH_ready (rs := [10, 11]) (by kernel_rfl) (by simp) (AllReadyH.cons rfl (fun K hK => ?_) (AllReadyH.cons rfl (fun K hK => ?_) AllReadyH.nil))
  · go_simp
    refine (kept_any V0 (.slice ao n co) (.slice ai m ci) out inn hS0.q.ho.lst hS0.q.hi.lst (by have := HLO.out; omega) (by have := HLI.out; omega)).mono ?_
    rintro e w1 ⟨v1, v2, rfl, o1, o2, g1⟩
    obtain ⟨x1, y1, rfl⟩ := o1.form
    obtain ⟨x2, y2, rfl⟩ := o2.form
    have O1 := hid (o1.lower hS0.g.size)
    have O2 := hid (o2.lower hS0.g.size)
    have hS1 := hS0.gr g1
    clear o1 o2 g1
    refine hK.out _ _ (by exact hS1) (fun _ => ?_)
    clear hK K
    refine wpAnyH_ready (rs := [11]) (by kernel_rfl) (by simp) (AllReadyH.cons rfl (fun K hK => ?_) AllReadyH.nil)
    go_simp
    have hS2 := hS1.gr (Ch.alloc (Gr.refl w1) (.cells #[.slice none 0 0, .slice none 0 0] 66))
    have B3 := hid (al_at (w := w1) (.cells #[.slice none 0 0, .slice none 0 0] 66) rfl)
    have O3 := hid (O1.out.alloc (.cells #[.slice none 0 0, .slice none 0 0] 66))
    have O4 := hid (O2.out.alloc (.cells #[.slice none 0 0, .slice none 0 0] 66))
    have L3 := hid hS1.g.size
    generalize w1.alloc (.cells #[.slice none 0 0, .slice none 0 0] 66) = w2 at hS2 B3 O3 O4 ⊢
    refine hK.out _ _ (by exact hS2) (fun _ => ?_)
    clear hK K
    refine wpAnyH_ready (rs := [12]) (by kernel_rfl) (by simp) (AllReadyH.cons rfl (fun K hK => ?_) AllReadyH.nil)
    refine step_st_row rfl 66 (.tmp 3) (.tmp 14) rfl (w1.heap.size) _ rfl rfl _ _ B3.out kpt_size rfl (own_one2 O3.out O4.out) ?_
    intro w9 b9 k9
    have X := hid (Hz.mk5 hS2 B3.out b9 k9 L3.out O3.out O4.out)
    clear b9 k9
    have hS9 := X.out.p
    generalize w1.heap.size = b3 at X ⊢
    refine hK.out _ _ (by exact hS9) (fun _ => ?_)
    clear hK K
    refine wpAnyH_done (by kernel_rfl) ?_ _
    change Exit.then _ _ Exit.normal (Act.put _ none _) _
    simp only [Act.put]
    have hS5 := Hw.start X.out
    replace X := hid X.out.drew
    have XR := hid X.out.p.r
    clear hS0
    go_wp2_with fail
    refine wp_region_held_drew (S := Hw k cap lost b3 (.slice x1 out.length y1) (.slice x2 inn.length y2)) (by kernel_rfl) (by exact hS5) (fun _ => ?_)
    generalize World.drew w9 = V9 at hS5 X XR ⊢
    refine takeS_on (i := 0) 15 (v := ?hv21) rfl rfl (by kernel_rfl) (by kernel_rfl) (by kernel_rfl) (fun _ _ _ h => h) (by kernel_rfl) ?hh21 (by exact hS5) ?_
    case hh21 => (intro w' hSw; go_simp; try (with_reducible rfl))
    simp only [Act.put, List.setIfInBounds_toArray, List.set_cons_zero, List.set_cons_succ]
    refine takeS_on (i := 1) 16 (v := ?hv22) rfl rfl (by kernel_rfl) (by kernel_rfl) (by kernel_rfl) (fun _ _ _ h => h) (by kernel_rfl) ?hh22 (by exact hS5) ?_
    case hh22 => (intro w' hSw; go_simp; try (with_reducible rfl))
    simp only [Act.put, List.setIfInBounds_toArray, List.set_cons_zero, List.set_cons_succ]
    refine takeS_on (i := 2) 17 (v := ?hv23) rfl rfl (by kernel_rfl) (by kernel_rfl) (by kernel_rfl) (fun _ _ _ h => h) (by kernel_rfl) ?hh23 (by exact hS5) ?_
    case hh23 => (intro w' hSw; go_simp; try (with_reducible rfl))
    simp only [Act.put, List.setIfInBounds_toArray, List.set_cons_zero, List.set_cons_succ]
    refine takeS_on (i := 3) 18 (v := ?hv24) rfl rfl (by kernel_rfl) (by kernel_rfl) (by kernel_rfl) (fun _ _ _ h => h) (by kernel_rfl) ?hh24 (by exact hS5) ?_
    case hh24 => (intro w' hSw; have c2 := hSw.c2; go_simp; try (with_reducible rfl))
    simp only [Act.put, List.setIfInBounds_toArray, List.set_cons_zero, List.set_cons_succ]
    refine takeS_on (i := 4) 19 (v := ?hv25) rfl rfl (by kernel_rfl) (by kernel_rfl) (by kernel_rfl) (fun _ _ _ h => h) (by kernel_rfl) ?hh25 (by exact hS5) ?_
    case hh25 => (intro w' hSw; go_simp; try (with_reducible rfl))
    simp only [Act.put, List.setIfInBounds_toArray, List.set_cons_zero, List.set_cons_succ]
    refine takeS_on (i := 5) 20 (v := ?hv26) rfl rfl (by kernel_rfl) (by kernel_rfl) (by kernel_rfl) (fun _ _ _ h => h) (by kernel_rfl) ?hh26 (by exact hS5) ?_
    case hh26 => (intro w' hSw; have d0 := hSw.d0; go_simp; try (with_reducible rfl))
    simp only [Act.put, List.setIfInBounds_toArray, List.set_cons_zero, List.set_cons_succ]
    refine takeS_on (i := 6) 21 (v := ?hv27) rfl rfl (by kernel_rfl) (by kernel_rfl) (by kernel_rfl) (fun _ _ _ h => h) (by kernel_rfl) ?hh27 (by exact hS5) ?_
    case hh27 => (intro w' hSw; go_simp; try (with_reducible rfl))
    simp only [Act.put, List.setIfInBounds_toArray, List.set_cons_zero, List.set_cons_succ]
    refine takeS_on (i := 7) 22 (v := ?hv28) rfl rfl (by kernel_rfl) (by kernel_rfl) (by kernel_rfl) (fun _ _ _ h => h) (by kernel_rfl) ?hh28 (by exact hS5) ?_
    case hh28 => (intro w' hSw; have d1 := hSw.d1; go_simp; try (with_reducible rfl))
    simp only [Act.put, List.setIfInBounds_toArray, List.set_cons_zero, List.set_cons_succ]
    refine takeS_on (i := 8) 23 (v := ?hv29) rfl rfl (by kernel_rfl) (by kernel_rfl) (by kernel_rfl) (fun _ _ _ h => h) (by kernel_rfl) ?hh29 (by exact hS5) ?_
    case hh29 => (intro w' hSw; go_simp; try (with_reducible rfl))
    simp only [Act.put, List.setIfInBounds_toArray, List.set_cons_zero, List.set_cons_succ]
    refine takeS_on (i := 9) 24 (v := ?hv30) rfl rfl (by kernel_rfl) (by kernel_rfl) (by kernel_rfl) (fun _ _ _ h => h) (by kernel_rfl) ?hh30 (by exact hS5) ?_
    case hh30 => (intro w' hSw; go_simp; try (with_reducible rfl))
    simp only [Act.put, List.setIfInBounds_toArray, List.set_cons_zero, List.set_cons_succ]
    refine takeS_on (i := 10) 25 (v := ?hv31) rfl rfl (by kernel_rfl) (by kernel_rfl) (by kernel_rfl) (fun _ _ _ h => h) (by kernel_rfl) ?hh31 (by exact hS5) ?_
    case hh31 => (intro w' hSw; go_simp; try (with_reducible rfl))
    simp only [Act.put, List.setIfInBounds_toArray, List.set_cons_zero, List.set_cons_succ]
    refine takeS_on (i := 11) 26 (v := ?hv32) rfl rfl (by kernel_rfl) (by kernel_rfl) (by kernel_rfl) (fun _ _ _ h => h) (by kernel_rfl) ?hh32 (by exact hS5) ?_
    case hh32 => (intro w' hSw; have c3 := hSw.c3; go_simp; try (with_reducible rfl))
    simp only [Act.put, List.setIfInBounds_toArray, List.set_cons_zero, List.set_cons_succ]
    refine takeS_on (i := 12) 27 (v := (.agg #[.bool true, .int .i64 (cap : Nat), .slice x1 out.length y1, .slice x2 inn.length y2, .int .i64 (lost : Nat)])) rfl rfl (by kernel_rfl) (by kernel_rfl) (by kernel_rfl) (fun _ _ _ h => h) (by kernel_rfl) ?hh33 (by exact hS5) ?_
    case hh33 => (intro w' hSw; go_simp; try (with_reducible rfl))
    simp only [Act.put, List.setIfInBounds_toArray, List.set_cons_zero, List.set_cons_succ]
    refine wpAnyH_ready (rs := [13]) (by kernel_rfl) (by simp) (AllReadyH.cons rfl (fun K hK => ?_) AllReadyH.nil)
    refine step_st_row rfl 32 (.tmp 2) (.tmp 27) rfl w.heap.size #[.bool true, .int .i64 (cap : Nat), .slice x1 out.length y1, .slice x2 inn.length y2, .int .i64 (lost : Nat)] rfl rfl _ _ XR.out pst_size rfl X.out.one ?_
    intro w8 b8 k8
    have hS7 := hS5.st k8 X.out
    have B9 := hid b8
    have K9 := hid k8
    clear b8 k8
    refine hK.out _ _ (by exact hS7) (fun _ => ?_)
    clear hK K
    refine wpAnyH_done (by kernel_rfl) ?_ _
    change Exit.then _ _ Exit.normal (Act.put _ none _) _
    simp only [Act.put]
    go_wp2_with fail
    refine bodyPost_ret (results_cell_row rfl _ _ w.heap.size _ _ _ _ rfl B9.out Try.underlying32 rfl pst_size) rfl ?_
    exact StR.mkQ X.out K9.out
  · go_simp
    have hS1 := hS0.gr (Ch.alloc (Gr.refl V0) (.cells #[.slice none 0 0, .slice none 0 0] 66))
    have BV1 := hid (al_at (w := V0) (.cells #[.slice none 0 0, .slice none 0 0] 66) rfl)
    generalize V0.alloc (.cells #[.slice none 0 0, .slice none 0 0] 66) = V1 at hS1 BV1 ⊢
    refine hK.out _ _ (by exact hS1) (fun _ => ?_)
    clear hK K
    refine wpAnyH_ready (rs := [10]) (by kernel_rfl) (by simp) (AllReadyH.cons rfl (fun K hK => ?_) AllReadyH.nil)
    go_simp
    refine (kept_any V1 (.slice ao n co) (.slice ai m ci) out inn hS1.q.ho.lst hS1.q.hi.lst (by have := HLO.out; omega) (by have := HLI.out; omega)).mono ?_
    rintro e w1 ⟨v1, v2, rfl, o1, o2, g1⟩
    obtain ⟨x1, y1, rfl⟩ := o1.form
    obtain ⟨x2, y2, rfl⟩ := o2.form
    have O1 := hid (o1.lower hS1.g.size)
    have O2 := hid (o2.lower hS1.g.size)
    have hS2 := hS1.gr g1
    have B3 := hid (gr_blk BV1.out g1)
    clear o1 o2 g1
    refine hK.out _ _ (by exact hS2) (fun _ => ?_)
    clear hK K
    refine wpAnyH_ready (rs := [12]) (by kernel_rfl) (by simp) (AllReadyH.cons rfl (fun K hK => ?_) AllReadyH.nil)
    refine step_st_row rfl 66 (.tmp 3) (.tmp 14) rfl (V0.heap.size) _ rfl rfl _ _ B3.out kpt_size rfl (own_one2 O1.out O2.out) ?_
    intro w9 b9 k9
    have X := hid (Hz.mk5 hS2 B3.out b9 k9 hS0.g.size O1.out O2.out)
    clear b9 k9
    have hS9 := X.out.p
    generalize V0.heap.size = b3 at X ⊢
    refine hK.out _ _ (by exact hS9) (fun _ => ?_)
    clear hK K
    refine wpAnyH_done (by kernel_rfl) ?_ _
    change Exit.then _ _ Exit.normal (Act.put _ none _) _
    simp only [Act.put]
    have hS5 := Hw.start X.out
    replace X := hid X.out.drew
    have XR := hid X.out.p.r
    clear hS0
    go_wp2_with fail
    refine wp_region_held_drew (S := Hw k cap lost b3 (.slice x1 out.length y1) (.slice x2 inn.length y2)) (by kernel_rfl) (by exact hS5) (fun _ => ?_)
    generalize World.drew w9 = V9 at hS5 X XR ⊢
    refine takeS_on (i := 0) 15 (v := ?hv34) rfl rfl (by kernel_rfl) (by kernel_rfl) (by kernel_rfl) (fun _ _ _ h => h) (by kernel_rfl) ?hh34 (by exact hS5) ?_
    case hh34 => (intro w' hSw; go_simp; try (with_reducible rfl))
    simp only [Act.put, List.setIfInBounds_toArray, List.set_cons_zero, List.set_cons_succ]
    refine takeS_on (i := 1) 16 (v := ?hv35) rfl rfl (by kernel_rfl) (by kernel_rfl) (by kernel_rfl) (fun _ _ _ h => h) (by kernel_rfl) ?hh35 (by exact hS5) ?_
    case hh35 => (intro w' hSw; go_simp; try (with_reducible rfl))
    simp only [Act.put, List.setIfInBounds_toArray, List.set_cons_zero, List.set_cons_succ]
    refine takeS_on (i := 2) 17 (v := ?hv36) rfl rfl (by kernel_rfl) (by kernel_rfl) (by kernel_rfl) (fun _ _ _ h => h) (by kernel_rfl) ?hh36 (by exact hS5) ?_
    case hh36 => (intro w' hSw; go_simp; try (with_reducible rfl))
    simp only [Act.put, List.setIfInBounds_toArray, List.set_cons_zero, List.set_cons_succ]
    refine takeS_on (i := 3) 18 (v := ?hv37) rfl rfl (by kernel_rfl) (by kernel_rfl) (by kernel_rfl) (fun _ _ _ h => h) (by kernel_rfl) ?hh37 (by exact hS5) ?_
    case hh37 => (intro w' hSw; have c2 := hSw.c2; go_simp; try (with_reducible rfl))
    simp only [Act.put, List.setIfInBounds_toArray, List.set_cons_zero, List.set_cons_succ]
    refine takeS_on (i := 4) 19 (v := ?hv38) rfl rfl (by kernel_rfl) (by kernel_rfl) (by kernel_rfl) (fun _ _ _ h => h) (by kernel_rfl) ?hh38 (by exact hS5) ?_
    case hh38 => (intro w' hSw; go_simp; try (with_reducible rfl))
    simp only [Act.put, List.setIfInBounds_toArray, List.set_cons_zero, List.set_cons_succ]
    refine takeS_on (i := 5) 20 (v := ?hv39) rfl rfl (by kernel_rfl) (by kernel_rfl) (by kernel_rfl) (fun _ _ _ h => h) (by kernel_rfl) ?hh39 (by exact hS5) ?_
    case hh39 => (intro w' hSw; have d0 := hSw.d0; go_simp; try (with_reducible rfl))
    simp only [Act.put, List.setIfInBounds_toArray, List.set_cons_zero, List.set_cons_succ]
    refine takeS_on (i := 6) 21 (v := ?hv40) rfl rfl (by kernel_rfl) (by kernel_rfl) (by kernel_rfl) (fun _ _ _ h => h) (by kernel_rfl) ?hh40 (by exact hS5) ?_
    case hh40 => (intro w' hSw; go_simp; try (with_reducible rfl))
    simp only [Act.put, List.setIfInBounds_toArray, List.set_cons_zero, List.set_cons_succ]
    refine takeS_on (i := 7) 22 (v := ?hv41) rfl rfl (by kernel_rfl) (by kernel_rfl) (by kernel_rfl) (fun _ _ _ h => h) (by kernel_rfl) ?hh41 (by exact hS5) ?_
    case hh41 => (intro w' hSw; have d1 := hSw.d1; go_simp; try (with_reducible rfl))
    simp only [Act.put, List.setIfInBounds_toArray, List.set_cons_zero, List.set_cons_succ]
    refine takeS_on (i := 8) 23 (v := ?hv42) rfl rfl (by kernel_rfl) (by kernel_rfl) (by kernel_rfl) (fun _ _ _ h => h) (by kernel_rfl) ?hh42 (by exact hS5) ?_
    case hh42 => (intro w' hSw; go_simp; try (with_reducible rfl))
    simp only [Act.put, List.setIfInBounds_toArray, List.set_cons_zero, List.set_cons_succ]
    refine takeS_on (i := 9) 24 (v := ?hv43) rfl rfl (by kernel_rfl) (by kernel_rfl) (by kernel_rfl) (fun _ _ _ h => h) (by kernel_rfl) ?hh43 (by exact hS5) ?_
    case hh43 => (intro w' hSw; go_simp; try (with_reducible rfl))
    simp only [Act.put, List.setIfInBounds_toArray, List.set_cons_zero, List.set_cons_succ]
    refine takeS_on (i := 10) 25 (v := ?hv44) rfl rfl (by kernel_rfl) (by kernel_rfl) (by kernel_rfl) (fun _ _ _ h => h) (by kernel_rfl) ?hh44 (by exact hS5) ?_
    case hh44 => (intro w' hSw; go_simp; try (with_reducible rfl))
    simp only [Act.put, List.setIfInBounds_toArray, List.set_cons_zero, List.set_cons_succ]
    refine takeS_on (i := 11) 26 (v := ?hv45) rfl rfl (by kernel_rfl) (by kernel_rfl) (by kernel_rfl) (fun _ _ _ h => h) (by kernel_rfl) ?hh45 (by exact hS5) ?_
    case hh45 => (intro w' hSw; have c3 := hSw.c3; go_simp; try (with_reducible rfl))
    simp only [Act.put, List.setIfInBounds_toArray, List.set_cons_zero, List.set_cons_succ]
    refine takeS_on (i := 12) 27 (v := (.agg #[.bool true, .int .i64 (cap : Nat), .slice x1 out.length y1, .slice x2 inn.length y2, .int .i64 (lost : Nat)])) rfl rfl (by kernel_rfl) (by kernel_rfl) (by kernel_rfl) (fun _ _ _ h => h) (by kernel_rfl) ?hh46 (by exact hS5) ?_
    case hh46 => (intro w' hSw; go_simp; try (with_reducible rfl))
    simp only [Act.put, List.setIfInBounds_toArray, List.set_cons_zero, List.set_cons_succ]
    refine wpAnyH_ready (rs := [13]) (by kernel_rfl) (by simp) (AllReadyH.cons rfl (fun K hK => ?_) AllReadyH.nil)
    refine step_st_row rfl 32 (.tmp 2) (.tmp 27) rfl w.heap.size #[.bool true, .int .i64 (cap : Nat), .slice x1 out.length y1, .slice x2 inn.length y2, .int .i64 (lost : Nat)] rfl rfl _ _ XR.out pst_size rfl X.out.one ?_
    intro w8 b8 k8
    have hS7 := hS5.st k8 X.out
    have B9 := hid b8
    have K9 := hid k8
    clear b8 k8
    refine hK.out _ _ (by exact hS7) (fun _ => ?_)
    clear hK K
    refine wpAnyH_done (by kernel_rfl) ?_ _
    change Exit.then _ _ Exit.normal (Act.put _ none _) _
    simp only [Act.put]
    go_wp2_with fail
    refine bodyPost_ret (results_cell_row rfl _ _ w.heap.size _ _ _ _ rfl B9.out Try.underlying32 rfl pst_size) rfl ?_
    exact StR.mkQ X.out K9.out
end Go.Proofs.Ytnpbehcfbceclaa.Lt
