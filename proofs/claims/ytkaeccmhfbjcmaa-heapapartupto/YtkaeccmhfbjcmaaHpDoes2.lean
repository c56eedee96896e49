/-
  What does answers and leaves at a Pop and a Drop. Condition: the heap and the document's list hold the same nodes, fewer than 4294967296.
-/
import Derived.Test.YtkaeccmhfbjcmaaHpDoes
import Derived.Handy
namespace Go.Proofs.Ytkaeccmhfbjcmaa.Hp
open Go.RowKit
attribute [local go_sem ↓] Go.wp_at_zero Go.wp_at_succ

set_option maxHeartbeats 4000000 in
theorem does_pop (T : Nat → Prop) (b : Nat) (v : Value) (xs ys : List W3) (nx wh na : Int) (x : W3) (p : Nat) (w : World) (h : Bo T w b v xs ys nx) (hl : ys.length < 4294967296) (h0 : 0 ≤ nx) (_hnx : nx < 4294967296) (hx0 : xs[0]? = some x) (hm : Mi ys p x) :
    Calls Try.prog 9 #[.pointer (some ⟨b, 0, none⟩), .agg #[v, .int .i64 nx], .agg #[.int .i64 1, .int .u64 wh, .int .i64 na]] w fun e w' => DR T b v ys nx w e w' := by
  have HX0 := hid hx0
  have HM := hid hm
  have HNY := hid (h.h.nn.perm h.p.symm)
  clear hx0 hm
  obtain ⟨ao, cap, rfl⟩ := h.l.form
  obtain ⟨n, hnn⟩ : ∃ n, n = ys.length := ⟨_, rfl⟩
  rw [← hnn] at hl h ⊢
  obtain ⟨W0, hW0⟩ : ∃ W, W = ((w.alloc (.cells #[.slice ao n cap, .int .i64 nx] 28)).alloc (.cells #[.int .i64 1, .int .u64 wh, .int .i64 na] 33)).alloc (.cells #[.slice none 0 0, .int .i64 0] 28) := ⟨_, rfl⟩
  have g0 : Ch NoB w W0 := by rw [hW0]; exact (((Ch.refl NoB w).alloc _).alloc _).alloc _
  have f0 : Tv W0 w.heap.size (.slice ao n cap) nx := by rw [hW0]; exact ((Tv.new w _ _).alloc _).alloc _
  have q0 : Ac W0 (w.heap.size + 1) 1 wh na := by
    have z := Ac.new (w.alloc (.cells #[.slice ao n cap, .int .i64 nx] 28)) 1 wh na
    rw [World.size_alloc] at z
    rw [hW0]
    exact z.alloc _
  have r0 : Tv W0 (w.heap.size + 1 + 1) (.slice none 0 0) 0 := by
    have z := Tv.new ((w.alloc (.cells #[.slice ao n cap, .int .i64 nx] 28)).alloc (.cells #[.int .i64 1, .int .u64 wh, .int .i64 na] 33)) (.slice none 0 0) 0
    rw [World.size_alloc, World.size_alloc] at z
    rw [hW0]
    exact z
  obtain ⟨ks, hks⟩ : ∃ k, k = w.heap.size := ⟨_, rfl⟩
  obtain ⟨ka, hka⟩ : ∃ k, k = w.heap.size + 1 := ⟨_, rfl⟩
  obtain ⟨kr, hkr⟩ : ∃ k, k = w.heap.size + 1 + 1 := ⟨_, rfl⟩
  have HK := hid (show w.heap.size ≤ ks ∧ ks < ka ∧ ka < kr by omega)
  have HN := hid hnn
  have HB0 := hid h
  have HB := hid (h.still g0)
  have HTL := hid h.h.tl
  have HG0 := hid g0
  have HF0 := hid (show Tv W0 ks (.slice ao n cap) nx by rw [hks]; exact f0)
  have HA0 := hid (show Ac W0 ka 1 wh na by rw [hka]; exact q0)
  have HR0 := hid (show Tv W0 kr (.slice none 0 0) 0 by rw [hkr]; exact r0)
  have ntr : ¬ T kr := fun e => by have := HTL.out kr e; have := HK.out; omega
  have nta : ¬ T ka := fun e => by have := HTL.out ka e; have := HK.out; omega
  clear hnn g0 f0 q0 r0 h
  go_enter Try.func9, Try.ntmps9
  go_wp2_with fail
  have e2 : w.heap.size + 2 = w.heap.size + 1 + 1 := rfl
  try rw [e2]
  rw [← hW0]
  try rw [← hkr]
  try rw [← hka]
  rw [← hks]
  clear hW0 hks hkr hka e2
  refine (rpop_at _ _ ys nx p x W0 HB.out.l (by rw [← HN.out]; omega) HNY.out HM.out).mono ?_
  rintro e w1 ⟨v1, rfl, lv1, g1⟩
  obtain ⟨a1, q1, rfl⟩ := lv1.form
  obtain ⟨n1, hn1⟩ : ∃ n, n = (ys.eraseIdx p).length := ⟨_, rfl⟩
  rw [← hn1] at lv1 ⊢
  have HG1 := hid g1
  have HL1 := hid lv1
  clear hn1 g1 lv1
  go_wp2_with fail
  obtain ⟨W2, hW2⟩ : ∃ W, W = (w1.alloc (.cells #[.slice a1 n1 q1, .int .i64 nx] 28)).alloc (.cells #[.int .u64 x.w, .int .i64 x.n, .int .i64 x.v] 44) := ⟨_, rfl⟩
  obtain ⟨k1, hk1⟩ : ∃ k, k = w1.heap.size := ⟨_, rfl⟩
  obtain ⟨k2, hk2⟩ : ∃ k, k = w1.heap.size + 1 := ⟨_, rfl⟩
  have g2 : Ch NoB w1 W2 := by rw [hW2]; exact ((Ch.refl NoB w1).alloc _).alloc _
  have HT2 := hid (show Tv W2 k1 (.slice a1 n1 q1) nx by rw [hW2, hk1]; exact (Tv.new w1 _ _).alloc _)
  have HX2 := hid (show Th W2 k2 x by
    have z := Th.new (w1.alloc (.cells #[.slice a1 n1 q1, .int .i64 nx] 28)) x
    rw [World.size_alloc] at z
    rw [hW2, hk2]
    exact z)
  have HG2 := hid (HG1.out.trans' g2)
  have nk1 : ¬ (k1 = kr) := by have := HR0.out.lt; have := HG1.out.size; omega
  have nk2 : ¬ (k2 = kr) := by have := HR0.out.lt; have := HG1.out.size; omega
  have nt1 : ¬ T k1 := fun e => by have := HTL.out k1 e; have := HG0.out.size; have := HG1.out.size; omega
  have nt2 : ¬ T k2 := fun e => by have := HTL.out k2 e; have := HG0.out.size; have := HG1.out.size; omega
  have HL2 := hid (HL1.out.ch g2 (fun _ _ _ => noB _))
  rw [← hW2]
  try rw [← hk2]
  rw [← hk1]
  clear hW2 hk1 hk2 g2
  refine (pop_some T b xs nx x W2 (HB.out.h.still HG2.out) HX0.out (by rw [HB.out.p.length_eq, ← HN.out]; omega)).mono ?_
  rintro e w3 ⟨rfl, xs3, p3, T3, hh3, g3, t3⟩
  have HP3 := hid p3
  have HH3 := hid hh3
  have HG3 := hid g3
  have HT3 := hid t3
  clear p3 hh3 g3 t3
  go_wp2_with fail
  obtain ⟨V2, hV2⟩ : ∃ W, W = w3.drew := ⟨_, rfl⟩
  have gv : Ch NoB w3 V2 := by rw [hV2]; exact (Ch.refl _ _).drew
  have T5 := (HT2.out.ch HG3.out nt1).ch gv (noB _)
  have X5 := (HX2.out.ch HG3.out nt2).ch gv (noB _)
  have R5 := ((HR0.out.ch HG2.out (noB _)).ch HG3.out ntr).ch gv (noB _)
  have hSV : (V2.cell? ⟨k1, 0, none⟩ = some (.slice a1 n1 q1) ∧ V2.cell? ⟨k1, 1, none⟩ = some (.int .i64 nx)) ∧ V2.cell? ⟨k2, 0, none⟩ = some (.int .u64 x.w) ∧ V2.cell? ⟨k2, 1, none⟩ = some (.int .i64 x.n) ∧ V2.cell? ⟨k2, 2, none⟩ = some (.int .i64 x.v) := ⟨T5.cells, X5.cells⟩
  have hSW : (w3.cell? ⟨k1, 0, none⟩ = some (.slice a1 n1 q1) ∧ w3.cell? ⟨k1, 1, none⟩ = some (.int .i64 nx)) ∧ w3.cell? ⟨k2, 0, none⟩ = some (.int .u64 x.w) ∧ w3.cell? ⟨k2, 1, none⟩ = some (.int .i64 x.n) ∧ w3.cell? ⟨k2, 2, none⟩ = some (.int .i64 x.v) := by
    rw [hV2] at hSV
    exact hSV
  have C5 := ((Ch.refl (Only kr) V2).own 0 (.slice a1 n1 q1)).own 1 (.int .i64 nx)
  have hS5 : (((V2.setCell ⟨kr, 0, none⟩ (.slice a1 n1 q1)).setCell ⟨kr, 1, none⟩ (.int .i64 nx)).cell? ⟨k1, 0, none⟩ = some (.slice a1 n1 q1) ∧ ((V2.setCell ⟨kr, 0, none⟩ (.slice a1 n1 q1)).setCell ⟨kr, 1, none⟩ (.int .i64 nx)).cell? ⟨k1, 1, none⟩ = some (.int .i64 nx)) ∧ ((V2.setCell ⟨kr, 0, none⟩ (.slice a1 n1 q1)).setCell ⟨kr, 1, none⟩ (.int .i64 nx)).cell? ⟨k2, 0, none⟩ = some (.int .u64 x.w) ∧ ((V2.setCell ⟨kr, 0, none⟩ (.slice a1 n1 q1)).setCell ⟨kr, 1, none⟩ (.int .i64 nx)).cell? ⟨k2, 1, none⟩ = some (.int .i64 x.n) ∧ ((V2.setCell ⟨kr, 0, none⟩ (.slice a1 n1 q1)).setCell ⟨kr, 1, none⟩ (.int .i64 nx)).cell? ⟨k2, 2, none⟩ = some (.int .i64 x.v) := ⟨⟨(C5.cell T5.lt (fun e => nk1 e)).trans hSV.1.1, (C5.cell T5.lt (fun e => nk1 e)).trans hSV.1.2⟩, (C5.cell X5.lt (fun e => nk2 e)).trans hSV.2.1, (C5.cell X5.lt (fun e => nk2 e)).trans hSV.2.2.1, (C5.cell X5.lt (fun e => nk2 e)).trans hSV.2.2.2⟩
  obtain ⟨z0, z1⟩ := R5.cells
  obtain ⟨y0, y1⟩ := R5.fz
  have l2 := R5.lt
  have hpm : xs3.Perm (ys.eraseIdx p) := (List.perm_cons x).1 ((HP3.out.symm.trans HB.out.p).trans (perm_idx HM.out.a))
  have HBF := hid (Bo.fin (HH3.out.still gv) hpm HL2.out (HG3.out.trans gv (fun _ e => e.elim)) HT3.out HTL.out (by have := HK.out; omega) HR0.out.lt HG2.out.size C5)
  have HLF := hid (Bo.fin2 HL2.out (HG3.out.trans gv (fun _ e => e.elim)) HTL.out (show w.heap.size ≤ kr by have := HK.out; omega) HR0.out.lt C5)
  have HGF := hid (((((HG0.out.trans' HG2.out).any (S := T)).trans' HG3.out).trans gv (fun _ e => e.elim)).trans C5 (fun q e => .inr (by have e1 : q = kr := e; have := HK.out; omega)))
  have HTF := hid (show ∀ q, T3 q → T q ∨ w.heap.size ≤ q from fun q e => (HT3.out q e).imp id (fun a => Nat.le_trans (Nat.le_trans HG0.out.size HG2.out.size) a))
  clear gv T5 X5 R5 C5 hpm
  refine wp_region_held_drew (S := fun w' => (w'.cell? ⟨k1, 0, none⟩ = some (.slice a1 n1 q1) ∧ w'.cell? ⟨k1, 1, none⟩ = some (.int .i64 nx)) ∧ w'.cell? ⟨k2, 0, none⟩ = some (.int .u64 x.w) ∧ w'.cell? ⟨k2, 1, none⟩ = some (.int .i64 x.n) ∧ w'.cell? ⟨k2, 2, none⟩ = some (.int .i64 x.v)) (by kernel_rfl) (by exact hSW) (fun _ => ?_)
  rw [← hV2]
  clear hV2
  refine takeS_on (i := 0) 66 (v := ?v98) rfl rfl (by kernel_rfl) (by kernel_rfl) (by kernel_rfl) (fun _ _ _ h => h) (by kernel_rfl) ?hy98 (by exact hSV) ?_
  case hy98 => (intro w' hSw; go_simp; try (with_reducible rfl))
  simp only [Act.put, List.setIfInBounds_toArray, List.set_cons_zero, List.set_cons_succ]
  refine takeS_on (i := 1) 67 (v := ?v99) rfl rfl (by kernel_rfl) (by kernel_rfl) (by kernel_rfl) (fun _ _ _ h => h) (by kernel_rfl) ?hy99 (by exact hSV) ?_
  case hy99 => (intro w' hSw; go_simp; try (with_reducible rfl))
  simp only [Act.put, List.setIfInBounds_toArray, List.set_cons_zero, List.set_cons_succ]
  refine takeS_on (i := 2) 68 (v := ?v100) rfl rfl (by kernel_rfl) (by kernel_rfl) (by kernel_rfl) (fun _ _ _ h => h) (by kernel_rfl) ?hy100 (by exact hSV) ?_
  case hy100 => (intro w' hSw; go_simp; try (with_reducible rfl))
  simp only [Act.put, List.setIfInBounds_toArray, List.set_cons_zero, List.set_cons_succ]
  refine takeS_on (i := 3) 69 (v := ?v101) rfl rfl (by kernel_rfl) (by kernel_rfl) (by kernel_rfl) (fun _ _ _ h => h) (by kernel_rfl) ?hy101 (by exact hSV) ?_
  case hy101 => (intro w' hSw; go_simp; try (with_reducible rfl))
  simp only [Act.put, List.setIfInBounds_toArray, List.set_cons_zero, List.set_cons_succ]
  refine takeS_on (i := 4) 70 (v := ?v102) rfl rfl (by kernel_rfl) (by kernel_rfl) (by kernel_rfl) (fun _ _ _ h => h) (by kernel_rfl) ?hy102 (by exact hSV) ?_
  case hy102 => (intro w' hSw; go_simp; try (with_reducible rfl))
  simp only [Act.put, List.setIfInBounds_toArray, List.set_cons_zero, List.set_cons_succ]
  refine takeS_on (i := 5) 71 (v := ?v103) rfl rfl (by kernel_rfl) (by kernel_rfl) (by kernel_rfl) (fun _ _ _ h => h) (by kernel_rfl) ?hy103 (by exact hSV) ?_
  case hy103 => (intro w' hSw; go_simp; try (with_reducible rfl))
  simp only [Act.put, List.setIfInBounds_toArray, List.set_cons_zero, List.set_cons_succ]
  refine takeS_on (i := 6) 72 (v := ?v104) rfl rfl (by kernel_rfl) (by kernel_rfl) (by kernel_rfl) (fun _ _ _ h => h) (by kernel_rfl) ?hy104 (by exact hSV) ?_
  case hy104 => (intro w' hSw; go_simp; try (with_reducible rfl))
  simp only [Act.put, List.setIfInBounds_toArray, List.set_cons_zero, List.set_cons_succ]
  refine takeS_on (i := 7) 73 (v := ?v105) rfl rfl (by kernel_rfl) (by kernel_rfl) (by kernel_rfl) (fun _ _ _ h => h) (by kernel_rfl) ?hy105 (by exact hSV) ?_
  case hy105 => (intro w' hSw; go_simp; try (with_reducible rfl))
  simp only [Act.put, List.setIfInBounds_toArray, List.set_cons_zero, List.set_cons_succ]
  refine takeS_on (i := 8) 74 (v := ?v106) rfl rfl (by kernel_rfl) (by kernel_rfl) (by kernel_rfl) (fun _ _ _ h => h) (by kernel_rfl) ?hy106 (by exact hSV) ?_
  case hy106 => (intro w' hSw; go_simp; try (with_reducible rfl))
  simp only [Act.put, List.setIfInBounds_toArray, List.set_cons_zero, List.set_cons_succ]
  refine takeS_on (i := 9) 75 (v := ?v107) rfl rfl (by kernel_rfl) (by kernel_rfl) (by kernel_rfl) (fun _ _ _ h => h) (by kernel_rfl) ?hy107 (by exact hSV) ?_
  case hy107 => (intro w' hSw; go_simp; try (with_reducible rfl))
  simp only [Act.put, List.setIfInBounds_toArray, List.set_cons_zero, List.set_cons_succ]
  refine takeS_on (i := 10) 76 (v := ?v108) rfl rfl (by kernel_rfl) (by kernel_rfl) (by kernel_rfl) (fun _ _ _ h => h) (by kernel_rfl) ?hy108 (by exact hSV) ?_
  case hy108 => (intro w' hSw; go_simp; try (with_reducible rfl))
  simp only [Act.put, List.setIfInBounds_toArray, List.set_cons_zero, List.set_cons_succ]
  refine takeS_on (i := 11) 77 (v := ?v109) rfl rfl (by kernel_rfl) (by kernel_rfl) (by kernel_rfl) (fun _ _ _ h => h) (by kernel_rfl) ?hy109 (by exact hSV) ?_
  case hy109 => (intro w' hSw; go_simp; try (with_reducible rfl))
  simp only [Act.put, List.setIfInBounds_toArray, List.set_cons_zero, List.set_cons_succ]
  refine wpAnyH_ready (rs := [12]) (by kernel_rfl) (by simp) (AllReadyH.cons rfl (fun K hK => ?_) AllReadyH.nil)
  go_simp
  refine hK.out _ _ (by exact hS5) (fun _ => ?_)
  clear hK K
  refine takeS_on (i := 13) 7 (v := ?v110) rfl rfl (by kernel_rfl) (by kernel_rfl) (by kernel_rfl) (fun _ _ _ h => h) (by kernel_rfl) ?hy110 (by exact hS5) ?_
  case hy110 => (intro w' hSw; go_simp; try (with_reducible rfl))
  simp only [Act.put, List.setIfInBounds_toArray, List.set_cons_zero, List.set_cons_succ]
  refine wpAnyH_done (by kernel_rfl) ?_ _
  go_wp2
  refine bodyPost_ret (v := .tuple #[.agg #[.slice a1 n1 q1, .int .i64 nx], .bool true]) (by simp [results, Try.results9, go_sem, z0, z1]) rfl ?_
  exact ⟨T3, _, _, _, _, rfl, HBF.out, HGF.out, HTF.out, Nat.le_trans (List.length_eraseIdx_le _ _) (Nat.le_succ _), by omega, by omega, .inr HLF.out⟩
set_option maxHeartbeats 4000000 in
theorem does_pop0 (T : Nat → Prop) (b : Nat) (v : Value) (xs ys : List W3) (nx wh na : Int) (w : World) (h : Bo T w b v xs ys nx) (_hl : ys.length < 4294967296) (h0 : 0 ≤ nx) (_hnx : nx < 4294967296) (he : ys = []) :
    Calls Try.prog 9 #[.pointer (some ⟨b, 0, none⟩), .agg #[v, .int .i64 nx], .agg #[.int .i64 1, .int .u64 wh, .int .i64 na]] w fun e w' => DR T b v ys nx w e w' := by
  have hex : xs = [] := List.eq_nil_of_length_eq_zero (by rw [h.p.length_eq, he]; rfl)
  have HE := hid he
  have HEX := hid hex
  clear he hex
  obtain ⟨ao, cap, rfl⟩ := h.l.form
  obtain ⟨n, hnn⟩ : ∃ n, n = ys.length := ⟨_, rfl⟩
  rw [← hnn] at _hl h ⊢
  obtain ⟨W0, hW0⟩ : ∃ W, W = ((w.alloc (.cells #[.slice ao n cap, .int .i64 nx] 28)).alloc (.cells #[.int .i64 1, .int .u64 wh, .int .i64 na] 33)).alloc (.cells #[.slice none 0 0, .int .i64 0] 28) := ⟨_, rfl⟩
  have g0 : Ch NoB w W0 := by rw [hW0]; exact (((Ch.refl NoB w).alloc _).alloc _).alloc _
  have f0 : Tv W0 w.heap.size (.slice ao n cap) nx := by rw [hW0]; exact ((Tv.new w _ _).alloc _).alloc _
  have q0 : Ac W0 (w.heap.size + 1) 1 wh na := by
    have z := Ac.new (w.alloc (.cells #[.slice ao n cap, .int .i64 nx] 28)) 1 wh na
    rw [World.size_alloc] at z
    rw [hW0]
    exact z.alloc _
  have r0 : Tv W0 (w.heap.size + 1 + 1) (.slice none 0 0) 0 := by
    have z := Tv.new ((w.alloc (.cells #[.slice ao n cap, .int .i64 nx] 28)).alloc (.cells #[.int .i64 1, .int .u64 wh, .int .i64 na] 33)) (.slice none 0 0) 0
    rw [World.size_alloc, World.size_alloc] at z
    rw [hW0]
    exact z
  obtain ⟨ks, hks⟩ : ∃ k, k = w.heap.size := ⟨_, rfl⟩
  obtain ⟨ka, hka⟩ : ∃ k, k = w.heap.size + 1 := ⟨_, rfl⟩
  obtain ⟨kr, hkr⟩ : ∃ k, k = w.heap.size + 1 + 1 := ⟨_, rfl⟩
  have HK := hid (show w.heap.size ≤ ks ∧ ks < ka ∧ ka < kr by omega)
  have HN := hid hnn
  have HB0 := hid h
  have HB := hid (h.still g0)
  have HTL := hid h.h.tl
  have HG0 := hid g0
  have HF0 := hid (show Tv W0 ks (.slice ao n cap) nx by rw [hks]; exact f0)
  have HA0 := hid (show Ac W0 ka 1 wh na by rw [hka]; exact q0)
  have HR0 := hid (show Tv W0 kr (.slice none 0 0) 0 by rw [hkr]; exact r0)
  have ntr : ¬ T kr := fun e => by have := HTL.out kr e; have := HK.out; omega
  have nta : ¬ T ka := fun e => by have := HTL.out ka e; have := HK.out; omega
  clear hnn g0 f0 q0 r0 h
  go_enter Try.func9, Try.ntmps9
  go_wp2_with fail
  have e2 : w.heap.size + 2 = w.heap.size + 1 + 1 := rfl
  try rw [e2]
  rw [← hW0]
  try rw [← hkr]
  try rw [← hka]
  rw [← hks]
  clear hW0 hks hkr hka e2
  have hn0 : n = 0 := by rw [HN.out, HE.out]; rfl
  refine (rpop_none (fun q => ¬ T q) _ nx W0 (by have := HB.out.l; rw [HE.out] at this; exact this)).mono ?_
  rintro e w1 ⟨rfl, g1⟩
  have HG1 := hid g1
  have HN0 := hid hn0
  clear g1 hn0
  go_wp2_with fail
  obtain ⟨W2, hW2⟩ : ∃ W, W = (w1.alloc (.cells #[.slice ao n cap, .int .i64 nx] 28)).alloc (.cells #[.int .u64 0, .int .i64 0, .int .i64 0] 44) := ⟨_, rfl⟩
  obtain ⟨k1, hk1⟩ : ∃ k, k = w1.heap.size := ⟨_, rfl⟩
  obtain ⟨k2, hk2⟩ : ∃ k, k = w1.heap.size + 1 := ⟨_, rfl⟩
  have g2 : Ch NoB w1 W2 := by rw [hW2]; exact ((Ch.refl NoB w1).alloc _).alloc _
  have HT2 := hid (show Tv W2 k1 (.slice ao n cap) nx by rw [hW2, hk1]; exact (Tv.new w1 _ _).alloc _)
  have HX2 := hid (show Th W2 k2 W3.zero by
    have z := Th.new (w1.alloc (.cells #[.slice ao n cap, .int .i64 nx] 28)) W3.zero
    rw [World.size_alloc] at z
    rw [hW2, hk2]
    exact z)
  have HG2 := hid (HG1.out.trans' g2)
  have nk1 : ¬ (k1 = kr) := by have := HR0.out.lt; have := HG1.out.size; omega
  have nk2 : ¬ (k2 = kr) := by have := HR0.out.lt; have := HG1.out.size; omega
  have nt1 : ¬ T k1 := fun e => by have := HTL.out k1 e; have := HG0.out.size; have := HG1.out.size; omega
  have nt2 : ¬ T k2 := fun e => by have := HTL.out k2 e; have := HG0.out.size; have := HG1.out.size; omega
  rw [← hW2]
  try rw [← hk2]
  rw [← hk1]
  clear hW2 hk1 hk2 g2
  refine (pop_none T b nx W2 (by have := HB.out.h.still HG2.out; rw [HEX.out] at this; exact this)).mono ?_
  rintro e w3 ⟨rfl, hw3⟩
  replace hw3 := hw3.symm
  subst hw3
  go_wp2_with fail
  obtain ⟨V2, hV2⟩ : ∃ W, W = W2.drew := ⟨_, rfl⟩
  have gv : Ch NoB W2 V2 := by rw [hV2]; exact (Ch.refl _ _).drew
  have T5 := HT2.out.ch gv (noB _)
  have X5 := HX2.out.ch gv (noB _)
  have R5 := (HR0.out.ch HG2.out (noB _)).ch gv (noB _)
  have hSV : (V2.cell? ⟨k1, 0, none⟩ = some (.slice ao n cap) ∧ V2.cell? ⟨k1, 1, none⟩ = some (.int .i64 nx)) ∧ V2.cell? ⟨k2, 0, none⟩ = some (.int .u64 0) ∧ V2.cell? ⟨k2, 1, none⟩ = some (.int .i64 0) ∧ V2.cell? ⟨k2, 2, none⟩ = some (.int .i64 0) := ⟨T5.cells, X5.cells⟩
  have hSW : (W2.cell? ⟨k1, 0, none⟩ = some (.slice ao n cap) ∧ W2.cell? ⟨k1, 1, none⟩ = some (.int .i64 nx)) ∧ W2.cell? ⟨k2, 0, none⟩ = some (.int .u64 0) ∧ W2.cell? ⟨k2, 1, none⟩ = some (.int .i64 0) ∧ W2.cell? ⟨k2, 2, none⟩ = some (.int .i64 0) := by
    rw [hV2] at hSV
    exact hSV
  have C5 := ((Ch.refl (Only kr) V2).own 0 (.slice ao n cap)).own 1 (.int .i64 nx)
  have hS5 : (((V2.setCell ⟨kr, 0, none⟩ (.slice ao n cap)).setCell ⟨kr, 1, none⟩ (.int .i64 nx)).cell? ⟨k1, 0, none⟩ = some (.slice ao n cap) ∧ ((V2.setCell ⟨kr, 0, none⟩ (.slice ao n cap)).setCell ⟨kr, 1, none⟩ (.int .i64 nx)).cell? ⟨k1, 1, none⟩ = some (.int .i64 nx)) ∧ ((V2.setCell ⟨kr, 0, none⟩ (.slice ao n cap)).setCell ⟨kr, 1, none⟩ (.int .i64 nx)).cell? ⟨k2, 0, none⟩ = some (.int .u64 0) ∧ ((V2.setCell ⟨kr, 0, none⟩ (.slice ao n cap)).setCell ⟨kr, 1, none⟩ (.int .i64 nx)).cell? ⟨k2, 1, none⟩ = some (.int .i64 0) ∧ ((V2.setCell ⟨kr, 0, none⟩ (.slice ao n cap)).setCell ⟨kr, 1, none⟩ (.int .i64 nx)).cell? ⟨k2, 2, none⟩ = some (.int .i64 0) := ⟨⟨(C5.cell T5.lt (fun e => nk1 e)).trans hSV.1.1, (C5.cell T5.lt (fun e => nk1 e)).trans hSV.1.2⟩, (C5.cell X5.lt (fun e => nk2 e)).trans hSV.2.1, (C5.cell X5.lt (fun e => nk2 e)).trans hSV.2.2.1, (C5.cell X5.lt (fun e => nk2 e)).trans hSV.2.2.2⟩
  obtain ⟨z0, z1⟩ := R5.cells
  obtain ⟨y0, y1⟩ := R5.fz
  have l2 := R5.lt
  have HGF := hid (((HG0.out.trans' HG2.out).trans' gv).trans C5 (fun q e => .inr (by have e1 : q = kr := e; have := HK.out; omega)))
  have HBF := hid (HB0.out.still HGF.out)
  clear gv T5 X5 R5 C5
  refine wp_region_held_drew (S := fun w' => (w'.cell? ⟨k1, 0, none⟩ = some (.slice ao n cap) ∧ w'.cell? ⟨k1, 1, none⟩ = some (.int .i64 nx)) ∧ w'.cell? ⟨k2, 0, none⟩ = some (.int .u64 0) ∧ w'.cell? ⟨k2, 1, none⟩ = some (.int .i64 0) ∧ w'.cell? ⟨k2, 2, none⟩ = some (.int .i64 0)) (by kernel_rfl) (by exact hSW) (fun _ => ?_)
  rw [← hV2]
  clear hV2
  refine takeS_on (i := 0) 66 (v := ?v111) rfl rfl (by kernel_rfl) (by kernel_rfl) (by kernel_rfl) (fun _ _ _ h => h) (by kernel_rfl) ?hy111 (by exact hSV) ?_
  case hy111 => (intro w' hSw; go_simp; try (with_reducible rfl))
  simp only [Act.put, List.setIfInBounds_toArray, List.set_cons_zero, List.set_cons_succ]
  refine takeS_on (i := 1) 67 (v := ?v112) rfl rfl (by kernel_rfl) (by kernel_rfl) (by kernel_rfl) (fun _ _ _ h => h) (by kernel_rfl) ?hy112 (by exact hSV) ?_
  case hy112 => (intro w' hSw; go_simp; try (with_reducible rfl))
  simp only [Act.put, List.setIfInBounds_toArray, List.set_cons_zero, List.set_cons_succ]
  refine takeS_on (i := 2) 68 (v := ?v113) rfl rfl (by kernel_rfl) (by kernel_rfl) (by kernel_rfl) (fun _ _ _ h => h) (by kernel_rfl) ?hy113 (by exact hSV) ?_
  case hy113 => (intro w' hSw; go_simp; try (with_reducible rfl))
  simp only [Act.put, List.setIfInBounds_toArray, List.set_cons_zero, List.set_cons_succ]
  refine takeS_on (i := 3) 69 (v := ?v114) rfl rfl (by kernel_rfl) (by kernel_rfl) (by kernel_rfl) (fun _ _ _ h => h) (by kernel_rfl) ?hy114 (by exact hSV) ?_
  case hy114 => (intro w' hSw; go_simp; try (with_reducible rfl))
  simp only [Act.put, List.setIfInBounds_toArray, List.set_cons_zero, List.set_cons_succ]
  refine takeS_on (i := 4) 70 (v := ?v115) rfl rfl (by kernel_rfl) (by kernel_rfl) (by kernel_rfl) (fun _ _ _ h => h) (by kernel_rfl) ?hy115 (by exact hSV) ?_
  case hy115 => (intro w' hSw; go_simp; try (with_reducible rfl))
  simp only [Act.put, List.setIfInBounds_toArray, List.set_cons_zero, List.set_cons_succ]
  refine takeS_on (i := 5) 71 (v := ?v116) rfl rfl (by kernel_rfl) (by kernel_rfl) (by kernel_rfl) (fun _ _ _ h => h) (by kernel_rfl) ?hy116 (by exact hSV) ?_
  case hy116 => (intro w' hSw; go_simp; try (with_reducible rfl))
  simp only [Act.put, List.setIfInBounds_toArray, List.set_cons_zero, List.set_cons_succ]
  refine takeS_on (i := 6) 72 (v := ?v117) rfl rfl (by kernel_rfl) (by kernel_rfl) (by kernel_rfl) (fun _ _ _ h => h) (by kernel_rfl) ?hy117 (by exact hSV) ?_
  case hy117 => (intro w' hSw; go_simp; try (with_reducible rfl))
  simp only [Act.put, List.setIfInBounds_toArray, List.set_cons_zero, List.set_cons_succ]
  refine takeS_on (i := 7) 73 (v := ?v118) rfl rfl (by kernel_rfl) (by kernel_rfl) (by kernel_rfl) (fun _ _ _ h => h) (by kernel_rfl) ?hy118 (by exact hSV) ?_
  case hy118 => (intro w' hSw; go_simp; try (with_reducible rfl))
  simp only [Act.put, List.setIfInBounds_toArray, List.set_cons_zero, List.set_cons_succ]
  refine takeS_on (i := 8) 74 (v := ?v119) rfl rfl (by kernel_rfl) (by kernel_rfl) (by kernel_rfl) (fun _ _ _ h => h) (by kernel_rfl) ?hy119 (by exact hSV) ?_
  case hy119 => (intro w' hSw; go_simp; try (with_reducible rfl))
  simp only [Act.put, List.setIfInBounds_toArray, List.set_cons_zero, List.set_cons_succ]
  refine takeS_on (i := 9) 75 (v := ?v120) rfl rfl (by kernel_rfl) (by kernel_rfl) (by kernel_rfl) (fun _ _ _ h => h) (by kernel_rfl) ?hy120 (by exact hSV) ?_
  case hy120 => (intro w' hSw; go_simp; try (with_reducible rfl))
  simp only [Act.put, List.setIfInBounds_toArray, List.set_cons_zero, List.set_cons_succ]
  refine takeS_on (i := 10) 76 (v := ?v121) rfl rfl (by kernel_rfl) (by kernel_rfl) (by kernel_rfl) (fun _ _ _ h => h) (by kernel_rfl) ?hy121 (by exact hSV) ?_
  case hy121 => (intro w' hSw; go_simp; try (with_reducible rfl))
  simp only [Act.put, List.setIfInBounds_toArray, List.set_cons_zero, List.set_cons_succ]
  refine takeS_on (i := 11) 77 (v := ?v122) rfl rfl (by kernel_rfl) (by kernel_rfl) (by kernel_rfl) (fun _ _ _ h => h) (by kernel_rfl) ?hy122 (by exact hSV) ?_
  case hy122 => (intro w' hSw; go_simp; try (with_reducible rfl))
  simp only [Act.put, List.setIfInBounds_toArray, List.set_cons_zero, List.set_cons_succ]
  refine wpAnyH_ready (rs := [12]) (by kernel_rfl) (by simp) (AllReadyH.cons rfl (fun K hK => ?_) AllReadyH.nil)
  go_simp
  refine hK.out _ _ (by exact hS5) (fun _ => ?_)
  clear hK K
  refine takeS_on (i := 13) 7 (v := ?v123) rfl rfl (by kernel_rfl) (by kernel_rfl) (by kernel_rfl) (fun _ _ _ h => h) (by kernel_rfl) ?hy123 (by exact hS5) ?_
  case hy123 => (intro w' hSw; go_simp; try (with_reducible rfl))
  simp only [Act.put, List.setIfInBounds_toArray, List.set_cons_zero, List.set_cons_succ]
  refine wpAnyH_done (by kernel_rfl) ?_ _
  go_wp2
  refine bodyPost_ret (v := .tuple #[.agg #[.slice ao n cap, .int .i64 nx], .bool true]) (by simp [results, Try.results9, go_sem, z0, z1]) rfl ?_
  exact ⟨T, _, _, _, _, rfl, HBF.out, HGF.out.any, fun q e => .inl e, Nat.le_succ _, by omega, by omega, .inl ⟨rfl, rfl⟩⟩
set_option maxHeartbeats 4000000 in
theorem does_drop (T : Nat → Prop) (b : Nat) (v : Value) (xs ys : List W3) (nx wh : Int) (x : W3) (p i : Nat) (w : World) (h : Bo T w b v xs ys nx) (hl : ys.length < 4294967296) (h0 : 0 ≤ nx) (_hnx : nx < 4294967296) (hx0 : xs[p]? = some x) (hi : ys[i]? = some x) :
    Calls Try.prog 9 #[.pointer (some ⟨b, 0, none⟩), .agg #[v, .int .i64 nx], .agg #[.int .i64 2, .int .u64 wh, .int .i64 x.n]] w fun e w' => DR T b v ys nx w e w' := by
  have HX0 := hid hx0
  have HI := hid hi
  have HNY := hid (h.h.nn.perm h.p.symm)
  clear hx0 hi
  obtain ⟨ao, cap, rfl⟩ := h.l.form
  obtain ⟨n, hnn⟩ : ∃ n, n = ys.length := ⟨_, rfl⟩
  rw [← hnn] at hl h ⊢
  obtain ⟨W0, hW0⟩ : ∃ W, W = ((w.alloc (.cells #[.slice ao n cap, .int .i64 nx] 28)).alloc (.cells #[.int .i64 2, .int .u64 wh, .int .i64 x.n] 33)).alloc (.cells #[.slice none 0 0, .int .i64 0] 28) := ⟨_, rfl⟩
  have g0 : Ch NoB w W0 := by rw [hW0]; exact (((Ch.refl NoB w).alloc _).alloc _).alloc _
  have f0 : Tv W0 w.heap.size (.slice ao n cap) nx := by rw [hW0]; exact ((Tv.new w _ _).alloc _).alloc _
  have q0 : Ac W0 (w.heap.size + 1) 2 wh x.n := by
    have z := Ac.new (w.alloc (.cells #[.slice ao n cap, .int .i64 nx] 28)) 2 wh x.n
    rw [World.size_alloc] at z
    rw [hW0]
    exact z.alloc _
  have r0 : Tv W0 (w.heap.size + 1 + 1) (.slice none 0 0) 0 := by
    have z := Tv.new ((w.alloc (.cells #[.slice ao n cap, .int .i64 nx] 28)).alloc (.cells #[.int .i64 2, .int .u64 wh, .int .i64 x.n] 33)) (.slice none 0 0) 0
    rw [World.size_alloc, World.size_alloc] at z
    rw [hW0]
    exact z
  obtain ⟨ks, hks⟩ : ∃ k, k = w.heap.size := ⟨_, rfl⟩
  obtain ⟨ka, hka⟩ : ∃ k, k = w.heap.size + 1 := ⟨_, rfl⟩
  obtain ⟨kr, hkr⟩ : ∃ k, k = w.heap.size + 1 + 1 := ⟨_, rfl⟩
  have HK := hid (show w.heap.size ≤ ks ∧ ks < ka ∧ ka < kr by omega)
  have HN := hid hnn
  have HB0 := hid h
  have HB := hid (h.still g0)
  have HTL := hid h.h.tl
  have HG0 := hid g0
  have HF0 := hid (show Tv W0 ks (.slice ao n cap) nx by rw [hks]; exact f0)
  have HA0 := hid (show Ac W0 ka 2 wh x.n by rw [hka]; exact q0)
  have HR0 := hid (show Tv W0 kr (.slice none 0 0) 0 by rw [hkr]; exact r0)
  have ntr : ¬ T kr := fun e => by have := HTL.out kr e; have := HK.out; omega
  have nta : ¬ T ka := fun e => by have := HTL.out ka e; have := HK.out; omega
  clear hnn g0 f0 q0 r0 h
  go_enter Try.func9, Try.ntmps9
  go_wp2_with fail
  have e2 : w.heap.size + 2 = w.heap.size + 1 + 1 := rfl
  try rw [e2]
  rw [← hW0]
  try rw [← hkr]
  try rw [← hka]
  rw [← hks]
  clear hW0 hks hkr hka e2
  refine (rdrop_yes _ _ ys nx i x W0 HB.out.l (by rw [← HN.out]; omega) HNY.out HI.out).mono ?_
  rintro e w1 ⟨v1, rfl, lv1, g1⟩
  obtain ⟨a1, q1, rfl⟩ := lv1.form
  obtain ⟨n1, hn1⟩ : ∃ n, n = (ys.eraseIdx i).length := ⟨_, rfl⟩
  rw [← hn1] at lv1 ⊢
  have HG1 := hid g1
  have HL1 := hid lv1
  obtain ⟨b0, b1, b2⟩ := (HA0.out.ch g1 (noB _)).cells
  have lb := (HA0.out.ch g1 (noB _)).lt
  clear hn1 g1 lv1
  go_wp2_with fail
  obtain ⟨W2, hW2⟩ : ∃ W, W = (w1.alloc (.cells #[.slice a1 n1 q1, .int .i64 nx] 28)).alloc (.cells #[.int .u64 x.w, .int .i64 x.n, .int .i64 x.v] 44) := ⟨_, rfl⟩
  obtain ⟨k1, hk1⟩ : ∃ k, k = w1.heap.size := ⟨_, rfl⟩
  obtain ⟨k2, hk2⟩ : ∃ k, k = w1.heap.size + 1 := ⟨_, rfl⟩
  have g2 : Ch NoB w1 W2 := by rw [hW2]; exact ((Ch.refl NoB w1).alloc _).alloc _
  have HT2 := hid (show Tv W2 k1 (.slice a1 n1 q1) nx by rw [hW2, hk1]; exact (Tv.new w1 _ _).alloc _)
  have HX2 := hid (show Th W2 k2 x by
    have z := Th.new (w1.alloc (.cells #[.slice a1 n1 q1, .int .i64 nx] 28)) x
    rw [World.size_alloc] at z
    rw [hW2, hk2]
    exact z)
  have HG2 := hid (HG1.out.trans' g2)
  have nk1 : ¬ (k1 = kr) := by have := HR0.out.lt; have := HG1.out.size; omega
  have nk2 : ¬ (k2 = kr) := by have := HR0.out.lt; have := HG1.out.size; omega
  have nt1 : ¬ T k1 := fun e => by have := HTL.out k1 e; have := HG0.out.size; have := HG1.out.size; omega
  have nt2 : ¬ T k2 := fun e => by have := HTL.out k2 e; have := HG0.out.size; have := HG1.out.size; omega
  have HL2 := hid (HL1.out.ch g2 (fun _ _ _ => noB _))
  rw [← hW2]
  try rw [← hk2]
  rw [← hk1]
  clear hW2 hk1 hk2 g2
  clear b0 b1 b2 lb
  refine (drop_yes T b xs nx p x W2 (HB.out.h.still HG2.out) HX0.out (by rw [HB.out.p.length_eq, ← HN.out]; omega)).mono ?_
  rintro e w3 ⟨rfl, xs3, p3, T3, hh3, g3, t3⟩
  have T5 := HT2.out.ch g3 nt1
  have X5 := HX2.out.ch g3 nt2
  have R5 := (HR0.out.ch HG2.out (noB _)).ch g3 ntr
  have C5 := ((Ch.refl (Only kr) w3).own 0 (.slice a1 n1 q1)).own 1 (.int .i64 nx)
  obtain ⟨d0, d1⟩ := T5.cells
  obtain ⟨d2, d3, d4⟩ := X5.cells
  have ld := T5.lt
  have lx := X5.lt
  obtain ⟨z0, z1⟩ := R5.cells
  obtain ⟨y0, y1⟩ := R5.fz
  have l2 := R5.lt
  have hpm : xs3.Perm (ys.eraseIdx i) := (List.perm_cons x).1 ((p3.symm.trans HB.out.p).trans (perm_idx HI.out))
  have HBF := hid (Bo.fin hh3 hpm HL2.out g3 t3 HTL.out (by have := HK.out; omega) HR0.out.lt HG2.out.size C5)
  have HLF := hid (Bo.fin2 HL2.out g3 HTL.out (show w.heap.size ≤ kr by have := HK.out; omega) HR0.out.lt C5)
  have HGF := hid ((((HG0.out.trans' HG2.out).any (S := T)).trans' g3).trans C5 (fun q e => .inr (by have e1 : q = kr := e; have := HK.out; omega)))
  have HTF := hid (show ∀ q, T3 q → T q ∨ w.heap.size ≤ q from fun q e => (t3 q e).imp id (fun a => Nat.le_trans (Nat.le_trans HG0.out.size HG2.out.size) a))
  clear p3 hh3 g3 t3 T5 X5 R5 C5 hpm
  go_wp2
  refine bodyPost_ret (v := .tuple #[.agg #[.slice a1 n1 q1, .int .i64 nx], .bool true]) (by simp [results, Try.results9, go_sem, z0, z1]) rfl ?_
  exact ⟨T3, _, _, _, _, rfl, HBF.out, HGF.out, HTF.out, Nat.le_trans (List.length_eraseIdx_le _ _) (Nat.le_succ _), by omega, by omega, .inr HLF.out⟩
set_option maxHeartbeats 4000000 in
theorem does_drop0 (T : Nat → Prop) (b : Nat) (v : Value) (xs ys : List W3) (nx wh na : Int) (w : World) (h : Bo T w b v xs ys nx) (hl : ys.length < 4294967296) (h0 : 0 ≤ nx) (_hnx : nx < 4294967296) (hne : ∀ x ∈ ys, x.n ≠ na) :
    Calls Try.prog 9 #[.pointer (some ⟨b, 0, none⟩), .agg #[v, .int .i64 nx], .agg #[.int .i64 2, .int .u64 wh, .int .i64 na]] w fun e w' => DR T b v ys nx w e w' := by
  have HNE := hid hne
  clear hne
  obtain ⟨ao, cap, rfl⟩ := h.l.form
  obtain ⟨n, hnn⟩ : ∃ n, n = ys.length := ⟨_, rfl⟩
  rw [← hnn] at hl h ⊢
  obtain ⟨W0, hW0⟩ : ∃ W, W = ((w.alloc (.cells #[.slice ao n cap, .int .i64 nx] 28)).alloc (.cells #[.int .i64 2, .int .u64 wh, .int .i64 na] 33)).alloc (.cells #[.slice none 0 0, .int .i64 0] 28) := ⟨_, rfl⟩
  have g0 : Ch NoB w W0 := by rw [hW0]; exact (((Ch.refl NoB w).alloc _).alloc _).alloc _
  have f0 : Tv W0 w.heap.size (.slice ao n cap) nx := by rw [hW0]; exact ((Tv.new w _ _).alloc _).alloc _
  have q0 : Ac W0 (w.heap.size + 1) 2 wh na := by
    have z := Ac.new (w.alloc (.cells #[.slice ao n cap, .int .i64 nx] 28)) 2 wh na
    rw [World.size_alloc] at z
    rw [hW0]
    exact z.alloc _
  have r0 : Tv W0 (w.heap.size + 1 + 1) (.slice none 0 0) 0 := by
    have z := Tv.new ((w.alloc (.cells #[.slice ao n cap, .int .i64 nx] 28)).alloc (.cells #[.int .i64 2, .int .u64 wh, .int .i64 na] 33)) (.slice none 0 0) 0
    rw [World.size_alloc, World.size_alloc] at z
    rw [hW0]
    exact z
  obtain ⟨ks, hks⟩ : ∃ k, k = w.heap.size := ⟨_, rfl⟩
  obtain ⟨ka, hka⟩ : ∃ k, k = w.heap.size + 1 := ⟨_, rfl⟩
  obtain ⟨kr, hkr⟩ : ∃ k, k = w.heap.size + 1 + 1 := ⟨_, rfl⟩
  have HK := hid (show w.heap.size ≤ ks ∧ ks < ka ∧ ka < kr by omega)
  have HN := hid hnn
  have HB0 := hid h
  have HB := hid (h.still g0)
  have HTL := hid h.h.tl
  have HG0 := hid g0
  have HF0 := hid (show Tv W0 ks (.slice ao n cap) nx by rw [hks]; exact f0)
  have HA0 := hid (show Ac W0 ka 2 wh na by rw [hka]; exact q0)
  have HR0 := hid (show Tv W0 kr (.slice none 0 0) 0 by rw [hkr]; exact r0)
  have ntr : ¬ T kr := fun e => by have := HTL.out kr e; have := HK.out; omega
  have nta : ¬ T ka := fun e => by have := HTL.out ka e; have := HK.out; omega
  clear hnn g0 f0 q0 r0 h
  go_enter Try.func9, Try.ntmps9
  go_wp2_with fail
  have e2 : w.heap.size + 2 = w.heap.size + 1 + 1 := rfl
  try rw [e2]
  rw [← hW0]
  try rw [← hkr]
  try rw [← hka]
  rw [← hks]
  clear hW0 hks hkr hka e2
  refine (rdrop_no _ _ ys nx na W0 HB.out.l (by rw [← HN.out]; omega) HNE.out).mono ?_
  rintro e w1 ⟨rfl, g1⟩
  have HG1 := hid g1
  obtain ⟨b0, b1, b2⟩ := (HA0.out.ch g1 (noB _)).cells
  have lb := (HA0.out.ch g1 (noB _)).lt
  clear g1
  go_wp2_with fail
  obtain ⟨W2, hW2⟩ : ∃ W, W = (w1.alloc (.cells #[.slice ao n cap, .int .i64 nx] 28)).alloc (.cells #[.int .u64 0, .int .i64 0, .int .i64 0] 44) := ⟨_, rfl⟩
  obtain ⟨k1, hk1⟩ : ∃ k, k = w1.heap.size := ⟨_, rfl⟩
  obtain ⟨k2, hk2⟩ : ∃ k, k = w1.heap.size + 1 := ⟨_, rfl⟩
  have g2 : Ch NoB w1 W2 := by rw [hW2]; exact ((Ch.refl NoB w1).alloc _).alloc _
  have HT2 := hid (show Tv W2 k1 (.slice ao n cap) nx by rw [hW2, hk1]; exact (Tv.new w1 _ _).alloc _)
  have HX2 := hid (show Th W2 k2 W3.zero by
    have z := Th.new (w1.alloc (.cells #[.slice ao n cap, .int .i64 nx] 28)) W3.zero
    rw [World.size_alloc] at z
    rw [hW2, hk2]
    exact z)
  have HG2 := hid (HG1.out.trans' g2)
  have nk1 : ¬ (k1 = kr) := by have := HR0.out.lt; have := HG1.out.size; omega
  have nk2 : ¬ (k2 = kr) := by have := HR0.out.lt; have := HG1.out.size; omega
  have nt1 : ¬ T k1 := fun e => by have := HTL.out k1 e; have := HG0.out.size; have := HG1.out.size; omega
  have nt2 : ¬ T k2 := fun e => by have := HTL.out k2 e; have := HG0.out.size; have := HG1.out.size; omega
  rw [← hW2]
  try rw [← hk2]
  rw [← hk1]
  clear hW2 hk1 hk2 g2
  clear b0 b1 b2 lb
  refine (drop_no T b xs nx na W2 (HB.out.h.still HG2.out) (fun x hx => HNE.out x (HB.out.p.mem_iff.1 hx))).mono ?_
  rintro e w3 ⟨rfl, hw3⟩
  replace hw3 := hw3.symm
  subst hw3
  have gv := Ch.refl NoB W2
  have R5 := HR0.out.ch HG2.out (noB _)
  have C5 := ((Ch.refl (Only kr) W2).own 0 (.slice ao n cap)).own 1 (.int .i64 nx)
  obtain ⟨d0, d1⟩ := HT2.out.cells
  obtain ⟨d2, d3, d4⟩ := HX2.out.cells
  have ld := HT2.out.lt
  have lx := HX2.out.lt
  obtain ⟨z0, z1⟩ := R5.cells
  obtain ⟨y0, y1⟩ := R5.fz
  have l2 := R5.lt
  have HGF := hid (((HG0.out.trans' HG2.out).trans' gv).trans C5 (fun q e => .inr (by have e1 : q = kr := e; have := HK.out; omega)))
  have HBF := hid (HB0.out.still HGF.out)
  clear gv R5 C5
  go_wp2
  refine bodyPost_ret (v := .tuple #[.agg #[.slice ao n cap, .int .i64 nx], .bool true]) (by simp [results, Try.results9, go_sem, z0, z1]) rfl ?_
  exact ⟨T, _, _, _, _, rfl, HBF.out, HGF.out.any, fun q e => .inl e, Nat.le_succ _, by omega, by omega, .inl ⟨rfl, rfl⟩⟩
end Go.Proofs.Ytkaeccmhfbjcmaa.Hp
