/-
  What does answers and leaves, whatever the act. Condition: the heap and the document's list hold the same nodes, fewer than 4294967296.
-/
import Derived.Test.YtkaeccmhfbjcmaaHpDoes2
import Derived.Handy
namespace Go.Proofs.Ytkaeccmhfbjcmaa.Hp
open Go.RowKit
attribute [local go_sem ↓] Go.wp_at_zero Go.wp_at_succ

set_option maxHeartbeats 4000000 in
theorem does_top (T : Nat → Prop) (b : Nat) (v : Value) (xs ys : List W3) (nx wh na : Int) (x : W3) (p : Nat) (w : World) (h : Bo T w b v xs ys nx) (hl : ys.length < 4294967296) (h0 : 0 ≤ nx) (_hnx : nx < 4294967296) (hx0 : xs[0]? = some x) (hm : Mi ys p x) :
    Calls Try.prog 9 #[.pointer (some ⟨b, 0, none⟩), .agg #[v, .int .i64 nx], .agg #[.int .i64 3, .int .u64 wh, .int .i64 na]] w fun e w' => DR T b v ys nx w e w' := by
  have HX0 := hid hx0
  have HM := hid hm
  have HNY := hid (h.h.nn.perm h.p.symm)
  clear hx0 hm
  obtain ⟨ao, cap, rfl⟩ := h.l.form
  obtain ⟨n, hnn⟩ : ∃ n, n = ys.length := ⟨_, rfl⟩
  rw [← hnn] at hl h ⊢
  obtain ⟨W0, hW0⟩ : ∃ W, W = ((w.alloc (.cells #[.slice ao n cap, .int .i64 nx] 28)).alloc (.cells #[.int .i64 3, .int .u64 wh, .int .i64 na] 33)).alloc (.cells #[.slice none 0 0, .int .i64 0] 28) := ⟨_, rfl⟩
  have g0 : Ch NoB w W0 := by rw [hW0]; exact (((Ch.refl NoB w).alloc _).alloc _).alloc _
  have f0 : Tv W0 w.heap.size (.slice ao n cap) nx := by rw [hW0]; exact ((Tv.new w _ _).alloc _).alloc _
  have q0 : Ac W0 (w.heap.size + 1) 3 wh na := by
    have z := Ac.new (w.alloc (.cells #[.slice ao n cap, .int .i64 nx] 28)) 3 wh na
    rw [World.size_alloc] at z
    rw [hW0]
    exact z.alloc _
  have r0 : Tv W0 (w.heap.size + 1 + 1) (.slice none 0 0) 0 := by
    have z := Tv.new ((w.alloc (.cells #[.slice ao n cap, .int .i64 nx] 28)).alloc (.cells #[.int .i64 3, .int .u64 wh, .int .i64 na] 33)) (.slice none 0 0) 0
    rw [World.size_alloc, World.size_alloc] at z
    rw [hW0]
    exact z
  obtain ⟨ks, hks⟩ : ∃ k, k = w.heap.size := ⟨_, rfl⟩
  obtain ⟨ka, hka⟩ : ∃ k, k = w.heap.size + 1 := ⟨_, rfl⟩
  obtain ⟨kr, hkr⟩ : ∃ k, k = w.heap.size + 1 + 1 := ⟨_, rfl⟩
  have HK := hid (show w.heap.size ≤ ks ∧ ks < ka ∧ ka < kr by omega)
  have HN := hid hnn
  have HB0 := hid h
  have HB := hid (h.still g0)
  have HTL := hid h.h.tl
  have HG0 := hid g0
  have HF0 := hid (show Tv W0 ks (.slice ao n cap) nx by rw [hks]; exact f0)
  have HA0 := hid (show Ac W0 ka 3 wh na by rw [hka]; exact q0)
  have HR0 := hid (show Tv W0 kr (.slice none 0 0) 0 by rw [hkr]; exact r0)
  have ntr : ¬ T kr := fun e => by have := HTL.out kr e; have := HK.out; omega
  have nta : ¬ T ka := fun e => by have := HTL.out ka e; have := HK.out; omega
  clear hnn g0 f0 q0 r0 h
  go_enter Try.func9, Try.ntmps9
  go_wp2_with fail
  have e2 : w.heap.size + 2 = w.heap.size + 1 + 1 := rfl
  try rw [e2]
  rw [← hW0]
  try rw [← hkr]
  try rw [← hka]
  rw [← hks]
  clear hW0 hks hkr hka e2
  refine (rtop_at _ _ ys nx p x W0 HB.out.l (by rw [← HN.out]; omega) HNY.out HM.out).mono ?_
  rintro e w1 ⟨rfl, g1⟩
  have HG1 := hid g1
  clear g1
  go_wp2_with fail
  obtain ⟨W2, hW2⟩ : ∃ W, W = w1.alloc (.cells #[.int .u64 x.w, .int .i64 x.n, .int .i64 x.v] 44) := ⟨_, rfl⟩
  obtain ⟨k2, hk2⟩ : ∃ k, k = w1.heap.size := ⟨_, rfl⟩
  have g2 : Ch NoB w1 W2 := by rw [hW2]; exact (Ch.refl NoB w1).alloc _
  have HX2 := hid (show Th W2 k2 x by rw [hW2, hk2]; exact Th.new w1 x)
  have HG2 := hid (HG1.out.trans' g2)
  have nk1 : ¬ (ks = kr) := by have := HK.out; omega
  have nk2 : ¬ (k2 = kr) := by have := HR0.out.lt; have := HG1.out.size; omega
  rw [← hW2, ← hk2]
  clear hW2 hk2 g2
  refine (top_some T b xs nx x W2 (HB.out.h.still HG2.out) HX0.out).mono ?_
  rintro e w3 ⟨rfl, g3⟩
  have HG3 := hid g3
  clear g3
  go_wp2_with fail
  obtain ⟨V2, hV2⟩ : ∃ W, W = w3.drew := ⟨_, rfl⟩
  have gv : Ch NoB W2 V2 := by rw [hV2]; exact HG3.out.drew
  have T5 := (HF0.out.ch HG2.out (noB _)).ch gv (noB _)
  have X5 := HX2.out.ch gv (noB _)
  have R5 := (HR0.out.ch HG2.out (noB _)).ch gv (noB _)
  have hSV : (V2.cell? ⟨ks, 0, none⟩ = some (.slice ao n cap) ∧ V2.cell? ⟨ks, 1, none⟩ = some (.int .i64 nx)) ∧ V2.cell? ⟨k2, 0, none⟩ = some (.int .u64 x.w) ∧ V2.cell? ⟨k2, 1, none⟩ = some (.int .i64 x.n) ∧ V2.cell? ⟨k2, 2, none⟩ = some (.int .i64 x.v) := ⟨T5.cells, X5.cells⟩
  have hSW : (w3.cell? ⟨ks, 0, none⟩ = some (.slice ao n cap) ∧ w3.cell? ⟨ks, 1, none⟩ = some (.int .i64 nx)) ∧ w3.cell? ⟨k2, 0, none⟩ = some (.int .u64 x.w) ∧ w3.cell? ⟨k2, 1, none⟩ = some (.int .i64 x.n) ∧ w3.cell? ⟨k2, 2, none⟩ = some (.int .i64 x.v) := by
    rw [hV2] at hSV
    exact hSV
  have C5 := ((Ch.refl (Only kr) V2).own 0 (.slice ao n cap)).own 1 (.int .i64 nx)
  have hS5 : (((V2.setCell ⟨kr, 0, none⟩ (.slice ao n cap)).setCell ⟨kr, 1, none⟩ (.int .i64 nx)).cell? ⟨ks, 0, none⟩ = some (.slice ao n cap) ∧ ((V2.setCell ⟨kr, 0, none⟩ (.slice ao n cap)).setCell ⟨kr, 1, none⟩ (.int .i64 nx)).cell? ⟨ks, 1, none⟩ = some (.int .i64 nx)) ∧ ((V2.setCell ⟨kr, 0, none⟩ (.slice ao n cap)).setCell ⟨kr, 1, none⟩ (.int .i64 nx)).cell? ⟨k2, 0, none⟩ = some (.int .u64 x.w) ∧ ((V2.setCell ⟨kr, 0, none⟩ (.slice ao n cap)).setCell ⟨kr, 1, none⟩ (.int .i64 nx)).cell? ⟨k2, 1, none⟩ = some (.int .i64 x.n) ∧ ((V2.setCell ⟨kr, 0, none⟩ (.slice ao n cap)).setCell ⟨kr, 1, none⟩ (.int .i64 nx)).cell? ⟨k2, 2, none⟩ = some (.int .i64 x.v) := ⟨⟨(C5.cell T5.lt (fun e => nk1 e)).trans hSV.1.1, (C5.cell T5.lt (fun e => nk1 e)).trans hSV.1.2⟩, (C5.cell X5.lt (fun e => nk2 e)).trans hSV.2.1, (C5.cell X5.lt (fun e => nk2 e)).trans hSV.2.2.1, (C5.cell X5.lt (fun e => nk2 e)).trans hSV.2.2.2⟩
  obtain ⟨z0, z1⟩ := R5.cells
  obtain ⟨y0, y1⟩ := R5.fz
  have l2 := R5.lt
  have HGF := hid (((HG0.out.trans' HG2.out).trans' gv).trans C5 (fun q e => .inr (by have e1 : q = kr := e; have := HK.out; omega)))
  have HBF := hid (HB0.out.still HGF.out)
  clear gv T5 X5 R5 C5
  refine wp_region_held_drew (S := fun w' => (w'.cell? ⟨ks, 0, none⟩ = some (.slice ao n cap) ∧ w'.cell? ⟨ks, 1, none⟩ = some (.int .i64 nx)) ∧ w'.cell? ⟨k2, 0, none⟩ = some (.int .u64 x.w) ∧ w'.cell? ⟨k2, 1, none⟩ = some (.int .i64 x.n) ∧ w'.cell? ⟨k2, 2, none⟩ = some (.int .i64 x.v)) (by kernel_rfl) (by exact hSW) (fun _ => ?_)
  rw [← hV2]
  clear hV2
  refine takeS_on (i := 0) 126 (v := ?v124) rfl rfl (by kernel_rfl) (by kernel_rfl) (by kernel_rfl) (fun _ _ _ h => h) (by kernel_rfl) ?hy124 (by exact hSV) ?_
  case hy124 => (intro w' hSw; go_simp; try (with_reducible rfl))
  simp only [Act.put, List.setIfInBounds_toArray, List.set_cons_zero, List.set_cons_succ]
  refine takeS_on (i := 1) 127 (v := ?v125) rfl rfl (by kernel_rfl) (by kernel_rfl) (by kernel_rfl) (fun _ _ _ h => h) (by kernel_rfl) ?hy125 (by exact hSV) ?_
  case hy125 => (intro w' hSw; go_simp; try (with_reducible rfl))
  simp only [Act.put, List.setIfInBounds_toArray, List.set_cons_zero, List.set_cons_succ]
  refine takeS_on (i := 2) 128 (v := ?v126) rfl rfl (by kernel_rfl) (by kernel_rfl) (by kernel_rfl) (fun _ _ _ h => h) (by kernel_rfl) ?hy126 (by exact hSV) ?_
  case hy126 => (intro w' hSw; go_simp; try (with_reducible rfl))
  simp only [Act.put, List.setIfInBounds_toArray, List.set_cons_zero, List.set_cons_succ]
  refine takeS_on (i := 3) 129 (v := ?v127) rfl rfl (by kernel_rfl) (by kernel_rfl) (by kernel_rfl) (fun _ _ _ h => h) (by kernel_rfl) ?hy127 (by exact hSV) ?_
  case hy127 => (intro w' hSw; go_simp; try (with_reducible rfl))
  simp only [Act.put, List.setIfInBounds_toArray, List.set_cons_zero, List.set_cons_succ]
  refine takeS_on (i := 4) 130 (v := ?v128) rfl rfl (by kernel_rfl) (by kernel_rfl) (by kernel_rfl) (fun _ _ _ h => h) (by kernel_rfl) ?hy128 (by exact hSV) ?_
  case hy128 => (intro w' hSw; go_simp; try (with_reducible rfl))
  simp only [Act.put, List.setIfInBounds_toArray, List.set_cons_zero, List.set_cons_succ]
  refine takeS_on (i := 5) 131 (v := ?v129) rfl rfl (by kernel_rfl) (by kernel_rfl) (by kernel_rfl) (fun _ _ _ h => h) (by kernel_rfl) ?hy129 (by exact hSV) ?_
  case hy129 => (intro w' hSw; go_simp; try (with_reducible rfl))
  simp only [Act.put, List.setIfInBounds_toArray, List.set_cons_zero, List.set_cons_succ]
  refine takeS_on (i := 6) 132 (v := ?v130) rfl rfl (by kernel_rfl) (by kernel_rfl) (by kernel_rfl) (fun _ _ _ h => h) (by kernel_rfl) ?hy130 (by exact hSV) ?_
  case hy130 => (intro w' hSw; go_simp; try (with_reducible rfl))
  simp only [Act.put, List.setIfInBounds_toArray, List.set_cons_zero, List.set_cons_succ]
  refine takeS_on (i := 7) 133 (v := ?v131) rfl rfl (by kernel_rfl) (by kernel_rfl) (by kernel_rfl) (fun _ _ _ h => h) (by kernel_rfl) ?hy131 (by exact hSV) ?_
  case hy131 => (intro w' hSw; go_simp; try (with_reducible rfl))
  simp only [Act.put, List.setIfInBounds_toArray, List.set_cons_zero, List.set_cons_succ]
  refine takeS_on (i := 8) 134 (v := ?v132) rfl rfl (by kernel_rfl) (by kernel_rfl) (by kernel_rfl) (fun _ _ _ h => h) (by kernel_rfl) ?hy132 (by exact hSV) ?_
  case hy132 => (intro w' hSw; go_simp; try (with_reducible rfl))
  simp only [Act.put, List.setIfInBounds_toArray, List.set_cons_zero, List.set_cons_succ]
  refine takeS_on (i := 9) 135 (v := ?v133) rfl rfl (by kernel_rfl) (by kernel_rfl) (by kernel_rfl) (fun _ _ _ h => h) (by kernel_rfl) ?hy133 (by exact hSV) ?_
  case hy133 => (intro w' hSw; go_simp; try (with_reducible rfl))
  simp only [Act.put, List.setIfInBounds_toArray, List.set_cons_zero, List.set_cons_succ]
  refine takeS_on (i := 10) 136 (v := ?v134) rfl rfl (by kernel_rfl) (by kernel_rfl) (by kernel_rfl) (fun _ _ _ h => h) (by kernel_rfl) ?hy134 (by exact hSV) ?_
  case hy134 => (intro w' hSw; go_simp; try (with_reducible rfl))
  simp only [Act.put, List.setIfInBounds_toArray, List.set_cons_zero, List.set_cons_succ]
  refine takeS_on (i := 11) 137 (v := ?v135) rfl rfl (by kernel_rfl) (by kernel_rfl) (by kernel_rfl) (fun _ _ _ h => h) (by kernel_rfl) ?hy135 (by exact hSV) ?_
  case hy135 => (intro w' hSw; go_simp; try (with_reducible rfl))
  simp only [Act.put, List.setIfInBounds_toArray, List.set_cons_zero, List.set_cons_succ]
  refine wpAnyH_ready (rs := [12]) (by kernel_rfl) (by simp) (AllReadyH.cons rfl (fun K hK => ?_) AllReadyH.nil)
  go_simp
  refine hK.out _ _ (by exact hS5) (fun _ => ?_)
  clear hK K
  refine takeS_on (i := 13) 7 (v := ?v136) rfl rfl (by kernel_rfl) (by kernel_rfl) (by kernel_rfl) (fun _ _ _ h => h) (by kernel_rfl) ?hy136 (by exact hS5) ?_
  case hy136 => (intro w' hSw; go_simp; try (with_reducible rfl))
  simp only [Act.put, List.setIfInBounds_toArray, List.set_cons_zero, List.set_cons_succ]
  refine wpAnyH_done (by kernel_rfl) ?_ _
  go_wp2
  refine bodyPost_ret (v := .tuple #[.agg #[.slice ao n cap, .int .i64 nx], .bool true]) (by simp [results, Try.results9, go_sem, z0, z1]) rfl ?_
  exact ⟨T, _, _, _, _, rfl, HBF.out, HGF.out.any, fun q e => .inl e, Nat.le_succ _, by omega, by omega, .inl ⟨rfl, rfl⟩⟩
set_option maxHeartbeats 4000000 in
theorem does_top0 (T : Nat → Prop) (b : Nat) (v : Value) (xs ys : List W3) (nx wh na : Int) (w : World) (h : Bo T w b v xs ys nx) (_hl : ys.length < 4294967296) (h0 : 0 ≤ nx) (_hnx : nx < 4294967296) (he : ys = []) :
    Calls Try.prog 9 #[.pointer (some ⟨b, 0, none⟩), .agg #[v, .int .i64 nx], .agg #[.int .i64 3, .int .u64 wh, .int .i64 na]] w fun e w' => DR T b v ys nx w e w' := by
  have hex : xs = [] := List.eq_nil_of_length_eq_zero (by rw [h.p.length_eq, he]; rfl)
  have HE := hid he
  have HEX := hid hex
  clear he hex
  obtain ⟨ao, cap, rfl⟩ := h.l.form
  obtain ⟨n, hnn⟩ : ∃ n, n = ys.length := ⟨_, rfl⟩
  rw [← hnn] at _hl h ⊢
  obtain ⟨W0, hW0⟩ : ∃ W, W = ((w.alloc (.cells #[.slice ao n cap, .int .i64 nx] 28)).alloc (.cells #[.int .i64 3, .int .u64 wh, .int .i64 na] 33)).alloc (.cells #[.slice none 0 0, .int .i64 0] 28) := ⟨_, rfl⟩
  have g0 : Ch NoB w W0 := by rw [hW0]; exact (((Ch.refl NoB w).alloc _).alloc _).alloc _
  have f0 : Tv W0 w.heap.size (.slice ao n cap) nx := by rw [hW0]; exact ((Tv.new w _ _).alloc _).alloc _
  have q0 : Ac W0 (w.heap.size + 1) 3 wh na := by
    have z := Ac.new (w.alloc (.cells #[.slice ao n cap, .int .i64 nx] 28)) 3 wh na
    rw [World.size_alloc] at z
    rw [hW0]
    exact z.alloc _
  have r0 : Tv W0 (w.heap.size + 1 + 1) (.slice none 0 0) 0 := by
    have z := Tv.new ((w.alloc (.cells #[.slice ao n cap, .int .i64 nx] 28)).alloc (.cells #[.int .i64 3, .int .u64 wh, .int .i64 na] 33)) (.slice none 0 0) 0
    rw [World.size_alloc, World.size_alloc] at z
    rw [hW0]
    exact z
  obtain ⟨ks, hks⟩ : ∃ k, k = w.heap.size := ⟨_, rfl⟩
  obtain ⟨ka, hka⟩ : ∃ k, k = w.heap.size + 1 := ⟨_, rfl⟩
  obtain ⟨kr, hkr⟩ : ∃ k, k = w.heap.size + 1 + 1 := ⟨_, rfl⟩
  have HK := hid (show w.heap.size ≤ ks ∧ ks < ka ∧ ka < kr by omega)
  have HN := hid hnn
  have HB0 := hid h
  have HB := hid (h.still g0)
  have HTL := hid h.h.tl
  have HG0 := hid g0
  have HF0 := hid (show Tv W0 ks (.slice ao n cap) nx by rw [hks]; exact f0)
  have HA0 := hid (show Ac W0 ka 3 wh na by rw [hka]; exact q0)
  have HR0 := hid (show Tv W0 kr (.slice none 0 0) 0 by rw [hkr]; exact r0)
  have ntr : ¬ T kr := fun e => by have := HTL.out kr e; have := HK.out; omega
  have nta : ¬ T ka := fun e => by have := HTL.out ka e; have := HK.out; omega
  clear hnn g0 f0 q0 r0 h
  go_enter Try.func9, Try.ntmps9
  go_wp2_with fail
  have e2 : w.heap.size + 2 = w.heap.size + 1 + 1 := rfl
  try rw [e2]
  rw [← hW0]
  try rw [← hkr]
  try rw [← hka]
  rw [← hks]
  clear hW0 hks hkr hka e2
  refine (rtop_none _ nx W0 (fun q => ¬ T q) (by have := HB.out.l; rw [HE.out] at this; exact this)).mono ?_
  rintro e w1 ⟨rfl, g1⟩
  have HG1 := hid g1
  clear g1
  go_wp2_with fail
  obtain ⟨W2, hW2⟩ : ∃ W, W = w1.alloc (.cells #[.int .u64 0, .int .i64 0, .int .i64 0] 44) := ⟨_, rfl⟩
  obtain ⟨k2, hk2⟩ : ∃ k, k = w1.heap.size := ⟨_, rfl⟩
  have g2 : Ch NoB w1 W2 := by rw [hW2]; exact (Ch.refl NoB w1).alloc _
  have HX2 := hid (show Th W2 k2 W3.zero by rw [hW2, hk2]; exact Th.new w1 W3.zero)
  have HG2 := hid (HG1.out.trans' g2)
  have nk1 : ¬ (ks = kr) := by have := HK.out; omega
  have nk2 : ¬ (k2 = kr) := by have := HR0.out.lt; have := HG1.out.size; omega
  rw [← hW2, ← hk2]
  clear hW2 hk2 g2
  refine (top_none T b nx W2 (by have := HB.out.h.still HG2.out; rw [HEX.out] at this; exact this)).mono ?_
  rintro e w3 ⟨rfl, hw3⟩
  have g3 : Ch NoB W2 w3 := by rw [hw3]; exact Ch.refl _ _
  clear hw3
  have HG3 := hid g3
  clear g3
  go_wp2_with fail
  obtain ⟨V2, hV2⟩ : ∃ W, W = w3.drew := ⟨_, rfl⟩
  have gv : Ch NoB W2 V2 := by rw [hV2]; exact HG3.out.drew
  have T5 := (HF0.out.ch HG2.out (noB _)).ch gv (noB _)
  have X5 := HX2.out.ch gv (noB _)
  have R5 := (HR0.out.ch HG2.out (noB _)).ch gv (noB _)
  have hSV : (V2.cell? ⟨ks, 0, none⟩ = some (.slice ao n cap) ∧ V2.cell? ⟨ks, 1, none⟩ = some (.int .i64 nx)) ∧ V2.cell? ⟨k2, 0, none⟩ = some (.int .u64 0) ∧ V2.cell? ⟨k2, 1, none⟩ = some (.int .i64 0) ∧ V2.cell? ⟨k2, 2, none⟩ = some (.int .i64 0) := ⟨T5.cells, X5.cells⟩
  have hSW : (w3.cell? ⟨ks, 0, none⟩ = some (.slice ao n cap) ∧ w3.cell? ⟨ks, 1, none⟩ = some (.int .i64 nx)) ∧ w3.cell? ⟨k2, 0, none⟩ = some (.int .u64 0) ∧ w3.cell? ⟨k2, 1, none⟩ = some (.int .i64 0) ∧ w3.cell? ⟨k2, 2, none⟩ = some (.int .i64 0) := by
    rw [hV2] at hSV
    exact hSV
  have C5 := ((Ch.refl (Only kr) V2).own 0 (.slice ao n cap)).own 1 (.int .i64 nx)
  have hS5 : (((V2.setCell ⟨kr, 0, none⟩ (.slice ao n cap)).setCell ⟨kr, 1, none⟩ (.int .i64 nx)).cell? ⟨ks, 0, none⟩ = some (.slice ao n cap) ∧ ((V2.setCell ⟨kr, 0, none⟩ (.slice ao n cap)).setCell ⟨kr, 1, none⟩ (.int .i64 nx)).cell? ⟨ks, 1, none⟩ = some (.int .i64 nx)) ∧ ((V2.setCell ⟨kr, 0, none⟩ (.slice ao n cap)).setCell ⟨kr, 1, none⟩ (.int .i64 nx)).cell? ⟨k2, 0, none⟩ = some (.int .u64 0) ∧ ((V2.setCell ⟨kr, 0, none⟩ (.slice ao n cap)).setCell ⟨kr, 1, none⟩ (.int .i64 nx)).cell? ⟨k2, 1, none⟩ = some (.int .i64 0) ∧ ((V2.setCell ⟨kr, 0, none⟩ (.slice ao n cap)).setCell ⟨kr, 1, none⟩ (.int .i64 nx)).cell? ⟨k2, 2, none⟩ = some (.int .i64 0) := ⟨⟨(C5.cell T5.lt (fun e => nk1 e)).trans hSV.1.1, (C5.cell T5.lt (fun e => nk1 e)).trans hSV.1.2⟩, (C5.cell X5.lt (fun e => nk2 e)).trans hSV.2.1, (C5.cell X5.lt (fun e => nk2 e)).trans hSV.2.2.1, (C5.cell X5.lt (fun e => nk2 e)).trans hSV.2.2.2⟩
  obtain ⟨z0, z1⟩ := R5.cells
  obtain ⟨y0, y1⟩ := R5.fz
  have l2 := R5.lt
  have HGF := hid (((HG0.out.trans' HG2.out).trans' gv).trans C5 (fun q e => .inr (by have e1 : q = kr := e; have := HK.out; omega)))
  have HBF := hid (HB0.out.still HGF.out)
  clear gv T5 X5 R5 C5
  refine wp_region_held_drew (S := fun w' => (w'.cell? ⟨ks, 0, none⟩ = some (.slice ao n cap) ∧ w'.cell? ⟨ks, 1, none⟩ = some (.int .i64 nx)) ∧ w'.cell? ⟨k2, 0, none⟩ = some (.int .u64 0) ∧ w'.cell? ⟨k2, 1, none⟩ = some (.int .i64 0) ∧ w'.cell? ⟨k2, 2, none⟩ = some (.int .i64 0)) (by kernel_rfl) (by exact hSW) (fun _ => ?_)
  rw [← hV2]
  clear hV2
  refine takeS_on (i := 0) 126 (v := ?v137) rfl rfl (by kernel_rfl) (by kernel_rfl) (by kernel_rfl) (fun _ _ _ h => h) (by kernel_rfl) ?hy137 (by exact hSV) ?_
  case hy137 => (intro w' hSw; go_simp; try (with_reducible rfl))
  simp only [Act.put, List.setIfInBounds_toArray, List.set_cons_zero, List.set_cons_succ]
  refine takeS_on (i := 1) 127 (v := ?v138) rfl rfl (by kernel_rfl) (by kernel_rfl) (by kernel_rfl) (fun _ _ _ h => h) (by kernel_rfl) ?hy138 (by exact hSV) ?_
  case hy138 => (intro w' hSw; go_simp; try (with_reducible rfl))
  simp only [Act.put, List.setIfInBounds_toArray, List.set_cons_zero, List.set_cons_succ]
  refine takeS_on (i := 2) 128 (v := ?v139) rfl rfl (by kernel_rfl) (by kernel_rfl) (by kernel_rfl) (fun _ _ _ h => h) (by kernel_rfl) ?hy139 (by exact hSV) ?_
  case hy139 => (intro w' hSw; go_simp; try (with_reducible rfl))
  simp only [Act.put, List.setIfInBounds_toArray, List.set_cons_zero, List.set_cons_succ]
  refine takeS_on (i := 3) 129 (v := ?v140) rfl rfl (by kernel_rfl) (by kernel_rfl) (by kernel_rfl) (fun _ _ _ h => h) (by kernel_rfl) ?hy140 (by exact hSV) ?_
  case hy140 => (intro w' hSw; go_simp; try (with_reducible rfl))
  simp only [Act.put, List.setIfInBounds_toArray, List.set_cons_zero, List.set_cons_succ]
  refine takeS_on (i := 4) 130 (v := ?v141) rfl rfl (by kernel_rfl) (by kernel_rfl) (by kernel_rfl) (fun _ _ _ h => h) (by kernel_rfl) ?hy141 (by exact hSV) ?_
  case hy141 => (intro w' hSw; go_simp; try (with_reducible rfl))
  simp only [Act.put, List.setIfInBounds_toArray, List.set_cons_zero, List.set_cons_succ]
  refine takeS_on (i := 5) 131 (v := ?v142) rfl rfl (by kernel_rfl) (by kernel_rfl) (by kernel_rfl) (fun _ _ _ h => h) (by kernel_rfl) ?hy142 (by exact hSV) ?_
  case hy142 => (intro w' hSw; go_simp; try (with_reducible rfl))
  simp only [Act.put, List.setIfInBounds_toArray, List.set_cons_zero, List.set_cons_succ]
  refine takeS_on (i := 6) 132 (v := ?v143) rfl rfl (by kernel_rfl) (by kernel_rfl) (by kernel_rfl) (fun _ _ _ h => h) (by kernel_rfl) ?hy143 (by exact hSV) ?_
  case hy143 => (intro w' hSw; go_simp; try (with_reducible rfl))
  simp only [Act.put, List.setIfInBounds_toArray, List.set_cons_zero, List.set_cons_succ]
  refine takeS_on (i := 7) 133 (v := ?v144) rfl rfl (by kernel_rfl) (by kernel_rfl) (by kernel_rfl) (fun _ _ _ h => h) (by kernel_rfl) ?hy144 (by exact hSV) ?_
  case hy144 => (intro w' hSw; go_simp; try (with_reducible rfl))
  simp only [Act.put, List.setIfInBounds_toArray, List.set_cons_zero, List.set_cons_succ]
  refine takeS_on (i := 8) 134 (v := ?v145) rfl rfl (by kernel_rfl) (by kernel_rfl) (by kernel_rfl) (fun _ _ _ h => h) (by kernel_rfl) ?hy145 (by exact hSV) ?_
  case hy145 => (intro w' hSw; go_simp; try (with_reducible rfl))
  simp only [Act.put, List.setIfInBounds_toArray, List.set_cons_zero, List.set_cons_succ]
  refine takeS_on (i := 9) 135 (v := ?v146) rfl rfl (by kernel_rfl) (by kernel_rfl) (by kernel_rfl) (fun _ _ _ h => h) (by kernel_rfl) ?hy146 (by exact hSV) ?_
  case hy146 => (intro w' hSw; go_simp; try (with_reducible rfl))
  simp only [Act.put, List.setIfInBounds_toArray, List.set_cons_zero, List.set_cons_succ]
  refine takeS_on (i := 10) 136 (v := ?v147) rfl rfl (by kernel_rfl) (by kernel_rfl) (by kernel_rfl) (fun _ _ _ h => h) (by kernel_rfl) ?hy147 (by exact hSV) ?_
  case hy147 => (intro w' hSw; go_simp; try (with_reducible rfl))
  simp only [Act.put, List.setIfInBounds_toArray, List.set_cons_zero, List.set_cons_succ]
  refine takeS_on (i := 11) 137 (v := ?v148) rfl rfl (by kernel_rfl) (by kernel_rfl) (by kernel_rfl) (fun _ _ _ h => h) (by kernel_rfl) ?hy148 (by exact hSV) ?_
  case hy148 => (intro w' hSw; go_simp; try (with_reducible rfl))
  simp only [Act.put, List.setIfInBounds_toArray, List.set_cons_zero, List.set_cons_succ]
  refine wpAnyH_ready (rs := [12]) (by kernel_rfl) (by simp) (AllReadyH.cons rfl (fun K hK => ?_) AllReadyH.nil)
  go_simp
  refine hK.out _ _ (by exact hS5) (fun _ => ?_)
  clear hK K
  refine takeS_on (i := 13) 7 (v := ?v149) rfl rfl (by kernel_rfl) (by kernel_rfl) (by kernel_rfl) (fun _ _ _ h => h) (by kernel_rfl) ?hy149 (by exact hS5) ?_
  case hy149 => (intro w' hSw; go_simp; try (with_reducible rfl))
  simp only [Act.put, List.setIfInBounds_toArray, List.set_cons_zero, List.set_cons_succ]
  refine wpAnyH_done (by kernel_rfl) ?_ _
  go_wp2
  refine bodyPost_ret (v := .tuple #[.agg #[.slice ao n cap, .int .i64 nx], .bool true]) (by simp [results, Try.results9, go_sem, z0, z1]) rfl ?_
  exact ⟨T, _, _, _, _, rfl, HBF.out, HGF.out.any, fun q e => .inl e, Nat.le_succ _, by omega, by omega, .inl ⟨rfl, rfl⟩⟩
set_option maxHeartbeats 4000000 in
theorem does_told (T : Nat → Prop) (b : Nat) (v : Value) (xs ys : List W3) (nx wh na : Int) (kd : Int) (w : World) (h : Bo T w b v xs ys nx) (hl : ys.length < 4294967296) (h0 : 0 ≤ nx) (_hnx : nx < 4294967296) (k0 : ¬ kd = 0) (k1 : ¬ kd = 1) (k2 : ¬ kd = 2) (k3 : ¬ kd = 3) :
    Calls Try.prog 9 #[.pointer (some ⟨b, 0, none⟩), .agg #[v, .int .i64 nx], .agg #[.int .i64 kd, .int .u64 wh, .int .i64 na]] w fun e w' => DR T b v ys nx w e w' := by
  have b0 : (kd == 0) = false := beq_eq_false_iff_ne.2 k0
  have b1 : (kd == 1) = false := beq_eq_false_iff_ne.2 k1
  have b2 : (kd == 2) = false := beq_eq_false_iff_ne.2 k2
  have b3 : (kd == 3) = false := beq_eq_false_iff_ne.2 k3
  obtain ⟨ao, cap, rfl⟩ := h.l.form
  obtain ⟨n, hnn⟩ : ∃ n, n = ys.length := ⟨_, rfl⟩
  rw [← hnn] at hl h ⊢
  obtain ⟨W0, hW0⟩ : ∃ W, W = ((w.alloc (.cells #[.slice ao n cap, .int .i64 nx] 28)).alloc (.cells #[.int .i64 kd, .int .u64 wh, .int .i64 na] 33)).alloc (.cells #[.slice none 0 0, .int .i64 0] 28) := ⟨_, rfl⟩
  have g0 : Ch NoB w W0 := by rw [hW0]; exact (((Ch.refl NoB w).alloc _).alloc _).alloc _
  have f0 : Tv W0 w.heap.size (.slice ao n cap) nx := by rw [hW0]; exact ((Tv.new w _ _).alloc _).alloc _
  have q0 : Ac W0 (w.heap.size + 1) kd wh na := by
    have z := Ac.new (w.alloc (.cells #[.slice ao n cap, .int .i64 nx] 28)) kd wh na
    rw [World.size_alloc] at z
    rw [hW0]
    exact z.alloc _
  have r0 : Tv W0 (w.heap.size + 1 + 1) (.slice none 0 0) 0 := by
    have z := Tv.new ((w.alloc (.cells #[.slice ao n cap, .int .i64 nx] 28)).alloc (.cells #[.int .i64 kd, .int .u64 wh, .int .i64 na] 33)) (.slice none 0 0) 0
    rw [World.size_alloc, World.size_alloc] at z
    rw [hW0]
    exact z
  obtain ⟨ks, hks⟩ : ∃ k, k = w.heap.size := ⟨_, rfl⟩
  obtain ⟨ka, hka⟩ : ∃ k, k = w.heap.size + 1 := ⟨_, rfl⟩
  obtain ⟨kr, hkr⟩ : ∃ k, k = w.heap.size + 1 + 1 := ⟨_, rfl⟩
  have HK := hid (show w.heap.size ≤ ks ∧ ks < ka ∧ ka < kr by omega)
  have HN := hid hnn
  have HB0 := hid h
  have HB := hid (h.still g0)
  have HTL := hid h.h.tl
  have HG0 := hid g0
  have HF0 := hid (show Tv W0 ks (.slice ao n cap) nx by rw [hks]; exact f0)
  have HA0 := hid (show Ac W0 ka kd wh na by rw [hka]; exact q0)
  have HR0 := hid (show Tv W0 kr (.slice none 0 0) 0 by rw [hkr]; exact r0)
  have ntr : ¬ T kr := fun e => by have := HTL.out kr e; have := HK.out; omega
  have nta : ¬ T ka := fun e => by have := HTL.out ka e; have := HK.out; omega
  clear hnn g0 f0 q0 r0 h
  go_enter Try.func9, Try.ntmps9
  go_wp2_with fail
  have e2 : w.heap.size + 2 = w.heap.size + 1 + 1 := rfl
  try rw [e2]
  rw [← hW0]
  try rw [← hkr]
  try rw [← hka]
  rw [← hks]
  clear hW0 hks hkr hka e2
  obtain ⟨V2, hV2⟩ : ∃ W, W = W0.drew := ⟨_, rfl⟩
  have HGV := hid (show Ch NoB W0 V2 by rw [hV2]; exact (Ch.refl _ _).drew)
  have hSV : (V2.cell? ⟨ks, 0, none⟩ = some (.slice ao n cap) ∧ V2.cell? ⟨ks, 1, none⟩ = some (.int .i64 nx)) ∧ V2.cell? ⟨ka, 2, none⟩ = some (.int .i64 na) := ⟨(HF0.out.ch HGV.out (noB _)).cells, (HA0.out.ch HGV.out (noB _)).cells.2.2⟩
  have hSW : (W0.cell? ⟨ks, 0, none⟩ = some (.slice ao n cap) ∧ W0.cell? ⟨ks, 1, none⟩ = some (.int .i64 nx)) ∧ W0.cell? ⟨ka, 2, none⟩ = some (.int .i64 na) := by
    rw [hV2] at hSV
    exact hSV
  have lks : ks < V2.heap.size := (HF0.out.ch HGV.out (noB _)).lt
  have lka : ka < V2.heap.size := (HA0.out.ch HGV.out (noB _)).lt
  have nk1 : ¬ (ks = kr) := by have := HK.out; omega
  have nk2 : ¬ (ka = kr) := by have := HK.out; omega
  refine wp_region_held_drew (S := fun w' => (w'.cell? ⟨ks, 0, none⟩ = some (.slice ao n cap) ∧ w'.cell? ⟨ks, 1, none⟩ = some (.int .i64 nx)) ∧ w'.cell? ⟨ka, 2, none⟩ = some (.int .i64 na)) (by kernel_rfl) (by exact hSW) (fun _ => ?_)
  rw [← hV2]
  clear hV2
  refine takeS_on (i := 0) 138 (v := ?v150) rfl rfl (by kernel_rfl) (by kernel_rfl) (by kernel_rfl) (fun _ _ _ h => h) (by kernel_rfl) ?hy150 (by exact hSV) ?_
  case hy150 => (intro w' hSw; go_simp; try (with_reducible rfl))
  simp only [Act.put, List.setIfInBounds_toArray, List.set_cons_zero, List.set_cons_succ]
  refine takeS_on (i := 1) 139 (v := ?v151) rfl rfl (by kernel_rfl) (by kernel_rfl) (by kernel_rfl) (fun _ _ _ h => h) (by kernel_rfl) ?hy151 (by exact hSV) ?_
  case hy151 => (intro w' hSw; go_simp; try (with_reducible rfl))
  simp only [Act.put, List.setIfInBounds_toArray, List.set_cons_zero, List.set_cons_succ]
  refine takeS_on (i := 2) 140 (v := ?v152) rfl rfl (by kernel_rfl) (by kernel_rfl) (by kernel_rfl) (fun _ _ _ h => h) (by kernel_rfl) ?hy152 (by exact hSV) ?_
  case hy152 => (intro w' hSw; go_simp; try (with_reducible rfl))
  simp only [Act.put, List.setIfInBounds_toArray, List.set_cons_zero, List.set_cons_succ]
  refine takeS_on (i := 3) 141 (v := ?v153) rfl rfl (by kernel_rfl) (by kernel_rfl) (by kernel_rfl) (fun _ _ _ h => h) (by kernel_rfl) ?hy153 (by exact hSV) ?_
  case hy153 => (intro w' hSw; go_simp; try (with_reducible rfl))
  simp only [Act.put, List.setIfInBounds_toArray, List.set_cons_zero, List.set_cons_succ]
  refine takeS_on (i := 4) 142 (v := ?v154) rfl rfl (by kernel_rfl) (by kernel_rfl) (by kernel_rfl) (fun _ _ _ h => h) (by kernel_rfl) ?hy154 (by exact hSV) ?_
  case hy154 => (intro w' hSw; go_simp; try (with_reducible rfl))
  simp only [Act.put, List.setIfInBounds_toArray, List.set_cons_zero, List.set_cons_succ]
  refine wpAnyH_ready (rs := [5]) (by kernel_rfl) (by simp) (AllReadyH.cons rfl (fun K hK => ?_) AllReadyH.nil)
  go_simp
  refine (told_any T b _ xs ys nx na V2 (HB.out.still HGV.out) (by rw [← HN.out]; omega)).mono ?_
  rintro e w3 ⟨rfl, g3⟩
  have hS3 : (w3.cell? ⟨ks, 0, none⟩ = some (.slice ao n cap) ∧ w3.cell? ⟨ks, 1, none⟩ = some (.int .i64 nx)) ∧ w3.cell? ⟨ka, 2, none⟩ = some (.int .i64 na) := ⟨⟨(g3.cell lks (noB _)).trans hSV.1.1, (g3.cell lks (noB _)).trans hSV.1.2⟩, (g3.cell lka (noB _)).trans hSV.2⟩
  have lks3 := Nat.lt_of_lt_of_le lks g3.size
  have lka3 := Nat.lt_of_lt_of_le lka g3.size
  have gv := Ch.refl NoB w3
  have HG2 := hid (HGV.out.trans' g3)
  have R5 := HR0.out.ch HG2.out (noB _)
  have C5 := ((Ch.refl (Only kr) w3).own 0 (.slice ao n cap)).own 1 (.int .i64 nx)
  have hS5 : (((w3.setCell ⟨kr, 0, none⟩ (.slice ao n cap)).setCell ⟨kr, 1, none⟩ (.int .i64 nx)).cell? ⟨ks, 0, none⟩ = some (.slice ao n cap) ∧ ((w3.setCell ⟨kr, 0, none⟩ (.slice ao n cap)).setCell ⟨kr, 1, none⟩ (.int .i64 nx)).cell? ⟨ks, 1, none⟩ = some (.int .i64 nx)) ∧ ((w3.setCell ⟨kr, 0, none⟩ (.slice ao n cap)).setCell ⟨kr, 1, none⟩ (.int .i64 nx)).cell? ⟨ka, 2, none⟩ = some (.int .i64 na) := ⟨⟨(C5.cell lks3 (fun e => nk1 e)).trans hS3.1.1, (C5.cell lks3 (fun e => nk1 e)).trans hS3.1.2⟩, (C5.cell lka3 (fun e => nk2 e)).trans hS3.2⟩
  obtain ⟨z0, z1⟩ := R5.cells
  obtain ⟨y0, y1⟩ := R5.fz
  have l2 := R5.lt
  have HGF := hid (((HG0.out.trans' HG2.out).trans' gv).trans C5 (fun q e => .inr (by have e1 : q = kr := e; have := HK.out; omega)))
  have HBF := hid (HB0.out.still HGF.out)
  clear gv R5 C5 g3
  refine hK.out _ _ (by exact hS3) (fun _ => ?_)
  clear hK K
  refine wpAnyH_ready (rs := [6]) (by kernel_rfl) (by simp) (AllReadyH.cons rfl (fun K hK => ?_) AllReadyH.nil)
  go_simp
  refine hK.out _ _ (by exact hS5) (fun _ => ?_)
  clear hK K
  refine takeS_on (i := 7) 7 (v := ?v155) rfl rfl (by kernel_rfl) (by kernel_rfl) (by kernel_rfl) (fun _ _ _ h => h) (by kernel_rfl) ?hy155 (by exact hS5) ?_
  case hy155 => (intro w' hSw; go_simp; try (with_reducible rfl))
  simp only [Act.put, List.setIfInBounds_toArray, List.set_cons_zero, List.set_cons_succ]
  refine wpAnyH_done (by kernel_rfl) ?_ _
  go_wp2
  refine bodyPost_ret (v := .tuple #[.agg #[.slice ao n cap, .int .i64 nx], .bool true]) (by simp [results, Try.results9, go_sem, z0, z1]) rfl ?_
  exact ⟨T, _, _, _, _, rfl, HBF.out, HGF.out.any, fun q e => .inl e, Nat.le_succ _, by omega, by omega, .inl ⟨rfl, rfl⟩⟩
theorem does_any (T : Nat → Prop) (b : Nat) (v : Value) (xs ys : List W3) (nx kd wh na : Int) (w : World) (h : Bo T w b v xs ys nx) (hl : ys.length < 4294967296) (h0 : 0 ≤ nx) (hnx : nx < 4294967296) :
    Calls Try.prog 9 #[.pointer (some ⟨b, 0, none⟩), .agg #[v, .int .i64 nx], .agg #[.int .i64 kd, .int .u64 wh, .int .i64 na]] w fun e w' => DR T b v ys nx w e w' := by
  have hroot : ys ≠ [] → ∃ x p, xs[0]? = some x ∧ Mi ys p x := fun hne => by
    cases hxs : xs with
    | nil =>
      have := h.p.length_eq
      rw [hxs] at this
      exact absurd (List.eq_nil_of_length_eq_zero this.symm) hne
    | cons x r =>
      have hx0 : xs[0]? = some x := by rw [hxs]; rfl
      obtain ⟨p, hp⟩ := List.mem_iff_getElem?.1 (h.p.mem_iff.1 (List.mem_of_getElem? hx0))
      refine ⟨x, p, rfl, hp, fun i y hy => ?_⟩
      obtain ⟨j, hj⟩ := List.mem_iff_getElem?.1 (h.p.mem_iff.2 (List.mem_of_getElem? hy))
      exact h.h.hp.root hx0 j y hj
  by_cases k0 : kd = 0
  · subst k0
    exact does_push T b v xs ys nx wh na w h hl h0 hnx
  by_cases k1 : kd = 1
  · subst k1
    by_cases he : ys = []
    · exact does_pop0 T b v xs ys nx wh na w h hl h0 hnx he
    · obtain ⟨x, p, hx, hm⟩ := hroot he
      exact does_pop T b v xs ys nx wh na x p w h hl h0 hnx hx hm
  by_cases k2 : kd = 2
  · subst k2
    by_cases he : ∃ x ∈ ys, x.n = na
    · obtain ⟨x, hx, rfl⟩ := he
      obtain ⟨i, hi⟩ := List.mem_iff_getElem?.1 hx
      obtain ⟨p, hp⟩ := List.mem_iff_getElem?.1 (h.p.mem_iff.2 hx)
      exact does_drop T b v xs ys nx wh x p i w h hl h0 hnx hp hi
    · exact does_drop0 T b v xs ys nx wh na w h hl h0 hnx (fun x hx e => he ⟨x, hx, e⟩)
  by_cases k3 : kd = 3
  · subst k3
    by_cases he : ys = []
    · exact does_top0 T b v xs ys nx wh na w h hl h0 hnx he
    · obtain ⟨x, p, hx, hm⟩ := hroot he
      exact does_top T b v xs ys nx wh na x p w h hl h0 hnx hx hm
  · exact does_told T b v xs ys nx wh na kd w h hl h0 hnx k0 k1 k2 k3
end Go.Proofs.Ytkaeccmhfbjcmaa.Hp
