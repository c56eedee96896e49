/-
  What the document's Flush answers. Condition: the state is there, and no list of it is too long.
-/
import Derived.Test.YtfbkifkfhgkdbabSbRefA
namespace Go.Proofs.Ytfbkifkfhgkdbab.Sb
open Go.RowKit
open Classical
attribute [local go_sem ↓] Go.wp_at_zero Go.wp_at_succ

set_option maxHeartbeats 2000000 in
theorem rflush_bad (P : Nat → Prop) (p L : Int) (vg va vc vf : Value) (cv : List Value) (x : Sl) (w : World) (h : Rd P w vg va vc vf cv x) (ht : x.Fits) (hp : ¬ HasP x p) :
    Calls Try.prog 41 #[.agg #[.int .i64 L, vg, va, vc, vf], .int .i64 p] w fun e w' => e = .returned (.tuple #[.agg #[.int .i64 L, vg, va, vc, vf], .int .i64 1]) ∧ Ch NoB w w' := by
  obtain ⟨ga, gc, rfl⟩ := h.g.form
  obtain ⟨aa, ac, rfl⟩ := h.a.form
  obtain ⟨ca, cc, rfl⟩ := h.c.form
  obtain ⟨fa, fc, rfl⟩ := h.f.form
  obtain ⟨nG, hnG⟩ : ∃ n, n = (iv x.G).length := ⟨_, rfl⟩
  obtain ⟨nA, hnA⟩ : ∃ n, n = (bv x.A).length := ⟨_, rfl⟩
  obtain ⟨nC, hnC⟩ : ∃ n, n = cv.length := ⟨_, rfl⟩
  obtain ⟨nF, hnF⟩ : ∃ n, n = (iv x.F).length := ⟨_, rfl⟩
  rw [← hnG, ← hnA, ← hnC, ← hnF] at h
  rw [← hnG, ← hnA, ← hnC, ← hnF]
  obtain ⟨W0, hW0⟩ : ∃ W0, W0 = (w.alloc (.cells #[.int .i64 L, .slice ga nG gc, .slice aa nA ac, .slice ca nC cc, .slice fa nF fc] 45)).alloc (.cells #[.int .i64 0, .slice none 0 0, .slice none 0 0, .slice none 0 0, .slice none 0 0] 45) := ⟨_, rfl⟩
  have g0 : Ch NoB w W0 := by rw [hW0]; exact ((Ch.refl NoB w).alloc _).alloc _
  have f0 : Fv 45 W0 w.heap.size (.int .i64 L) (.slice ga nG gc) (.slice aa nA ac) (.slice ca nC cc) (.slice fa nF fc) := by rw [hW0]; exact (Fv.new 45 w _ _ _ _ _).alloc _
  have r0 : Fv 45 W0 (w.heap.size + 1) (.int .i64 0) (.slice none 0 0) (.slice none 0 0) (.slice none 0 0) (.slice none 0 0) := by
    have z := Fv.new 45 (w.alloc (.cells #[.int .i64 L, .slice ga nG gc, .slice aa nA ac, .slice ca nC cc, .slice fa nF fc] 45)) (.int .i64 0) (.slice none 0 0) (.slice none 0 0) (.slice none 0 0) (.slice none 0 0)
    rw [World.size_alloc] at z
    rw [hW0]
    exact z
  have hr := (h.mono (Q := fun g => g < w.heap.size) (fun g a _ => a)).ch g0 (fun _ _ _ => noB _)
  have HPR := hid (rproc_any _ L p _ _ _ _ cv x W0 hr)
  have HCP := hid (fun (W : World) (k : Ch NoB W0 W) => copy_any L _ _ _ _ cv x _ W (hr.ch k (fun _ _ _ => noB _)) ht)
  have HF0 := hid f0
  have HR0 := hid r0
  have HG0 := hid g0
  have HnG := hid hnG
  have HnA := hid hnA
  have HnF := hid hnF
  have HnC := hid (show nC = x.C.length by rw [hnC, h.e.1])
  have HT := hid ht
  have hl0 := r0.lt
  have HP := hid hp
  clear h hr f0 r0 g0 hnG hnA hnC hnF ht hp
  go_enter Try.func41, Try.ntmps41
  go_wp2_with fail
  rw [← hW0]
  clear hW0
  refine HPR.out.mono ?_
  rintro e w1 ⟨rfl, g1⟩
  rw [show decide (HasP x p) = false from decide_eq_false HP.out]
  have F1 := HF0.out.ch g1 (noB _)
  have R1 := HR0.out.ch g1 (noB _)
  obtain ⟨c0, c1, c2, c3, c4⟩ := F1.cells
  obtain ⟨z0, z1, z2, z3, z4⟩ := R1.cells
  obtain ⟨zf0, zf1, zf2, zf3, zf4⟩ := R1.fz
  have l1 := F1.lt
  have l2 := R1.lt
  have HG1 := hid g1
  clear F1 R1 g1
  go_wp2
  have C5 := (((((Ch.refl (Only (w.heap.size + 1)) w1).own 0 (.int .i64 L)).own 1 (.slice ga nG gc)).own 2 (.slice aa nA ac)).own 3 (.slice ca nC cc)).own 4 (.slice fa nF fc)
  exact bodyPost_ret (v := .tuple #[.agg #[.int .i64 L, .slice ga nG gc, .slice aa nA ac, .slice ca nC cc, .slice fa nF fc], .int .i64 1]) (by simp [results, Try.results41, go_sem, z0, z1, z2, z3, z4]) rfl ⟨rfl, (HG0.out.trans' HG1.out).trans C5 (fun q e => .inr (by have e1 : q = w.heap.size + 1 := e; omega))⟩

set_option maxHeartbeats 4000000 in
theorem rflush_good (P : Nat → Prop) (p : Nat) (L : Int) (vg va vc vf : Value) (cv : List Value) (x : Sl) (c : List Int) (w : World) (h : Rd P w vg va vc vf cv x) (ht : x.Fits) (hc : x.C[p]? = some c) :
    Calls Try.prog 41 #[.agg #[.int .i64 L, vg, va, vc, vf], .int .i64 (p : Int)] w fun e w' => ∃ vg' va' vc' vf' cv', e = .returned (.tuple #[.agg #[.int .i64 L, vg', va', vc', vf'], .int .i64 0]) ∧ St w.heap.size w' vg' va' vc' vf' cv' (flushS x p c) ∧ Ch NoB w w' := by
  obtain ⟨ga, gc, rfl⟩ := h.g.form
  obtain ⟨aa, ac, rfl⟩ := h.a.form
  obtain ⟨ca, cc, rfl⟩ := h.c.form
  obtain ⟨fa, fc, rfl⟩ := h.f.form
  obtain ⟨nG, hnG⟩ : ∃ n, n = (iv x.G).length := ⟨_, rfl⟩
  obtain ⟨nA, hnA⟩ : ∃ n, n = (bv x.A).length := ⟨_, rfl⟩
  obtain ⟨nC, hnC⟩ : ∃ n, n = cv.length := ⟨_, rfl⟩
  obtain ⟨nF, hnF⟩ : ∃ n, n = (iv x.F).length := ⟨_, rfl⟩
  rw [← hnG, ← hnA, ← hnC, ← hnF] at h
  rw [← hnG, ← hnA, ← hnC, ← hnF]
  obtain ⟨W0, hW0⟩ : ∃ W0, W0 = (w.alloc (.cells #[.int .i64 L, .slice ga nG gc, .slice aa nA ac, .slice ca nC cc, .slice fa nF fc] 45)).alloc (.cells #[.int .i64 0, .slice none 0 0, .slice none 0 0, .slice none 0 0, .slice none 0 0] 45) := ⟨_, rfl⟩
  have g0 : Ch NoB w W0 := by rw [hW0]; exact ((Ch.refl NoB w).alloc _).alloc _
  have f0 : Fv 45 W0 w.heap.size (.int .i64 L) (.slice ga nG gc) (.slice aa nA ac) (.slice ca nC cc) (.slice fa nF fc) := by rw [hW0]; exact (Fv.new 45 w _ _ _ _ _).alloc _
  have r0 : Fv 45 W0 (w.heap.size + 1) (.int .i64 0) (.slice none 0 0) (.slice none 0 0) (.slice none 0 0) (.slice none 0 0) := by
    have z := Fv.new 45 (w.alloc (.cells #[.int .i64 L, .slice ga nG gc, .slice aa nA ac, .slice ca nC cc, .slice fa nF fc] 45)) (.int .i64 0) (.slice none 0 0) (.slice none 0 0) (.slice none 0 0) (.slice none 0 0)
    rw [World.size_alloc] at z
    rw [hW0]
    exact z
  have hr := (h.mono (Q := fun g => g < w.heap.size) (fun g a _ => a)).ch g0 (fun _ _ _ => noB _)
  have HPR := hid (rproc_any _ L (p : Int) _ _ _ _ cv x W0 hr)
  have HCP := hid (fun (W : World) (k : Ch NoB W0 W) => copy_any L _ _ _ _ cv x _ W (hr.ch k (fun _ _ _ => noB _)) ht)
  have HF0 := hid f0
  have HR0 := hid r0
  have HG0 := hid g0
  have HnG := hid hnG
  have HnA := hid hnA
  have HnF := hid hnF
  have HnC := hid (show nC = x.C.length by rw [hnC, h.e.1])
  have HT := hid ht
  have hl0 := r0.lt
  have HC := hid hc
  have HP := hid (show HasP x (p : Int) from ⟨by omega, by have := (List.getElem?_eq_some_iff.1 hc).1; omega⟩)
  clear h hr f0 r0 g0 hnG hnA hnC hnF ht hc
  go_enter Try.func41, Try.ntmps41
  go_wp2_with fail
  rw [← hW0]
  clear hW0
  refine HPR.out.mono ?_
  rintro e w1 ⟨rfl, g1⟩
  rw [show decide (HasP x (p : Int)) = true from decide_eq_true HP.out]
  have F1 := HF0.out.ch g1 (noB _)
  obtain ⟨c0, c1, c2, c3, c4⟩ := F1.cells
  have l1 := F1.lt
  have HG1 := hid g1
  have HF1 := hid F1
  clear F1 g1
  go_wp2_with fail
  refine (HCP.out w1 HG1.out).mono ?_
  rintro e w2 ⟨vg2, va2, vc2, vf2, cu, rfl, s2, g2⟩
  obtain ⟨a1, q1, rfl⟩ := s2.g.form
  obtain ⟨a2, q2, rfl⟩ := s2.a.form
  obtain ⟨a3, q3, rfl⟩ := s2.c.form
  obtain ⟨a4, q4, rfl⟩ := s2.f.form
  have hcu : cu.length = nC := by rw [s2.cl, HnC.out]
  rw [← HnG.out, ← HnA.out, hcu, ← HnF.out] at s2 ⊢
  have F2 := HF1.out.ch g2 (noB _)
  have hb1 : w.heap.size + 1 < w1.heap.size := Nat.lt_of_lt_of_le hl0 HG1.out.size
  have hb2 := g2.size
  obtain ⟨W3, hW3⟩ : ∃ W, W = ((((w2.setCell ⟨w.heap.size, 0, none⟩ (.int .i64 L)).setCell ⟨w.heap.size, 1, none⟩ (.slice a1 nG q1)).setCell ⟨w.heap.size, 2, none⟩ (.slice a2 nA q2)).setCell ⟨w.heap.size, 3, none⟩ (.slice a3 nC q3)).setCell ⟨w.heap.size, 4, none⟩ (.slice a4 nF q4) := ⟨_, rfl⟩
  have C3 : Ch (Only w.heap.size) w2 W3 := by rw [hW3]; exact (((((Ch.refl (Only w.heap.size) w2).own 0 _).own 1 _).own 2 _).own 3 _).own 4 _
  have F3 : Fv 45 W3 w.heap.size (.int .i64 L) (.slice a1 nG q1) (.slice a2 nA q2) (.slice a3 nC q3) (.slice a4 nF q4) := by rw [hW3]; exact setCell_block (setCell_block (setCell_block (setCell_block (setCell_block F2 0 _) 1 _) 2 _) 3 _) 4 _
  have s3 := s2.ch C3 (fun q a e => by have := (s2.blk a).1; have e1 : q = w.heap.size := e; omega)
  have HS3 := hid s3
  have HF3 := hid F3
  have HG3 := hid ((HG0.out.trans' (HG1.out.trans' g2)).trans C3 (fun q e => .inr (by have e1 : q = w.heap.size := e; omega)))
  have HR3 := hid (((HR0.out.ch HG1.out (noB _)).ch g2 (noB _)).ch C3 (fun e => by have e1 : w.heap.size + 1 = w.heap.size := e; omega))
  have hb3 : w1.heap.size ≤ W3.heap.size := Nat.le_trans hb2 C3.size
  clear c0 c1 c2 c3 c4 l1
  obtain ⟨c0, c1, c2, c3, c4⟩ := F2.cells
  obtain ⟨y0, y1, y2, y3, y4⟩ := F2.fz
  have l2 := F2.lt
  clear F2 C3 s2 g2 F3 s3
  go_wp2_with fail
  rw [← hW3]
  clear hW3 c0 c1 c2 c3 c4 y0 y1 y2 y3 y4 l2
  obtain ⟨c0, c1, c2, c3, c4⟩ := HF3.out.cells
  obtain ⟨y0, y1, y2, y3, y4⟩ := HF3.out.fz
  have l3 := HF3.out.lt
  have hpc : p < x.C.length := (List.getElem?_eq_some_iff.1 HC.out).1
  have hpn : p < nC := by rw [HnC.out]; exact hpc
  obtain ⟨u, hu⟩ : ∃ u, cu[p]? = some u := ⟨_, List.getElem?_eq_getElem (by rw [hcu]; exact hpn)⟩
  have hou := HS3.out.e p u c hu HC.out
  obtain ⟨ua, uc, rfl⟩ := hou.form
  obtain ⟨nU, hnU⟩ : ∃ n, n = (iv c).length := ⟨_, rfl⟩
  rw [← hnU] at hou hu
  obtain ⟨g1, rfl, hg1b, hg1, hcap1, d0, df, -⟩ := HS3.out.c.get1 hu
  have hucap := hou.len.2
  have b3 : (0 : Int) ≤ (p : Int) := by omega
  have b4 : (p : Int) < (nC : Int) := by omega
  have hne1 : ¬ (w.heap.size = g1) := by omega
  have hne2 : ¬ (g1 = w.heap.size) := by omega
  have HU := hid hu
  have HOU := hid hou
  have hnUl : nU ≤ 4294967296 := by rw [hnU, iv_length]; exact HT.out.e p c HC.out
  have hnFl : nF ≤ 4294967296 := by rw [HnF.out, iv_length]; exact HT.out.f
  have HLen := hid (show nF + nU = (iv x.F).length + (iv c).length by rw [HnF.out, hnU])
  clear hu hou hnU
  refine wp_region_held_drew (S := fun w' => w'.cell? ⟨w.heap.size, 3, none⟩ = some (.slice (some ⟨g1, 0, none⟩) nC q3) ∧ w'.cell? ⟨g1, p, none⟩ = some (.slice ua nU uc)) (by kernel_rfl) (by exact ⟨c3, d0⟩) (fun _ => ?_)
  refine takeS_on (i := 0) 13 (v := ?v92) rfl rfl (by kernel_rfl) (by kernel_rfl) (by kernel_rfl) (fun _ _ _ h => h) (by kernel_rfl) ?hy92 (by exact ⟨c3, d0⟩) ?_
  case hy92 => (intro w' hSw; go_simp; try (with_reducible rfl))
  simp only [Act.put, List.setIfInBounds_toArray, List.set_cons_zero, List.set_cons_succ]
  refine takeS_on (i := 2) 15 (v := ?v93) rfl rfl (by kernel_rfl) (by kernel_rfl) (by kernel_rfl) (fun _ _ _ h => h) (by kernel_rfl) ?hy93 (by exact ⟨c3, d0⟩) ?_
  case hy93 => (intro w' hSw; go_simp; try (with_reducible rfl))
  simp only [Act.put, List.setIfInBounds_toArray, List.set_cons_zero, List.set_cons_succ]
  refine takeS_on (i := 3) 16 (v := ?v94) rfl rfl (by kernel_rfl) (by kernel_rfl) (by kernel_rfl) (fun _ _ _ h => h) (by kernel_rfl) ?hy94 (by exact ⟨c3, d0⟩) ?_
  case hy94 => (intro w' hSw; go_simp; try (with_reducible rfl))
  simp only [Act.put, List.setIfInBounds_toArray, List.set_cons_zero, List.set_cons_succ]
  refine takeS_on (i := 4) 17 (v := ?v95) rfl rfl (by kernel_rfl) (by kernel_rfl) (by kernel_rfl) (fun _ _ _ h => h) (by kernel_rfl) ?hy95 (by exact ⟨c3, d0⟩) ?_
  case hy95 => (intro w' hSw; go_simp; try (with_reducible rfl))
  simp only [Act.put, List.setIfInBounds_toArray, List.set_cons_zero, List.set_cons_succ]
  refine takeS_on (i := 5) 18 (v := ?v96) rfl rfl (by kernel_rfl) (by kernel_rfl) (by kernel_rfl) (fun _ _ _ h => h) (by kernel_rfl) ?hy96 (by exact ⟨c3, d0⟩) ?_
  case hy96 => (intro w' hSw; go_simp; try (with_reducible rfl))
  simp only [Act.put, List.setIfInBounds_toArray, List.set_cons_zero, List.set_cons_succ]
  refine takeS_on (i := 6) 19 (v := ?v97) rfl rfl (by kernel_rfl) (by kernel_rfl) (by kernel_rfl) (fun _ _ _ h => h) (by kernel_rfl) ?hy97 (by exact ⟨c3, d0⟩) ?_
  case hy97 => (intro w' hSw; go_simp; try (with_reducible rfl))
  simp only [Act.put, List.setIfInBounds_toArray, List.set_cons_zero, List.set_cons_succ]
  refine wpAnyH_ready (rs := [1]) (by kernel_rfl) (by simp) (AllReadyH.cons rfl (fun K hK => ?_) AllReadyH.nil)
  go_simp
  refine hK.out _ _ (by exact ⟨c3, d0⟩) (fun _ => ?_)
  clear hK K
  refine wpAnyH_ready (rs := [7]) (by kernel_rfl) (by simp) (AllReadyH.cons rfl (fun K hK => ?_) AllReadyH.nil)
  refine step_append_ow rfl (.tmp 14) (.tmp 19) 41 3 8 (.int .i64 0) Try.underlying41 int_info rfl rfl w1.heap.size (.slice a4 nF q4) (iv x.F) (by simp [Act.eval]) HS3.out.f.drew _ (.slice ua nU uc) (iv c) (by simp [Act.eval]) HOU.out.lstB.drew (iv_one _) (nF + nU) HLen.out (by omega) (by unfold maxLen; omega) (by simpa using hb3) (iv (x.F ++ c)) (by rw [iv_append]) ?_
  intro ao2 cap2 w4 o4 g4' bl4
  have G4 := ((Ch.refl (Blk (.slice a4 nF q4)) W3).drew).trans' g4'
  have F4 := HF3.out.ch G4 (fun e => by have := (HS3.out.f.blk e).1; omega)
  obtain ⟨e0, e1, e2, e3, e4⟩ := F4.cells
  obtain ⟨z0, z1, z2, z3, z4⟩ := F4.fz
  have l4 := F4.lt
  have d4 := (G4.cell (o := p) hg1 (HS3.out.cf g1 rfl)).trans d0
  have s4 := HS3.out.free G4 o4 (fun q e => bl4 q e)
  have HS4 := hid s4
  have HG4 := hid G4
  have HF4 := hid F4
  have HB4 := hid (show ∀ q, Blk (.slice ao2 (nF + nU) cap2) q → w1.heap.size ≤ q from fun q e => (o4.blk e).1)
  clear o4 g4' bl4 G4 F4 s4
  refine hK.out _ _ (by exact ⟨e3, d4⟩) (fun _ => ?_)
  change wpAnyH _ _ _ _ _ _ _ (Act.put _ (some 20) _) _
  simp only [Act.put, List.setIfInBounds_toArray, List.set_cons_zero, List.set_cons_succ]
  clear hK K
  refine takeS_on (i := 8) 21 (v := ?v98) rfl rfl (by kernel_rfl) (by kernel_rfl) (by kernel_rfl) (fun _ _ _ h => h) (by kernel_rfl) ?hy98 (by exact ⟨e3, d4⟩) ?_
  case hy98 => (intro w' hSw; go_simp; try (with_reducible rfl))
  simp only [Act.put, List.setIfInBounds_toArray, List.set_cons_zero, List.set_cons_succ]
  refine wpAnyH_ready (rs := [9]) (by kernel_rfl) (by simp) (AllReadyH.cons rfl (fun K hK => ?_) AllReadyH.nil)
  go_simp
  obtain ⟨W5, hW5⟩ : ∃ W, W = w4.setCell ⟨w.heap.size, 4, none⟩ (.slice ao2 (nF + nU) cap2) := ⟨_, rfl⟩
  have C5 : Ch (Only w.heap.size) w4 W5 := by rw [hW5]; exact (Ch.refl _ _).own _ _
  have F5 : Fv 45 W5 w.heap.size (.int .i64 L) (.slice a1 nG q1) (.slice a2 nA q2) (.slice (some ⟨g1, 0, none⟩) nC q3) (.slice ao2 (nF + nU) cap2) := by rw [hW5]; exact setCell_block HF4.out 4 _
  have s5 := HS4.out.ch C5 (fun q a e => by have := (HS4.out.blk a).1; have e1 : q = w.heap.size := e; omega)
  rw [← hW5]
  clear hW5 c0 c1 c2 c3 c4 y0 y1 y2 y3 y4 d0 df e0 e1 e2 e3 e4 z0 z1 z2 z3 z4 d4
  obtain ⟨c0, c1, c2, c3, c4⟩ := F5.cells
  obtain ⟨g', e', -, hg5, -, d0, df, -⟩ := s5.c.get1 HU.out
  cases e'
  have l5 := F5.lt
  have HR5 := hid ((HR3.out.ch HG4.out (fun e => by have := (HS3.out.f.blk e).1; omega)).ch C5 (fun e => by have e1 : w.heap.size + 1 = w.heap.size := e; omega))
  have HG5 := hid ((HG3.out.trans HG4.out (fun q e => .inr (by have := (HS3.out.f.blk e).1; omega))).trans C5 (fun q e => .inr (by have e1 : q = w.heap.size := e; omega)))
  have HS5 := hid s5
  have HF5 := hid F5
  clear s5 F5 C5
  refine hK.out _ _ (by exact ⟨c3, d0⟩) (fun _ => ?_)
  clear hK K
  refine wpAnyH_done (by kernel_rfl) ?_ _
  obtain ⟨z0, z1, z2, z3, z4⟩ := HR5.out.cells
  obtain ⟨zf0, zf1, zf2, zf3, zf4⟩ := HR5.out.fz
  have zl := HR5.out.lt
  have m1 : ¬ (g1 = w.heap.size + 1) := by omega
  have m2 : ¬ (w.heap.size + 1 = g1) := by omega
  go_wp2
  have s6 := HS5.out.cache (u' := .slice none 0 0) (c' := []) HU.out (Ch.refl _ W5) (Ow.nil _ _ _) (fun q e => by cases e)
  have C6 := (Ch.refl (Only g1) W5).own p (.slice none 0 0)
  obtain ⟨W6, hW6⟩ : ∃ W, W = W5.setCell ⟨g1, p, none⟩ (.slice none 0 0) := ⟨_, rfl⟩
  rw [← hW6] at s6 C6 ⊢
  have C7 := (((((Ch.refl (Only (w.heap.size + 1)) W6).own 0 (.int .i64 L)).own 1 (.slice a1 nG q1)).own 2 (.slice a2 nA q2)).own 3 (.slice (some ⟨g1, 0, none⟩) nC q3)).own 4 (.slice ao2 (nF + nU) cap2)
  exact bodyPost_ret (v := .tuple #[.agg #[.int .i64 L, .slice a1 nG q1, .slice a2 nA q2, .slice (some ⟨g1, 0, none⟩) nC q3, .slice ao2 (nF + nU) cap2], .int .i64 0]) (by simp [results, Try.results41, go_sem, hW6, z0, z1, z2, z3, z4]) rfl ⟨_, _, _, _, _, rfl, (s6.ch C7 (fun q a e => by have := (s6.blk a).1; have e1 : q = w.heap.size + 1 := e; omega)).lower (by omega), (HG5.out.trans C6 (fun q e => .inr (by have e1 : q = g1 := e; omega))).trans C7 (fun q e => .inr (by have e1 : q = w.heap.size + 1 := e; omega))⟩
end Go.Proofs.Ytfbkifkfhgkdbab.Sb
