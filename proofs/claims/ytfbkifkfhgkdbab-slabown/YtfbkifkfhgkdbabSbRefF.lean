/-
  What the document's Take answers, where the P's own cache and the domain's list are empty. Condition: the state is there, no list of it is too long.
-/
import Derived.Test.YtfbkifkfhgkdbabSbRefE
namespace Go.Proofs.Ytfbkifkfhgkdbab.Sb
open Go.RowKit
open Classical
attribute [local go_sem ↓] Go.wp_at_zero Go.wp_at_succ

set_option maxRecDepth 100000 in
set_option maxHeartbeats 8000000 in
theorem rtake_made (P : Nat → Prop) (p : Nat) (L : Int) (vg va vc vf : Value) (cv : List Value) (x : Sl) (w : World) (h : Rd P w vg va vc vf cv x) (ht : x.Fits) (hc : x.C[p]? = some []) (hF : x.F = []) (hl : (x.G.length : Int) < L) (hgl : x.G.length ≤ 4294967295) (hal : x.A.length ≤ 4294967295) (hag : x.A.length = x.G.length) :
    Calls Try.prog 39 #[.agg #[.int .i64 L, vg, va, vc, vf], .int .i64 (p : Int)] w fun e w' => Toldn L (x.G.length : Int) 1 0 (givenS (makeS x) x.G.length 0) w e w' := by
  obtain ⟨ga, gc, rfl⟩ := h.g.form
  obtain ⟨aa, ac, rfl⟩ := h.a.form
  obtain ⟨ca, cc, rfl⟩ := h.c.form
  obtain ⟨fa, fc, rfl⟩ := h.f.form
  obtain ⟨nG, hnG⟩ : ∃ n, n = (iv x.G).length := ⟨_, rfl⟩
  obtain ⟨nA, hnA⟩ : ∃ n, n = (bv x.A).length := ⟨_, rfl⟩
  obtain ⟨nC, hnC⟩ : ∃ n, n = cv.length := ⟨_, rfl⟩
  obtain ⟨nF, hnF⟩ : ∃ n, n = (iv x.F).length := ⟨_, rfl⟩
  rw [← hnG, ← hnA, ← hnC, ← hnF] at h
  rw [← hnG, ← hnA, ← hnC, ← hnF]
  obtain ⟨W0, hW0⟩ : ∃ W0, W0 = ((w.alloc (.cells #[.int .i64 L, .slice ga nG gc, .slice aa nA ac, .slice ca nC cc, .slice fa nF fc] 45)).alloc (.cells #[.int .i64 0, .slice none 0 0, .slice none 0 0, .slice none 0 0, .slice none 0 0] 45)).alloc (.cells #[.int .i64 0, .int .i64 0] 34) := ⟨_, rfl⟩
  have g0 : Ch NoB w W0 := by rw [hW0]; exact (((Ch.refl NoB w).alloc _).alloc _).alloc _
  have f0 : Fv 45 W0 w.heap.size (.int .i64 L) (.slice ga nG gc) (.slice aa nA ac) (.slice ca nC cc) (.slice fa nF fc) := by rw [hW0]; exact ((Fv.new 45 w _ _ _ _ _).alloc _).alloc _
  have r0 : Fv 45 W0 (w.heap.size + 1) (.int .i64 0) (.slice none 0 0) (.slice none 0 0) (.slice none 0 0) (.slice none 0 0) := by
    have z := Fv.new 45 (w.alloc (.cells #[.int .i64 L, .slice ga nG gc, .slice aa nA ac, .slice ca nC cc, .slice fa nF fc] 45)) (.int .i64 0) (.slice none 0 0) (.slice none 0 0) (.slice none 0 0) (.slice none 0 0)
    rw [World.size_alloc] at z
    rw [hW0]
    exact z.alloc _
  have k0 : W0.heap[w.heap.size + 1 + 1]? = some (.cells #[.int .i64 0, .int .i64 0] 34 (0, 0)) := by
    rw [hW0]
    have z := (MapKept.heap_alloc ((w.alloc (.cells #[.int .i64 L, .slice ga nG gc, .slice aa nA ac, .slice ca nC cc, .slice fa nF fc] 45)).alloc (.cells #[.int .i64 0, .slice none 0 0, .slice none 0 0, .slice none 0 0, .slice none 0 0] 45)) (.cells #[.int .i64 0, .int .i64 0] 34)).1
    simpa using z
  have HK0 := hid k0
  have hk0 := lt_of_block k0
  have hr := (h.mono (Q := fun g => g < w.heap.size) (fun g a _ => a)).ch g0 (fun _ _ _ => noB _)
  have HPR := hid (rproc_any _ L (p : Int) _ _ _ _ cv x W0 hr)
  have HCP := hid (fun (W : World) (k : Ch NoB W0 W) => copy_any L _ _ _ _ cv x _ W (hr.ch k (fun _ _ _ => noB _)) ht)
  have HF0 := hid f0
  have HR0 := hid r0
  have HG0 := hid g0
  have HnG := hid hnG
  have HnA := hid hnA
  have HnF := hid hnF
  have HnC := hid (show nC = x.C.length by rw [hnC, h.e.1])
  have HT := hid ht
  have hl0 := r0.lt
  have HC := hid hc
  have HNF0 := hid (show nF = 0 by rw [hnF, hF]; rfl)
  have HXE := hid (show x = { x with C := x.C.set p [], F := [] } by
    have e1 : x.C.set p [] = x.C := by
      apply List.ext_getElem?
      intro i
      by_cases hi : i = p
      · subst hi
        rw [List.getElem?_set_self (List.getElem?_eq_some_iff.1 hc).1, hc]
      · rw [List.getElem?_set_ne (fun e => hi e.symm)]
    rw [e1, ← hF])
  have HP := hid (show HasP x (p : Int) from ⟨by omega, by have := (List.getElem?_eq_some_iff.1 hc).1; omega⟩)
  have HGL := hid (show x.G.length = nG by rw [hnG, iv_length])
  have hGl : nG ≤ 4294967295 := by rw [← HGL.out]; exact hgl
  have hAl : nA ≤ 4294967295 := by rw [hnA, bv_length]; exact hal
  have HLen1 := hid (show nG + 1 = (iv x.G).length + [Value.int .i64 0].length by rw [hnG]; rfl)
  have HLen2 := hid (show nA + 1 = (bv x.A).length + [Value.bool false].length by rw [hnA]; rfl)
  have HAG := hid hag
  rw [HGL.out] at hl ⊢
  have m1 : decide ((nG : Int) < L) = true := decide_eq_true hl
  have m2 : (nG : Int) < L := hl
  have mw : IntKind.i64.wrap ((nG : Int) + 1 - 1) = (nG : Int) := by rw [IntKind.wrap_i64]; omega
  clear hgl hal hag hl
  clear h hr f0 r0 g0 k0 hnG hnA hnC hnF ht hc hF
  go_enter Try.func39, Try.ntmps39
  go_wp2_with fail
  rw [← hW0]
  clear hW0
  refine HPR.out.mono ?_
  rintro e w1 ⟨rfl, g1⟩
  rw [show decide (HasP x (p : Int)) = true from decide_eq_true HP.out]
  have F1 := HF0.out.ch g1 (noB _)
  obtain ⟨c0, c1, c2, c3, c4⟩ := F1.cells
  have l1 := F1.lt
  have HG1 := hid g1
  have HF1 := hid F1
  clear F1 g1
  go_wp2_with fail
  refine (HCP.out w1 HG1.out).mono ?_
  rintro e w2 ⟨vg2, va2, vc2, vf2, cu, rfl, s2, g2⟩
  obtain ⟨a1, q1, rfl⟩ := s2.g.form
  obtain ⟨a2, q2, rfl⟩ := s2.a.form
  obtain ⟨a3, q3, rfl⟩ := s2.c.form
  obtain ⟨a4, q4, rfl⟩ := s2.f.form
  have hcu : cu.length = nC := by rw [s2.cl, HnC.out]
  rw [← HnG.out, ← HnA.out, hcu, ← HnF.out] at s2 ⊢
  have F2 := HF1.out.ch g2 (noB _)
  have hb1 : w.heap.size + 1 + 1 < w1.heap.size := Nat.lt_of_lt_of_le hk0 HG1.out.size
  have hb2 := g2.size
  obtain ⟨W3, hW3⟩ : ∃ W, W = ((((w2.setCell ⟨w.heap.size, 0, none⟩ (.int .i64 L)).setCell ⟨w.heap.size, 1, none⟩ (.slice a1 nG q1)).setCell ⟨w.heap.size, 2, none⟩ (.slice a2 nA q2)).setCell ⟨w.heap.size, 3, none⟩ (.slice a3 nC q3)).setCell ⟨w.heap.size, 4, none⟩ (.slice a4 nF q4) := ⟨_, rfl⟩
  have C3 : Ch (Only w.heap.size) w2 W3 := by rw [hW3]; exact (((((Ch.refl (Only w.heap.size) w2).own 0 _).own 1 _).own 2 _).own 3 _).own 4 _
  have F3 : Fv 45 W3 w.heap.size (.int .i64 L) (.slice a1 nG q1) (.slice a2 nA q2) (.slice a3 nC q3) (.slice a4 nF q4) := by rw [hW3]; exact setCell_block (setCell_block (setCell_block (setCell_block (setCell_block F2 0 _) 1 _) 2 _) 3 _) 4 _
  have s3 := s2.ch C3 (fun q a e => by have := (s2.blk a).1; have e1 : q = w.heap.size := e; omega)
  have HS3 := hid s3
  have HS2 := hid s2
  have HC3 := hid C3
  have HF3 := hid F3
  have HG3 := hid ((HG0.out.trans' (HG1.out.trans' g2)).trans C3 (fun q e => .inr (by have e1 : q = w.heap.size := e; omega)))
  have K2 := (g2.block _ (lt_of_block ((HG1.out.block _ (lt_of_block HK0.out) (noB _)).trans HK0.out)) (noB _)).trans ((HG1.out.block _ (lt_of_block HK0.out) (noB _)).trans HK0.out)
  have HK3 := hid ((C3.block _ (lt_of_block K2) (fun e => by have e1 : w.heap.size + 1 + 1 = w.heap.size := e; omega)).trans K2)
  have HR3 := hid (((HR0.out.ch HG1.out (noB _)).ch g2 (noB _)).ch C3 (fun e => by have e1 : w.heap.size + 1 = w.heap.size := e; omega))
  have hb3 : w1.heap.size ≤ W3.heap.size := Nat.le_trans hb2 C3.size
  clear c0 c1 c2 c3 c4 l1
  obtain ⟨c0, c1, c2, c3, c4⟩ := F2.cells
  obtain ⟨y0, y1, y2, y3, y4⟩ := F2.fz
  have l2 := F2.lt
  clear F2 C3 s2 g2 F3 s3 K2
  have hpc : p < x.C.length := (List.getElem?_eq_some_iff.1 HC.out).1
  have hpn : p < nC := by rw [HnC.out]; exact hpc
  obtain ⟨u, hu⟩ : ∃ u, cu[p]? = some u := ⟨_, List.getElem?_eq_getElem (by rw [hcu]; exact hpn)⟩
  have hou := HS2.out.e p u [] hu HC.out
  obtain ⟨ua, uc, rfl⟩ := hou.form
  obtain ⟨nU, hnU⟩ : ∃ n, n = (iv []).length := ⟨_, rfl⟩
  rw [← hnU] at hou hu
  obtain ⟨g1, rfl, hg1b, hg1, hcap1, d0, df, -⟩ := HS2.out.c.get1 hu
  have hucap := hou.len.2
  have b3 : (0 : Int) ≤ (p : Int) := by omega
  have b4 : (p : Int) < (nC : Int) := by omega
  have hne1 : ¬ (w.heap.size = g1) := by omega
  have hne2 : ¬ (g1 = w.heap.size) := by omega
  have HU := hid hu
  have HOU := hid hou
  have hU0 : nU = 0 := hnU
  subst hU0
  have hnF0 := HNF0.out
  subst hnF0
  have hne3 : ¬ (w.heap.size + 1 = g1) := by omega
  have hne4 : ¬ (g1 = w.heap.size + 1) := by omega
  have hne5 : ¬ (w.heap.size + 1 + 1 = g1) := by omega
  have hne6 : ¬ (g1 = w.heap.size + 1 + 1) := by omega
  have hqF := HS3.out.f.len.2
  clear hu hou hnU
  cases a4 with
  | none =>
    have hq0 := HS3.out.f.lst.len.2.2 rfl
    subst hq0
    have HI8 := hid (fun (W : World) (k1 : Ch NoB W3 W) => ints_any (fun _ => True) (.slice none 0 0) [] W (Ls.nil _ _) (by simp))
    go_wp2_with fail
    rw [← hW3]
    clear hW3 c0 c1 c2 c3 c4 y0 y1 y2 y3 y4 l2 d0 df
    obtain ⟨c0, c1, c2, c3, c4⟩ := HF3.out.cells
    have l3 := HF3.out.lt
    obtain ⟨g', e', -, -, -, d0, df, -⟩ := HS3.out.c.get1 HU.out
    cases e'
    refine wp_region_held_drew (S := fun w' => w'.cell? ⟨w.heap.size, 3, none⟩ = some (.slice (some ⟨g1, 0, none⟩) nC q3) ∧ w'.cell? ⟨w.heap.size, 4, none⟩ = some (.slice none 0 0)) (by kernel_rfl) (by exact ⟨c3, c4⟩) (fun _ => ?_)
    refine takeS_on (i := 0) 33 (v := ?v110) rfl rfl (by kernel_rfl) (by kernel_rfl) (by kernel_rfl) (fun _ _ _ h => h) (by kernel_rfl) ?hy110 (by exact ⟨c3, c4⟩) ?_
    case hy110 => (intro w' hSw; go_simp; try (with_reducible rfl))
    simp only [Act.put, List.setIfInBounds_toArray, List.set_cons_zero, List.set_cons_succ]
    refine takeS_on (i := 1) 34 (v := ?v111) rfl rfl (by kernel_rfl) (by kernel_rfl) (by kernel_rfl) (fun _ _ _ h => h) (by kernel_rfl) ?hy111 (by exact ⟨c3, c4⟩) ?_
    case hy111 => (intro w' hSw; go_simp; try (with_reducible rfl))
    simp only [Act.put, List.setIfInBounds_toArray, List.set_cons_zero, List.set_cons_succ]
    refine takeS_on (i := 2) 35 (v := ?v112) rfl rfl (by kernel_rfl) (by kernel_rfl) (by kernel_rfl) (fun _ _ _ h => h) (by kernel_rfl) ?hy112 (by exact ⟨c3, c4⟩) ?_
    case hy112 => (intro w' hSw; go_simp; try (with_reducible rfl))
    simp only [Act.put, List.setIfInBounds_toArray, List.set_cons_zero, List.set_cons_succ]
    refine takeS_on (i := 3) 36 (v := ?v113) rfl rfl (by kernel_rfl) (by kernel_rfl) (by kernel_rfl) (fun _ _ _ h => h) (by kernel_rfl) ?hy113 (by exact ⟨c3, c4⟩) ?_
    case hy113 => (intro w' hSw; go_simp; try (with_reducible rfl))
    simp only [Act.put, List.setIfInBounds_toArray, List.set_cons_zero, List.set_cons_succ]
    refine takeS_on (i := 4) 37 (v := ?v114) rfl rfl (by kernel_rfl) (by kernel_rfl) (by kernel_rfl) (fun _ _ _ h => h) (by kernel_rfl) ?hy114 (by exact ⟨c3, c4⟩) ?_
    case hy114 => (intro w' hSw; go_simp; try (with_reducible rfl))
    simp only [Act.put, List.setIfInBounds_toArray, List.set_cons_zero, List.set_cons_succ]
    refine takeS_on (i := 5) 38 (v := ?v115) rfl rfl (by kernel_rfl) (by kernel_rfl) (by kernel_rfl) (fun _ _ _ h => h) (by kernel_rfl) ?hy115 (by exact ⟨c3, c4⟩) ?_
    case hy115 => (intro w' hSw; go_simp; try (with_reducible rfl))
    simp only [Act.put, List.setIfInBounds_toArray, List.set_cons_zero, List.set_cons_succ]
    refine takeS_on (i := 6) 39 (v := ?v116) rfl rfl (by kernel_rfl) (by kernel_rfl) (by kernel_rfl) (fun _ _ _ h => h) (by kernel_rfl) ?hy116 (by exact ⟨c3, c4⟩) ?_
    case hy116 => (intro w' hSw; go_simp; try (with_reducible rfl))
    simp only [Act.put, List.setIfInBounds_toArray, List.set_cons_zero, List.set_cons_succ]
    refine wpAnyH_ready (rs := [7]) (by kernel_rfl) (by simp) (AllReadyH.cons rfl (fun K hK => ?_) AllReadyH.nil)
    go_simp
    refine (HI8.out _ ((Ch.refl NoB W3).drew)).mono ?_
    rintro e w5 ⟨v5, rfl, o5, g5'⟩
    obtain ⟨a5, q5, rfl⟩ := o5.form
    rw [show (iv ([] : List Int)).length = 0 from rfl] at o5 ⊢
    have g5 : Ch NoB W3 w5 := ((Ch.refl NoB W3).drew).trans' g5'
    have F5 := HF3.out.ch g5 (noB _)
    obtain ⟨e0, e1', e2, e3, e4⟩ := F5.cells
    have l5 := F5.lt
    obtain ⟨g', e', -, hg5, -, d5, df5, -⟩ := (HS3.out.c.ch g5 (fun _ _ => noB _)).get1 HU.out
    cases e'
    refine hK.out _ _ (by exact ⟨e3, e4⟩) (fun _ => ?_)
    clear hK K
    refine takeS_on (i := 8) 41 (v := ?v117) rfl rfl (by kernel_rfl) (by kernel_rfl) (by kernel_rfl) (fun _ _ _ h => h) (by kernel_rfl) ?hy117 (by exact ⟨e3, e4⟩) ?_
    case hy117 => (intro w' hSw; go_simp; try (with_reducible rfl))
    simp only [Act.put, List.setIfInBounds_toArray, List.set_cons_zero, List.set_cons_succ]
    refine wpAnyH_ready (rs := [9]) (by kernel_rfl) (by simp) (AllReadyH.cons rfl (fun K hK => ?_) AllReadyH.nil)
    go_simp
    have s6 := HS3.out.cache (c' := []) HU.out (g5.mono (fun q e => e.elim)) (o5.lower hb3) (fun q e => .inr (o5.blk e).1)
    obtain ⟨W6, hW6⟩ : ∃ W, W = w5.setCell ⟨g1, p, none⟩ (.slice a5 0 q5) := ⟨_, rfl⟩
    have C6 : Ch (Only g1) w5 W6 := by rw [hW6]; exact (Ch.refl _ _).own _ _
    have F6 := F5.ch C6 hne1
    have h63 := (C6.cell (o := 3) F5.lt hne1).trans e3
    have h64 := (C6.cell (o := 4) F5.lt hne1).trans e4
    rw [← hW6] at s6 ⊢
    have HS6 := hid s6
    have HF6 := hid F6
    have HG6 := hid ((HG3.out.trans g5 (fun q e => e.elim)).trans C6 (fun q e => .inr (by have e1 : q = g1 := e; omega)))
    have HR6 := hid ((HR3.out.ch g5 (noB _)).ch C6 hne3)
    have HK6 := hid ((C6.block _ (Nat.lt_of_lt_of_le (lt_of_block HK3.out) g5.size) hne5).trans ((g5.block _ (lt_of_block HK3.out) (noB _)).trans HK3.out))
    have hb6 : w1.heap.size ≤ W6.heap.size := Nat.le_trans hb3 (Nat.le_trans g5.size C6.size)
    have HUN := hid (show (cu.set p (.slice a5 0 q5))[p]? = some (.slice a5 0 q5) from List.getElem?_set_self (by rw [hcu]; exact hpn))
    clear hW6 s6 F6 C6 c0 c1 c2 c3 c4 e0 e1' e2 e3 e4 d5 df5 o5 g5' g5 F5
    refine hK.out _ _ (by exact ⟨h63, h64⟩) (fun _ => ?_)
    clear hK K
    refine wpAnyH_done (by kernel_rfl) ?_ _
    obtain ⟨c0, c1, c2, c3, c4⟩ := HF6.out.cells
    have l6 := HF6.out.lt
    have HI9 := hid (ints_any (fun _ => True) (.slice none 0 0) [] W6 (Ls.nil _ _) (by simp))
    go_wp2_with fail
    refine (HI9.out).mono ?_
    rintro e w9 ⟨v9, rfl, o9, g9⟩
    obtain ⟨a9, q9, rfl⟩ := o9.form
    rw [show (iv ([] : List Int)).length = 0 from rfl] at o9 ⊢
    have s9 := (HS6.out.free (w1 := w9) (F' := []) (g9.mono (fun q e => e.elim)) (o9.lower hb6) (fun q e => .inr (o9.blk e).1))
    have F9 := HF6.out.ch g9 (noB _)
    have HF9 := hid F9
    obtain ⟨W10, hW10⟩ : ∃ W, W = w9.setCell ⟨w.heap.size, 4, none⟩ (.slice a9 0 q9) := ⟨_, rfl⟩
    have C10 : Ch (Only w.heap.size) w9 W10 := by rw [hW10]; exact (Ch.refl _ _).own _ _
    have HF10 := hid (show Fv 45 W10 w.heap.size (.int .i64 L) (.slice a1 nG q1) (.slice a2 nA q2) (.slice (some ⟨g1, 0, none⟩) nC q3) (.slice a9 0 q9) by rw [hW10]; exact setCell_block F9 4 _)
    have hsx : St w1.heap.size W10 (.slice a1 nG q1) (.slice a2 nA q2) (.slice (some ⟨g1, 0, none⟩) nC q3) (.slice a9 0 q9) (cu.set p (.slice a5 0 q5)) x := by
      have := s9.ch C10 (fun q a e => by have := (s9.blk a).1; have e1 : q = w.heap.size := e; omega)
      rw [HXE.out]
      exact this
    have HS10 := hid hsx
    have HG10 := hid ((HG6.out.trans g9 (fun q e => e.elim)).trans C10 (fun q e => .inr (by have e1 : q = w.heap.size := e; omega)))
    have HR10 := hid ((HR6.out.ch g9 (noB _)).ch C10 (fun e => by have e1 : w.heap.size + 1 = w.heap.size := e; omega))
    have HK10 := hid ((C10.block _ (Nat.lt_of_lt_of_le (lt_of_block HK6.out) g9.size) (fun e => by have e1 : w.heap.size + 1 + 1 = w.heap.size := e; omega)).trans ((g9.block _ (lt_of_block HK6.out) (noB _)).trans HK6.out))
    have hb10 : w1.heap.size ≤ W10.heap.size := Nat.le_trans hb6 (Nat.le_trans g9.size C10.size)
    have HC10 := hid C10
    obtain ⟨g', e', -, hg9, -, d9, df9, -⟩ := s9.c.get1 HUN.out
    cases e'
    clear c0 c1 c2 c3 c4
    obtain ⟨c0, c1, c2, c3, c4⟩ := F9.cells
    obtain ⟨y0, y1, y2, y3, y4⟩ := F9.fz
    have l9 := F9.lt
    clear s9 F9 C10 o9 g9 hsx d0 df
    subst hW10
    go_wp2_with (first
      | (at_builtin; refine wpList_append_ow rfl (.tmp 90) (.tmp 91) 41 3 8 (.int .i64 0) Try.underlying41 int_info rfl rfl w1.heap.size (.slice a1 nG q1) (iv x.G) rfl (HS10.out.g.alloc _) _ _ [.int .i64 0] rfl (ls_val _ _ _ _ (by simp [World.setCell])) (fun u hu => by rw [List.mem_singleton.1 hu]; rfl) (nG + 1) HLen1.out (by omega) (by unfold maxLen; omega) (Nat.le_trans hb10 (((Ch.refl NoB _).alloc _).size)) (iv (x.G ++ [0])) (by rw [iv_append]; rfl) ?_; intro b2 r2 w11 o11 g11' bl11; have G11 := ((Ch.refl (Blk (.slice a1 nG q1)) (w9.setCell ⟨w.heap.size, 4, none⟩ (.slice a9 0 q9))).alloc _).trans' g11'; have F11 := HF10.out.ch G11 (fun e => by have := (HS10.out.g.blk e).1; omega); have B11 := (show ∀ q, Blk (.slice b2 (nG + 1) r2) q → Blk (.slice a1 nG q1) q ∨ (w9.setCell ⟨w.heap.size, 4, none⟩ (.slice a9 0 q9)).heap.size ≤ q from fun q e => (bl11 q e).imp id (fun e => Nat.le_trans (((Ch.refl NoB _).alloc (.cells #[.int .i64 0] 3)).size) e)); clear c0 c1 c2 c3 c4 y0 y1 y2 y3 y4; obtain ⟨c0, c1, c2, c3, c4⟩ := F11.cells; obtain ⟨y0, y1, y2, y3, y4⟩ := F11.fz; have l11 := F11.lt; have C12 := (Ch.refl (Only w.heap.size) w11).own 1 (.slice b2 (nG + 1) r2); have s12' := HS10.out.gens G11 o11 B11; have HS12 := hid (s12'.ch C12 (fun q a e => by have := (s12'.blk a).1; have e1 : q = w.heap.size := e; omega)); have HF12 := hid (show Fv 45 (w11.setCell ⟨w.heap.size, 1, none⟩ (.slice b2 (nG + 1) r2)) w.heap.size (.int .i64 L) (.slice b2 (nG + 1) r2) (.slice a2 nA q2) (.slice (some ⟨g1, 0, none⟩) nC q3) (.slice a9 0 q9) from setCell_block F11 1 _); have HG12 := hid ((HG10.out.trans G11 (fun q e => .inr (by have := (HS10.out.g.blk e).1; omega))).trans C12 (fun q e => .inr (by have e1 : q = w.heap.size := e; omega))); have HR12 := hid ((HR10.out.ch G11 (fun e => by have := (HS10.out.g.blk e).1; omega)).ch C12 (fun e => by have e1 : w.heap.size + 1 = w.heap.size := e; omega)); have HK11 := (G11.block _ (lt_of_block HK10.out) (fun e => by have := (HS10.out.g.blk e).1; omega)).trans HK10.out; have HK12 := hid ((C12.block _ (lt_of_block HK11) (fun e => by have e1 : w.heap.size + 1 + 1 = w.heap.size := e; omega)).trans HK11); have hb12 : w1.heap.size ≤ (w11.setCell ⟨w.heap.size, 1, none⟩ (.slice b2 (nG + 1) r2)).heap.size := Nat.le_trans hb10 (Nat.le_trans G11.size C12.size); clear o11 g11' bl11 G11 F11 B11 C12 s12' HK11)
      | (at_builtin; refine wpList_append_ow rfl (.tmp 95) (.tmp 96) 42 4 1 (.bool false) Try.underlying42 bool_info rfl rfl w1.heap.size (.slice a2 nA q2) (bv x.A) rfl (HS12.out.a.alloc _) _ _ [.bool false] rfl (ls_val _ _ _ _ (by simp [World.setCell])) (fun u hu => by rw [List.mem_singleton.1 hu]; rfl) (nA + 1) HLen2.out (by omega) (by unfold maxLen; omega) (Nat.le_trans hb12 (((Ch.refl NoB _).alloc _).size)) (bv (x.A ++ [false])) (by rw [bv_append]; rfl) ?_; intro b4 r4 w13 o13 g13' bl13; have G13 := ((Ch.refl (Blk (.slice a2 nA q2)) (w11.setCell ⟨w.heap.size, 1, none⟩ (.slice b2 (nG + 1) r2))).alloc _).trans' g13'; have F13 := HF12.out.ch G13 (fun e => by have := (HS12.out.a.blk e).1; omega); have B13 := (show ∀ q, Blk (.slice b4 (nA + 1) r4) q → Blk (.slice a2 nA q2) q ∨ (w11.setCell ⟨w.heap.size, 1, none⟩ (.slice b2 (nG + 1) r2)).heap.size ≤ q from fun q e => (bl13 q e).imp id (fun e => Nat.le_trans (((Ch.refl NoB _).alloc (.cells #[.bool false] 4)).size) e)); clear c0 c1 c2 c3 c4 y0 y1 y2 y3 y4; obtain ⟨c0, c1, c2, c3, c4⟩ := F13.cells; obtain ⟨y0, y1, y2, y3, y4⟩ := F13.fz; have l13 := F13.lt; have C14 := (Ch.refl (Only w.heap.size) w13).own 2 (.slice b4 (nA + 1) r4); have s14' := HS12.out.alive G13 o13 B13; have HS14 := hid (s14'.ch C14 (fun q a e => by have := (s14'.blk a).1; have e1 : q = w.heap.size := e; omega)); have HG14 := hid ((HG12.out.trans G13 (fun q e => .inr (by have := (HS12.out.a.blk e).1; omega))).trans C14 (fun q e => .inr (by have e1 : q = w.heap.size := e; omega))); have HR14 := hid ((HR12.out.ch G13 (fun e => by have := (HS12.out.a.blk e).1; omega)).ch C14 (fun e => by have e1 : w.heap.size + 1 = w.heap.size := e; omega)); have HK13 := (G13.block _ (lt_of_block HK12.out) (fun e => by have := (HS12.out.a.blk e).1; omega)).trans HK12.out; have HK14 := hid ((C14.block _ (lt_of_block HK13) (fun e => by have e1 : w.heap.size + 1 + 1 = w.heap.size := e; omega)).trans HK13); clear o13 g13' bl13 G13 F13 B13 C14 s14' HK13))
    refine (given_any w1.heap.size nG L 0 false _ _ _ _ _ _ (w13.setCell ⟨w.heap.size, 2, none⟩ (.slice b4 (nA + 1) r4)) HS14.out (show (x.G ++ [0])[nG]? = some 0 by rw [← HGL.out]; simp) (show (x.A ++ [false])[nG]? = some false by rw [← HGL.out, ← HAG.out]; simp) (by omega) (by omega)).mono ?_
    rintro e w15 ⟨rfl, s15, g15⟩
    have R15 := HR14.out.ch g15 (fun e => by have e1 : w1.heap.size ≤ w.heap.size + 1 := e; omega)
    have K15 := (g15.block _ (lt_of_block HK14.out) (fun e => by have e1 : w1.heap.size ≤ w.heap.size + 1 + 1 := e; omega)).trans HK14.out
    obtain ⟨z0, z1, z2, z3, z4⟩ := R15.cells
    obtain ⟨zf0, zf1, zf2, zf3, zf4⟩ := R15.fz
    have x0 := cell_of K15 0
    have x1 := cell_of K15 1
    have xf0 := frozen_of K15 0
    have xf1 := frozen_of K15 1
    have lr := R15.lt
    have lk := lt_of_block K15
    have HS15 := hid s15
    have HG15 := hid (HG14.out.trans g15 (fun q e => .inr (by have e1 : w1.heap.size ≤ q := e; omega)))
    clear R15 K15 s15 g15
    go_wp2
    have C8 := (((((Ch.refl (Only (w.heap.size + 1)) w15).own 0 (.int .i64 L)).own 1 (.slice b2 (nG + 1) r2)).own 2 (.slice b4 (nA + 1) r4)).own 3 (.slice (some ⟨g1, 0, none⟩) nC q3)).own 4 (.slice a9 0 q9)
    have C9 := ((Ch.refl (Only (w.heap.size + 1 + 1)) (((((w15.setCell ⟨w.heap.size + 1, 0, none⟩ (.int .i64 L)).setCell ⟨w.heap.size + 1, 1, none⟩ (.slice b2 (nG + 1) r2)).setCell ⟨w.heap.size + 1, 2, none⟩ (.slice b4 (nA + 1) r4)).setCell ⟨w.heap.size + 1, 3, none⟩ (.slice (some ⟨g1, 0, none⟩) nC q3)).setCell ⟨w.heap.size + 1, 4, none⟩ (.slice a9 0 q9))).own 0 (.int .i64 (nG : Int))).own 1 (.int .i64 1)
    exact bodyPost_ret (v := .tuple #[.agg #[.int .i64 L, .slice b2 (nG + 1) r2, .slice b4 (nA + 1) r4, .slice (some ⟨g1, 0, none⟩) nC q3, .slice a9 0 q9], .agg #[.int .i64 (nG : Int), .int .i64 1], .int .i64 0]) (by simp [results, Try.results39, go_sem, z0, z1, z2, z3, z4, x0, x1]) rfl (Toldn.of ((((HS15.out.ch C8 (fun q a e => by have := (HS15.out.blk a).1; have e1 : q = w.heap.size + 1 := e; omega)).ch C9 (fun q a e => by have := (HS15.out.blk a).1; have e1 : q = w.heap.size + 1 + 1 := e; omega))).lower (by omega)) ((HG15.out.trans C8 (fun q e => .inr (by have e1 : q = w.heap.size + 1 := e; omega))).trans C9 (fun q e => .inr (by have e1 : q = w.heap.size + 1 + 1 := e; omega))))
  | some ad =>
    have HI8 := hid (fun (W : World) (k1 : Ch NoB W3 W) => ints_any (fun _ => True) (.slice (some ad) 0 q4) [] W (ls_none _ _ _ _) (by simp))
    go_wp2_with fail
    rw [← hW3]
    clear hW3 c0 c1 c2 c3 c4 y0 y1 y2 y3 y4 l2 d0 df
    obtain ⟨c0, c1, c2, c3, c4⟩ := HF3.out.cells
    have l3 := HF3.out.lt
    obtain ⟨g', e', -, -, -, d0, df, -⟩ := HS3.out.c.get1 HU.out
    cases e'
    refine wp_region_held_drew (S := fun w' => w'.cell? ⟨w.heap.size, 3, none⟩ = some (.slice (some ⟨g1, 0, none⟩) nC q3) ∧ w'.cell? ⟨w.heap.size, 4, none⟩ = some (.slice (some ad) 0 q4)) (by kernel_rfl) (by exact ⟨c3, c4⟩) (fun _ => ?_)
    refine takeS_on (i := 0) 33 (v := ?v118) rfl rfl (by kernel_rfl) (by kernel_rfl) (by kernel_rfl) (fun _ _ _ h => h) (by kernel_rfl) ?hy118 (by exact ⟨c3, c4⟩) ?_
    case hy118 => (intro w' hSw; go_simp; try (with_reducible rfl))
    simp only [Act.put, List.setIfInBounds_toArray, List.set_cons_zero, List.set_cons_succ]
    refine takeS_on (i := 1) 34 (v := ?v119) rfl rfl (by kernel_rfl) (by kernel_rfl) (by kernel_rfl) (fun _ _ _ h => h) (by kernel_rfl) ?hy119 (by exact ⟨c3, c4⟩) ?_
    case hy119 => (intro w' hSw; go_simp; try (with_reducible rfl))
    simp only [Act.put, List.setIfInBounds_toArray, List.set_cons_zero, List.set_cons_succ]
    refine takeS_on (i := 2) 35 (v := ?v120) rfl rfl (by kernel_rfl) (by kernel_rfl) (by kernel_rfl) (fun _ _ _ h => h) (by kernel_rfl) ?hy120 (by exact ⟨c3, c4⟩) ?_
    case hy120 => (intro w' hSw; go_simp; try (with_reducible rfl))
    simp only [Act.put, List.setIfInBounds_toArray, List.set_cons_zero, List.set_cons_succ]
    refine takeS_on (i := 3) 36 (v := ?v121) rfl rfl (by kernel_rfl) (by kernel_rfl) (by kernel_rfl) (fun _ _ _ h => h) (by kernel_rfl) ?hy121 (by exact ⟨c3, c4⟩) ?_
    case hy121 => (intro w' hSw; go_simp; try (with_reducible rfl))
    simp only [Act.put, List.setIfInBounds_toArray, List.set_cons_zero, List.set_cons_succ]
    refine takeS_on (i := 4) 37 (v := ?v122) rfl rfl (by kernel_rfl) (by kernel_rfl) (by kernel_rfl) (fun _ _ _ h => h) (by kernel_rfl) ?hy122 (by exact ⟨c3, c4⟩) ?_
    case hy122 => (intro w' hSw; go_simp; try (with_reducible rfl))
    simp only [Act.put, List.setIfInBounds_toArray, List.set_cons_zero, List.set_cons_succ]
    refine takeS_on (i := 5) 38 (v := ?v123) rfl rfl (by kernel_rfl) (by kernel_rfl) (by kernel_rfl) (fun _ _ _ h => h) (by kernel_rfl) ?hy123 (by exact ⟨c3, c4⟩) ?_
    case hy123 => (intro w' hSw; go_simp; try (with_reducible rfl))
    simp only [Act.put, List.setIfInBounds_toArray, List.set_cons_zero, List.set_cons_succ]
    refine takeS_on (i := 6) 39 (v := ?v124) rfl rfl (by kernel_rfl) (by kernel_rfl) (by kernel_rfl) (fun _ _ _ h => h) (by kernel_rfl) ?hy124 (by exact ⟨c3, c4⟩) ?_
    case hy124 => (intro w' hSw; go_simp; try (with_reducible rfl))
    simp only [Act.put, List.setIfInBounds_toArray, List.set_cons_zero, List.set_cons_succ]
    refine wpAnyH_ready (rs := [7]) (by kernel_rfl) (by simp) (AllReadyH.cons rfl (fun K hK => ?_) AllReadyH.nil)
    go_simp
    refine (HI8.out _ ((Ch.refl NoB W3).drew)).mono ?_
    rintro e w5 ⟨v5, rfl, o5, g5'⟩
    obtain ⟨a5, q5, rfl⟩ := o5.form
    rw [show (iv ([] : List Int)).length = 0 from rfl] at o5 ⊢
    have g5 : Ch NoB W3 w5 := ((Ch.refl NoB W3).drew).trans' g5'
    have F5 := HF3.out.ch g5 (noB _)
    obtain ⟨e0, e1', e2, e3, e4⟩ := F5.cells
    have l5 := F5.lt
    obtain ⟨g', e', -, hg5, -, d5, df5, -⟩ := (HS3.out.c.ch g5 (fun _ _ => noB _)).get1 HU.out
    cases e'
    refine hK.out _ _ (by exact ⟨e3, e4⟩) (fun _ => ?_)
    clear hK K
    refine takeS_on (i := 8) 41 (v := ?v125) rfl rfl (by kernel_rfl) (by kernel_rfl) (by kernel_rfl) (fun _ _ _ h => h) (by kernel_rfl) ?hy125 (by exact ⟨e3, e4⟩) ?_
    case hy125 => (intro w' hSw; go_simp; try (with_reducible rfl))
    simp only [Act.put, List.setIfInBounds_toArray, List.set_cons_zero, List.set_cons_succ]
    refine wpAnyH_ready (rs := [9]) (by kernel_rfl) (by simp) (AllReadyH.cons rfl (fun K hK => ?_) AllReadyH.nil)
    go_simp
    have s6 := HS3.out.cache (c' := []) HU.out (g5.mono (fun q e => e.elim)) (o5.lower hb3) (fun q e => .inr (o5.blk e).1)
    obtain ⟨W6, hW6⟩ : ∃ W, W = w5.setCell ⟨g1, p, none⟩ (.slice a5 0 q5) := ⟨_, rfl⟩
    have C6 : Ch (Only g1) w5 W6 := by rw [hW6]; exact (Ch.refl _ _).own _ _
    have F6 := F5.ch C6 hne1
    have h63 := (C6.cell (o := 3) F5.lt hne1).trans e3
    have h64 := (C6.cell (o := 4) F5.lt hne1).trans e4
    rw [← hW6] at s6 ⊢
    have HS6 := hid s6
    have HF6 := hid F6
    have HG6 := hid ((HG3.out.trans g5 (fun q e => e.elim)).trans C6 (fun q e => .inr (by have e1 : q = g1 := e; omega)))
    have HR6 := hid ((HR3.out.ch g5 (noB _)).ch C6 hne3)
    have HK6 := hid ((C6.block _ (Nat.lt_of_lt_of_le (lt_of_block HK3.out) g5.size) hne5).trans ((g5.block _ (lt_of_block HK3.out) (noB _)).trans HK3.out))
    have hb6 : w1.heap.size ≤ W6.heap.size := Nat.le_trans hb3 (Nat.le_trans g5.size C6.size)
    have HUN := hid (show (cu.set p (.slice a5 0 q5))[p]? = some (.slice a5 0 q5) from List.getElem?_set_self (by rw [hcu]; exact hpn))
    clear hW6 s6 F6 C6 c0 c1 c2 c3 c4 e0 e1' e2 e3 e4 d5 df5 o5 g5' g5 F5
    refine hK.out _ _ (by exact ⟨h63, h64⟩) (fun _ => ?_)
    clear hK K
    refine wpAnyH_done (by kernel_rfl) ?_ _
    obtain ⟨c0, c1, c2, c3, c4⟩ := HF6.out.cells
    have l6 := HF6.out.lt
    have HI9 := hid (fun (a : Addr) (c : Nat) => ints_any (fun _ => True) (.slice (some a) 0 c) [] W6 (ls_none _ _ _ _) (by simp))
    go_wp2_with fail
    refine (HI9.out _ _).mono ?_
    rintro e w9 ⟨v9, rfl, o9, g9⟩
    obtain ⟨a9, q9, rfl⟩ := o9.form
    rw [show (iv ([] : List Int)).length = 0 from rfl] at o9 ⊢
    have s9 := (HS6.out.free (w1 := w9) (F' := []) (g9.mono (fun q e => e.elim)) (o9.lower hb6) (fun q e => .inr (o9.blk e).1))
    have F9 := HF6.out.ch g9 (noB _)
    have HF9 := hid F9
    obtain ⟨W10, hW10⟩ : ∃ W, W = w9.setCell ⟨w.heap.size, 4, none⟩ (.slice a9 0 q9) := ⟨_, rfl⟩
    have C10 : Ch (Only w.heap.size) w9 W10 := by rw [hW10]; exact (Ch.refl _ _).own _ _
    have HF10 := hid (show Fv 45 W10 w.heap.size (.int .i64 L) (.slice a1 nG q1) (.slice a2 nA q2) (.slice (some ⟨g1, 0, none⟩) nC q3) (.slice a9 0 q9) by rw [hW10]; exact setCell_block F9 4 _)
    have hsx : St w1.heap.size W10 (.slice a1 nG q1) (.slice a2 nA q2) (.slice (some ⟨g1, 0, none⟩) nC q3) (.slice a9 0 q9) (cu.set p (.slice a5 0 q5)) x := by
      have := s9.ch C10 (fun q a e => by have := (s9.blk a).1; have e1 : q = w.heap.size := e; omega)
      rw [HXE.out]
      exact this
    have HS10 := hid hsx
    have HG10 := hid ((HG6.out.trans g9 (fun q e => e.elim)).trans C10 (fun q e => .inr (by have e1 : q = w.heap.size := e; omega)))
    have HR10 := hid ((HR6.out.ch g9 (noB _)).ch C10 (fun e => by have e1 : w.heap.size + 1 = w.heap.size := e; omega))
    have HK10 := hid ((C10.block _ (Nat.lt_of_lt_of_le (lt_of_block HK6.out) g9.size) (fun e => by have e1 : w.heap.size + 1 + 1 = w.heap.size := e; omega)).trans ((g9.block _ (lt_of_block HK6.out) (noB _)).trans HK6.out))
    have hb10 : w1.heap.size ≤ W10.heap.size := Nat.le_trans hb6 (Nat.le_trans g9.size C10.size)
    have HC10 := hid C10
    obtain ⟨g', e', -, hg9, -, d9, df9, -⟩ := s9.c.get1 HUN.out
    cases e'
    clear c0 c1 c2 c3 c4
    obtain ⟨c0, c1, c2, c3, c4⟩ := F9.cells
    obtain ⟨y0, y1, y2, y3, y4⟩ := F9.fz
    have l9 := F9.lt
    clear s9 F9 C10 o9 g9 hsx d0 df
    subst hW10
    go_wp2_with (first
      | (at_builtin; refine wpList_append_ow rfl (.tmp 90) (.tmp 91) 41 3 8 (.int .i64 0) Try.underlying41 int_info rfl rfl w1.heap.size (.slice a1 nG q1) (iv x.G) rfl (HS10.out.g.alloc _) _ _ [.int .i64 0] rfl (ls_val _ _ _ _ (by simp [World.setCell])) (fun u hu => by rw [List.mem_singleton.1 hu]; rfl) (nG + 1) HLen1.out (by omega) (by unfold maxLen; omega) (Nat.le_trans hb10 (((Ch.refl NoB _).alloc _).size)) (iv (x.G ++ [0])) (by rw [iv_append]; rfl) ?_; intro b2 r2 w11 o11 g11' bl11; have G11 := ((Ch.refl (Blk (.slice a1 nG q1)) (w9.setCell ⟨w.heap.size, 4, none⟩ (.slice a9 0 q9))).alloc _).trans' g11'; have F11 := HF10.out.ch G11 (fun e => by have := (HS10.out.g.blk e).1; omega); have B11 := (show ∀ q, Blk (.slice b2 (nG + 1) r2) q → Blk (.slice a1 nG q1) q ∨ (w9.setCell ⟨w.heap.size, 4, none⟩ (.slice a9 0 q9)).heap.size ≤ q from fun q e => (bl11 q e).imp id (fun e => Nat.le_trans (((Ch.refl NoB _).alloc (.cells #[.int .i64 0] 3)).size) e)); clear c0 c1 c2 c3 c4 y0 y1 y2 y3 y4; obtain ⟨c0, c1, c2, c3, c4⟩ := F11.cells; obtain ⟨y0, y1, y2, y3, y4⟩ := F11.fz; have l11 := F11.lt; have C12 := (Ch.refl (Only w.heap.size) w11).own 1 (.slice b2 (nG + 1) r2); have s12' := HS10.out.gens G11 o11 B11; have HS12 := hid (s12'.ch C12 (fun q a e => by have := (s12'.blk a).1; have e1 : q = w.heap.size := e; omega)); have HF12 := hid (show Fv 45 (w11.setCell ⟨w.heap.size, 1, none⟩ (.slice b2 (nG + 1) r2)) w.heap.size (.int .i64 L) (.slice b2 (nG + 1) r2) (.slice a2 nA q2) (.slice (some ⟨g1, 0, none⟩) nC q3) (.slice a9 0 q9) from setCell_block F11 1 _); have HG12 := hid ((HG10.out.trans G11 (fun q e => .inr (by have := (HS10.out.g.blk e).1; omega))).trans C12 (fun q e => .inr (by have e1 : q = w.heap.size := e; omega))); have HR12 := hid ((HR10.out.ch G11 (fun e => by have := (HS10.out.g.blk e).1; omega)).ch C12 (fun e => by have e1 : w.heap.size + 1 = w.heap.size := e; omega)); have HK11 := (G11.block _ (lt_of_block HK10.out) (fun e => by have := (HS10.out.g.blk e).1; omega)).trans HK10.out; have HK12 := hid ((C12.block _ (lt_of_block HK11) (fun e => by have e1 : w.heap.size + 1 + 1 = w.heap.size := e; omega)).trans HK11); have hb12 : w1.heap.size ≤ (w11.setCell ⟨w.heap.size, 1, none⟩ (.slice b2 (nG + 1) r2)).heap.size := Nat.le_trans hb10 (Nat.le_trans G11.size C12.size); clear o11 g11' bl11 G11 F11 B11 C12 s12' HK11)
      | (at_builtin; refine wpList_append_ow rfl (.tmp 95) (.tmp 96) 42 4 1 (.bool false) Try.underlying42 bool_info rfl rfl w1.heap.size (.slice a2 nA q2) (bv x.A) rfl (HS12.out.a.alloc _) _ _ [.bool false] rfl (ls_val _ _ _ _ (by simp [World.setCell])) (fun u hu => by rw [List.mem_singleton.1 hu]; rfl) (nA + 1) HLen2.out (by omega) (by unfold maxLen; omega) (Nat.le_trans hb12 (((Ch.refl NoB _).alloc _).size)) (bv (x.A ++ [false])) (by rw [bv_append]; rfl) ?_; intro b4 r4 w13 o13 g13' bl13; have G13 := ((Ch.refl (Blk (.slice a2 nA q2)) (w11.setCell ⟨w.heap.size, 1, none⟩ (.slice b2 (nG + 1) r2))).alloc _).trans' g13'; have F13 := HF12.out.ch G13 (fun e => by have := (HS12.out.a.blk e).1; omega); have B13 := (show ∀ q, Blk (.slice b4 (nA + 1) r4) q → Blk (.slice a2 nA q2) q ∨ (w11.setCell ⟨w.heap.size, 1, none⟩ (.slice b2 (nG + 1) r2)).heap.size ≤ q from fun q e => (bl13 q e).imp id (fun e => Nat.le_trans (((Ch.refl NoB _).alloc (.cells #[.bool false] 4)).size) e)); clear c0 c1 c2 c3 c4 y0 y1 y2 y3 y4; obtain ⟨c0, c1, c2, c3, c4⟩ := F13.cells; obtain ⟨y0, y1, y2, y3, y4⟩ := F13.fz; have l13 := F13.lt; have C14 := (Ch.refl (Only w.heap.size) w13).own 2 (.slice b4 (nA + 1) r4); have s14' := HS12.out.alive G13 o13 B13; have HS14 := hid (s14'.ch C14 (fun q a e => by have := (s14'.blk a).1; have e1 : q = w.heap.size := e; omega)); have HG14 := hid ((HG12.out.trans G13 (fun q e => .inr (by have := (HS12.out.a.blk e).1; omega))).trans C14 (fun q e => .inr (by have e1 : q = w.heap.size := e; omega))); have HR14 := hid ((HR12.out.ch G13 (fun e => by have := (HS12.out.a.blk e).1; omega)).ch C14 (fun e => by have e1 : w.heap.size + 1 = w.heap.size := e; omega)); have HK13 := (G13.block _ (lt_of_block HK12.out) (fun e => by have := (HS12.out.a.blk e).1; omega)).trans HK12.out; have HK14 := hid ((C14.block _ (lt_of_block HK13) (fun e => by have e1 : w.heap.size + 1 + 1 = w.heap.size := e; omega)).trans HK13); clear o13 g13' bl13 G13 F13 B13 C14 s14' HK13))
    refine (given_any w1.heap.size nG L 0 false _ _ _ _ _ _ (w13.setCell ⟨w.heap.size, 2, none⟩ (.slice b4 (nA + 1) r4)) HS14.out (show (x.G ++ [0])[nG]? = some 0 by rw [← HGL.out]; simp) (show (x.A ++ [false])[nG]? = some false by rw [← HGL.out, ← HAG.out]; simp) (by omega) (by omega)).mono ?_
    rintro e w15 ⟨rfl, s15, g15⟩
    have R15 := HR14.out.ch g15 (fun e => by have e1 : w1.heap.size ≤ w.heap.size + 1 := e; omega)
    have K15 := (g15.block _ (lt_of_block HK14.out) (fun e => by have e1 : w1.heap.size ≤ w.heap.size + 1 + 1 := e; omega)).trans HK14.out
    obtain ⟨z0, z1, z2, z3, z4⟩ := R15.cells
    obtain ⟨zf0, zf1, zf2, zf3, zf4⟩ := R15.fz
    have x0 := cell_of K15 0
    have x1 := cell_of K15 1
    have xf0 := frozen_of K15 0
    have xf1 := frozen_of K15 1
    have lr := R15.lt
    have lk := lt_of_block K15
    have HS15 := hid s15
    have HG15 := hid (HG14.out.trans g15 (fun q e => .inr (by have e1 : w1.heap.size ≤ q := e; omega)))
    clear R15 K15 s15 g15
    go_wp2
    have C8 := (((((Ch.refl (Only (w.heap.size + 1)) w15).own 0 (.int .i64 L)).own 1 (.slice b2 (nG + 1) r2)).own 2 (.slice b4 (nA + 1) r4)).own 3 (.slice (some ⟨g1, 0, none⟩) nC q3)).own 4 (.slice a9 0 q9)
    have C9 := ((Ch.refl (Only (w.heap.size + 1 + 1)) (((((w15.setCell ⟨w.heap.size + 1, 0, none⟩ (.int .i64 L)).setCell ⟨w.heap.size + 1, 1, none⟩ (.slice b2 (nG + 1) r2)).setCell ⟨w.heap.size + 1, 2, none⟩ (.slice b4 (nA + 1) r4)).setCell ⟨w.heap.size + 1, 3, none⟩ (.slice (some ⟨g1, 0, none⟩) nC q3)).setCell ⟨w.heap.size + 1, 4, none⟩ (.slice a9 0 q9))).own 0 (.int .i64 (nG : Int))).own 1 (.int .i64 1)
    exact bodyPost_ret (v := .tuple #[.agg #[.int .i64 L, .slice b2 (nG + 1) r2, .slice b4 (nA + 1) r4, .slice (some ⟨g1, 0, none⟩) nC q3, .slice a9 0 q9], .agg #[.int .i64 (nG : Int), .int .i64 1], .int .i64 0]) (by simp [results, Try.results39, go_sem, z0, z1, z2, z3, z4, x0, x1]) rfl (Toldn.of ((((HS15.out.ch C8 (fun q a e => by have := (HS15.out.blk a).1; have e1 : q = w.heap.size + 1 := e; omega)).ch C9 (fun q a e => by have := (HS15.out.blk a).1; have e1 : q = w.heap.size + 1 + 1 := e; omega))).lower (by omega)) ((HG15.out.trans C8 (fun q e => .inr (by have e1 : q = w.heap.size + 1 := e; omega))).trans C9 (fun q e => .inr (by have e1 : q = w.heap.size + 1 + 1 := e; omega))))
end Go.Proofs.Ytfbkifkfhgkdbab.Sb
