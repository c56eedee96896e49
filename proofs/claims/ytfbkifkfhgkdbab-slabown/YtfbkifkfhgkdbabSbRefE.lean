/-
  What the document's Take answers, where the P's own cache is empty and the domain's list is not. Condition: the state is there, no list of it is too long, and the slot was made.
-/
import Derived.Test.YtfbkifkfhgkdbabSbRefD
namespace Go.Proofs.Ytfbkifkfhgkdbab.Sb
open Go.RowKit
open Classical
attribute [local go_sem ↓] Go.wp_at_zero Go.wp_at_succ

/-- the rest of an owned list -/
theorem Ow.dropN {base g cap n d : Nat} {w : World} {us : List Value} (h : Ow 3 base w (.slice (some ⟨g, 0, none⟩) n cap) us) (hd : d ≤ n) : Ls (Blk (.slice (some ⟨g, 0, none⟩) n cap)) w (.slice (some ⟨g, d, none⟩) (n - d) (cap - d)) (us.drop d) := by
  have hc := h.len
  obtain ⟨ao, cap', e, hcap, h2⟩ := h.lstB
  injection e with e1 e2 e3
  subst e1 e3
  have hl : (us.drop d).length = n - d := by rw [List.length_drop, ← hc.1]
  refine ⟨some ⟨g, d, none⟩, cap - d, by rw [hl], ⟨by rw [hl]; omega, fun h => by cases h⟩, ?_⟩
  rcases h2 with h0 | ⟨g', o, e4, hb, hg, hcell⟩
  · exact .inl (by rw [h0, List.drop_nil])
  · injection e4 with e4
    injection e4 with e5 e6
    subst e5 e6
    refine .inr ⟨g, d, rfl, hb, hg, fun i z hz => ?_⟩
    rw [List.getElem?_drop] at hz
    have := hcell (d + i) z hz
    rw [Nat.zero_add] at this
    exact this
theorem ls_none (P : Nat → Prop) (w : World) (a : Addr) (c : Nat) : Ls P w (.slice (some a) 0 c) [] := ⟨some a, c, rfl, ⟨Nat.zero_le _, fun h => by cases h⟩, .inl rfl⟩

set_option maxRecDepth 100000 in
set_option maxHeartbeats 8000000 in
theorem rtake_16 (P : Nat → Prop) (p k : Nat) (L g : Int) (a : Bool) (cl : List Int) (vg va vc vf : Value) (cv : List Value) (x : Sl) (w : World) (h : Rd P w vg va vc vf cv x) (ht : x.Fits) (hc : x.C[p]? = some []) (hn : 16 < x.F.length) (hcl : x.F.take 16 = cl ++ [(k : Int)]) (hG : x.G[k]? = some g) (hA : x.A[k]? = some a) (hg0 : 0 ≤ g) (hg1' : g < 2147483647) :
    Calls Try.prog 39 #[.agg #[.int .i64 L, vg, va, vc, vf], .int .i64 (p : Int)] w fun e w' => Toldn L (k : Int) (g + 1) 0 (givenS { fillS x p 16 with C := (fillS x p 16).C.set p cl } k g) w e w' := by
  obtain ⟨ga, gc, rfl⟩ := h.g.form
  obtain ⟨aa, ac, rfl⟩ := h.a.form
  obtain ⟨ca, cc, rfl⟩ := h.c.form
  obtain ⟨fa, fc, rfl⟩ := h.f.form
  obtain ⟨nG, hnG⟩ : ∃ n, n = (iv x.G).length := ⟨_, rfl⟩
  obtain ⟨nA, hnA⟩ : ∃ n, n = (bv x.A).length := ⟨_, rfl⟩
  obtain ⟨nC, hnC⟩ : ∃ n, n = cv.length := ⟨_, rfl⟩
  obtain ⟨nF, hnF⟩ : ∃ n, n = (iv x.F).length := ⟨_, rfl⟩
  rw [← hnG, ← hnA, ← hnC, ← hnF] at h
  rw [← hnG, ← hnA, ← hnC, ← hnF]
  obtain ⟨W0, hW0⟩ : ∃ W0, W0 = ((w.alloc (.cells #[.int .i64 L, .slice ga nG gc, .slice aa nA ac, .slice ca nC cc, .slice fa nF fc] 45)).alloc (.cells #[.int .i64 0, .slice none 0 0, .slice none 0 0, .slice none 0 0, .slice none 0 0] 45)).alloc (.cells #[.int .i64 0, .int .i64 0] 34) := ⟨_, rfl⟩
  have g0 : Ch NoB w W0 := by rw [hW0]; exact (((Ch.refl NoB w).alloc _).alloc _).alloc _
  have f0 : Fv 45 W0 w.heap.size (.int .i64 L) (.slice ga nG gc) (.slice aa nA ac) (.slice ca nC cc) (.slice fa nF fc) := by rw [hW0]; exact ((Fv.new 45 w _ _ _ _ _).alloc _).alloc _
  have r0 : Fv 45 W0 (w.heap.size + 1) (.int .i64 0) (.slice none 0 0) (.slice none 0 0) (.slice none 0 0) (.slice none 0 0) := by
    have z := Fv.new 45 (w.alloc (.cells #[.int .i64 L, .slice ga nG gc, .slice aa nA ac, .slice ca nC cc, .slice fa nF fc] 45)) (.int .i64 0) (.slice none 0 0) (.slice none 0 0) (.slice none 0 0) (.slice none 0 0)
    rw [World.size_alloc] at z
    rw [hW0]
    exact z.alloc _
  have k0 : W0.heap[w.heap.size + 1 + 1]? = some (.cells #[.int .i64 0, .int .i64 0] 34 (0, 0)) := by
    rw [hW0]
    have z := (MapKept.heap_alloc ((w.alloc (.cells #[.int .i64 L, .slice ga nG gc, .slice aa nA ac, .slice ca nC cc, .slice fa nF fc] 45)).alloc (.cells #[.int .i64 0, .slice none 0 0, .slice none 0 0, .slice none 0 0, .slice none 0 0] 45)) (.cells #[.int .i64 0, .int .i64 0] 34)).1
    simpa using z
  have HK0 := hid k0
  have hk0 := lt_of_block k0
  have hr := (h.mono (Q := fun g => g < w.heap.size) (fun g a _ => a)).ch g0 (fun _ _ _ => noB _)
  have HPR := hid (rproc_any _ L (p : Int) _ _ _ _ cv x W0 hr)
  have HCP := hid (fun (W : World) (k : Ch NoB W0 W) => copy_any L _ _ _ _ cv x _ W (hr.ch k (fun _ _ _ => noB _)) ht)
  have HF0 := hid f0
  have HR0 := hid r0
  have HG0 := hid g0
  have HnG := hid hnG
  have HnA := hid hnA
  have HnF := hid hnF
  have HnC := hid (show nC = x.C.length by rw [hnC, h.e.1])
  have HT := hid ht
  have hl0 := r0.lt
  have HC := hid hc
  have HG := hid hG
  have HA := hid hA
  have HCL := hid hcl
  have HNN := hid hn
  have HFL := hid (show x.F.length = nF by rw [hnF, iv_length])
  have hnFl : nF ≤ 4294967296 := by rw [← HFL.out]; exact ht.f
  have HP := hid (show HasP x (p : Int) from ⟨by omega, by have := (List.getElem?_eq_some_iff.1 hc).1; omega⟩)
  clear h hr f0 r0 g0 k0 hnG hnA hnC hnF ht hc hG hA hcl hn
  go_enter Try.func39, Try.ntmps39
  go_wp2_with fail
  rw [← hW0]
  clear hW0
  refine HPR.out.mono ?_
  rintro e w1 ⟨rfl, g1⟩
  rw [show decide (HasP x (p : Int)) = true from decide_eq_true HP.out]
  have F1 := HF0.out.ch g1 (noB _)
  obtain ⟨c0, c1, c2, c3, c4⟩ := F1.cells
  have l1 := F1.lt
  have HG1 := hid g1
  have HF1 := hid F1
  clear F1 g1
  go_wp2_with fail
  refine (HCP.out w1 HG1.out).mono ?_
  rintro e w2 ⟨vg2, va2, vc2, vf2, cu, rfl, s2, g2⟩
  obtain ⟨a1, q1, rfl⟩ := s2.g.form
  obtain ⟨a2, q2, rfl⟩ := s2.a.form
  obtain ⟨a3, q3, rfl⟩ := s2.c.form
  obtain ⟨a4, q4, rfl⟩ := s2.f.form
  have hcu : cu.length = nC := by rw [s2.cl, HnC.out]
  rw [← HnG.out, ← HnA.out, hcu, ← HnF.out] at s2 ⊢
  have F2 := HF1.out.ch g2 (noB _)
  have hb1 : w.heap.size + 1 + 1 < w1.heap.size := Nat.lt_of_lt_of_le hk0 HG1.out.size
  have hb2 := g2.size
  obtain ⟨W3, hW3⟩ : ∃ W, W = ((((w2.setCell ⟨w.heap.size, 0, none⟩ (.int .i64 L)).setCell ⟨w.heap.size, 1, none⟩ (.slice a1 nG q1)).setCell ⟨w.heap.size, 2, none⟩ (.slice a2 nA q2)).setCell ⟨w.heap.size, 3, none⟩ (.slice a3 nC q3)).setCell ⟨w.heap.size, 4, none⟩ (.slice a4 nF q4) := ⟨_, rfl⟩
  have C3 : Ch (Only w.heap.size) w2 W3 := by rw [hW3]; exact (((((Ch.refl (Only w.heap.size) w2).own 0 _).own 1 _).own 2 _).own 3 _).own 4 _
  have F3 : Fv 45 W3 w.heap.size (.int .i64 L) (.slice a1 nG q1) (.slice a2 nA q2) (.slice a3 nC q3) (.slice a4 nF q4) := by rw [hW3]; exact setCell_block (setCell_block (setCell_block (setCell_block (setCell_block F2 0 _) 1 _) 2 _) 3 _) 4 _
  have s3 := s2.ch C3 (fun q a e => by have := (s2.blk a).1; have e1 : q = w.heap.size := e; omega)
  have HS3 := hid s3
  have HS2 := hid s2
  have HC3 := hid C3
  have HF3 := hid F3
  have HG3 := hid ((HG0.out.trans' (HG1.out.trans' g2)).trans C3 (fun q e => .inr (by have e1 : q = w.heap.size := e; omega)))
  have K2 := (g2.block _ (lt_of_block ((HG1.out.block _ (lt_of_block HK0.out) (noB _)).trans HK0.out)) (noB _)).trans ((HG1.out.block _ (lt_of_block HK0.out) (noB _)).trans HK0.out)
  have HK3 := hid ((C3.block _ (lt_of_block K2) (fun e => by have e1 : w.heap.size + 1 + 1 = w.heap.size := e; omega)).trans K2)
  have HR3 := hid (((HR0.out.ch HG1.out (noB _)).ch g2 (noB _)).ch C3 (fun e => by have e1 : w.heap.size + 1 = w.heap.size := e; omega))
  have hb3 : w1.heap.size ≤ W3.heap.size := Nat.le_trans hb2 C3.size
  clear c0 c1 c2 c3 c4 l1
  obtain ⟨c0, c1, c2, c3, c4⟩ := F2.cells
  obtain ⟨y0, y1, y2, y3, y4⟩ := F2.fz
  have l2 := F2.lt
  clear F2 C3 s2 g2 F3 s3 K2
  have hpc : p < x.C.length := (List.getElem?_eq_some_iff.1 HC.out).1
  have hpn : p < nC := by rw [HnC.out]; exact hpc
  obtain ⟨u, hu⟩ : ∃ u, cu[p]? = some u := ⟨_, List.getElem?_eq_getElem (by rw [hcu]; exact hpn)⟩
  have hou := HS2.out.e p u [] hu HC.out
  obtain ⟨ua, uc, rfl⟩ := hou.form
  obtain ⟨nU, hnU⟩ : ∃ n, n = (iv []).length := ⟨_, rfl⟩
  rw [← hnU] at hou hu
  obtain ⟨g1, rfl, hg1b, hg1, hcap1, d0, df, -⟩ := HS2.out.c.get1 hu
  have hucap := hou.len.2
  have b3 : (0 : Int) ≤ (p : Int) := by omega
  have b4 : (p : Int) < (nC : Int) := by omega
  have hne1 : ¬ (w.heap.size = g1) := by omega
  have hne2 : ¬ (g1 = w.heap.size) := by omega
  have HU := hid hu
  have HOU := hid hou
  have hU0 : nU = 0 := hnU
  subst hU0
  have h16 : 16 < nF := by rw [← HFL.out]; exact HNN.out
  have s1 : decide ((16 : Int) < (nF : Int)) = true := decide_eq_true (by omega)
  have s2' : (16 : Int) < (nF : Int) := by omega
  obtain ⟨gf, egf⟩ : ∃ gf, a4 = some ⟨gf, 0, none⟩ := by
    obtain ⟨y, hy⟩ : ∃ y, x.F[0]? = some y := ⟨_, List.getElem?_eq_getElem (by rw [HFL.out]; omega)⟩
    obtain ⟨gf, e, -⟩ := HS2.out.f.get1 (iv_get hy)
    exact ⟨gf, e⟩
  subst egf
  have HLL := hid (show (15 : Nat) = cl.length by
    have := congrArg List.length HCL.out
    rw [List.length_take, HFL.out, List.length_append] at this
    simp at this
    omega)
  have hw15 : IntKind.i64.wrap 15 = 15 := by rw [IntKind.wrap_i64]; omega
  have hnq : ¬ (q4 = 16) := by have := HS3.out.f.len.2; omega
  have hnq' : ¬ (16 = q4) := fun e => hnq e.symm
  have hne3 : ¬ (w.heap.size + 1 = g1) := by omega
  have hne4 : ¬ (g1 = w.heap.size + 1) := by omega
  have hne5 : ¬ (w.heap.size + 1 + 1 = g1) := by omega
  have hne6 : ¬ (g1 = w.heap.size + 1 + 1) := by omega
  have HLN := hid (show (iv (x.F.take 16)).length = 16 by rw [iv_length, List.length_take, HFL.out]; omega)
  have hqF := HS3.out.f.len.2
  have t1 : (16 : Int) ≤ (q4 : Int) := by omega
  have t2 : (nF : Int) ≤ (q4 : Int) := by omega
  have HI8 := hid (fun (W : World) (k1 : Ch NoB W3 W) => ints_any _ (.slice (some ⟨gf, 0, none⟩) 16 q4) (x.F.take 16) W (by
    have := (HS3.out.f.take (n := 16) (by omega)).lstB.ch k1 (fun _ _ _ => noB _)
    rw [iv_take] at this
    exact this) (by rw [List.length_take, HFL.out]; omega))
  clear hu hou hnU
  go_wp2_with fail
  rw [← hW3]
  clear hW3 c0 c1 c2 c3 c4 y0 y1 y2 y3 y4 l2 d0 df
  obtain ⟨c0, c1, c2, c3, c4⟩ := HF3.out.cells
  have l3 := HF3.out.lt
  obtain ⟨g', e', -, -, -, d0, df, -⟩ := HS3.out.c.get1 HU.out
  cases e'
  refine wp_region_held_drew (S := fun w' => w'.cell? ⟨w.heap.size, 3, none⟩ = some (.slice (some ⟨g1, 0, none⟩) nC q3) ∧ w'.cell? ⟨w.heap.size, 4, none⟩ = some (.slice (some ⟨gf, 0, none⟩) nF q4)) (by kernel_rfl) (by exact ⟨c3, c4⟩) (fun _ => ?_)
  refine takeS_on (i := 0) 33 (v := ?v110) rfl rfl (by kernel_rfl) (by kernel_rfl) (by kernel_rfl) (fun _ _ _ h => h) (by kernel_rfl) ?hy110 (by exact ⟨c3, c4⟩) ?_
  case hy110 => (intro w' hSw; go_simp; try (with_reducible rfl))
  simp only [Act.put, List.setIfInBounds_toArray, List.set_cons_zero, List.set_cons_succ]
  refine takeS_on (i := 1) 34 (v := ?v111) rfl rfl (by kernel_rfl) (by kernel_rfl) (by kernel_rfl) (fun _ _ _ h => h) (by kernel_rfl) ?hy111 (by exact ⟨c3, c4⟩) ?_
  case hy111 => (intro w' hSw; go_simp; try (with_reducible rfl))
  simp only [Act.put, List.setIfInBounds_toArray, List.set_cons_zero, List.set_cons_succ]
  refine takeS_on (i := 2) 35 (v := ?v112) rfl rfl (by kernel_rfl) (by kernel_rfl) (by kernel_rfl) (fun _ _ _ h => h) (by kernel_rfl) ?hy112 (by exact ⟨c3, c4⟩) ?_
  case hy112 => (intro w' hSw; go_simp; try (with_reducible rfl))
  simp only [Act.put, List.setIfInBounds_toArray, List.set_cons_zero, List.set_cons_succ]
  refine takeS_on (i := 3) 36 (v := ?v113) rfl rfl (by kernel_rfl) (by kernel_rfl) (by kernel_rfl) (fun _ _ _ h => h) (by kernel_rfl) ?hy113 (by exact ⟨c3, c4⟩) ?_
  case hy113 => (intro w' hSw; go_simp; try (with_reducible rfl))
  simp only [Act.put, List.setIfInBounds_toArray, List.set_cons_zero, List.set_cons_succ]
  refine takeS_on (i := 4) 37 (v := ?v114) rfl rfl (by kernel_rfl) (by kernel_rfl) (by kernel_rfl) (fun _ _ _ h => h) (by kernel_rfl) ?hy114 (by exact ⟨c3, c4⟩) ?_
  case hy114 => (intro w' hSw; go_simp; try (with_reducible rfl))
  simp only [Act.put, List.setIfInBounds_toArray, List.set_cons_zero, List.set_cons_succ]
  refine takeS_on (i := 5) 38 (v := ?v115) rfl rfl (by kernel_rfl) (by kernel_rfl) (by kernel_rfl) (fun _ _ _ h => h) (by kernel_rfl) ?hy115 (by exact ⟨c3, c4⟩) ?_
  case hy115 => (intro w' hSw; go_simp; try (with_reducible rfl))
  simp only [Act.put, List.setIfInBounds_toArray, List.set_cons_zero, List.set_cons_succ]
  refine takeS_on (i := 6) 39 (v := ?v116) rfl rfl (by kernel_rfl) (by kernel_rfl) (by kernel_rfl) (fun _ _ _ h => h) (by kernel_rfl) ?hy116 (by exact ⟨c3, c4⟩) ?_
  case hy116 => (intro w' hSw; go_simp; try (with_reducible rfl))
  simp only [Act.put, List.setIfInBounds_toArray, List.set_cons_zero, List.set_cons_succ]
  refine wpAnyH_ready (rs := [7]) (by kernel_rfl) (by simp) (AllReadyH.cons rfl (fun K hK => ?_) AllReadyH.nil)
  go_simp
  refine (HI8.out _ ((Ch.refl NoB W3).drew)).mono ?_
  rintro e w5 ⟨v5, rfl, o5, g5'⟩
  obtain ⟨a5, q5, rfl⟩ := o5.form
  rw [HLN.out] at o5 ⊢
  have g5 : Ch NoB W3 w5 := ((Ch.refl NoB W3).drew).trans' g5'
  have F5 := HF3.out.ch g5 (noB _)
  obtain ⟨e0, e1', e2, e3, e4⟩ := F5.cells
  have l5 := F5.lt
  obtain ⟨g', e', -, hg5, -, d5, df5, -⟩ := (HS3.out.c.ch g5 (fun _ _ => noB _)).get1 HU.out
  cases e'
  refine hK.out _ _ (by exact ⟨e3, e4⟩) (fun _ => ?_)
  clear hK K
  refine takeS_on (i := 8) 41 (v := ?v117) rfl rfl (by kernel_rfl) (by kernel_rfl) (by kernel_rfl) (fun _ _ _ h => h) (by kernel_rfl) ?hy117 (by exact ⟨e3, e4⟩) ?_
  case hy117 => (intro w' hSw; go_simp; try (with_reducible rfl))
  simp only [Act.put, List.setIfInBounds_toArray, List.set_cons_zero, List.set_cons_succ]
  refine wpAnyH_ready (rs := [9]) (by kernel_rfl) (by simp) (AllReadyH.cons rfl (fun K hK => ?_) AllReadyH.nil)
  go_simp
  have s6 := HS3.out.cache (c' := x.F.take 16) HU.out (g5.mono (fun q e => e.elim)) (o5.lower hb3) (fun q e => .inr (o5.blk e).1)
  obtain ⟨W6, hW6⟩ : ∃ W, W = w5.setCell ⟨g1, p, none⟩ (.slice a5 16 q5) := ⟨_, rfl⟩
  have C6 : Ch (Only g1) w5 W6 := by rw [hW6]; exact (Ch.refl _ _).own _ _
  have F6 := F5.ch C6 hne1
  have h63 := (C6.cell (o := 3) F5.lt hne1).trans e3
  have h64 := (C6.cell (o := 4) F5.lt hne1).trans e4
  rw [← hW6] at s6 ⊢
  have HS6 := hid s6
  have HF6 := hid F6
  have HG6 := hid ((HG3.out.trans g5 (fun q e => e.elim)).trans C6 (fun q e => .inr (by have e1 : q = g1 := e; omega)))
  have HR6 := hid ((HR3.out.ch g5 (noB _)).ch C6 hne3)
  have HK6 := hid ((C6.block _ (Nat.lt_of_lt_of_le (lt_of_block HK3.out) g5.size) hne5).trans ((g5.block _ (lt_of_block HK3.out) (noB _)).trans HK3.out))
  have hb6 : w1.heap.size ≤ W6.heap.size := Nat.le_trans hb3 (Nat.le_trans g5.size C6.size)
  have HUN := hid (show (cu.set p (.slice a5 16 q5))[p]? = some (.slice a5 16 q5) from List.getElem?_set_self (by rw [hcu]; exact hpn))
  clear hW6 s6 F6 C6 c0 c1 c2 c3 c4 e0 e1' e2 e3 e4 d5 df5 o5 g5' g5 F5
  refine hK.out _ _ (by exact ⟨h63, h64⟩) (fun _ => ?_)
  clear hK K
  refine wpAnyH_done (by kernel_rfl) ?_ _
  obtain ⟨c0, c1, c2, c3, c4⟩ := HF6.out.cells
  have l6 := HF6.out.lt
  have HI9 := hid (ints_any _ (.slice (some ⟨gf, 16, none⟩) (nF - 16) (q4 - 16)) (x.F.drop 16) W6 (by
    have := HS6.out.f.dropN (d := 16) (by omega)
    rw [iv_drop] at this
    exact this) (by rw [List.length_drop, HFL.out]; omega))
  go_wp2_with fail
  refine (HI9.out).mono ?_
  rintro e w9 ⟨v9, rfl, o9, g9⟩
  obtain ⟨a9, q9, rfl⟩ := o9.form
  obtain ⟨m9, hm9⟩ : ∃ m, m = (iv (x.F.drop 16)).length := ⟨_, rfl⟩
  rw [← hm9] at o9 ⊢
  clear hm9
  have s9 := (HS6.out.free (w1 := w9) (F' := x.F.drop 16) (g9.mono (fun q e => e.elim)) (o9.lower hb6) (fun q e => .inr (o9.blk e).1))
  have F9 := HF6.out.ch g9 (noB _)
  obtain ⟨W10, hW10⟩ : ∃ W, W = w9.setCell ⟨w.heap.size, 4, none⟩ (.slice a9 m9 q9) := ⟨_, rfl⟩
  have C10 : Ch (Only w.heap.size) w9 W10 := by rw [hW10]; exact (Ch.refl _ _).own _ _
  have HF10 := hid (show Fv 45 W10 w.heap.size (.int .i64 L) (.slice a1 nG q1) (.slice a2 nA q2) (.slice (some ⟨g1, 0, none⟩) nC q3) (.slice a9 m9 q9) by rw [hW10]; exact setCell_block F9 4 _)
  have HS10 := hid (s9.ch C10 (fun q a e => by have := (s9.blk a).1; have e1 : q = w.heap.size := e; omega))
  have HG10 := hid ((HG6.out.trans g9 (fun q e => e.elim)).trans C10 (fun q e => .inr (by have e1 : q = w.heap.size := e; omega)))
  have HR10 := hid ((HR6.out.ch g9 (noB _)).ch C10 (fun e => by have e1 : w.heap.size + 1 = w.heap.size := e; omega))
  have HK10 := hid ((C10.block _ (Nat.lt_of_lt_of_le (lt_of_block HK6.out) g9.size) (fun e => by have e1 : w.heap.size + 1 + 1 = w.heap.size := e; omega)).trans ((g9.block _ (lt_of_block HK6.out) (noB _)).trans HK6.out))
  have hCp : (x.C.set p (x.F.take 16))[p]? = some (cl ++ [(k : Int)]) := by rw [List.getElem?_set_self hpc, HCL.out]
  have hou := s9.e p _ _ HUN.out hCp
  obtain ⟨gu, rfl, hgub, hgul, -, du, -, -⟩ := hou.get1 (iv_get (show (cl ++ [(k : Int)])[15]? = some (k : Int) by rw [HLL.out]; simp))
  obtain ⟨g', e', -, hg9, -, d9, df9, -⟩ := s9.c.get1 HUN.out
  cases e'
  have HTK := hid (show Ow 3 w1.heap.size W10 (.slice (some ⟨gu, 0, none⟩) 15 q5) (iv cl) by
    have := (HS10.out.e p _ _ HUN.out hCp).take (n := 15) (by omega)
    rw [iv_take, HLL.out, List.take_left] at this
    rw [HLL.out]
    exact this)
  have hq5 := hou.len.2
  have n5 : ¬ (gu = w.heap.size) := by omega
  have n6 : ¬ (w.heap.size = gu) := by omega
  have f4 : (15 : Int) ≤ (q5 : Int) := by omega
  clear c0 c1 c2 c3 c4
  obtain ⟨c0, c1, c2, c3, c4⟩ := F9.cells
  obtain ⟨y0, y1, y2, y3, y4⟩ := F9.fz
  have l9 := F9.lt
  clear hou s9 F9 C10 o9 g9
  go_wp2_with fail
  rw [← hW10]
  clear hW10 c0 c1 c2 c3 c4 y0 y1 y2 y3 y4 l9 d0 df du d9 df9
  obtain ⟨c0, c1, c2, c3, c4⟩ := HF10.out.cells
  have l3' := HF10.out.lt
  obtain ⟨g', e', -, -, -, d0, df, -⟩ := HS10.out.c.get1 HUN.out
  cases e'
  refine wp_region_held_drew (S := fun w' => w'.cell? ⟨w.heap.size, 3, none⟩ = some (.slice (some ⟨g1, 0, none⟩) nC q3)) (by kernel_rfl) (by exact c3) (fun _ => ?_)
  refine takeS_on (i := 0) 65 (v := ?v118) rfl rfl (by kernel_rfl) (by kernel_rfl) (by kernel_rfl) (fun _ _ _ h => h) (by kernel_rfl) ?hy118 (by exact c3) ?_
  case hy118 => (intro w' hSw; go_simp; try (with_reducible rfl))
  simp only [Act.put, List.setIfInBounds_toArray, List.set_cons_zero, List.set_cons_succ]
  refine takeS_on (i := 1) 66 (v := ?v119) rfl rfl (by kernel_rfl) (by kernel_rfl) (by kernel_rfl) (fun _ _ _ h => h) (by kernel_rfl) ?hy119 (by exact c3) ?_
  case hy119 => (intro w' hSw; go_simp; try (with_reducible rfl))
  simp only [Act.put, List.setIfInBounds_toArray, List.set_cons_zero, List.set_cons_succ]
  refine takeS_on (i := 2) 67 (v := ?v120) rfl rfl (by kernel_rfl) (by kernel_rfl) (by kernel_rfl) (fun _ _ _ h => h) (by kernel_rfl) ?hy120 (by exact c3) ?_
  case hy120 => (intro w' hSw; go_simp; try (with_reducible rfl))
  simp only [Act.put, List.setIfInBounds_toArray, List.set_cons_zero, List.set_cons_succ]
  refine takeS_on (i := 3) 68 (v := ?v121) rfl rfl (by kernel_rfl) (by kernel_rfl) (by kernel_rfl) (fun _ _ _ h => h) (by kernel_rfl) ?hy121 (by exact c3) ?_
  case hy121 => (intro w' hSw; go_simp; try (with_reducible rfl))
  simp only [Act.put, List.setIfInBounds_toArray, List.set_cons_zero, List.set_cons_succ]
  refine takeS_on (i := 4) 69 (v := ?v122) rfl rfl (by kernel_rfl) (by kernel_rfl) (by kernel_rfl) (fun _ _ _ h => h) (by kernel_rfl) ?hy122 (by exact c3) ?_
  case hy122 => (intro w' hSw; go_simp; try (with_reducible rfl))
  simp only [Act.put, List.setIfInBounds_toArray, List.set_cons_zero, List.set_cons_succ]
  refine takeS_on (i := 5) 70 (v := ?v123) rfl rfl (by kernel_rfl) (by kernel_rfl) (by kernel_rfl) (fun _ _ _ h => h) (by kernel_rfl) ?hy123 (by exact c3) ?_
  case hy123 => (intro w' hSw; go_simp; try (with_reducible rfl))
  simp only [Act.put, List.setIfInBounds_toArray, List.set_cons_zero, List.set_cons_succ]
  refine takeS_on (i := 6) 71 (v := ?v124) rfl rfl (by kernel_rfl) (by kernel_rfl) (by kernel_rfl) (fun _ _ _ h => h) (by kernel_rfl) ?hy124 (by exact c3) ?_
  case hy124 => (intro w' hSw; go_simp; try (with_reducible rfl))
  simp only [Act.put, List.setIfInBounds_toArray, List.set_cons_zero, List.set_cons_succ]
  refine takeS_on (i := 8) 73 (v := ?v125) rfl rfl (by kernel_rfl) (by kernel_rfl) (by kernel_rfl) (fun _ _ _ h => h) (by kernel_rfl) ?hy125 (by exact c3) ?_
  case hy125 => (intro w' hSw; go_simp; try (with_reducible rfl))
  simp only [Act.put, List.setIfInBounds_toArray, List.set_cons_zero, List.set_cons_succ]
  refine takeS_on (i := 9) 74 (v := ?v126) rfl rfl (by kernel_rfl) (by kernel_rfl) (by kernel_rfl) (fun _ _ _ h => h) (by kernel_rfl) ?hy126 (by exact c3) ?_
  case hy126 => (intro w' hSw; go_simp; try (with_reducible rfl))
  simp only [Act.put, List.setIfInBounds_toArray, List.set_cons_zero, List.set_cons_succ]
  refine wpAnyH_ready (rs := [7]) (by kernel_rfl) (by simp) (AllReadyH.cons rfl (fun K hK => ?_) AllReadyH.nil)
  go_simp
  refine hK.out _ _ (by exact c3) (fun _ => ?_)
  clear hK K
  refine takeS_on (i := 10) 75 (v := ?v127) rfl rfl (by kernel_rfl) (by kernel_rfl) (by kernel_rfl) (fun _ _ _ h => h) (by kernel_rfl) ?hy127 (by exact c3) ?_
  case hy127 => (intro w' hSw; go_simp; try (with_reducible rfl))
  simp only [Act.put, List.setIfInBounds_toArray, List.set_cons_zero, List.set_cons_succ]
  refine takeS_on (i := 11) 76 (v := ?v128) rfl rfl (by kernel_rfl) (by kernel_rfl) (by kernel_rfl) (fun _ _ _ h => h) (by kernel_rfl) ?hy128 (by exact c3) ?_
  case hy128 => (intro w' hSw; go_simp; try (with_reducible rfl))
  simp only [Act.put, List.setIfInBounds_toArray, List.set_cons_zero, List.set_cons_succ]
  refine wpAnyH_ready (rs := [12]) (by kernel_rfl) (by simp) (AllReadyH.cons rfl (fun K hK => ?_) AllReadyH.nil)
  go_simp
  have hs5' := HS10.out.cache (c' := cl) HUN.out (Ch.refl _ W10) HTK.out (fun q e => .inl (e.len _))
  have hs5 := hs5'.ch ((Ch.refl NoB _).drew) (fun _ _ => noB _)
  obtain ⟨W12, hW12⟩ : ∃ W, W = (W10.setCell ⟨g1, p, none⟩ (.slice (some ⟨gu, 0, none⟩) 15 q5)).drew := ⟨_, rfl⟩
  have C12 : Ch (Only g1) W10 W12 := by rw [hW12]; exact ((Ch.refl _ _).own _ _).drew
  have F12 := HF10.out.ch C12 hne1
  have h12 := (C12.cell (o := 3) HF10.out.lt hne1).trans c3
  rw [← hW12] at hs5 ⊢
  have HS12 := hid hs5
  have HF12 := hid F12
  have HC12 := hid C12
  have HR12 := hid (HR10.out.ch C12 hne3)
  have HK12 := hid ((C12.block _ (lt_of_block HK10.out) hne5).trans HK10.out)
  clear hs5 hs5' F12 C12 hW12
  refine hK.out _ _ (by exact h12) (fun _ => ?_)
  clear hK K
  refine wpAnyH_done (by kernel_rfl) ?_ _
  clear c0 c1 c2 c3 c4
  obtain ⟨c0, c1, c2, c3, c4⟩ := HF12.out.cells
  have lf := HF12.out.lt
  go_wp2_with fail
  refine (given_any w1.heap.size k L g a _ _ _ _ _ _ W12 HS12.out HG.out HA.out hg0 hg1').mono ?_
  rintro e w7 ⟨rfl, s7, g7⟩
  have R7 := HR12.out.ch g7 (fun e => by have e1 : w1.heap.size ≤ w.heap.size + 1 := e; omega)
  have K7 := (g7.block _ (lt_of_block HK12.out) (fun e => by have e1 : w1.heap.size ≤ w.heap.size + 1 + 1 := e; omega)).trans HK12.out
  obtain ⟨z0, z1, z2, z3, z4⟩ := R7.cells
  obtain ⟨zf0, zf1, zf2, zf3, zf4⟩ := R7.fz
  have x0 := cell_of K7 0
  have x1 := cell_of K7 1
  have xf0 := frozen_of K7 0
  have xf1 := frozen_of K7 1
  have lr := R7.lt
  have lk := lt_of_block K7
  have HS7 := hid s7
  have HG7 := hid ((HG10.out.trans HC12.out (fun q e => .inr (by have e1 : q = g1 := e; omega))).trans g7 (fun q e => .inr (by have e1 : w1.heap.size ≤ q := e; omega)))
  clear R7 K7 s7 g7
  go_wp2
  have C8 := (((((Ch.refl (Only (w.heap.size + 1)) w7).own 0 (.int .i64 L)).own 1 (.slice a1 nG q1)).own 2 (.slice a2 nA q2)).own 3 (.slice (some ⟨g1, 0, none⟩) nC q3)).own 4 (.slice a9 m9 q9)
  have C9 := ((Ch.refl (Only (w.heap.size + 1 + 1)) (((((w7.setCell ⟨w.heap.size + 1, 0, none⟩ (.int .i64 L)).setCell ⟨w.heap.size + 1, 1, none⟩ (.slice a1 nG q1)).setCell ⟨w.heap.size + 1, 2, none⟩ (.slice a2 nA q2)).setCell ⟨w.heap.size + 1, 3, none⟩ (.slice (some ⟨g1, 0, none⟩) nC q3)).setCell ⟨w.heap.size + 1, 4, none⟩ (.slice a9 m9 q9))).own 0 (.int .i64 (k : Int))).own 1 (.int .i64 (g + 1))
  exact bodyPost_ret (v := .tuple #[.agg #[.int .i64 L, .slice a1 nG q1, .slice a2 nA q2, .slice (some ⟨g1, 0, none⟩) nC q3, .slice a9 m9 q9], .agg #[.int .i64 (k : Int), .int .i64 (g + 1)], .int .i64 0]) (by simp [results, Try.results39, go_sem, z0, z1, z2, z3, z4, x0, x1]) rfl (Toldn.of ((((HS7.out.ch C8 (fun q a e => by have := (HS7.out.blk a).1; have e1 : q = w.heap.size + 1 := e; omega)).ch C9 (fun q a e => by have := (HS7.out.blk a).1; have e1 : q = w.heap.size + 1 + 1 := e; omega))).lower (by omega)) ((HG7.out.trans C8 (fun q e => .inr (by have e1 : q = w.heap.size + 1 := e; omega))).trans C9 (fun q e => .inr (by have e1 : q = w.heap.size + 1 + 1 := e; omega))))

set_option maxRecDepth 100000 in
set_option maxHeartbeats 8000000 in
theorem rtake_all (P : Nat → Prop) (p k : Nat) (L g : Int) (a : Bool) (cl : List Int) (vg va vc vf : Value) (cv : List Value) (x : Sl) (w : World) (h : Rd P w vg va vc vf cv x) (ht : x.Fits) (hc : x.C[p]? = some []) (hn : x.F.length ≤ 16) (hcl : x.F = cl ++ [(k : Int)]) (hG : x.G[k]? = some g) (hA : x.A[k]? = some a) (hg0 : 0 ≤ g) (hg1' : g < 2147483647) :
    Calls Try.prog 39 #[.agg #[.int .i64 L, vg, va, vc, vf], .int .i64 (p : Int)] w fun e w' => Toldn L (k : Int) (g + 1) 0 (givenS { fillS x p x.F.length with C := (fillS x p x.F.length).C.set p cl } k g) w e w' := by
  obtain ⟨ga, gc, rfl⟩ := h.g.form
  obtain ⟨aa, ac, rfl⟩ := h.a.form
  obtain ⟨ca, cc, rfl⟩ := h.c.form
  obtain ⟨fa, fc, rfl⟩ := h.f.form
  obtain ⟨nG, hnG⟩ : ∃ n, n = (iv x.G).length := ⟨_, rfl⟩
  obtain ⟨nA, hnA⟩ : ∃ n, n = (bv x.A).length := ⟨_, rfl⟩
  obtain ⟨nC, hnC⟩ : ∃ n, n = cv.length := ⟨_, rfl⟩
  obtain ⟨nF, hnF⟩ : ∃ n, n = (iv x.F).length := ⟨_, rfl⟩
  rw [← hnG, ← hnA, ← hnC, ← hnF] at h
  rw [← hnG, ← hnA, ← hnC, ← hnF]
  obtain ⟨W0, hW0⟩ : ∃ W0, W0 = ((w.alloc (.cells #[.int .i64 L, .slice ga nG gc, .slice aa nA ac, .slice ca nC cc, .slice fa nF fc] 45)).alloc (.cells #[.int .i64 0, .slice none 0 0, .slice none 0 0, .slice none 0 0, .slice none 0 0] 45)).alloc (.cells #[.int .i64 0, .int .i64 0] 34) := ⟨_, rfl⟩
  have g0 : Ch NoB w W0 := by rw [hW0]; exact (((Ch.refl NoB w).alloc _).alloc _).alloc _
  have f0 : Fv 45 W0 w.heap.size (.int .i64 L) (.slice ga nG gc) (.slice aa nA ac) (.slice ca nC cc) (.slice fa nF fc) := by rw [hW0]; exact ((Fv.new 45 w _ _ _ _ _).alloc _).alloc _
  have r0 : Fv 45 W0 (w.heap.size + 1) (.int .i64 0) (.slice none 0 0) (.slice none 0 0) (.slice none 0 0) (.slice none 0 0) := by
    have z := Fv.new 45 (w.alloc (.cells #[.int .i64 L, .slice ga nG gc, .slice aa nA ac, .slice ca nC cc, .slice fa nF fc] 45)) (.int .i64 0) (.slice none 0 0) (.slice none 0 0) (.slice none 0 0) (.slice none 0 0)
    rw [World.size_alloc] at z
    rw [hW0]
    exact z.alloc _
  have k0 : W0.heap[w.heap.size + 1 + 1]? = some (.cells #[.int .i64 0, .int .i64 0] 34 (0, 0)) := by
    rw [hW0]
    have z := (MapKept.heap_alloc ((w.alloc (.cells #[.int .i64 L, .slice ga nG gc, .slice aa nA ac, .slice ca nC cc, .slice fa nF fc] 45)).alloc (.cells #[.int .i64 0, .slice none 0 0, .slice none 0 0, .slice none 0 0, .slice none 0 0] 45)) (.cells #[.int .i64 0, .int .i64 0] 34)).1
    simpa using z
  have HK0 := hid k0
  have hk0 := lt_of_block k0
  have hr := (h.mono (Q := fun g => g < w.heap.size) (fun g a _ => a)).ch g0 (fun _ _ _ => noB _)
  have HPR := hid (rproc_any _ L (p : Int) _ _ _ _ cv x W0 hr)
  have HCP := hid (fun (W : World) (k : Ch NoB W0 W) => copy_any L _ _ _ _ cv x _ W (hr.ch k (fun _ _ _ => noB _)) ht)
  have HF0 := hid f0
  have HR0 := hid r0
  have HG0 := hid g0
  have HnG := hid hnG
  have HnA := hid hnA
  have HnF := hid hnF
  have HnC := hid (show nC = x.C.length by rw [hnC, h.e.1])
  have HT := hid ht
  have hl0 := r0.lt
  have HC := hid hc
  have HG := hid hG
  have HA := hid hA
  have HCL := hid hcl
  have HNN := hid hn
  have HFL := hid (show x.F.length = nF by rw [hnF, iv_length])
  have hnFl : nF ≤ 4294967296 := by rw [← HFL.out]; exact ht.f
  have HP := hid (show HasP x (p : Int) from ⟨by omega, by have := (List.getElem?_eq_some_iff.1 hc).1; omega⟩)
  clear h hr f0 r0 g0 k0 hnG hnA hnC hnF ht hc hG hA hcl hn
  go_enter Try.func39, Try.ntmps39
  go_wp2_with fail
  rw [← hW0]
  clear hW0
  refine HPR.out.mono ?_
  rintro e w1 ⟨rfl, g1⟩
  rw [show decide (HasP x (p : Int)) = true from decide_eq_true HP.out]
  have F1 := HF0.out.ch g1 (noB _)
  obtain ⟨c0, c1, c2, c3, c4⟩ := F1.cells
  have l1 := F1.lt
  have HG1 := hid g1
  have HF1 := hid F1
  clear F1 g1
  go_wp2_with fail
  refine (HCP.out w1 HG1.out).mono ?_
  rintro e w2 ⟨vg2, va2, vc2, vf2, cu, rfl, s2, g2⟩
  obtain ⟨a1, q1, rfl⟩ := s2.g.form
  obtain ⟨a2, q2, rfl⟩ := s2.a.form
  obtain ⟨a3, q3, rfl⟩ := s2.c.form
  obtain ⟨a4, q4, rfl⟩ := s2.f.form
  have hcu : cu.length = nC := by rw [s2.cl, HnC.out]
  rw [← HnG.out, ← HnA.out, hcu, ← HnF.out] at s2 ⊢
  have F2 := HF1.out.ch g2 (noB _)
  have hb1 : w.heap.size + 1 + 1 < w1.heap.size := Nat.lt_of_lt_of_le hk0 HG1.out.size
  have hb2 := g2.size
  obtain ⟨W3, hW3⟩ : ∃ W, W = ((((w2.setCell ⟨w.heap.size, 0, none⟩ (.int .i64 L)).setCell ⟨w.heap.size, 1, none⟩ (.slice a1 nG q1)).setCell ⟨w.heap.size, 2, none⟩ (.slice a2 nA q2)).setCell ⟨w.heap.size, 3, none⟩ (.slice a3 nC q3)).setCell ⟨w.heap.size, 4, none⟩ (.slice a4 nF q4) := ⟨_, rfl⟩
  have C3 : Ch (Only w.heap.size) w2 W3 := by rw [hW3]; exact (((((Ch.refl (Only w.heap.size) w2).own 0 _).own 1 _).own 2 _).own 3 _).own 4 _
  have F3 : Fv 45 W3 w.heap.size (.int .i64 L) (.slice a1 nG q1) (.slice a2 nA q2) (.slice a3 nC q3) (.slice a4 nF q4) := by rw [hW3]; exact setCell_block (setCell_block (setCell_block (setCell_block (setCell_block F2 0 _) 1 _) 2 _) 3 _) 4 _
  have s3 := s2.ch C3 (fun q a e => by have := (s2.blk a).1; have e1 : q = w.heap.size := e; omega)
  have HS3 := hid s3
  have HS2 := hid s2
  have HC3 := hid C3
  have HF3 := hid F3
  have HG3 := hid ((HG0.out.trans' (HG1.out.trans' g2)).trans C3 (fun q e => .inr (by have e1 : q = w.heap.size := e; omega)))
  have K2 := (g2.block _ (lt_of_block ((HG1.out.block _ (lt_of_block HK0.out) (noB _)).trans HK0.out)) (noB _)).trans ((HG1.out.block _ (lt_of_block HK0.out) (noB _)).trans HK0.out)
  have HK3 := hid ((C3.block _ (lt_of_block K2) (fun e => by have e1 : w.heap.size + 1 + 1 = w.heap.size := e; omega)).trans K2)
  have HR3 := hid (((HR0.out.ch HG1.out (noB _)).ch g2 (noB _)).ch C3 (fun e => by have e1 : w.heap.size + 1 = w.heap.size := e; omega))
  have hb3 : w1.heap.size ≤ W3.heap.size := Nat.le_trans hb2 C3.size
  clear c0 c1 c2 c3 c4 l1
  obtain ⟨c0, c1, c2, c3, c4⟩ := F2.cells
  obtain ⟨y0, y1, y2, y3, y4⟩ := F2.fz
  have l2 := F2.lt
  clear F2 C3 s2 g2 F3 s3 K2
  have hpc : p < x.C.length := (List.getElem?_eq_some_iff.1 HC.out).1
  have hpn : p < nC := by rw [HnC.out]; exact hpc
  obtain ⟨u, hu⟩ : ∃ u, cu[p]? = some u := ⟨_, List.getElem?_eq_getElem (by rw [hcu]; exact hpn)⟩
  have hou := HS2.out.e p u [] hu HC.out
  obtain ⟨ua, uc, rfl⟩ := hou.form
  obtain ⟨nU, hnU⟩ : ∃ n, n = (iv []).length := ⟨_, rfl⟩
  rw [← hnU] at hou hu
  obtain ⟨g1, rfl, hg1b, hg1, hcap1, d0, df, -⟩ := HS2.out.c.get1 hu
  have hucap := hou.len.2
  have b3 : (0 : Int) ≤ (p : Int) := by omega
  have b4 : (p : Int) < (nC : Int) := by omega
  have hne1 : ¬ (w.heap.size = g1) := by omega
  have hne2 : ¬ (g1 = w.heap.size) := by omega
  have HU := hid hu
  have HOU := hid hou
  have hU0 : nU = 0 := hnU
  subst hU0
  obtain ⟨n, hnn⟩ : ∃ n, n = cl.length := ⟨_, rfl⟩
  have hFn : nF = n + 1 := by
    have := congrArg List.length HCL.out
    rw [List.length_append, HFL.out, ← hnn] at this
    simpa using this
  subst hFn
  have HLL := hid hnn
  clear hnn
  have h16 : n + 1 ≤ 16 := by rw [← HFL.out]; exact HNN.out
  have s1 : decide ((16 : Int) < (n : Int) + 1) = false := decide_eq_false (by omega)
  have s2' : ¬ ((16 : Int) < (n : Int) + 1) := by omega
  obtain ⟨gf, egf⟩ : ∃ gf, a4 = some ⟨gf, 0, none⟩ := by
    obtain ⟨y, hy⟩ : ∃ y, x.F[0]? = some y := ⟨_, List.getElem?_eq_getElem (by rw [HFL.out]; omega)⟩
    obtain ⟨gf, e, -⟩ := HS2.out.f.get1 (iv_get hy)
    exact ⟨gf, e⟩
  subst egf
  have HCL := hid (show x.F.take (n + 1) = cl ++ [(k : Int)] by rw [← HCL.out, List.take_of_length_le (by rw [HFL.out]; omega)])
  have hw : IntKind.i64.wrap ((n : Int) + 1 - 1) = (n : Int) := by rw [IntKind.wrap_i64]; omega
  have hw2 : IntKind.i64.wrap (n : Int) = (n : Int) := by rw [IntKind.wrap_i64]; omega
  have s3' : (0 : Int) ≤ (n : Int) + 1 := by omega
  have s4 : decide ((0 : Int) < (n : Int) + 1) = true := decide_eq_true (by omega)
  have s5 : (0 : Int) < (n : Int) + 1 := by omega
  have s6' : (n : Int) < (n : Int) + 1 := by omega
  have s7 : (0 : Int) ≤ (n : Int) := by omega
  have s8 : ((n : Int) + 1).toNat = n + 1 := by omega
  have s9' : (n : Int) + 1 ≤ (q4 : Int) := by have := HS3.out.f.len.2; omega
  have HD0 := hid (show x.F.drop (n + 1) = [] from List.drop_of_length_le (by rw [HFL.out]; omega))
  have hne3 : ¬ (w.heap.size + 1 = g1) := by omega
  have hne4 : ¬ (g1 = w.heap.size + 1) := by omega
  have hne5 : ¬ (w.heap.size + 1 + 1 = g1) := by omega
  have hne6 : ¬ (g1 = w.heap.size + 1 + 1) := by omega
  have HLN := hid (show (iv (x.F.take (n + 1))).length = (n + 1) by rw [iv_length, List.length_take, HFL.out]; omega)
  have hqF := HS3.out.f.len.2
  have t1 : ((n + 1) : Int) ≤ (q4 : Int) := by omega
  have t2 : ((n + 1) : Int) ≤ (q4 : Int) := by omega
  have HI8 := hid (fun (W : World) (k1 : Ch NoB W3 W) => ints_any _ (.slice (some ⟨gf, 0, none⟩) (n + 1) q4) (x.F.take (n + 1)) W (by
    have := (HS3.out.f.take (n := (n + 1)) (by omega)).lstB.ch k1 (fun _ _ _ => noB _)
    rw [iv_take] at this
    exact this) (by rw [List.length_take, HFL.out]; omega))
  clear hu hou hnU
  go_wp2_with fail
  rw [← hW3]
  clear hW3 c0 c1 c2 c3 c4 y0 y1 y2 y3 y4 l2 d0 df
  obtain ⟨c0, c1, c2, c3, c4⟩ := HF3.out.cells
  have l3 := HF3.out.lt
  obtain ⟨g', e', -, -, -, d0, df, -⟩ := HS3.out.c.get1 HU.out
  cases e'
  refine wp_region_held_drew (S := fun w' => w'.cell? ⟨w.heap.size, 3, none⟩ = some (.slice (some ⟨g1, 0, none⟩) nC q3) ∧ w'.cell? ⟨w.heap.size, 4, none⟩ = some (.slice (some ⟨gf, 0, none⟩) (n + 1) q4)) (by kernel_rfl) (by exact ⟨c3, c4⟩) (fun _ => ?_)
  refine takeS_on (i := 0) 33 (v := ?v129) rfl rfl (by kernel_rfl) (by kernel_rfl) (by kernel_rfl) (fun _ _ _ h => h) (by kernel_rfl) ?hy129 (by exact ⟨c3, c4⟩) ?_
  case hy129 => (intro w' hSw; go_simp; try (with_reducible rfl))
  simp only [Act.put, List.setIfInBounds_toArray, List.set_cons_zero, List.set_cons_succ]
  refine takeS_on (i := 1) 34 (v := ?v130) rfl rfl (by kernel_rfl) (by kernel_rfl) (by kernel_rfl) (fun _ _ _ h => h) (by kernel_rfl) ?hy130 (by exact ⟨c3, c4⟩) ?_
  case hy130 => (intro w' hSw; go_simp; try (with_reducible rfl))
  simp only [Act.put, List.setIfInBounds_toArray, List.set_cons_zero, List.set_cons_succ]
  refine takeS_on (i := 2) 35 (v := ?v131) rfl rfl (by kernel_rfl) (by kernel_rfl) (by kernel_rfl) (fun _ _ _ h => h) (by kernel_rfl) ?hy131 (by exact ⟨c3, c4⟩) ?_
  case hy131 => (intro w' hSw; go_simp; try (with_reducible rfl))
  simp only [Act.put, List.setIfInBounds_toArray, List.set_cons_zero, List.set_cons_succ]
  refine takeS_on (i := 3) 36 (v := ?v132) rfl rfl (by kernel_rfl) (by kernel_rfl) (by kernel_rfl) (fun _ _ _ h => h) (by kernel_rfl) ?hy132 (by exact ⟨c3, c4⟩) ?_
  case hy132 => (intro w' hSw; go_simp; try (with_reducible rfl))
  simp only [Act.put, List.setIfInBounds_toArray, List.set_cons_zero, List.set_cons_succ]
  refine takeS_on (i := 4) 37 (v := ?v133) rfl rfl (by kernel_rfl) (by kernel_rfl) (by kernel_rfl) (fun _ _ _ h => h) (by kernel_rfl) ?hy133 (by exact ⟨c3, c4⟩) ?_
  case hy133 => (intro w' hSw; go_simp; try (with_reducible rfl))
  simp only [Act.put, List.setIfInBounds_toArray, List.set_cons_zero, List.set_cons_succ]
  refine takeS_on (i := 5) 38 (v := ?v134) rfl rfl (by kernel_rfl) (by kernel_rfl) (by kernel_rfl) (fun _ _ _ h => h) (by kernel_rfl) ?hy134 (by exact ⟨c3, c4⟩) ?_
  case hy134 => (intro w' hSw; go_simp; try (with_reducible rfl))
  simp only [Act.put, List.setIfInBounds_toArray, List.set_cons_zero, List.set_cons_succ]
  refine takeS_on (i := 6) 39 (v := ?v135) rfl rfl (by kernel_rfl) (by kernel_rfl) (by kernel_rfl) (fun _ _ _ h => h) (by kernel_rfl) ?hy135 (by exact ⟨c3, c4⟩) ?_
  case hy135 => (intro w' hSw; go_simp; try (with_reducible rfl))
  simp only [Act.put, List.setIfInBounds_toArray, List.set_cons_zero, List.set_cons_succ]
  refine wpAnyH_ready (rs := [7]) (by kernel_rfl) (by simp) (AllReadyH.cons rfl (fun K hK => ?_) AllReadyH.nil)
  go_simp
  refine (HI8.out _ ((Ch.refl NoB W3).drew)).mono ?_
  rintro e w5 ⟨v5, rfl, o5, g5'⟩
  obtain ⟨a5, q5, rfl⟩ := o5.form
  rw [HLN.out] at o5 ⊢
  have g5 : Ch NoB W3 w5 := ((Ch.refl NoB W3).drew).trans' g5'
  have F5 := HF3.out.ch g5 (noB _)
  obtain ⟨e0, e1', e2, e3, e4⟩ := F5.cells
  have l5 := F5.lt
  obtain ⟨g', e', -, hg5, -, d5, df5, -⟩ := (HS3.out.c.ch g5 (fun _ _ => noB _)).get1 HU.out
  cases e'
  refine hK.out _ _ (by exact ⟨e3, e4⟩) (fun _ => ?_)
  clear hK K
  refine takeS_on (i := 8) 41 (v := ?v136) rfl rfl (by kernel_rfl) (by kernel_rfl) (by kernel_rfl) (fun _ _ _ h => h) (by kernel_rfl) ?hy136 (by exact ⟨e3, e4⟩) ?_
  case hy136 => (intro w' hSw; go_simp; try (with_reducible rfl))
  simp only [Act.put, List.setIfInBounds_toArray, List.set_cons_zero, List.set_cons_succ]
  refine wpAnyH_ready (rs := [9]) (by kernel_rfl) (by simp) (AllReadyH.cons rfl (fun K hK => ?_) AllReadyH.nil)
  go_simp
  have s6 := HS3.out.cache (c' := x.F.take (n + 1)) HU.out (g5.mono (fun q e => e.elim)) (o5.lower hb3) (fun q e => .inr (o5.blk e).1)
  obtain ⟨W6, hW6⟩ : ∃ W, W = w5.setCell ⟨g1, p, none⟩ (.slice a5 (n + 1) q5) := ⟨_, rfl⟩
  have C6 : Ch (Only g1) w5 W6 := by rw [hW6]; exact (Ch.refl _ _).own _ _
  have F6 := F5.ch C6 hne1
  have h63 := (C6.cell (o := 3) F5.lt hne1).trans e3
  have h64 := (C6.cell (o := 4) F5.lt hne1).trans e4
  rw [← hW6] at s6 ⊢
  have HS6 := hid s6
  have HF6 := hid F6
  have HG6 := hid ((HG3.out.trans g5 (fun q e => e.elim)).trans C6 (fun q e => .inr (by have e1 : q = g1 := e; omega)))
  have HR6 := hid ((HR3.out.ch g5 (noB _)).ch C6 hne3)
  have HK6 := hid ((C6.block _ (Nat.lt_of_lt_of_le (lt_of_block HK3.out) g5.size) hne5).trans ((g5.block _ (lt_of_block HK3.out) (noB _)).trans HK3.out))
  have hb6 : w1.heap.size ≤ W6.heap.size := Nat.le_trans hb3 (Nat.le_trans g5.size C6.size)
  have HUN := hid (show (cu.set p (.slice a5 (n + 1) q5))[p]? = some (.slice a5 (n + 1) q5) from List.getElem?_set_self (by rw [hcu]; exact hpn))
  clear hW6 s6 F6 C6 c0 c1 c2 c3 c4 e0 e1' e2 e3 e4 d5 df5 o5 g5' g5 F5
  refine hK.out _ _ (by exact ⟨h63, h64⟩) (fun _ => ?_)
  clear hK K
  refine wpAnyH_done (by kernel_rfl) ?_ _
  obtain ⟨c0, c1, c2, c3, c4⟩ := HF6.out.cells
  have l6 := HF6.out.lt
  have HI9 := hid (fun (a : Addr) (c : Nat) => ints_any _ (.slice (some a) 0 c) (x.F.drop (n + 1)) W6 (by rw [HD0.out]; exact ls_none (fun _ => True) _ _ _) (by rw [HD0.out]; simp))
  go_wp2_with fail
  · refine (HI9.out _ _).mono ?_
    rintro e w9 ⟨v9, rfl, o9, g9⟩
    obtain ⟨a9, q9, rfl⟩ := o9.form
    obtain ⟨m9, hm9⟩ : ∃ m, m = (iv (x.F.drop (n + 1))).length := ⟨_, rfl⟩
    rw [← hm9] at o9 ⊢
    clear hm9
    have s9 := (HS6.out.free (w1 := w9) (F' := x.F.drop (n + 1)) (g9.mono (fun q e => e.elim)) (o9.lower hb6) (fun q e => .inr (o9.blk e).1))
    have F9 := HF6.out.ch g9 (noB _)
    obtain ⟨W10, hW10⟩ : ∃ W, W = w9.setCell ⟨w.heap.size, 4, none⟩ (.slice a9 m9 q9) := ⟨_, rfl⟩
    have C10 : Ch (Only w.heap.size) w9 W10 := by rw [hW10]; exact (Ch.refl _ _).own _ _
    have HF10 := hid (show Fv 45 W10 w.heap.size (.int .i64 L) (.slice a1 nG q1) (.slice a2 nA q2) (.slice (some ⟨g1, 0, none⟩) nC q3) (.slice a9 m9 q9) by rw [hW10]; exact setCell_block F9 4 _)
    have HS10 := hid (s9.ch C10 (fun q a e => by have := (s9.blk a).1; have e1 : q = w.heap.size := e; omega))
    have HG10 := hid ((HG6.out.trans g9 (fun q e => e.elim)).trans C10 (fun q e => .inr (by have e1 : q = w.heap.size := e; omega)))
    have HR10 := hid ((HR6.out.ch g9 (noB _)).ch C10 (fun e => by have e1 : w.heap.size + 1 = w.heap.size := e; omega))
    have HK10 := hid ((C10.block _ (Nat.lt_of_lt_of_le (lt_of_block HK6.out) g9.size) (fun e => by have e1 : w.heap.size + 1 + 1 = w.heap.size := e; omega)).trans ((g9.block _ (lt_of_block HK6.out) (noB _)).trans HK6.out))
    have hCp : (x.C.set p (x.F.take (n + 1)))[p]? = some (cl ++ [(k : Int)]) := by rw [List.getElem?_set_self hpc, HCL.out]
    have hou := s9.e p _ _ HUN.out hCp
    obtain ⟨gu, rfl, hgub, hgul, -, du, -, -⟩ := hou.get1 (iv_get (show (cl ++ [(k : Int)])[n]? = some (k : Int) by rw [HLL.out]; simp))
    obtain ⟨g', e', -, hg9, -, d9, df9, -⟩ := s9.c.get1 HUN.out
    cases e'
    have HTK := hid (show Ow 3 w1.heap.size W10 (.slice (some ⟨gu, 0, none⟩) n q5) (iv cl) by
      have := (HS10.out.e p _ _ HUN.out hCp).take (n := n) (by omega)
      rw [iv_take, HLL.out, List.take_left] at this
      rw [HLL.out]
      exact this)
    have hq5 := hou.len.2
    have n5 : ¬ (gu = w.heap.size) := by omega
    have n6 : ¬ (w.heap.size = gu) := by omega
    have f4 : (n : Int) ≤ (q5 : Int) := by omega
    clear c0 c1 c2 c3 c4
    obtain ⟨c0, c1, c2, c3, c4⟩ := F9.cells
    obtain ⟨y0, y1, y2, y3, y4⟩ := F9.fz
    have l9 := F9.lt
    clear hou s9 F9 C10 o9 g9
    go_wp2_with fail
    rw [← hW10]
    clear hW10 c0 c1 c2 c3 c4 y0 y1 y2 y3 y4 l9 d0 df du d9 df9
    obtain ⟨c0, c1, c2, c3, c4⟩ := HF10.out.cells
    have l3' := HF10.out.lt
    obtain ⟨g', e', -, -, -, d0, df, -⟩ := HS10.out.c.get1 HUN.out
    cases e'
    refine wp_region_held_drew (S := fun w' => w'.cell? ⟨w.heap.size, 3, none⟩ = some (.slice (some ⟨g1, 0, none⟩) nC q3)) (by kernel_rfl) (by exact c3) (fun _ => ?_)
    refine takeS_on (i := 0) 65 (v := ?v137) rfl rfl (by kernel_rfl) (by kernel_rfl) (by kernel_rfl) (fun _ _ _ h => h) (by kernel_rfl) ?hy137 (by exact c3) ?_
    case hy137 => (intro w' hSw; go_simp; try (with_reducible rfl))
    simp only [Act.put, List.setIfInBounds_toArray, List.set_cons_zero, List.set_cons_succ]
    refine takeS_on (i := 1) 66 (v := ?v138) rfl rfl (by kernel_rfl) (by kernel_rfl) (by kernel_rfl) (fun _ _ _ h => h) (by kernel_rfl) ?hy138 (by exact c3) ?_
    case hy138 => (intro w' hSw; go_simp; try (with_reducible rfl))
    simp only [Act.put, List.setIfInBounds_toArray, List.set_cons_zero, List.set_cons_succ]
    refine takeS_on (i := 2) 67 (v := ?v139) rfl rfl (by kernel_rfl) (by kernel_rfl) (by kernel_rfl) (fun _ _ _ h => h) (by kernel_rfl) ?hy139 (by exact c3) ?_
    case hy139 => (intro w' hSw; go_simp; try (with_reducible rfl))
    simp only [Act.put, List.setIfInBounds_toArray, List.set_cons_zero, List.set_cons_succ]
    refine takeS_on (i := 3) 68 (v := ?v140) rfl rfl (by kernel_rfl) (by kernel_rfl) (by kernel_rfl) (fun _ _ _ h => h) (by kernel_rfl) ?hy140 (by exact c3) ?_
    case hy140 => (intro w' hSw; go_simp; try (with_reducible rfl))
    simp only [Act.put, List.setIfInBounds_toArray, List.set_cons_zero, List.set_cons_succ]
    refine takeS_on (i := 4) 69 (v := ?v141) rfl rfl (by kernel_rfl) (by kernel_rfl) (by kernel_rfl) (fun _ _ _ h => h) (by kernel_rfl) ?hy141 (by exact c3) ?_
    case hy141 => (intro w' hSw; go_simp; try (with_reducible rfl))
    simp only [Act.put, List.setIfInBounds_toArray, List.set_cons_zero, List.set_cons_succ]
    refine takeS_on (i := 5) 70 (v := ?v142) rfl rfl (by kernel_rfl) (by kernel_rfl) (by kernel_rfl) (fun _ _ _ h => h) (by kernel_rfl) ?hy142 (by exact c3) ?_
    case hy142 => (intro w' hSw; go_simp; try (with_reducible rfl))
    simp only [Act.put, List.setIfInBounds_toArray, List.set_cons_zero, List.set_cons_succ]
    refine takeS_on (i := 6) 71 (v := ?v143) rfl rfl (by kernel_rfl) (by kernel_rfl) (by kernel_rfl) (fun _ _ _ h => h) (by kernel_rfl) ?hy143 (by exact c3) ?_
    case hy143 => (intro w' hSw; go_simp; try (with_reducible rfl))
    simp only [Act.put, List.setIfInBounds_toArray, List.set_cons_zero, List.set_cons_succ]
    refine takeS_on (i := 8) 73 (v := ?v144) rfl rfl (by kernel_rfl) (by kernel_rfl) (by kernel_rfl) (fun _ _ _ h => h) (by kernel_rfl) ?hy144 (by exact c3) ?_
    case hy144 => (intro w' hSw; go_simp; try (with_reducible rfl))
    simp only [Act.put, List.setIfInBounds_toArray, List.set_cons_zero, List.set_cons_succ]
    refine takeS_on (i := 9) 74 (v := ?v145) rfl rfl (by kernel_rfl) (by kernel_rfl) (by kernel_rfl) (fun _ _ _ h => h) (by kernel_rfl) ?hy145 (by exact c3) ?_
    case hy145 => (intro w' hSw; go_simp; try (with_reducible rfl))
    simp only [Act.put, List.setIfInBounds_toArray, List.set_cons_zero, List.set_cons_succ]
    refine wpAnyH_ready (rs := [7]) (by kernel_rfl) (by simp) (AllReadyH.cons rfl (fun K hK => ?_) AllReadyH.nil)
    go_simp
    refine hK.out _ _ (by exact c3) (fun _ => ?_)
    clear hK K
    refine takeS_on (i := 10) 75 (v := ?v146) rfl rfl (by kernel_rfl) (by kernel_rfl) (by kernel_rfl) (fun _ _ _ h => h) (by kernel_rfl) ?hy146 (by exact c3) ?_
    case hy146 => (intro w' hSw; go_simp; try (with_reducible rfl))
    simp only [Act.put, List.setIfInBounds_toArray, List.set_cons_zero, List.set_cons_succ]
    refine takeS_on (i := 11) 76 (v := ?v147) rfl rfl (by kernel_rfl) (by kernel_rfl) (by kernel_rfl) (fun _ _ _ h => h) (by kernel_rfl) ?hy147 (by exact c3) ?_
    case hy147 => (intro w' hSw; go_simp; try (with_reducible rfl))
    simp only [Act.put, List.setIfInBounds_toArray, List.set_cons_zero, List.set_cons_succ]
    refine wpAnyH_ready (rs := [12]) (by kernel_rfl) (by simp) (AllReadyH.cons rfl (fun K hK => ?_) AllReadyH.nil)
    go_simp
    have hs5' := HS10.out.cache (c' := cl) HUN.out (Ch.refl _ W10) HTK.out (fun q e => .inl (e.len _))
    have hs5 := hs5'.ch ((Ch.refl NoB _).drew) (fun _ _ => noB _)
    obtain ⟨W12, hW12⟩ : ∃ W, W = (W10.setCell ⟨g1, p, none⟩ (.slice (some ⟨gu, 0, none⟩) n q5)).drew := ⟨_, rfl⟩
    have C12 : Ch (Only g1) W10 W12 := by rw [hW12]; exact ((Ch.refl _ _).own _ _).drew
    have F12 := HF10.out.ch C12 hne1
    have h12 := (C12.cell (o := 3) HF10.out.lt hne1).trans c3
    rw [← hW12] at hs5 ⊢
    have HS12 := hid hs5
    have HF12 := hid F12
    have HC12 := hid C12
    have HR12 := hid (HR10.out.ch C12 hne3)
    have HK12 := hid ((C12.block _ (lt_of_block HK10.out) hne5).trans HK10.out)
    clear hs5 hs5' F12 C12 hW12
    refine hK.out _ _ (by exact h12) (fun _ => ?_)
    clear hK K
    refine wpAnyH_done (by kernel_rfl) ?_ _
    clear c0 c1 c2 c3 c4
    obtain ⟨c0, c1, c2, c3, c4⟩ := HF12.out.cells
    have lf := HF12.out.lt
    go_wp2_with fail
    refine (given_any w1.heap.size k L g a _ _ _ _ _ _ W12 HS12.out HG.out HA.out hg0 hg1').mono ?_
    rintro e w7 ⟨rfl, s7, g7⟩
    have R7 := HR12.out.ch g7 (fun e => by have e1 : w1.heap.size ≤ w.heap.size + 1 := e; omega)
    have K7 := (g7.block _ (lt_of_block HK12.out) (fun e => by have e1 : w1.heap.size ≤ w.heap.size + 1 + 1 := e; omega)).trans HK12.out
    obtain ⟨z0, z1, z2, z3, z4⟩ := R7.cells
    obtain ⟨zf0, zf1, zf2, zf3, zf4⟩ := R7.fz
    have x0 := cell_of K7 0
    have x1 := cell_of K7 1
    have xf0 := frozen_of K7 0
    have xf1 := frozen_of K7 1
    have lr := R7.lt
    have lk := lt_of_block K7
    have HS7 := hid s7
    have HG7 := hid ((HG10.out.trans HC12.out (fun q e => .inr (by have e1 : q = g1 := e; omega))).trans g7 (fun q e => .inr (by have e1 : w1.heap.size ≤ q := e; omega)))
    clear R7 K7 s7 g7
    go_wp2
    rw [HFL.out]
    have C8 := (((((Ch.refl (Only (w.heap.size + 1)) w7).own 0 (.int .i64 L)).own 1 (.slice a1 nG q1)).own 2 (.slice a2 nA q2)).own 3 (.slice (some ⟨g1, 0, none⟩) nC q3)).own 4 (.slice a9 m9 q9)
    have C9 := ((Ch.refl (Only (w.heap.size + 1 + 1)) (((((w7.setCell ⟨w.heap.size + 1, 0, none⟩ (.int .i64 L)).setCell ⟨w.heap.size + 1, 1, none⟩ (.slice a1 nG q1)).setCell ⟨w.heap.size + 1, 2, none⟩ (.slice a2 nA q2)).setCell ⟨w.heap.size + 1, 3, none⟩ (.slice (some ⟨g1, 0, none⟩) nC q3)).setCell ⟨w.heap.size + 1, 4, none⟩ (.slice a9 m9 q9))).own 0 (.int .i64 (k : Int))).own 1 (.int .i64 (g + 1))
    exact bodyPost_ret (v := .tuple #[.agg #[.int .i64 L, .slice a1 nG q1, .slice a2 nA q2, .slice (some ⟨g1, 0, none⟩) nC q3, .slice a9 m9 q9], .agg #[.int .i64 (k : Int), .int .i64 (g + 1)], .int .i64 0]) (by simp [results, Try.results39, go_sem, z0, z1, z2, z3, z4, x0, x1]) rfl (Toldn.of ((((HS7.out.ch C8 (fun q a e => by have := (HS7.out.blk a).1; have e1 : q = w.heap.size + 1 := e; omega)).ch C9 (fun q a e => by have := (HS7.out.blk a).1; have e1 : q = w.heap.size + 1 + 1 := e; omega))).lower (by omega)) ((HG7.out.trans C8 (fun q e => .inr (by have e1 : q = w.heap.size + 1 := e; omega))).trans C9 (fun q e => .inr (by have e1 : q = w.heap.size + 1 + 1 := e; omega))))
  · refine (HI9.out _ _).mono ?_
    rintro e w9 ⟨v9, rfl, o9, g9⟩
    obtain ⟨a9, q9, rfl⟩ := o9.form
    obtain ⟨m9, hm9⟩ : ∃ m, m = (iv (x.F.drop (n + 1))).length := ⟨_, rfl⟩
    rw [← hm9] at o9 ⊢
    clear hm9
    have s9 := (HS6.out.free (w1 := w9) (F' := x.F.drop (n + 1)) (g9.mono (fun q e => e.elim)) (o9.lower hb6) (fun q e => .inr (o9.blk e).1))
    have F9 := HF6.out.ch g9 (noB _)
    obtain ⟨W10, hW10⟩ : ∃ W, W = w9.setCell ⟨w.heap.size, 4, none⟩ (.slice a9 m9 q9) := ⟨_, rfl⟩
    have C10 : Ch (Only w.heap.size) w9 W10 := by rw [hW10]; exact (Ch.refl _ _).own _ _
    have HF10 := hid (show Fv 45 W10 w.heap.size (.int .i64 L) (.slice a1 nG q1) (.slice a2 nA q2) (.slice (some ⟨g1, 0, none⟩) nC q3) (.slice a9 m9 q9) by rw [hW10]; exact setCell_block F9 4 _)
    have HS10 := hid (s9.ch C10 (fun q a e => by have := (s9.blk a).1; have e1 : q = w.heap.size := e; omega))
    have HG10 := hid ((HG6.out.trans g9 (fun q e => e.elim)).trans C10 (fun q e => .inr (by have e1 : q = w.heap.size := e; omega)))
    have HR10 := hid ((HR6.out.ch g9 (noB _)).ch C10 (fun e => by have e1 : w.heap.size + 1 = w.heap.size := e; omega))
    have HK10 := hid ((C10.block _ (Nat.lt_of_lt_of_le (lt_of_block HK6.out) g9.size) (fun e => by have e1 : w.heap.size + 1 + 1 = w.heap.size := e; omega)).trans ((g9.block _ (lt_of_block HK6.out) (noB _)).trans HK6.out))
    have hCp : (x.C.set p (x.F.take (n + 1)))[p]? = some (cl ++ [(k : Int)]) := by rw [List.getElem?_set_self hpc, HCL.out]
    have hou := s9.e p _ _ HUN.out hCp
    obtain ⟨gu, rfl, hgub, hgul, -, du, -, -⟩ := hou.get1 (iv_get (show (cl ++ [(k : Int)])[n]? = some (k : Int) by rw [HLL.out]; simp))
    obtain ⟨g', e', -, hg9, -, d9, df9, -⟩ := s9.c.get1 HUN.out
    cases e'
    have HTK := hid (show Ow 3 w1.heap.size W10 (.slice (some ⟨gu, 0, none⟩) n q5) (iv cl) by
      have := (HS10.out.e p _ _ HUN.out hCp).take (n := n) (by omega)
      rw [iv_take, HLL.out, List.take_left] at this
      rw [HLL.out]
      exact this)
    have hq5 := hou.len.2
    have n5 : ¬ (gu = w.heap.size) := by omega
    have n6 : ¬ (w.heap.size = gu) := by omega
    have f4 : (n : Int) ≤ (q5 : Int) := by omega
    clear c0 c1 c2 c3 c4
    obtain ⟨c0, c1, c2, c3, c4⟩ := F9.cells
    obtain ⟨y0, y1, y2, y3, y4⟩ := F9.fz
    have l9 := F9.lt
    clear hou s9 F9 C10 o9 g9
    go_wp2_with fail
    rw [← hW10]
    clear hW10 c0 c1 c2 c3 c4 y0 y1 y2 y3 y4 l9 d0 df du d9 df9
    obtain ⟨c0, c1, c2, c3, c4⟩ := HF10.out.cells
    have l3' := HF10.out.lt
    obtain ⟨g', e', -, -, -, d0, df, -⟩ := HS10.out.c.get1 HUN.out
    cases e'
    refine wp_region_held_drew (S := fun w' => w'.cell? ⟨w.heap.size, 3, none⟩ = some (.slice (some ⟨g1, 0, none⟩) nC q3)) (by kernel_rfl) (by exact c3) (fun _ => ?_)
    refine takeS_on (i := 0) 65 (v := ?v148) rfl rfl (by kernel_rfl) (by kernel_rfl) (by kernel_rfl) (fun _ _ _ h => h) (by kernel_rfl) ?hy148 (by exact c3) ?_
    case hy148 => (intro w' hSw; go_simp; try (with_reducible rfl))
    simp only [Act.put, List.setIfInBounds_toArray, List.set_cons_zero, List.set_cons_succ]
    refine takeS_on (i := 1) 66 (v := ?v149) rfl rfl (by kernel_rfl) (by kernel_rfl) (by kernel_rfl) (fun _ _ _ h => h) (by kernel_rfl) ?hy149 (by exact c3) ?_
    case hy149 => (intro w' hSw; go_simp; try (with_reducible rfl))
    simp only [Act.put, List.setIfInBounds_toArray, List.set_cons_zero, List.set_cons_succ]
    refine takeS_on (i := 2) 67 (v := ?v150) rfl rfl (by kernel_rfl) (by kernel_rfl) (by kernel_rfl) (fun _ _ _ h => h) (by kernel_rfl) ?hy150 (by exact c3) ?_
    case hy150 => (intro w' hSw; go_simp; try (with_reducible rfl))
    simp only [Act.put, List.setIfInBounds_toArray, List.set_cons_zero, List.set_cons_succ]
    refine takeS_on (i := 3) 68 (v := ?v151) rfl rfl (by kernel_rfl) (by kernel_rfl) (by kernel_rfl) (fun _ _ _ h => h) (by kernel_rfl) ?hy151 (by exact c3) ?_
    case hy151 => (intro w' hSw; go_simp; try (with_reducible rfl))
    simp only [Act.put, List.setIfInBounds_toArray, List.set_cons_zero, List.set_cons_succ]
    refine takeS_on (i := 4) 69 (v := ?v152) rfl rfl (by kernel_rfl) (by kernel_rfl) (by kernel_rfl) (fun _ _ _ h => h) (by kernel_rfl) ?hy152 (by exact c3) ?_
    case hy152 => (intro w' hSw; go_simp; try (with_reducible rfl))
    simp only [Act.put, List.setIfInBounds_toArray, List.set_cons_zero, List.set_cons_succ]
    refine takeS_on (i := 5) 70 (v := ?v153) rfl rfl (by kernel_rfl) (by kernel_rfl) (by kernel_rfl) (fun _ _ _ h => h) (by kernel_rfl) ?hy153 (by exact c3) ?_
    case hy153 => (intro w' hSw; go_simp; try (with_reducible rfl))
    simp only [Act.put, List.setIfInBounds_toArray, List.set_cons_zero, List.set_cons_succ]
    refine takeS_on (i := 6) 71 (v := ?v154) rfl rfl (by kernel_rfl) (by kernel_rfl) (by kernel_rfl) (fun _ _ _ h => h) (by kernel_rfl) ?hy154 (by exact c3) ?_
    case hy154 => (intro w' hSw; go_simp; try (with_reducible rfl))
    simp only [Act.put, List.setIfInBounds_toArray, List.set_cons_zero, List.set_cons_succ]
    refine takeS_on (i := 8) 73 (v := ?v155) rfl rfl (by kernel_rfl) (by kernel_rfl) (by kernel_rfl) (fun _ _ _ h => h) (by kernel_rfl) ?hy155 (by exact c3) ?_
    case hy155 => (intro w' hSw; go_simp; try (with_reducible rfl))
    simp only [Act.put, List.setIfInBounds_toArray, List.set_cons_zero, List.set_cons_succ]
    refine takeS_on (i := 9) 74 (v := ?v156) rfl rfl (by kernel_rfl) (by kernel_rfl) (by kernel_rfl) (fun _ _ _ h => h) (by kernel_rfl) ?hy156 (by exact c3) ?_
    case hy156 => (intro w' hSw; go_simp; try (with_reducible rfl))
    simp only [Act.put, List.setIfInBounds_toArray, List.set_cons_zero, List.set_cons_succ]
    refine wpAnyH_ready (rs := [7]) (by kernel_rfl) (by simp) (AllReadyH.cons rfl (fun K hK => ?_) AllReadyH.nil)
    go_simp
    refine hK.out _ _ (by exact c3) (fun _ => ?_)
    clear hK K
    refine takeS_on (i := 10) 75 (v := ?v157) rfl rfl (by kernel_rfl) (by kernel_rfl) (by kernel_rfl) (fun _ _ _ h => h) (by kernel_rfl) ?hy157 (by exact c3) ?_
    case hy157 => (intro w' hSw; go_simp; try (with_reducible rfl))
    simp only [Act.put, List.setIfInBounds_toArray, List.set_cons_zero, List.set_cons_succ]
    refine takeS_on (i := 11) 76 (v := ?v158) rfl rfl (by kernel_rfl) (by kernel_rfl) (by kernel_rfl) (fun _ _ _ h => h) (by kernel_rfl) ?hy158 (by exact c3) ?_
    case hy158 => (intro w' hSw; go_simp; try (with_reducible rfl))
    simp only [Act.put, List.setIfInBounds_toArray, List.set_cons_zero, List.set_cons_succ]
    refine wpAnyH_ready (rs := [12]) (by kernel_rfl) (by simp) (AllReadyH.cons rfl (fun K hK => ?_) AllReadyH.nil)
    go_simp
    have hs5' := HS10.out.cache (c' := cl) HUN.out (Ch.refl _ W10) HTK.out (fun q e => .inl (e.len _))
    have hs5 := hs5'.ch ((Ch.refl NoB _).drew) (fun _ _ => noB _)
    obtain ⟨W12, hW12⟩ : ∃ W, W = (W10.setCell ⟨g1, p, none⟩ (.slice (some ⟨gu, 0, none⟩) n q5)).drew := ⟨_, rfl⟩
    have C12 : Ch (Only g1) W10 W12 := by rw [hW12]; exact ((Ch.refl _ _).own _ _).drew
    have F12 := HF10.out.ch C12 hne1
    have h12 := (C12.cell (o := 3) HF10.out.lt hne1).trans c3
    rw [← hW12] at hs5 ⊢
    have HS12 := hid hs5
    have HF12 := hid F12
    have HC12 := hid C12
    have HR12 := hid (HR10.out.ch C12 hne3)
    have HK12 := hid ((C12.block _ (lt_of_block HK10.out) hne5).trans HK10.out)
    clear hs5 hs5' F12 C12 hW12
    refine hK.out _ _ (by exact h12) (fun _ => ?_)
    clear hK K
    refine wpAnyH_done (by kernel_rfl) ?_ _
    clear c0 c1 c2 c3 c4
    obtain ⟨c0, c1, c2, c3, c4⟩ := HF12.out.cells
    have lf := HF12.out.lt
    go_wp2_with fail
    refine (given_any w1.heap.size k L g a _ _ _ _ _ _ W12 HS12.out HG.out HA.out hg0 hg1').mono ?_
    rintro e w7 ⟨rfl, s7, g7⟩
    have R7 := HR12.out.ch g7 (fun e => by have e1 : w1.heap.size ≤ w.heap.size + 1 := e; omega)
    have K7 := (g7.block _ (lt_of_block HK12.out) (fun e => by have e1 : w1.heap.size ≤ w.heap.size + 1 + 1 := e; omega)).trans HK12.out
    obtain ⟨z0, z1, z2, z3, z4⟩ := R7.cells
    obtain ⟨zf0, zf1, zf2, zf3, zf4⟩ := R7.fz
    have x0 := cell_of K7 0
    have x1 := cell_of K7 1
    have xf0 := frozen_of K7 0
    have xf1 := frozen_of K7 1
    have lr := R7.lt
    have lk := lt_of_block K7
    have HS7 := hid s7
    have HG7 := hid ((HG10.out.trans HC12.out (fun q e => .inr (by have e1 : q = g1 := e; omega))).trans g7 (fun q e => .inr (by have e1 : w1.heap.size ≤ q := e; omega)))
    clear R7 K7 s7 g7
    go_wp2
    rw [HFL.out]
    have C8 := (((((Ch.refl (Only (w.heap.size + 1)) w7).own 0 (.int .i64 L)).own 1 (.slice a1 nG q1)).own 2 (.slice a2 nA q2)).own 3 (.slice (some ⟨g1, 0, none⟩) nC q3)).own 4 (.slice a9 m9 q9)
    have C9 := ((Ch.refl (Only (w.heap.size + 1 + 1)) (((((w7.setCell ⟨w.heap.size + 1, 0, none⟩ (.int .i64 L)).setCell ⟨w.heap.size + 1, 1, none⟩ (.slice a1 nG q1)).setCell ⟨w.heap.size + 1, 2, none⟩ (.slice a2 nA q2)).setCell ⟨w.heap.size + 1, 3, none⟩ (.slice (some ⟨g1, 0, none⟩) nC q3)).setCell ⟨w.heap.size + 1, 4, none⟩ (.slice a9 m9 q9))).own 0 (.int .i64 (k : Int))).own 1 (.int .i64 (g + 1))
    exact bodyPost_ret (v := .tuple #[.agg #[.int .i64 L, .slice a1 nG q1, .slice a2 nA q2, .slice (some ⟨g1, 0, none⟩) nC q3, .slice a9 m9 q9], .agg #[.int .i64 (k : Int), .int .i64 (g + 1)], .int .i64 0]) (by simp [results, Try.results39, go_sem, z0, z1, z2, z3, z4, x0, x1]) rfl (Toldn.of ((((HS7.out.ch C8 (fun q a e => by have := (HS7.out.blk a).1; have e1 : q = w.heap.size + 1 := e; omega)).ch C9 (fun q a e => by have := (HS7.out.blk a).1; have e1 : q = w.heap.size + 1 + 1 := e; omega))).lower (by omega)) ((HG7.out.trans C8 (fun q e => .inr (by have e1 : q = w.heap.size + 1 := e; omega))).trans C9 (fun q e => .inr (by have e1 : q = w.heap.size + 1 + 1 := e; omega))))
end Go.Proofs.Ytfbkifkfhgkdbab.Sb
