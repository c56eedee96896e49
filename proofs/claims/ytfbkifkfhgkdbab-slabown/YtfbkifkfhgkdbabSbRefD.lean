/-
  What the document's Take answers, where there is no such P, and where the P's own cache holds a slot. Condition: the state is there, no list of it is too long, and the slot was made.
-/
import Derived.Test.YtfbkifkfhgkdbabSbRefC
namespace Go.Proofs.Ytfbkifkfhgkdbab.Sb
open Go.RowKit
open Classical
attribute [local go_sem ↓] Go.wp_at_zero Go.wp_at_succ

/-- a state, a name and an error are told -/
def Toldn (L s g e0 : Int) (x' : Sl) (w : World) (e : Ending) (w' : World) : Prop :=
  ∃ vg' va' vc' vf' cv', e = .returned (.tuple #[.agg #[.int .i64 L, vg', va', vc', vf'], .agg #[.int .i64 s, .int .i64 g], .int .i64 e0]) ∧ St w.heap.size w' vg' va' vc' vf' cv' x' ∧ Ch NoB w w'
theorem Toldn.of {L s g e0 : Int} {x' : Sl} {w w' : World} {vg' va' vc' vf' : Value} {cv' : List Value} (h : St w.heap.size w' vg' va' vc' vf' cv' x') (k : Ch NoB w w') : Toldn L s g e0 x' w (.returned (.tuple #[.agg #[.int .i64 L, vg', va', vc', vf'], .agg #[.int .i64 s, .int .i64 g], .int .i64 e0])) w' := ⟨vg', va', vc', vf', cv', rfl, h, k⟩

set_option maxRecDepth 100000 in
set_option maxHeartbeats 2000000 in
theorem rtake_bad (P : Nat → Prop) (p L : Int) (vg va vc vf : Value) (cv : List Value) (x : Sl) (w : World) (h : Rd P w vg va vc vf cv x) (ht : x.Fits) (hp : ¬ HasP x p) :
    Calls Try.prog 39 #[.agg #[.int .i64 L, vg, va, vc, vf], .int .i64 p] w fun e w' => e = .returned (.tuple #[.agg #[.int .i64 L, vg, va, vc, vf], .agg #[.int .i64 0, .int .i64 0], .int .i64 1]) ∧ Ch NoB w w' := by
  obtain ⟨ga, gc, rfl⟩ := h.g.form
  obtain ⟨aa, ac, rfl⟩ := h.a.form
  obtain ⟨ca, cc, rfl⟩ := h.c.form
  obtain ⟨fa, fc, rfl⟩ := h.f.form
  obtain ⟨nG, hnG⟩ : ∃ n, n = (iv x.G).length := ⟨_, rfl⟩
  obtain ⟨nA, hnA⟩ : ∃ n, n = (bv x.A).length := ⟨_, rfl⟩
  obtain ⟨nC, hnC⟩ : ∃ n, n = cv.length := ⟨_, rfl⟩
  obtain ⟨nF, hnF⟩ : ∃ n, n = (iv x.F).length := ⟨_, rfl⟩
  rw [← hnG, ← hnA, ← hnC, ← hnF] at h
  rw [← hnG, ← hnA, ← hnC, ← hnF]
  obtain ⟨W0, hW0⟩ : ∃ W0, W0 = ((w.alloc (.cells #[.int .i64 L, .slice ga nG gc, .slice aa nA ac, .slice ca nC cc, .slice fa nF fc] 45)).alloc (.cells #[.int .i64 0, .slice none 0 0, .slice none 0 0, .slice none 0 0, .slice none 0 0] 45)).alloc (.cells #[.int .i64 0, .int .i64 0] 34) := ⟨_, rfl⟩
  have g0 : Ch NoB w W0 := by rw [hW0]; exact (((Ch.refl NoB w).alloc _).alloc _).alloc _
  have f0 : Fv 45 W0 w.heap.size (.int .i64 L) (.slice ga nG gc) (.slice aa nA ac) (.slice ca nC cc) (.slice fa nF fc) := by rw [hW0]; exact ((Fv.new 45 w _ _ _ _ _).alloc _).alloc _
  have r0 : Fv 45 W0 (w.heap.size + 1) (.int .i64 0) (.slice none 0 0) (.slice none 0 0) (.slice none 0 0) (.slice none 0 0) := by
    have z := Fv.new 45 (w.alloc (.cells #[.int .i64 L, .slice ga nG gc, .slice aa nA ac, .slice ca nC cc, .slice fa nF fc] 45)) (.int .i64 0) (.slice none 0 0) (.slice none 0 0) (.slice none 0 0) (.slice none 0 0)
    rw [World.size_alloc] at z
    rw [hW0]
    exact z.alloc _
  have k0 : W0.heap[w.heap.size + 1 + 1]? = some (.cells #[.int .i64 0, .int .i64 0] 34 (0, 0)) := by
    rw [hW0]
    have z := (MapKept.heap_alloc ((w.alloc (.cells #[.int .i64 L, .slice ga nG gc, .slice aa nA ac, .slice ca nC cc, .slice fa nF fc] 45)).alloc (.cells #[.int .i64 0, .slice none 0 0, .slice none 0 0, .slice none 0 0, .slice none 0 0] 45)) (.cells #[.int .i64 0, .int .i64 0] 34)).1
    simpa using z
  have HK0 := hid k0
  have hk0 := lt_of_block k0
  have hr := (h.mono (Q := fun g => g < w.heap.size) (fun g a _ => a)).ch g0 (fun _ _ _ => noB _)
  have HPR := hid (rproc_any _ L p _ _ _ _ cv x W0 hr)
  have HCP := hid (fun (W : World) (k : Ch NoB W0 W) => copy_any L _ _ _ _ cv x _ W (hr.ch k (fun _ _ _ => noB _)) ht)
  have HF0 := hid f0
  have HR0 := hid r0
  have HG0 := hid g0
  have HnG := hid hnG
  have HnA := hid hnA
  have HnF := hid hnF
  have HnC := hid (show nC = x.C.length by rw [hnC, h.e.1])
  have HT := hid ht
  have hl0 := r0.lt
  have HP := hid hp
  clear h hr f0 r0 g0 k0 hnG hnA hnC hnF ht hp
  go_enter Try.func39, Try.ntmps39
  go_wp2_with fail
  rw [← hW0]
  clear hW0
  refine HPR.out.mono ?_
  rintro e w1 ⟨rfl, g1⟩
  rw [show decide (HasP x p) = false from decide_eq_false HP.out]
  have F1 := HF0.out.ch g1 (noB _)
  have R1 := HR0.out.ch g1 (noB _)
  have K1 := (g1.block _ (lt_of_block HK0.out) (noB _)).trans HK0.out
  obtain ⟨c0, c1, c2, c3, c4⟩ := F1.cells
  obtain ⟨z0, z1, z2, z3, z4⟩ := R1.cells
  obtain ⟨zf0, zf1, zf2, zf3, zf4⟩ := R1.fz
  have x0 := cell_of K1 0
  have x1 := cell_of K1 1
  have xf0 := frozen_of K1 0
  have xf1 := frozen_of K1 1
  have l1 := F1.lt
  have l2 := R1.lt
  have l3 := lt_of_block K1
  have HG1 := hid g1
  clear F1 R1 g1 K1
  go_wp2
  have C5 := (((((Ch.refl (Only (w.heap.size + 1)) w1).own 0 (.int .i64 L)).own 1 (.slice ga nG gc)).own 2 (.slice aa nA ac)).own 3 (.slice ca nC cc)).own 4 (.slice fa nF fc)
  exact bodyPost_ret (v := .tuple #[.agg #[.int .i64 L, .slice ga nG gc, .slice aa nA ac, .slice ca nC cc, .slice fa nF fc], .agg #[.int .i64 0, .int .i64 0], .int .i64 1]) (by simp [results, Try.results39, go_sem, z0, z1, z2, z3, z4, x0, x1]) rfl ⟨rfl, ((HG0.out.trans' HG1.out).trans C5 (fun q e => .inr (by have e1 : q = w.heap.size + 1 := e; omega))).trans (((Ch.refl (Only (w.heap.size + 1 + 1)) _).own 0 (.int .i64 0)).own 1 (.int .i64 0)) (fun q e => .inr (by have e1 : q = w.heap.size + 1 + 1 := e; omega))⟩

set_option maxRecDepth 100000 in
set_option maxHeartbeats 8000000 in
theorem rtake_own (P : Nat → Prop) (p k : Nat) (L g : Int) (a : Bool) (cl : List Int) (vg va vc vf : Value) (cv : List Value) (x : Sl) (w : World) (h : Rd P w vg va vc vf cv x) (ht : x.Fits) (hc : x.C[p]? = some (cl ++ [(k : Int)])) (hG : x.G[k]? = some g) (hA : x.A[k]? = some a) (hg0 : 0 ≤ g) (hg1' : g < 2147483647) :
    Calls Try.prog 39 #[.agg #[.int .i64 L, vg, va, vc, vf], .int .i64 (p : Int)] w fun e w' => Toldn L (k : Int) (g + 1) 0 (givenS { x with C := x.C.set p cl } k g) w e w' := by
  obtain ⟨ga, gc, rfl⟩ := h.g.form
  obtain ⟨aa, ac, rfl⟩ := h.a.form
  obtain ⟨ca, cc, rfl⟩ := h.c.form
  obtain ⟨fa, fc, rfl⟩ := h.f.form
  obtain ⟨nG, hnG⟩ : ∃ n, n = (iv x.G).length := ⟨_, rfl⟩
  obtain ⟨nA, hnA⟩ : ∃ n, n = (bv x.A).length := ⟨_, rfl⟩
  obtain ⟨nC, hnC⟩ : ∃ n, n = cv.length := ⟨_, rfl⟩
  obtain ⟨nF, hnF⟩ : ∃ n, n = (iv x.F).length := ⟨_, rfl⟩
  rw [← hnG, ← hnA, ← hnC, ← hnF] at h
  rw [← hnG, ← hnA, ← hnC, ← hnF]
  obtain ⟨W0, hW0⟩ : ∃ W0, W0 = ((w.alloc (.cells #[.int .i64 L, .slice ga nG gc, .slice aa nA ac, .slice ca nC cc, .slice fa nF fc] 45)).alloc (.cells #[.int .i64 0, .slice none 0 0, .slice none 0 0, .slice none 0 0, .slice none 0 0] 45)).alloc (.cells #[.int .i64 0, .int .i64 0] 34) := ⟨_, rfl⟩
  have g0 : Ch NoB w W0 := by rw [hW0]; exact (((Ch.refl NoB w).alloc _).alloc _).alloc _
  have f0 : Fv 45 W0 w.heap.size (.int .i64 L) (.slice ga nG gc) (.slice aa nA ac) (.slice ca nC cc) (.slice fa nF fc) := by rw [hW0]; exact ((Fv.new 45 w _ _ _ _ _).alloc _).alloc _
  have r0 : Fv 45 W0 (w.heap.size + 1) (.int .i64 0) (.slice none 0 0) (.slice none 0 0) (.slice none 0 0) (.slice none 0 0) := by
    have z := Fv.new 45 (w.alloc (.cells #[.int .i64 L, .slice ga nG gc, .slice aa nA ac, .slice ca nC cc, .slice fa nF fc] 45)) (.int .i64 0) (.slice none 0 0) (.slice none 0 0) (.slice none 0 0) (.slice none 0 0)
    rw [World.size_alloc] at z
    rw [hW0]
    exact z.alloc _
  have k0 : W0.heap[w.heap.size + 1 + 1]? = some (.cells #[.int .i64 0, .int .i64 0] 34 (0, 0)) := by
    rw [hW0]
    have z := (MapKept.heap_alloc ((w.alloc (.cells #[.int .i64 L, .slice ga nG gc, .slice aa nA ac, .slice ca nC cc, .slice fa nF fc] 45)).alloc (.cells #[.int .i64 0, .slice none 0 0, .slice none 0 0, .slice none 0 0, .slice none 0 0] 45)) (.cells #[.int .i64 0, .int .i64 0] 34)).1
    simpa using z
  have HK0 := hid k0
  have hk0 := lt_of_block k0
  have hr := (h.mono (Q := fun g => g < w.heap.size) (fun g a _ => a)).ch g0 (fun _ _ _ => noB _)
  have HPR := hid (rproc_any _ L (p : Int) _ _ _ _ cv x W0 hr)
  have HCP := hid (fun (W : World) (k : Ch NoB W0 W) => copy_any L _ _ _ _ cv x _ W (hr.ch k (fun _ _ _ => noB _)) ht)
  have HF0 := hid f0
  have HR0 := hid r0
  have HG0 := hid g0
  have HnG := hid hnG
  have HnA := hid hnA
  have HnF := hid hnF
  have HnC := hid (show nC = x.C.length by rw [hnC, h.e.1])
  have HT := hid ht
  have hl0 := r0.lt
  have HC := hid hc
  have HG := hid hG
  have HA := hid hA
  have HP := hid (show HasP x (p : Int) from ⟨by omega, by have := (List.getElem?_eq_some_iff.1 hc).1; omega⟩)
  clear h hr f0 r0 g0 k0 hnG hnA hnC hnF ht hc hG hA
  go_enter Try.func39, Try.ntmps39
  go_wp2_with fail
  rw [← hW0]
  clear hW0
  refine HPR.out.mono ?_
  rintro e w1 ⟨rfl, g1⟩
  rw [show decide (HasP x (p : Int)) = true from decide_eq_true HP.out]
  have F1 := HF0.out.ch g1 (noB _)
  obtain ⟨c0, c1, c2, c3, c4⟩ := F1.cells
  have l1 := F1.lt
  have HG1 := hid g1
  have HF1 := hid F1
  clear F1 g1
  go_wp2_with fail
  refine (HCP.out w1 HG1.out).mono ?_
  rintro e w2 ⟨vg2, va2, vc2, vf2, cu, rfl, s2, g2⟩
  obtain ⟨a1, q1, rfl⟩ := s2.g.form
  obtain ⟨a2, q2, rfl⟩ := s2.a.form
  obtain ⟨a3, q3, rfl⟩ := s2.c.form
  obtain ⟨a4, q4, rfl⟩ := s2.f.form
  have hcu : cu.length = nC := by rw [s2.cl, HnC.out]
  rw [← HnG.out, ← HnA.out, hcu, ← HnF.out] at s2 ⊢
  have F2 := HF1.out.ch g2 (noB _)
  have hb1 : w.heap.size + 1 + 1 < w1.heap.size := Nat.lt_of_lt_of_le hk0 HG1.out.size
  have hb2 := g2.size
  obtain ⟨W3, hW3⟩ : ∃ W, W = ((((w2.setCell ⟨w.heap.size, 0, none⟩ (.int .i64 L)).setCell ⟨w.heap.size, 1, none⟩ (.slice a1 nG q1)).setCell ⟨w.heap.size, 2, none⟩ (.slice a2 nA q2)).setCell ⟨w.heap.size, 3, none⟩ (.slice a3 nC q3)).setCell ⟨w.heap.size, 4, none⟩ (.slice a4 nF q4) := ⟨_, rfl⟩
  have C3 : Ch (Only w.heap.size) w2 W3 := by rw [hW3]; exact (((((Ch.refl (Only w.heap.size) w2).own 0 _).own 1 _).own 2 _).own 3 _).own 4 _
  have F3 : Fv 45 W3 w.heap.size (.int .i64 L) (.slice a1 nG q1) (.slice a2 nA q2) (.slice a3 nC q3) (.slice a4 nF q4) := by rw [hW3]; exact setCell_block (setCell_block (setCell_block (setCell_block (setCell_block F2 0 _) 1 _) 2 _) 3 _) 4 _
  have s3 := s2.ch C3 (fun q a e => by have := (s2.blk a).1; have e1 : q = w.heap.size := e; omega)
  have HS3 := hid s3
  have HS2 := hid s2
  have HC3 := hid C3
  have HF3 := hid F3
  have HG3 := hid ((HG0.out.trans' (HG1.out.trans' g2)).trans C3 (fun q e => .inr (by have e1 : q = w.heap.size := e; omega)))
  have K2 := (g2.block _ (lt_of_block ((HG1.out.block _ (lt_of_block HK0.out) (noB _)).trans HK0.out)) (noB _)).trans ((HG1.out.block _ (lt_of_block HK0.out) (noB _)).trans HK0.out)
  have HK3 := hid ((C3.block _ (lt_of_block K2) (fun e => by have e1 : w.heap.size + 1 + 1 = w.heap.size := e; omega)).trans K2)
  have HR3 := hid (((HR0.out.ch HG1.out (noB _)).ch g2 (noB _)).ch C3 (fun e => by have e1 : w.heap.size + 1 = w.heap.size := e; omega))
  have hb3 : w1.heap.size ≤ W3.heap.size := Nat.le_trans hb2 C3.size
  clear c0 c1 c2 c3 c4 l1
  obtain ⟨c0, c1, c2, c3, c4⟩ := F2.cells
  obtain ⟨y0, y1, y2, y3, y4⟩ := F2.fz
  have l2 := F2.lt
  clear F2 C3 s2 g2 F3 s3 K2
  have hpc : p < x.C.length := (List.getElem?_eq_some_iff.1 HC.out).1
  have hpn : p < nC := by rw [HnC.out]; exact hpc
  obtain ⟨u, hu⟩ : ∃ u, cu[p]? = some u := ⟨_, List.getElem?_eq_getElem (by rw [hcu]; exact hpn)⟩
  have hou := HS2.out.e p u (cl ++ [(k : Int)]) hu HC.out
  obtain ⟨ua, uc, rfl⟩ := hou.form
  obtain ⟨nU, hnU⟩ : ∃ n, n = (iv (cl ++ [(k : Int)])).length := ⟨_, rfl⟩
  rw [← hnU] at hou hu
  obtain ⟨g1, rfl, hg1b, hg1, hcap1, d0, df, -⟩ := HS2.out.c.get1 hu
  have hucap := hou.len.2
  have b3 : (0 : Int) ≤ (p : Int) := by omega
  have b4 : (p : Int) < (nC : Int) := by omega
  have hne1 : ¬ (w.heap.size = g1) := by omega
  have hne2 : ¬ (g1 = w.heap.size) := by omega
  have HU := hid hu
  have HOU := hid hou
  obtain ⟨n, hn⟩ : ∃ n, n = cl.length := ⟨_, rfl⟩
  have hUn : nU = n + 1 := by rw [hnU, iv_length, hn]; simp
  subst hUn
  obtain ⟨gu, rfl, hgub, hgul, -, du, -, -⟩ := hou.get1 (iv_get (show (cl ++ [(k : Int)])[n]? = some (k : Int) by rw [hn]; simp))
  have HTK := hid (show Ow 3 w1.heap.size W3 (.slice (some ⟨gu, 0, none⟩) n uc) (iv cl) by
    have := (HS3.out.e p _ _ HU.out HC.out).take (n := n) (by omega)
    rw [iv_take, hn, List.take_left] at this
    rw [hn]
    exact this)
  have hnl : n + 1 ≤ 4294967296 := by rw [hnU, iv_length]; exact HT.out.e p _ HC.out
  have f0 : decide ((0 : Int) < (n : Int) + 1) = true := decide_eq_true (by omega)
  have e0 : ((n : Int) + 1 == 0) = false := by simp; omega
  have e1 : ¬ ((n : Int) + 1 = 0) := by omega
  have f1 : (0 : Int) < (n : Int) + 1 := by omega
  have hw : IntKind.i64.wrap ((n : Int) + 1 - 1) = (n : Int) := by rw [IntKind.wrap_i64]; omega
  have f2 : (n : Int) < (n : Int) + 1 := by omega
  have hw2 : IntKind.i64.wrap (n : Int) = (n : Int) := by rw [IntKind.wrap_i64]; omega
  have f3 : (0 : Int) ≤ (n : Int) := by omega
  have f4 : (n : Int) ≤ (uc : Int) := by omega
  have hne3 : ¬ (w.heap.size + 1 = g1) := by omega
  have hne4 : ¬ (g1 = w.heap.size + 1) := by omega
  have hne5 : ¬ (w.heap.size + 1 + 1 = g1) := by omega
  have hne6 : ¬ (g1 = w.heap.size + 1 + 1) := by omega
  have n5 : ¬ (gu = w.heap.size) := by omega
  have n6 : ¬ (w.heap.size = gu) := by omega
  have v3 := (HC3.out.cell (o := p) hg1 hne2).trans d0
  have hg3 := Nat.lt_of_lt_of_le hg1 HC3.out.size
  clear hu hou hnU hn
  go_wp2_with fail
  rw [← hW3]
  clear hW3 c0 c1 c2 c3 c4 y0 y1 y2 y3 y4 l2 d0 df du
  obtain ⟨c0, c1, c2, c3, c4⟩ := HF3.out.cells
  have l3 := HF3.out.lt
  obtain ⟨g', e', -, -, -, d0, df, -⟩ := HS3.out.c.get1 HU.out
  cases e'
  refine wp_region_held_drew (S := fun w' => w'.cell? ⟨w.heap.size, 3, none⟩ = some (.slice (some ⟨g1, 0, none⟩) nC q3)) (by kernel_rfl) (by exact c3) (fun _ => ?_)
  refine takeS_on (i := 0) 65 (v := ?v99) rfl rfl (by kernel_rfl) (by kernel_rfl) (by kernel_rfl) (fun _ _ _ h => h) (by kernel_rfl) ?hy99 (by exact c3) ?_
  case hy99 => (intro w' hSw; go_simp; try (with_reducible rfl))
  simp only [Act.put, List.setIfInBounds_toArray, List.set_cons_zero, List.set_cons_succ]
  refine takeS_on (i := 1) 66 (v := ?v100) rfl rfl (by kernel_rfl) (by kernel_rfl) (by kernel_rfl) (fun _ _ _ h => h) (by kernel_rfl) ?hy100 (by exact c3) ?_
  case hy100 => (intro w' hSw; go_simp; try (with_reducible rfl))
  simp only [Act.put, List.setIfInBounds_toArray, List.set_cons_zero, List.set_cons_succ]
  refine takeS_on (i := 2) 67 (v := ?v101) rfl rfl (by kernel_rfl) (by kernel_rfl) (by kernel_rfl) (fun _ _ _ h => h) (by kernel_rfl) ?hy101 (by exact c3) ?_
  case hy101 => (intro w' hSw; go_simp; try (with_reducible rfl))
  simp only [Act.put, List.setIfInBounds_toArray, List.set_cons_zero, List.set_cons_succ]
  refine takeS_on (i := 3) 68 (v := ?v102) rfl rfl (by kernel_rfl) (by kernel_rfl) (by kernel_rfl) (fun _ _ _ h => h) (by kernel_rfl) ?hy102 (by exact c3) ?_
  case hy102 => (intro w' hSw; go_simp; try (with_reducible rfl))
  simp only [Act.put, List.setIfInBounds_toArray, List.set_cons_zero, List.set_cons_succ]
  refine takeS_on (i := 4) 69 (v := ?v103) rfl rfl (by kernel_rfl) (by kernel_rfl) (by kernel_rfl) (fun _ _ _ h => h) (by kernel_rfl) ?hy103 (by exact c3) ?_
  case hy103 => (intro w' hSw; go_simp; try (with_reducible rfl))
  simp only [Act.put, List.setIfInBounds_toArray, List.set_cons_zero, List.set_cons_succ]
  refine takeS_on (i := 5) 70 (v := ?v104) rfl rfl (by kernel_rfl) (by kernel_rfl) (by kernel_rfl) (fun _ _ _ h => h) (by kernel_rfl) ?hy104 (by exact c3) ?_
  case hy104 => (intro w' hSw; go_simp; try (with_reducible rfl))
  simp only [Act.put, List.setIfInBounds_toArray, List.set_cons_zero, List.set_cons_succ]
  refine takeS_on (i := 6) 71 (v := ?v105) rfl rfl (by kernel_rfl) (by kernel_rfl) (by kernel_rfl) (fun _ _ _ h => h) (by kernel_rfl) ?hy105 (by exact c3) ?_
  case hy105 => (intro w' hSw; go_simp; try (with_reducible rfl))
  simp only [Act.put, List.setIfInBounds_toArray, List.set_cons_zero, List.set_cons_succ]
  refine takeS_on (i := 8) 73 (v := ?v106) rfl rfl (by kernel_rfl) (by kernel_rfl) (by kernel_rfl) (fun _ _ _ h => h) (by kernel_rfl) ?hy106 (by exact c3) ?_
  case hy106 => (intro w' hSw; go_simp; try (with_reducible rfl))
  simp only [Act.put, List.setIfInBounds_toArray, List.set_cons_zero, List.set_cons_succ]
  refine takeS_on (i := 9) 74 (v := ?v107) rfl rfl (by kernel_rfl) (by kernel_rfl) (by kernel_rfl) (fun _ _ _ h => h) (by kernel_rfl) ?hy107 (by exact c3) ?_
  case hy107 => (intro w' hSw; go_simp; try (with_reducible rfl))
  simp only [Act.put, List.setIfInBounds_toArray, List.set_cons_zero, List.set_cons_succ]
  refine wpAnyH_ready (rs := [7]) (by kernel_rfl) (by simp) (AllReadyH.cons rfl (fun K hK => ?_) AllReadyH.nil)
  go_simp
  refine hK.out _ _ (by exact c3) (fun _ => ?_)
  clear hK K
  refine takeS_on (i := 10) 75 (v := ?v108) rfl rfl (by kernel_rfl) (by kernel_rfl) (by kernel_rfl) (fun _ _ _ h => h) (by kernel_rfl) ?hy108 (by exact c3) ?_
  case hy108 => (intro w' hSw; go_simp; try (with_reducible rfl))
  simp only [Act.put, List.setIfInBounds_toArray, List.set_cons_zero, List.set_cons_succ]
  refine takeS_on (i := 11) 76 (v := ?v109) rfl rfl (by kernel_rfl) (by kernel_rfl) (by kernel_rfl) (fun _ _ _ h => h) (by kernel_rfl) ?hy109 (by exact c3) ?_
  case hy109 => (intro w' hSw; go_simp; try (with_reducible rfl))
  simp only [Act.put, List.setIfInBounds_toArray, List.set_cons_zero, List.set_cons_succ]
  refine wpAnyH_ready (rs := [12]) (by kernel_rfl) (by simp) (AllReadyH.cons rfl (fun K hK => ?_) AllReadyH.nil)
  go_simp
  have hs5' := HS3.out.cache (c' := cl) HU.out (Ch.refl _ W3) HTK.out (fun q e => .inl (e.len _))
  have hs5 := hs5'.ch ((Ch.refl NoB _).drew) (fun _ _ => noB _)
  obtain ⟨W5, hW5⟩ : ∃ W, W = (W3.setCell ⟨g1, p, none⟩ (.slice (some ⟨gu, 0, none⟩) n uc)).drew := ⟨_, rfl⟩
  have C5 : Ch (Only g1) W3 W5 := by rw [hW5]; exact ((Ch.refl _ _).own _ _).drew
  have F5 := HF3.out.ch C5 hne1
  have h5 := (C5.cell (o := 3) HF3.out.lt hne1).trans c3
  rw [← hW5] at hs5 ⊢
  have HS5 := hid hs5
  have HF5 := hid F5
  have HC5 := hid C5
  have HR5 := hid (HR3.out.ch C5 hne3)
  have HK5 := hid ((C5.block _ (lt_of_block HK3.out) hne5).trans HK3.out)
  clear hs5 hs5' F5 C5 hW5
  refine hK.out _ _ (by exact h5) (fun _ => ?_)
  clear hK K
  refine wpAnyH_done (by kernel_rfl) ?_ _
  clear c0 c1 c2 c3 c4
  obtain ⟨c0, c1, c2, c3, c4⟩ := HF5.out.cells
  have lf := HF5.out.lt
  go_wp2_with fail
  refine (given_any w1.heap.size k L g a _ _ _ _ _ _ W5 HS5.out HG.out HA.out hg0 hg1').mono ?_
  rintro e w7 ⟨rfl, s7, g7⟩
  have R7 := HR5.out.ch g7 (fun e => by have e1 : w1.heap.size ≤ w.heap.size + 1 := e; omega)
  have K7 := (g7.block _ (lt_of_block HK5.out) (fun e => by have e1 : w1.heap.size ≤ w.heap.size + 1 + 1 := e; omega)).trans HK5.out
  obtain ⟨z0, z1, z2, z3, z4⟩ := R7.cells
  obtain ⟨zf0, zf1, zf2, zf3, zf4⟩ := R7.fz
  have x0 := cell_of K7 0
  have x1 := cell_of K7 1
  have xf0 := frozen_of K7 0
  have xf1 := frozen_of K7 1
  have lr := R7.lt
  have lk := lt_of_block K7
  have HS7 := hid s7
  have HG7 := hid ((HG3.out.trans HC5.out (fun q e => .inr (by have e1 : q = g1 := e; omega))).trans g7 (fun q e => .inr (by have e1 : w1.heap.size ≤ q := e; omega)))
  clear R7 K7 s7 g7
  go_wp2
  have C8 := (((((Ch.refl (Only (w.heap.size + 1)) w7).own 0 (.int .i64 L)).own 1 (.slice a1 nG q1)).own 2 (.slice a2 nA q2)).own 3 (.slice (some ⟨g1, 0, none⟩) nC q3)).own 4 (.slice a4 nF q4)
  have C9 := ((Ch.refl (Only (w.heap.size + 1 + 1)) (((((w7.setCell ⟨w.heap.size + 1, 0, none⟩ (.int .i64 L)).setCell ⟨w.heap.size + 1, 1, none⟩ (.slice a1 nG q1)).setCell ⟨w.heap.size + 1, 2, none⟩ (.slice a2 nA q2)).setCell ⟨w.heap.size + 1, 3, none⟩ (.slice (some ⟨g1, 0, none⟩) nC q3)).setCell ⟨w.heap.size + 1, 4, none⟩ (.slice a4 nF q4))).own 0 (.int .i64 (k : Int))).own 1 (.int .i64 (g + 1))
  exact bodyPost_ret (v := .tuple #[.agg #[.int .i64 L, .slice a1 nG q1, .slice a2 nA q2, .slice (some ⟨g1, 0, none⟩) nC q3, .slice a4 nF q4], .agg #[.int .i64 (k : Int), .int .i64 (g + 1)], .int .i64 0]) (by simp [results, Try.results39, go_sem, z0, z1, z2, z3, z4, x0, x1]) rfl (Toldn.of ((((HS7.out.ch C8 (fun q a e => by have := (HS7.out.blk a).1; have e1 : q = w.heap.size + 1 := e; omega)).ch C9 (fun q a e => by have := (HS7.out.blk a).1; have e1 : q = w.heap.size + 1 + 1 := e; omega))).lower (by omega)) ((HG7.out.trans C8 (fun q e => .inr (by have e1 : q = w.heap.size + 1 := e; omega))).trans C9 (fun q e => .inr (by have e1 : q = w.heap.size + 1 + 1 := e; omega))))
end Go.Proofs.Ytfbkifkfhgkdbab.Sb
