/-
  What the document's Take answers, where the P's own cache and the domain's list are empty and no slot can be made: a slot out of another's cache, or none. Condition: the state is there, no list of it is too long.
-/
import Derived.Test.YtfbkifkfhgkdbabSbRefF
namespace Go.Proofs.Ytfbkifkfhgkdbab.Sb
open Go.RowKit
open Classical
attribute [local go_sem ↓] Go.wp_at_zero Go.wp_at_succ

/-- what is told: a slot of another's cache, or that there is none -/
def Sought (L : Int) (x : Sl) (p : Nat) (w : World) (e : Ending) (w' : World) : Prop :=
  (seek x.C p (x.C.length - 1) 1 = none ∧ Toldn L 0 0 2 x w e w') ∨ ∃ (q k : Nat) (cl : List Int) (g : Int), seek x.C p (x.C.length - 1) 1 = some q ∧ x.C[q]? = some ((k : Int) :: cl) ∧ x.G[k]? = some g ∧ Toldn L (k : Int) (g + 1) 0 (givenS { x with C := x.C.set q cl } k g) w e w'

theorem Sought.found {L : Int} {x : Sl} {p q k : Nat} {cl : List Int} {g : Int} {w w' : World} {e : Ending} (h1 : seek x.C p (x.C.length - 1) 1 = some q) (h2 : x.C[q]? = some ((k : Int) :: cl)) (h3 : x.G[k]? = some g) (h4 : Toldn L (k : Int) (g + 1) 0 (givenS { x with C := x.C.set q cl } k g) w e w') : Sought L x p w e w' := .inr ⟨q, k, cl, g, h1, h2, h3, h4⟩

set_option maxRecDepth 100000 in
set_option maxHeartbeats 8000000 in
theorem rtake_seek (P : Nat → Prop) (p : Nat) (L : Int) (vg va vc vf : Value) (cv : List Value) (x : Sl) (w : World) (h : Rd P w vg va vc vf cv x) (ht : x.Fits) (hc : x.C[p]? = some []) (hF : x.F = []) (hl : L ≤ (x.G.length : Int)) (hslot : ∀ (q : Nat) (z : Int) cl, seek x.C p (x.C.length - 1) 1 = some q → x.C[q]? = some (z :: cl) → ∃ (k : Nat) (g : Int) (a : Bool), z = (k : Int) ∧ x.G[k]? = some g ∧ x.A[k]? = some a ∧ 0 ≤ g ∧ g < 2147483647) :
    Calls Try.prog 39 #[.agg #[.int .i64 L, vg, va, vc, vf], .int .i64 (p : Int)] w fun e w' => Sought L x p w e w' := by
  obtain ⟨ga, gc, rfl⟩ := h.g.form
  obtain ⟨aa, ac, rfl⟩ := h.a.form
  obtain ⟨ca, cc, rfl⟩ := h.c.form
  obtain ⟨fa, fc, rfl⟩ := h.f.form
  obtain ⟨nG, hnG⟩ : ∃ n, n = (iv x.G).length := ⟨_, rfl⟩
  obtain ⟨nA, hnA⟩ : ∃ n, n = (bv x.A).length := ⟨_, rfl⟩
  obtain ⟨nC, hnC⟩ : ∃ n, n = cv.length := ⟨_, rfl⟩
  obtain ⟨nF, hnF⟩ : ∃ n, n = (iv x.F).length := ⟨_, rfl⟩
  rw [← hnG, ← hnA, ← hnC, ← hnF] at h
  rw [← hnG, ← hnA, ← hnC, ← hnF]
  obtain ⟨W0, hW0⟩ : ∃ W0, W0 = ((w.alloc (.cells #[.int .i64 L, .slice ga nG gc, .slice aa nA ac, .slice ca nC cc, .slice fa nF fc] 45)).alloc (.cells #[.int .i64 0, .slice none 0 0, .slice none 0 0, .slice none 0 0, .slice none 0 0] 45)).alloc (.cells #[.int .i64 0, .int .i64 0] 34) := ⟨_, rfl⟩
  have g0 : Ch NoB w W0 := by rw [hW0]; exact (((Ch.refl NoB w).alloc _).alloc _).alloc _
  have f0 : Fv 45 W0 w.heap.size (.int .i64 L) (.slice ga nG gc) (.slice aa nA ac) (.slice ca nC cc) (.slice fa nF fc) := by rw [hW0]; exact ((Fv.new 45 w _ _ _ _ _).alloc _).alloc _
  have r0 : Fv 45 W0 (w.heap.size + 1) (.int .i64 0) (.slice none 0 0) (.slice none 0 0) (.slice none 0 0) (.slice none 0 0) := by
    have z := Fv.new 45 (w.alloc (.cells #[.int .i64 L, .slice ga nG gc, .slice aa nA ac, .slice ca nC cc, .slice fa nF fc] 45)) (.int .i64 0) (.slice none 0 0) (.slice none 0 0) (.slice none 0 0) (.slice none 0 0)
    rw [World.size_alloc] at z
    rw [hW0]
    exact z.alloc _
  have k0 : W0.heap[w.heap.size + 1 + 1]? = some (.cells #[.int .i64 0, .int .i64 0] 34 (0, 0)) := by
    rw [hW0]
    have z := (MapKept.heap_alloc ((w.alloc (.cells #[.int .i64 L, .slice ga nG gc, .slice aa nA ac, .slice ca nC cc, .slice fa nF fc] 45)).alloc (.cells #[.int .i64 0, .slice none 0 0, .slice none 0 0, .slice none 0 0, .slice none 0 0] 45)) (.cells #[.int .i64 0, .int .i64 0] 34)).1
    simpa using z
  have HK0 := hid k0
  have hk0 := lt_of_block k0
  have hr := (h.mono (Q := fun g => g < w.heap.size) (fun g a _ => a)).ch g0 (fun _ _ _ => noB _)
  have HPR := hid (rproc_any _ L (p : Int) _ _ _ _ cv x W0 hr)
  have HCP := hid (fun (W : World) (k : Ch NoB W0 W) => copy_any L _ _ _ _ cv x _ W (hr.ch k (fun _ _ _ => noB _)) ht)
  have HF0 := hid f0
  have HR0 := hid r0
  have HG0 := hid g0
  have HnG := hid hnG
  have HnA := hid hnA
  have HnF := hid hnF
  have HnC := hid (show nC = x.C.length by rw [hnC, h.e.1])
  have HT := hid ht
  have hl0 := r0.lt
  have HC := hid hc
  have HNF0 := hid (show nF = 0 by rw [hnF, hF]; rfl)
  have HXE := hid (show x = { x with C := x.C.set p [], F := [] } by
    have e1 : x.C.set p [] = x.C := by
      apply List.ext_getElem?
      intro i
      by_cases hi : i = p
      · subst hi
        rw [List.getElem?_set_self (List.getElem?_eq_some_iff.1 hc).1, hc]
      · rw [List.getElem?_set_ne (fun e => hi e.symm)]
    rw [e1, ← hF])
  have HP := hid (show HasP x (p : Int) from ⟨by omega, by have := (List.getElem?_eq_some_iff.1 hc).1; omega⟩)
  have HGL := hid (show x.G.length = nG by rw [hnG, iv_length])
  have HSL := hid hslot
  rw [HGL.out] at hl
  have m1 : decide ((nG : Int) < L) = false := decide_eq_false (by omega)
  have m2 : ¬ ((nG : Int) < L) := by omega
  have hcn : x.C.length ≤ 4294967296 := ht.c
  clear hl hslot
  clear h hr f0 r0 g0 k0 hnG hnA hnC hnF ht hc hF
  go_enter Try.func39, Try.ntmps39
  go_wp2_with fail
  rw [← hW0]
  clear hW0
  refine HPR.out.mono ?_
  rintro e w1 ⟨rfl, g1⟩
  rw [show decide (HasP x (p : Int)) = true from decide_eq_true HP.out]
  have F1 := HF0.out.ch g1 (noB _)
  obtain ⟨c0, c1, c2, c3, c4⟩ := F1.cells
  have l1 := F1.lt
  have HG1 := hid g1
  have HF1 := hid F1
  clear F1 g1
  go_wp2_with fail
  refine (HCP.out w1 HG1.out).mono ?_
  rintro e w2 ⟨vg2, va2, vc2, vf2, cu, rfl, s2, g2⟩
  obtain ⟨a1, q1, rfl⟩ := s2.g.form
  obtain ⟨a2, q2, rfl⟩ := s2.a.form
  obtain ⟨a3, q3, rfl⟩ := s2.c.form
  obtain ⟨a4, q4, rfl⟩ := s2.f.form
  have hcu : cu.length = nC := by rw [s2.cl, HnC.out]
  rw [← HnG.out, ← HnA.out, hcu, ← HnF.out] at s2 ⊢
  have F2 := HF1.out.ch g2 (noB _)
  have hb1 : w.heap.size + 1 + 1 < w1.heap.size := Nat.lt_of_lt_of_le hk0 HG1.out.size
  have hb2 := g2.size
  obtain ⟨W3, hW3⟩ : ∃ W, W = ((((w2.setCell ⟨w.heap.size, 0, none⟩ (.int .i64 L)).setCell ⟨w.heap.size, 1, none⟩ (.slice a1 nG q1)).setCell ⟨w.heap.size, 2, none⟩ (.slice a2 nA q2)).setCell ⟨w.heap.size, 3, none⟩ (.slice a3 nC q3)).setCell ⟨w.heap.size, 4, none⟩ (.slice a4 nF q4) := ⟨_, rfl⟩
  have C3 : Ch (Only w.heap.size) w2 W3 := by rw [hW3]; exact (((((Ch.refl (Only w.heap.size) w2).own 0 _).own 1 _).own 2 _).own 3 _).own 4 _
  have F3 : Fv 45 W3 w.heap.size (.int .i64 L) (.slice a1 nG q1) (.slice a2 nA q2) (.slice a3 nC q3) (.slice a4 nF q4) := by rw [hW3]; exact setCell_block (setCell_block (setCell_block (setCell_block (setCell_block F2 0 _) 1 _) 2 _) 3 _) 4 _
  have s3 := s2.ch C3 (fun q a e => by have := (s2.blk a).1; have e1 : q = w.heap.size := e; omega)
  have HS3 := hid s3
  have HS2 := hid s2
  have HC3 := hid C3
  have HF3 := hid F3
  have HG3 := hid ((HG0.out.trans' (HG1.out.trans' g2)).trans C3 (fun q e => .inr (by have e1 : q = w.heap.size := e; omega)))
  have K2 := (g2.block _ (lt_of_block ((HG1.out.block _ (lt_of_block HK0.out) (noB _)).trans HK0.out)) (noB _)).trans ((HG1.out.block _ (lt_of_block HK0.out) (noB _)).trans HK0.out)
  have HK3 := hid ((C3.block _ (lt_of_block K2) (fun e => by have e1 : w.heap.size + 1 + 1 = w.heap.size := e; omega)).trans K2)
  have HR3 := hid (((HR0.out.ch HG1.out (noB _)).ch g2 (noB _)).ch C3 (fun e => by have e1 : w.heap.size + 1 = w.heap.size := e; omega))
  have hb3 : w1.heap.size ≤ W3.heap.size := Nat.le_trans hb2 C3.size
  clear c0 c1 c2 c3 c4 l1
  obtain ⟨c0, c1, c2, c3, c4⟩ := F2.cells
  obtain ⟨y0, y1, y2, y3, y4⟩ := F2.fz
  have l2 := F2.lt
  clear F2 C3 s2 g2 F3 s3 K2
  have hpc : p < x.C.length := (List.getElem?_eq_some_iff.1 HC.out).1
  have hpn : p < nC := by rw [HnC.out]; exact hpc
  obtain ⟨u, hu⟩ : ∃ u, cu[p]? = some u := ⟨_, List.getElem?_eq_getElem (by rw [hcu]; exact hpn)⟩
  have hou := HS2.out.e p u [] hu HC.out
  obtain ⟨ua, uc, rfl⟩ := hou.form
  obtain ⟨nU, hnU⟩ : ∃ n, n = (iv []).length := ⟨_, rfl⟩
  rw [← hnU] at hou hu
  obtain ⟨g1, rfl, hg1b, hg1, hcap1, d0, df, -⟩ := HS2.out.c.get1 hu
  have hucap := hou.len.2
  have b3 : (0 : Int) ≤ (p : Int) := by omega
  have b4 : (p : Int) < (nC : Int) := by omega
  have hne1 : ¬ (w.heap.size = g1) := by omega
  have hne2 : ¬ (g1 = w.heap.size) := by omega
  have HU := hid hu
  have HOU := hid hou
  have hU0 : nU = 0 := hnU
  subst hU0
  have hnF0 := HNF0.out
  subst hnF0
  have hne3 : ¬ (w.heap.size + 1 = g1) := by omega
  have hne4 : ¬ (g1 = w.heap.size + 1) := by omega
  have hne5 : ¬ (w.heap.size + 1 + 1 = g1) := by omega
  have hne6 : ¬ (g1 = w.heap.size + 1 + 1) := by omega
  have hqF := HS3.out.f.len.2
  clear hu hou hnU
  cases a4 with
  | none =>
    have hq0 := HS3.out.f.lst.len.2.2 rfl
    subst hq0
    have HI8 := hid (fun (W : World) (k1 : Ch NoB W3 W) => ints_any (fun _ => True) (.slice none 0 0) [] W (Ls.nil _ _) (by simp))
    go_wp2_with fail
    rw [← hW3]
    clear hW3 c0 c1 c2 c3 c4 y0 y1 y2 y3 y4 l2 d0 df
    obtain ⟨c0, c1, c2, c3, c4⟩ := HF3.out.cells
    have l3 := HF3.out.lt
    obtain ⟨g', e', -, -, -, d0, df, -⟩ := HS3.out.c.get1 HU.out
    cases e'
    refine wp_region_held_drew (S := fun w' => w'.cell? ⟨w.heap.size, 3, none⟩ = some (.slice (some ⟨g1, 0, none⟩) nC q3) ∧ w'.cell? ⟨w.heap.size, 4, none⟩ = some (.slice none 0 0)) (by kernel_rfl) (by exact ⟨c3, c4⟩) (fun _ => ?_)
    refine takeS_on (i := 0) 33 (v := ?v126) rfl rfl (by kernel_rfl) (by kernel_rfl) (by kernel_rfl) (fun _ _ _ h => h) (by kernel_rfl) ?hy126 (by exact ⟨c3, c4⟩) ?_
    case hy126 => (intro w' hSw; go_simp; try (with_reducible rfl))
    simp only [Act.put, List.setIfInBounds_toArray, List.set_cons_zero, List.set_cons_succ]
    refine takeS_on (i := 1) 34 (v := ?v127) rfl rfl (by kernel_rfl) (by kernel_rfl) (by kernel_rfl) (fun _ _ _ h => h) (by kernel_rfl) ?hy127 (by exact ⟨c3, c4⟩) ?_
    case hy127 => (intro w' hSw; go_simp; try (with_reducible rfl))
    simp only [Act.put, List.setIfInBounds_toArray, List.set_cons_zero, List.set_cons_succ]
    refine takeS_on (i := 2) 35 (v := ?v128) rfl rfl (by kernel_rfl) (by kernel_rfl) (by kernel_rfl) (fun _ _ _ h => h) (by kernel_rfl) ?hy128 (by exact ⟨c3, c4⟩) ?_
    case hy128 => (intro w' hSw; go_simp; try (with_reducible rfl))
    simp only [Act.put, List.setIfInBounds_toArray, List.set_cons_zero, List.set_cons_succ]
    refine takeS_on (i := 3) 36 (v := ?v129) rfl rfl (by kernel_rfl) (by kernel_rfl) (by kernel_rfl) (fun _ _ _ h => h) (by kernel_rfl) ?hy129 (by exact ⟨c3, c4⟩) ?_
    case hy129 => (intro w' hSw; go_simp; try (with_reducible rfl))
    simp only [Act.put, List.setIfInBounds_toArray, List.set_cons_zero, List.set_cons_succ]
    refine takeS_on (i := 4) 37 (v := ?v130) rfl rfl (by kernel_rfl) (by kernel_rfl) (by kernel_rfl) (fun _ _ _ h => h) (by kernel_rfl) ?hy130 (by exact ⟨c3, c4⟩) ?_
    case hy130 => (intro w' hSw; go_simp; try (with_reducible rfl))
    simp only [Act.put, List.setIfInBounds_toArray, List.set_cons_zero, List.set_cons_succ]
    refine takeS_on (i := 5) 38 (v := ?v131) rfl rfl (by kernel_rfl) (by kernel_rfl) (by kernel_rfl) (fun _ _ _ h => h) (by kernel_rfl) ?hy131 (by exact ⟨c3, c4⟩) ?_
    case hy131 => (intro w' hSw; go_simp; try (with_reducible rfl))
    simp only [Act.put, List.setIfInBounds_toArray, List.set_cons_zero, List.set_cons_succ]
    refine takeS_on (i := 6) 39 (v := ?v132) rfl rfl (by kernel_rfl) (by kernel_rfl) (by kernel_rfl) (fun _ _ _ h => h) (by kernel_rfl) ?hy132 (by exact ⟨c3, c4⟩) ?_
    case hy132 => (intro w' hSw; go_simp; try (with_reducible rfl))
    simp only [Act.put, List.setIfInBounds_toArray, List.set_cons_zero, List.set_cons_succ]
    refine wpAnyH_ready (rs := [7]) (by kernel_rfl) (by simp) (AllReadyH.cons rfl (fun K hK => ?_) AllReadyH.nil)
    go_simp
    refine (HI8.out _ ((Ch.refl NoB W3).drew)).mono ?_
    rintro e w5 ⟨v5, rfl, o5, g5'⟩
    obtain ⟨a5, q5, rfl⟩ := o5.form
    rw [show (iv ([] : List Int)).length = 0 from rfl] at o5 ⊢
    have g5 : Ch NoB W3 w5 := ((Ch.refl NoB W3).drew).trans' g5'
    have F5 := HF3.out.ch g5 (noB _)
    obtain ⟨e0, e1', e2, e3, e4⟩ := F5.cells
    have l5 := F5.lt
    obtain ⟨g', e', -, hg5, -, d5, df5, -⟩ := (HS3.out.c.ch g5 (fun _ _ => noB _)).get1 HU.out
    cases e'
    refine hK.out _ _ (by exact ⟨e3, e4⟩) (fun _ => ?_)
    clear hK K
    refine takeS_on (i := 8) 41 (v := ?v133) rfl rfl (by kernel_rfl) (by kernel_rfl) (by kernel_rfl) (fun _ _ _ h => h) (by kernel_rfl) ?hy133 (by exact ⟨e3, e4⟩) ?_
    case hy133 => (intro w' hSw; go_simp; try (with_reducible rfl))
    simp only [Act.put, List.setIfInBounds_toArray, List.set_cons_zero, List.set_cons_succ]
    refine wpAnyH_ready (rs := [9]) (by kernel_rfl) (by simp) (AllReadyH.cons rfl (fun K hK => ?_) AllReadyH.nil)
    go_simp
    have s6 := HS3.out.cache (c' := []) HU.out (g5.mono (fun q e => e.elim)) (o5.lower hb3) (fun q e => .inr (o5.blk e).1)
    obtain ⟨W6, hW6⟩ : ∃ W, W = w5.setCell ⟨g1, p, none⟩ (.slice a5 0 q5) := ⟨_, rfl⟩
    have C6 : Ch (Only g1) w5 W6 := by rw [hW6]; exact (Ch.refl _ _).own _ _
    have F6 := F5.ch C6 hne1
    have h63 := (C6.cell (o := 3) F5.lt hne1).trans e3
    have h64 := (C6.cell (o := 4) F5.lt hne1).trans e4
    rw [← hW6] at s6 ⊢
    have HS6 := hid s6
    have HF6 := hid F6
    have HG6 := hid ((HG3.out.trans g5 (fun q e => e.elim)).trans C6 (fun q e => .inr (by have e1 : q = g1 := e; omega)))
    have HR6 := hid ((HR3.out.ch g5 (noB _)).ch C6 hne3)
    have HK6 := hid ((C6.block _ (Nat.lt_of_lt_of_le (lt_of_block HK3.out) g5.size) hne5).trans ((g5.block _ (lt_of_block HK3.out) (noB _)).trans HK3.out))
    have hb6 : w1.heap.size ≤ W6.heap.size := Nat.le_trans hb3 (Nat.le_trans g5.size C6.size)
    have HUN := hid (show (cu.set p (.slice a5 0 q5))[p]? = some (.slice a5 0 q5) from List.getElem?_set_self (by rw [hcu]; exact hpn))
    clear hW6 s6 F6 C6 c0 c1 c2 c3 c4 e0 e1' e2 e3 e4 d5 df5 o5 g5' g5 F5
    refine hK.out _ _ (by exact ⟨h63, h64⟩) (fun _ => ?_)
    clear hK K
    refine wpAnyH_done (by kernel_rfl) ?_ _
    obtain ⟨c0, c1, c2, c3, c4⟩ := HF6.out.cells
    have l6 := HF6.out.lt
    have HI9 := hid (ints_any (fun _ => True) (.slice none 0 0) [] W6 (Ls.nil _ _) (by simp))
    go_wp2_with fail
    refine (HI9.out).mono ?_
    rintro e w9 ⟨v9, rfl, o9, g9⟩
    obtain ⟨a9, q9, rfl⟩ := o9.form
    rw [show (iv ([] : List Int)).length = 0 from rfl] at o9 ⊢
    have s9 := (HS6.out.free (w1 := w9) (F' := []) (g9.mono (fun q e => e.elim)) (o9.lower hb6) (fun q e => .inr (o9.blk e).1))
    have F9 := HF6.out.ch g9 (noB _)
    have HF9 := hid F9
    obtain ⟨W10, hW10⟩ : ∃ W, W = w9.setCell ⟨w.heap.size, 4, none⟩ (.slice a9 0 q9) := ⟨_, rfl⟩
    have C10 : Ch (Only w.heap.size) w9 W10 := by rw [hW10]; exact (Ch.refl _ _).own _ _
    have HF10 := hid (show Fv 45 W10 w.heap.size (.int .i64 L) (.slice a1 nG q1) (.slice a2 nA q2) (.slice (some ⟨g1, 0, none⟩) nC q3) (.slice a9 0 q9) by rw [hW10]; exact setCell_block F9 4 _)
    have hsx : St w1.heap.size W10 (.slice a1 nG q1) (.slice a2 nA q2) (.slice (some ⟨g1, 0, none⟩) nC q3) (.slice a9 0 q9) (cu.set p (.slice a5 0 q5)) x := by
      have := s9.ch C10 (fun q a e => by have := (s9.blk a).1; have e1 : q = w.heap.size := e; omega)
      rw [HXE.out]
      exact this
    have HS10 := hid hsx
    have HG10 := hid ((HG6.out.trans g9 (fun q e => e.elim)).trans C10 (fun q e => .inr (by have e1 : q = w.heap.size := e; omega)))
    have HR10 := hid ((HR6.out.ch g9 (noB _)).ch C10 (fun e => by have e1 : w.heap.size + 1 = w.heap.size := e; omega))
    have HK10 := hid ((C10.block _ (Nat.lt_of_lt_of_le (lt_of_block HK6.out) g9.size) (fun e => by have e1 : w.heap.size + 1 + 1 = w.heap.size := e; omega)).trans ((g9.block _ (lt_of_block HK6.out) (noB _)).trans HK6.out))
    have hb10 : w1.heap.size ≤ W10.heap.size := Nat.le_trans hb6 (Nat.le_trans g9.size C10.size)
    have HC10 := hid C10
    obtain ⟨g', e', -, hg9, -, d9, df9, -⟩ := s9.c.get1 HUN.out
    cases e'
    clear c0 c1 c2 c3 c4
    obtain ⟨c0, c1, c2, c3, c4⟩ := F9.cells
    obtain ⟨y0, y1, y2, y3, y4⟩ := F9.fz
    have l9 := F9.lt
    clear s9 F9 C10 o9 g9 hsx d0 df
    go_wp2_with fail
    rw [← hW10]
    clear hW10 y0 y1 y2 y3 y4 d9 df9 l9
    clear c0 c1 c2 c3 c4
    obtain ⟨c0, c1, c2, c3, c4⟩ := HF10.out.cells
    have l10 := HF10.out.lt
    have HCL := hid (show x.C.length = nC from HnC.out.symm)
    have hn1 : 0 < nC := by omega
    have hn2 : nC ≤ 4294967296 := by rw [← HCL.out]; exact hcn
    have hnz : ¬ ((nC : Int) = 0) := by omega
    go_loopg [10] (nC - 1) (fun m i wv => ∃ j : Nat, 1 ≤ j ∧ j + m = nC ∧ i = .int .i64 ((j : Nat) : Int) ∧ wv = W10 ∧ seek x.C p m j = seek x.C p (nC - 1) 1)
    case atStart => exact ⟨1, by omega, by omega, rfl, rfl, rfl⟩
    case round =>
      obtain ⟨j, hj1, hjm, rfl, hwr, hsk⟩ := hrel
      subst hwr
      have HSK := hid hsk
      clear hsk
      by_cases hj : j < nC
      · obtain ⟨q, hq⟩ : ∃ q, q = (p + j) % nC := ⟨_, rfl⟩
        have hqn : q < nC := by rw [hq]; exact Nat.mod_lt _ hn1
        have j1 : (j : Int) < (nC : Int) := by omega
        have hw1 : IntKind.i64.wrap ((p : Int) + (j : Int)) = (p : Int) + (j : Int) := by rw [IntKind.wrap_i64]; omega
        have hr1 : ((p : Int) + (j : Int)).tmod (nC : Int) = (q : Int) := by rw [hq, Int.tmod_eq_emod_of_nonneg (by omega)]; push_cast; rfl
        have q0 : (0 : Int) ≤ (q : Int) := by omega
        have q1' : (q : Int) < (nC : Int) := by omega
        obtain ⟨cq, hcq⟩ : ∃ cq, x.C[q]? = some cq := ⟨_, List.getElem?_eq_getElem (by rw [HCL.out]; exact hqn)⟩
        obtain ⟨uq, huq⟩ : ∃ uq, (cu.set p (.slice a5 0 q5))[q]? = some uq := ⟨_, List.getElem?_eq_getElem (by rw [List.length_set, hcu]; exact hqn)⟩
        have hoq := HS10.out.e q uq cq huq hcq
        obtain ⟨va', vc', rfl⟩ := hoq.form
        obtain ⟨nQ, hnQ⟩ : ∃ n, n = (iv cq).length := ⟨_, rfl⟩
        rw [← hnQ] at hoq huq
        obtain ⟨g', e', -, hgq, -, dq, dfq, -⟩ := HS10.out.c.get1 huq
        cases e'
        have HQ := hid (show (p + j) % x.C.length = q by rw [HCL.out, hq])
        have HCQ0 := hid hcq
        have HUQ := hid huq
        have HOQ0 := hid hoq
        have HNQ0 := hid hnQ
        clear hoq huq hcq hq
        cases cq with
        | nil =>
          have hQ0 : nQ = 0 := hnQ
          subst hQ0
          clear hnQ
          go_wp2
          go_roundg (gk - 1)
          case measure => omega
          case rel =>
            refine ⟨j + 1, by omega, by omega, by simp, rfl, ?_⟩
            obtain ⟨m', rfl⟩ : ∃ m', gk = m' + 1 := ⟨gk - 1, by omega⟩
            rw [← HSK.out, seek_skip (by rw [HQ.out]; exact HCQ0.out)]
            rfl
        | cons z cl =>
          have hskq : seek x.C p (x.C.length - 1) 1 = some q := by
            obtain ⟨m', rfl⟩ : ∃ m', gk = m' + 1 := ⟨gk - 1, by omega⟩
            rw [HCL.out, ← HSK.out, seek_hit (by rw [HQ.out]; exact HCQ0.out), HQ.out]
          obtain ⟨k, g, a, rfl, hG, hA, hg0, hg1'⟩ := HSL.out q z cl hskq HCQ0.out
          have HSK2 := hid hskq
          have HG := hid hG
          have HA := hid hA
          have HCQ := hid HCQ0.out
          have HNQ := hid HNQ0.out
          have hQ0 : (0 : Int) < (nQ : Int) := by rw [hnQ, iv_length]; simp
          have f2 : decide ((0 : Int) < (nQ : Int)) = true := decide_eq_true hQ0
          have hnQl : nQ ≤ 4294967296 := by rw [hnQ, iv_length]; exact HT.out.e q _ HCQ0.out
          obtain ⟨gq, egq, hgqb, hgql, -, dz, -, -⟩ := HOQ0.out.get1 (iv_get (show ((k : Int) :: cl)[0]? = some (k : Int) from rfl))
          subst egq
          have HOQ := hid HOQ0.out
          have hqc := HOQ0.out.len.2
          have t1 : (1 : Int) ≤ (nQ : Int) := by omega
          have t2 : (nQ : Int) ≤ (vc' : Int) := by omega
          have t3 : (1 : Int) ≤ (vc' : Int) := by omega
          clear hskq hG hA hnQ
          by_cases hv : vc' = 1
          · subst hv
            obtain rfl : nQ = 1 := by omega
            have HCE := hid (show cl = [] by
              have := HNQ.out
              rw [iv_length] at this
              simpa using this)
            go_wp2_with fail
            refine wp_region_held_drew (S := fun w' => w'.cell? ⟨w.heap.size, 3, none⟩ = some (.slice (some ⟨g1, 0, none⟩) nC q3)) (by kernel_rfl) (by exact c3) (fun _ => ?_)
            refine takeS_on (i := 0) 136 (v := ?v134) rfl rfl (by kernel_rfl) (by kernel_rfl) (by kernel_rfl) (fun _ _ _ h => h) (by kernel_rfl) ?hy134 (by exact c3) ?_
            case hy134 => (intro w' hSw; go_simp; try (with_reducible rfl))
            simp only [Act.put, List.setIfInBounds_toArray, List.set_cons_zero, List.set_cons_succ]
            refine takeS_on (i := 1) 137 (v := ?v135) rfl rfl (by kernel_rfl) (by kernel_rfl) (by kernel_rfl) (fun _ _ _ h => h) (by kernel_rfl) ?hy135 (by exact c3) ?_
            case hy135 => (intro w' hSw; go_simp; try (with_reducible rfl))
            simp only [Act.put, List.setIfInBounds_toArray, List.set_cons_zero, List.set_cons_succ]
            refine takeS_on (i := 2) 138 (v := ?v136) rfl rfl (by kernel_rfl) (by kernel_rfl) (by kernel_rfl) (fun _ _ _ h => h) (by kernel_rfl) ?hy136 (by exact c3) ?_
            case hy136 => (intro w' hSw; go_simp; try (with_reducible rfl))
            simp only [Act.put, List.setIfInBounds_toArray, List.set_cons_zero, List.set_cons_succ]
            refine takeS_on (i := 3) 139 (v := ?v137) rfl rfl (by kernel_rfl) (by kernel_rfl) (by kernel_rfl) (fun _ _ _ h => h) (by kernel_rfl) ?hy137 (by exact c3) ?_
            case hy137 => (intro w' hSw; go_simp; try (with_reducible rfl))
            simp only [Act.put, List.setIfInBounds_toArray, List.set_cons_zero, List.set_cons_succ]
            refine takeS_on (i := 4) 140 (v := ?v138) rfl rfl (by kernel_rfl) (by kernel_rfl) (by kernel_rfl) (fun _ _ _ h => h) (by kernel_rfl) ?hy138 (by exact c3) ?_
            case hy138 => (intro w' hSw; go_simp; try (with_reducible rfl))
            simp only [Act.put, List.setIfInBounds_toArray, List.set_cons_zero, List.set_cons_succ]
            refine takeS_on (i := 5) 141 (v := ?v139) rfl rfl (by kernel_rfl) (by kernel_rfl) (by kernel_rfl) (fun _ _ _ h => h) (by kernel_rfl) ?hy139 (by exact c3) ?_
            case hy139 => (intro w' hSw; go_simp; try (with_reducible rfl))
            simp only [Act.put, List.setIfInBounds_toArray, List.set_cons_zero, List.set_cons_succ]
            refine takeS_on (i := 6) 142 (v := ?v140) rfl rfl (by kernel_rfl) (by kernel_rfl) (by kernel_rfl) (fun _ _ _ h => h) (by kernel_rfl) ?hy140 (by exact c3) ?_
            case hy140 => (intro w' hSw; go_simp; try (with_reducible rfl))
            simp only [Act.put, List.setIfInBounds_toArray, List.set_cons_zero, List.set_cons_succ]
            refine wpAnyH_ready (rs := [7]) (by kernel_rfl) (by simp) (AllReadyH.cons rfl (fun K hK => ?_) AllReadyH.nil)
            go_simp
            refine hK.out _ _ (by exact c3) (fun _ => ?_)
            clear hK K
            refine takeS_on (i := 8) 144 (v := ?v141) rfl rfl (by kernel_rfl) (by kernel_rfl) (by kernel_rfl) (fun _ _ _ h => h) (by kernel_rfl) ?hy141 (by exact c3) ?_
            case hy141 => (intro w' hSw; go_simp; try (with_reducible rfl))
            simp only [Act.put, List.setIfInBounds_toArray, List.set_cons_zero, List.set_cons_succ]
            refine wpAnyH_ready (rs := [9]) (by kernel_rfl) (by simp) (AllReadyH.cons rfl (fun K hK => ?_) AllReadyH.nil)
            go_simp
            refine (ints_any (fun _ => True) _ cl _ (by rw [HCE.out]; exact ls_none _ _ _ _) (by rw [HCE.out]; simp)).mono ?_
            rintro e w5 ⟨v5, rfl, o5, g5'⟩
            obtain ⟨a5b, q5b, rfl⟩ := o5.form
            have g5 : Ch NoB wr w5 := ((Ch.refl NoB wr).drew).trans' g5'
            have F5 := HF10.out.ch g5 (noB _)
            obtain ⟨e0, e1', e2, e3, e4⟩ := F5.cells
            have l5 := F5.lt
            obtain ⟨g', e', -, hg5, -, d5, df5, -⟩ := (HS10.out.c.ch g5 (fun _ _ => noB _)).get1 HUQ.out
            cases e'
            refine hK.out _ _ (by exact e3) (fun _ => ?_)
            clear hK K
            refine takeS_on (i := 10) 146 (v := ?v142) rfl rfl (by kernel_rfl) (by kernel_rfl) (by kernel_rfl) (fun _ _ _ h => h) (by kernel_rfl) ?hy142 (by exact e3) ?_
            case hy142 => (intro w' hSw; go_simp; try (with_reducible rfl))
            simp only [Act.put, List.setIfInBounds_toArray, List.set_cons_zero, List.set_cons_succ]
            refine wpAnyH_ready (rs := [11]) (by kernel_rfl) (by simp) (AllReadyH.cons rfl (fun K hK => ?_) AllReadyH.nil)
            go_simp
            have s12 := HS10.out.cache (c' := cl) HUQ.out (g5.mono (fun q e => e.elim)) (o5.lower hb10) (fun q e => .inr (o5.blk e).1)
            obtain ⟨W12, hW12⟩ : ∃ W, W = w5.setCell ⟨g1, q, none⟩ (.slice a5b (iv cl).length q5b) := ⟨_, rfl⟩
            have C12 : Ch (Only g1) w5 W12 := by rw [hW12]; exact (Ch.refl _ _).own _ _
            have F12 := F5.ch C12 hne1
            have h12 := (C12.cell (o := 3) F5.lt hne1).trans e3
            rw [← hW12] at s12 ⊢
            have HS12 := hid s12
            have HF12 := hid F12
            have HG12 := hid ((HG10.out.trans g5 (fun q e => e.elim)).trans C12 (fun q e => .inr (by have e1 : q = g1 := e; omega)))
            have HR12 := hid ((HR10.out.ch g5 (noB _)).ch C12 hne3)
            have HK12 := hid ((C12.block _ (Nat.lt_of_lt_of_le (lt_of_block HK10.out) g5.size) hne5).trans ((g5.block _ (lt_of_block HK10.out) (noB _)).trans HK10.out))
            clear hW12 s12 F12 C12 e0 e1' e2 e3 e4 d5 df5 o5 g5' g5 F5
            refine hK.out _ _ (by exact h12) (fun _ => ?_)
            clear hK K
            refine wpAnyH_done (by kernel_rfl) ?_ _
            clear c0 c1 c2 c3 c4
            obtain ⟨c0, c1, c2, c3, c4⟩ := HF12.out.cells
            have lf := HF12.out.lt
            go_wp2_with fail
            refine (given_any w1.heap.size k L g a _ _ _ _ _ _ W12 HS12.out HG.out HA.out hg0 hg1').mono ?_
            rintro e w7 ⟨rfl, s7, g7⟩
            have R7 := HR12.out.ch g7 (fun e => by have e1 : w1.heap.size ≤ w.heap.size + 1 := e; omega)
            have K7 := (g7.block _ (lt_of_block HK12.out) (fun e => by have e1 : w1.heap.size ≤ w.heap.size + 1 + 1 := e; omega)).trans HK12.out
            obtain ⟨z0, z1, z2, z3, z4⟩ := R7.cells
            obtain ⟨zf0, zf1, zf2, zf3, zf4⟩ := R7.fz
            have xx0 := cell_of K7 0
            have xx1 := cell_of K7 1
            have xf0 := frozen_of K7 0
            have xf1 := frozen_of K7 1
            have lr := R7.lt
            have lk := lt_of_block K7
            have HS7 := hid s7
            have HG7 := hid (HG12.out.trans g7 (fun q e => .inr (by have e1 : w1.heap.size ≤ q := e; omega)))
            clear R7 K7 s7 g7
            go_wp2
            have C8 := (((((Ch.refl (Only (w.heap.size + 1)) w7).own 0 (.int .i64 L)).own 1 (.slice a1 nG q1)).own 2 (.slice a2 nA q2)).own 3 (.slice (some ⟨g1, 0, none⟩) nC q3)).own 4 (.slice a9 0 q9)
            have C9 := ((Ch.refl (Only (w.heap.size + 1 + 1)) (((((w7.setCell ⟨w.heap.size + 1, 0, none⟩ (.int .i64 L)).setCell ⟨w.heap.size + 1, 1, none⟩ (.slice a1 nG q1)).setCell ⟨w.heap.size + 1, 2, none⟩ (.slice a2 nA q2)).setCell ⟨w.heap.size + 1, 3, none⟩ (.slice (some ⟨g1, 0, none⟩) nC q3)).setCell ⟨w.heap.size + 1, 4, none⟩ (.slice a9 0 q9))).own 0 (.int .i64 (k : Int))).own 1 (.int .i64 (g + 1))
            exact bodyPost_ret (v := .tuple #[.agg #[.int .i64 L, .slice a1 nG q1, .slice a2 nA q2, .slice (some ⟨g1, 0, none⟩) nC q3, .slice a9 0 q9], .agg #[.int .i64 (k : Int), .int .i64 (g + 1)], .int .i64 0]) (by simp [results, Try.results39, go_sem, z0, z1, z2, z3, z4, xx0, xx1]) rfl (Sought.found HSK2.out HCQ.out HG.out (Toldn.of ((((HS7.out.ch C8 (fun q a e => by have := (HS7.out.blk a).1; have e1 : q = w.heap.size + 1 := e; omega)).ch C9 (fun q a e => by have := (HS7.out.blk a).1; have e1 : q = w.heap.size + 1 + 1 := e; omega))).lower (by omega)) ((HG7.out.trans C8 (fun q e => .inr (by have e1 : q = w.heap.size + 1 := e; omega))).trans C9 (fun q e => .inr (by have e1 : q = w.heap.size + 1 + 1 := e; omega)))))
          · have hv' : ¬ (1 = vc') := fun e => hv e.symm
            go_wp2_with fail
            refine wp_region_held_drew (S := fun w' => w'.cell? ⟨w.heap.size, 3, none⟩ = some (.slice (some ⟨g1, 0, none⟩) nC q3)) (by kernel_rfl) (by exact c3) (fun _ => ?_)
            refine takeS_on (i := 0) 136 (v := ?v143) rfl rfl (by kernel_rfl) (by kernel_rfl) (by kernel_rfl) (fun _ _ _ h => h) (by kernel_rfl) ?hy143 (by exact c3) ?_
            case hy143 => (intro w' hSw; go_simp; try (with_reducible rfl))
            simp only [Act.put, List.setIfInBounds_toArray, List.set_cons_zero, List.set_cons_succ]
            refine takeS_on (i := 1) 137 (v := ?v144) rfl rfl (by kernel_rfl) (by kernel_rfl) (by kernel_rfl) (fun _ _ _ h => h) (by kernel_rfl) ?hy144 (by exact c3) ?_
            case hy144 => (intro w' hSw; go_simp; try (with_reducible rfl))
            simp only [Act.put, List.setIfInBounds_toArray, List.set_cons_zero, List.set_cons_succ]
            refine takeS_on (i := 2) 138 (v := ?v145) rfl rfl (by kernel_rfl) (by kernel_rfl) (by kernel_rfl) (fun _ _ _ h => h) (by kernel_rfl) ?hy145 (by exact c3) ?_
            case hy145 => (intro w' hSw; go_simp; try (with_reducible rfl))
            simp only [Act.put, List.setIfInBounds_toArray, List.set_cons_zero, List.set_cons_succ]
            refine takeS_on (i := 3) 139 (v := ?v146) rfl rfl (by kernel_rfl) (by kernel_rfl) (by kernel_rfl) (fun _ _ _ h => h) (by kernel_rfl) ?hy146 (by exact c3) ?_
            case hy146 => (intro w' hSw; go_simp; try (with_reducible rfl))
            simp only [Act.put, List.setIfInBounds_toArray, List.set_cons_zero, List.set_cons_succ]
            refine takeS_on (i := 4) 140 (v := ?v147) rfl rfl (by kernel_rfl) (by kernel_rfl) (by kernel_rfl) (fun _ _ _ h => h) (by kernel_rfl) ?hy147 (by exact c3) ?_
            case hy147 => (intro w' hSw; go_simp; try (with_reducible rfl))
            simp only [Act.put, List.setIfInBounds_toArray, List.set_cons_zero, List.set_cons_succ]
            refine takeS_on (i := 5) 141 (v := ?v148) rfl rfl (by kernel_rfl) (by kernel_rfl) (by kernel_rfl) (fun _ _ _ h => h) (by kernel_rfl) ?hy148 (by exact c3) ?_
            case hy148 => (intro w' hSw; go_simp; try (with_reducible rfl))
            simp only [Act.put, List.setIfInBounds_toArray, List.set_cons_zero, List.set_cons_succ]
            refine takeS_on (i := 6) 142 (v := ?v149) rfl rfl (by kernel_rfl) (by kernel_rfl) (by kernel_rfl) (fun _ _ _ h => h) (by kernel_rfl) ?hy149 (by exact c3) ?_
            case hy149 => (intro w' hSw; go_simp; try (with_reducible rfl))
            simp only [Act.put, List.setIfInBounds_toArray, List.set_cons_zero, List.set_cons_succ]
            refine wpAnyH_ready (rs := [7]) (by kernel_rfl) (by simp) (AllReadyH.cons rfl (fun K hK => ?_) AllReadyH.nil)
            go_simp
            refine hK.out _ _ (by exact c3) (fun _ => ?_)
            clear hK K
            refine takeS_on (i := 8) 144 (v := ?v150) rfl rfl (by kernel_rfl) (by kernel_rfl) (by kernel_rfl) (fun _ _ _ h => h) (by kernel_rfl) ?hy150 (by exact c3) ?_
            case hy150 => (intro w' hSw; go_simp; try (with_reducible rfl))
            simp only [Act.put, List.setIfInBounds_toArray, List.set_cons_zero, List.set_cons_succ]
            refine wpAnyH_ready (rs := [9]) (by kernel_rfl) (by simp) (AllReadyH.cons rfl (fun K hK => ?_) AllReadyH.nil)
            go_simp
            refine (ints_any (Blk (.slice (some ⟨gq, 0, none⟩) nQ vc')) _ cl _ (HOQ.out.dropN (d := 1) (by omega)).drew (by have := HNQ.out; rw [iv_length] at this; simp at this; have := hnQl; omega)).mono ?_
            rintro e w5 ⟨v5, rfl, o5, g5'⟩
            obtain ⟨a5b, q5b, rfl⟩ := o5.form
            have g5 : Ch NoB wr w5 := ((Ch.refl NoB wr).drew).trans' g5'
            have F5 := HF10.out.ch g5 (noB _)
            obtain ⟨e0, e1', e2, e3, e4⟩ := F5.cells
            have l5 := F5.lt
            obtain ⟨g', e', -, hg5, -, d5, df5, -⟩ := (HS10.out.c.ch g5 (fun _ _ => noB _)).get1 HUQ.out
            cases e'
            refine hK.out _ _ (by exact e3) (fun _ => ?_)
            clear hK K
            refine takeS_on (i := 10) 146 (v := ?v151) rfl rfl (by kernel_rfl) (by kernel_rfl) (by kernel_rfl) (fun _ _ _ h => h) (by kernel_rfl) ?hy151 (by exact e3) ?_
            case hy151 => (intro w' hSw; go_simp; try (with_reducible rfl))
            simp only [Act.put, List.setIfInBounds_toArray, List.set_cons_zero, List.set_cons_succ]
            refine wpAnyH_ready (rs := [11]) (by kernel_rfl) (by simp) (AllReadyH.cons rfl (fun K hK => ?_) AllReadyH.nil)
            go_simp
            have s12 := HS10.out.cache (c' := cl) HUQ.out (g5.mono (fun q e => e.elim)) (o5.lower hb10) (fun q e => .inr (o5.blk e).1)
            obtain ⟨W12, hW12⟩ : ∃ W, W = w5.setCell ⟨g1, q, none⟩ (.slice a5b (iv cl).length q5b) := ⟨_, rfl⟩
            have C12 : Ch (Only g1) w5 W12 := by rw [hW12]; exact (Ch.refl _ _).own _ _
            have F12 := F5.ch C12 hne1
            have h12 := (C12.cell (o := 3) F5.lt hne1).trans e3
            rw [← hW12] at s12 ⊢
            have HS12 := hid s12
            have HF12 := hid F12
            have HG12 := hid ((HG10.out.trans g5 (fun q e => e.elim)).trans C12 (fun q e => .inr (by have e1 : q = g1 := e; omega)))
            have HR12 := hid ((HR10.out.ch g5 (noB _)).ch C12 hne3)
            have HK12 := hid ((C12.block _ (Nat.lt_of_lt_of_le (lt_of_block HK10.out) g5.size) hne5).trans ((g5.block _ (lt_of_block HK10.out) (noB _)).trans HK10.out))
            clear hW12 s12 F12 C12 e0 e1' e2 e3 e4 d5 df5 o5 g5' g5 F5
            refine hK.out _ _ (by exact h12) (fun _ => ?_)
            clear hK K
            refine wpAnyH_done (by kernel_rfl) ?_ _
            clear c0 c1 c2 c3 c4
            obtain ⟨c0, c1, c2, c3, c4⟩ := HF12.out.cells
            have lf := HF12.out.lt
            go_wp2_with fail
            refine (given_any w1.heap.size k L g a _ _ _ _ _ _ W12 HS12.out HG.out HA.out hg0 hg1').mono ?_
            rintro e w7 ⟨rfl, s7, g7⟩
            have R7 := HR12.out.ch g7 (fun e => by have e1 : w1.heap.size ≤ w.heap.size + 1 := e; omega)
            have K7 := (g7.block _ (lt_of_block HK12.out) (fun e => by have e1 : w1.heap.size ≤ w.heap.size + 1 + 1 := e; omega)).trans HK12.out
            obtain ⟨z0, z1, z2, z3, z4⟩ := R7.cells
            obtain ⟨zf0, zf1, zf2, zf3, zf4⟩ := R7.fz
            have xx0 := cell_of K7 0
            have xx1 := cell_of K7 1
            have xf0 := frozen_of K7 0
            have xf1 := frozen_of K7 1
            have lr := R7.lt
            have lk := lt_of_block K7
            have HS7 := hid s7
            have HG7 := hid (HG12.out.trans g7 (fun q e => .inr (by have e1 : w1.heap.size ≤ q := e; omega)))
            clear R7 K7 s7 g7
            go_wp2
            have C8 := (((((Ch.refl (Only (w.heap.size + 1)) w7).own 0 (.int .i64 L)).own 1 (.slice a1 nG q1)).own 2 (.slice a2 nA q2)).own 3 (.slice (some ⟨g1, 0, none⟩) nC q3)).own 4 (.slice a9 0 q9)
            have C9 := ((Ch.refl (Only (w.heap.size + 1 + 1)) (((((w7.setCell ⟨w.heap.size + 1, 0, none⟩ (.int .i64 L)).setCell ⟨w.heap.size + 1, 1, none⟩ (.slice a1 nG q1)).setCell ⟨w.heap.size + 1, 2, none⟩ (.slice a2 nA q2)).setCell ⟨w.heap.size + 1, 3, none⟩ (.slice (some ⟨g1, 0, none⟩) nC q3)).setCell ⟨w.heap.size + 1, 4, none⟩ (.slice a9 0 q9))).own 0 (.int .i64 (k : Int))).own 1 (.int .i64 (g + 1))
            exact bodyPost_ret (v := .tuple #[.agg #[.int .i64 L, .slice a1 nG q1, .slice a2 nA q2, .slice (some ⟨g1, 0, none⟩) nC q3, .slice a9 0 q9], .agg #[.int .i64 (k : Int), .int .i64 (g + 1)], .int .i64 0]) (by simp [results, Try.results39, go_sem, z0, z1, z2, z3, z4, xx0, xx1]) rfl (Sought.found HSK2.out HCQ.out HG.out (Toldn.of ((((HS7.out.ch C8 (fun q a e => by have := (HS7.out.blk a).1; have e1 : q = w.heap.size + 1 := e; omega)).ch C9 (fun q a e => by have := (HS7.out.blk a).1; have e1 : q = w.heap.size + 1 + 1 := e; omega))).lower (by omega)) ((HG7.out.trans C8 (fun q e => .inr (by have e1 : q = w.heap.size + 1 := e; omega))).trans C9 (fun q e => .inr (by have e1 : q = w.heap.size + 1 + 1 := e; omega)))))
      · have e0 : j = nC := by omega
        subst e0
        have h0 : gk = 0 := by omega
        subst h0
        obtain ⟨z0, z1, z2, z3, z4⟩ := HR10.out.cells
        obtain ⟨zf0, zf1, zf2, zf3, zf4⟩ := HR10.out.fz
        have xx0 := cell_of HK10.out 0
        have xx1 := cell_of HK10.out 1
        have xf0 := frozen_of HK10.out 0
        have xf1 := frozen_of HK10.out 1
        have lr := HR10.out.lt
        have lk := lt_of_block HK10.out
        go_wp2
        have C8 := (((((Ch.refl (Only (w.heap.size + 1)) wr).own 0 (.int .i64 L)).own 1 (.slice a1 nG q1)).own 2 (.slice a2 nA q2)).own 3 (.slice (some ⟨g1, 0, none⟩) j q3)).own 4 (.slice a9 0 q9)
        have C9 := ((Ch.refl (Only (w.heap.size + 1 + 1)) (((((wr.setCell ⟨w.heap.size + 1, 0, none⟩ (.int .i64 L)).setCell ⟨w.heap.size + 1, 1, none⟩ (.slice a1 nG q1)).setCell ⟨w.heap.size + 1, 2, none⟩ (.slice a2 nA q2)).setCell ⟨w.heap.size + 1, 3, none⟩ (.slice (some ⟨g1, 0, none⟩) j q3)).setCell ⟨w.heap.size + 1, 4, none⟩ (.slice a9 0 q9))).own 0 (.int .i64 0)).own 1 (.int .i64 0)
        exact bodyPost_ret (v := .tuple #[.agg #[.int .i64 L, .slice a1 nG q1, .slice a2 nA q2, .slice (some ⟨g1, 0, none⟩) j q3, .slice a9 0 q9], .agg #[.int .i64 0, .int .i64 0], .int .i64 2]) (by simp [results, Try.results39, go_sem, z0, z1, z2, z3, z4, xx0, xx1]) rfl (Or.inl ⟨by rw [HCL.out, ← HSK.out]; rfl, Toldn.of ((((HS10.out.ch C8 (fun q a e => by have := (HS10.out.blk a).1; have e1 : q = w.heap.size + 1 := e; omega)).ch C9 (fun q a e => by have := (HS10.out.blk a).1; have e1 : q = w.heap.size + 1 + 1 := e; omega))).lower (by omega)) ((HG10.out.trans C8 (fun q e => .inr (by have e1 : q = w.heap.size + 1 := e; omega))).trans C9 (fun q e => .inr (by have e1 : q = w.heap.size + 1 + 1 := e; omega)))⟩)
  | some ad =>
    have HI8 := hid (fun (W : World) (k1 : Ch NoB W3 W) => ints_any (fun _ => True) (.slice (some ad) 0 q4) [] W (ls_none _ _ _ _) (by simp))
    go_wp2_with fail
    rw [← hW3]
    clear hW3 c0 c1 c2 c3 c4 y0 y1 y2 y3 y4 l2 d0 df
    obtain ⟨c0, c1, c2, c3, c4⟩ := HF3.out.cells
    have l3 := HF3.out.lt
    obtain ⟨g', e', -, -, -, d0, df, -⟩ := HS3.out.c.get1 HU.out
    cases e'
    refine wp_region_held_drew (S := fun w' => w'.cell? ⟨w.heap.size, 3, none⟩ = some (.slice (some ⟨g1, 0, none⟩) nC q3) ∧ w'.cell? ⟨w.heap.size, 4, none⟩ = some (.slice (some ad) 0 q4)) (by kernel_rfl) (by exact ⟨c3, c4⟩) (fun _ => ?_)
    refine takeS_on (i := 0) 33 (v := ?v152) rfl rfl (by kernel_rfl) (by kernel_rfl) (by kernel_rfl) (fun _ _ _ h => h) (by kernel_rfl) ?hy152 (by exact ⟨c3, c4⟩) ?_
    case hy152 => (intro w' hSw; go_simp; try (with_reducible rfl))
    simp only [Act.put, List.setIfInBounds_toArray, List.set_cons_zero, List.set_cons_succ]
    refine takeS_on (i := 1) 34 (v := ?v153) rfl rfl (by kernel_rfl) (by kernel_rfl) (by kernel_rfl) (fun _ _ _ h => h) (by kernel_rfl) ?hy153 (by exact ⟨c3, c4⟩) ?_
    case hy153 => (intro w' hSw; go_simp; try (with_reducible rfl))
    simp only [Act.put, List.setIfInBounds_toArray, List.set_cons_zero, List.set_cons_succ]
    refine takeS_on (i := 2) 35 (v := ?v154) rfl rfl (by kernel_rfl) (by kernel_rfl) (by kernel_rfl) (fun _ _ _ h => h) (by kernel_rfl) ?hy154 (by exact ⟨c3, c4⟩) ?_
    case hy154 => (intro w' hSw; go_simp; try (with_reducible rfl))
    simp only [Act.put, List.setIfInBounds_toArray, List.set_cons_zero, List.set_cons_succ]
    refine takeS_on (i := 3) 36 (v := ?v155) rfl rfl (by kernel_rfl) (by kernel_rfl) (by kernel_rfl) (fun _ _ _ h => h) (by kernel_rfl) ?hy155 (by exact ⟨c3, c4⟩) ?_
    case hy155 => (intro w' hSw; go_simp; try (with_reducible rfl))
    simp only [Act.put, List.setIfInBounds_toArray, List.set_cons_zero, List.set_cons_succ]
    refine takeS_on (i := 4) 37 (v := ?v156) rfl rfl (by kernel_rfl) (by kernel_rfl) (by kernel_rfl) (fun _ _ _ h => h) (by kernel_rfl) ?hy156 (by exact ⟨c3, c4⟩) ?_
    case hy156 => (intro w' hSw; go_simp; try (with_reducible rfl))
    simp only [Act.put, List.setIfInBounds_toArray, List.set_cons_zero, List.set_cons_succ]
    refine takeS_on (i := 5) 38 (v := ?v157) rfl rfl (by kernel_rfl) (by kernel_rfl) (by kernel_rfl) (fun _ _ _ h => h) (by kernel_rfl) ?hy157 (by exact ⟨c3, c4⟩) ?_
    case hy157 => (intro w' hSw; go_simp; try (with_reducible rfl))
    simp only [Act.put, List.setIfInBounds_toArray, List.set_cons_zero, List.set_cons_succ]
    refine takeS_on (i := 6) 39 (v := ?v158) rfl rfl (by kernel_rfl) (by kernel_rfl) (by kernel_rfl) (fun _ _ _ h => h) (by kernel_rfl) ?hy158 (by exact ⟨c3, c4⟩) ?_
    case hy158 => (intro w' hSw; go_simp; try (with_reducible rfl))
    simp only [Act.put, List.setIfInBounds_toArray, List.set_cons_zero, List.set_cons_succ]
    refine wpAnyH_ready (rs := [7]) (by kernel_rfl) (by simp) (AllReadyH.cons rfl (fun K hK => ?_) AllReadyH.nil)
    go_simp
    refine (HI8.out _ ((Ch.refl NoB W3).drew)).mono ?_
    rintro e w5 ⟨v5, rfl, o5, g5'⟩
    obtain ⟨a5, q5, rfl⟩ := o5.form
    rw [show (iv ([] : List Int)).length = 0 from rfl] at o5 ⊢
    have g5 : Ch NoB W3 w5 := ((Ch.refl NoB W3).drew).trans' g5'
    have F5 := HF3.out.ch g5 (noB _)
    obtain ⟨e0, e1', e2, e3, e4⟩ := F5.cells
    have l5 := F5.lt
    obtain ⟨g', e', -, hg5, -, d5, df5, -⟩ := (HS3.out.c.ch g5 (fun _ _ => noB _)).get1 HU.out
    cases e'
    refine hK.out _ _ (by exact ⟨e3, e4⟩) (fun _ => ?_)
    clear hK K
    refine takeS_on (i := 8) 41 (v := ?v159) rfl rfl (by kernel_rfl) (by kernel_rfl) (by kernel_rfl) (fun _ _ _ h => h) (by kernel_rfl) ?hy159 (by exact ⟨e3, e4⟩) ?_
    case hy159 => (intro w' hSw; go_simp; try (with_reducible rfl))
    simp only [Act.put, List.setIfInBounds_toArray, List.set_cons_zero, List.set_cons_succ]
    refine wpAnyH_ready (rs := [9]) (by kernel_rfl) (by simp) (AllReadyH.cons rfl (fun K hK => ?_) AllReadyH.nil)
    go_simp
    have s6 := HS3.out.cache (c' := []) HU.out (g5.mono (fun q e => e.elim)) (o5.lower hb3) (fun q e => .inr (o5.blk e).1)
    obtain ⟨W6, hW6⟩ : ∃ W, W = w5.setCell ⟨g1, p, none⟩ (.slice a5 0 q5) := ⟨_, rfl⟩
    have C6 : Ch (Only g1) w5 W6 := by rw [hW6]; exact (Ch.refl _ _).own _ _
    have F6 := F5.ch C6 hne1
    have h63 := (C6.cell (o := 3) F5.lt hne1).trans e3
    have h64 := (C6.cell (o := 4) F5.lt hne1).trans e4
    rw [← hW6] at s6 ⊢
    have HS6 := hid s6
    have HF6 := hid F6
    have HG6 := hid ((HG3.out.trans g5 (fun q e => e.elim)).trans C6 (fun q e => .inr (by have e1 : q = g1 := e; omega)))
    have HR6 := hid ((HR3.out.ch g5 (noB _)).ch C6 hne3)
    have HK6 := hid ((C6.block _ (Nat.lt_of_lt_of_le (lt_of_block HK3.out) g5.size) hne5).trans ((g5.block _ (lt_of_block HK3.out) (noB _)).trans HK3.out))
    have hb6 : w1.heap.size ≤ W6.heap.size := Nat.le_trans hb3 (Nat.le_trans g5.size C6.size)
    have HUN := hid (show (cu.set p (.slice a5 0 q5))[p]? = some (.slice a5 0 q5) from List.getElem?_set_self (by rw [hcu]; exact hpn))
    clear hW6 s6 F6 C6 c0 c1 c2 c3 c4 e0 e1' e2 e3 e4 d5 df5 o5 g5' g5 F5
    refine hK.out _ _ (by exact ⟨h63, h64⟩) (fun _ => ?_)
    clear hK K
    refine wpAnyH_done (by kernel_rfl) ?_ _
    obtain ⟨c0, c1, c2, c3, c4⟩ := HF6.out.cells
    have l6 := HF6.out.lt
    have HI9 := hid (fun (a : Addr) (c : Nat) => ints_any (fun _ => True) (.slice (some a) 0 c) [] W6 (ls_none _ _ _ _) (by simp))
    go_wp2_with fail
    refine (HI9.out _ _).mono ?_
    rintro e w9 ⟨v9, rfl, o9, g9⟩
    obtain ⟨a9, q9, rfl⟩ := o9.form
    rw [show (iv ([] : List Int)).length = 0 from rfl] at o9 ⊢
    have s9 := (HS6.out.free (w1 := w9) (F' := []) (g9.mono (fun q e => e.elim)) (o9.lower hb6) (fun q e => .inr (o9.blk e).1))
    have F9 := HF6.out.ch g9 (noB _)
    have HF9 := hid F9
    obtain ⟨W10, hW10⟩ : ∃ W, W = w9.setCell ⟨w.heap.size, 4, none⟩ (.slice a9 0 q9) := ⟨_, rfl⟩
    have C10 : Ch (Only w.heap.size) w9 W10 := by rw [hW10]; exact (Ch.refl _ _).own _ _
    have HF10 := hid (show Fv 45 W10 w.heap.size (.int .i64 L) (.slice a1 nG q1) (.slice a2 nA q2) (.slice (some ⟨g1, 0, none⟩) nC q3) (.slice a9 0 q9) by rw [hW10]; exact setCell_block F9 4 _)
    have hsx : St w1.heap.size W10 (.slice a1 nG q1) (.slice a2 nA q2) (.slice (some ⟨g1, 0, none⟩) nC q3) (.slice a9 0 q9) (cu.set p (.slice a5 0 q5)) x := by
      have := s9.ch C10 (fun q a e => by have := (s9.blk a).1; have e1 : q = w.heap.size := e; omega)
      rw [HXE.out]
      exact this
    have HS10 := hid hsx
    have HG10 := hid ((HG6.out.trans g9 (fun q e => e.elim)).trans C10 (fun q e => .inr (by have e1 : q = w.heap.size := e; omega)))
    have HR10 := hid ((HR6.out.ch g9 (noB _)).ch C10 (fun e => by have e1 : w.heap.size + 1 = w.heap.size := e; omega))
    have HK10 := hid ((C10.block _ (Nat.lt_of_lt_of_le (lt_of_block HK6.out) g9.size) (fun e => by have e1 : w.heap.size + 1 + 1 = w.heap.size := e; omega)).trans ((g9.block _ (lt_of_block HK6.out) (noB _)).trans HK6.out))
    have hb10 : w1.heap.size ≤ W10.heap.size := Nat.le_trans hb6 (Nat.le_trans g9.size C10.size)
    have HC10 := hid C10
    obtain ⟨g', e', -, hg9, -, d9, df9, -⟩ := s9.c.get1 HUN.out
    cases e'
    clear c0 c1 c2 c3 c4
    obtain ⟨c0, c1, c2, c3, c4⟩ := F9.cells
    obtain ⟨y0, y1, y2, y3, y4⟩ := F9.fz
    have l9 := F9.lt
    clear s9 F9 C10 o9 g9 hsx d0 df
    go_wp2_with fail
    rw [← hW10]
    clear hW10 y0 y1 y2 y3 y4 d9 df9 l9
    clear c0 c1 c2 c3 c4
    obtain ⟨c0, c1, c2, c3, c4⟩ := HF10.out.cells
    have l10 := HF10.out.lt
    have HCL := hid (show x.C.length = nC from HnC.out.symm)
    have hn1 : 0 < nC := by omega
    have hn2 : nC ≤ 4294967296 := by rw [← HCL.out]; exact hcn
    have hnz : ¬ ((nC : Int) = 0) := by omega
    go_loopg [10] (nC - 1) (fun m i wv => ∃ j : Nat, 1 ≤ j ∧ j + m = nC ∧ i = .int .i64 ((j : Nat) : Int) ∧ wv = W10 ∧ seek x.C p m j = seek x.C p (nC - 1) 1)
    case atStart => exact ⟨1, by omega, by omega, rfl, rfl, rfl⟩
    case round =>
      obtain ⟨j, hj1, hjm, rfl, hwr, hsk⟩ := hrel
      subst hwr
      have HSK := hid hsk
      clear hsk
      by_cases hj : j < nC
      · obtain ⟨q, hq⟩ : ∃ q, q = (p + j) % nC := ⟨_, rfl⟩
        have hqn : q < nC := by rw [hq]; exact Nat.mod_lt _ hn1
        have j1 : (j : Int) < (nC : Int) := by omega
        have hw1 : IntKind.i64.wrap ((p : Int) + (j : Int)) = (p : Int) + (j : Int) := by rw [IntKind.wrap_i64]; omega
        have hr1 : ((p : Int) + (j : Int)).tmod (nC : Int) = (q : Int) := by rw [hq, Int.tmod_eq_emod_of_nonneg (by omega)]; push_cast; rfl
        have q0 : (0 : Int) ≤ (q : Int) := by omega
        have q1' : (q : Int) < (nC : Int) := by omega
        obtain ⟨cq, hcq⟩ : ∃ cq, x.C[q]? = some cq := ⟨_, List.getElem?_eq_getElem (by rw [HCL.out]; exact hqn)⟩
        obtain ⟨uq, huq⟩ : ∃ uq, (cu.set p (.slice a5 0 q5))[q]? = some uq := ⟨_, List.getElem?_eq_getElem (by rw [List.length_set, hcu]; exact hqn)⟩
        have hoq := HS10.out.e q uq cq huq hcq
        obtain ⟨va', vc', rfl⟩ := hoq.form
        obtain ⟨nQ, hnQ⟩ : ∃ n, n = (iv cq).length := ⟨_, rfl⟩
        rw [← hnQ] at hoq huq
        obtain ⟨g', e', -, hgq, -, dq, dfq, -⟩ := HS10.out.c.get1 huq
        cases e'
        have HQ := hid (show (p + j) % x.C.length = q by rw [HCL.out, hq])
        have HCQ0 := hid hcq
        have HUQ := hid huq
        have HOQ0 := hid hoq
        have HNQ0 := hid hnQ
        clear hoq huq hcq hq
        cases cq with
        | nil =>
          have hQ0 : nQ = 0 := hnQ
          subst hQ0
          clear hnQ
          go_wp2
          go_roundg (gk - 1)
          case measure => omega
          case rel =>
            refine ⟨j + 1, by omega, by omega, by simp, rfl, ?_⟩
            obtain ⟨m', rfl⟩ : ∃ m', gk = m' + 1 := ⟨gk - 1, by omega⟩
            rw [← HSK.out, seek_skip (by rw [HQ.out]; exact HCQ0.out)]
            rfl
        | cons z cl =>
          have hskq : seek x.C p (x.C.length - 1) 1 = some q := by
            obtain ⟨m', rfl⟩ : ∃ m', gk = m' + 1 := ⟨gk - 1, by omega⟩
            rw [HCL.out, ← HSK.out, seek_hit (by rw [HQ.out]; exact HCQ0.out), HQ.out]
          obtain ⟨k, g, a, rfl, hG, hA, hg0, hg1'⟩ := HSL.out q z cl hskq HCQ0.out
          have HSK2 := hid hskq
          have HG := hid hG
          have HA := hid hA
          have HCQ := hid HCQ0.out
          have HNQ := hid HNQ0.out
          have hQ0 : (0 : Int) < (nQ : Int) := by rw [hnQ, iv_length]; simp
          have f2 : decide ((0 : Int) < (nQ : Int)) = true := decide_eq_true hQ0
          have hnQl : nQ ≤ 4294967296 := by rw [hnQ, iv_length]; exact HT.out.e q _ HCQ0.out
          obtain ⟨gq, egq, hgqb, hgql, -, dz, -, -⟩ := HOQ0.out.get1 (iv_get (show ((k : Int) :: cl)[0]? = some (k : Int) from rfl))
          subst egq
          have HOQ := hid HOQ0.out
          have hqc := HOQ0.out.len.2
          have t1 : (1 : Int) ≤ (nQ : Int) := by omega
          have t2 : (nQ : Int) ≤ (vc' : Int) := by omega
          have t3 : (1 : Int) ≤ (vc' : Int) := by omega
          clear hskq hG hA hnQ
          by_cases hv : vc' = 1
          · subst hv
            obtain rfl : nQ = 1 := by omega
            have HCE := hid (show cl = [] by
              have := HNQ.out
              rw [iv_length] at this
              simpa using this)
            go_wp2_with fail
            refine wp_region_held_drew (S := fun w' => w'.cell? ⟨w.heap.size, 3, none⟩ = some (.slice (some ⟨g1, 0, none⟩) nC q3)) (by kernel_rfl) (by exact c3) (fun _ => ?_)
            refine takeS_on (i := 0) 136 (v := ?v160) rfl rfl (by kernel_rfl) (by kernel_rfl) (by kernel_rfl) (fun _ _ _ h => h) (by kernel_rfl) ?hy160 (by exact c3) ?_
            case hy160 => (intro w' hSw; go_simp; try (with_reducible rfl))
            simp only [Act.put, List.setIfInBounds_toArray, List.set_cons_zero, List.set_cons_succ]
            refine takeS_on (i := 1) 137 (v := ?v161) rfl rfl (by kernel_rfl) (by kernel_rfl) (by kernel_rfl) (fun _ _ _ h => h) (by kernel_rfl) ?hy161 (by exact c3) ?_
            case hy161 => (intro w' hSw; go_simp; try (with_reducible rfl))
            simp only [Act.put, List.setIfInBounds_toArray, List.set_cons_zero, List.set_cons_succ]
            refine takeS_on (i := 2) 138 (v := ?v162) rfl rfl (by kernel_rfl) (by kernel_rfl) (by kernel_rfl) (fun _ _ _ h => h) (by kernel_rfl) ?hy162 (by exact c3) ?_
            case hy162 => (intro w' hSw; go_simp; try (with_reducible rfl))
            simp only [Act.put, List.setIfInBounds_toArray, List.set_cons_zero, List.set_cons_succ]
            refine takeS_on (i := 3) 139 (v := ?v163) rfl rfl (by kernel_rfl) (by kernel_rfl) (by kernel_rfl) (fun _ _ _ h => h) (by kernel_rfl) ?hy163 (by exact c3) ?_
            case hy163 => (intro w' hSw; go_simp; try (with_reducible rfl))
            simp only [Act.put, List.setIfInBounds_toArray, List.set_cons_zero, List.set_cons_succ]
            refine takeS_on (i := 4) 140 (v := ?v164) rfl rfl (by kernel_rfl) (by kernel_rfl) (by kernel_rfl) (fun _ _ _ h => h) (by kernel_rfl) ?hy164 (by exact c3) ?_
            case hy164 => (intro w' hSw; go_simp; try (with_reducible rfl))
            simp only [Act.put, List.setIfInBounds_toArray, List.set_cons_zero, List.set_cons_succ]
            refine takeS_on (i := 5) 141 (v := ?v165) rfl rfl (by kernel_rfl) (by kernel_rfl) (by kernel_rfl) (fun _ _ _ h => h) (by kernel_rfl) ?hy165 (by exact c3) ?_
            case hy165 => (intro w' hSw; go_simp; try (with_reducible rfl))
            simp only [Act.put, List.setIfInBounds_toArray, List.set_cons_zero, List.set_cons_succ]
            refine takeS_on (i := 6) 142 (v := ?v166) rfl rfl (by kernel_rfl) (by kernel_rfl) (by kernel_rfl) (fun _ _ _ h => h) (by kernel_rfl) ?hy166 (by exact c3) ?_
            case hy166 => (intro w' hSw; go_simp; try (with_reducible rfl))
            simp only [Act.put, List.setIfInBounds_toArray, List.set_cons_zero, List.set_cons_succ]
            refine wpAnyH_ready (rs := [7]) (by kernel_rfl) (by simp) (AllReadyH.cons rfl (fun K hK => ?_) AllReadyH.nil)
            go_simp
            refine hK.out _ _ (by exact c3) (fun _ => ?_)
            clear hK K
            refine takeS_on (i := 8) 144 (v := ?v167) rfl rfl (by kernel_rfl) (by kernel_rfl) (by kernel_rfl) (fun _ _ _ h => h) (by kernel_rfl) ?hy167 (by exact c3) ?_
            case hy167 => (intro w' hSw; go_simp; try (with_reducible rfl))
            simp only [Act.put, List.setIfInBounds_toArray, List.set_cons_zero, List.set_cons_succ]
            refine wpAnyH_ready (rs := [9]) (by kernel_rfl) (by simp) (AllReadyH.cons rfl (fun K hK => ?_) AllReadyH.nil)
            go_simp
            refine (ints_any (fun _ => True) _ cl _ (by rw [HCE.out]; exact ls_none _ _ _ _) (by rw [HCE.out]; simp)).mono ?_
            rintro e w5 ⟨v5, rfl, o5, g5'⟩
            obtain ⟨a5b, q5b, rfl⟩ := o5.form
            have g5 : Ch NoB wr w5 := ((Ch.refl NoB wr).drew).trans' g5'
            have F5 := HF10.out.ch g5 (noB _)
            obtain ⟨e0, e1', e2, e3, e4⟩ := F5.cells
            have l5 := F5.lt
            obtain ⟨g', e', -, hg5, -, d5, df5, -⟩ := (HS10.out.c.ch g5 (fun _ _ => noB _)).get1 HUQ.out
            cases e'
            refine hK.out _ _ (by exact e3) (fun _ => ?_)
            clear hK K
            refine takeS_on (i := 10) 146 (v := ?v168) rfl rfl (by kernel_rfl) (by kernel_rfl) (by kernel_rfl) (fun _ _ _ h => h) (by kernel_rfl) ?hy168 (by exact e3) ?_
            case hy168 => (intro w' hSw; go_simp; try (with_reducible rfl))
            simp only [Act.put, List.setIfInBounds_toArray, List.set_cons_zero, List.set_cons_succ]
            refine wpAnyH_ready (rs := [11]) (by kernel_rfl) (by simp) (AllReadyH.cons rfl (fun K hK => ?_) AllReadyH.nil)
            go_simp
            have s12 := HS10.out.cache (c' := cl) HUQ.out (g5.mono (fun q e => e.elim)) (o5.lower hb10) (fun q e => .inr (o5.blk e).1)
            obtain ⟨W12, hW12⟩ : ∃ W, W = w5.setCell ⟨g1, q, none⟩ (.slice a5b (iv cl).length q5b) := ⟨_, rfl⟩
            have C12 : Ch (Only g1) w5 W12 := by rw [hW12]; exact (Ch.refl _ _).own _ _
            have F12 := F5.ch C12 hne1
            have h12 := (C12.cell (o := 3) F5.lt hne1).trans e3
            rw [← hW12] at s12 ⊢
            have HS12 := hid s12
            have HF12 := hid F12
            have HG12 := hid ((HG10.out.trans g5 (fun q e => e.elim)).trans C12 (fun q e => .inr (by have e1 : q = g1 := e; omega)))
            have HR12 := hid ((HR10.out.ch g5 (noB _)).ch C12 hne3)
            have HK12 := hid ((C12.block _ (Nat.lt_of_lt_of_le (lt_of_block HK10.out) g5.size) hne5).trans ((g5.block _ (lt_of_block HK10.out) (noB _)).trans HK10.out))
            clear hW12 s12 F12 C12 e0 e1' e2 e3 e4 d5 df5 o5 g5' g5 F5
            refine hK.out _ _ (by exact h12) (fun _ => ?_)
            clear hK K
            refine wpAnyH_done (by kernel_rfl) ?_ _
            clear c0 c1 c2 c3 c4
            obtain ⟨c0, c1, c2, c3, c4⟩ := HF12.out.cells
            have lf := HF12.out.lt
            go_wp2_with fail
            refine (given_any w1.heap.size k L g a _ _ _ _ _ _ W12 HS12.out HG.out HA.out hg0 hg1').mono ?_
            rintro e w7 ⟨rfl, s7, g7⟩
            have R7 := HR12.out.ch g7 (fun e => by have e1 : w1.heap.size ≤ w.heap.size + 1 := e; omega)
            have K7 := (g7.block _ (lt_of_block HK12.out) (fun e => by have e1 : w1.heap.size ≤ w.heap.size + 1 + 1 := e; omega)).trans HK12.out
            obtain ⟨z0, z1, z2, z3, z4⟩ := R7.cells
            obtain ⟨zf0, zf1, zf2, zf3, zf4⟩ := R7.fz
            have xx0 := cell_of K7 0
            have xx1 := cell_of K7 1
            have xf0 := frozen_of K7 0
            have xf1 := frozen_of K7 1
            have lr := R7.lt
            have lk := lt_of_block K7
            have HS7 := hid s7
            have HG7 := hid (HG12.out.trans g7 (fun q e => .inr (by have e1 : w1.heap.size ≤ q := e; omega)))
            clear R7 K7 s7 g7
            go_wp2
            have C8 := (((((Ch.refl (Only (w.heap.size + 1)) w7).own 0 (.int .i64 L)).own 1 (.slice a1 nG q1)).own 2 (.slice a2 nA q2)).own 3 (.slice (some ⟨g1, 0, none⟩) nC q3)).own 4 (.slice a9 0 q9)
            have C9 := ((Ch.refl (Only (w.heap.size + 1 + 1)) (((((w7.setCell ⟨w.heap.size + 1, 0, none⟩ (.int .i64 L)).setCell ⟨w.heap.size + 1, 1, none⟩ (.slice a1 nG q1)).setCell ⟨w.heap.size + 1, 2, none⟩ (.slice a2 nA q2)).setCell ⟨w.heap.size + 1, 3, none⟩ (.slice (some ⟨g1, 0, none⟩) nC q3)).setCell ⟨w.heap.size + 1, 4, none⟩ (.slice a9 0 q9))).own 0 (.int .i64 (k : Int))).own 1 (.int .i64 (g + 1))
            exact bodyPost_ret (v := .tuple #[.agg #[.int .i64 L, .slice a1 nG q1, .slice a2 nA q2, .slice (some ⟨g1, 0, none⟩) nC q3, .slice a9 0 q9], .agg #[.int .i64 (k : Int), .int .i64 (g + 1)], .int .i64 0]) (by simp [results, Try.results39, go_sem, z0, z1, z2, z3, z4, xx0, xx1]) rfl (Sought.found HSK2.out HCQ.out HG.out (Toldn.of ((((HS7.out.ch C8 (fun q a e => by have := (HS7.out.blk a).1; have e1 : q = w.heap.size + 1 := e; omega)).ch C9 (fun q a e => by have := (HS7.out.blk a).1; have e1 : q = w.heap.size + 1 + 1 := e; omega))).lower (by omega)) ((HG7.out.trans C8 (fun q e => .inr (by have e1 : q = w.heap.size + 1 := e; omega))).trans C9 (fun q e => .inr (by have e1 : q = w.heap.size + 1 + 1 := e; omega)))))
          · have hv' : ¬ (1 = vc') := fun e => hv e.symm
            go_wp2_with fail
            refine wp_region_held_drew (S := fun w' => w'.cell? ⟨w.heap.size, 3, none⟩ = some (.slice (some ⟨g1, 0, none⟩) nC q3)) (by kernel_rfl) (by exact c3) (fun _ => ?_)
            refine takeS_on (i := 0) 136 (v := ?v169) rfl rfl (by kernel_rfl) (by kernel_rfl) (by kernel_rfl) (fun _ _ _ h => h) (by kernel_rfl) ?hy169 (by exact c3) ?_
            case hy169 => (intro w' hSw; go_simp; try (with_reducible rfl))
            simp only [Act.put, List.setIfInBounds_toArray, List.set_cons_zero, List.set_cons_succ]
            refine takeS_on (i := 1) 137 (v := ?v170) rfl rfl (by kernel_rfl) (by kernel_rfl) (by kernel_rfl) (fun _ _ _ h => h) (by kernel_rfl) ?hy170 (by exact c3) ?_
            case hy170 => (intro w' hSw; go_simp; try (with_reducible rfl))
            simp only [Act.put, List.setIfInBounds_toArray, List.set_cons_zero, List.set_cons_succ]
            refine takeS_on (i := 2) 138 (v := ?v171) rfl rfl (by kernel_rfl) (by kernel_rfl) (by kernel_rfl) (fun _ _ _ h => h) (by kernel_rfl) ?hy171 (by exact c3) ?_
            case hy171 => (intro w' hSw; go_simp; try (with_reducible rfl))
            simp only [Act.put, List.setIfInBounds_toArray, List.set_cons_zero, List.set_cons_succ]
            refine takeS_on (i := 3) 139 (v := ?v172) rfl rfl (by kernel_rfl) (by kernel_rfl) (by kernel_rfl) (fun _ _ _ h => h) (by kernel_rfl) ?hy172 (by exact c3) ?_
            case hy172 => (intro w' hSw; go_simp; try (with_reducible rfl))
            simp only [Act.put, List.setIfInBounds_toArray, List.set_cons_zero, List.set_cons_succ]
            refine takeS_on (i := 4) 140 (v := ?v173) rfl rfl (by kernel_rfl) (by kernel_rfl) (by kernel_rfl) (fun _ _ _ h => h) (by kernel_rfl) ?hy173 (by exact c3) ?_
            case hy173 => (intro w' hSw; go_simp; try (with_reducible rfl))
            simp only [Act.put, List.setIfInBounds_toArray, List.set_cons_zero, List.set_cons_succ]
            refine takeS_on (i := 5) 141 (v := ?v174) rfl rfl (by kernel_rfl) (by kernel_rfl) (by kernel_rfl) (fun _ _ _ h => h) (by kernel_rfl) ?hy174 (by exact c3) ?_
            case hy174 => (intro w' hSw; go_simp; try (with_reducible rfl))
            simp only [Act.put, List.setIfInBounds_toArray, List.set_cons_zero, List.set_cons_succ]
            refine takeS_on (i := 6) 142 (v := ?v175) rfl rfl (by kernel_rfl) (by kernel_rfl) (by kernel_rfl) (fun _ _ _ h => h) (by kernel_rfl) ?hy175 (by exact c3) ?_
            case hy175 => (intro w' hSw; go_simp; try (with_reducible rfl))
            simp only [Act.put, List.setIfInBounds_toArray, List.set_cons_zero, List.set_cons_succ]
            refine wpAnyH_ready (rs := [7]) (by kernel_rfl) (by simp) (AllReadyH.cons rfl (fun K hK => ?_) AllReadyH.nil)
            go_simp
            refine hK.out _ _ (by exact c3) (fun _ => ?_)
            clear hK K
            refine takeS_on (i := 8) 144 (v := ?v176) rfl rfl (by kernel_rfl) (by kernel_rfl) (by kernel_rfl) (fun _ _ _ h => h) (by kernel_rfl) ?hy176 (by exact c3) ?_
            case hy176 => (intro w' hSw; go_simp; try (with_reducible rfl))
            simp only [Act.put, List.setIfInBounds_toArray, List.set_cons_zero, List.set_cons_succ]
            refine wpAnyH_ready (rs := [9]) (by kernel_rfl) (by simp) (AllReadyH.cons rfl (fun K hK => ?_) AllReadyH.nil)
            go_simp
            refine (ints_any (Blk (.slice (some ⟨gq, 0, none⟩) nQ vc')) _ cl _ (HOQ.out.dropN (d := 1) (by omega)).drew (by have := HNQ.out; rw [iv_length] at this; simp at this; have := hnQl; omega)).mono ?_
            rintro e w5 ⟨v5, rfl, o5, g5'⟩
            obtain ⟨a5b, q5b, rfl⟩ := o5.form
            have g5 : Ch NoB wr w5 := ((Ch.refl NoB wr).drew).trans' g5'
            have F5 := HF10.out.ch g5 (noB _)
            obtain ⟨e0, e1', e2, e3, e4⟩ := F5.cells
            have l5 := F5.lt
            obtain ⟨g', e', -, hg5, -, d5, df5, -⟩ := (HS10.out.c.ch g5 (fun _ _ => noB _)).get1 HUQ.out
            cases e'
            refine hK.out _ _ (by exact e3) (fun _ => ?_)
            clear hK K
            refine takeS_on (i := 10) 146 (v := ?v177) rfl rfl (by kernel_rfl) (by kernel_rfl) (by kernel_rfl) (fun _ _ _ h => h) (by kernel_rfl) ?hy177 (by exact e3) ?_
            case hy177 => (intro w' hSw; go_simp; try (with_reducible rfl))
            simp only [Act.put, List.setIfInBounds_toArray, List.set_cons_zero, List.set_cons_succ]
            refine wpAnyH_ready (rs := [11]) (by kernel_rfl) (by simp) (AllReadyH.cons rfl (fun K hK => ?_) AllReadyH.nil)
            go_simp
            have s12 := HS10.out.cache (c' := cl) HUQ.out (g5.mono (fun q e => e.elim)) (o5.lower hb10) (fun q e => .inr (o5.blk e).1)
            obtain ⟨W12, hW12⟩ : ∃ W, W = w5.setCell ⟨g1, q, none⟩ (.slice a5b (iv cl).length q5b) := ⟨_, rfl⟩
            have C12 : Ch (Only g1) w5 W12 := by rw [hW12]; exact (Ch.refl _ _).own _ _
            have F12 := F5.ch C12 hne1
            have h12 := (C12.cell (o := 3) F5.lt hne1).trans e3
            rw [← hW12] at s12 ⊢
            have HS12 := hid s12
            have HF12 := hid F12
            have HG12 := hid ((HG10.out.trans g5 (fun q e => e.elim)).trans C12 (fun q e => .inr (by have e1 : q = g1 := e; omega)))
            have HR12 := hid ((HR10.out.ch g5 (noB _)).ch C12 hne3)
            have HK12 := hid ((C12.block _ (Nat.lt_of_lt_of_le (lt_of_block HK10.out) g5.size) hne5).trans ((g5.block _ (lt_of_block HK10.out) (noB _)).trans HK10.out))
            clear hW12 s12 F12 C12 e0 e1' e2 e3 e4 d5 df5 o5 g5' g5 F5
            refine hK.out _ _ (by exact h12) (fun _ => ?_)
            clear hK K
            refine wpAnyH_done (by kernel_rfl) ?_ _
            clear c0 c1 c2 c3 c4
            obtain ⟨c0, c1, c2, c3, c4⟩ := HF12.out.cells
            have lf := HF12.out.lt
            go_wp2_with fail
            refine (given_any w1.heap.size k L g a _ _ _ _ _ _ W12 HS12.out HG.out HA.out hg0 hg1').mono ?_
            rintro e w7 ⟨rfl, s7, g7⟩
            have R7 := HR12.out.ch g7 (fun e => by have e1 : w1.heap.size ≤ w.heap.size + 1 := e; omega)
            have K7 := (g7.block _ (lt_of_block HK12.out) (fun e => by have e1 : w1.heap.size ≤ w.heap.size + 1 + 1 := e; omega)).trans HK12.out
            obtain ⟨z0, z1, z2, z3, z4⟩ := R7.cells
            obtain ⟨zf0, zf1, zf2, zf3, zf4⟩ := R7.fz
            have xx0 := cell_of K7 0
            have xx1 := cell_of K7 1
            have xf0 := frozen_of K7 0
            have xf1 := frozen_of K7 1
            have lr := R7.lt
            have lk := lt_of_block K7
            have HS7 := hid s7
            have HG7 := hid (HG12.out.trans g7 (fun q e => .inr (by have e1 : w1.heap.size ≤ q := e; omega)))
            clear R7 K7 s7 g7
            go_wp2
            have C8 := (((((Ch.refl (Only (w.heap.size + 1)) w7).own 0 (.int .i64 L)).own 1 (.slice a1 nG q1)).own 2 (.slice a2 nA q2)).own 3 (.slice (some ⟨g1, 0, none⟩) nC q3)).own 4 (.slice a9 0 q9)
            have C9 := ((Ch.refl (Only (w.heap.size + 1 + 1)) (((((w7.setCell ⟨w.heap.size + 1, 0, none⟩ (.int .i64 L)).setCell ⟨w.heap.size + 1, 1, none⟩ (.slice a1 nG q1)).setCell ⟨w.heap.size + 1, 2, none⟩ (.slice a2 nA q2)).setCell ⟨w.heap.size + 1, 3, none⟩ (.slice (some ⟨g1, 0, none⟩) nC q3)).setCell ⟨w.heap.size + 1, 4, none⟩ (.slice a9 0 q9))).own 0 (.int .i64 (k : Int))).own 1 (.int .i64 (g + 1))
            exact bodyPost_ret (v := .tuple #[.agg #[.int .i64 L, .slice a1 nG q1, .slice a2 nA q2, .slice (some ⟨g1, 0, none⟩) nC q3, .slice a9 0 q9], .agg #[.int .i64 (k : Int), .int .i64 (g + 1)], .int .i64 0]) (by simp [results, Try.results39, go_sem, z0, z1, z2, z3, z4, xx0, xx1]) rfl (Sought.found HSK2.out HCQ.out HG.out (Toldn.of ((((HS7.out.ch C8 (fun q a e => by have := (HS7.out.blk a).1; have e1 : q = w.heap.size + 1 := e; omega)).ch C9 (fun q a e => by have := (HS7.out.blk a).1; have e1 : q = w.heap.size + 1 + 1 := e; omega))).lower (by omega)) ((HG7.out.trans C8 (fun q e => .inr (by have e1 : q = w.heap.size + 1 := e; omega))).trans C9 (fun q e => .inr (by have e1 : q = w.heap.size + 1 + 1 := e; omega)))))
      · have e0 : j = nC := by omega
        subst e0
        have h0 : gk = 0 := by omega
        subst h0
        obtain ⟨z0, z1, z2, z3, z4⟩ := HR10.out.cells
        obtain ⟨zf0, zf1, zf2, zf3, zf4⟩ := HR10.out.fz
        have xx0 := cell_of HK10.out 0
        have xx1 := cell_of HK10.out 1
        have xf0 := frozen_of HK10.out 0
        have xf1 := frozen_of HK10.out 1
        have lr := HR10.out.lt
        have lk := lt_of_block HK10.out
        go_wp2
        have C8 := (((((Ch.refl (Only (w.heap.size + 1)) wr).own 0 (.int .i64 L)).own 1 (.slice a1 nG q1)).own 2 (.slice a2 nA q2)).own 3 (.slice (some ⟨g1, 0, none⟩) j q3)).own 4 (.slice a9 0 q9)
        have C9 := ((Ch.refl (Only (w.heap.size + 1 + 1)) (((((wr.setCell ⟨w.heap.size + 1, 0, none⟩ (.int .i64 L)).setCell ⟨w.heap.size + 1, 1, none⟩ (.slice a1 nG q1)).setCell ⟨w.heap.size + 1, 2, none⟩ (.slice a2 nA q2)).setCell ⟨w.heap.size + 1, 3, none⟩ (.slice (some ⟨g1, 0, none⟩) j q3)).setCell ⟨w.heap.size + 1, 4, none⟩ (.slice a9 0 q9))).own 0 (.int .i64 0)).own 1 (.int .i64 0)
        exact bodyPost_ret (v := .tuple #[.agg #[.int .i64 L, .slice a1 nG q1, .slice a2 nA q2, .slice (some ⟨g1, 0, none⟩) j q3, .slice a9 0 q9], .agg #[.int .i64 0, .int .i64 0], .int .i64 2]) (by simp [results, Try.results39, go_sem, z0, z1, z2, z3, z4, xx0, xx1]) rfl (Or.inl ⟨by rw [HCL.out, ← HSK.out]; rfl, Toldn.of ((((HS10.out.ch C8 (fun q a e => by have := (HS10.out.blk a).1; have e1 : q = w.heap.size + 1 := e; omega)).ch C9 (fun q a e => by have := (HS10.out.blk a).1; have e1 : q = w.heap.size + 1 + 1 := e; omega))).lower (by omega)) ((HG10.out.trans C8 (fun q e => .inr (by have e1 : q = w.heap.size + 1 := e; omega))).trans C9 (fun q e => .inr (by have e1 : q = w.heap.size + 1 + 1 := e; omega)))⟩)
end Go.Proofs.Ytfbkifkfhgkdbab.Sb
