/-
  What the document's Give answers. Condition: the state is there, with as many truths as generations, and no list of it is too long.
-/
import Derived.Test.YtfbkifkfhgkdbabSbRefB
namespace Go.Proofs.Ytfbkifkfhgkdbab.Sb
open Go.RowKit
open Classical
attribute [local go_sem ↓] Go.wp_at_zero Go.wp_at_succ

/-- the second half of 64 -/
theorem Ow.drop32 {base g cap : Nat} {w : World} {us : List Value} (h : Ow 3 base w (.slice (some ⟨g, 0, none⟩) 64 cap) us) (hl : us.length = 64) : Ls (Blk (.slice (some ⟨g, 0, none⟩) 64 cap)) w (.slice (some ⟨g, 32, none⟩) 32 (cap - 32)) (us.drop 32) := by
  have hc := h.len
  obtain ⟨ao, cap', e, hcap, h2⟩ := h.lstB
  injection e with e1 e2 e3
  subst e1 e3
  rcases h2 with h0 | ⟨g', o, e4, hb, hg, hcell⟩
  · rw [h0] at hl
    cases hl
  · injection e4 with e4
    injection e4 with e5 e6
    subst e5 e6
    refine ⟨some ⟨g, 32, none⟩, cap - 32, by rw [List.length_drop, hl], ⟨by rw [List.length_drop, hl]; omega, fun h => by cases h⟩, .inr ⟨g, 32, rfl, hb, hg, fun i z hz => ?_⟩⟩
    rw [List.getElem?_drop] at hz
    have := hcell (32 + i) z hz
    rw [Nat.zero_add] at this
    exact this

/-- a state and OK is told -/
def Gave (L : Int) (x' : Sl) (w : World) (e : Ending) (w' : World) : Prop :=
  ∃ vg' va' vc' vf' cv', e = .returned (.tuple #[.agg #[.int .i64 L, vg', va', vc', vf'], .int .i64 0]) ∧ St w.heap.size w' vg' va' vc' vf' cv' x' ∧ Ch NoB w w'
theorem Gave.of {L : Int} {x' : Sl} {w w' : World} {vg' va' vc' vf' : Value} {cv' : List Value} (h : St w.heap.size w' vg' va' vc' vf' cv' x') (g : Ch NoB w w') : Gave L x' w (.returned (.tuple #[.agg #[.int .i64 L, vg', va', vc', vf'], .int .i64 0])) w' := ⟨vg', va', vc', vf', cv', rfl, h, g⟩

set_option maxHeartbeats 2000000 in
theorem rgive_bad (P : Nat → Prop) (p s gn L : Int) (vg va vc vf : Value) (cv : List Value) (x : Sl) (w : World) (h : Rd P w vg va vc vf cv x) (ht : x.Fits) (hag : x.G.length = x.A.length) (hp : ¬ HasP x p) :
    Calls Try.prog 40 #[.agg #[.int .i64 L, vg, va, vc, vf], .int .i64 p, .agg #[.int .i64 s, .int .i64 gn]] w fun e w' => e = .returned (.tuple #[.agg #[.int .i64 L, vg, va, vc, vf], .int .i64 1]) ∧ Ch NoB w w' := by
  obtain ⟨ga, gc, rfl⟩ := h.g.form
  obtain ⟨aa, ac, rfl⟩ := h.a.form
  obtain ⟨ca, cc, rfl⟩ := h.c.form
  obtain ⟨fa, fc, rfl⟩ := h.f.form
  obtain ⟨nG, hnG⟩ : ∃ n, n = (iv x.G).length := ⟨_, rfl⟩
  obtain ⟨nA, hnA⟩ : ∃ n, n = (bv x.A).length := ⟨_, rfl⟩
  obtain ⟨nC, hnC⟩ : ∃ n, n = cv.length := ⟨_, rfl⟩
  obtain ⟨nF, hnF⟩ : ∃ n, n = (iv x.F).length := ⟨_, rfl⟩
  rw [← hnG, ← hnA, ← hnC, ← hnF] at h
  rw [← hnG, ← hnA, ← hnC, ← hnF]
  obtain ⟨W0, hW0⟩ : ∃ W0, W0 = ((w.alloc (.cells #[.int .i64 L, .slice ga nG gc, .slice aa nA ac, .slice ca nC cc, .slice fa nF fc] 45)).alloc (.cells #[.int .i64 s, .int .i64 gn] 34)).alloc (.cells #[.int .i64 0, .slice none 0 0, .slice none 0 0, .slice none 0 0, .slice none 0 0] 45) := ⟨_, rfl⟩
  have g0 : Ch NoB w W0 := by rw [hW0]; exact (((Ch.refl NoB w).alloc _).alloc _).alloc _
  have f0 : Fv 45 W0 w.heap.size (.int .i64 L) (.slice ga nG gc) (.slice aa nA ac) (.slice ca nC cc) (.slice fa nF fc) := by rw [hW0]; exact ((Fv.new 45 w _ _ _ _ _).alloc _).alloc _
  have k0 : W0.heap[w.heap.size + 1]? = some (.cells #[.int .i64 s, .int .i64 gn] 34 (0, 0)) := by
    rw [hW0]
    have z := (MapKept.heap_alloc (w.alloc (.cells #[.int .i64 L, .slice ga nG gc, .slice aa nA ac, .slice ca nC cc, .slice fa nF fc] 45)) (.cells #[.int .i64 s, .int .i64 gn] 34)).1
    rw [World.size_alloc] at z
    exact (Below.heap_alloc _ _ _ (lt_of_block z)).trans z
  have r0 : Fv 45 W0 (w.heap.size + 1 + 1) (.int .i64 0) (.slice none 0 0) (.slice none 0 0) (.slice none 0 0) (.slice none 0 0) := by
    have z := Fv.new 45 ((w.alloc (.cells #[.int .i64 L, .slice ga nG gc, .slice aa nA ac, .slice ca nC cc, .slice fa nF fc] 45)).alloc (.cells #[.int .i64 s, .int .i64 gn] 34)) (.int .i64 0) (.slice none 0 0) (.slice none 0 0) (.slice none 0 0) (.slice none 0 0)
    rw [World.size_alloc, World.size_alloc] at z
    rw [hW0]
    exact z
  have hr := (h.mono (Q := fun g => g < w.heap.size) (fun g a _ => a)).ch g0 (fun _ _ _ => noB _)
  have HPR := hid (rproc_any _ L p _ _ _ _ cv x W0 hr)
  have HAV := hid (fun (W : World) (k1 : Ch NoB W0 W) => ralive_any _ L s gn _ _ _ _ cv x W (hr.ch k1 (fun _ _ _ => noB _)) hag)
  have HCP := hid (fun (W : World) (k1 : Ch NoB W0 W) => copy_any L _ _ _ _ cv x _ W (hr.ch k1 (fun _ _ _ => noB _)) ht)
  have HF0 := hid f0
  have HR0 := hid r0
  have HK0 := hid k0
  have HG0 := hid g0
  have HnG := hid hnG
  have HnA := hid hnA
  have HnF := hid hnF
  have HnC := hid (show nC = x.C.length by rw [hnC, h.e.1])
  have HT := hid ht
  have hl0 := r0.lt
  have HP := hid hp
  clear h hr f0 r0 g0 k0 hnG hnA hnC hnF ht hp hag
  go_enter Try.func40, Try.ntmps40
  go_wp2_with fail
  rw [← hW0]
  clear hW0
  refine HPR.out.mono ?_
  rintro e w1 ⟨rfl, g1⟩
  rw [show decide (HasP x p) = false from decide_eq_false HP.out]
  have F1 := HF0.out.ch g1 (noB _)
  have R1 := HR0.out.ch g1 (noB _)
  have K1 := (g1.block _ (lt_of_block HK0.out) (noB _)).trans HK0.out
  obtain ⟨c0, c1, c2, c3, c4⟩ := F1.cells
  obtain ⟨z0, z1, z2, z3, z4⟩ := R1.cells
  obtain ⟨zf0, zf1, zf2, zf3, zf4⟩ := R1.fz
  have x0 := cell_of K1 0
  have x1 := cell_of K1 1
  have l1 := F1.lt
  have l2 := R1.lt
  have lk := lt_of_block K1
  have HG1 := hid g1
  clear F1 R1 g1 K1
  go_wp2
  have C5 := (((((Ch.refl (Only (w.heap.size + 1 + 1)) w1).own 0 (.int .i64 L)).own 1 (.slice ga nG gc)).own 2 (.slice aa nA ac)).own 3 (.slice ca nC cc)).own 4 (.slice fa nF fc)
  exact bodyPost_ret (v := .tuple #[.agg #[.int .i64 L, .slice ga nG gc, .slice aa nA ac, .slice ca nC cc, .slice fa nF fc], .int .i64 1]) (by simp [results, Try.results40, go_sem, z0, z1, z2, z3, z4]) rfl ⟨rfl, (HG0.out.trans' HG1.out).trans C5 (fun q e => .inr (by have e1 : q = w.heap.size + 1 + 1 := e; omega))⟩

set_option maxHeartbeats 2000000 in
theorem rgive_stale (P : Nat → Prop) (p s gn L : Int) (vg va vc vf : Value) (cv : List Value) (x : Sl) (w : World) (h : Rd P w vg va vc vf cv x) (ht : x.Fits) (hag : x.G.length = x.A.length) (hp : HasP x p) (hal : aliveB x s gn = false) :
    Calls Try.prog 40 #[.agg #[.int .i64 L, vg, va, vc, vf], .int .i64 p, .agg #[.int .i64 s, .int .i64 gn]] w fun e w' => e = .returned (.tuple #[.agg #[.int .i64 L, vg, va, vc, vf], .int .i64 41]) ∧ Ch NoB w w' := by
  obtain ⟨ga, gc, rfl⟩ := h.g.form
  obtain ⟨aa, ac, rfl⟩ := h.a.form
  obtain ⟨ca, cc, rfl⟩ := h.c.form
  obtain ⟨fa, fc, rfl⟩ := h.f.form
  obtain ⟨nG, hnG⟩ : ∃ n, n = (iv x.G).length := ⟨_, rfl⟩
  obtain ⟨nA, hnA⟩ : ∃ n, n = (bv x.A).length := ⟨_, rfl⟩
  obtain ⟨nC, hnC⟩ : ∃ n, n = cv.length := ⟨_, rfl⟩
  obtain ⟨nF, hnF⟩ : ∃ n, n = (iv x.F).length := ⟨_, rfl⟩
  rw [← hnG, ← hnA, ← hnC, ← hnF] at h
  rw [← hnG, ← hnA, ← hnC, ← hnF]
  obtain ⟨W0, hW0⟩ : ∃ W0, W0 = ((w.alloc (.cells #[.int .i64 L, .slice ga nG gc, .slice aa nA ac, .slice ca nC cc, .slice fa nF fc] 45)).alloc (.cells #[.int .i64 s, .int .i64 gn] 34)).alloc (.cells #[.int .i64 0, .slice none 0 0, .slice none 0 0, .slice none 0 0, .slice none 0 0] 45) := ⟨_, rfl⟩
  have g0 : Ch NoB w W0 := by rw [hW0]; exact (((Ch.refl NoB w).alloc _).alloc _).alloc _
  have f0 : Fv 45 W0 w.heap.size (.int .i64 L) (.slice ga nG gc) (.slice aa nA ac) (.slice ca nC cc) (.slice fa nF fc) := by rw [hW0]; exact ((Fv.new 45 w _ _ _ _ _).alloc _).alloc _
  have k0 : W0.heap[w.heap.size + 1]? = some (.cells #[.int .i64 s, .int .i64 gn] 34 (0, 0)) := by
    rw [hW0]
    have z := (MapKept.heap_alloc (w.alloc (.cells #[.int .i64 L, .slice ga nG gc, .slice aa nA ac, .slice ca nC cc, .slice fa nF fc] 45)) (.cells #[.int .i64 s, .int .i64 gn] 34)).1
    rw [World.size_alloc] at z
    exact (Below.heap_alloc _ _ _ (lt_of_block z)).trans z
  have r0 : Fv 45 W0 (w.heap.size + 1 + 1) (.int .i64 0) (.slice none 0 0) (.slice none 0 0) (.slice none 0 0) (.slice none 0 0) := by
    have z := Fv.new 45 ((w.alloc (.cells #[.int .i64 L, .slice ga nG gc, .slice aa nA ac, .slice ca nC cc, .slice fa nF fc] 45)).alloc (.cells #[.int .i64 s, .int .i64 gn] 34)) (.int .i64 0) (.slice none 0 0) (.slice none 0 0) (.slice none 0 0) (.slice none 0 0)
    rw [World.size_alloc, World.size_alloc] at z
    rw [hW0]
    exact z
  have hr := (h.mono (Q := fun g => g < w.heap.size) (fun g a _ => a)).ch g0 (fun _ _ _ => noB _)
  have HPR := hid (rproc_any _ L p _ _ _ _ cv x W0 hr)
  have HAV := hid (fun (W : World) (k1 : Ch NoB W0 W) => ralive_any _ L s gn _ _ _ _ cv x W (hr.ch k1 (fun _ _ _ => noB _)) hag)
  have HCP := hid (fun (W : World) (k1 : Ch NoB W0 W) => copy_any L _ _ _ _ cv x _ W (hr.ch k1 (fun _ _ _ => noB _)) ht)
  have HF0 := hid f0
  have HR0 := hid r0
  have HK0 := hid k0
  have HG0 := hid g0
  have HnG := hid hnG
  have HnA := hid hnA
  have HnF := hid hnF
  have HnC := hid (show nC = x.C.length by rw [hnC, h.e.1])
  have HT := hid ht
  have hl0 := r0.lt
  have HP := hid hp
  have HAL := hid hal
  clear h hr f0 r0 g0 k0 hnG hnA hnC hnF ht hp hag hal
  go_enter Try.func40, Try.ntmps40
  go_wp2_with fail
  rw [← hW0]
  clear hW0
  refine HPR.out.mono ?_
  rintro e w1 ⟨rfl, g1⟩
  rw [show decide (HasP x p) = true from decide_eq_true HP.out]
  have F1 := HF0.out.ch g1 (noB _)
  have R1 := HR0.out.ch g1 (noB _)
  have K1 := (g1.block _ (lt_of_block HK0.out) (noB _)).trans HK0.out
  obtain ⟨c0, c1, c2, c3, c4⟩ := F1.cells
  obtain ⟨z0, z1, z2, z3, z4⟩ := R1.cells
  obtain ⟨zf0, zf1, zf2, zf3, zf4⟩ := R1.fz
  have x0 := cell_of K1 0
  have x1 := cell_of K1 1
  have l1 := F1.lt
  have l2 := R1.lt
  have lk := lt_of_block K1
  have HG1 := hid g1
  clear F1 R1 g1 K1 z0 z1 z2 z3 z4 zf0 zf1 zf2 zf3 zf4
  go_wp2_with fail
  refine (HAV.out w1 HG1.out).mono ?_
  rintro e w2 ⟨rfl, g2⟩
  rw [HAL.out]
  have HG2 := hid (HG1.out.trans' g2)
  have F2 := HF0.out.ch HG2.out (noB _)
  have R2 := HR0.out.ch HG2.out (noB _)
  clear c0 c1 c2 c3 c4 x0 x1 l1 l2 lk g2
  obtain ⟨c0, c1, c2, c3, c4⟩ := F2.cells
  obtain ⟨z0, z1, z2, z3, z4⟩ := R2.cells
  obtain ⟨zf0, zf1, zf2, zf3, zf4⟩ := R2.fz
  have l1 := F2.lt
  have l2 := R2.lt
  clear F2 R2
  go_wp2
  have C5 := (((((Ch.refl (Only (w.heap.size + 1 + 1)) w2).own 0 (.int .i64 L)).own 1 (.slice ga nG gc)).own 2 (.slice aa nA ac)).own 3 (.slice ca nC cc)).own 4 (.slice fa nF fc)
  exact bodyPost_ret (v := .tuple #[.agg #[.int .i64 L, .slice ga nG gc, .slice aa nA ac, .slice ca nC cc, .slice fa nF fc], .int .i64 41]) (by simp [results, Try.results40, go_sem, z0, z1, z2, z3, z4]) rfl ⟨rfl, (HG0.out.trans' HG2.out).trans C5 (fun q e => .inr (by have e1 : q = w.heap.size + 1 + 1 := e; omega))⟩

set_option maxHeartbeats 8000000 in
theorem rgive_good (P : Nat → Prop) (p k : Nat) (gn L : Int) (c : List Int) (vg va vc vf : Value) (cv : List Value) (x : Sl) (w : World) (h : Rd P w vg va vc vf cv x) (ht : x.Fits) (hag : x.G.length = x.A.length) (hc : x.C[p]? = some c) (hG : x.G[k]? = some gn) (hA : x.A[k]? = some true) (hgn : gn ≤ 2147483647) (hcl : c.length + 1 ≤ 64) :
    Calls Try.prog 40 #[.agg #[.int .i64 L, vg, va, vc, vf], .int .i64 (p : Int), .agg #[.int .i64 (k : Int), .int .i64 gn]] w fun e w' => Gave L (giveS x p k gn c) w e w' := by
  obtain ⟨ga, gc, rfl⟩ := h.g.form
  obtain ⟨aa, ac, rfl⟩ := h.a.form
  obtain ⟨ca, cc, rfl⟩ := h.c.form
  obtain ⟨fa, fc, rfl⟩ := h.f.form
  obtain ⟨nG, hnG⟩ : ∃ n, n = (iv x.G).length := ⟨_, rfl⟩
  obtain ⟨nA, hnA⟩ : ∃ n, n = (bv x.A).length := ⟨_, rfl⟩
  obtain ⟨nC, hnC⟩ : ∃ n, n = cv.length := ⟨_, rfl⟩
  obtain ⟨nF, hnF⟩ : ∃ n, n = (iv x.F).length := ⟨_, rfl⟩
  rw [← hnG, ← hnA, ← hnC, ← hnF] at h
  rw [← hnG, ← hnA, ← hnC, ← hnF]
  obtain ⟨W0, hW0⟩ : ∃ W0, W0 = ((w.alloc (.cells #[.int .i64 L, .slice ga nG gc, .slice aa nA ac, .slice ca nC cc, .slice fa nF fc] 45)).alloc (.cells #[.int .i64 (k : Int), .int .i64 gn] 34)).alloc (.cells #[.int .i64 0, .slice none 0 0, .slice none 0 0, .slice none 0 0, .slice none 0 0] 45) := ⟨_, rfl⟩
  have g0 : Ch NoB w W0 := by rw [hW0]; exact (((Ch.refl NoB w).alloc _).alloc _).alloc _
  have f0 : Fv 45 W0 w.heap.size (.int .i64 L) (.slice ga nG gc) (.slice aa nA ac) (.slice ca nC cc) (.slice fa nF fc) := by rw [hW0]; exact ((Fv.new 45 w _ _ _ _ _).alloc _).alloc _
  have k0 : W0.heap[w.heap.size + 1]? = some (.cells #[.int .i64 (k : Int), .int .i64 gn] 34 (0, 0)) := by
    rw [hW0]
    have z := (MapKept.heap_alloc (w.alloc (.cells #[.int .i64 L, .slice ga nG gc, .slice aa nA ac, .slice ca nC cc, .slice fa nF fc] 45)) (.cells #[.int .i64 (k : Int), .int .i64 gn] 34)).1
    rw [World.size_alloc] at z
    exact (Below.heap_alloc _ _ _ (lt_of_block z)).trans z
  have r0 : Fv 45 W0 (w.heap.size + 1 + 1) (.int .i64 0) (.slice none 0 0) (.slice none 0 0) (.slice none 0 0) (.slice none 0 0) := by
    have z := Fv.new 45 ((w.alloc (.cells #[.int .i64 L, .slice ga nG gc, .slice aa nA ac, .slice ca nC cc, .slice fa nF fc] 45)).alloc (.cells #[.int .i64 (k : Int), .int .i64 gn] 34)) (.int .i64 0) (.slice none 0 0) (.slice none 0 0) (.slice none 0 0) (.slice none 0 0)
    rw [World.size_alloc, World.size_alloc] at z
    rw [hW0]
    exact z
  have hr := (h.mono (Q := fun g => g < w.heap.size) (fun g a _ => a)).ch g0 (fun _ _ _ => noB _)
  have HPR := hid (rproc_any _ L (p : Int) _ _ _ _ cv x W0 hr)
  have HAV := hid (fun (W : World) (k1 : Ch NoB W0 W) => ralive_any _ L (k : Int) gn _ _ _ _ cv x W (hr.ch k1 (fun _ _ _ => noB _)) hag)
  have HCP := hid (fun (W : World) (k1 : Ch NoB W0 W) => copy_any L _ _ _ _ cv x _ W (hr.ch k1 (fun _ _ _ => noB _)) ht)
  have HF0 := hid f0
  have HR0 := hid r0
  have HK0 := hid k0
  have HG0 := hid g0
  have HnG := hid hnG
  have HnA := hid hnA
  have HnF := hid hnF
  have HnC := hid (show nC = x.C.length by rw [hnC, h.e.1])
  have HT := hid ht
  have hl0 := r0.lt
  have HC := hid hc
  have HP := hid (show HasP x (p : Int) from ⟨by omega, by have := (List.getElem?_eq_some_iff.1 hc).1; omega⟩)
  have HAL := hid (show aliveB x (k : Int) gn = true by rw [aliveB_in hG hA]; simp)
  have HA := hid hA
  have HCL := hid hcl
  clear h hr f0 r0 g0 k0 hnG hnA hnC hnF ht hc hG hA hag hcl
  go_enter Try.func40, Try.ntmps40
  go_wp2_with fail
  rw [← hW0]
  clear hW0
  refine HPR.out.mono ?_
  rintro e w1 ⟨rfl, g1⟩
  rw [show decide (HasP x (p : Int)) = true from decide_eq_true HP.out]
  have F1 := HF0.out.ch g1 (noB _)
  have K1 := (g1.block _ (lt_of_block HK0.out) (noB _)).trans HK0.out
  obtain ⟨c0, c1, c2, c3, c4⟩ := F1.cells
  have x0 := cell_of K1 0
  have x1 := cell_of K1 1
  have l1 := F1.lt
  have lk := lt_of_block K1
  have HG1a := hid g1
  clear F1 g1 K1
  go_wp2_with fail
  refine (HAV.out w1 HG1a.out).mono ?_
  rintro e w1b ⟨rfl, g1b⟩
  rw [HAL.out]
  have HG1 := hid (HG1a.out.trans' g1b)
  have F1 := HF0.out.ch HG1.out (noB _)
  clear c0 c1 c2 c3 c4 x0 x1 l1 lk g1b
  obtain ⟨c0, c1, c2, c3, c4⟩ := F1.cells
  have l1 := F1.lt
  clear F1
  go_wp2_with fail
  refine (HCP.out w1b HG1.out).mono ?_
  rintro e w2 ⟨vg2, va2, vc2, vf2, cu, rfl, s2, g2⟩
  obtain ⟨a1, q1, rfl⟩ := s2.g.form
  obtain ⟨a2, q2, rfl⟩ := s2.a.form
  obtain ⟨a3, q3, rfl⟩ := s2.c.form
  obtain ⟨a4, q4, rfl⟩ := s2.f.form
  have hcu : cu.length = nC := by rw [s2.cl, HnC.out]
  rw [← HnG.out, ← HnA.out, hcu, ← HnF.out] at s2 ⊢
  have G2 : Ch NoB W0 w2 := HG1.out.trans' g2
  have F2 := HF0.out.ch G2 (noB _)
  have R2 := HR0.out.ch G2 (noB _)
  have K2 := (G2.block _ (lt_of_block HK0.out) (noB _)).trans HK0.out
  have hb1 : w.heap.size + 1 + 1 < w1b.heap.size := Nat.lt_of_lt_of_le hl0 HG1.out.size
  have hb2 := g2.size
  obtain ⟨ag, rfl, hab, hal1, hac, ea, fa', seta⟩ := s2.a.get1 (bv_get HA.out)
  have hkA : k < nA := by rw [HnA.out, bv_length]; exact (List.getElem?_eq_some_iff.1 HA.out).1
  have b1 : (0 : Int) ≤ (k : Int) := by omega
  have b2 : (k : Int) < (nA : Int) := by omega
  have n1 : ¬ (ag = w.heap.size) := by omega
  have n2 : ¬ (w.heap.size = ag) := by omega
  have n3 : ¬ (ag = w.heap.size + 1) := by omega
  have n4 : ¬ (w.heap.size + 1 = ag) := by omega
  have n5 : ¬ (ag = w.heap.size + 1 + 1) := by omega
  have n6 : ¬ (w.heap.size + 1 + 1 = ag) := by omega
  obtain ⟨W3, hW3⟩ : ∃ W, W = ((((w2.setCell ⟨w.heap.size, 0, none⟩ (.int .i64 L)).setCell ⟨w.heap.size, 1, none⟩ (.slice a1 nG q1)).setCell ⟨w.heap.size, 2, none⟩ (.slice (some ⟨ag, 0, none⟩) nA q2)).setCell ⟨w.heap.size, 3, none⟩ (.slice a3 nC q3)).setCell ⟨w.heap.size, 4, none⟩ (.slice a4 nF q4) := ⟨_, rfl⟩
  have C3 : Ch (Only w.heap.size) w2 W3 := by rw [hW3]; exact (((((Ch.refl (Only w.heap.size) w2).own 0 _).own 1 _).own 2 _).own 3 _).own 4 _
  have F3 : Fv 45 W3 w.heap.size (.int .i64 L) (.slice a1 nG q1) (.slice (some ⟨ag, 0, none⟩) nA q2) (.slice a3 nC q3) (.slice a4 nF q4) := by rw [hW3]; exact setCell_block (setCell_block (setCell_block (setCell_block (setCell_block F2 0 _) 1 _) 2 _) 3 _) 4 _
  have s3 := s2.ch C3 (fun q a e => by have := (s2.blk a).1; have e1 : q = w.heap.size := e; omega)
  obtain ⟨W4, hW4⟩ : ∃ W, W = W3.setCell ⟨ag, k, none⟩ (.bool false) := ⟨_, rfl⟩
  have C4 : Ch (Only ag) W3 W4 := by rw [hW4]; exact (Ch.refl _ _).own _ _
  obtain ⟨ag', e', -, -, -, -, -, seta3⟩ := s3.a.get1 (bv_get HA.out)
  cases e'
  have s4 := s3.alive (va' := .slice (some ⟨ag, 0, none⟩) nA q2) (A' := x.A.set k false) (C4.mono (fun q e => .inl (by have e1 : q = ag := e; subst e1; rfl))) (by rw [← bv_set, hW4]; exact seta3 _) (fun q e => .inl e)
  have HS3 := hid (show St w1b.heap.size W4 (.slice a1 nG q1) (.slice (some ⟨ag, 0, none⟩) nA q2) (.slice a3 nC q3) (.slice a4 nF q4) cu (deadS x k) from s4)
  have HF3 := hid (F3.ch C4 n2)
  have HG3 := hid (((HG0.out.trans' G2).trans C3 (fun q e => .inr (by have e1 : q = w.heap.size := e; omega))).trans C4 (fun q e => .inr (by have e1 : q = ag := e; omega)))
  have HR3 := hid ((R2.ch C3 (fun e => by have e1 : w.heap.size + 1 + 1 = w.heap.size := e; omega)).ch C4 n6)
  have HK3 := hid ((C4.block _ (Nat.lt_of_lt_of_le (lt_of_block K2) C3.size) n4).trans ((C3.block _ (lt_of_block K2) (fun e => by have e1 : w.heap.size + 1 = w.heap.size := e; omega)).trans K2))
  have hb3 : w1b.heap.size ≤ W4.heap.size := Nat.le_trans hb2 (Nat.le_trans C3.size C4.size)
  clear c0 c1 c2 c3 c4 l1
  obtain ⟨c0, c1, c2, c3, c4⟩ := F2.cells
  obtain ⟨y0, y1, y2, y3, y4⟩ := F2.fz
  obtain ⟨z0, z1, z2, z3, z4⟩ := R2.cells
  obtain ⟨zf0, zf1, zf2, zf3, zf4⟩ := R2.fz
  have x0 := cell_of K2 0
  have x1 := cell_of K2 1
  have l2 := F2.lt
  have l3 := R2.lt
  have l4 := lt_of_block K2
  clear F2 C3 s2 g2 F3 s3 C4 s4 R2 K2 G2 seta seta3
  by_cases hm : gn = 2147483647
  · have d1 : (gn == 2147483647) = true := by simpa using hm
    have HE := hid (show giveS x p k gn c = deadS x k from if_neg (by omega))
    go_wp2
    rw [← hW3, ← hW4]
    have C7 := (((((Ch.refl (Only (w.heap.size + 1 + 1)) W4).own 0 (.int .i64 L)).own 1 (.slice a1 nG q1)).own 2 (.slice (some ⟨ag, 0, none⟩) nA q2)).own 3 (.slice a3 nC q3)).own 4 (.slice a4 nF q4)
    exact bodyPost_ret (v := .tuple #[.agg #[.int .i64 L, .slice a1 nG q1, .slice (some ⟨ag, 0, none⟩) nA q2, .slice a3 nC q3, .slice a4 nF q4], .int .i64 0]) (by simp [results, Try.results40, go_sem, hW3, hW4, z0, z1, z2, z3, z4]) rfl (Gave.of (by rw [HE.out]; exact (HS3.out.ch C7 (fun q a e => by have := (HS3.out.blk a).1; have e1 : q = w.heap.size + 1 + 1 := e; omega)).lower (by omega)) (HG3.out.trans C7 (fun q e => .inr (by have e1 : q = w.heap.size + 1 + 1 := e; omega))))
  · have d1 : (gn == 2147483647) = false := by simpa using hm
    go_wp2_with fail
    rw [← hW3, ← hW4]
    clear hW3 hW4 c0 c1 c2 c3 c4 y0 y1 y2 y3 y4 z0 z1 z2 z3 z4 zf0 zf1 zf2 zf3 zf4 x0 x1 l2 l3 l4 ea fa'
    have hpc : p < x.C.length := (List.getElem?_eq_some_iff.1 HC.out).1
    have hpn : p < nC := by rw [HnC.out]; exact hpc
    obtain ⟨u, hu⟩ : ∃ u, cu[p]? = some u := ⟨_, List.getElem?_eq_getElem (by rw [hcu]; exact hpn)⟩
    have hou := HS3.out.e p u c hu HC.out
    obtain ⟨ua, uc, rfl⟩ := hou.form
    obtain ⟨nU, hnU⟩ : ∃ n, n = (iv c).length := ⟨_, rfl⟩
    rw [← hnU] at hou hu
    obtain ⟨g1, rfl, hg1b, hg1, hcap1, d0, df, -⟩ := HS3.out.c.get1 hu
    have hucap := hou.len.2
    have b3 : (0 : Int) ≤ (p : Int) := by omega
    have b4 : (p : Int) < (nC : Int) := by omega
    have hne1 : ¬ (w.heap.size = g1) := by omega
    have hne2 : ¬ (g1 = w.heap.size) := by omega
    have hne3 : ¬ (w.heap.size + 1 = g1) := by omega
    have hne4 : ¬ (g1 = w.heap.size + 1) := by omega
    have hne5 : ¬ (w.heap.size + 1 + 1 = g1) := by omega
    have hne6 : ¬ (g1 = w.heap.size + 1 + 1) := by omega
    have HU := hid hu
    have HOU := hid hou
    have HNUc := hid (show nU = c.length by rw [hnU, iv_length])
    have HLen := hid (show nU + 1 = (iv c).length + [Value.int .i64 (k : Int)].length by rw [hnU]; rfl)
    have hU64 : nU + 1 ≤ 64 := by rw [HNUc.out]; exact HCL.out
    have hpl : p < cu.length := by rw [hcu]; exact hpn
    have HPC := hid (show (pushS (deadS x k) p (k : Int) c).C[p]? = some (c ++ [(k : Int)]) from List.getElem?_set_self hpc)
    obtain ⟨c0, c1, c2, c3, c4⟩ := HF3.out.cells
    have l3 := HF3.out.lt
    have x0 := cell_of HK3.out 0
    have xl := lt_of_block HK3.out
    clear hu hou hnU
    by_cases h64 : nU + 1 = 64
    · obtain rfl : nU = 63 := by omega
      have HE := hid (show giveS x p k gn c = spillS (pushS (deadS x k) p (k : Int) c) p 32 (c ++ [(k : Int)]) by rw [giveS, if_pos (by omega), cacheS, if_pos (by rw [← HNUc.out]; omega)])
      refine wp_region_held_drew (S := fun w' => w'.cell? ⟨w.heap.size, 3, none⟩ = some (.slice (some ⟨g1, 0, none⟩) nC q3) ∧ w'.cell? ⟨w.heap.size + 1, 0, none⟩ = some (.int .i64 (k : Int))) (by kernel_rfl) (by exact ⟨c3, x0⟩) (fun _ => ?_)
      refine takeS_on (i := 0) 29 (v := ?v116) rfl rfl (by kernel_rfl) (by kernel_rfl) (by kernel_rfl) (fun _ _ _ h => h) (by kernel_rfl) ?hy116 (by exact ⟨c3, x0⟩) ?_
      case hy116 => (intro w' hSw; go_simp; try (with_reducible rfl))
      simp only [Act.put, List.setIfInBounds_toArray, List.set_cons_zero, List.set_cons_succ]
      refine takeS_on (i := 1) 30 (v := ?v117) rfl rfl (by kernel_rfl) (by kernel_rfl) (by kernel_rfl) (fun _ _ _ h => h) (by kernel_rfl) ?hy117 (by exact ⟨c3, x0⟩) ?_
      case hy117 => (intro w' hSw; go_simp; try (with_reducible rfl))
      simp only [Act.put, List.setIfInBounds_toArray, List.set_cons_zero, List.set_cons_succ]
      refine takeS_on (i := 2) 31 (v := ?v118) rfl rfl (by kernel_rfl) (by kernel_rfl) (by kernel_rfl) (fun _ _ _ h => h) (by kernel_rfl) ?hy118 (by exact ⟨c3, x0⟩) ?_
      case hy118 => (intro w' hSw; go_simp; try (with_reducible rfl))
      simp only [Act.put, List.setIfInBounds_toArray, List.set_cons_zero, List.set_cons_succ]
      refine takeS_on (i := 3) 32 (v := ?v119) rfl rfl (by kernel_rfl) (by kernel_rfl) (by kernel_rfl) (fun _ _ _ h => h) (by kernel_rfl) ?hy119 (by exact ⟨c3, x0⟩) ?_
      case hy119 => (intro w' hSw; go_simp; try (with_reducible rfl))
      simp only [Act.put, List.setIfInBounds_toArray, List.set_cons_zero, List.set_cons_succ]
      refine takeS_on (i := 4) 33 (v := ?v120) rfl rfl (by kernel_rfl) (by kernel_rfl) (by kernel_rfl) (fun _ _ _ h => h) (by kernel_rfl) ?hy120 (by exact ⟨c3, x0⟩) ?_
      case hy120 => (intro w' hSw; go_simp; try (with_reducible rfl))
      simp only [Act.put, List.setIfInBounds_toArray, List.set_cons_zero, List.set_cons_succ]
      refine takeS_on (i := 5) 34 (v := ?v121) rfl rfl (by kernel_rfl) (by kernel_rfl) (by kernel_rfl) (fun _ _ _ h => h) (by kernel_rfl) ?hy121 (by exact ⟨c3, x0⟩) ?_
      case hy121 => (intro w' hSw; go_simp; try (with_reducible rfl))
      simp only [Act.put, List.setIfInBounds_toArray, List.set_cons_zero, List.set_cons_succ]
      refine takeS_on (i := 6) 35 (v := ?v122) rfl rfl (by kernel_rfl) (by kernel_rfl) (by kernel_rfl) (fun _ _ _ h => h) (by kernel_rfl) ?hy122 (by exact ⟨c3, x0⟩) ?_
      case hy122 => (intro w' hSw; go_simp; try (with_reducible rfl))
      simp only [Act.put, List.setIfInBounds_toArray, List.set_cons_zero, List.set_cons_succ]
      refine takeS_on (i := 8) 37 (v := ?v123) rfl rfl (by kernel_rfl) (by kernel_rfl) (by kernel_rfl) (fun _ _ _ h => h) (by kernel_rfl) ?hy123 (by exact ⟨c3, x0⟩) ?_
      case hy123 => (intro w' hSw; go_simp; try (with_reducible rfl))
      simp only [Act.put, List.setIfInBounds_toArray, List.set_cons_zero, List.set_cons_succ]
      refine takeS_on (i := 9) 38 (v := ?v124) rfl rfl (by kernel_rfl) (by kernel_rfl) (by kernel_rfl) (fun _ _ _ h => h) (by kernel_rfl) ?hy124 (by exact ⟨c3, x0⟩) ?_
      case hy124 => (intro w' hSw; go_simp; try (with_reducible rfl))
      simp only [Act.put, List.setIfInBounds_toArray, List.set_cons_zero, List.set_cons_succ]
      refine wpAnyH_ready (rs := [7, 10]) (by kernel_rfl) (by simp) (AllReadyH.cons rfl (fun K hK => ?_) (AllReadyH.cons rfl (fun K hK => ?_) AllReadyH.nil))
      · go_simp
        refine hK.out _ _ (by exact ⟨c3, x0⟩) (fun _ => ?_)
        clear hK K
        refine wpAnyH_ready (rs := [10]) (by kernel_rfl) (by simp) (AllReadyH.cons rfl (fun K hK => ?_) AllReadyH.nil)
        go_simp
        have g8 : Ch NoB W4 (W4.alloc (.cells #[.int .i64 (k : Int)] 3)) := (Ch.refl NoB W4).alloc _
        have e83 := (g8.cell (o := 3) l3 (noB _)).trans c3
        have e80 := (g8.cell (o := 0) xl (noB _)).trans x0
        refine hK.out _ _ (by exact ⟨e83, e80⟩) (fun _ => ?_)
        clear hK K
        refine wpAnyH_ready (rs := [11]) (by kernel_rfl) (by simp) (AllReadyH.cons rfl (fun K hK => ?_) AllReadyH.nil)
        refine step_append_ow rfl (.tmp 36) (.tmp 39) 41 3 8 (.int .i64 0) Try.underlying41 int_info rfl rfl w1b.heap.size (.slice ua 63 uc) (iv c) (by simp [Act.eval]) (HOU.out.drew.alloc _) _ _ [.int .i64 (k : Int)] (by simp [Act.eval]) (ls_int _ _ _) (fun u hu => by rw [List.mem_singleton.1 hu]; rfl) 64 HLen.out (by omega) (by unfold maxLen; omega) (Nat.le_trans hb3 g8.size) (iv (c ++ [(k : Int)])) (by rw [iv_append]; rfl) ?_
        intro ao2 cap2 w5 o5 g5' bl5
        have G5 : Ch (Blk (.slice ua 63 uc)) W4 w5 := ((g8.mono (T := Blk (.slice ua 63 uc)) (fun q e => e.elim)).drew).trans' g5'
        have F5 := HF3.out.ch G5 (fun e => by have := (HOU.out.blk e).1; omega)
        obtain ⟨e0, e1, e2, e3, e4⟩ := F5.cells
        have x5 := (G5.cell (o := 0) xl (fun e => by have := (HOU.out.blk e).1; omega)).trans x0
        obtain ⟨g', e', -, hg5, -, d5, df5, -⟩ := (HS3.out.c.ch G5 (fun q a e => HS3.out.ec p _ HU.out q e a)).get1 HU.out
        cases e'
        have B5 : ∀ q, Blk (.slice ao2 64 cap2) q → Blk (.slice ua 63 uc) q ∨ W4.heap.size ≤ q := fun q e => (bl5 q e).imp id (fun e => Nat.le_trans g8.size e)
        refine hK.out _ _ (by exact ⟨e3, x5⟩) (fun _ => ?_)
        change wpAnyH _ _ _ _ _ _ _ (Act.put _ (some 40) _) _
        simp only [Act.put, List.setIfInBounds_toArray, List.set_cons_zero, List.set_cons_succ]
        clear hK K
        refine takeS_on (i := 12) 41 (v := ?v125) rfl rfl (by kernel_rfl) (by kernel_rfl) (by kernel_rfl) (fun _ _ _ h => h) (by kernel_rfl) ?hy125 (by exact ⟨e3, x5⟩) ?_
        case hy125 => (intro w' hSw; go_simp; try (with_reducible rfl))
        simp only [Act.put, List.setIfInBounds_toArray, List.set_cons_zero, List.set_cons_succ]
        refine wpAnyH_ready (rs := [13]) (by kernel_rfl) (by simp) (AllReadyH.cons rfl (fun K hK => ?_) AllReadyH.nil)
        go_simp
        have s6 := HS3.out.cache HU.out G5 o5 B5
        obtain ⟨W6, hW6⟩ : ∃ W, W = w5.setCell ⟨g1, p, none⟩ (.slice ao2 64 cap2) := ⟨_, rfl⟩
        have C6 : Ch (Only g1) w5 W6 := by rw [hW6]; exact (Ch.refl _ _).own _ _
        have F6 := F5.ch C6 hne1
        have h6 := (C6.cell (o := 3) F5.lt hne1).trans e3
        have x6 := (C6.cell (o := 0) (Nat.lt_of_lt_of_le xl G5.size) hne3).trans x5
        rw [← hW6] at s6 ⊢
        have HS6 := hid s6
        have HF6 := hid F6
        have HG6 := hid ((HG3.out.trans G5 (fun q e => .inr (by have := (HOU.out.blk e).1; omega))).trans C6 (fun q e => .inr (by have e1 : q = g1 := e; omega)))
        have HR6 := hid ((HR3.out.ch G5 (fun e => by have := (HOU.out.blk e).1; omega)).ch C6 hne5)
        have HUN := hid (show (cu.set p (.slice ao2 64 cap2))[p]? = some (.slice ao2 64 cap2) from List.getElem?_set_self hpl)
        have hb6 : w1b.heap.size ≤ W6.heap.size := Nat.le_trans hb3 (Nat.le_trans G5.size C6.size)
        clear hW6 s6 F6 C6 c0 c1 c2 c3 c4 e0 e1 e2 e3 e4 d0 df d5 df5 x0 x5 o5 g5' bl5 G5 F5 B5 g8 e83 e80
        refine hK.out _ _ (by exact ⟨h6, x6⟩) (fun _ => ?_)
        clear hK K
        refine wpAnyH_done (by kernel_rfl) ?_ _
        obtain ⟨c0, c1, c2, c3, c4⟩ := HF6.out.cells
        have l6 := HF6.out.lt
        obtain ⟨g', e', -, hg6, -, d0, df, -⟩ := HS6.out.c.get1 HUN.out
        cases e'
        go_wp2_with fail
        have HO6 := hid (HS6.out.e p _ _ HUN.out HPC.out)
        have hc64 := HO6.out.len
        obtain ⟨gu, eu⟩ : ∃ gu, ao2 = some ⟨gu, 0, none⟩ := by
          obtain ⟨gu, eu, -⟩ := HO6.out.get1 (iv_get (show (c ++ [(k : Int)])[0]? = some ((c ++ [(k : Int)])[0]'(by simp)) from List.getElem?_eq_getElem _))
          exact ⟨gu, eu⟩
        subst eu
        have HT32 := hid (HO6.out.take (n := 32) (by omega)).lstB
        have hnFl : nF ≤ 4294967296 := by rw [HnF.out, iv_length]; exact HT.out.f
        have HLen2 := hid (show nF + 32 = (iv x.F).length + ((iv (c ++ [(k : Int)])).take 32).length by rw [List.length_take, ← HnF.out, ← hc64.1]; rfl)
        have r1 : (32 : Int) ≤ (cap2 : Int) := by omega
        have r2 : (64 : Int) ≤ (cap2 : Int) := by omega
        have r3 : ¬ (cap2 = 32) := by omega
        have r4 : ¬ (32 = cap2) := by omega
        clear hc64
        refine wp_region_held_drew (S := fun w' => w'.cell? ⟨w.heap.size, 3, none⟩ = some (.slice (some ⟨g1, 0, none⟩) nC q3) ∧ w'.cell? ⟨g1, p, none⟩ = some (.slice (some ⟨gu, 0, none⟩) 64 cap2)) (by kernel_rfl) (by exact ⟨c3, d0⟩) (fun _ => ?_)
        refine takeS_on (i := 0) 49 (v := ?v126) rfl rfl (by kernel_rfl) (by kernel_rfl) (by kernel_rfl) (fun _ _ _ h => h) (by kernel_rfl) ?hy126 (by exact ⟨c3, d0⟩) ?_
        case hy126 => (intro w' hSw; go_simp; try (with_reducible rfl))
        simp only [Act.put, List.setIfInBounds_toArray, List.set_cons_zero, List.set_cons_succ]
        refine takeS_on (i := 2) 51 (v := ?v127) rfl rfl (by kernel_rfl) (by kernel_rfl) (by kernel_rfl) (fun _ _ _ h => h) (by kernel_rfl) ?hy127 (by exact ⟨c3, d0⟩) ?_
        case hy127 => (intro w' hSw; go_simp; try (with_reducible rfl))
        simp only [Act.put, List.setIfInBounds_toArray, List.set_cons_zero, List.set_cons_succ]
        refine takeS_on (i := 3) 52 (v := ?v128) rfl rfl (by kernel_rfl) (by kernel_rfl) (by kernel_rfl) (fun _ _ _ h => h) (by kernel_rfl) ?hy128 (by exact ⟨c3, d0⟩) ?_
        case hy128 => (intro w' hSw; go_simp; try (with_reducible rfl))
        simp only [Act.put, List.setIfInBounds_toArray, List.set_cons_zero, List.set_cons_succ]
        refine takeS_on (i := 4) 53 (v := ?v129) rfl rfl (by kernel_rfl) (by kernel_rfl) (by kernel_rfl) (fun _ _ _ h => h) (by kernel_rfl) ?hy129 (by exact ⟨c3, d0⟩) ?_
        case hy129 => (intro w' hSw; go_simp; try (with_reducible rfl))
        simp only [Act.put, List.setIfInBounds_toArray, List.set_cons_zero, List.set_cons_succ]
        refine takeS_on (i := 5) 54 (v := ?v130) rfl rfl (by kernel_rfl) (by kernel_rfl) (by kernel_rfl) (fun _ _ _ h => h) (by kernel_rfl) ?hy130 (by exact ⟨c3, d0⟩) ?_
        case hy130 => (intro w' hSw; go_simp; try (with_reducible rfl))
        simp only [Act.put, List.setIfInBounds_toArray, List.set_cons_zero, List.set_cons_succ]
        refine takeS_on (i := 6) 55 (v := ?v131) rfl rfl (by kernel_rfl) (by kernel_rfl) (by kernel_rfl) (fun _ _ _ h => h) (by kernel_rfl) ?hy131 (by exact ⟨c3, d0⟩) ?_
        case hy131 => (intro w' hSw; go_simp; try (with_reducible rfl))
        simp only [Act.put, List.setIfInBounds_toArray, List.set_cons_zero, List.set_cons_succ]
        refine takeS_on (i := 7) 56 (v := ?v132) rfl rfl (by kernel_rfl) (by kernel_rfl) (by kernel_rfl) (fun _ _ _ h => h) (by kernel_rfl) ?hy132 (by exact ⟨c3, d0⟩) ?_
        case hy132 => (intro w' hSw; go_simp; try (with_reducible rfl))
        simp only [Act.put, List.setIfInBounds_toArray, List.set_cons_zero, List.set_cons_succ]
        refine wpAnyH_ready (rs := [1]) (by kernel_rfl) (by simp) (AllReadyH.cons rfl (fun K hK => ?_) AllReadyH.nil)
        go_simp
        refine hK.out _ _ (by exact ⟨c3, d0⟩) (fun _ => ?_)
        clear hK K
        refine wpAnyH_ready (rs := [8]) (by kernel_rfl) (by simp) (AllReadyH.cons rfl (fun K hK => ?_) AllReadyH.nil)
        refine step_append_ow rfl (.tmp 50) (.tmp 56) 41 3 8 (.int .i64 0) Try.underlying41 int_info rfl rfl w1b.heap.size (.slice a4 nF q4) (iv x.F) (by simp [Act.eval]) HS6.out.f.drew _ (.slice (some ⟨gu, 0, none⟩) 32 cap2) ((iv (c ++ [(k : Int)])).take 32) (by simp [Act.eval]) HT32.out.drew (by rw [iv_take]; exact iv_one _) (nF + 32) HLen2.out (by omega) (by unfold maxLen; omega) (by simpa using hb6) (iv (x.F ++ (c ++ [(k : Int)]).take 32)) (by rw [iv_take, ← iv_append]) ?_
        intro ao3 cap3 w7 o7 g7' bl7
        have G7 := ((Ch.refl (Blk (.slice a4 nF q4)) W6).drew).trans' g7'
        have F7 := HF6.out.ch G7 (fun e => by have := (HS6.out.f.blk e).1; omega)
        obtain ⟨e0, e1, e2, e3, e4⟩ := F7.cells
        obtain ⟨z0, z1, z2, z3, z4⟩ := F7.fz
        have l7 := F7.lt
        have d7 := (G7.cell (o := p) hg6 (HS6.out.cf g1 rfl)).trans d0
        have s7 := HS6.out.free G7 o7 (fun q e => bl7 q e)
        have HS7 := hid s7
        have HG7 := hid G7
        have HF7 := hid F7
        clear o7 g7' bl7 G7 F7 s7
        refine hK.out _ _ (by exact ⟨e3, d7⟩) (fun _ => ?_)
        change wpAnyH _ _ _ _ _ _ _ (Act.put _ (some 57) _) _
        simp only [Act.put, List.setIfInBounds_toArray, List.set_cons_zero, List.set_cons_succ]
        clear hK K
        refine takeS_on (i := 9) 58 (v := ?v133) rfl rfl (by kernel_rfl) (by kernel_rfl) (by kernel_rfl) (fun _ _ _ h => h) (by kernel_rfl) ?hy133 (by exact ⟨e3, d7⟩) ?_
        case hy133 => (intro w' hSw; go_simp; try (with_reducible rfl))
        simp only [Act.put, List.setIfInBounds_toArray, List.set_cons_zero, List.set_cons_succ]
        refine wpAnyH_ready (rs := [10]) (by kernel_rfl) (by simp) (AllReadyH.cons rfl (fun K hK => ?_) AllReadyH.nil)
        go_simp
        obtain ⟨W8, hW8⟩ : ∃ W, W = w7.setCell ⟨w.heap.size, 4, none⟩ (.slice ao3 (nF + 32) cap3) := ⟨_, rfl⟩
        have C8 : Ch (Only w.heap.size) w7 W8 := by rw [hW8]; exact (Ch.refl _ _).own _ _
        have F8 : Fv 45 W8 w.heap.size (.int .i64 L) (.slice a1 nG q1) (.slice (some ⟨ag, 0, none⟩) nA q2) (.slice (some ⟨g1, 0, none⟩) nC q3) (.slice ao3 (nF + 32) cap3) := by rw [hW8]; exact setCell_block HF7.out 4 _
        have s8 := HS7.out.ch C8 (fun q a e => by have := (HS7.out.blk a).1; have e1 : q = w.heap.size := e; omega)
        rw [← hW8]
        clear hW8 c0 c1 c2 c3 c4 d0 df e0 e1 e2 e3 e4 z0 z1 z2 z3 z4 d7
        obtain ⟨c0, c1, c2, c3, c4⟩ := F8.cells
        obtain ⟨g', e', -, hg8, -, d0, df, -⟩ := s8.c.get1 HUN.out
        cases e'
        have l8 := F8.lt
        have HR8 := hid ((HR6.out.ch HG7.out (fun e => by have := (HS6.out.f.blk e).1; omega)).ch C8 (fun e => by have e1 : w.heap.size + 1 + 1 = w.heap.size := e; omega))
        have HG8 := hid ((HG6.out.trans HG7.out (fun q e => .inr (by have := (HS6.out.f.blk e).1; omega))).trans C8 (fun q e => .inr (by have e1 : q = w.heap.size := e; omega)))
        have hb8 : w1b.heap.size ≤ W8.heap.size := Nat.le_trans hb6 (Nat.le_trans HG7.out.size C8.size)
        have HS8 := hid s8
        have HF8 := hid F8
        have hld := (HS8.out.e p _ _ HUN.out HPC.out).drop32 (by rw [iv_length, List.length_append, ← HNUc.out]; rfl)
        rw [iv_drop] at hld
        have HLD := hid hld
        clear hld
        have HIN := hid (fun (W : World) (k1 : Ch NoB W8 W) => ints_any _ _ ((c ++ [(k : Int)]).drop 32) W (HLD.out.ch k1 (fun _ _ _ => noB _)) (by rw [List.length_drop, List.length_append, ← HNUc.out]; simp))
        clear s8 F8 C8
        refine hK.out _ _ (by exact ⟨c3, d0⟩) (fun _ => ?_)
        clear hK K
        refine wpAnyH_done (by kernel_rfl) ?_ _
        go_wp2_with fail
        refine wp_region_held_drew (S := fun w' => w'.cell? ⟨w.heap.size, 3, none⟩ = some (.slice (some ⟨g1, 0, none⟩) nC q3)) (by kernel_rfl) (by exact c3) (fun _ => ?_)
        refine takeS_on (i := 0) 59 (v := ?v134) rfl rfl (by kernel_rfl) (by kernel_rfl) (by kernel_rfl) (fun _ _ _ h => h) (by kernel_rfl) ?hy134 (by exact c3) ?_
        case hy134 => (intro w' hSw; go_simp; try (with_reducible rfl))
        simp only [Act.put, List.setIfInBounds_toArray, List.set_cons_zero, List.set_cons_succ]
        refine takeS_on (i := 1) 60 (v := ?v135) rfl rfl (by kernel_rfl) (by kernel_rfl) (by kernel_rfl) (fun _ _ _ h => h) (by kernel_rfl) ?hy135 (by exact c3) ?_
        case hy135 => (intro w' hSw; go_simp; try (with_reducible rfl))
        simp only [Act.put, List.setIfInBounds_toArray, List.set_cons_zero, List.set_cons_succ]
        refine takeS_on (i := 2) 61 (v := ?v136) rfl rfl (by kernel_rfl) (by kernel_rfl) (by kernel_rfl) (fun _ _ _ h => h) (by kernel_rfl) ?hy136 (by exact c3) ?_
        case hy136 => (intro w' hSw; go_simp; try (with_reducible rfl))
        simp only [Act.put, List.setIfInBounds_toArray, List.set_cons_zero, List.set_cons_succ]
        refine takeS_on (i := 3) 62 (v := ?v137) rfl rfl (by kernel_rfl) (by kernel_rfl) (by kernel_rfl) (fun _ _ _ h => h) (by kernel_rfl) ?hy137 (by exact c3) ?_
        case hy137 => (intro w' hSw; go_simp; try (with_reducible rfl))
        simp only [Act.put, List.setIfInBounds_toArray, List.set_cons_zero, List.set_cons_succ]
        refine takeS_on (i := 4) 63 (v := ?v138) rfl rfl (by kernel_rfl) (by kernel_rfl) (by kernel_rfl) (fun _ _ _ h => h) (by kernel_rfl) ?hy138 (by exact c3) ?_
        case hy138 => (intro w' hSw; go_simp; try (with_reducible rfl))
        simp only [Act.put, List.setIfInBounds_toArray, List.set_cons_zero, List.set_cons_succ]
        refine takeS_on (i := 5) 64 (v := ?v139) rfl rfl (by kernel_rfl) (by kernel_rfl) (by kernel_rfl) (fun _ _ _ h => h) (by kernel_rfl) ?hy139 (by exact c3) ?_
        case hy139 => (intro w' hSw; go_simp; try (with_reducible rfl))
        simp only [Act.put, List.setIfInBounds_toArray, List.set_cons_zero, List.set_cons_succ]
        refine takeS_on (i := 6) 65 (v := ?v140) rfl rfl (by kernel_rfl) (by kernel_rfl) (by kernel_rfl) (fun _ _ _ h => h) (by kernel_rfl) ?hy140 (by exact c3) ?_
        case hy140 => (intro w' hSw; go_simp; try (with_reducible rfl))
        simp only [Act.put, List.setIfInBounds_toArray, List.set_cons_zero, List.set_cons_succ]
        refine wpAnyH_ready (rs := [7]) (by kernel_rfl) (by simp) (AllReadyH.cons rfl (fun K hK => ?_) AllReadyH.nil)
        go_simp
        refine hK.out _ _ (by exact c3) (fun _ => ?_)
        clear hK K
        refine takeS_on (i := 8) 67 (v := ?v141) rfl rfl (by kernel_rfl) (by kernel_rfl) (by kernel_rfl) (fun _ _ _ h => h) (by kernel_rfl) ?hy141 (by exact c3) ?_
        case hy141 => (intro w' hSw; go_simp; try (with_reducible rfl))
        simp only [Act.put, List.setIfInBounds_toArray, List.set_cons_zero, List.set_cons_succ]
        refine wpAnyH_ready (rs := [9]) (by kernel_rfl) (by simp) (AllReadyH.cons rfl (fun K hK => ?_) AllReadyH.nil)
        go_simp
        refine (HIN.out _ ((Ch.refl NoB W8).drew)).mono ?_
        rintro e w9 ⟨v9, rfl, o9, g9'⟩
        obtain ⟨a9, q9, rfl⟩ := o9.form
        have g9 : Ch NoB W8 w9 := ((Ch.refl NoB W8).drew).trans' g9'
        have F9 := HF8.out.ch g9 (noB _)
        obtain ⟨e0, e1, e2, e3, e4⟩ := F9.cells
        have l9k := F9.lt
        obtain ⟨g', e', -, hg9, -, d9, df9, -⟩ := (HS8.out.c.ch g9 (fun _ _ => noB _)).get1 HUN.out
        cases e'
        refine hK.out _ _ (by exact e3) (fun _ => ?_)
        clear hK K
        refine takeS_on (i := 10) 69 (v := ?v142) rfl rfl (by kernel_rfl) (by kernel_rfl) (by kernel_rfl) (fun _ _ _ h => h) (by kernel_rfl) ?hy142 (by exact e3) ?_
        case hy142 => (intro w' hSw; go_simp; try (with_reducible rfl))
        simp only [Act.put, List.setIfInBounds_toArray, List.set_cons_zero, List.set_cons_succ]
        refine wpAnyH_ready (rs := [11]) (by kernel_rfl) (by simp) (AllReadyH.cons rfl (fun K hK => ?_) AllReadyH.nil)
        go_simp
        have s10 := HS8.out.cache (c' := (c ++ [(k : Int)]).drop 32) HUN.out (g9.mono (fun q e => e.elim)) (o9.lower hb8) (fun q e => .inr (o9.blk e).1)
        obtain ⟨W10, hW10⟩ : ∃ W, W = w9.setCell ⟨g1, p, none⟩ (.slice a9 (iv ((c ++ [(k : Int)]).drop 32)).length q9) := ⟨_, rfl⟩
        have C10 : Ch (Only g1) w9 W10 := by rw [hW10]; exact (Ch.refl _ _).own _ _
        have F10 := F9.ch C10 hne1
        have h10 := (C10.cell (o := 3) F9.lt hne1).trans e3
        rw [← hW10] at s10 ⊢
        have HS10 := hid s10
        have HF10 := hid F10
        have HG10 := hid ((HG8.out.trans g9 (fun q e => e.elim)).trans C10 (fun q e => .inr (by have e1 : q = g1 := e; omega)))
        have HR10 := hid ((HR8.out.ch g9 (noB _)).ch C10 hne5)
        clear hW10 s10 F10 C10 c0 c1 c2 c3 c4 e0 e1 e2 e3 e4 d0 df d9 df9 o9 g9 g9' F9
        refine hK.out _ _ (by exact h10) (fun _ => ?_)
        clear hK K
        refine wpAnyH_done (by kernel_rfl) ?_ _
        obtain ⟨c0, c1, c2, c3, c4⟩ := HF10.out.cells
        have l10 := HF10.out.lt
        obtain ⟨z0, z1, z2, z3, z4⟩ := HR10.out.cells
        obtain ⟨zf0, zf1, zf2, zf3, zf4⟩ := HR10.out.fz
        have zl := HR10.out.lt
        go_wp2
        have C7 := (((((Ch.refl (Only (w.heap.size + 1 + 1)) W10).own 0 (.int .i64 L)).own 1 (.slice a1 nG q1)).own 2 (.slice (some ⟨ag, 0, none⟩) nA q2)).own 3 (.slice (some ⟨g1, 0, none⟩) nC q3)).own 4 (.slice ao3 (nF + 32) cap3)
        exact bodyPost_ret (v := .tuple #[.agg #[.int .i64 L, .slice a1 nG q1, .slice (some ⟨ag, 0, none⟩) nA q2, .slice (some ⟨g1, 0, none⟩) nC q3, .slice ao3 (nF + 32) cap3], .int .i64 0]) (by simp [results, Try.results40, go_sem, z0, z1, z2, z3, z4]) rfl (Gave.of (by rw [HE.out]; exact (HS10.out.ch C7 (fun q a e => by have := (HS10.out.blk a).1; have e1 : q = w.heap.size + 1 + 1 := e; omega)).lower (by omega)) (HG10.out.trans C7 (fun q e => .inr (by have e1 : q = w.heap.size + 1 + 1 := e; omega))))
      · go_simp
        have g8 : Ch NoB W4 (W4.alloc (.cells #[.int .i64 (k : Int)] 3)) := (Ch.refl NoB W4).alloc _
        have e83 := (g8.cell (o := 3) l3 (noB _)).trans c3
        have e80 := (g8.cell (o := 0) xl (noB _)).trans x0
        refine hK.out _ _ (by exact ⟨e83, e80⟩) (fun _ => ?_)
        clear hK K
        refine wpAnyH_ready (rs := [7]) (by kernel_rfl) (by simp) (AllReadyH.cons rfl (fun K hK => ?_) AllReadyH.nil)
        go_simp
        refine hK.out _ _ (by exact ⟨e83, e80⟩) (fun _ => ?_)
        clear hK K
        refine wpAnyH_ready (rs := [11]) (by kernel_rfl) (by simp) (AllReadyH.cons rfl (fun K hK => ?_) AllReadyH.nil)
        refine step_append_ow rfl (.tmp 36) (.tmp 39) 41 3 8 (.int .i64 0) Try.underlying41 int_info rfl rfl w1b.heap.size (.slice ua 63 uc) (iv c) (by simp [Act.eval]) (HOU.out.drew.alloc _) _ _ [.int .i64 (k : Int)] (by simp [Act.eval]) (ls_int _ _ _) (fun u hu => by rw [List.mem_singleton.1 hu]; rfl) 64 HLen.out (by omega) (by unfold maxLen; omega) (Nat.le_trans hb3 g8.size) (iv (c ++ [(k : Int)])) (by rw [iv_append]; rfl) ?_
        intro ao2 cap2 w5 o5 g5' bl5
        have G5 : Ch (Blk (.slice ua 63 uc)) W4 w5 := ((g8.mono (T := Blk (.slice ua 63 uc)) (fun q e => e.elim)).drew).trans' g5'
        have F5 := HF3.out.ch G5 (fun e => by have := (HOU.out.blk e).1; omega)
        obtain ⟨e0, e1, e2, e3, e4⟩ := F5.cells
        have x5 := (G5.cell (o := 0) xl (fun e => by have := (HOU.out.blk e).1; omega)).trans x0
        obtain ⟨g', e', -, hg5, -, d5, df5, -⟩ := (HS3.out.c.ch G5 (fun q a e => HS3.out.ec p _ HU.out q e a)).get1 HU.out
        cases e'
        have B5 : ∀ q, Blk (.slice ao2 64 cap2) q → Blk (.slice ua 63 uc) q ∨ W4.heap.size ≤ q := fun q e => (bl5 q e).imp id (fun e => Nat.le_trans g8.size e)
        refine hK.out _ _ (by exact ⟨e3, x5⟩) (fun _ => ?_)
        change wpAnyH _ _ _ _ _ _ _ (Act.put _ (some 40) _) _
        simp only [Act.put, List.setIfInBounds_toArray, List.set_cons_zero, List.set_cons_succ]
        clear hK K
        refine takeS_on (i := 12) 41 (v := ?v143) rfl rfl (by kernel_rfl) (by kernel_rfl) (by kernel_rfl) (fun _ _ _ h => h) (by kernel_rfl) ?hy143 (by exact ⟨e3, x5⟩) ?_
        case hy143 => (intro w' hSw; go_simp; try (with_reducible rfl))
        simp only [Act.put, List.setIfInBounds_toArray, List.set_cons_zero, List.set_cons_succ]
        refine wpAnyH_ready (rs := [13]) (by kernel_rfl) (by simp) (AllReadyH.cons rfl (fun K hK => ?_) AllReadyH.nil)
        go_simp
        have s6 := HS3.out.cache HU.out G5 o5 B5
        obtain ⟨W6, hW6⟩ : ∃ W, W = w5.setCell ⟨g1, p, none⟩ (.slice ao2 64 cap2) := ⟨_, rfl⟩
        have C6 : Ch (Only g1) w5 W6 := by rw [hW6]; exact (Ch.refl _ _).own _ _
        have F6 := F5.ch C6 hne1
        have h6 := (C6.cell (o := 3) F5.lt hne1).trans e3
        have x6 := (C6.cell (o := 0) (Nat.lt_of_lt_of_le xl G5.size) hne3).trans x5
        rw [← hW6] at s6 ⊢
        have HS6 := hid s6
        have HF6 := hid F6
        have HG6 := hid ((HG3.out.trans G5 (fun q e => .inr (by have := (HOU.out.blk e).1; omega))).trans C6 (fun q e => .inr (by have e1 : q = g1 := e; omega)))
        have HR6 := hid ((HR3.out.ch G5 (fun e => by have := (HOU.out.blk e).1; omega)).ch C6 hne5)
        have HUN := hid (show (cu.set p (.slice ao2 64 cap2))[p]? = some (.slice ao2 64 cap2) from List.getElem?_set_self hpl)
        have hb6 : w1b.heap.size ≤ W6.heap.size := Nat.le_trans hb3 (Nat.le_trans G5.size C6.size)
        clear hW6 s6 F6 C6 c0 c1 c2 c3 c4 e0 e1 e2 e3 e4 d0 df d5 df5 x0 x5 o5 g5' bl5 G5 F5 B5 g8 e83 e80
        refine hK.out _ _ (by exact ⟨h6, x6⟩) (fun _ => ?_)
        clear hK K
        refine wpAnyH_done (by kernel_rfl) ?_ _
        obtain ⟨c0, c1, c2, c3, c4⟩ := HF6.out.cells
        have l6 := HF6.out.lt
        obtain ⟨g', e', -, hg6, -, d0, df, -⟩ := HS6.out.c.get1 HUN.out
        cases e'
        go_wp2_with fail
        have HO6 := hid (HS6.out.e p _ _ HUN.out HPC.out)
        have hc64 := HO6.out.len
        obtain ⟨gu, eu⟩ : ∃ gu, ao2 = some ⟨gu, 0, none⟩ := by
          obtain ⟨gu, eu, -⟩ := HO6.out.get1 (iv_get (show (c ++ [(k : Int)])[0]? = some ((c ++ [(k : Int)])[0]'(by simp)) from List.getElem?_eq_getElem _))
          exact ⟨gu, eu⟩
        subst eu
        have HT32 := hid (HO6.out.take (n := 32) (by omega)).lstB
        have hnFl : nF ≤ 4294967296 := by rw [HnF.out, iv_length]; exact HT.out.f
        have HLen2 := hid (show nF + 32 = (iv x.F).length + ((iv (c ++ [(k : Int)])).take 32).length by rw [List.length_take, ← HnF.out, ← hc64.1]; rfl)
        have r1 : (32 : Int) ≤ (cap2 : Int) := by omega
        have r2 : (64 : Int) ≤ (cap2 : Int) := by omega
        have r3 : ¬ (cap2 = 32) := by omega
        have r4 : ¬ (32 = cap2) := by omega
        clear hc64
        refine wp_region_held_drew (S := fun w' => w'.cell? ⟨w.heap.size, 3, none⟩ = some (.slice (some ⟨g1, 0, none⟩) nC q3) ∧ w'.cell? ⟨g1, p, none⟩ = some (.slice (some ⟨gu, 0, none⟩) 64 cap2)) (by kernel_rfl) (by exact ⟨c3, d0⟩) (fun _ => ?_)
        refine takeS_on (i := 0) 49 (v := ?v144) rfl rfl (by kernel_rfl) (by kernel_rfl) (by kernel_rfl) (fun _ _ _ h => h) (by kernel_rfl) ?hy144 (by exact ⟨c3, d0⟩) ?_
        case hy144 => (intro w' hSw; go_simp; try (with_reducible rfl))
        simp only [Act.put, List.setIfInBounds_toArray, List.set_cons_zero, List.set_cons_succ]
        refine takeS_on (i := 2) 51 (v := ?v145) rfl rfl (by kernel_rfl) (by kernel_rfl) (by kernel_rfl) (fun _ _ _ h => h) (by kernel_rfl) ?hy145 (by exact ⟨c3, d0⟩) ?_
        case hy145 => (intro w' hSw; go_simp; try (with_reducible rfl))
        simp only [Act.put, List.setIfInBounds_toArray, List.set_cons_zero, List.set_cons_succ]
        refine takeS_on (i := 3) 52 (v := ?v146) rfl rfl (by kernel_rfl) (by kernel_rfl) (by kernel_rfl) (fun _ _ _ h => h) (by kernel_rfl) ?hy146 (by exact ⟨c3, d0⟩) ?_
        case hy146 => (intro w' hSw; go_simp; try (with_reducible rfl))
        simp only [Act.put, List.setIfInBounds_toArray, List.set_cons_zero, List.set_cons_succ]
        refine takeS_on (i := 4) 53 (v := ?v147) rfl rfl (by kernel_rfl) (by kernel_rfl) (by kernel_rfl) (fun _ _ _ h => h) (by kernel_rfl) ?hy147 (by exact ⟨c3, d0⟩) ?_
        case hy147 => (intro w' hSw; go_simp; try (with_reducible rfl))
        simp only [Act.put, List.setIfInBounds_toArray, List.set_cons_zero, List.set_cons_succ]
        refine takeS_on (i := 5) 54 (v := ?v148) rfl rfl (by kernel_rfl) (by kernel_rfl) (by kernel_rfl) (fun _ _ _ h => h) (by kernel_rfl) ?hy148 (by exact ⟨c3, d0⟩) ?_
        case hy148 => (intro w' hSw; go_simp; try (with_reducible rfl))
        simp only [Act.put, List.setIfInBounds_toArray, List.set_cons_zero, List.set_cons_succ]
        refine takeS_on (i := 6) 55 (v := ?v149) rfl rfl (by kernel_rfl) (by kernel_rfl) (by kernel_rfl) (fun _ _ _ h => h) (by kernel_rfl) ?hy149 (by exact ⟨c3, d0⟩) ?_
        case hy149 => (intro w' hSw; go_simp; try (with_reducible rfl))
        simp only [Act.put, List.setIfInBounds_toArray, List.set_cons_zero, List.set_cons_succ]
        refine takeS_on (i := 7) 56 (v := ?v150) rfl rfl (by kernel_rfl) (by kernel_rfl) (by kernel_rfl) (fun _ _ _ h => h) (by kernel_rfl) ?hy150 (by exact ⟨c3, d0⟩) ?_
        case hy150 => (intro w' hSw; go_simp; try (with_reducible rfl))
        simp only [Act.put, List.setIfInBounds_toArray, List.set_cons_zero, List.set_cons_succ]
        refine wpAnyH_ready (rs := [1]) (by kernel_rfl) (by simp) (AllReadyH.cons rfl (fun K hK => ?_) AllReadyH.nil)
        go_simp
        refine hK.out _ _ (by exact ⟨c3, d0⟩) (fun _ => ?_)
        clear hK K
        refine wpAnyH_ready (rs := [8]) (by kernel_rfl) (by simp) (AllReadyH.cons rfl (fun K hK => ?_) AllReadyH.nil)
        refine step_append_ow rfl (.tmp 50) (.tmp 56) 41 3 8 (.int .i64 0) Try.underlying41 int_info rfl rfl w1b.heap.size (.slice a4 nF q4) (iv x.F) (by simp [Act.eval]) HS6.out.f.drew _ (.slice (some ⟨gu, 0, none⟩) 32 cap2) ((iv (c ++ [(k : Int)])).take 32) (by simp [Act.eval]) HT32.out.drew (by rw [iv_take]; exact iv_one _) (nF + 32) HLen2.out (by omega) (by unfold maxLen; omega) (by simpa using hb6) (iv (x.F ++ (c ++ [(k : Int)]).take 32)) (by rw [iv_take, ← iv_append]) ?_
        intro ao3 cap3 w7 o7 g7' bl7
        have G7 := ((Ch.refl (Blk (.slice a4 nF q4)) W6).drew).trans' g7'
        have F7 := HF6.out.ch G7 (fun e => by have := (HS6.out.f.blk e).1; omega)
        obtain ⟨e0, e1, e2, e3, e4⟩ := F7.cells
        obtain ⟨z0, z1, z2, z3, z4⟩ := F7.fz
        have l7 := F7.lt
        have d7 := (G7.cell (o := p) hg6 (HS6.out.cf g1 rfl)).trans d0
        have s7 := HS6.out.free G7 o7 (fun q e => bl7 q e)
        have HS7 := hid s7
        have HG7 := hid G7
        have HF7 := hid F7
        clear o7 g7' bl7 G7 F7 s7
        refine hK.out _ _ (by exact ⟨e3, d7⟩) (fun _ => ?_)
        change wpAnyH _ _ _ _ _ _ _ (Act.put _ (some 57) _) _
        simp only [Act.put, List.setIfInBounds_toArray, List.set_cons_zero, List.set_cons_succ]
        clear hK K
        refine takeS_on (i := 9) 58 (v := ?v151) rfl rfl (by kernel_rfl) (by kernel_rfl) (by kernel_rfl) (fun _ _ _ h => h) (by kernel_rfl) ?hy151 (by exact ⟨e3, d7⟩) ?_
        case hy151 => (intro w' hSw; go_simp; try (with_reducible rfl))
        simp only [Act.put, List.setIfInBounds_toArray, List.set_cons_zero, List.set_cons_succ]
        refine wpAnyH_ready (rs := [10]) (by kernel_rfl) (by simp) (AllReadyH.cons rfl (fun K hK => ?_) AllReadyH.nil)
        go_simp
        obtain ⟨W8, hW8⟩ : ∃ W, W = w7.setCell ⟨w.heap.size, 4, none⟩ (.slice ao3 (nF + 32) cap3) := ⟨_, rfl⟩
        have C8 : Ch (Only w.heap.size) w7 W8 := by rw [hW8]; exact (Ch.refl _ _).own _ _
        have F8 : Fv 45 W8 w.heap.size (.int .i64 L) (.slice a1 nG q1) (.slice (some ⟨ag, 0, none⟩) nA q2) (.slice (some ⟨g1, 0, none⟩) nC q3) (.slice ao3 (nF + 32) cap3) := by rw [hW8]; exact setCell_block HF7.out 4 _
        have s8 := HS7.out.ch C8 (fun q a e => by have := (HS7.out.blk a).1; have e1 : q = w.heap.size := e; omega)
        rw [← hW8]
        clear hW8 c0 c1 c2 c3 c4 d0 df e0 e1 e2 e3 e4 z0 z1 z2 z3 z4 d7
        obtain ⟨c0, c1, c2, c3, c4⟩ := F8.cells
        obtain ⟨g', e', -, hg8, -, d0, df, -⟩ := s8.c.get1 HUN.out
        cases e'
        have l8 := F8.lt
        have HR8 := hid ((HR6.out.ch HG7.out (fun e => by have := (HS6.out.f.blk e).1; omega)).ch C8 (fun e => by have e1 : w.heap.size + 1 + 1 = w.heap.size := e; omega))
        have HG8 := hid ((HG6.out.trans HG7.out (fun q e => .inr (by have := (HS6.out.f.blk e).1; omega))).trans C8 (fun q e => .inr (by have e1 : q = w.heap.size := e; omega)))
        have hb8 : w1b.heap.size ≤ W8.heap.size := Nat.le_trans hb6 (Nat.le_trans HG7.out.size C8.size)
        have HS8 := hid s8
        have HF8 := hid F8
        have hld := (HS8.out.e p _ _ HUN.out HPC.out).drop32 (by rw [iv_length, List.length_append, ← HNUc.out]; rfl)
        rw [iv_drop] at hld
        have HLD := hid hld
        clear hld
        have HIN := hid (fun (W : World) (k1 : Ch NoB W8 W) => ints_any _ _ ((c ++ [(k : Int)]).drop 32) W (HLD.out.ch k1 (fun _ _ _ => noB _)) (by rw [List.length_drop, List.length_append, ← HNUc.out]; simp))
        clear s8 F8 C8
        refine hK.out _ _ (by exact ⟨c3, d0⟩) (fun _ => ?_)
        clear hK K
        refine wpAnyH_done (by kernel_rfl) ?_ _
        go_wp2_with fail
        refine wp_region_held_drew (S := fun w' => w'.cell? ⟨w.heap.size, 3, none⟩ = some (.slice (some ⟨g1, 0, none⟩) nC q3)) (by kernel_rfl) (by exact c3) (fun _ => ?_)
        refine takeS_on (i := 0) 59 (v := ?v152) rfl rfl (by kernel_rfl) (by kernel_rfl) (by kernel_rfl) (fun _ _ _ h => h) (by kernel_rfl) ?hy152 (by exact c3) ?_
        case hy152 => (intro w' hSw; go_simp; try (with_reducible rfl))
        simp only [Act.put, List.setIfInBounds_toArray, List.set_cons_zero, List.set_cons_succ]
        refine takeS_on (i := 1) 60 (v := ?v153) rfl rfl (by kernel_rfl) (by kernel_rfl) (by kernel_rfl) (fun _ _ _ h => h) (by kernel_rfl) ?hy153 (by exact c3) ?_
        case hy153 => (intro w' hSw; go_simp; try (with_reducible rfl))
        simp only [Act.put, List.setIfInBounds_toArray, List.set_cons_zero, List.set_cons_succ]
        refine takeS_on (i := 2) 61 (v := ?v154) rfl rfl (by kernel_rfl) (by kernel_rfl) (by kernel_rfl) (fun _ _ _ h => h) (by kernel_rfl) ?hy154 (by exact c3) ?_
        case hy154 => (intro w' hSw; go_simp; try (with_reducible rfl))
        simp only [Act.put, List.setIfInBounds_toArray, List.set_cons_zero, List.set_cons_succ]
        refine takeS_on (i := 3) 62 (v := ?v155) rfl rfl (by kernel_rfl) (by kernel_rfl) (by kernel_rfl) (fun _ _ _ h => h) (by kernel_rfl) ?hy155 (by exact c3) ?_
        case hy155 => (intro w' hSw; go_simp; try (with_reducible rfl))
        simp only [Act.put, List.setIfInBounds_toArray, List.set_cons_zero, List.set_cons_succ]
        refine takeS_on (i := 4) 63 (v := ?v156) rfl rfl (by kernel_rfl) (by kernel_rfl) (by kernel_rfl) (fun _ _ _ h => h) (by kernel_rfl) ?hy156 (by exact c3) ?_
        case hy156 => (intro w' hSw; go_simp; try (with_reducible rfl))
        simp only [Act.put, List.setIfInBounds_toArray, List.set_cons_zero, List.set_cons_succ]
        refine takeS_on (i := 5) 64 (v := ?v157) rfl rfl (by kernel_rfl) (by kernel_rfl) (by kernel_rfl) (fun _ _ _ h => h) (by kernel_rfl) ?hy157 (by exact c3) ?_
        case hy157 => (intro w' hSw; go_simp; try (with_reducible rfl))
        simp only [Act.put, List.setIfInBounds_toArray, List.set_cons_zero, List.set_cons_succ]
        refine takeS_on (i := 6) 65 (v := ?v158) rfl rfl (by kernel_rfl) (by kernel_rfl) (by kernel_rfl) (fun _ _ _ h => h) (by kernel_rfl) ?hy158 (by exact c3) ?_
        case hy158 => (intro w' hSw; go_simp; try (with_reducible rfl))
        simp only [Act.put, List.setIfInBounds_toArray, List.set_cons_zero, List.set_cons_succ]
        refine wpAnyH_ready (rs := [7]) (by kernel_rfl) (by simp) (AllReadyH.cons rfl (fun K hK => ?_) AllReadyH.nil)
        go_simp
        refine hK.out _ _ (by exact c3) (fun _ => ?_)
        clear hK K
        refine takeS_on (i := 8) 67 (v := ?v159) rfl rfl (by kernel_rfl) (by kernel_rfl) (by kernel_rfl) (fun _ _ _ h => h) (by kernel_rfl) ?hy159 (by exact c3) ?_
        case hy159 => (intro w' hSw; go_simp; try (with_reducible rfl))
        simp only [Act.put, List.setIfInBounds_toArray, List.set_cons_zero, List.set_cons_succ]
        refine wpAnyH_ready (rs := [9]) (by kernel_rfl) (by simp) (AllReadyH.cons rfl (fun K hK => ?_) AllReadyH.nil)
        go_simp
        refine (HIN.out _ ((Ch.refl NoB W8).drew)).mono ?_
        rintro e w9 ⟨v9, rfl, o9, g9'⟩
        obtain ⟨a9, q9, rfl⟩ := o9.form
        have g9 : Ch NoB W8 w9 := ((Ch.refl NoB W8).drew).trans' g9'
        have F9 := HF8.out.ch g9 (noB _)
        obtain ⟨e0, e1, e2, e3, e4⟩ := F9.cells
        have l9k := F9.lt
        obtain ⟨g', e', -, hg9, -, d9, df9, -⟩ := (HS8.out.c.ch g9 (fun _ _ => noB _)).get1 HUN.out
        cases e'
        refine hK.out _ _ (by exact e3) (fun _ => ?_)
        clear hK K
        refine takeS_on (i := 10) 69 (v := ?v160) rfl rfl (by kernel_rfl) (by kernel_rfl) (by kernel_rfl) (fun _ _ _ h => h) (by kernel_rfl) ?hy160 (by exact e3) ?_
        case hy160 => (intro w' hSw; go_simp; try (with_reducible rfl))
        simp only [Act.put, List.setIfInBounds_toArray, List.set_cons_zero, List.set_cons_succ]
        refine wpAnyH_ready (rs := [11]) (by kernel_rfl) (by simp) (AllReadyH.cons rfl (fun K hK => ?_) AllReadyH.nil)
        go_simp
        have s10 := HS8.out.cache (c' := (c ++ [(k : Int)]).drop 32) HUN.out (g9.mono (fun q e => e.elim)) (o9.lower hb8) (fun q e => .inr (o9.blk e).1)
        obtain ⟨W10, hW10⟩ : ∃ W, W = w9.setCell ⟨g1, p, none⟩ (.slice a9 (iv ((c ++ [(k : Int)]).drop 32)).length q9) := ⟨_, rfl⟩
        have C10 : Ch (Only g1) w9 W10 := by rw [hW10]; exact (Ch.refl _ _).own _ _
        have F10 := F9.ch C10 hne1
        have h10 := (C10.cell (o := 3) F9.lt hne1).trans e3
        rw [← hW10] at s10 ⊢
        have HS10 := hid s10
        have HF10 := hid F10
        have HG10 := hid ((HG8.out.trans g9 (fun q e => e.elim)).trans C10 (fun q e => .inr (by have e1 : q = g1 := e; omega)))
        have HR10 := hid ((HR8.out.ch g9 (noB _)).ch C10 hne5)
        clear hW10 s10 F10 C10 c0 c1 c2 c3 c4 e0 e1 e2 e3 e4 d0 df d9 df9 o9 g9 g9' F9
        refine hK.out _ _ (by exact h10) (fun _ => ?_)
        clear hK K
        refine wpAnyH_done (by kernel_rfl) ?_ _
        obtain ⟨c0, c1, c2, c3, c4⟩ := HF10.out.cells
        have l10 := HF10.out.lt
        obtain ⟨z0, z1, z2, z3, z4⟩ := HR10.out.cells
        obtain ⟨zf0, zf1, zf2, zf3, zf4⟩ := HR10.out.fz
        have zl := HR10.out.lt
        go_wp2
        have C7 := (((((Ch.refl (Only (w.heap.size + 1 + 1)) W10).own 0 (.int .i64 L)).own 1 (.slice a1 nG q1)).own 2 (.slice (some ⟨ag, 0, none⟩) nA q2)).own 3 (.slice (some ⟨g1, 0, none⟩) nC q3)).own 4 (.slice ao3 (nF + 32) cap3)
        exact bodyPost_ret (v := .tuple #[.agg #[.int .i64 L, .slice a1 nG q1, .slice (some ⟨ag, 0, none⟩) nA q2, .slice (some ⟨g1, 0, none⟩) nC q3, .slice ao3 (nF + 32) cap3], .int .i64 0]) (by simp [results, Try.results40, go_sem, z0, z1, z2, z3, z4]) rfl (Gave.of (by rw [HE.out]; exact (HS10.out.ch C7 (fun q a e => by have := (HS10.out.blk a).1; have e1 : q = w.heap.size + 1 + 1 := e; omega)).lower (by omega)) (HG10.out.trans C7 (fun q e => .inr (by have e1 : q = w.heap.size + 1 + 1 := e; omega))))
    · have HE := hid (show giveS x p k gn c = pushS (deadS x k) p (k : Int) c by rw [giveS, if_pos (by omega), cacheS, if_neg (by rw [← HNUc.out]; omega)])
      have e64 : ((nU : Int) + 1 == 64) = false := by simp; omega
      have e65 : ¬ ((nU : Int) + 1 = 64) := by omega
      refine wp_region_held_drew (S := fun w' => w'.cell? ⟨w.heap.size, 3, none⟩ = some (.slice (some ⟨g1, 0, none⟩) nC q3) ∧ w'.cell? ⟨w.heap.size + 1, 0, none⟩ = some (.int .i64 (k : Int))) (by kernel_rfl) (by exact ⟨c3, x0⟩) (fun _ => ?_)
      refine takeS_on (i := 0) 29 (v := ?v161) rfl rfl (by kernel_rfl) (by kernel_rfl) (by kernel_rfl) (fun _ _ _ h => h) (by kernel_rfl) ?hy161 (by exact ⟨c3, x0⟩) ?_
      case hy161 => (intro w' hSw; go_simp; try (with_reducible rfl))
      simp only [Act.put, List.setIfInBounds_toArray, List.set_cons_zero, List.set_cons_succ]
      refine takeS_on (i := 1) 30 (v := ?v162) rfl rfl (by kernel_rfl) (by kernel_rfl) (by kernel_rfl) (fun _ _ _ h => h) (by kernel_rfl) ?hy162 (by exact ⟨c3, x0⟩) ?_
      case hy162 => (intro w' hSw; go_simp; try (with_reducible rfl))
      simp only [Act.put, List.setIfInBounds_toArray, List.set_cons_zero, List.set_cons_succ]
      refine takeS_on (i := 2) 31 (v := ?v163) rfl rfl (by kernel_rfl) (by kernel_rfl) (by kernel_rfl) (fun _ _ _ h => h) (by kernel_rfl) ?hy163 (by exact ⟨c3, x0⟩) ?_
      case hy163 => (intro w' hSw; go_simp; try (with_reducible rfl))
      simp only [Act.put, List.setIfInBounds_toArray, List.set_cons_zero, List.set_cons_succ]
      refine takeS_on (i := 3) 32 (v := ?v164) rfl rfl (by kernel_rfl) (by kernel_rfl) (by kernel_rfl) (fun _ _ _ h => h) (by kernel_rfl) ?hy164 (by exact ⟨c3, x0⟩) ?_
      case hy164 => (intro w' hSw; go_simp; try (with_reducible rfl))
      simp only [Act.put, List.setIfInBounds_toArray, List.set_cons_zero, List.set_cons_succ]
      refine takeS_on (i := 4) 33 (v := ?v165) rfl rfl (by kernel_rfl) (by kernel_rfl) (by kernel_rfl) (fun _ _ _ h => h) (by kernel_rfl) ?hy165 (by exact ⟨c3, x0⟩) ?_
      case hy165 => (intro w' hSw; go_simp; try (with_reducible rfl))
      simp only [Act.put, List.setIfInBounds_toArray, List.set_cons_zero, List.set_cons_succ]
      refine takeS_on (i := 5) 34 (v := ?v166) rfl rfl (by kernel_rfl) (by kernel_rfl) (by kernel_rfl) (fun _ _ _ h => h) (by kernel_rfl) ?hy166 (by exact ⟨c3, x0⟩) ?_
      case hy166 => (intro w' hSw; go_simp; try (with_reducible rfl))
      simp only [Act.put, List.setIfInBounds_toArray, List.set_cons_zero, List.set_cons_succ]
      refine takeS_on (i := 6) 35 (v := ?v167) rfl rfl (by kernel_rfl) (by kernel_rfl) (by kernel_rfl) (fun _ _ _ h => h) (by kernel_rfl) ?hy167 (by exact ⟨c3, x0⟩) ?_
      case hy167 => (intro w' hSw; go_simp; try (with_reducible rfl))
      simp only [Act.put, List.setIfInBounds_toArray, List.set_cons_zero, List.set_cons_succ]
      refine takeS_on (i := 8) 37 (v := ?v168) rfl rfl (by kernel_rfl) (by kernel_rfl) (by kernel_rfl) (fun _ _ _ h => h) (by kernel_rfl) ?hy168 (by exact ⟨c3, x0⟩) ?_
      case hy168 => (intro w' hSw; go_simp; try (with_reducible rfl))
      simp only [Act.put, List.setIfInBounds_toArray, List.set_cons_zero, List.set_cons_succ]
      refine takeS_on (i := 9) 38 (v := ?v169) rfl rfl (by kernel_rfl) (by kernel_rfl) (by kernel_rfl) (fun _ _ _ h => h) (by kernel_rfl) ?hy169 (by exact ⟨c3, x0⟩) ?_
      case hy169 => (intro w' hSw; go_simp; try (with_reducible rfl))
      simp only [Act.put, List.setIfInBounds_toArray, List.set_cons_zero, List.set_cons_succ]
      refine wpAnyH_ready (rs := [7, 10]) (by kernel_rfl) (by simp) (AllReadyH.cons rfl (fun K hK => ?_) (AllReadyH.cons rfl (fun K hK => ?_) AllReadyH.nil))
      · go_simp
        refine hK.out _ _ (by exact ⟨c3, x0⟩) (fun _ => ?_)
        clear hK K
        refine wpAnyH_ready (rs := [10]) (by kernel_rfl) (by simp) (AllReadyH.cons rfl (fun K hK => ?_) AllReadyH.nil)
        go_simp
        have g8 : Ch NoB W4 (W4.alloc (.cells #[.int .i64 (k : Int)] 3)) := (Ch.refl NoB W4).alloc _
        have e83 := (g8.cell (o := 3) l3 (noB _)).trans c3
        have e80 := (g8.cell (o := 0) xl (noB _)).trans x0
        refine hK.out _ _ (by exact ⟨e83, e80⟩) (fun _ => ?_)
        clear hK K
        refine wpAnyH_ready (rs := [11]) (by kernel_rfl) (by simp) (AllReadyH.cons rfl (fun K hK => ?_) AllReadyH.nil)
        refine step_append_ow rfl (.tmp 36) (.tmp 39) 41 3 8 (.int .i64 0) Try.underlying41 int_info rfl rfl w1b.heap.size (.slice ua nU uc) (iv c) (by simp [Act.eval]) (HOU.out.drew.alloc _) _ _ [.int .i64 (k : Int)] (by simp [Act.eval]) (ls_int _ _ _) (fun u hu => by rw [List.mem_singleton.1 hu]; rfl) (nU + 1) HLen.out (by omega) (by unfold maxLen; omega) (Nat.le_trans hb3 g8.size) (iv (c ++ [(k : Int)])) (by rw [iv_append]; rfl) ?_
        intro ao2 cap2 w5 o5 g5' bl5
        have G5 : Ch (Blk (.slice ua nU uc)) W4 w5 := ((g8.mono (T := Blk (.slice ua nU uc)) (fun q e => e.elim)).drew).trans' g5'
        have F5 := HF3.out.ch G5 (fun e => by have := (HOU.out.blk e).1; omega)
        obtain ⟨e0, e1, e2, e3, e4⟩ := F5.cells
        have x5 := (G5.cell (o := 0) xl (fun e => by have := (HOU.out.blk e).1; omega)).trans x0
        obtain ⟨g', e', -, hg5, -, d5, df5, -⟩ := (HS3.out.c.ch G5 (fun q a e => HS3.out.ec p _ HU.out q e a)).get1 HU.out
        cases e'
        have B5 : ∀ q, Blk (.slice ao2 (nU + 1) cap2) q → Blk (.slice ua nU uc) q ∨ W4.heap.size ≤ q := fun q e => (bl5 q e).imp id (fun e => Nat.le_trans g8.size e)
        refine hK.out _ _ (by exact ⟨e3, x5⟩) (fun _ => ?_)
        change wpAnyH _ _ _ _ _ _ _ (Act.put _ (some 40) _) _
        simp only [Act.put, List.setIfInBounds_toArray, List.set_cons_zero, List.set_cons_succ]
        clear hK K
        refine takeS_on (i := 12) 41 (v := ?v170) rfl rfl (by kernel_rfl) (by kernel_rfl) (by kernel_rfl) (fun _ _ _ h => h) (by kernel_rfl) ?hy170 (by exact ⟨e3, x5⟩) ?_
        case hy170 => (intro w' hSw; go_simp; try (with_reducible rfl))
        simp only [Act.put, List.setIfInBounds_toArray, List.set_cons_zero, List.set_cons_succ]
        refine wpAnyH_ready (rs := [13]) (by kernel_rfl) (by simp) (AllReadyH.cons rfl (fun K hK => ?_) AllReadyH.nil)
        go_simp
        have s6 := HS3.out.cache HU.out G5 o5 B5
        obtain ⟨W6, hW6⟩ : ∃ W, W = w5.setCell ⟨g1, p, none⟩ (.slice ao2 (nU + 1) cap2) := ⟨_, rfl⟩
        have C6 : Ch (Only g1) w5 W6 := by rw [hW6]; exact (Ch.refl _ _).own _ _
        have F6 := F5.ch C6 hne1
        have h6 := (C6.cell (o := 3) F5.lt hne1).trans e3
        have x6 := (C6.cell (o := 0) (Nat.lt_of_lt_of_le xl G5.size) hne3).trans x5
        rw [← hW6] at s6 ⊢
        have HS6 := hid s6
        have HF6 := hid F6
        have HG6 := hid ((HG3.out.trans G5 (fun q e => .inr (by have := (HOU.out.blk e).1; omega))).trans C6 (fun q e => .inr (by have e1 : q = g1 := e; omega)))
        have HR6 := hid ((HR3.out.ch G5 (fun e => by have := (HOU.out.blk e).1; omega)).ch C6 hne5)
        have HUN := hid (show (cu.set p (.slice ao2 (nU + 1) cap2))[p]? = some (.slice ao2 (nU + 1) cap2) from List.getElem?_set_self hpl)
        have hb6 : w1b.heap.size ≤ W6.heap.size := Nat.le_trans hb3 (Nat.le_trans G5.size C6.size)
        clear hW6 s6 F6 C6 c0 c1 c2 c3 c4 e0 e1 e2 e3 e4 d0 df d5 df5 x0 x5 o5 g5' bl5 G5 F5 B5 g8 e83 e80
        refine hK.out _ _ (by exact ⟨h6, x6⟩) (fun _ => ?_)
        clear hK K
        refine wpAnyH_done (by kernel_rfl) ?_ _
        obtain ⟨c0, c1, c2, c3, c4⟩ := HF6.out.cells
        have l6 := HF6.out.lt
        obtain ⟨g', e', -, hg6, -, d0, df, -⟩ := HS6.out.c.get1 HUN.out
        cases e'
        obtain ⟨z0, z1, z2, z3, z4⟩ := HR6.out.cells
        obtain ⟨zf0, zf1, zf2, zf3, zf4⟩ := HR6.out.fz
        have zl := HR6.out.lt
        go_wp2
        have C7 := (((((Ch.refl (Only (w.heap.size + 1 + 1)) W6).own 0 (.int .i64 L)).own 1 (.slice a1 nG q1)).own 2 (.slice (some ⟨ag, 0, none⟩) nA q2)).own 3 (.slice (some ⟨g1, 0, none⟩) nC q3)).own 4 (.slice a4 nF q4)
        exact bodyPost_ret (v := .tuple #[.agg #[.int .i64 L, .slice a1 nG q1, .slice (some ⟨ag, 0, none⟩) nA q2, .slice (some ⟨g1, 0, none⟩) nC q3, .slice a4 nF q4], .int .i64 0]) (by simp [results, Try.results40, go_sem, z0, z1, z2, z3, z4]) rfl (Gave.of (by rw [HE.out]; exact (HS6.out.ch C7 (fun q a e => by have := (HS6.out.blk a).1; have e1 : q = w.heap.size + 1 + 1 := e; omega)).lower (by omega)) (HG6.out.trans C7 (fun q e => .inr (by have e1 : q = w.heap.size + 1 + 1 := e; omega))))
      · go_simp
        have g8 : Ch NoB W4 (W4.alloc (.cells #[.int .i64 (k : Int)] 3)) := (Ch.refl NoB W4).alloc _
        have e83 := (g8.cell (o := 3) l3 (noB _)).trans c3
        have e80 := (g8.cell (o := 0) xl (noB _)).trans x0
        refine hK.out _ _ (by exact ⟨e83, e80⟩) (fun _ => ?_)
        clear hK K
        refine wpAnyH_ready (rs := [7]) (by kernel_rfl) (by simp) (AllReadyH.cons rfl (fun K hK => ?_) AllReadyH.nil)
        go_simp
        refine hK.out _ _ (by exact ⟨e83, e80⟩) (fun _ => ?_)
        clear hK K
        refine wpAnyH_ready (rs := [11]) (by kernel_rfl) (by simp) (AllReadyH.cons rfl (fun K hK => ?_) AllReadyH.nil)
        refine step_append_ow rfl (.tmp 36) (.tmp 39) 41 3 8 (.int .i64 0) Try.underlying41 int_info rfl rfl w1b.heap.size (.slice ua nU uc) (iv c) (by simp [Act.eval]) (HOU.out.drew.alloc _) _ _ [.int .i64 (k : Int)] (by simp [Act.eval]) (ls_int _ _ _) (fun u hu => by rw [List.mem_singleton.1 hu]; rfl) (nU + 1) HLen.out (by omega) (by unfold maxLen; omega) (Nat.le_trans hb3 g8.size) (iv (c ++ [(k : Int)])) (by rw [iv_append]; rfl) ?_
        intro ao2 cap2 w5 o5 g5' bl5
        have G5 : Ch (Blk (.slice ua nU uc)) W4 w5 := ((g8.mono (T := Blk (.slice ua nU uc)) (fun q e => e.elim)).drew).trans' g5'
        have F5 := HF3.out.ch G5 (fun e => by have := (HOU.out.blk e).1; omega)
        obtain ⟨e0, e1, e2, e3, e4⟩ := F5.cells
        have x5 := (G5.cell (o := 0) xl (fun e => by have := (HOU.out.blk e).1; omega)).trans x0
        obtain ⟨g', e', -, hg5, -, d5, df5, -⟩ := (HS3.out.c.ch G5 (fun q a e => HS3.out.ec p _ HU.out q e a)).get1 HU.out
        cases e'
        have B5 : ∀ q, Blk (.slice ao2 (nU + 1) cap2) q → Blk (.slice ua nU uc) q ∨ W4.heap.size ≤ q := fun q e => (bl5 q e).imp id (fun e => Nat.le_trans g8.size e)
        refine hK.out _ _ (by exact ⟨e3, x5⟩) (fun _ => ?_)
        change wpAnyH _ _ _ _ _ _ _ (Act.put _ (some 40) _) _
        simp only [Act.put, List.setIfInBounds_toArray, List.set_cons_zero, List.set_cons_succ]
        clear hK K
        refine takeS_on (i := 12) 41 (v := ?v171) rfl rfl (by kernel_rfl) (by kernel_rfl) (by kernel_rfl) (fun _ _ _ h => h) (by kernel_rfl) ?hy171 (by exact ⟨e3, x5⟩) ?_
        case hy171 => (intro w' hSw; go_simp; try (with_reducible rfl))
        simp only [Act.put, List.setIfInBounds_toArray, List.set_cons_zero, List.set_cons_succ]
        refine wpAnyH_ready (rs := [13]) (by kernel_rfl) (by simp) (AllReadyH.cons rfl (fun K hK => ?_) AllReadyH.nil)
        go_simp
        have s6 := HS3.out.cache HU.out G5 o5 B5
        obtain ⟨W6, hW6⟩ : ∃ W, W = w5.setCell ⟨g1, p, none⟩ (.slice ao2 (nU + 1) cap2) := ⟨_, rfl⟩
        have C6 : Ch (Only g1) w5 W6 := by rw [hW6]; exact (Ch.refl _ _).own _ _
        have F6 := F5.ch C6 hne1
        have h6 := (C6.cell (o := 3) F5.lt hne1).trans e3
        have x6 := (C6.cell (o := 0) (Nat.lt_of_lt_of_le xl G5.size) hne3).trans x5
        rw [← hW6] at s6 ⊢
        have HS6 := hid s6
        have HF6 := hid F6
        have HG6 := hid ((HG3.out.trans G5 (fun q e => .inr (by have := (HOU.out.blk e).1; omega))).trans C6 (fun q e => .inr (by have e1 : q = g1 := e; omega)))
        have HR6 := hid ((HR3.out.ch G5 (fun e => by have := (HOU.out.blk e).1; omega)).ch C6 hne5)
        have HUN := hid (show (cu.set p (.slice ao2 (nU + 1) cap2))[p]? = some (.slice ao2 (nU + 1) cap2) from List.getElem?_set_self hpl)
        have hb6 : w1b.heap.size ≤ W6.heap.size := Nat.le_trans hb3 (Nat.le_trans G5.size C6.size)
        clear hW6 s6 F6 C6 c0 c1 c2 c3 c4 e0 e1 e2 e3 e4 d0 df d5 df5 x0 x5 o5 g5' bl5 G5 F5 B5 g8 e83 e80
        refine hK.out _ _ (by exact ⟨h6, x6⟩) (fun _ => ?_)
        clear hK K
        refine wpAnyH_done (by kernel_rfl) ?_ _
        obtain ⟨c0, c1, c2, c3, c4⟩ := HF6.out.cells
        have l6 := HF6.out.lt
        obtain ⟨g', e', -, hg6, -, d0, df, -⟩ := HS6.out.c.get1 HUN.out
        cases e'
        obtain ⟨z0, z1, z2, z3, z4⟩ := HR6.out.cells
        obtain ⟨zf0, zf1, zf2, zf3, zf4⟩ := HR6.out.fz
        have zl := HR6.out.lt
        go_wp2
        have C7 := (((((Ch.refl (Only (w.heap.size + 1 + 1)) W6).own 0 (.int .i64 L)).own 1 (.slice a1 nG q1)).own 2 (.slice (some ⟨ag, 0, none⟩) nA q2)).own 3 (.slice (some ⟨g1, 0, none⟩) nC q3)).own 4 (.slice a4 nF q4)
        exact bodyPost_ret (v := .tuple #[.agg #[.int .i64 L, .slice a1 nG q1, .slice (some ⟨ag, 0, none⟩) nA q2, .slice (some ⟨g1, 0, none⟩) nC q3, .slice a4 nF q4], .int .i64 0]) (by simp [results, Try.results40, go_sem, z0, z1, z2, z3, z4]) rfl (Gave.of (by rw [HE.out]; exact (HS6.out.ch C7 (fun q a e => by have := (HS6.out.blk a).1; have e1 : q = w.heap.size + 1 + 1 := e; omega)).lower (by omega)) (HG6.out.trans C7 (fun q e => .inr (by have e1 : q = w.heap.size + 1 + 1 := e; omega))))
end Go.Proofs.Ytfbkifkfhgkdbab.Sb
