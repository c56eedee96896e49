/-
  What the law's calls answers and leaves at a Take. Condition: slab, state and list of names are there, apart from one another, and may be.
-/
import Derived.Test.YtfbkifkfhgkdbabSbCalls
namespace Go.Proofs.Ytfbkifkfhgkdbab.Sb
open Go.RowKit
attribute [local go_sem ↓] Go.wp_at_zero Go.wp_at_succ

/-- behind a Take that gave a name: all is apart, and the list of names is longer -/
theorem Jn.after' {S P S1 T : Nat → Prop} {base hb N : Nat} {w w1 w2 w3 : World} {b : Nat} {L : Int} {x x' : Sl} {vg va vc vf v v' : Value} {cv : List Value} {gs gs' : List (Int × Int)} {vg' va' vc' vf' : Value} {cv' : List Value} (h : Jn S P base hb w b L x vg va vc vf cv v gs)
    (i1 : SlabIn S1 base w1 b L x') (g1 : Ch S w w1) (hN : w.heap.size ≤ N) (hN1 : N ≤ w1.heap.size) (n1 : ∀ q, S1 q → S q ∨ N ≤ q) (r2 : Rd (fun q => P q ∨ w1.heap.size ≤ q) w2 vg' va' vc' vf' cv' x') (g2 : Ch NoB w1 w2) (g3 : Ch T w2 w3) (hT : ∀ q, T q → (w.heap.size ≤ q ∧ q < N) ∨ Blk v q) (hm : May L x') (hp : Pr hb w3 v' gs') (hv : ∀ q, Blk v' q → Blk v q ∨ w2.heap.size ≤ q) :
    Jn S1 (fun q => (P q ∨ w1.heap.size ≤ q) ∧ q < w2.heap.size) base hb w3 b L x' vg' va' vc' vf' cv' v' gs' ∧ Ch (fun q => S q ∨ Blk v q) w w3 := by
  have lt1 := i1.lt
  have ltS := h.s.lt
  have ltV : ∀ q, Blk v q → q < w.heap.size := fun q a => (h.p.blk a).2
  have s2 := g2.size
  have gw : Ch (fun q => S q ∨ Blk v q) w w3 := ((g1.mono (T := fun q => S q ∨ Blk v q) (fun q e => .inl (.inl e))).trans g2 (fun q e => e.elim)).trans g3 (fun q e => (hT q e).elim (fun a => .inr a.1) (fun a => .inl (.inr a)))
  refine ⟨{ s := (i1.ch g2 (fun _ _ => noB _)).ch g3 (fun q a e => ?_), r := (r2.mono (fun q hq a => ⟨a, hq⟩)).ch g3 (fun q _ a e => ?_), p := hp, m := hm, sb := Nat.le_trans h.sb gw.size, hb := Nat.le_trans h.hb gw.size, sp := fun q a e => ?_, vs := fun q a e => ?_, vp := fun q a e => ?_, pl := fun q a => Nat.lt_of_lt_of_le a.2 g3.size }, gw⟩
  · rcases hT q e with c | c
    · exact (n1 q a).elim (fun a => by have := ltS q a; omega) (fun a => by omega)
    · have := ltV q c
      exact (n1 q a).elim (fun a => h.vs q c a) (fun a => by omega)
  · rcases hT q e with c | c
    · exact a.1.elim (fun a => by have := h.pl q a; omega) (fun a => by omega)
    · have := ltV q c
      exact a.1.elim (fun a => h.vp q c a) (fun a => by omega)
  · rcases a.1 with a | a
    · exact (n1 q e).elim (h.sp q a) (fun e' => by have := h.pl q a; omega)
    · have := lt1 q e
      omega
  · rcases hv q a with c | c
    · have := ltV q c
      exact (n1 q e).elim (h.vs q c) (fun e' => by omega)
    · have := lt1 q e
      omega
  · rcases hv q a with c | c
    · have := ltV q c
      exact e.1.elim (h.vp q c) (fun e' => by omega)
    · have := e.2
      omega

set_option maxRecDepth 100000 in
set_option maxHeartbeats 4000000 in
theorem calls_take (S P : Nat → Prop) (base hb b : Nat) (L p pk s0 gn : Int) (x : Sl) (vg va vc vf v : Value) (cv : List Value) (gs : List (Int × Int)) (w : World) (h : Jn S P base hb w b L x vg va vc vf cv v gs) (hgl : gs.length < 8796093022208) :
    Calls Try.prog 23 #[.pointer (some ⟨b, 0, none⟩), .agg #[.int .i64 L, vg, va, vc, vf], .agg #[.int .i64 0, .int .i64 p, .int .i64 pk, .int .i64 s0, .int .i64 gn], v] w fun e w' => Called S P base hb w b L v gs e w' := by
  obtain ⟨ga, gc, rfl⟩ := h.r.g.form
  obtain ⟨aa, ac, rfl⟩ := h.r.a.form
  obtain ⟨ca, cc, rfl⟩ := h.r.c.form
  obtain ⟨fa, fc, rfl⟩ := h.r.f.form
  obtain ⟨ha, hc, rfl⟩ := h.p.form
  obtain ⟨nG, hnG⟩ : ∃ n, n = (iv x.G).length := ⟨_, rfl⟩
  obtain ⟨nA, hnA⟩ : ∃ n, n = (bv x.A).length := ⟨_, rfl⟩
  obtain ⟨nC, hnC⟩ : ∃ n, n = cv.length := ⟨_, rfl⟩
  obtain ⟨nF, hnF⟩ : ∃ n, n = (iv x.F).length := ⟨_, rfl⟩
  obtain ⟨nH, hnH⟩ : ∃ n, n = gs.length := ⟨_, rfl⟩
  rw [← hnG, ← hnA, ← hnC, ← hnF, ← hnH] at h
  rw [← hnG, ← hnA, ← hnC, ← hnF, ← hnH]
  obtain ⟨W0, hW0⟩ : ∃ W0, W0 = ((w.alloc (.cells #[.int .i64 L, .slice ga nG gc, .slice aa nA ac, .slice ca nC cc, .slice fa nF fc] 45)).alloc (.cells #[.int .i64 0, .int .i64 p, .int .i64 pk, .int .i64 s0, .int .i64 gn] 49)).alloc (.cells #[.int .i64 0, .slice none 0 0, .slice none 0 0, .slice none 0 0, .slice none 0 0] 45) := ⟨_, rfl⟩
  have g0 : Ch NoB w W0 := by rw [hW0]; exact (((Ch.refl NoB w).alloc _).alloc _).alloc _
  have f0 : Fv 45 W0 w.heap.size (.int .i64 L) (.slice ga nG gc) (.slice aa nA ac) (.slice ca nC cc) (.slice fa nF fc) := by rw [hW0]; exact ((Fv.new 45 w _ _ _ _ _).alloc _).alloc _
  have o0 : Fv 49 W0 (w.heap.size + 1) (.int .i64 0) (.int .i64 p) (.int .i64 pk) (.int .i64 s0) (.int .i64 gn) := by
    have z := Fv.new 49 (w.alloc (.cells #[.int .i64 L, .slice ga nG gc, .slice aa nA ac, .slice ca nC cc, .slice fa nF fc] 45)) (.int .i64 0) (.int .i64 p) (.int .i64 pk) (.int .i64 s0) (.int .i64 gn)
    rw [World.size_alloc] at z
    rw [hW0]
    exact z.alloc _
  have r0 : Fv 45 W0 (w.heap.size + 1 + 1) (.int .i64 0) (.slice none 0 0) (.slice none 0 0) (.slice none 0 0) (.slice none 0 0) := by
    have z := Fv.new 45 ((w.alloc (.cells #[.int .i64 L, .slice ga nG gc, .slice aa nA ac, .slice ca nC cc, .slice fa nF fc] 45)).alloc (.cells #[.int .i64 0, .int .i64 p, .int .i64 pk, .int .i64 s0, .int .i64 gn] 49)) (.int .i64 0) (.slice none 0 0) (.slice none 0 0) (.slice none 0 0) (.slice none 0 0)
    rw [World.size_alloc, World.size_alloc] at z
    rw [hW0]
    exact z
  have hlt := h.s.lt
  have HJ := hid h
  have HF0 := hid f0
  have HO0 := hid o0
  have HR0 := hid r0
  have HG0 := hid g0
  have HLT := hid hlt
  have hl0 := r0.lt
  have HnH := hid hnH
  have HTK := hid (take_may S base b p L x W0 (h.s.ch g0 (fun _ _ => noB _)) (Nat.le_trans h.sb g0.size) h.m)
  have HRT := hid (fun (W : World) (k : Ch S W0 W) (n : Int × Int × Int) (x' : Sl) (ht : TakeR L x p n x') => rtake_may P p L n x' _ _ _ _ cv x W ((h.r.ch g0 (fun _ _ _ => noB _)).ch k (fun q _ a => h.sp q a)) h.m ht)
  have HM0 := hid h.m
  clear h f0 o0 r0 g0 hlt hnG hnA hnC hnF hnH
  go_enter Try.func23, Try.ntmps23
  go_wp2_with fail
  rw [← hW0]
  clear hW0
  refine HTK.out.mono ?_
  rintro e w1 ⟨n, x', ht, rfl, ⟨S1, i1, g1, nw1⟩⟩
  obtain ⟨y1, y2, y3⟩ := n
  have HM := hid (ht.may HM0.out)
  have HTR := hid ht
  have no : ∀ q, w.heap.size ≤ q → ¬ S q := fun q a e => by have := HLT.out q e; omega
  obtain ⟨Wg, hWg⟩ : ∃ W, W = w1.alloc (.cells #[.int .i64 y1, .int .i64 y2] 34) := ⟨_, rfl⟩
  have gg : Ch NoB w1 Wg := by rw [hWg]; exact (Ch.refl _ _).alloc _
  have kg : Wg.heap[w1.heap.size]? = some (.cells #[.int .i64 y1, .int .i64 y2] 34 (0, 0)) := by rw [hWg]; exact (MapKept.heap_alloc w1 _).1
  have F1 := HF0.out.ch g1 (no _ (by omega))
  have O1 := HO0.out.ch g1 (no _ (by omega))
  have R1 := (HR0.out.ch g1 (no _ (by omega))).ch gg (noB _)
  obtain ⟨c0, c1, c2, c3, c4⟩ := F1.cells
  obtain ⟨o0, o1, o2, o3, o4⟩ := O1.cells
  have l1 := F1.lt
  have l2 := O1.lt
  have HR1 := hid R1
  have HI1 := hid (i1.ch gg (fun _ _ => noB _))
  have HG1 := hid (g1.trans gg (fun q e => e.elim))
  have HN1 := hid nw1
  have HKG := hid kg
  have hs1 := g1.size
  have hsg := gg.size
  clear i1 g1 nw1 F1 O1 R1 ht kg gg
  go_wp2_with fail
  rw [← hWg]
  clear hWg c0 c1 c2 c3 c4 o0 o1 o2 o3 o4 l1 l2
  refine (HRT.out Wg HG1.out _ _ HTR.out).mono ?_
  rintro e w2 ⟨vg', va', vc', vf', cv', rfl, r2, g2⟩
  obtain ⟨a1, q1, rfl⟩ := r2.g.form
  obtain ⟨a2, q2, rfl⟩ := r2.a.form
  obtain ⟨a3, q3, rfl⟩ := r2.c.form
  obtain ⟨a4, q4, rfl⟩ := r2.f.form
  obtain ⟨n1, hn1⟩ : ∃ n, n = (iv x'.G).length := ⟨_, rfl⟩
  obtain ⟨n2, hn2⟩ : ∃ n, n = (bv x'.A).length := ⟨_, rfl⟩
  obtain ⟨n3, hn3⟩ : ∃ n, n = cv'.length := ⟨_, rfl⟩
  obtain ⟨n4, hn4⟩ : ∃ n, n = (iv x'.F).length := ⟨_, rfl⟩
  rw [← hn1, ← hn2, ← hn3, ← hn4] at r2 ⊢
  have HR2 := hid r2
  have HG2 := hid g2
  have R2 := HR1.out.ch g2 (noB _)
  have K2 := (g2.block _ (lt_of_block HKG.out) (noB _)).trans HKG.out
  have hs2 := g2.size
  clear r2 g2 hn1 hn2 hn3 hn4
  by_cases hf : y3 = 0
  · subst hf
    clear K2 R2
    obtain ⟨W4, hW4⟩ : ∃ W, W = (w2.alloc (.cells #[.int .i64 L, .slice a1 n1 q1, .slice a2 n2 q2, .slice a3 n3 q3, .slice a4 n4 q4] 45)).alloc (.cells #[.int .i64 y1, .int .i64 y2] 34) := ⟨_, rfl⟩
    have g4 : Ch NoB w2 W4 := by rw [hW4]; exact ((Ch.refl _ _).alloc _).alloc _
    have f4 : Fv 45 W4 w2.heap.size (.int .i64 L) (.slice a1 n1 q1) (.slice a2 n2 q2) (.slice a3 n3 q3) (.slice a4 n4 q4) := by rw [hW4]; exact (Fv.new _ w2 _ _ _ _ _).alloc _
    have h4 : W4.heap[w2.heap.size + 1]? = some (.cells #[.int .i64 y1, .int .i64 y2] 34 (0, 0)) := by
      rw [hW4]
      have z := (MapKept.heap_alloc (w2.alloc (.cells #[.int .i64 L, .slice a1 n1 q1, .slice a2 n2 q2, .slice a3 n3 q3, .slice a4 n4 q4] 45)) (.cells #[.int .i64 y1, .int .i64 y2] 34)).1
      rw [World.size_alloc] at z
      exact z
    have k4 := ((HG2.out.trans' g4).block _ (lt_of_block HKG.out) (noB _)).trans HKG.out
    have R4 := HR1.out.ch (HG2.out.trans' g4) (noB _)
    have gall : Ch S w W4 := (((HG0.out.mono (T := S) (fun q e => e.elim)).trans' HG1.out).trans (HG2.out) (fun q e => e.elim)).trans g4 (fun q e => e.elim)
    have P4 := HJ.out.p.ch gall (fun q a => HJ.out.vs q a)
    have hs4 := g4.size
    have HG4 := hid g4
    have HR4 := hid R4
    have HF4 := hid f4
    have HH4 := hid h4
    have HK4 := hid k4
    have HP4 := hid P4
    have HA := hid gall
    clear g4 f4 h4 k4 R4 P4 gall
    go_wp2_with (first | (at_builtin; rw [← hW4]; refine wpList_append_pr (g := (y1, y2)) rfl (.tmp 45) (.tmp 47) rfl hb _ gs rfl (HP4.out.alloc _) (w2.heap.size + 1 + 1) (by rw [hW4]; simp) rfl (nH + 1) (by rw [HnH.out]) (by have := HnH.out; omega) (Nat.le_trans HJ.out.hb HA.out.size) ?_; intro ao5 cap5 w5 p5 g5 b5))
    have no5 : ∀ q, w.heap.size ≤ q → ¬ Blk (.slice ha nH hc) q := fun q a e => by have := (HJ.out.p.blk e).2; omega
    have gC : Ch (Blk (.slice ha nH hc)) W4 w5 := ((Ch.refl (Blk (.slice ha nH hc)) W4).alloc _).trans' g5
    have f5 := HF4.out.ch gC (no5 _ (by omega))
    have R5 := HR4.out.ch gC (no5 _ (by omega))
    have h5 := (gC.block _ (lt_of_block HH4.out) (no5 _ (by omega))).trans HH4.out
    have k5 := (gC.block _ (lt_of_block HK4.out) (no5 _ (by omega))).trans HK4.out
    obtain ⟨c0, c1, c2, c3, c4⟩ := f5.cells
    obtain ⟨z0, z1, z2, z3, z4⟩ := R5.cells
    obtain ⟨zf0, zf1, zf2, zf3, zf4⟩ := R5.fz
    have u0 := cell_of h5 0
    have u1 := cell_of h5 1
    have v0 := cell_of k5 0
    have v1 := cell_of k5 1
    simp only [List.getElem?_toArray, List.getElem?_cons_zero, List.getElem?_cons_succ] at u0 u1 v0 v1
    have l4 := f5.lt
    have l5 := R5.lt
    have l6 := lt_of_block h5
    have l7 := lt_of_block k5
    have p1 : ¬ (w2.heap.size = w.heap.size + 1 + 1) := by omega
    have p2 : ¬ (w1.heap.size = w.heap.size + 1 + 1) := by omega
    have p3 : ¬ (w2.heap.size + 1 = w.heap.size + 1 + 1) := by omega
    have HP5 := hid p5
    have HB5 := hid b5
    have HC := hid gC
    clear hW4 g5 p5 b5 gC f5 R5 h5 k5 no5
    refine wp_region_held_drew (S := fun w' => w'.cell? ⟨w2.heap.size, 0, none⟩ = some (.int .i64 L) ∧ w'.cell? ⟨w2.heap.size, 1, none⟩ = some (.slice a1 n1 q1) ∧ w'.cell? ⟨w2.heap.size, 2, none⟩ = some (.slice a2 n2 q2) ∧ w'.cell? ⟨w2.heap.size, 3, none⟩ = some (.slice a3 n3 q3) ∧ w'.cell? ⟨w2.heap.size, 4, none⟩ = some (.slice a4 n4 q4) ∧ w'.cell? ⟨w1.heap.size, 0, none⟩ = some (.int .i64 y1) ∧ w'.cell? ⟨w1.heap.size, 1, none⟩ = some (.int .i64 y2) ∧ w'.cell? ⟨w2.heap.size + 1, 0, none⟩ = some (.int .i64 y1) ∧ w'.cell? ⟨w2.heap.size + 1, 1, none⟩ = some (.int .i64 y2)) (by kernel_rfl) (by exact ⟨c0, c1, c2, c3, c4, v0, v1, u0, u1⟩) (fun _ => ?_)
    refine takeS_on (i := 0) 49 (v := ?v292) rfl rfl (by kernel_rfl) (by kernel_rfl) (by kernel_rfl) (fun _ _ _ h => h) (by kernel_rfl) ?hy292 (by exact ⟨c0, c1, c2, c3, c4, v0, v1, u0, u1⟩) ?_
    case hy292 => (intro w' hSw; go_simp; try (with_reducible rfl))
    simp only [Act.put, List.setIfInBounds_toArray, List.set_cons_zero, List.set_cons_succ]
    refine takeS_on (i := 1) 50 (v := ?v293) rfl rfl (by kernel_rfl) (by kernel_rfl) (by kernel_rfl) (fun _ _ _ h => h) (by kernel_rfl) ?hy293 (by exact ⟨c0, c1, c2, c3, c4, v0, v1, u0, u1⟩) ?_
    case hy293 => (intro w' hSw; go_simp; try (with_reducible rfl))
    simp only [Act.put, List.setIfInBounds_toArray, List.set_cons_zero, List.set_cons_succ]
    refine takeS_on (i := 2) 51 (v := ?v294) rfl rfl (by kernel_rfl) (by kernel_rfl) (by kernel_rfl) (fun _ _ _ h => h) (by kernel_rfl) ?hy294 (by exact ⟨c0, c1, c2, c3, c4, v0, v1, u0, u1⟩) ?_
    case hy294 => (intro w' hSw; go_simp; try (with_reducible rfl))
    simp only [Act.put, List.setIfInBounds_toArray, List.set_cons_zero, List.set_cons_succ]
    refine takeS_on (i := 3) 52 (v := ?v295) rfl rfl (by kernel_rfl) (by kernel_rfl) (by kernel_rfl) (fun _ _ _ h => h) (by kernel_rfl) ?hy295 (by exact ⟨c0, c1, c2, c3, c4, v0, v1, u0, u1⟩) ?_
    case hy295 => (intro w' hSw; go_simp; try (with_reducible rfl))
    simp only [Act.put, List.setIfInBounds_toArray, List.set_cons_zero, List.set_cons_succ]
    refine takeS_on (i := 4) 53 (v := ?v296) rfl rfl (by kernel_rfl) (by kernel_rfl) (by kernel_rfl) (fun _ _ _ h => h) (by kernel_rfl) ?hy296 (by exact ⟨c0, c1, c2, c3, c4, v0, v1, u0, u1⟩) ?_
    case hy296 => (intro w' hSw; go_simp; try (with_reducible rfl))
    simp only [Act.put, List.setIfInBounds_toArray, List.set_cons_zero, List.set_cons_succ]
    refine takeS_on (i := 5) 54 (v := ?v297) rfl rfl (by kernel_rfl) (by kernel_rfl) (by kernel_rfl) (fun _ _ _ h => h) (by kernel_rfl) ?hy297 (by exact ⟨c0, c1, c2, c3, c4, v0, v1, u0, u1⟩) ?_
    case hy297 => (intro w' hSw; go_simp; try (with_reducible rfl))
    simp only [Act.put, List.setIfInBounds_toArray, List.set_cons_zero, List.set_cons_succ]
    refine takeS_on (i := 6) 55 (v := ?v298) rfl rfl (by kernel_rfl) (by kernel_rfl) (by kernel_rfl) (fun _ _ _ h => h) (by kernel_rfl) ?hy298 (by exact ⟨c0, c1, c2, c3, c4, v0, v1, u0, u1⟩) ?_
    case hy298 => (intro w' hSw; go_simp; try (with_reducible rfl))
    simp only [Act.put, List.setIfInBounds_toArray, List.set_cons_zero, List.set_cons_succ]
    refine takeS_on (i := 7) 56 (v := ?v299) rfl rfl (by kernel_rfl) (by kernel_rfl) (by kernel_rfl) (fun _ _ _ h => h) (by kernel_rfl) ?hy299 (by exact ⟨c0, c1, c2, c3, c4, v0, v1, u0, u1⟩) ?_
    case hy299 => (intro w' hSw; go_simp; try (with_reducible rfl))
    simp only [Act.put, List.setIfInBounds_toArray, List.set_cons_zero, List.set_cons_succ]
    refine takeS_on (i := 8) 57 (v := ?v300) rfl rfl (by kernel_rfl) (by kernel_rfl) (by kernel_rfl) (fun _ _ _ h => h) (by kernel_rfl) ?hy300 (by exact ⟨c0, c1, c2, c3, c4, v0, v1, u0, u1⟩) ?_
    case hy300 => (intro w' hSw; go_simp; try (with_reducible rfl))
    simp only [Act.put, List.setIfInBounds_toArray, List.set_cons_zero, List.set_cons_succ]
    refine takeS_on (i := 9) 58 (v := ?v301) rfl rfl (by kernel_rfl) (by kernel_rfl) (by kernel_rfl) (fun _ _ _ h => h) (by kernel_rfl) ?hy301 (by exact ⟨c0, c1, c2, c3, c4, v0, v1, u0, u1⟩) ?_
    case hy301 => (intro w' hSw; go_simp; try (with_reducible rfl))
    simp only [Act.put, List.setIfInBounds_toArray, List.set_cons_zero, List.set_cons_succ]
    refine wpAnyH_ready (rs := [10]) (by kernel_rfl) (by simp) (AllReadyH.cons rfl (fun K hK => ?_) AllReadyH.nil)
    go_simp
    have C8 := ((((((Ch.refl (Only (w.heap.size + 1 + 1)) w5).own 0 (.int .i64 L)).own 1 (.slice a1 n1 q1)).own 2 (.slice a2 n2 q2)).own 3 (.slice a3 n3 q3)).own 4 (.slice a4 n4 q4)).drew
    refine hK.out _ _ (by exact ⟨(C8.cell l4 p1).trans c0, (C8.cell l4 p1).trans c1, (C8.cell l4 p1).trans c2, (C8.cell l4 p1).trans c3, (C8.cell l4 p1).trans c4, (C8.cell l7 p2).trans v0, (C8.cell l7 p2).trans v1, (C8.cell l6 p3).trans u0, (C8.cell l6 p3).trans u1⟩) (fun _ => ?_)
    clear hK K
    refine takeS_on (i := 11) 9 (v := ?v302) rfl rfl (by kernel_rfl) (by kernel_rfl) (by kernel_rfl) (fun _ _ _ h => h) (by kernel_rfl) ?hy302 (by exact ⟨(C8.cell l4 p1).trans c0, (C8.cell l4 p1).trans c1, (C8.cell l4 p1).trans c2, (C8.cell l4 p1).trans c3, (C8.cell l4 p1).trans c4, (C8.cell l7 p2).trans v0, (C8.cell l7 p2).trans v1, (C8.cell l6 p3).trans u0, (C8.cell l6 p3).trans u1⟩) ?_
    case hy302 => (intro w' hSw; go_simp; try (with_reducible rfl))
    simp only [Act.put, List.setIfInBounds_toArray, List.set_cons_zero, List.set_cons_succ]
    refine takeS_on (i := 12) 10 (v := ?v303) rfl rfl (by kernel_rfl) (by kernel_rfl) (by kernel_rfl) (fun _ _ _ h => h) (by kernel_rfl) ?hy303 (by exact ⟨(C8.cell l4 p1).trans c0, (C8.cell l4 p1).trans c1, (C8.cell l4 p1).trans c2, (C8.cell l4 p1).trans c3, (C8.cell l4 p1).trans c4, (C8.cell l7 p2).trans v0, (C8.cell l7 p2).trans v1, (C8.cell l6 p3).trans u0, (C8.cell l6 p3).trans u1⟩) ?_
    case hy303 => (intro w' hSw; go_simp; try (with_reducible rfl))
    simp only [Act.put, List.setIfInBounds_toArray, List.set_cons_zero, List.set_cons_succ]
    refine wpAnyH_done (by kernel_rfl) ?_ _
    go_wp2
    have loc : ∀ q, Blk (.slice ao5 (nH + 1) cap5) q → Blk (.slice ha nH hc) q ∨ w2.heap.size ≤ q := fun q e => (HB5.out q e).imp id (fun a => Nat.le_trans HG4.out.size a)
    have pp := HP5.out.ch C8 (fun q a e => by
      have e1 : q = w.heap.size + 1 + 1 := e
      rcases loc q a with a | a
      · have := (HJ.out.p.blk a).2
        omega
      · omega)
    have hJ := HJ.out.after' (N := W0.heap.size) (T := fun q => Blk (.slice ha nH hc) q ∨ q = w.heap.size + 1 + 1) HI1.out ((HG0.out.mono (T := S) (fun q e => e.elim)).trans' HG1.out) HG0.out.size HG1.out.size HN1.out HR2.out HG2.out (((HG4.out.mono (T := fun q => Blk (.slice ha nH hc) q ∨ q = w.heap.size + 1 + 1) (fun q e => e.elim)).trans' (HC.out.mono (fun q e => .inl (.inl e)))).trans' (C8.mono (fun q e => .inl (.inr e)))) (fun q e => e.symm.imp (fun e1 => by omega) id) HM.out pp loc
    exact bodyPost_ret (v := .tuple #[.agg #[.int .i64 L, .slice a1 n1 q1, .slice a2 n2 q2, .slice a3 n3 q3, .slice a4 n4 q4], .slice ao5 (nH + 1) cap5, .bool true]) (by simp [results, Try.results23, go_sem, z0, z1, z2, z3, z4]) rfl ⟨_, _, _, _, _, _, _, _, _, gs ++ [(y1, y2)], rfl, hJ.1, by simp, hJ.2, fun q e => (HN1.out q e).imp id (fun e => Nat.le_trans HG0.out.size e), fun q e => e.1.imp id (fun e => Nat.le_trans HG0.out.size (Nat.le_trans HG1.out.size e)), fun q e => (loc q e).imp id (fun e => by have := HG0.out.size; have := HG1.out.size; have := HG2.out.size; omega)⟩
  · have hf' : (y3 == 0) = false := by simpa using hf
    clear K2 R2
    obtain ⟨W4, hW4⟩ : ∃ W, W = (w2.alloc (.cells #[.int .i64 L, .slice a1 n1 q1, .slice a2 n2 q2, .slice a3 n3 q3, .slice a4 n4 q4] 45)).alloc (.cells #[.int .i64 y1, .int .i64 y2] 34) := ⟨_, rfl⟩
    have g4 : Ch NoB w2 W4 := by rw [hW4]; exact ((Ch.refl _ _).alloc _).alloc _
    have f4 : Fv 45 W4 w2.heap.size (.int .i64 L) (.slice a1 n1 q1) (.slice a2 n2 q2) (.slice a3 n3 q3) (.slice a4 n4 q4) := by rw [hW4]; exact (Fv.new _ w2 _ _ _ _ _).alloc _
    have h4 : W4.heap[w2.heap.size + 1]? = some (.cells #[.int .i64 y1, .int .i64 y2] 34 (0, 0)) := by
      rw [hW4]
      have z := (MapKept.heap_alloc (w2.alloc (.cells #[.int .i64 L, .slice a1 n1 q1, .slice a2 n2 q2, .slice a3 n3 q3, .slice a4 n4 q4] 45)) (.cells #[.int .i64 y1, .int .i64 y2] 34)).1
      rw [World.size_alloc] at z
      exact z
    have k4 := ((HG2.out.trans' g4).block _ (lt_of_block HKG.out) (noB _)).trans HKG.out
    have R4 := HR1.out.ch (HG2.out.trans' g4) (noB _)
    have HG4 := hid g4
    have HR4 := hid R4
    go_wp2_with fail
    rw [← hW4]
    obtain ⟨c0, c1, c2, c3, c4⟩ := f4.cells
    obtain ⟨z0, z1, z2, z3, z4⟩ := R4.cells
    obtain ⟨zf0, zf1, zf2, zf3, zf4⟩ := R4.fz
    have u0 := cell_of h4 0
    have u1 := cell_of h4 1
    have v0 := cell_of k4 0
    have v1 := cell_of k4 1
    simp only [List.getElem?_toArray, List.getElem?_cons_zero, List.getElem?_cons_succ] at u0 u1 v0 v1
    have l4 := f4.lt
    have l5 := R4.lt
    have l6 := lt_of_block h4
    have l7 := lt_of_block k4
    have p1 : ¬ (w2.heap.size = w.heap.size + 1 + 1) := by omega
    have p2 : ¬ (w1.heap.size = w.heap.size + 1 + 1) := by omega
    have p3 : ¬ (w2.heap.size + 1 = w.heap.size + 1 + 1) := by omega
    clear hW4 g4 f4 h4 k4 R4
    refine wp_region_held_drew (S := fun w' => w'.cell? ⟨w2.heap.size, 0, none⟩ = some (.int .i64 L) ∧ w'.cell? ⟨w2.heap.size, 1, none⟩ = some (.slice a1 n1 q1) ∧ w'.cell? ⟨w2.heap.size, 2, none⟩ = some (.slice a2 n2 q2) ∧ w'.cell? ⟨w2.heap.size, 3, none⟩ = some (.slice a3 n3 q3) ∧ w'.cell? ⟨w2.heap.size, 4, none⟩ = some (.slice a4 n4 q4) ∧ w'.cell? ⟨w1.heap.size, 0, none⟩ = some (.int .i64 y1) ∧ w'.cell? ⟨w1.heap.size, 1, none⟩ = some (.int .i64 y2) ∧ w'.cell? ⟨w2.heap.size + 1, 0, none⟩ = some (.int .i64 y1) ∧ w'.cell? ⟨w2.heap.size + 1, 1, none⟩ = some (.int .i64 y2)) (by kernel_rfl) (by exact ⟨c0, c1, c2, c3, c4, v0, v1, u0, u1⟩) (fun _ => ?_)
    refine takeS_on (i := 0) 49 (v := ?v92) rfl rfl (by kernel_rfl) (by kernel_rfl) (by kernel_rfl) (fun _ _ _ h => h) (by kernel_rfl) ?hy92 (by exact ⟨c0, c1, c2, c3, c4, v0, v1, u0, u1⟩) ?_
    case hy92 => (intro w' hSw; go_simp; try (with_reducible rfl))
    simp only [Act.put, List.setIfInBounds_toArray, List.set_cons_zero, List.set_cons_succ]
    refine takeS_on (i := 1) 50 (v := ?v93) rfl rfl (by kernel_rfl) (by kernel_rfl) (by kernel_rfl) (fun _ _ _ h => h) (by kernel_rfl) ?hy93 (by exact ⟨c0, c1, c2, c3, c4, v0, v1, u0, u1⟩) ?_
    case hy93 => (intro w' hSw; go_simp; try (with_reducible rfl))
    simp only [Act.put, List.setIfInBounds_toArray, List.set_cons_zero, List.set_cons_succ]
    refine takeS_on (i := 2) 51 (v := ?v94) rfl rfl (by kernel_rfl) (by kernel_rfl) (by kernel_rfl) (fun _ _ _ h => h) (by kernel_rfl) ?hy94 (by exact ⟨c0, c1, c2, c3, c4, v0, v1, u0, u1⟩) ?_
    case hy94 => (intro w' hSw; go_simp; try (with_reducible rfl))
    simp only [Act.put, List.setIfInBounds_toArray, List.set_cons_zero, List.set_cons_succ]
    refine takeS_on (i := 3) 52 (v := ?v95) rfl rfl (by kernel_rfl) (by kernel_rfl) (by kernel_rfl) (fun _ _ _ h => h) (by kernel_rfl) ?hy95 (by exact ⟨c0, c1, c2, c3, c4, v0, v1, u0, u1⟩) ?_
    case hy95 => (intro w' hSw; go_simp; try (with_reducible rfl))
    simp only [Act.put, List.setIfInBounds_toArray, List.set_cons_zero, List.set_cons_succ]
    refine takeS_on (i := 4) 53 (v := ?v96) rfl rfl (by kernel_rfl) (by kernel_rfl) (by kernel_rfl) (fun _ _ _ h => h) (by kernel_rfl) ?hy96 (by exact ⟨c0, c1, c2, c3, c4, v0, v1, u0, u1⟩) ?_
    case hy96 => (intro w' hSw; go_simp; try (with_reducible rfl))
    simp only [Act.put, List.setIfInBounds_toArray, List.set_cons_zero, List.set_cons_succ]
    refine takeS_on (i := 5) 54 (v := ?v97) rfl rfl (by kernel_rfl) (by kernel_rfl) (by kernel_rfl) (fun _ _ _ h => h) (by kernel_rfl) ?hy97 (by exact ⟨c0, c1, c2, c3, c4, v0, v1, u0, u1⟩) ?_
    case hy97 => (intro w' hSw; go_simp; try (with_reducible rfl))
    simp only [Act.put, List.setIfInBounds_toArray, List.set_cons_zero, List.set_cons_succ]
    refine takeS_on (i := 6) 55 (v := ?v98) rfl rfl (by kernel_rfl) (by kernel_rfl) (by kernel_rfl) (fun _ _ _ h => h) (by kernel_rfl) ?hy98 (by exact ⟨c0, c1, c2, c3, c4, v0, v1, u0, u1⟩) ?_
    case hy98 => (intro w' hSw; go_simp; try (with_reducible rfl))
    simp only [Act.put, List.setIfInBounds_toArray, List.set_cons_zero, List.set_cons_succ]
    refine takeS_on (i := 7) 56 (v := ?v99) rfl rfl (by kernel_rfl) (by kernel_rfl) (by kernel_rfl) (fun _ _ _ h => h) (by kernel_rfl) ?hy99 (by exact ⟨c0, c1, c2, c3, c4, v0, v1, u0, u1⟩) ?_
    case hy99 => (intro w' hSw; go_simp; try (with_reducible rfl))
    simp only [Act.put, List.setIfInBounds_toArray, List.set_cons_zero, List.set_cons_succ]
    refine takeS_on (i := 8) 57 (v := ?v100) rfl rfl (by kernel_rfl) (by kernel_rfl) (by kernel_rfl) (fun _ _ _ h => h) (by kernel_rfl) ?hy100 (by exact ⟨c0, c1, c2, c3, c4, v0, v1, u0, u1⟩) ?_
    case hy100 => (intro w' hSw; go_simp; try (with_reducible rfl))
    simp only [Act.put, List.setIfInBounds_toArray, List.set_cons_zero, List.set_cons_succ]
    refine takeS_on (i := 9) 58 (v := ?v101) rfl rfl (by kernel_rfl) (by kernel_rfl) (by kernel_rfl) (fun _ _ _ h => h) (by kernel_rfl) ?hy101 (by exact ⟨c0, c1, c2, c3, c4, v0, v1, u0, u1⟩) ?_
    case hy101 => (intro w' hSw; go_simp; try (with_reducible rfl))
    simp only [Act.put, List.setIfInBounds_toArray, List.set_cons_zero, List.set_cons_succ]
    refine wpAnyH_ready (rs := [10]) (by kernel_rfl) (by simp) (AllReadyH.cons rfl (fun K hK => ?_) AllReadyH.nil)
    go_simp
    have C8 := ((((((Ch.refl (Only (w.heap.size + 1 + 1)) W4).own 0 (.int .i64 L)).own 1 (.slice a1 n1 q1)).own 2 (.slice a2 n2 q2)).own 3 (.slice a3 n3 q3)).own 4 (.slice a4 n4 q4)).drew
    refine hK.out _ _ (by exact ⟨(C8.cell l4 p1).trans c0, (C8.cell l4 p1).trans c1, (C8.cell l4 p1).trans c2, (C8.cell l4 p1).trans c3, (C8.cell l4 p1).trans c4, (C8.cell l7 p2).trans v0, (C8.cell l7 p2).trans v1, (C8.cell l6 p3).trans u0, (C8.cell l6 p3).trans u1⟩) (fun _ => ?_)
    clear hK K
    refine takeS_on (i := 11) 9 (v := ?v102) rfl rfl (by kernel_rfl) (by kernel_rfl) (by kernel_rfl) (fun _ _ _ h => h) (by kernel_rfl) ?hy102 (by exact ⟨(C8.cell l4 p1).trans c0, (C8.cell l4 p1).trans c1, (C8.cell l4 p1).trans c2, (C8.cell l4 p1).trans c3, (C8.cell l4 p1).trans c4, (C8.cell l7 p2).trans v0, (C8.cell l7 p2).trans v1, (C8.cell l6 p3).trans u0, (C8.cell l6 p3).trans u1⟩) ?_
    case hy102 => (intro w' hSw; go_simp; try (with_reducible rfl))
    simp only [Act.put, List.setIfInBounds_toArray, List.set_cons_zero, List.set_cons_succ]
    refine takeS_on (i := 12) 10 (v := ?v103) rfl rfl (by kernel_rfl) (by kernel_rfl) (by kernel_rfl) (fun _ _ _ h => h) (by kernel_rfl) ?hy103 (by exact ⟨(C8.cell l4 p1).trans c0, (C8.cell l4 p1).trans c1, (C8.cell l4 p1).trans c2, (C8.cell l4 p1).trans c3, (C8.cell l4 p1).trans c4, (C8.cell l7 p2).trans v0, (C8.cell l7 p2).trans v1, (C8.cell l6 p3).trans u0, (C8.cell l6 p3).trans u1⟩) ?_
    case hy103 => (intro w' hSw; go_simp; try (with_reducible rfl))
    simp only [Act.put, List.setIfInBounds_toArray, List.set_cons_zero, List.set_cons_succ]
    refine wpAnyH_done (by kernel_rfl) ?_ _
    go_wp2
    have hJ := HJ.out.after (N := W0.heap.size) (T := Only (w.heap.size + 1 + 1)) HI1.out ((HG0.out.mono (T := S) (fun q e => e.elim)).trans' HG1.out) HG0.out.size HG1.out.size HN1.out HR2.out HG2.out ((HG4.out.mono (T := Only (w.heap.size + 1 + 1)) (fun q e => e.elim)).trans' C8) (fun q e => by have e1 : q = w.heap.size + 1 + 1 := e; omega) HM.out
    exact bodyPost_ret (v := .tuple #[.agg #[.int .i64 L, .slice a1 n1 q1, .slice a2 n2 q2, .slice a3 n3 q3, .slice a4 n4 q4], .slice ha nH hc, .bool true]) (by simp [results, Try.results23, go_sem, z0, z1, z2, z3, z4]) rfl ⟨_, _, _, _, _, _, _, _, _, gs, rfl, hJ.1, by omega, hJ.2, fun q e => (HN1.out q e).imp id (fun e => Nat.le_trans HG0.out.size e), fun q e => e.1.imp id (fun e => Nat.le_trans HG0.out.size (Nat.le_trans HG1.out.size e)), fun q e => .inl e⟩
end Go.Proofs.Ytfbkifkfhgkdbab.Sb
