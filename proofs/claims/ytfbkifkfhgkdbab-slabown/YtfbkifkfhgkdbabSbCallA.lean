/-
  What the law's calls answers and leaves where it asks who is alive. Condition: slab, state and list of names are there, apart from one another, and may be.
-/
import Derived.Test.YtfbkifkfhgkdbabSbCallT
namespace Go.Proofs.Ytfbkifkfhgkdbab.Sb
open Go.RowKit
attribute [local go_sem ↓] Go.wp_at_zero Go.wp_at_succ

/-- nothing that was there has turned -/
theorem ch_of {w w' : World} (h : Hid (w'.os = w.os ∧ w'.tape = w.tape ∧ w'.output = w.output ∧ w.heap.size ≤ w'.heap.size ∧ ∀ k, k < w.heap.size → w'.heap[k]? = w.heap[k]?)) : Ch NoB w w' := ⟨h.out.1, h.out.2.1, h.out.2.2.1, h.out.2.2.2.1, fun k hk _ => h.out.2.2.2.2 k hk⟩
theorem hid_of {w w' : World} (h : Ch NoB w w') : Hid (w'.os = w.os ∧ w'.tape = w.tape ∧ w'.output = w.output ∧ w.heap.size ≤ w'.heap.size ∧ ∀ k, k < w.heap.size → w'.heap[k]? = w.heap[k]?) := ⟨h.os, h.tape, h.output, h.size, fun k hk => h.block k hk (noB _)⟩
/-- what is asked with stays as it is -/
theorem keep_ask {w W0 wn wb w' : World} {m0 m1 m2 m3 m4 o3 o4 g0 g1 : Value} (hl : w.heap.size + 1 + 1 < W0.heap.size) (hw : W0.heap.size ≤ wn.heap.size) (g : Ch NoB wb w')
    (h : wb.cell? ⟨w.heap.size, 0, none⟩ = some m0 ∧ wb.cell? ⟨w.heap.size, 1, none⟩ = some m1 ∧ wb.cell? ⟨w.heap.size, 2, none⟩ = some m2 ∧ wb.cell? ⟨w.heap.size, 3, none⟩ = some m3 ∧ wb.cell? ⟨w.heap.size, 4, none⟩ = some m4 ∧ wb.cell? ⟨w.heap.size + 1, 3, none⟩ = some o3 ∧ wb.cell? ⟨w.heap.size + 1, 4, none⟩ = some o4 ∧ wb.cell? ⟨wn.heap.size, 0, none⟩ = some g0 ∧ wb.cell? ⟨wn.heap.size, 1, none⟩ = some g1 ∧ wn.heap.size < wb.heap.size ∧ Hid (wb.os = w.os ∧ wb.tape = w.tape ∧ wb.output = w.output ∧ w.heap.size ≤ wb.heap.size ∧ ∀ k, k < w.heap.size → wb.heap[k]? = w.heap[k]?)) :
    w'.cell? ⟨w.heap.size, 0, none⟩ = some m0 ∧ w'.cell? ⟨w.heap.size, 1, none⟩ = some m1 ∧ w'.cell? ⟨w.heap.size, 2, none⟩ = some m2 ∧ w'.cell? ⟨w.heap.size, 3, none⟩ = some m3 ∧ w'.cell? ⟨w.heap.size, 4, none⟩ = some m4 ∧ w'.cell? ⟨w.heap.size + 1, 3, none⟩ = some o3 ∧ w'.cell? ⟨w.heap.size + 1, 4, none⟩ = some o4 ∧ w'.cell? ⟨wn.heap.size, 0, none⟩ = some g0 ∧ w'.cell? ⟨wn.heap.size, 1, none⟩ = some g1 ∧ wn.heap.size < w'.heap.size ∧ Hid (w'.os = w.os ∧ w'.tape = w.tape ∧ w'.output = w.output ∧ w.heap.size ≤ w'.heap.size ∧ ∀ k, k < w.heap.size → w'.heap[k]? = w.heap[k]?) := by
  obtain ⟨h0, h1, h2, h3, h4, h5, h6, h7, h8, h9, h10⟩ := h
  have c := ch_of h10
  have a0 : w.heap.size < wb.heap.size := by omega
  have a1 : w.heap.size + 1 < wb.heap.size := by omega
  exact ⟨(g.cell a0 (noB _)).trans h0, (g.cell a0 (noB _)).trans h1, (g.cell a0 (noB _)).trans h2, (g.cell a0 (noB _)).trans h3, (g.cell a0 (noB _)).trans h4, (g.cell a1 (noB _)).trans h5, (g.cell a1 (noB _)).trans h6, (g.cell h9 (noB _)).trans h7, (g.cell h9 (noB _)).trans h8, Nat.lt_of_lt_of_le h9 g.size, hid_of (c.trans' g)⟩
theorem keep_store {w W0 wn wb w' : World} {m0 m1 m2 m3 m4 o3 o4 g0 g1 : Value} (hl : w.heap.size + 1 + 1 < W0.heap.size) (hw : W0.heap.size ≤ wn.heap.size) (g : Ch (Only (w.heap.size + 1 + 1)) wb w')
    (h : wb.cell? ⟨w.heap.size, 0, none⟩ = some m0 ∧ wb.cell? ⟨w.heap.size, 1, none⟩ = some m1 ∧ wb.cell? ⟨w.heap.size, 2, none⟩ = some m2 ∧ wb.cell? ⟨w.heap.size, 3, none⟩ = some m3 ∧ wb.cell? ⟨w.heap.size, 4, none⟩ = some m4 ∧ wb.cell? ⟨w.heap.size + 1, 3, none⟩ = some o3 ∧ wb.cell? ⟨w.heap.size + 1, 4, none⟩ = some o4 ∧ wb.cell? ⟨wn.heap.size, 0, none⟩ = some g0 ∧ wb.cell? ⟨wn.heap.size, 1, none⟩ = some g1 ∧ wn.heap.size < wb.heap.size ∧ Hid (wb.os = w.os ∧ wb.tape = w.tape ∧ wb.output = w.output ∧ w.heap.size ≤ wb.heap.size ∧ ∀ k, k < w.heap.size → wb.heap[k]? = w.heap[k]?)) :
    w'.cell? ⟨w.heap.size, 0, none⟩ = some m0 ∧ w'.cell? ⟨w.heap.size, 1, none⟩ = some m1 ∧ w'.cell? ⟨w.heap.size, 2, none⟩ = some m2 ∧ w'.cell? ⟨w.heap.size, 3, none⟩ = some m3 ∧ w'.cell? ⟨w.heap.size, 4, none⟩ = some m4 ∧ w'.cell? ⟨w.heap.size + 1, 3, none⟩ = some o3 ∧ w'.cell? ⟨w.heap.size + 1, 4, none⟩ = some o4 ∧ w'.cell? ⟨wn.heap.size, 0, none⟩ = some g0 ∧ w'.cell? ⟨wn.heap.size, 1, none⟩ = some g1 ∧ wn.heap.size < w'.heap.size ∧ Hid (w'.os = w.os ∧ w'.tape = w.tape ∧ w'.output = w.output ∧ w.heap.size ≤ w'.heap.size ∧ ∀ k, k < w.heap.size → w'.heap[k]? = w.heap[k]?) := by
  obtain ⟨h0, h1, h2, h3, h4, h5, h6, h7, h8, h9, h10⟩ := h
  have c := ch_of h10
  have a0 : w.heap.size < wb.heap.size := by omega
  have a1 : w.heap.size + 1 < wb.heap.size := by omega
  have n0 : ¬ Only (w.heap.size + 1 + 1) w.heap.size := fun e => by have e1 : w.heap.size = w.heap.size + 1 + 1 := e; omega
  have n1 : ¬ Only (w.heap.size + 1 + 1) (w.heap.size + 1) := fun e => by have e1 : w.heap.size + 1 = w.heap.size + 1 + 1 := e; omega
  have n2 : ¬ Only (w.heap.size + 1 + 1) wn.heap.size := fun e => by have e1 : wn.heap.size = w.heap.size + 1 + 1 := e; omega
  exact ⟨(g.cell a0 n0).trans h0, (g.cell a0 n0).trans h1, (g.cell a0 n0).trans h2, (g.cell a0 n0).trans h3, (g.cell a0 n0).trans h4, (g.cell a1 n1).trans h5, (g.cell a1 n1).trans h6, (g.cell h9 n2).trans h7, (g.cell h9 n2).trans h8, Nat.lt_of_lt_of_le h9 g.size, hid_of (c.trans g (fun q e => .inr (by have e1 : q = w.heap.size + 1 + 1 := e; omega)))⟩
theorem Jn.same {S P : Nat → Prop} {base hb : Nat} {w w3 : World} {b : Nat} {L : Int} {x : Sl} {vg va vc vf v : Value} {cv : List Value} {gs : List (Int × Int)} (h : Jn S P base hb w b L x vg va vc vf cv v gs) (g : Ch NoB w w3) : Jn S P base hb w3 b L x vg va vc vf cv v gs :=
  { s := h.s.ch g (fun _ _ => noB _), r := h.r.ch g (fun _ _ _ => noB _), p := h.p.ch g (fun _ _ => noB _), m := h.m, sb := Nat.le_trans h.sb g.size, hb := Nat.le_trans h.hb g.size, sp := h.sp, vs := h.vs, vp := h.vp, pl := fun q a => Nat.lt_of_lt_of_le (h.pl q a) g.size }

set_option maxRecDepth 100000 in
set_option maxHeartbeats 1000000 in
theorem calls_ask (S P : Nat → Prop) (base hb b : Nat) (L d p pk s0 gn : Int) (x : Sl) (vg va vc vf v : Value) (cv : List Value) (gs : List (Int × Int)) (w : World) (h : Jn S P base hb w b L x vg va vc vf cv v gs) (d0 : (d == 0) = false) (d1 : (d == 1) = false) (d2 : (d == 2) = false) :
    Calls Try.prog 23 #[.pointer (some ⟨b, 0, none⟩), .agg #[.int .i64 L, vg, va, vc, vf], .agg #[.int .i64 d, .int .i64 p, .int .i64 pk, .int .i64 s0, .int .i64 gn], v] w fun e w' => Called S P base hb w b L v gs e w' := by
  obtain ⟨ga, gc, rfl⟩ := h.r.g.form
  obtain ⟨aa, ac, rfl⟩ := h.r.a.form
  obtain ⟨ca, cc, rfl⟩ := h.r.c.form
  obtain ⟨fa, fc, rfl⟩ := h.r.f.form
  obtain ⟨ha, hc, rfl⟩ := h.p.form
  obtain ⟨nG, hnG⟩ : ∃ n, n = (iv x.G).length := ⟨_, rfl⟩
  obtain ⟨nA, hnA⟩ : ∃ n, n = (bv x.A).length := ⟨_, rfl⟩
  obtain ⟨nC, hnC⟩ : ∃ n, n = cv.length := ⟨_, rfl⟩
  obtain ⟨nF, hnF⟩ : ∃ n, n = (iv x.F).length := ⟨_, rfl⟩
  obtain ⟨nH, hnH⟩ : ∃ n, n = gs.length := ⟨_, rfl⟩
  rw [← hnG, ← hnA, ← hnC, ← hnF, ← hnH] at h
  rw [← hnG, ← hnA, ← hnC, ← hnF, ← hnH]
  obtain ⟨W0, hW0⟩ : ∃ W0, W0 = ((w.alloc (.cells #[.int .i64 L, .slice ga nG gc, .slice aa nA ac, .slice ca nC cc, .slice fa nF fc] 45)).alloc (.cells #[.int .i64 d, .int .i64 p, .int .i64 pk, .int .i64 s0, .int .i64 gn] 49)).alloc (.cells #[.int .i64 0, .slice none 0 0, .slice none 0 0, .slice none 0 0, .slice none 0 0] 45) := ⟨_, rfl⟩
  have g0 : Ch NoB w W0 := by rw [hW0]; exact (((Ch.refl NoB w).alloc _).alloc _).alloc _
  have f0 : Fv 45 W0 w.heap.size (.int .i64 L) (.slice ga nG gc) (.slice aa nA ac) (.slice ca nC cc) (.slice fa nF fc) := by rw [hW0]; exact ((Fv.new 45 w _ _ _ _ _).alloc _).alloc _
  have o0 : Fv 49 W0 (w.heap.size + 1) (.int .i64 d) (.int .i64 p) (.int .i64 pk) (.int .i64 s0) (.int .i64 gn) := by
    have z := Fv.new 49 (w.alloc (.cells #[.int .i64 L, .slice ga nG gc, .slice aa nA ac, .slice ca nC cc, .slice fa nF fc] 45)) (.int .i64 d) (.int .i64 p) (.int .i64 pk) (.int .i64 s0) (.int .i64 gn)
    rw [World.size_alloc] at z
    rw [hW0]
    exact z.alloc _
  have r0 : Fv 45 W0 (w.heap.size + 1 + 1) (.int .i64 0) (.slice none 0 0) (.slice none 0 0) (.slice none 0 0) (.slice none 0 0) := by
    have z := Fv.new 45 ((w.alloc (.cells #[.int .i64 L, .slice ga nG gc, .slice aa nA ac, .slice ca nC cc, .slice fa nF fc] 45)).alloc (.cells #[.int .i64 d, .int .i64 p, .int .i64 pk, .int .i64 s0, .int .i64 gn] 49)) (.int .i64 0) (.slice none 0 0) (.slice none 0 0) (.slice none 0 0) (.slice none 0 0)
    rw [World.size_alloc, World.size_alloc] at z
    rw [hW0]
    exact z
  have hlt := h.s.lt
  have HJ := hid h
  have HF0 := hid f0
  have HO0 := hid o0
  have HR0 := hid r0
  have HG0 := hid g0
  have HLT := hid hlt
  have hl0 := r0.lt
  have HnH := hid hnH
  obtain ⟨y, hy⟩ : ∃ y, y = nameP gs pk (s0, gn) := ⟨_, rfl⟩
  have HNM := hid (name_any hb d p pk s0 gn _ gs W0 (h.p.ch g0 (fun _ _ => noB _)))
  have HM := hid h.m.ag.symm
  rw [← hy] at HNM
  clear h f0 o0 r0 g0 hlt hnG hnA hnC hnF hnH hy
  obtain ⟨y1, y2⟩ := y
  go_enter Try.func23, Try.ntmps23
  go_wp2_with fail
  rw [← hW0]
  clear hW0
  refine HNM.out.mono ?_
  rintro e wn ⟨rfl, gn'⟩
  obtain ⟨Wn, hWn⟩ : ∃ W, W = wn.alloc (.cells #[.int .i64 y1, .int .i64 y2] 34) := ⟨_, rfl⟩
  have gN : Ch NoB W0 Wn := by rw [hWn]; exact gn'.alloc _
  have kN : Wn.heap[wn.heap.size]? = some (.cells #[.int .i64 y1, .int .i64 y2] 34 (0, 0)) := by rw [hWn]; exact (MapKept.heap_alloc wn _).1
  have hwn := gn'.size
  obtain ⟨c0, c1, c2, c3, c4⟩ := (HF0.out.ch gN (noB _)).cells
  obtain ⟨e0, e1, e2, e3, e4⟩ := (HO0.out.ch gN (noB _)).cells
  have k0 := cell_of kN 0
  have k1 := cell_of kN 1
  simp only [List.getElem?_toArray, List.getElem?_cons_zero, List.getElem?_cons_succ] at k0 k1
  have hS0 := And.intro c0 (And.intro c1 (And.intro c2 (And.intro c3 (And.intro c4 (And.intro e3 (And.intro e4 (And.intro k0 (And.intro k1 (And.intro (lt_of_block kN) (hid_of (HG0.out.trans' gN)))))))))))
  have G0 := hid gN
  clear gn' gN kN c0 c1 c2 c3 c4 e0 e1 e2 e3 e4 k0 k1
  go_wp2_with fail
  rw [← hWn]
  clear hWn
  refine wp_region_held_drew (S := fun w' => w'.cell? ⟨w.heap.size, 0, none⟩ = some (.int .i64 L) ∧ w'.cell? ⟨w.heap.size, 1, none⟩ = some (.slice ga nG gc) ∧ w'.cell? ⟨w.heap.size, 2, none⟩ = some (.slice aa nA ac) ∧ w'.cell? ⟨w.heap.size, 3, none⟩ = some (.slice ca nC cc) ∧ w'.cell? ⟨w.heap.size, 4, none⟩ = some (.slice fa nF fc) ∧ w'.cell? ⟨w.heap.size + 1, 3, none⟩ = some (.int .i64 s0) ∧ w'.cell? ⟨w.heap.size + 1, 4, none⟩ = some (.int .i64 gn) ∧ w'.cell? ⟨wn.heap.size, 0, none⟩ = some (.int .i64 y1) ∧ w'.cell? ⟨wn.heap.size, 1, none⟩ = some (.int .i64 y2) ∧ wn.heap.size < w'.heap.size ∧ Hid (w'.os = w.os ∧ w'.tape = w.tape ∧ w'.output = w.output ∧ w.heap.size ≤ w'.heap.size ∧ ∀ k, k < w.heap.size → w'.heap[k]? = w.heap[k]?)) (by kernel_rfl) (by exact hS0) (fun _ => ?_)
  refine takeS_on (i := 0) 103 (v := ?v92) rfl rfl (by kernel_rfl) (by kernel_rfl) (by kernel_rfl) (fun _ _ _ h => h) (by kernel_rfl) ?hy92 (by exact hS0) ?_
  case hy92 => (intro w' hSw; go_simp; try (with_reducible rfl))
  simp only [Act.put, List.setIfInBounds_toArray, List.set_cons_zero, List.set_cons_succ]
  refine takeS_on (i := 1) 104 (v := ?v93) rfl rfl (by kernel_rfl) (by kernel_rfl) (by kernel_rfl) (fun _ _ _ h => h) (by kernel_rfl) ?hy93 (by exact hS0) ?_
  case hy93 => (intro w' hSw; go_simp; try (with_reducible rfl))
  simp only [Act.put, List.setIfInBounds_toArray, List.set_cons_zero, List.set_cons_succ]
  refine takeS_on (i := 2) 105 (v := ?v94) rfl rfl (by kernel_rfl) (by kernel_rfl) (by kernel_rfl) (fun _ _ _ h => h) (by kernel_rfl) ?hy94 (by exact hS0) ?_
  case hy94 => (intro w' hSw; go_simp; try (with_reducible rfl))
  simp only [Act.put, List.setIfInBounds_toArray, List.set_cons_zero, List.set_cons_succ]
  refine takeS_on (i := 3) 106 (v := ?v95) rfl rfl (by kernel_rfl) (by kernel_rfl) (by kernel_rfl) (fun _ _ _ h => h) (by kernel_rfl) ?hy95 (by exact hS0) ?_
  case hy95 => (intro w' hSw; go_simp; try (with_reducible rfl))
  simp only [Act.put, List.setIfInBounds_toArray, List.set_cons_zero, List.set_cons_succ]
  refine takeS_on (i := 5) 108 (v := ?v96) rfl rfl (by kernel_rfl) (by kernel_rfl) (by kernel_rfl) (fun _ _ _ h => h) (by kernel_rfl) ?hy96 (by exact hS0) ?_
  case hy96 => (intro w' hSw; go_simp; try (with_reducible rfl))
  simp only [Act.put, List.setIfInBounds_toArray, List.set_cons_zero, List.set_cons_succ]
  refine takeS_on (i := 6) 109 (v := ?v97) rfl rfl (by kernel_rfl) (by kernel_rfl) (by kernel_rfl) (fun _ _ _ h => h) (by kernel_rfl) ?hy97 (by exact hS0) ?_
  case hy97 => (intro w' hSw; go_simp; try (with_reducible rfl))
  simp only [Act.put, List.setIfInBounds_toArray, List.set_cons_zero, List.set_cons_succ]
  refine wpAnyH_ready (rs := [4]) (by kernel_rfl) (by simp) (AllReadyH.cons rfl (fun K hK => ?_) AllReadyH.nil)
  go_simp
  refine (alive_any base b L y1 y2 x _ ((HJ.out.s.ch (by first | exact ch_of hS0.2.2.2.2.2.2.2.2.2.2 | exact (ch_of hS0.2.2.2.2.2.2.2.2.2.2).drew) (fun _ _ => noB _)).at) HM.out).mono ?_
  rintro e v1 ⟨rfl, k1⟩
  have hS1 : (v1.cell? ⟨w.heap.size, 0, none⟩ = some (.int .i64 L) ∧ v1.cell? ⟨w.heap.size, 1, none⟩ = some (.slice ga nG gc) ∧ v1.cell? ⟨w.heap.size, 2, none⟩ = some (.slice aa nA ac) ∧ v1.cell? ⟨w.heap.size, 3, none⟩ = some (.slice ca nC cc) ∧ v1.cell? ⟨w.heap.size, 4, none⟩ = some (.slice fa nF fc) ∧ v1.cell? ⟨w.heap.size + 1, 3, none⟩ = some (.int .i64 s0) ∧ v1.cell? ⟨w.heap.size + 1, 4, none⟩ = some (.int .i64 gn) ∧ v1.cell? ⟨wn.heap.size, 0, none⟩ = some (.int .i64 y1) ∧ v1.cell? ⟨wn.heap.size, 1, none⟩ = some (.int .i64 y2) ∧ wn.heap.size < v1.heap.size ∧ Hid (v1.os = w.os ∧ v1.tape = w.tape ∧ v1.output = w.output ∧ w.heap.size ≤ v1.heap.size ∧ ∀ k, k < w.heap.size → v1.heap[k]? = w.heap[k]?)) := by first | exact keep_ask hl0 hwn k1 hS0 | exact keep_ask hl0 hwn (Ch.trans' (Ch.drew (Ch.refl NoB _)) k1) hS0
  have G1 : Hid (Ch NoB W0 v1) := by first | exact G0.out.trans' k1 | exact G0.out.drew.trans' k1
  clear k1
  refine hK.out _ _ (by exact hS1) (fun _ => ?_)
  clear hK K
  refine wpAnyH_ready (rs := [7]) (by kernel_rfl) (by simp) (AllReadyH.cons rfl (fun K hK => ?_) AllReadyH.nil)
  go_simp
  refine (ralive_any P L y1 y2 _ _ _ _ cv x _ (HJ.out.r.ch (by first | exact ch_of hS1.2.2.2.2.2.2.2.2.2.2 | exact (ch_of hS1.2.2.2.2.2.2.2.2.2.2).drew) (fun _ _ _ => noB _)) HM.out).mono ?_
  rintro e v2 ⟨rfl, k2⟩
  have hS2 : (v2.cell? ⟨w.heap.size, 0, none⟩ = some (.int .i64 L) ∧ v2.cell? ⟨w.heap.size, 1, none⟩ = some (.slice ga nG gc) ∧ v2.cell? ⟨w.heap.size, 2, none⟩ = some (.slice aa nA ac) ∧ v2.cell? ⟨w.heap.size, 3, none⟩ = some (.slice ca nC cc) ∧ v2.cell? ⟨w.heap.size, 4, none⟩ = some (.slice fa nF fc) ∧ v2.cell? ⟨w.heap.size + 1, 3, none⟩ = some (.int .i64 s0) ∧ v2.cell? ⟨w.heap.size + 1, 4, none⟩ = some (.int .i64 gn) ∧ v2.cell? ⟨wn.heap.size, 0, none⟩ = some (.int .i64 y1) ∧ v2.cell? ⟨wn.heap.size, 1, none⟩ = some (.int .i64 y2) ∧ wn.heap.size < v2.heap.size ∧ Hid (v2.os = w.os ∧ v2.tape = w.tape ∧ v2.output = w.output ∧ w.heap.size ≤ v2.heap.size ∧ ∀ k, k < w.heap.size → v2.heap[k]? = w.heap[k]?)) := by first | exact keep_ask hl0 hwn k2 hS1 | exact keep_ask hl0 hwn (Ch.trans' (Ch.drew (Ch.refl NoB _)) k2) hS1
  have G2 : Hid (Ch NoB W0 v2) := by first | exact G1.out.trans' k2 | exact G1.out.drew.trans' k2
  clear k2
  refine hK.out _ _ (by exact hS2) (fun _ => ?_)
  clear hK K
  refine takeS_on (i := 8) 111 (v := ?v98) rfl rfl (by kernel_rfl) (by kernel_rfl) (by kernel_rfl) (fun _ _ _ h => h) (by kernel_rfl) ?hy98 (by exact hS2) ?_
  case hy98 => (intro w' hSw; go_simp; try (with_reducible rfl))
  simp only [Act.put, List.setIfInBounds_toArray, List.set_cons_zero, List.set_cons_succ]
  refine takeS_on (i := 9) 112 (v := ?v99) rfl rfl (by kernel_rfl) (by kernel_rfl) (by kernel_rfl) (fun _ _ _ h => h) (by kernel_rfl) ?hy99 (by exact hS2) ?_
  case hy99 => (intro w' hSw; go_simp; try (with_reducible rfl))
  simp only [Act.put, List.setIfInBounds_toArray, List.set_cons_zero, List.set_cons_succ]
  refine takeS_on (i := 10) 113 (v := ?v100) rfl rfl (by kernel_rfl) (by kernel_rfl) (by kernel_rfl) (fun _ _ _ h => h) (by kernel_rfl) ?hy100 (by exact hS2) ?_
  case hy100 => (intro w' hSw; go_simp; try (with_reducible rfl))
  simp only [Act.put, List.setIfInBounds_toArray, List.set_cons_zero, List.set_cons_succ]
  refine takeS_on (i := 11) 114 (v := ?v101) rfl rfl (by kernel_rfl) (by kernel_rfl) (by kernel_rfl) (fun _ _ _ h => h) (by kernel_rfl) ?hy101 (by exact hS2) ?_
  case hy101 => (intro w' hSw; go_simp; try (with_reducible rfl))
  simp only [Act.put, List.setIfInBounds_toArray, List.set_cons_zero, List.set_cons_succ]
  refine takeS_on (i := 12) 115 (v := ?v102) rfl rfl (by kernel_rfl) (by kernel_rfl) (by kernel_rfl) (fun _ _ _ h => h) (by kernel_rfl) ?hy102 (by exact hS2) ?_
  case hy102 => (intro w' hSw; go_simp; try (with_reducible rfl))
  simp only [Act.put, List.setIfInBounds_toArray, List.set_cons_zero, List.set_cons_succ]
  refine takeS_on (i := 14) 117 (v := ?v103) rfl rfl (by kernel_rfl) (by kernel_rfl) (by kernel_rfl) (fun _ _ _ h => h) (by kernel_rfl) ?hy103 (by exact hS2) ?_
  case hy103 => (intro w' hSw; go_simp; try (with_reducible rfl))
  simp only [Act.put, List.setIfInBounds_toArray, List.set_cons_zero, List.set_cons_succ]
  refine takeS_on (i := 15) 118 (v := ?v104) rfl rfl (by kernel_rfl) (by kernel_rfl) (by kernel_rfl) (fun _ _ _ h => h) (by kernel_rfl) ?hy104 (by exact hS2) ?_
  case hy104 => (intro w' hSw; go_simp; try (with_reducible rfl))
  simp only [Act.put, List.setIfInBounds_toArray, List.set_cons_zero, List.set_cons_succ]
  refine takeS_on (i := 16) 119 (v := ?v105) rfl rfl (by kernel_rfl) (by kernel_rfl) (by kernel_rfl) (fun _ _ _ h => h) (by kernel_rfl) ?hy105 (by exact hS2) ?_
  case hy105 => (intro w' hSw; go_simp; try (with_reducible rfl))
  simp only [Act.put, List.setIfInBounds_toArray, List.set_cons_zero, List.set_cons_succ]
  refine wpAnyH_ready (rs := [13]) (by kernel_rfl) (by simp) (AllReadyH.cons rfl (fun K hK => ?_) AllReadyH.nil)
  go_simp
  refine (alive_any base b L s0 gn x _ ((HJ.out.s.ch (by first | exact ch_of hS2.2.2.2.2.2.2.2.2.2.2 | exact (ch_of hS2.2.2.2.2.2.2.2.2.2.2).drew) (fun _ _ => noB _)).at) HM.out).mono ?_
  rintro e v3 ⟨rfl, k3⟩
  have hS3 : (v3.cell? ⟨w.heap.size, 0, none⟩ = some (.int .i64 L) ∧ v3.cell? ⟨w.heap.size, 1, none⟩ = some (.slice ga nG gc) ∧ v3.cell? ⟨w.heap.size, 2, none⟩ = some (.slice aa nA ac) ∧ v3.cell? ⟨w.heap.size, 3, none⟩ = some (.slice ca nC cc) ∧ v3.cell? ⟨w.heap.size, 4, none⟩ = some (.slice fa nF fc) ∧ v3.cell? ⟨w.heap.size + 1, 3, none⟩ = some (.int .i64 s0) ∧ v3.cell? ⟨w.heap.size + 1, 4, none⟩ = some (.int .i64 gn) ∧ v3.cell? ⟨wn.heap.size, 0, none⟩ = some (.int .i64 y1) ∧ v3.cell? ⟨wn.heap.size, 1, none⟩ = some (.int .i64 y2) ∧ wn.heap.size < v3.heap.size ∧ Hid (v3.os = w.os ∧ v3.tape = w.tape ∧ v3.output = w.output ∧ w.heap.size ≤ v3.heap.size ∧ ∀ k, k < w.heap.size → v3.heap[k]? = w.heap[k]?)) := by first | exact keep_ask hl0 hwn k3 hS2 | exact keep_ask hl0 hwn (Ch.trans' (Ch.drew (Ch.refl NoB _)) k3) hS2
  have G3 : Hid (Ch NoB W0 v3) := by first | exact G2.out.trans' k3 | exact G2.out.drew.trans' k3
  clear k3
  refine hK.out _ _ (by exact hS3) (fun _ => ?_)
  clear hK K
  refine wpAnyH_ready (rs := [17]) (by kernel_rfl) (by simp) (AllReadyH.cons rfl (fun K hK => ?_) AllReadyH.nil)
  go_simp
  refine (ralive_any P L s0 gn _ _ _ _ cv x _ (HJ.out.r.ch (by first | exact ch_of hS3.2.2.2.2.2.2.2.2.2.2 | exact (ch_of hS3.2.2.2.2.2.2.2.2.2.2).drew) (fun _ _ _ => noB _)) HM.out).mono ?_
  rintro e v4 ⟨rfl, k4⟩
  have hS4 : (v4.cell? ⟨w.heap.size, 0, none⟩ = some (.int .i64 L) ∧ v4.cell? ⟨w.heap.size, 1, none⟩ = some (.slice ga nG gc) ∧ v4.cell? ⟨w.heap.size, 2, none⟩ = some (.slice aa nA ac) ∧ v4.cell? ⟨w.heap.size, 3, none⟩ = some (.slice ca nC cc) ∧ v4.cell? ⟨w.heap.size, 4, none⟩ = some (.slice fa nF fc) ∧ v4.cell? ⟨w.heap.size + 1, 3, none⟩ = some (.int .i64 s0) ∧ v4.cell? ⟨w.heap.size + 1, 4, none⟩ = some (.int .i64 gn) ∧ v4.cell? ⟨wn.heap.size, 0, none⟩ = some (.int .i64 y1) ∧ v4.cell? ⟨wn.heap.size, 1, none⟩ = some (.int .i64 y2) ∧ wn.heap.size < v4.heap.size ∧ Hid (v4.os = w.os ∧ v4.tape = w.tape ∧ v4.output = w.output ∧ w.heap.size ≤ v4.heap.size ∧ ∀ k, k < w.heap.size → v4.heap[k]? = w.heap[k]?)) := by first | exact keep_ask hl0 hwn k4 hS3 | exact keep_ask hl0 hwn (Ch.trans' (Ch.drew (Ch.refl NoB _)) k4) hS3
  have G4 : Hid (Ch NoB W0 v4) := by first | exact G3.out.trans' k4 | exact G3.out.drew.trans' k4
  clear k4
  refine hK.out _ _ (by exact hS4) (fun _ => ?_)
  clear hK K
  refine takeS_on (i := 18) 121 (v := ?v106) rfl rfl (by kernel_rfl) (by kernel_rfl) (by kernel_rfl) (fun _ _ _ h => h) (by kernel_rfl) ?hy106 (by exact hS4) ?_
  case hy106 => (intro w' hSw; go_simp; try (with_reducible rfl))
  simp only [Act.put, List.setIfInBounds_toArray, List.set_cons_zero, List.set_cons_succ]
  refine takeS_on (i := 19) 122 (v := ?v107) rfl rfl (by kernel_rfl) (by kernel_rfl) (by kernel_rfl) (fun _ _ _ h => h) (by kernel_rfl) ?hy107 (by exact hS4) ?_
  case hy107 => (intro w' hSw; go_simp; try (with_reducible rfl))
  simp only [Act.put, List.setIfInBounds_toArray, List.set_cons_zero, List.set_cons_succ]
  refine wpAnyH_ready (rs := [20]) (by kernel_rfl) (by simp) (AllReadyH.cons rfl (fun K hK => ?_) AllReadyH.nil)
  have R5 := HR0.out.ch G4.out (noB _)
  obtain ⟨z0, z1, z2, z3, z4⟩ := R5.cells
  obtain ⟨zf0, zf1, zf2, zf3, zf4⟩ := R5.fz
  have l5 := R5.lt
  clear R5
  go_simp
  have C8 := (((((Ch.refl (Only (w.heap.size + 1 + 1)) v4).own 0 (.int .i64 L)).own 1 (.slice ga nG gc)).own 2 (.slice aa nA ac)).own 3 (.slice ca nC cc)).own 4 (.slice fa nF fc)
  have hS5 := keep_store hl0 hwn C8 hS4
  refine hK.out _ _ (by exact hS5) (fun _ => ?_)
  clear hK K
  refine takeS_on (i := 21) 9 (v := ?v108) rfl rfl (by kernel_rfl) (by kernel_rfl) (by kernel_rfl) (fun _ _ _ h => h) (by kernel_rfl) ?hy108 (by exact hS5) ?_
  case hy108 => (intro w' hSw; go_simp; try (with_reducible rfl))
  simp only [Act.put, List.setIfInBounds_toArray, List.set_cons_zero, List.set_cons_succ]
  refine takeS_on (i := 22) 10 (v := ?v109) rfl rfl (by kernel_rfl) (by kernel_rfl) (by kernel_rfl) (fun _ _ _ h => h) (by kernel_rfl) ?hy109 (by exact hS5) ?_
  case hy109 => (intro w' hSw; go_simp; try (with_reducible rfl))
  simp only [Act.put, List.setIfInBounds_toArray, List.set_cons_zero, List.set_cons_succ]
  refine wpAnyH_done (by kernel_rfl) ?_ _
  go_wp2
  have gw := ch_of hS5.2.2.2.2.2.2.2.2.2.2
  exact bodyPost_ret (v := .tuple #[.agg #[.int .i64 L, .slice ga nG gc, .slice aa nA ac, .slice ca nC cc, .slice fa nF fc], .slice ha nH hc, .bool true]) (by simp [results, Try.results23, go_sem, z0, z1, z2, z3, z4]) rfl ⟨S, P, x, _, _, _, _, cv, _, gs, rfl, HJ.out.same gw, by omega, gw.any, fun q e => .inl e, fun q e => .inl e, fun q e => .inl e⟩
end Go.Proofs.Ytfbkifkfhgkdbab.Sb
