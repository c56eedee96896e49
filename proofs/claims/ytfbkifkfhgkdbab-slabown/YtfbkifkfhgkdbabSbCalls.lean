/-
  What the law's calls answers and leaves: one call of the slab and of the document, with the same answer. Condition: slab, state and list of names are there, apart from one another, and may be.
-/
import Derived.Test.YtfbkifkfhgkdbabSbPairs
import Derived.Test.YtfbkifkfhgkdbabSbOps
namespace Go.Proofs.Ytfbkifkfhgkdbab.Sb
open Go.RowKit
attribute [local go_sem ↓] Go.wp_at_zero Go.wp_at_succ

/-- a slab, a state and a list of names, apart from one another -/
structure Jn (S P : Nat → Prop) (base hb : Nat) (w : World) (b : Nat) (L : Int) (x : Sl) (vg va vc vf : Value) (cv : List Value) (v : Value) (gs : List (Int × Int)) : Prop where
  s : SlabIn S base w b L x
  r : Rd P w vg va vc vf cv x
  p : Pr hb w v gs
  m : May L x
  sb : base ≤ w.heap.size
  hb : hb ≤ w.heap.size
  sp : ∀ q, P q → ¬ S q
  vs : ∀ q, Blk v q → ¬ S q
  vp : ∀ q, Blk v q → ¬ P q
  pl : ∀ q, P q → q < w.heap.size
/-- what is told behind a call, and left -/
def Called (S P : Nat → Prop) (base hb : Nat) (w : World) (b : Nat) (L : Int) (v : Value) (gs : List (Int × Int)) (e : Ending) (w' : World) : Prop :=
  ∃ S' P' x' vg' va' vc' vf' cv' v' gs', e = .returned (.tuple #[.agg #[.int .i64 L, vg', va', vc', vf'], v', .bool true]) ∧ Jn S' P' base hb w' b L x' vg' va' vc' vf' cv' v' gs' ∧ gs'.length ≤ gs.length + 1 ∧
    Ch (fun q => S q ∨ Blk v q) w w' ∧ (∀ q, S' q → S q ∨ w.heap.size ≤ q) ∧ (∀ q, P' q → P q ∨ w.heap.size ≤ q) ∧ (∀ q, Blk v' q → Blk v q ∨ w.heap.size ≤ q)

/-- behind a call of the slab and one of the document: all is apart -/
theorem Jn.after {S P S1 T : Nat → Prop} {base hb N : Nat} {w w1 w2 w3 : World} {b : Nat} {L : Int} {x x' : Sl} {vg va vc vf v : Value} {cv : List Value} {gs : List (Int × Int)} {vg' va' vc' vf' : Value} {cv' : List Value} (h : Jn S P base hb w b L x vg va vc vf cv v gs)
    (i1 : SlabIn S1 base w1 b L x') (g1 : Ch S w w1) (hN : w.heap.size ≤ N) (hN1 : N ≤ w1.heap.size) (n1 : ∀ q, S1 q → S q ∨ N ≤ q) (r2 : Rd (fun q => P q ∨ w1.heap.size ≤ q) w2 vg' va' vc' vf' cv' x') (g2 : Ch NoB w1 w2) (g3 : Ch T w2 w3) (hT : ∀ q, T q → w.heap.size ≤ q ∧ q < N) (hm : May L x') :
    Jn S1 (fun q => (P q ∨ w1.heap.size ≤ q) ∧ q < w2.heap.size) base hb w3 b L x' vg' va' vc' vf' cv' v gs ∧ Ch (fun q => S q ∨ Blk v q) w w3 := by
  have lt1 := i1.lt
  have ltS := h.s.lt
  have gw : Ch S w w3 := (g1.trans g2 (fun q e => e.elim)).trans g3 (fun q e => .inr (hT q e).1)
  refine ⟨{ s := (i1.ch g2 (fun _ _ => noB _)).ch g3 (fun q a e => ?_), r := (r2.mono (fun q hq a => ⟨a, hq⟩)).ch g3 (fun q _ a e => ?_), p := h.p.ch gw (fun q a => h.vs q a), m := hm, sb := Nat.le_trans h.sb gw.size, hb := Nat.le_trans h.hb gw.size, sp := fun q a e => ?_, vs := fun q a e => ?_, vp := fun q a e => ?_, pl := fun q a => Nat.lt_of_lt_of_le a.2 g3.size }, gw.mono (fun q e => .inl (.inl e))⟩
  · have := hT q e
    exact (n1 q a).elim (fun a => by have := ltS q a; omega) (fun a => by omega)
  · have := hT q e
    exact a.1.elim (fun a => by have := h.pl q a; omega) (fun a => by omega)
  · rcases a.1 with a | a
    · exact (n1 q e).elim (h.sp q a) (fun e' => by have := h.pl q a; omega)
    · have := lt1 q e
      omega
  · have hl := (h.p.blk a).2
    exact (n1 q e).elim (h.vs q a) (fun e' => by omega)
  · have hl := (h.p.blk a).2
    exact e.1.elim (h.vp q a) (fun e' => by omega)

set_option maxRecDepth 100000 in
set_option maxHeartbeats 4000000 in
theorem calls_flush (S P : Nat → Prop) (base hb b : Nat) (L p pk s0 gn : Int) (x : Sl) (vg va vc vf v : Value) (cv : List Value) (gs : List (Int × Int)) (w : World) (h : Jn S P base hb w b L x vg va vc vf cv v gs) :
    Calls Try.prog 23 #[.pointer (some ⟨b, 0, none⟩), .agg #[.int .i64 L, vg, va, vc, vf], .agg #[.int .i64 2, .int .i64 p, .int .i64 pk, .int .i64 s0, .int .i64 gn], v] w fun e w' => Called S P base hb w b L v gs e w' := by
  obtain ⟨ga, gc, rfl⟩ := h.r.g.form
  obtain ⟨aa, ac, rfl⟩ := h.r.a.form
  obtain ⟨ca, cc, rfl⟩ := h.r.c.form
  obtain ⟨fa, fc, rfl⟩ := h.r.f.form
  obtain ⟨ha, hc, rfl⟩ := h.p.form
  obtain ⟨nG, hnG⟩ : ∃ n, n = (iv x.G).length := ⟨_, rfl⟩
  obtain ⟨nA, hnA⟩ : ∃ n, n = (bv x.A).length := ⟨_, rfl⟩
  obtain ⟨nC, hnC⟩ : ∃ n, n = cv.length := ⟨_, rfl⟩
  obtain ⟨nF, hnF⟩ : ∃ n, n = (iv x.F).length := ⟨_, rfl⟩
  obtain ⟨nH, hnH⟩ : ∃ n, n = gs.length := ⟨_, rfl⟩
  rw [← hnG, ← hnA, ← hnC, ← hnF, ← hnH] at h
  rw [← hnG, ← hnA, ← hnC, ← hnF, ← hnH]
  obtain ⟨W0, hW0⟩ : ∃ W0, W0 = ((w.alloc (.cells #[.int .i64 L, .slice ga nG gc, .slice aa nA ac, .slice ca nC cc, .slice fa nF fc] 45)).alloc (.cells #[.int .i64 2, .int .i64 p, .int .i64 pk, .int .i64 s0, .int .i64 gn] 49)).alloc (.cells #[.int .i64 0, .slice none 0 0, .slice none 0 0, .slice none 0 0, .slice none 0 0] 45) := ⟨_, rfl⟩
  have g0 : Ch NoB w W0 := by rw [hW0]; exact (((Ch.refl NoB w).alloc _).alloc _).alloc _
  have f0 : Fv 45 W0 w.heap.size (.int .i64 L) (.slice ga nG gc) (.slice aa nA ac) (.slice ca nC cc) (.slice fa nF fc) := by rw [hW0]; exact ((Fv.new 45 w _ _ _ _ _).alloc _).alloc _
  have o0 : Fv 49 W0 (w.heap.size + 1) (.int .i64 2) (.int .i64 p) (.int .i64 pk) (.int .i64 s0) (.int .i64 gn) := by
    have z := Fv.new 49 (w.alloc (.cells #[.int .i64 L, .slice ga nG gc, .slice aa nA ac, .slice ca nC cc, .slice fa nF fc] 45)) (.int .i64 2) (.int .i64 p) (.int .i64 pk) (.int .i64 s0) (.int .i64 gn)
    rw [World.size_alloc] at z
    rw [hW0]
    exact z.alloc _
  have r0 : Fv 45 W0 (w.heap.size + 1 + 1) (.int .i64 0) (.slice none 0 0) (.slice none 0 0) (.slice none 0 0) (.slice none 0 0) := by
    have z := Fv.new 45 ((w.alloc (.cells #[.int .i64 L, .slice ga nG gc, .slice aa nA ac, .slice ca nC cc, .slice fa nF fc] 45)).alloc (.cells #[.int .i64 2, .int .i64 p, .int .i64 pk, .int .i64 s0, .int .i64 gn] 49)) (.int .i64 0) (.slice none 0 0) (.slice none 0 0) (.slice none 0 0) (.slice none 0 0)
    rw [World.size_alloc, World.size_alloc] at z
    rw [hW0]
    exact z
  have hlt := h.s.lt
  have HJ := hid h
  have HF0 := hid f0
  have HO0 := hid o0
  have HR0 := hid r0
  have HG0 := hid g0
  have HLT := hid hlt
  have hl0 := r0.lt
  have HnH := hid hnH
  have HFL := hid (flush_may S base b p L x W0 (h.s.ch g0 (fun _ _ => noB _)) (Nat.le_trans h.sb g0.size) h.m)
  have HRF := hid (fun (W : World) (k : Ch S W0 W) => rflush_may P p L _ _ _ _ cv x W ((h.r.ch g0 (fun _ _ _ => noB _)).ch k (fun q _ a => h.sp q a)) h.m)
  have HM := hid (flushR_may (p := p) h.m)
  clear h f0 o0 r0 g0 hlt hnG hnA hnC hnF hnH
  go_enter Try.func23, Try.ntmps23
  go_wp2_with fail
  rw [← hW0]
  clear hW0
  refine HFL.out.mono ?_
  rintro e w1 ⟨rfl, ⟨S1, i1, g1, n1⟩⟩
  have no : ∀ q, w.heap.size ≤ q → ¬ S q := fun q a e => by have := HLT.out q e; omega
  have F1 := HF0.out.ch g1 (no _ (by omega))
  have O1 := HO0.out.ch g1 (no _ (by omega))
  have R1 := HR0.out.ch g1 (no _ (by omega))
  obtain ⟨c0, c1, c2, c3, c4⟩ := F1.cells
  obtain ⟨o0, o1, o2, o3, o4⟩ := O1.cells
  have l1 := F1.lt
  have l2 := O1.lt
  have HR1 := hid R1
  have HI1 := hid i1
  have HG1 := hid g1
  have HN1 := hid n1
  clear i1 g1 n1 F1 O1 R1
  go_wp2_with fail
  refine (HRF.out w1 HG1.out).mono ?_
  rintro e w2 ⟨vg', va', vc', vf', cv', rfl, r2, g2⟩
  obtain ⟨a1, q1, rfl⟩ := r2.g.form
  obtain ⟨a2, q2, rfl⟩ := r2.a.form
  obtain ⟨a3, q3, rfl⟩ := r2.c.form
  obtain ⟨a4, q4, rfl⟩ := r2.f.form
  obtain ⟨n1, hn1⟩ : ∃ n, n = (iv (flushR x p).2.G).length := ⟨_, rfl⟩
  obtain ⟨n2, hn2⟩ : ∃ n, n = (bv (flushR x p).2.A).length := ⟨_, rfl⟩
  obtain ⟨n3, hn3⟩ : ∃ n, n = cv'.length := ⟨_, rfl⟩
  obtain ⟨n4, hn4⟩ : ∃ n, n = (iv (flushR x p).2.F).length := ⟨_, rfl⟩
  rw [← hn1, ← hn2, ← hn3, ← hn4] at r2 ⊢
  have R2 := HR1.out.ch g2 (noB _)
  obtain ⟨z0, z1, z2, z3, z4⟩ := R2.cells
  obtain ⟨zf0, zf1, zf2, zf3, zf4⟩ := R2.fz
  have l3 := R2.lt
  have HR2 := hid r2
  have HG2 := hid g2
  clear R2 r2 g2 hn1 hn2 hn3 hn4
  go_wp2
  have C8 := (((((Ch.refl (Only (w.heap.size + 1 + 1)) w2).own 0 (.int .i64 L)).own 1 (.slice a1 n1 q1)).own 2 (.slice a2 n2 q2)).own 3 (.slice a3 n3 q3)).own 4 (.slice a4 n4 q4)
  have hJ := HJ.out.after (N := W0.heap.size) (T := Only (w.heap.size + 1 + 1)) HI1.out ((HG0.out.mono (T := S) (fun q e => e.elim)).trans' HG1.out) HG0.out.size HG1.out.size HN1.out HR2.out HG2.out (C8.alloc (.cells #[.int .i64 L, .slice a1 n1 q1, .slice a2 n2 q2, .slice a3 n3 q3, .slice a4 n4 q4] 45)) (fun q e => by have e1 : q = w.heap.size + 1 + 1 := e; omega) HM.out
  exact bodyPost_ret (v := .tuple #[.agg #[.int .i64 L, .slice a1 n1 q1, .slice a2 n2 q2, .slice a3 n3 q3, .slice a4 n4 q4], .slice ha nH hc, .bool true]) (by simp [results, Try.results23, go_sem, z0, z1, z2, z3, z4, l3]) rfl ⟨_, _, _, _, _, _, _, _, _, gs, rfl, hJ.1, by omega, hJ.2, fun q e => (HN1.out q e).imp id (fun e => Nat.le_trans HG0.out.size e), fun q e => e.1.imp id (fun e => Nat.le_trans HG0.out.size (Nat.le_trans HG1.out.size e)), fun q e => .inl e⟩

set_option maxRecDepth 100000 in
set_option maxHeartbeats 4000000 in
theorem calls_give (S P : Nat → Prop) (base hb b : Nat) (L p pk s0 gn : Int) (x : Sl) (vg va vc vf v : Value) (cv : List Value) (gs : List (Int × Int)) (w : World) (h : Jn S P base hb w b L x vg va vc vf cv v gs) :
    Calls Try.prog 23 #[.pointer (some ⟨b, 0, none⟩), .agg #[.int .i64 L, vg, va, vc, vf], .agg #[.int .i64 1, .int .i64 p, .int .i64 pk, .int .i64 s0, .int .i64 gn], v] w fun e w' => Called S P base hb w b L v gs e w' := by
  obtain ⟨ga, gc, rfl⟩ := h.r.g.form
  obtain ⟨aa, ac, rfl⟩ := h.r.a.form
  obtain ⟨ca, cc, rfl⟩ := h.r.c.form
  obtain ⟨fa, fc, rfl⟩ := h.r.f.form
  obtain ⟨ha, hc, rfl⟩ := h.p.form
  obtain ⟨nG, hnG⟩ : ∃ n, n = (iv x.G).length := ⟨_, rfl⟩
  obtain ⟨nA, hnA⟩ : ∃ n, n = (bv x.A).length := ⟨_, rfl⟩
  obtain ⟨nC, hnC⟩ : ∃ n, n = cv.length := ⟨_, rfl⟩
  obtain ⟨nF, hnF⟩ : ∃ n, n = (iv x.F).length := ⟨_, rfl⟩
  obtain ⟨nH, hnH⟩ : ∃ n, n = gs.length := ⟨_, rfl⟩
  rw [← hnG, ← hnA, ← hnC, ← hnF, ← hnH] at h
  rw [← hnG, ← hnA, ← hnC, ← hnF, ← hnH]
  obtain ⟨W0, hW0⟩ : ∃ W0, W0 = ((w.alloc (.cells #[.int .i64 L, .slice ga nG gc, .slice aa nA ac, .slice ca nC cc, .slice fa nF fc] 45)).alloc (.cells #[.int .i64 1, .int .i64 p, .int .i64 pk, .int .i64 s0, .int .i64 gn] 49)).alloc (.cells #[.int .i64 0, .slice none 0 0, .slice none 0 0, .slice none 0 0, .slice none 0 0] 45) := ⟨_, rfl⟩
  have g0 : Ch NoB w W0 := by rw [hW0]; exact (((Ch.refl NoB w).alloc _).alloc _).alloc _
  have f0 : Fv 45 W0 w.heap.size (.int .i64 L) (.slice ga nG gc) (.slice aa nA ac) (.slice ca nC cc) (.slice fa nF fc) := by rw [hW0]; exact ((Fv.new 45 w _ _ _ _ _).alloc _).alloc _
  have o0 : Fv 49 W0 (w.heap.size + 1) (.int .i64 1) (.int .i64 p) (.int .i64 pk) (.int .i64 s0) (.int .i64 gn) := by
    have z := Fv.new 49 (w.alloc (.cells #[.int .i64 L, .slice ga nG gc, .slice aa nA ac, .slice ca nC cc, .slice fa nF fc] 45)) (.int .i64 1) (.int .i64 p) (.int .i64 pk) (.int .i64 s0) (.int .i64 gn)
    rw [World.size_alloc] at z
    rw [hW0]
    exact z.alloc _
  have r0 : Fv 45 W0 (w.heap.size + 1 + 1) (.int .i64 0) (.slice none 0 0) (.slice none 0 0) (.slice none 0 0) (.slice none 0 0) := by
    have z := Fv.new 45 ((w.alloc (.cells #[.int .i64 L, .slice ga nG gc, .slice aa nA ac, .slice ca nC cc, .slice fa nF fc] 45)).alloc (.cells #[.int .i64 1, .int .i64 p, .int .i64 pk, .int .i64 s0, .int .i64 gn] 49)) (.int .i64 0) (.slice none 0 0) (.slice none 0 0) (.slice none 0 0) (.slice none 0 0)
    rw [World.size_alloc, World.size_alloc] at z
    rw [hW0]
    exact z
  have hlt := h.s.lt
  have HJ := hid h
  have HF0 := hid f0
  have HO0 := hid o0
  have HR0 := hid r0
  have HG0 := hid g0
  have HLT := hid hlt
  have hl0 := r0.lt
  have HnH := hid hnH
  obtain ⟨y, hy⟩ : ∃ y, y = nameP gs pk (s0, gn) := ⟨_, rfl⟩
  have HNM := hid (name_any hb 1 p pk s0 gn _ gs W0 (h.p.ch g0 (fun _ _ => noB _)))
  have HGV := hid (fun (W : World) (k : Ch NoB W0 W) => give_may S base b p y.1 y.2 L x W ((h.s.ch g0 (fun _ _ => noB _)).ch k (fun _ _ => noB _)) (Nat.le_trans (Nat.le_trans h.sb g0.size) k.size) h.m)
  have HRG := hid (fun (W : World) (k : Ch S W0 W) => rgive_may P p y.1 y.2 L _ _ _ _ cv x W ((h.r.ch g0 (fun _ _ _ => noB _)).ch k (fun q _ a => h.sp q a)) h.m)
  have HM := hid (giveR_may (p := p) (s := y.1) (gn := y.2) h.m)
  rw [← hy] at HNM
  clear h f0 o0 r0 g0 hlt hnG hnA hnC hnF hnH hy
  obtain ⟨y1, y2⟩ := y
  go_enter Try.func23, Try.ntmps23
  go_wp2_with fail
  rw [← hW0]
  clear hW0
  refine HNM.out.mono ?_
  rintro e wn ⟨rfl, gn'⟩
  have no : ∀ q, w.heap.size ≤ q → ¬ S q := fun q a e => by have := HLT.out q e; omega
  obtain ⟨Wn, hWn⟩ : ∃ W, W = wn.alloc (.cells #[.int .i64 y1, .int .i64 y2] 34) := ⟨_, rfl⟩
  have gN : Ch NoB W0 Wn := by rw [hWn]; exact gn'.alloc _
  have kN : Wn.heap[wn.heap.size]? = some (.cells #[.int .i64 y1, .int .i64 y2] 34 (0, 0)) := by rw [hWn]; exact (MapKept.heap_alloc wn _).1
  have On := HO0.out.ch gn' (noB _)
  obtain ⟨o0, o1, o2, o3, o4⟩ := On.cells
  have l2 := On.lt
  have hwn := gn'.size
  have HGN := hid gN
  have HKN := hid kN
  clear gn' gN kN On
  go_wp2_with fail
  rw [← hWn]
  clear hWn o0 o1 o2 o3 o4 l2
  refine (HGV.out Wn HGN.out).mono ?_
  rintro e w1 ⟨rfl, ⟨S1, i1, g1, n1⟩⟩
  have F1 := (HF0.out.ch HGN.out (noB _)).ch g1 (no _ (by omega))
  have O1 := (HO0.out.ch HGN.out (noB _)).ch g1 (no _ (by omega))
  have R1 := (HR0.out.ch HGN.out (noB _)).ch g1 (no _ (by omega))
  have K1 := (g1.block _ (lt_of_block HKN.out) (no _ (by omega))).trans HKN.out
  obtain ⟨c0, c1, c2, c3, c4⟩ := F1.cells
  obtain ⟨o0, o1, o2, o3, o4⟩ := O1.cells
  have k0 := cell_of K1 0
  have k1 := cell_of K1 1
  have l1 := F1.lt
  have l2 := O1.lt
  have lk := lt_of_block K1
  have HR1 := hid R1
  have HI1 := hid i1
  have HG1 := hid ((HGN.out.mono (T := S) (fun q e => e.elim)).trans' g1)
  have HN1 := hid (show ∀ q, S1 q → S q ∨ W0.heap.size ≤ q from fun q e => (n1 q e).imp id (fun e => Nat.le_trans HGN.out.size e))
  clear i1 g1 n1 F1 O1 R1 K1
  go_wp2_with fail
  refine (HRG.out w1 HG1.out).mono ?_
  rintro e w2 ⟨vg', va', vc', vf', cv', rfl, r2, g2⟩
  obtain ⟨a1, q1, rfl⟩ := r2.g.form
  obtain ⟨a2, q2, rfl⟩ := r2.a.form
  obtain ⟨a3, q3, rfl⟩ := r2.c.form
  obtain ⟨a4, q4, rfl⟩ := r2.f.form
  obtain ⟨n1, hn1⟩ : ∃ n, n = (iv (giveR x p y1 y2).2.G).length := ⟨_, rfl⟩
  obtain ⟨n2, hn2⟩ : ∃ n, n = (bv (giveR x p y1 y2).2.A).length := ⟨_, rfl⟩
  obtain ⟨n3, hn3⟩ : ∃ n, n = cv'.length := ⟨_, rfl⟩
  obtain ⟨n4, hn4⟩ : ∃ n, n = (iv (giveR x p y1 y2).2.F).length := ⟨_, rfl⟩
  rw [← hn1, ← hn2, ← hn3, ← hn4] at r2 ⊢
  have R2 := HR1.out.ch g2 (noB _)
  obtain ⟨z0, z1, z2, z3, z4⟩ := R2.cells
  obtain ⟨zf0, zf1, zf2, zf3, zf4⟩ := R2.fz
  have l3 := R2.lt
  have HR2 := hid r2
  have HG2 := hid g2
  clear R2 r2 g2 hn1 hn2 hn3 hn4
  go_wp2
  have C8 := (((((Ch.refl (Only (w.heap.size + 1 + 1)) w2).own 0 (.int .i64 L)).own 1 (.slice a1 n1 q1)).own 2 (.slice a2 n2 q2)).own 3 (.slice a3 n3 q3)).own 4 (.slice a4 n4 q4)
  have hJ := HJ.out.after (N := W0.heap.size) (T := Only (w.heap.size + 1 + 1)) HI1.out ((HG0.out.mono (T := S) (fun q e => e.elim)).trans' HG1.out) HG0.out.size HG1.out.size HN1.out HR2.out HG2.out (C8.alloc (.cells #[.int .i64 L, .slice a1 n1 q1, .slice a2 n2 q2, .slice a3 n3 q3, .slice a4 n4 q4] 45)) (fun q e => by have e1 : q = w.heap.size + 1 + 1 := e; omega) HM.out
  exact bodyPost_ret (v := .tuple #[.agg #[.int .i64 L, .slice a1 n1 q1, .slice a2 n2 q2, .slice a3 n3 q3, .slice a4 n4 q4], .slice ha nH hc, .bool true]) (by simp [results, Try.results23, go_sem, z0, z1, z2, z3, z4, l3]) rfl ⟨_, _, _, _, _, _, _, _, _, gs, rfl, hJ.1, by omega, hJ.2, fun q e => (HN1.out q e).imp id (fun e => Nat.le_trans HG0.out.size e), fun q e => e.1.imp id (fun e => Nat.le_trans HG0.out.size (Nat.le_trans HG1.out.size e)), fun q e => .inl e⟩
end Go.Proofs.Ytfbkifkfhgkdbab.Sb
