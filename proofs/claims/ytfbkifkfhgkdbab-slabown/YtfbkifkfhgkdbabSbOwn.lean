/-
  SlabOwn's walk: a state that is handed in, and one that is told, may be spoilt. Condition: the state and the list of calls are there, none of the lists too long.
-/
import Derived.Test.YtfbkifkfhgkdbabSbRLoad3
import Derived.Test.YtfbkifkfhgkdbabSbInv
import Derived.Test.YtfbkifkfhgkdbabSbSpoil
import Derived.Test.YtfbkifkfhgkdbabSbAwake
import Derived.Handy
namespace Go.Proofs.Ytfbkifkfhgkdbab.Sb
open Go.RowKit
open Classical
attribute [local go_sem ↓] Go.wp_at_zero Go.wp_at_succ

theorem rload_sized (P : Nat → Prop) (L : Int) (vg va vc vf : Value) (cv : List Value) (x : Sl) (w : World) (h : Given P w vg va vc vf cv x) (hS : Sized L (x.C.length : Nat)) :
    Calls Try.prog 18 #[.agg #[.int .i64 L, vg, va, vc, vf]] w fun e w' => e = .returned (.int .i64 (if (slotsB L x && listsB x) = true then 0 else 40)) ∧ Ch NoB w w' := by
  cases h1 : slotsB L x with
  | false =>
    refine (rload_slots P L vg va vc vf cv x w h.r hS h1).mono ?_
    rintro e w1 ⟨rfl, g⟩
    exact ⟨by simp, g⟩
  | true =>
    refine (rload_lists P L vg va vc vf cv x w h hS h1).mono ?_
    rintro e w1 ⟨rfl, g⟩
    exact ⟨by simp [loadE], g⟩

theorem Sl.Fits.big {x : Sl} (h : x.Fits) : x.Big := ⟨Nat.le_trans h.g (by omega), Nat.le_trans h.a (by omega), Nat.le_trans h.c (by omega), Nat.le_trans h.f (by omega), fun i l hl => Nat.le_trans (h.e i l hl) (by omega)⟩
theorem St.given {base : Nat} {w : World} {vg va vc vf : Value} {cv : List Value} {x : Sl} (h : St base w vg va vc vf cv x) (hb : x.Big) : Given (SB vg va vc vf cv) w vg va vc vf cv x :=
  ⟨h.rd, fun q a => (h.blk a).2, fun i c hc => Nat.le_trans (hb.e i c hc) (by omega), Nat.le_trans hb.f (by omega)⟩

/-- what SlabOwn stands on when its first call begins -/
theorem Inv.own {T : Nat → Prop} {w w0 w1 w2 w3 : World} {b : Nat} {L : Int} {x : Sl} {vo vg' va' vc' vf' : Value} {cv' : List Value} (g0 : Ch NoB w w0) (hz : w.heap.size < w0.heap.size) (c0 : w0.cell? ⟨w.heap.size, 2, none⟩ = some vo) (hm : May L x) (hb : w0.heap.size ≤ b) (s1 : SlabAt w0.heap.size w1 b L x) (g1 : Ch NoB w0 w1) (g2 : Ch T w1 w2) (hT : ∀ q, T q → w.heap.size < q ∧ q < w0.heap.size) (st : St w2.heap.size w3 vg' va' vc' vf' cv' x) (g3 : Ch NoB w2 w3) :
    Inv w w3.heap.size b w0.heap.size (w3.heap.size + 1) L vo 0 (.slice none 0 0) (w3.alloc (.cells #[.int .i64 L, vg', va', vc', vf'] 45)) := by
  have k0 := g0.size
  have k1 := g1.size
  have k2 := g2.size
  have k3 := g3.size
  obtain ⟨vg, va, vc, vf, cv, f1, t1, n1⟩ := s1
  have hbl : b < w1.heap.size := f1.lt
  have i1 : SlabIn (fun q => w0.heap.size ≤ q ∧ q < w1.heap.size) w0.heap.size w1 b L x := ⟨vg, va, vc, vf, cv, f1, t1, n1, ⟨hb, hbl⟩, fun q a => t1.blk a, fun q a => a.2⟩
  have gA : Ch NoB w3 (w3.alloc (.cells #[.int .i64 L, vg', va', vc', vf'] 45)) := (Ch.refl _ _).alloc _
  have hlt2 : w3.heap.size + 1 ≤ (w3.alloc (.cells #[.int .i64 L, vg', va', vc', vf'] 45)).heap.size := by simp
  refine ⟨fun q => w0.heap.size ≤ q ∧ q < w1.heap.size, fun q => w2.heap.size ≤ q ∧ q < w3.heap.size, x, _, _, _, _, _, [], ⟨((i1.ch g2 (fun q a e => by have := (hT q e).2; omega)).ch g3 (fun _ _ => noB _)).ch gA (fun _ _ => noB _), (st.rd.mono (fun q _ a => st.blk a)).ch gA (fun _ _ _ => noB _), Pr.nil _ _, hm, (by omega), hlt2, fun q a e => (by omega), fun q a => (by cases a), fun q a => (by cases a), fun q a => Nat.lt_of_lt_of_le a.2 (by simp)⟩, Fv.new _ w3 _ _ _ _ _, by simp, ?_, fun q a => ⟨by omega, by omega⟩, fun q a => (by omega), fun q a => (by cases a), by omega, ?_⟩
  · exact (((g0.trans' g1).trans g2 (fun q e => .inr (Nat.le_of_lt (hT q e).1))).trans' g3).trans' gA
  · have c1 := (g1.cell (b := w.heap.size) (o := 2) hz (noB _)).trans c0
    have c2 := (g2.cell (b := w.heap.size) (o := 2) (by omega) (fun e => Nat.lt_irrefl _ (hT _ e).1)).trans c1
    exact ((g3.trans' gA).cell (by omega) (noB _)).trans c2

set_option maxHeartbeats 1000000 in
theorem own_arg (P : Nat → Prop) (L : Int) (vg va vc vf v : Value) (cv : List Value) (x : Sl) (n : Nat) (w : World) (h : Given P w vg va vc vf cv x) (hbig : x.Big) (hv : OpL w v n) (hS : ¬ Sized L (x.C.length : Nat)) :
    Calls Try.prog 6 #[.agg #[.int .i64 L, vg, va, vc, vf], v] w fun e w' => e = .returned (.bool true) ∧ Ch NoB w w' := by
  obtain ⟨ao, cap, rfl, hmax, hel⟩ := hv
  have HG := hid h
  have HBg := hid hbig
  have HSz := hid hS
  have HE := hid hel
  obtain ⟨ga, gc, rfl⟩ := h.r.g.form
  obtain ⟨aa, ac, rfl⟩ := h.r.a.form
  obtain ⟨ca, cc, rfl⟩ := h.r.c.form
  obtain ⟨fa, fc, rfl⟩ := h.r.f.form
  obtain ⟨nG, hnG⟩ : ∃ n, n = (iv x.G).length := ⟨_, rfl⟩
  obtain ⟨nA, hnA⟩ : ∃ n, n = (bv x.A).length := ⟨_, rfl⟩
  obtain ⟨nC, hnC⟩ : ∃ n, n = cv.length := ⟨_, rfl⟩
  obtain ⟨nF, hnF⟩ : ∃ n, n = (iv x.F).length := ⟨_, rfl⟩
  rw [← hnG, ← hnA, ← hnC, ← hnF] at HG
  rw [← hnG, ← hnA, ← hnC, ← hnF]
  obtain ⟨W0, hW0⟩ : ∃ W, W = w.alloc (.cells #[.int .i64 L, .slice ga nG gc, .slice aa nA ac, .slice ca nC cc, .slice fa nF fc] 45) := ⟨_, rfl⟩
  have g0 : Ch NoB w W0 := by rw [hW0]; exact (Ch.refl _ _).alloc _
  have f0 : Fv 45 W0 w.heap.size (.int .i64 L) (.slice ga nG gc) (.slice aa nA ac) (.slice ca nC cc) (.slice fa nF fc) := by rw [hW0]; exact Fv.new _ w _ _ _ _ _
  have hz0 : W0.heap.size = w.heap.size + 1 := by rw [hW0]; simp
  have HF0 := hid f0
  have HG0 := hid g0
  clear h hS hel g0 f0 hnG hnA hnC hnF hbig
  go_enter Try.func6, Try.ntmps6
  go_wp2_with fail
  rw [← hW0]
  clear hW0
  refine (copy_big L _ _ _ _ cv x P _ (HG.out.ch HG0.out).r HBg.out).mono ?_
  rintro e w1 ⟨ug, ua, uc, uf, cu, rfl, su, g1⟩
  obtain ⟨p1, o1, rfl⟩ := su.g.form
  obtain ⟨p2, o2, rfl⟩ := su.a.form
  obtain ⟨p3, o3, rfl⟩ := su.c.form
  obtain ⟨p4, o4, rfl⟩ := su.f.form
  obtain ⟨i1, hi1⟩ : ∃ n, n = (iv x.G).length := ⟨_, rfl⟩
  obtain ⟨i2, hi2⟩ : ∃ n, n = (bv x.A).length := ⟨_, rfl⟩
  obtain ⟨i3, hi3⟩ : ∃ n, n = cu.length := ⟨_, rfl⟩
  obtain ⟨i4, hi4⟩ : ∃ n, n = (iv x.F).length := ⟨_, rfl⟩
  rw [← hi1, ← hi2, ← hi3, ← hi4] at su ⊢
  obtain ⟨W2, hW2⟩ : ∃ W, W = w1.alloc (.cells #[.int .i64 L, .slice p1 i1 o1, .slice p2 i2 o2, .slice p3 i3 o3, .slice p4 i4 o4] 45) := ⟨_, rfl⟩
  have gA : Ch NoB w1 W2 := by rw [hW2]; exact (Ch.refl _ _).alloc _
  obtain ⟨kb, hkb⟩ : ∃ k, k = w1.heap.size := ⟨_, rfl⟩
  have f2 : Fv 45 W2 kb (.int .i64 L) (.slice p1 i1 o1) (.slice p2 i2 o2) (.slice p3 i3 o3) (.slice p4 i4 o4) := by rw [hW2, hkb]; exact Fv.new _ w1 _ _ _ _ _
  have hz2 : W2.heap.size = kb + 1 := by rw [hW2, hkb]; simp
  have bu : ∀ q, SB (.slice p1 i1 o1) (.slice p2 i2 o2) (.slice p3 i3 o3) (.slice p4 i4 o4) cu q → w.heap.size < q ∧ q < kb := fun q e => by
    have := su.blk e
    omega
  have HBU := hid bu
  have HSU := hid (su.ch gA (fun _ _ => noB _))
  have HF2 := hid f2
  have HG2 := hid ((HG0.out.trans' g1).trans' gA)
  have HH2 := hid (g1.trans' gA)
  obtain ⟨c0, c1, c2, c3, c4⟩ := f2.cells
  have k2 : W0.heap.size ≤ W2.heap.size := (g1.trans' gA).size
  clear bu su f2 hi1 hi2 hi3 hi4 g1 gA
  go_wp2_with fail
  rw [← hkb, ← hW2]
  clear hW2 hkb
  refine (load_arg _ L _ _ _ _ cu x _ HSU.out.rd HSz.out).mono ?_
  rintro e w3 ⟨rfl, g3⟩
  obtain ⟨d0, d1, d2, d3, d4⟩ := (HF0.out.ch (HH2.out.trans' g3) (noB _)).cells
  have HG3 := hid (HG2.out.trans' g3)
  have HH3 := hid g3
  clear g3 c0 c1 c2 c3 c4
  go_wp2_with fail
  refine (rload_arg P L _ _ _ _ cv x _ (HG.out.ch HG3.out).r HSz.out).mono ?_
  rintro e w4 ⟨rfl, g4⟩
  have HG4 := hid (HG3.out.trans' g4)
  have HH4 := hid (HH3.out.trans' g4)
  have HX4 := hid g4
  clear g4 d0 d1 d2 d3 d4
  obtain ⟨d0, d1, d2, d3, d4⟩ := (HF0.out.ch (HH2.out.trans' HH4.out) (noB _)).cells
  obtain ⟨c0, c1, c2, c3, c4⟩ := (HF2.out.ch HH4.out (noB _)).cells
  go_wp2_with fail
  refine (same_big _ P L _ _ _ _ _ _ _ _ cu cv x _ (HSU.out.ch HH4.out (fun _ _ => noB _)).rd (HG.out.ch HG4.out).r HBg.out).mono ?_
  rintro e w5 ⟨rfl, g5⟩
  have HG5 := hid (HG4.out.trans' g5)
  have HH5 := hid (HH4.out.trans' g5)
  have HH35 := hid (HX4.out.trans' g5)
  clear g5 c0 c1 c2 c3 c4 d0 d1 d2 d3 d4
  go_wp2_with fail
  refine (awake_any _).mono ?_
  rintro e w6 ⟨rfl, g6⟩
  have HG6 := hid (HG5.out.trans' g6)
  clear g6
  go_wp2
  go_ret
  exact ⟨rfl, HG6.out⟩

set_option maxHeartbeats 1000000 in
theorem own_bad (P : Nat → Prop) (L : Int) (vg va vc vf v : Value) (cv : List Value) (x : Sl) (n : Nat) (w : World) (h : Given P w vg va vc vf cv x) (hbig : x.Big) (hv : OpL w v n) (hS : Sized L (x.C.length : Nat)) (hb : (slotsB L x && listsB x) = false) :
    Calls Try.prog 6 #[.agg #[.int .i64 L, vg, va, vc, vf], v] w fun e w' => e = .returned (.bool true) ∧ Ch NoB w w' := by
  obtain ⟨ao, cap, rfl, hmax, hel⟩ := hv
  have HG := hid h
  have HBg := hid hbig
  have HSz := hid hS
  have HB := hid hb
  have HE := hid hel
  obtain ⟨ga, gc, rfl⟩ := h.r.g.form
  obtain ⟨aa, ac, rfl⟩ := h.r.a.form
  obtain ⟨ca, cc, rfl⟩ := h.r.c.form
  obtain ⟨fa, fc, rfl⟩ := h.r.f.form
  obtain ⟨nG, hnG⟩ : ∃ n, n = (iv x.G).length := ⟨_, rfl⟩
  obtain ⟨nA, hnA⟩ : ∃ n, n = (bv x.A).length := ⟨_, rfl⟩
  obtain ⟨nC, hnC⟩ : ∃ n, n = cv.length := ⟨_, rfl⟩
  obtain ⟨nF, hnF⟩ : ∃ n, n = (iv x.F).length := ⟨_, rfl⟩
  rw [← hnG, ← hnA, ← hnC, ← hnF] at HG
  rw [← hnG, ← hnA, ← hnC, ← hnF]
  obtain ⟨W0, hW0⟩ : ∃ W, W = w.alloc (.cells #[.int .i64 L, .slice ga nG gc, .slice aa nA ac, .slice ca nC cc, .slice fa nF fc] 45) := ⟨_, rfl⟩
  have g0 : Ch NoB w W0 := by rw [hW0]; exact (Ch.refl _ _).alloc _
  have f0 : Fv 45 W0 w.heap.size (.int .i64 L) (.slice ga nG gc) (.slice aa nA ac) (.slice ca nC cc) (.slice fa nF fc) := by rw [hW0]; exact Fv.new _ w _ _ _ _ _
  have hz0 : W0.heap.size = w.heap.size + 1 := by rw [hW0]; simp
  have HF0 := hid f0
  have HG0 := hid g0
  clear h hS hel g0 f0 hnG hnA hnC hnF hbig hb
  go_enter Try.func6, Try.ntmps6
  go_wp2_with fail
  rw [← hW0]
  clear hW0
  refine (copy_big L _ _ _ _ cv x P _ (HG.out.ch HG0.out).r HBg.out).mono ?_
  rintro e w1 ⟨ug, ua, uc, uf, cu, rfl, su, g1⟩
  obtain ⟨p1, o1, rfl⟩ := su.g.form
  obtain ⟨p2, o2, rfl⟩ := su.a.form
  obtain ⟨p3, o3, rfl⟩ := su.c.form
  obtain ⟨p4, o4, rfl⟩ := su.f.form
  obtain ⟨i1, hi1⟩ : ∃ n, n = (iv x.G).length := ⟨_, rfl⟩
  obtain ⟨i2, hi2⟩ : ∃ n, n = (bv x.A).length := ⟨_, rfl⟩
  obtain ⟨i3, hi3⟩ : ∃ n, n = cu.length := ⟨_, rfl⟩
  obtain ⟨i4, hi4⟩ : ∃ n, n = (iv x.F).length := ⟨_, rfl⟩
  rw [← hi1, ← hi2, ← hi3, ← hi4] at su ⊢
  obtain ⟨W2, hW2⟩ : ∃ W, W = w1.alloc (.cells #[.int .i64 L, .slice p1 i1 o1, .slice p2 i2 o2, .slice p3 i3 o3, .slice p4 i4 o4] 45) := ⟨_, rfl⟩
  have gA : Ch NoB w1 W2 := by rw [hW2]; exact (Ch.refl _ _).alloc _
  obtain ⟨kb, hkb⟩ : ∃ k, k = w1.heap.size := ⟨_, rfl⟩
  have f2 : Fv 45 W2 kb (.int .i64 L) (.slice p1 i1 o1) (.slice p2 i2 o2) (.slice p3 i3 o3) (.slice p4 i4 o4) := by rw [hW2, hkb]; exact Fv.new _ w1 _ _ _ _ _
  have hz2 : W2.heap.size = kb + 1 := by rw [hW2, hkb]; simp
  have bu : ∀ q, SB (.slice p1 i1 o1) (.slice p2 i2 o2) (.slice p3 i3 o3) (.slice p4 i4 o4) cu q → w.heap.size < q ∧ q < kb := fun q e => by
    have := su.blk e
    omega
  have HBU := hid bu
  have HSU := hid (su.ch gA (fun _ _ => noB _))
  have HF2 := hid f2
  have HG2 := hid ((HG0.out.trans' g1).trans' gA)
  have HH2 := hid (g1.trans' gA)
  obtain ⟨c0, c1, c2, c3, c4⟩ := f2.cells
  have k2 : W0.heap.size ≤ W2.heap.size := (g1.trans' gA).size
  clear bu su f2 hi1 hi2 hi3 hi4 g1 gA
  go_wp2_with fail
  rw [← hkb, ← hW2]
  clear hW2 hkb
  refine (load_sized _ L _ _ _ _ cu x _ (HSU.out.given HBg.out) HSz.out).mono ?_
  rintro e w3 ⟨hcase, g3⟩
  rcases hcase.symm with ⟨hbad, -⟩ | ⟨-, rfl⟩
  · rw [HB.out] at hbad
    cases hbad
  obtain ⟨d0, d1, d2, d3, d4⟩ := (HF0.out.ch (HH2.out.trans' g3) (noB _)).cells
  have HG3 := hid (HG2.out.trans' g3)
  have HH3 := hid g3
  clear g3 c0 c1 c2 c3 c4
  go_wp2_with fail
  refine (rload_sized P L _ _ _ _ cv x _ (HG.out.ch HG3.out) HSz.out).mono ?_
  rintro e w4 ⟨rfl, g4⟩
  rw [if_neg (by rw [HB.out]; simp)]
  have HG4 := hid (HG3.out.trans' g4)
  have HH4 := hid (HH3.out.trans' g4)
  have HX4 := hid g4
  clear g4 d0 d1 d2 d3 d4
  obtain ⟨d0, d1, d2, d3, d4⟩ := (HF0.out.ch (HH2.out.trans' HH4.out) (noB _)).cells
  obtain ⟨c0, c1, c2, c3, c4⟩ := (HF2.out.ch HH4.out (noB _)).cells
  go_wp2_with fail
  refine (same_big _ P L _ _ _ _ _ _ _ _ cu cv x _ (HSU.out.ch HH4.out (fun _ _ => noB _)).rd (HG.out.ch HG4.out).r HBg.out).mono ?_
  rintro e w5 ⟨rfl, g5⟩
  have HG5 := hid (HG4.out.trans' g5)
  have HH5 := hid (HH4.out.trans' g5)
  have HH35 := hid (HX4.out.trans' g5)
  clear g5 c0 c1 c2 c3 c4 d0 d1 d2 d3 d4
  go_wp2_with fail
  refine (awake_any _).mono ?_
  rintro e w6 ⟨rfl, g6⟩
  have HG6 := hid (HG5.out.trans' g6)
  clear g6
  go_wp2
  go_ret
  exact ⟨rfl, HG6.out⟩

set_option maxRecDepth 100000 in
set_option maxHeartbeats 4000000 in
theorem own_good (P : Nat → Prop) (L : Int) (vg va vc vf v : Value) (cv : List Value) (x : Sl) (n : Nat) (w : World) (h : Given P w vg va vc vf cv x) (hbig : x.Big) (hv : OpL w v n) (hS : Sized L (x.C.length : Nat)) (hb : (slotsB L x && listsB x) = true) :
    Calls Try.prog 6 #[.agg #[.int .i64 L, vg, va, vc, vf], v] w fun e w' => e = .returned (.bool true) ∧ Ch NoB w w' := by
  obtain ⟨ao, cap, rfl, hmax, hel⟩ := hv
  have HG := hid h
  have HBg := hid hbig
  have HSz := hid hS
  have HB := hid hb
  have HE := hid hel
  obtain ⟨ga, gc, rfl⟩ := h.r.g.form
  obtain ⟨aa, ac, rfl⟩ := h.r.a.form
  obtain ⟨ca, cc, rfl⟩ := h.r.c.form
  obtain ⟨fa, fc, rfl⟩ := h.r.f.form
  obtain ⟨nG, hnG⟩ : ∃ n, n = (iv x.G).length := ⟨_, rfl⟩
  obtain ⟨nA, hnA⟩ : ∃ n, n = (bv x.A).length := ⟨_, rfl⟩
  obtain ⟨nC, hnC⟩ : ∃ n, n = cv.length := ⟨_, rfl⟩
  obtain ⟨nF, hnF⟩ : ∃ n, n = (iv x.F).length := ⟨_, rfl⟩
  rw [← hnG, ← hnA, ← hnC, ← hnF] at HG
  rw [← hnG, ← hnA, ← hnC, ← hnF]
  obtain ⟨W0, hW0⟩ : ∃ W, W = w.alloc (.cells #[.int .i64 L, .slice ga nG gc, .slice aa nA ac, .slice ca nC cc, .slice fa nF fc] 45) := ⟨_, rfl⟩
  have g0 : Ch NoB w W0 := by rw [hW0]; exact (Ch.refl _ _).alloc _
  have f0 : Fv 45 W0 w.heap.size (.int .i64 L) (.slice ga nG gc) (.slice aa nA ac) (.slice ca nC cc) (.slice fa nF fc) := by rw [hW0]; exact Fv.new _ w _ _ _ _ _
  have hz0 : W0.heap.size = w.heap.size + 1 := by rw [hW0]; simp
  have HF0 := hid f0
  have HG0 := hid g0
  clear h hS hel g0 f0 hnG hnA hnC hnF hbig hb
  go_enter Try.func6, Try.ntmps6
  go_wp2_with fail
  rw [← hW0]
  clear hW0
  refine (copy_big L _ _ _ _ cv x P _ (HG.out.ch HG0.out).r HBg.out).mono ?_
  rintro e w1 ⟨ug, ua, uc, uf, cu, rfl, su, g1⟩
  obtain ⟨p1, o1, rfl⟩ := su.g.form
  obtain ⟨p2, o2, rfl⟩ := su.a.form
  obtain ⟨p3, o3, rfl⟩ := su.c.form
  obtain ⟨p4, o4, rfl⟩ := su.f.form
  obtain ⟨i1, hi1⟩ : ∃ n, n = (iv x.G).length := ⟨_, rfl⟩
  obtain ⟨i2, hi2⟩ : ∃ n, n = (bv x.A).length := ⟨_, rfl⟩
  obtain ⟨i3, hi3⟩ : ∃ n, n = cu.length := ⟨_, rfl⟩
  obtain ⟨i4, hi4⟩ : ∃ n, n = (iv x.F).length := ⟨_, rfl⟩
  rw [← hi1, ← hi2, ← hi3, ← hi4] at su ⊢
  obtain ⟨W2, hW2⟩ : ∃ W, W = w1.alloc (.cells #[.int .i64 L, .slice p1 i1 o1, .slice p2 i2 o2, .slice p3 i3 o3, .slice p4 i4 o4] 45) := ⟨_, rfl⟩
  have gA : Ch NoB w1 W2 := by rw [hW2]; exact (Ch.refl _ _).alloc _
  obtain ⟨kb, hkb⟩ : ∃ k, k = w1.heap.size := ⟨_, rfl⟩
  have f2 : Fv 45 W2 kb (.int .i64 L) (.slice p1 i1 o1) (.slice p2 i2 o2) (.slice p3 i3 o3) (.slice p4 i4 o4) := by rw [hW2, hkb]; exact Fv.new _ w1 _ _ _ _ _
  have hz2 : W2.heap.size = kb + 1 := by rw [hW2, hkb]; simp
  have bu : ∀ q, SB (.slice p1 i1 o1) (.slice p2 i2 o2) (.slice p3 i3 o3) (.slice p4 i4 o4) cu q → w.heap.size < q ∧ q < kb := fun q e => by
    have := su.blk e
    omega
  have HBU := hid bu
  have HSU := hid (su.ch gA (fun _ _ => noB _))
  have HF2 := hid f2
  have HG2 := hid ((HG0.out.trans' g1).trans' gA)
  have HH2 := hid (g1.trans' gA)
  obtain ⟨c0, c1, c2, c3, c4⟩ := f2.cells
  have k2 : W0.heap.size ≤ W2.heap.size := (g1.trans' gA).size
  clear bu su f2 hi1 hi2 hi3 hi4 g1 gA
  go_wp2_with fail
  rw [← hkb, ← hW2]
  clear hW2 hkb
  refine (load_sized _ L _ _ _ _ cu x _ (HSU.out.given HBg.out) HSz.out).mono ?_
  rintro e w3 ⟨hcase, g3⟩
  rcases hcase with ⟨hbad, -⟩ | ⟨-, b, rfl, hbb, s1⟩
  · rw [HB.out] at hbad
    cases hbad
  have HS1 := hid s1
  clear s1
  obtain ⟨d0, d1, d2, d3, d4⟩ := (HF0.out.ch (HH2.out.trans' g3) (noB _)).cells
  have HG3 := hid (HG2.out.trans' g3)
  have HH3 := hid g3
  clear g3 c0 c1 c2 c3 c4
  go_wp2_with fail
  refine (rload_sized P L _ _ _ _ cv x _ (HG.out.ch HG3.out) HSz.out).mono ?_
  rintro e w4 ⟨rfl, g4⟩
  rw [if_pos HB.out]
  have HG4 := hid (HG3.out.trans' g4)
  have HH4 := hid (HH3.out.trans' g4)
  have HX4 := hid g4
  clear g4 d0 d1 d2 d3 d4
  obtain ⟨d0, d1, d2, d3, d4⟩ := (HF0.out.ch (HH2.out.trans' HH4.out) (noB _)).cells
  obtain ⟨c0, c1, c2, c3, c4⟩ := (HF2.out.ch HH4.out (noB _)).cells
  go_wp2_with fail
  refine (same_big _ P L _ _ _ _ _ _ _ _ cu cv x _ (HSU.out.ch HH4.out (fun _ _ => noB _)).rd (HG.out.ch HG4.out).r HBg.out).mono ?_
  rintro e w5 ⟨rfl, g5⟩
  have HG5 := hid (HG4.out.trans' g5)
  have HH5 := hid (HH4.out.trans' g5)
  have HH35 := hid (HX4.out.trans' g5)
  clear g5 c0 c1 c2 c3 c4 d0 d1 d2 d3 d4
  have HM := hid (show May L x from may_load HSz.out (by have := HB.out; simp only [Bool.and_eq_true] at this; exact this.1) (by have := HB.out; simp only [Bool.and_eq_true] at this; exact this.2))
  obtain ⟨c0, c1, c2, c3, c4⟩ := (HF2.out.ch HH5.out (noB _)).cells
  go_wp2_with fail
  refine (spoil_any _ L _ _ _ _ cu x _ (HSU.out.ch HH5.out (fun _ _ => noB _)) HBg.out (Nat.le_trans k2 HH5.out.size)).mono ?_
  rintro e w6 ⟨rfl, g6⟩
  have G6 : Ch NoB w w6 := HG5.out.trans g6 (fun q e => .inr (Nat.le_of_lt (HBU.out q e).1))
  have n6 : ¬ SB (.slice p1 i1 o1) (.slice p2 i2 o2) (.slice p3 i3 o3) (.slice p4 i4 o4) cu w.heap.size := fun e => Nat.lt_irrefl _ (HBU.out _ e).1
  obtain ⟨d0, d1, d2, d3, d4⟩ := ((HF0.out.ch (HH2.out.trans' HH5.out) (noB _)).ch g6 n6).cells
  have HG6 := hid G6
  have HW36 := hid (show Ch (SB (.slice p1 i1 o1) (.slice p2 i2 o2) (.slice p3 i3 o3) (.slice p4 i4 o4) cu) w3 w6 from HH35.out.any.trans' g6)
  have HH6 := hid g6
  clear g6 G6 c0 c1 c2 c3 c4 n6
  go_wp2_with fail
  refine (copy_any L _ _ _ _ cv x P _ (HG.out.ch HG6.out).r HM.out.fits).mono ?_
  rintro e w7 ⟨vg', va', vc', vf', cv', rfl, st, g7⟩
  obtain ⟨a1, q1, rfl⟩ := st.g.form
  obtain ⟨a2, q2, rfl⟩ := st.a.form
  obtain ⟨a3, q3, rfl⟩ := st.c.form
  obtain ⟨a4, q4, rfl⟩ := st.f.form
  obtain ⟨n1, hn1⟩ : ∃ n, n = (iv x.G).length := ⟨_, rfl⟩
  obtain ⟨n2, hn2⟩ : ∃ n, n = (bv x.A).length := ⟨_, rfl⟩
  obtain ⟨n3, hn3⟩ : ∃ n, n = cv'.length := ⟨_, rfl⟩
  obtain ⟨n4, hn4⟩ : ∃ n, n = (iv x.F).length := ⟨_, rfl⟩
  rw [← hn1, ← hn2, ← hn3, ← hn4] at st ⊢
  have hI := Inv.own HG2.out (by omega) (HF0.out.ch HH2.out (noB _)).cells.2.2.1 HM.out hbb HS1.out HH3.out (T := SB (.slice p1 i1 o1) (.slice p2 i2 o2) (.slice p3 i3 o3) (.slice p4 i4 o4) cu) (w2 := w6) (HW36.out) (fun q e => ⟨(HBU.out q e).1, by have := (HBU.out q e).2; omega⟩) st g7
  obtain ⟨base, hbase⟩ : ∃ x, x = W2.heap.size := ⟨_, rfl⟩
  obtain ⟨bm, hbm⟩ : ∃ x, x = w7.heap.size := ⟨_, rfl⟩
  obtain ⟨W4, hW4⟩ : ∃ W, W = w7.alloc (.cells #[.int .i64 L, .slice a1 n1 q1, .slice a2 n2 q2, .slice a3 n3 q3, .slice a4 n4 q4] 45) := ⟨_, rfl⟩
  have f4 : Fv 45 W4 bm (.int .i64 L) (.slice a1 n1 q1) (.slice a2 n2 q2) (.slice a3 n3 q3) (.slice a4 n4 q4) := by rw [hW4, hbm]; exact Fv.new _ w7 _ _ _ _ _
  have r4 : Rd (fun q => w6.heap.size ≤ q ∧ q < w7.heap.size) W4 (.slice a1 n1 q1) (.slice a2 n2 q2) (.slice a3 n3 q3) (.slice a4 n4 q4) cv' x := by
    rw [hW4]
    exact (st.rd.mono (fun q _ a => st.blk a)).ch ((Ch.refl NoB _).alloc _) (fun _ _ _ => noB _)
  have s4 : SlabAt base W4 b L x := by
    obtain ⟨vg, va, vc, vf, cv, f1, t1, m1⟩ := HS1.out
    have hbl := f1.lt
    have i9 : SlabIn (fun q => W2.heap.size ≤ q ∧ q < w3.heap.size) W2.heap.size w3 b L x := ⟨vg, va, vc, vf, cv, f1, t1, m1, ⟨hbb, hbl⟩, fun q a => t1.blk a, fun q a => a.2⟩
    rw [hbase, hW4]
    exact (((i9.ch (HW36.out) (fun q a e => by have := (HBU.out q e).2; omega)).ch g7 (fun _ _ => noB _)).ch ((Ch.refl NoB _).alloc _) (fun _ _ => noB _)).at
  rw [← hbase, ← hbm, ← hW4] at hI
  have HI := hid hI
  have HS4 := hid s4
  have HR4 := hid r4
  have HF4 := hid f4
  clear hI s4 r4 st g7 d0 d1 d2 d3 d4 hn1 hn2 hn3 hn4 f4
  go_wp2_with fail
  rw [← hbm, ← hW4]
  clear hW4 hbase hz0 hbb
  obtain ⟨c0, c1, c2, c3, c4⟩ := HF4.out.cells
  have l4 := HF4.out.lt
  refine (is_eq base b _ L _ _ _ _ cv' x _ HS4.out HR4.out HM.out.fits).mono ?_
  rintro e w5' ⟨rfl, g5⟩
  have HI5 := hid (HI.out.still g5)
  clear g5 hbm c0 c1 c2 c3 c4 l4
  go_wp2_with fail
  obtain ⟨hb', hhb⟩ : ∃ x, x = bm + 1 := ⟨_, rfl⟩
  rw [← hhb] at HI5
  clear hhb
  go_loopg [9, 10, 11] n (fun k ok v i wr => ∃ j va0 nV0 vc0, j + k = n ∧ i = .int .i64 ((j : Nat) : Int) ∧ v = .slice va0 nV0 vc0 ∧ ok = .bool true ∧ Inv w bm b base hb' L (.slice aa nA ac) j (.slice va0 nV0 vc0) wr)
  case atStart => exact ⟨0, _, _, _, by omega, rfl, rfl, rfl, HI5.out⟩
  case round =>
    obtain ⟨j, va0, nV0, vc0, hjk, rfl, rfl, rfl, hI⟩ := hrel
    clear HG HM HR4 HS4 HF4 HI HI5 HSU HBU HF2 HS1 HBg
    obtain ⟨S, P, x, vg, va, vc, vf, cv, gs, hJ, hF, hgl, hg, hS, hP, hV, hlm, hbx⟩ := hI
    obtain ⟨b1, r1, rfl⟩ := hJ.r.g.form
    obtain ⟨b2, r2, rfl⟩ := hJ.r.a.form
    obtain ⟨b3, r3, rfl⟩ := hJ.r.c.form
    obtain ⟨b4, r4, rfl⟩ := hJ.r.f.form
    obtain ⟨m1, hm1⟩ : ∃ n, n = (iv x.G).length := ⟨_, rfl⟩
    obtain ⟨m2, hm2⟩ : ∃ n, n = (bv x.A).length := ⟨_, rfl⟩
    obtain ⟨m3, hm3⟩ : ∃ n, n = cv.length := ⟨_, rfl⟩
    obtain ⟨m4, hm4⟩ : ∃ n, n = (iv x.F).length := ⟨_, rfl⟩
    rw [← hm1, ← hm2, ← hm3, ← hm4] at hJ hF
    obtain ⟨f0, f1, f2, f3, f4⟩ := hF.cells
    have lf := hF.lt
    have HJ := hid hJ
    have HF := hid hF
    have HG := hid hg
    have HS := hid hS
    have HP := hid hP
    have HV := hid hV
    have lw := hg.size
    have HL := hid hgl
    clear hJ hF hg hS hP hV hm1 hm2 hm3 hm4
    by_cases hj : j < n
    · obtain ⟨g, p, rfl, hgw, hx⟩ := HE.out.resolve_left (by omega)
      go_wp2_with fail
      refine (state_any base b L x _ HJ.out.s.at HJ.out.m.fits).mono ?_
      rintro e w8 ⟨ug, ua, uc, uf, cu, rfl, s8, g8⟩
      obtain ⟨p1, o1, rfl⟩ := s8.g.form
      obtain ⟨p2, o2, rfl⟩ := s8.a.form
      obtain ⟨p3, o3, rfl⟩ := s8.c.form
      obtain ⟨p4, o4, rfl⟩ := s8.f.form
      obtain ⟨i1, hi1⟩ : ∃ n, n = (iv x.G).length := ⟨_, rfl⟩
      obtain ⟨i2, hi2⟩ : ∃ n, n = (bv x.A).length := ⟨_, rfl⟩
      obtain ⟨i3, hi3⟩ : ∃ n, n = cu.length := ⟨_, rfl⟩
      obtain ⟨i4, hi4⟩ : ∃ n, n = (iv x.F).length := ⟨_, rfl⟩
      rw [← hi1, ← hi2, ← hi3, ← hi4] at s8 ⊢
      have HS8 := hid s8
      have HG8 := hid g8
      clear s8 g8 hi1 hi2 hi3 hi4
      go_wp2_with fail
      refine (spoil_any _ L _ _ _ _ cu x _ HS8.out HJ.out.m.fits.big HG8.out.size).mono ?_
      rintro e w9 ⟨rfl, g9⟩
      have G9 : Ch NoB wr w9 := HG8.out.trans g9 (fun q e => .inr (HS8.out.blk e).1)
      clear g9 HS8 HG8
      have HJ := hid (HJ.out.same G9)
      have HF := hid (HF.out.ch G9 (noB _))
      have HG := hid (HG.out.trans' G9)
      have hbx := (G9.cell (b := w.heap.size) (o := 2) (by omega) (noB _)).trans hbx
      have lw9 := G9.size
      clear f0 f1 f2 f3 f4 lf G9
      obtain ⟨f0, f1, f2, f3, f4⟩ := HF.out.cells
      have lf := HF.out.lt
      obtain ⟨d, pp, pk, s0, gn, k0, k1, k2, k3, k4⟩ := hx j hj
      have hS0 := And.intro ((HG.out.cell hgw (noB _)).trans k0) (And.intro ((HG.out.cell hgw (noB _)).trans k1) (And.intro ((HG.out.cell hgw (noB _)).trans k2) (And.intro ((HG.out.cell hgw (noB _)).trans k3) ((HG.out.cell hgw (noB _)).trans k4))))
      have ngm : ¬ Only bm g := fun e => by have e1 : g = bm := e; omega
      have hjz : (0 : Int) ≤ (j : Int) := by omega
      have hjn : (j : Int) < (n : Int) := by omega
      clear hx k0 k1 k2 k3 k4
      go_wp2_with fail
      refine wp_region_held_drew (S := fun w' => w'.cell? ⟨g, p + j * 5, none⟩ = some (.int .i64 d) ∧ w'.cell? ⟨g, p + j * 5 + 1, none⟩ = some (.int .i64 pp) ∧ w'.cell? ⟨g, p + j * 5 + 2, none⟩ = some (.int .i64 pk) ∧ w'.cell? ⟨g, p + j * 5 + 3, none⟩ = some (.int .i64 s0) ∧ w'.cell? ⟨g, p + j * 5 + 4, none⟩ = some (.int .i64 gn)) (by kernel_rfl) (by exact hS0) (fun _ => ?_)
      refine takeS_on (i := 0) 52 (v := ?v117) rfl rfl (by kernel_rfl) (by kernel_rfl) (by kernel_rfl) (fun _ _ _ h => h) (by kernel_rfl) ?hy117 (by exact hS0) ?_
      case hy117 => (intro w' hSw; go_simp; try (with_reducible rfl))
      simp only [Act.put, List.setIfInBounds_toArray, List.set_cons_zero, List.set_cons_succ]
      refine takeS_on (i := 2) 54 (v := ?v118) rfl rfl (by kernel_rfl) (by kernel_rfl) (by kernel_rfl) (fun _ _ _ h => h) (by kernel_rfl) ?hy118 (by exact hS0) ?_
      case hy118 => (intro w' hSw; go_simp; try (with_reducible rfl))
      simp only [Act.put, List.setIfInBounds_toArray, List.set_cons_zero, List.set_cons_succ]
      refine takeS_on (i := 3) 55 (v := ?v119) rfl rfl (by kernel_rfl) (by kernel_rfl) (by kernel_rfl) (fun _ _ _ h => h) (by kernel_rfl) ?hy119 (by exact hS0) ?_
      case hy119 => (intro w' hSw; go_simp; try (with_reducible rfl))
      simp only [Act.put, List.setIfInBounds_toArray, List.set_cons_zero, List.set_cons_succ]
      refine takeS_on (i := 4) 56 (v := ?v120) rfl rfl (by kernel_rfl) (by kernel_rfl) (by kernel_rfl) (fun _ _ _ h => h) (by kernel_rfl) ?hy120 (by exact hS0) ?_
      case hy120 => (intro w' hSw; go_simp; try (with_reducible rfl))
      simp only [Act.put, List.setIfInBounds_toArray, List.set_cons_zero, List.set_cons_succ]
      refine takeS_on (i := 5) 57 (v := ?v121) rfl rfl (by kernel_rfl) (by kernel_rfl) (by kernel_rfl) (fun _ _ _ h => h) (by kernel_rfl) ?hy121 (by exact hS0) ?_
      case hy121 => (intro w' hSw; go_simp; try (with_reducible rfl))
      simp only [Act.put, List.setIfInBounds_toArray, List.set_cons_zero, List.set_cons_succ]
      refine takeS_on (i := 6) 58 (v := ?v122) rfl rfl (by kernel_rfl) (by kernel_rfl) (by kernel_rfl) (fun _ _ _ h => h) (by kernel_rfl) ?hy122 (by exact hS0) ?_
      case hy122 => (intro w' hSw; go_simp; try (with_reducible rfl))
      simp only [Act.put, List.setIfInBounds_toArray, List.set_cons_zero, List.set_cons_succ]
      refine wpAnyH_ready (rs := [1]) (by kernel_rfl) (by simp) (AllReadyH.cons rfl (fun K hK => ?_) AllReadyH.nil)
      go_simp
      refine hK.out _ _ (by exact hS0) (fun _ => ?_)
      clear hK K
      refine wpAnyH_ready (rs := [7]) (by kernel_rfl) (by simp) (AllReadyH.cons rfl (fun K hK => ?_) AllReadyH.nil)
      go_simp
      refine (calls_any S P base hb' b L d pp pk s0 gn x _ _ _ _ _ cv gs _ (HJ.out.same ((Ch.refl NoB w9).drew)) (by omega)).mono ?_
      rintro e w1 ⟨S', P', x', vg', va', vc', vf', cv', v', gs', rfl, J', hl', gC, nS, nP, nV⟩
      obtain ⟨a1, q1, rfl⟩ := J'.r.g.form
      obtain ⟨a2, q2, rfl⟩ := J'.r.a.form
      obtain ⟨a3, q3, rfl⟩ := J'.r.c.form
      obtain ⟨a4, q4, rfl⟩ := J'.r.f.form
      obtain ⟨a5, q5, rfl⟩ := J'.p.form
      obtain ⟨n1, hn1⟩ : ∃ n, n = (iv x'.G).length := ⟨_, rfl⟩
      obtain ⟨n2, hn2⟩ : ∃ n, n = (bv x'.A).length := ⟨_, rfl⟩
      obtain ⟨n3, hn3⟩ : ∃ n, n = cv'.length := ⟨_, rfl⟩
      obtain ⟨n4, hn4⟩ : ∃ n, n = (iv x'.F).length := ⟨_, rfl⟩
      obtain ⟨n5, hn5⟩ : ∃ n, n = gs'.length := ⟨_, rfl⟩
      rw [← hn1, ← hn2, ← hn3, ← hn4, ← hn5] at J' ⊢
      rw [← hn5] at nV
      have gC' : Ch (fun q => S q ∨ Blk (.slice va0 nV0 vc0) q) w9 w1 := ((Ch.refl _ w9).drew).trans' gC
      have nm : ¬ (S bm ∨ Blk (.slice va0 nV0 vc0) bm) := fun e => e.elim (fun a => (HS.out _ a).2 rfl) (fun a => (HV.out _ a).2 rfl)
      have ng : ¬ (S g ∨ Blk (.slice va0 nV0 vc0) g) := fun e => e.elim (fun a => by have := (HS.out _ a).1; omega) (fun a => by have := (HV.out _ a).1; omega)
      have hS1 : (w1.cell? ⟨g, p + j * 5, none⟩ = some (.int .i64 d) ∧ w1.cell? ⟨g, p + j * 5 + 1, none⟩ = some (.int .i64 pp) ∧ w1.cell? ⟨g, p + j * 5 + 2, none⟩ = some (.int .i64 pk) ∧ w1.cell? ⟨g, p + j * 5 + 3, none⟩ = some (.int .i64 s0) ∧ w1.cell? ⟨g, p + j * 5 + 4, none⟩ = some (.int .i64 gn)) := ⟨(gC'.cell (by omega) ng).trans hS0.1, (gC'.cell (by omega) ng).trans hS0.2.1, (gC'.cell (by omega) ng).trans hS0.2.2.1, (gC'.cell (by omega) ng).trans hS0.2.2.2.1, (gC'.cell (by omega) ng).trans hS0.2.2.2.2⟩
      have F1 := HF.out.ch gC' nm
      have s1 := gC'.size
      obtain ⟨z0, z1, z2, z3, z4⟩ := F1.cells
      obtain ⟨zf0, zf1, zf2, zf3, zf4⟩ := F1.fz
      have l5 := F1.lt
      have HF1 := hid F1
      have HJ1 := hid J'
      have HL1 := hid hl'
      have HC1 := hid gC'
      have HNS := hid (show ∀ q, S' q → S q ∨ w9.heap.size ≤ q from nS)
      have HNP := hid (show ∀ q, P' q → P q ∨ w9.heap.size ≤ q from nP)
      have HNV := hid (show ∀ q, Blk (.slice a5 n5 q5) q → Blk (.slice va0 nV0 vc0) q ∨ w9.heap.size ≤ q from nV)
      have HN5 := hid hn5
      clear J' hl' gC gC' nS nP nV nm F1 hn1 hn2 hn3 hn4 hn5
      refine hK.out _ _ (by exact hS1) (fun _ => ?_)
      clear hK K
      refine takeS_on (i := 8) 51 (v := ?v123) rfl rfl (by kernel_rfl) (by kernel_rfl) (by kernel_rfl) (fun _ _ _ h => h) (by kernel_rfl) ?hy123 (by exact hS1) ?_
      case hy123 => (intro w' hSw; go_simp; try (with_reducible rfl))
      simp only [Act.put, List.setIfInBounds_toArray, List.set_cons_zero, List.set_cons_succ]
      refine takeS_on (i := 9) 60 (v := ?v124) rfl rfl (by kernel_rfl) (by kernel_rfl) (by kernel_rfl) (fun _ _ _ h => h) (by kernel_rfl) ?hy124 (by exact hS1) ?_
      case hy124 => (intro w' hSw; go_simp; try (with_reducible rfl))
      simp only [Act.put, List.setIfInBounds_toArray, List.set_cons_zero, List.set_cons_succ]
      refine takeS_on (i := 10) 61 (v := ?v125) rfl rfl (by kernel_rfl) (by kernel_rfl) (by kernel_rfl) (fun _ _ _ h => h) (by kernel_rfl) ?hy125 (by exact hS1) ?_
      case hy125 => (intro w' hSw; go_simp; try (with_reducible rfl))
      simp only [Act.put, List.setIfInBounds_toArray, List.set_cons_zero, List.set_cons_succ]
      refine takeS_on (i := 11) 62 (v := ?v126) rfl rfl (by kernel_rfl) (by kernel_rfl) (by kernel_rfl) (fun _ _ _ h => h) (by kernel_rfl) ?hy126 (by exact hS1) ?_
      case hy126 => (intro w' hSw; go_simp; try (with_reducible rfl))
      simp only [Act.put, List.setIfInBounds_toArray, List.set_cons_zero, List.set_cons_succ]
      refine wpAnyH_ready (rs := [12]) (by kernel_rfl) (by simp) (AllReadyH.cons rfl (fun K hK => ?_) AllReadyH.nil)
      go_simp
      have C8 := (((((Ch.refl (Only bm) w1).own 0 (.int .i64 L)).own 1 (.slice a1 n1 q1)).own 2 (.slice a2 n2 q2)).own 3 (.slice a3 n3 q3)).own 4 (.slice a4 n4 q4)
      have hS2 : ((((((w1.setCell ⟨bm, 0, none⟩ (.int .i64 L)).setCell ⟨bm, 1, none⟩ (.slice a1 n1 q1)).setCell ⟨bm, 2, none⟩ (.slice a2 n2 q2)).setCell ⟨bm, 3, none⟩ (.slice a3 n3 q3)).setCell ⟨bm, 4, none⟩ (.slice a4 n4 q4)).cell? ⟨g, p + j * 5, none⟩ = some (.int .i64 d) ∧ (((((w1.setCell ⟨bm, 0, none⟩ (.int .i64 L)).setCell ⟨bm, 1, none⟩ (.slice a1 n1 q1)).setCell ⟨bm, 2, none⟩ (.slice a2 n2 q2)).setCell ⟨bm, 3, none⟩ (.slice a3 n3 q3)).setCell ⟨bm, 4, none⟩ (.slice a4 n4 q4)).cell? ⟨g, p + j * 5 + 1, none⟩ = some (.int .i64 pp) ∧ (((((w1.setCell ⟨bm, 0, none⟩ (.int .i64 L)).setCell ⟨bm, 1, none⟩ (.slice a1 n1 q1)).setCell ⟨bm, 2, none⟩ (.slice a2 n2 q2)).setCell ⟨bm, 3, none⟩ (.slice a3 n3 q3)).setCell ⟨bm, 4, none⟩ (.slice a4 n4 q4)).cell? ⟨g, p + j * 5 + 2, none⟩ = some (.int .i64 pk) ∧ (((((w1.setCell ⟨bm, 0, none⟩ (.int .i64 L)).setCell ⟨bm, 1, none⟩ (.slice a1 n1 q1)).setCell ⟨bm, 2, none⟩ (.slice a2 n2 q2)).setCell ⟨bm, 3, none⟩ (.slice a3 n3 q3)).setCell ⟨bm, 4, none⟩ (.slice a4 n4 q4)).cell? ⟨g, p + j * 5 + 3, none⟩ = some (.int .i64 s0) ∧ (((((w1.setCell ⟨bm, 0, none⟩ (.int .i64 L)).setCell ⟨bm, 1, none⟩ (.slice a1 n1 q1)).setCell ⟨bm, 2, none⟩ (.slice a2 n2 q2)).setCell ⟨bm, 3, none⟩ (.slice a3 n3 q3)).setCell ⟨bm, 4, none⟩ (.slice a4 n4 q4)).cell? ⟨g, p + j * 5 + 4, none⟩ = some (.int .i64 gn)) := ⟨(C8.cell (by omega) ngm).trans hS1.1, (C8.cell (by omega) ngm).trans hS1.2.1, (C8.cell (by omega) ngm).trans hS1.2.2.1, (C8.cell (by omega) ngm).trans hS1.2.2.2.1, (C8.cell (by omega) ngm).trans hS1.2.2.2.2⟩
      refine hK.out _ _ (by exact hS2) (fun _ => ?_)
      clear hK K
      refine takeS_on (i := 13) 10 (v := ?v127) rfl rfl (by kernel_rfl) (by kernel_rfl) (by kernel_rfl) (fun _ _ _ h => h) (by kernel_rfl) ?hy127 (by exact hS2) ?_
      case hy127 => (intro w' hSw; go_simp; try (with_reducible rfl))
      simp only [Act.put, List.setIfInBounds_toArray, List.set_cons_zero, List.set_cons_succ]
      refine takeS_on (i := 14) 9 (v := ?v128) rfl rfl (by kernel_rfl) (by kernel_rfl) (by kernel_rfl) (fun _ _ _ h => h) (by kernel_rfl) ?hy128 (by exact hS2) ?_
      case hy128 => (intro w' hSw; go_simp; try (with_reducible rfl))
      simp only [Act.put, List.setIfInBounds_toArray, List.set_cons_zero, List.set_cons_succ]
      refine wpAnyH_done (by kernel_rfl) ?_ _
      have F5 := HF1.out.put5 (.int .i64 L) (.slice a1 n1 q1) (.slice a2 n2 q2) (.slice a3 n3 q3) (.slice a4 n4 q4)
      have HI5 := hid (Inv.step HF.out hgl HG.out HS.out HP.out HV.out hlm hbx HJ1.out HL1.out HC1.out HNS.out HNP.out HNV.out C8 F5)
      obtain ⟨W5, hW5⟩ : ∃ W, W = (((((w1.setCell ⟨bm, 0, none⟩ (.int .i64 L)).setCell ⟨bm, 1, none⟩ (.slice a1 n1 q1)).setCell ⟨bm, 2, none⟩ (.slice a2 n2 q2)).setCell ⟨bm, 3, none⟩ (.slice a3 n3 q3)).setCell ⟨bm, 4, none⟩ (.slice a4 n4 q4)) := ⟨_, rfl⟩
      rw [← hW5] at HI5 ⊢
      clear F5 C8 hS2 hS1 hS0 z0 z1 z2 z3 z4 zf0 zf1 zf2 zf3 zf4 hW5
      go_wp2
      go_roundg (gk - 1)
      case measure => omega
      case rel => exact ⟨j + 1, _, _, _, by omega, by simp, rfl, rfl, HI5.out⟩
    · have e : j = n := by omega
      subst e
      go_wp2_with fail
      refine (state_any base b L x _ HJ.out.s.at HJ.out.m.fits).mono ?_
      rintro e w8 ⟨ug, ua, uc, uf, cu, rfl, s8, g8⟩
      obtain ⟨p1, o1, rfl⟩ := s8.g.form
      obtain ⟨p2, o2, rfl⟩ := s8.a.form
      obtain ⟨p3, o3, rfl⟩ := s8.c.form
      obtain ⟨p4, o4, rfl⟩ := s8.f.form
      obtain ⟨i1, hi1⟩ : ∃ n, n = (iv x.G).length := ⟨_, rfl⟩
      obtain ⟨i2, hi2⟩ : ∃ n, n = (bv x.A).length := ⟨_, rfl⟩
      obtain ⟨i3, hi3⟩ : ∃ n, n = cu.length := ⟨_, rfl⟩
      obtain ⟨i4, hi4⟩ : ∃ n, n = (iv x.F).length := ⟨_, rfl⟩
      rw [← hi1, ← hi2, ← hi3, ← hi4] at s8 ⊢
      have HS8 := hid s8
      have HG8 := hid g8
      clear s8 g8 hi1 hi2 hi3 hi4
      go_wp2_with fail
      refine (spoil_any _ L _ _ _ _ cu x _ HS8.out HJ.out.m.fits.big HG8.out.size).mono ?_
      rintro e w9 ⟨rfl, g9⟩
      have G9 : Ch NoB wr w9 := HG8.out.trans g9 (fun q e => .inr (HS8.out.blk e).1)
      clear g9 HS8 HG8
      have HJ := hid (HJ.out.same G9)
      have HF := hid (HF.out.ch G9 (noB _))
      have HG := hid (HG.out.trans' G9)
      clear f0 f1 f2 f3 f4 lf G9
      obtain ⟨f0, f1, f2, f3, f4⟩ := HF.out.cells
      have lf := HF.out.lt
      go_wp2_with fail
      refine (is_eq base b P L _ _ _ _ cv x _ HJ.out.s.at HJ.out.r HJ.out.m.fits).mono ?_
      rintro e w6 ⟨rfl, g6⟩
      have HG6 := hid (HG.out.trans' g6)
      clear g6
      go_wp2
      go_ret
      exact ⟨rfl, HG6.out⟩

theorem own_law (L : Int) (vg va vc vf v : Value) (cv : List Value) (x : Sl) (n : Nat) (w : World) (h : Given (· < w.heap.size) w vg va vc vf cv x) (hbig : x.Big) (hv : OpL w v n) : Calls Try.prog 6 #[.agg #[.int .i64 L, vg, va, vc, vf], v] w fun e w' => e = .returned (.bool true) ∧ Ch NoB w w' := by
  by_cases hS : Sized L (x.C.length : Nat)
  · cases hb : (slotsB L x && listsB x) with
    | false => exact own_bad _ L vg va vc vf v cv x n w h hbig hv hS hb
    | true => exact own_good _ L vg va vc vf v cv x n w h hbig hv hS hb
  · exact own_arg _ L vg va vc vf v cv x n w h hbig hv hS
end Go.Proofs.Ytfbkifkfhgkdbab.Sb
