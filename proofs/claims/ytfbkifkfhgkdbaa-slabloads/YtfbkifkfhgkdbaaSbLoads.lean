/-
  SlabLoads' walk: Load takes a state just where the document does, and any calls behind it answer as the document says. Condition: the state and the list of calls are there, none of the lists too long.
-/
import Derived.Test.YtfbkifkfhgkdbaaSbRLoad3
import Derived.Test.YtfbkifkfhgkdbaaSbPlays
import Derived.Handy
namespace Go.Proofs.Ytfbkifkfhgkdbaa.Sb
open Go.RowKit
open Classical
attribute [local go_sem ↓] Go.wp_at_zero Go.wp_at_succ

theorem rload_sized (P : Nat → Prop) (L : Int) (vg va vc vf : Value) (cv : List Value) (x : Sl) (w : World) (h : Given P w vg va vc vf cv x) (hS : Sized L (x.C.length : Nat)) :
    Calls Try.prog 14 #[.agg #[.int .i64 L, vg, va, vc, vf]] w fun e w' => e = .returned (.int .i64 (if (slotsB L x && listsB x) = true then 0 else 40)) ∧ Ch NoB w w' := by
  cases h1 : slotsB L x with
  | false =>
    refine (rload_slots P L vg va vc vf cv x w h.r hS h1).mono ?_
    rintro e w1 ⟨rfl, g⟩
    exact ⟨by simp, g⟩
  | true =>
    refine (rload_lists P L vg va vc vf cv x w h hS h1).mono ?_
    rintro e w1 ⟨rfl, g⟩
    exact ⟨by simp [loadE], g⟩

/-- what SlabLoads stands on when its first call begins -/
theorem Inv.load {w w0 w1 w2 w3 : World} {b : Nat} {L : Int} {x : Sl} {vo vg' va' vc' vf' : Value} {cv' : List Value} (g0 : Ch NoB w w0) (hz : w0.heap.size = w.heap.size + 1) (c0 : w0.cell? ⟨w.heap.size, 2, none⟩ = some vo) (hm : May L x) (hb : w0.heap.size ≤ b) (s1 : SlabAt w0.heap.size w1 b L x) (g1 : Ch NoB w0 w1) (g2 : Ch NoB w1 w2) (st : St w2.heap.size w3 vg' va' vc' vf' cv' x) (g3 : Ch NoB w2 w3) :
    Inv w w3.heap.size b w0.heap.size (w3.heap.size + 1) L vo 0 (.slice none 0 0) (w3.alloc (.cells #[.int .i64 L, vg', va', vc', vf'] 30)) := by
  have k1 := g1.size
  have k2 := g2.size
  have k3 := g3.size
  obtain ⟨vg, va, vc, vf, cv, f1, t1, n1⟩ := s1
  have hbl : b < w1.heap.size := f1.lt
  have i1 : SlabIn (fun q => w0.heap.size ≤ q ∧ q < w1.heap.size) w0.heap.size w1 b L x := ⟨vg, va, vc, vf, cv, f1, t1, n1, ⟨hb, hbl⟩, fun q a => t1.blk a, fun q a => a.2⟩
  have gA : Ch NoB w3 (w3.alloc (.cells #[.int .i64 L, vg', va', vc', vf'] 30)) := (Ch.refl _ _).alloc _
  have hlt2 : w3.heap.size + 1 ≤ (w3.alloc (.cells #[.int .i64 L, vg', va', vc', vf'] 30)).heap.size := by simp
  refine ⟨fun q => w0.heap.size ≤ q ∧ q < w1.heap.size, fun q => w2.heap.size ≤ q ∧ q < w3.heap.size, x, _, _, _, _, _, [], ⟨(i1.ch (g2.trans' g3) (fun _ _ => noB _)).ch gA (fun _ _ => noB _), (st.rd.mono (fun q _ a => st.blk a)).ch gA (fun _ _ _ => noB _), Pr.nil _ _, hm, (by omega), hlt2, fun q a e => (by omega), fun q a => (by cases a), fun q a => (by cases a), fun q a => Nat.lt_of_lt_of_le a.2 (by simp)⟩, Fv.new _ w3 _ _ _ _ _, by simp, ?_, fun q a => ⟨by omega, by omega⟩, fun q a => (by omega), fun q a => (by cases a), by omega, ?_⟩
  · exact (((g0.trans' g1).trans' g2).trans' g3).trans' gA
  · exact ((((g1.trans' g2).trans' g3).trans' gA).cell (by omega) (noB _)).trans c0

/-- a list of calls, in the world behind its caller's first steps -/
theorem loads_arg (P : Nat → Prop) (L : Int) (vg va vc vf v : Value) (cv : List Value) (x : Sl) (n : Nat) (w : World) (h : Given P w vg va vc vf cv x) (hv : OpL w v n) (hS : ¬ Sized L (x.C.length : Nat)) :
    Calls Try.prog 5 #[.agg #[.int .i64 L, vg, va, vc, vf], v] w fun e w' => e = .returned (.bool true) ∧ Ch NoB w w' := by
  obtain ⟨ao, cap, rfl, -, -⟩ := hv
  have HG := hid h
  have HSz := hid hS
  obtain ⟨ga, gc, rfl⟩ := h.r.g.form
  obtain ⟨aa, ac, rfl⟩ := h.r.a.form
  obtain ⟨ca, cc, rfl⟩ := h.r.c.form
  obtain ⟨fa, fc, rfl⟩ := h.r.f.form
  obtain ⟨W0, hW0⟩ : ∃ W, W = w.alloc (.cells #[.int .i64 L, .slice ga (iv x.G).length gc, .slice aa (bv x.A).length ac, .slice ca cv.length cc, .slice fa (iv x.F).length fc] 30) := ⟨_, rfl⟩
  have g0 : Ch NoB w W0 := by rw [hW0]; exact (Ch.refl _ _).alloc _
  have f0 : Fv 30 W0 w.heap.size (.int .i64 L) (.slice ga (iv x.G).length gc) (.slice aa (bv x.A).length ac) (.slice ca cv.length cc) (.slice fa (iv x.F).length fc) := by rw [hW0]; exact Fv.new _ w _ _ _ _ _
  have HF0 := hid f0
  have HG0 := hid g0
  clear h hS g0 f0
  go_enter Try.func5, Try.ntmps5
  go_wp2_with fail
  rw [← hW0]
  clear hW0
  refine (load_arg P L _ _ _ _ cv x _ (HG.out.ch HG0.out).r HSz.out).mono ?_
  rintro e w1 ⟨rfl, g1⟩
  obtain ⟨c0, c1, c2, c3, c4⟩ := (HF0.out.ch g1 (noB _)).cells
  have HG1 := hid (HG0.out.trans' g1)
  clear g1
  go_wp2_with fail
  refine (rload_arg P L _ _ _ _ cv x _ (HG.out.ch HG1.out).r HSz.out).mono ?_
  rintro e w2 ⟨rfl, g2⟩
  have HG2 := hid (HG1.out.trans' g2)
  clear g2 c0 c1 c2 c3 c4
  go_wp2
  go_ret
  exact ⟨rfl, HG2.out⟩

set_option maxHeartbeats 1000000 in
theorem loads_bad (P : Nat → Prop) (L : Int) (vg va vc vf v : Value) (cv : List Value) (x : Sl) (n : Nat) (w : World) (h : Given P w vg va vc vf cv x) (hv : OpL w v n) (hS : Sized L (x.C.length : Nat)) (hb : (slotsB L x && listsB x) = false) :
    Calls Try.prog 5 #[.agg #[.int .i64 L, vg, va, vc, vf], v] w fun e w' => e = .returned (.bool true) ∧ Ch NoB w w' := by
  obtain ⟨ao, cap, rfl, hmax, hel⟩ := hv
  have HG := hid h
  have HSz := hid hS
  have HB := hid hb
  have HE := hid hel
  obtain ⟨ga, gc, rfl⟩ := h.r.g.form
  obtain ⟨aa, ac, rfl⟩ := h.r.a.form
  obtain ⟨ca, cc, rfl⟩ := h.r.c.form
  obtain ⟨fa, fc, rfl⟩ := h.r.f.form
  obtain ⟨nG, hnG⟩ : ∃ n, n = (iv x.G).length := ⟨_, rfl⟩
  obtain ⟨nA, hnA⟩ : ∃ n, n = (bv x.A).length := ⟨_, rfl⟩
  obtain ⟨nC, hnC⟩ : ∃ n, n = cv.length := ⟨_, rfl⟩
  obtain ⟨nF, hnF⟩ : ∃ n, n = (iv x.F).length := ⟨_, rfl⟩
  rw [← hnG, ← hnA, ← hnC, ← hnF] at HG
  rw [← hnG, ← hnA, ← hnC, ← hnF]
  obtain ⟨W0, hW0⟩ : ∃ W, W = w.alloc (.cells #[.int .i64 L, .slice ga nG gc, .slice aa nA ac, .slice ca nC cc, .slice fa nF fc] 30) := ⟨_, rfl⟩
  have g0 : Ch NoB w W0 := by rw [hW0]; exact (Ch.refl _ _).alloc _
  have f0 : Fv 30 W0 w.heap.size (.int .i64 L) (.slice ga nG gc) (.slice aa nA ac) (.slice ca nC cc) (.slice fa nF fc) := by rw [hW0]; exact Fv.new _ w _ _ _ _ _
  have hz0 : W0.heap.size = w.heap.size + 1 := by rw [hW0]; simp
  have HF0 := hid f0
  have HG0 := hid g0
  clear h hS hb hel g0 f0 hnG hnA hnC hnF
  go_enter Try.func5, Try.ntmps5
  go_wp2_with fail
  rw [← hW0]
  clear hW0
  refine (load_sized P L _ _ _ _ cv x _ (HG.out.ch HG0.out) HSz.out).mono ?_
  rintro e w1 ⟨hcase, g1⟩
  rcases hcase.symm with ⟨hbad, -⟩ | ⟨-, rfl⟩
  · rw [HB.out] at hbad
    cases hbad
  obtain ⟨c0, c1, c2, c3, c4⟩ := (HF0.out.ch g1 (noB _)).cells
  have HG1 := hid (HG0.out.trans' g1)
  have HH1 := hid g1
  clear g1
  go_wp2_with fail
  refine (rload_sized P L _ _ _ _ cv x _ (HG.out.ch HG1.out) HSz.out).mono ?_
  rintro e w2 ⟨rfl, g2⟩
  obtain ⟨d0, d1, d2, d3, d4⟩ := (HF0.out.ch (HH1.out.trans' g2) (noB _)).cells
  have HG2 := hid (HG1.out.trans' g2)
  have HH2 := hid g2
  clear g2 c0 c1 c2 c3 c4
  rw [if_neg (by rw [HB.out]; simp)]
  go_wp2
  go_ret
  exact ⟨rfl, HG2.out⟩

set_option maxRecDepth 100000 in
set_option maxHeartbeats 2000000 in
theorem loads_good (P : Nat → Prop) (L : Int) (vg va vc vf v : Value) (cv : List Value) (x : Sl) (n : Nat) (w : World) (h : Given P w vg va vc vf cv x) (hv : OpL w v n) (hS : Sized L (x.C.length : Nat)) (hb : (slotsB L x && listsB x) = true) :
    Calls Try.prog 5 #[.agg #[.int .i64 L, vg, va, vc, vf], v] w fun e w' => e = .returned (.bool true) ∧ Ch NoB w w' := by
  obtain ⟨ao, cap, rfl, hmax, hel⟩ := hv
  have HG := hid h
  have HSz := hid hS
  have HB := hid hb
  have HE := hid hel
  obtain ⟨ga, gc, rfl⟩ := h.r.g.form
  obtain ⟨aa, ac, rfl⟩ := h.r.a.form
  obtain ⟨ca, cc, rfl⟩ := h.r.c.form
  obtain ⟨fa, fc, rfl⟩ := h.r.f.form
  obtain ⟨nG, hnG⟩ : ∃ n, n = (iv x.G).length := ⟨_, rfl⟩
  obtain ⟨nA, hnA⟩ : ∃ n, n = (bv x.A).length := ⟨_, rfl⟩
  obtain ⟨nC, hnC⟩ : ∃ n, n = cv.length := ⟨_, rfl⟩
  obtain ⟨nF, hnF⟩ : ∃ n, n = (iv x.F).length := ⟨_, rfl⟩
  rw [← hnG, ← hnA, ← hnC, ← hnF] at HG
  rw [← hnG, ← hnA, ← hnC, ← hnF]
  obtain ⟨W0, hW0⟩ : ∃ W, W = w.alloc (.cells #[.int .i64 L, .slice ga nG gc, .slice aa nA ac, .slice ca nC cc, .slice fa nF fc] 30) := ⟨_, rfl⟩
  have g0 : Ch NoB w W0 := by rw [hW0]; exact (Ch.refl _ _).alloc _
  have f0 : Fv 30 W0 w.heap.size (.int .i64 L) (.slice ga nG gc) (.slice aa nA ac) (.slice ca nC cc) (.slice fa nF fc) := by rw [hW0]; exact Fv.new _ w _ _ _ _ _
  have hz0 : W0.heap.size = w.heap.size + 1 := by rw [hW0]; simp
  have HF0 := hid f0
  have HG0 := hid g0
  clear h hS hb hel g0 f0 hnG hnA hnC hnF
  go_enter Try.func5, Try.ntmps5
  go_wp2_with fail
  rw [← hW0]
  clear hW0
  refine (load_sized P L _ _ _ _ cv x _ (HG.out.ch HG0.out) HSz.out).mono ?_
  rintro e w1 ⟨hcase, g1⟩
  rcases hcase with ⟨hbad, -⟩ | ⟨-, b, rfl, hbb, s1⟩
  · rw [HB.out] at hbad
    cases hbad
  have HS1 := hid s1
  clear s1
  obtain ⟨c0, c1, c2, c3, c4⟩ := (HF0.out.ch g1 (noB _)).cells
  have HG1 := hid (HG0.out.trans' g1)
  have HH1 := hid g1
  clear g1
  go_wp2_with fail
  refine (rload_sized P L _ _ _ _ cv x _ (HG.out.ch HG1.out) HSz.out).mono ?_
  rintro e w2 ⟨rfl, g2⟩
  obtain ⟨d0, d1, d2, d3, d4⟩ := (HF0.out.ch (HH1.out.trans' g2) (noB _)).cells
  have HG2 := hid (HG1.out.trans' g2)
  have HH2 := hid g2
  clear g2 c0 c1 c2 c3 c4
  rw [if_pos HB.out]
  have HM := hid (show May L x from may_load HSz.out (by have := HB.out; simp only [Bool.and_eq_true] at this; exact this.1) (by have := HB.out; simp only [Bool.and_eq_true] at this; exact this.2))
  go_wp2_with fail
  refine (copy_any L _ _ _ _ cv x P _ (HG.out.ch HG2.out).r HM.out.fits).mono ?_
  rintro e w3 ⟨vg', va', vc', vf', cv', rfl, st, g3⟩
  obtain ⟨a1, q1, rfl⟩ := st.g.form
  obtain ⟨a2, q2, rfl⟩ := st.a.form
  obtain ⟨a3, q3, rfl⟩ := st.c.form
  obtain ⟨a4, q4, rfl⟩ := st.f.form
  obtain ⟨n1, hn1⟩ : ∃ n, n = (iv x.G).length := ⟨_, rfl⟩
  obtain ⟨n2, hn2⟩ : ∃ n, n = (bv x.A).length := ⟨_, rfl⟩
  obtain ⟨n3, hn3⟩ : ∃ n, n = cv'.length := ⟨_, rfl⟩
  obtain ⟨n4, hn4⟩ : ∃ n, n = (iv x.F).length := ⟨_, rfl⟩
  rw [← hn1, ← hn2, ← hn3, ← hn4] at st ⊢
  have hI := Inv.load HG0.out hz0 HF0.out.cells.2.2.1 HM.out hbb HS1.out HH1.out HH2.out st g3
  obtain ⟨base, hbase⟩ : ∃ x, x = W0.heap.size := ⟨_, rfl⟩
  obtain ⟨bm, hbm⟩ : ∃ x, x = w3.heap.size := ⟨_, rfl⟩
  obtain ⟨W4, hW4⟩ : ∃ W, W = w3.alloc (.cells #[.int .i64 L, .slice a1 n1 q1, .slice a2 n2 q2, .slice a3 n3 q3, .slice a4 n4 q4] 30) := ⟨_, rfl⟩
  have s4 : SlabAt base W4 b L x := by
    rw [hbase, hW4]
    exact HS1.out.ch (((HH2.out.trans' g3)).alloc _)
  have r4 : Rd (fun q => w2.heap.size ≤ q ∧ q < w3.heap.size) W4 (.slice a1 n1 q1) (.slice a2 n2 q2) (.slice a3 n3 q3) (.slice a4 n4 q4) cv' x := by
    rw [hW4]
    exact (st.rd.mono (fun q _ a => st.blk a)).ch ((Ch.refl NoB _).alloc _) (fun _ _ _ => noB _)
  have f4 : Fv 30 W4 bm (.int .i64 L) (.slice a1 n1 q1) (.slice a2 n2 q2) (.slice a3 n3 q3) (.slice a4 n4 q4) := by rw [hW4, hbm]; exact Fv.new _ w3 _ _ _ _ _
  rw [← hbase, ← hbm, ← hW4] at hI
  have HI := hid hI
  have HS4 := hid s4
  have HR4 := hid r4
  have HF4 := hid f4
  clear hI s4 r4 st g3 d0 d1 d2 d3 d4 hn1 hn2 hn3 hn4 f4
  go_wp2_with fail
  rw [← hbm, ← hW4]
  clear hW4 hbase hz0 hbb
  obtain ⟨c0, c1, c2, c3, c4⟩ := HF4.out.cells
  have l4 := HF4.out.lt
  refine (is_eq base b _ L _ _ _ _ cv' x _ HS4.out HR4.out HM.out.fits).mono ?_
  rintro e w5 ⟨rfl, g5⟩
  have HI5 := hid (HI.out.still g5)
  clear g5 hbm c0 c1 c2 c3 c4 l4
  go_wp2_with fail
  obtain ⟨hb', hhb⟩ : ∃ x, x = w3.heap.size + 1 := ⟨_, rfl⟩
  obtain ⟨hb'', hhb2⟩ : ∃ x, x = bm + 1 := ⟨_, rfl⟩
  rw [← hhb2] at HI5
  clear hhb hhb2 hb'
  obtain ⟨hb', hhb⟩ : ∃ x, x = hb'' := ⟨_, rfl⟩
  rw [← hhb] at HI5
  clear hhb
  go_loopg [9, 10, 11] n (fun k ok v i wr => ∃ j va0 nV0 vc0, j + k = n ∧ i = .int .i64 ((j : Nat) : Int) ∧ v = .slice va0 nV0 vc0 ∧ ok = .bool true ∧ Inv w bm b base hb' L (.slice aa nA ac) j (.slice va0 nV0 vc0) wr)
  case atStart => exact ⟨0, _, _, _, by omega, rfl, rfl, rfl, HI5.out⟩
  case round =>
    obtain ⟨j, va0, nV0, vc0, hjk, rfl, rfl, rfl, hI⟩ := hrel
    clear HG HM HR4 HS4 HF4 HI HI5
    obtain ⟨S, P, x, vg, va, vc, vf, cv, gs, hJ, hF, hgl, hg, hS, hP, hV, hlm, hbx⟩ := hI
    obtain ⟨b1, r1, rfl⟩ := hJ.r.g.form
    obtain ⟨b2, r2, rfl⟩ := hJ.r.a.form
    obtain ⟨b3, r3, rfl⟩ := hJ.r.c.form
    obtain ⟨b4, r4, rfl⟩ := hJ.r.f.form
    obtain ⟨m1, hm1⟩ : ∃ n, n = (iv x.G).length := ⟨_, rfl⟩
    obtain ⟨m2, hm2⟩ : ∃ n, n = (bv x.A).length := ⟨_, rfl⟩
    obtain ⟨m3, hm3⟩ : ∃ n, n = cv.length := ⟨_, rfl⟩
    obtain ⟨m4, hm4⟩ : ∃ n, n = (iv x.F).length := ⟨_, rfl⟩
    rw [← hm1, ← hm2, ← hm3, ← hm4] at hJ hF
    obtain ⟨f0, f1, f2, f3, f4⟩ := hF.cells
    have lf := hF.lt
    have HJ := hid hJ
    have HF := hid hF
    have HG := hid hg
    have HS := hid hS
    have HP := hid hP
    have HV := hid hV
    have lw := hg.size
    by_cases hj : j < n
    · obtain ⟨g, p, rfl, hgw, hx⟩ := HE.out.resolve_left (by omega)
      obtain ⟨d, pp, pk, s0, gn, k0, k1, k2, k3, k4⟩ := hx j hj
      have hS0 := And.intro ((hg.cell hgw (noB _)).trans k0) (And.intro ((hg.cell hgw (noB _)).trans k1) (And.intro ((hg.cell hgw (noB _)).trans k2) (And.intro ((hg.cell hgw (noB _)).trans k3) ((hg.cell hgw (noB _)).trans k4))))
      have ngm : ¬ Only bm g := fun e => by have e1 : g = bm := e; omega
      have hjz : (0 : Int) ≤ (j : Int) := by omega
      have hjn : (j : Int) < (n : Int) := by omega
      clear hx k0 k1 k2 k3 k4 hJ hF hg hS hP hV hm1 hm2 hm3 hm4
      go_wp2_with fail
      refine wp_region_held_drew (S := fun w' => w'.cell? ⟨g, p + j * 5, none⟩ = some (.int .i64 d) ∧ w'.cell? ⟨g, p + j * 5 + 1, none⟩ = some (.int .i64 pp) ∧ w'.cell? ⟨g, p + j * 5 + 2, none⟩ = some (.int .i64 pk) ∧ w'.cell? ⟨g, p + j * 5 + 3, none⟩ = some (.int .i64 s0) ∧ w'.cell? ⟨g, p + j * 5 + 4, none⟩ = some (.int .i64 gn)) (by kernel_rfl) (by exact hS0) (fun _ => ?_)
      refine takeS_on (i := 0) 46 (v := ?v105) rfl rfl (by kernel_rfl) (by kernel_rfl) (by kernel_rfl) (fun _ _ _ h => h) (by kernel_rfl) ?hy105 (by exact hS0) ?_
      case hy105 => (intro w' hSw; go_simp; try (with_reducible rfl))
      simp only [Act.put, List.setIfInBounds_toArray, List.set_cons_zero, List.set_cons_succ]
      refine takeS_on (i := 2) 48 (v := ?v106) rfl rfl (by kernel_rfl) (by kernel_rfl) (by kernel_rfl) (fun _ _ _ h => h) (by kernel_rfl) ?hy106 (by exact hS0) ?_
      case hy106 => (intro w' hSw; go_simp; try (with_reducible rfl))
      simp only [Act.put, List.setIfInBounds_toArray, List.set_cons_zero, List.set_cons_succ]
      refine takeS_on (i := 3) 49 (v := ?v107) rfl rfl (by kernel_rfl) (by kernel_rfl) (by kernel_rfl) (fun _ _ _ h => h) (by kernel_rfl) ?hy107 (by exact hS0) ?_
      case hy107 => (intro w' hSw; go_simp; try (with_reducible rfl))
      simp only [Act.put, List.setIfInBounds_toArray, List.set_cons_zero, List.set_cons_succ]
      refine takeS_on (i := 4) 50 (v := ?v108) rfl rfl (by kernel_rfl) (by kernel_rfl) (by kernel_rfl) (fun _ _ _ h => h) (by kernel_rfl) ?hy108 (by exact hS0) ?_
      case hy108 => (intro w' hSw; go_simp; try (with_reducible rfl))
      simp only [Act.put, List.setIfInBounds_toArray, List.set_cons_zero, List.set_cons_succ]
      refine takeS_on (i := 5) 51 (v := ?v109) rfl rfl (by kernel_rfl) (by kernel_rfl) (by kernel_rfl) (fun _ _ _ h => h) (by kernel_rfl) ?hy109 (by exact hS0) ?_
      case hy109 => (intro w' hSw; go_simp; try (with_reducible rfl))
      simp only [Act.put, List.setIfInBounds_toArray, List.set_cons_zero, List.set_cons_succ]
      refine takeS_on (i := 6) 52 (v := ?v110) rfl rfl (by kernel_rfl) (by kernel_rfl) (by kernel_rfl) (fun _ _ _ h => h) (by kernel_rfl) ?hy110 (by exact hS0) ?_
      case hy110 => (intro w' hSw; go_simp; try (with_reducible rfl))
      simp only [Act.put, List.setIfInBounds_toArray, List.set_cons_zero, List.set_cons_succ]
      refine wpAnyH_ready (rs := [1]) (by kernel_rfl) (by simp) (AllReadyH.cons rfl (fun K hK => ?_) AllReadyH.nil)
      go_simp
      refine hK.out _ _ (by exact hS0) (fun _ => ?_)
      clear hK K
      refine wpAnyH_ready (rs := [7]) (by kernel_rfl) (by simp) (AllReadyH.cons rfl (fun K hK => ?_) AllReadyH.nil)
      go_simp
      refine (calls_any S P base hb' b L d pp pk s0 gn x _ _ _ _ _ cv gs _ (HJ.out.same ((Ch.refl NoB wr).drew)) (by omega)).mono ?_
      rintro e w1 ⟨S', P', x', vg', va', vc', vf', cv', v', gs', rfl, J', hl', gC, nS, nP, nV⟩
      obtain ⟨a1, q1, rfl⟩ := J'.r.g.form
      obtain ⟨a2, q2, rfl⟩ := J'.r.a.form
      obtain ⟨a3, q3, rfl⟩ := J'.r.c.form
      obtain ⟨a4, q4, rfl⟩ := J'.r.f.form
      obtain ⟨a5, q5, rfl⟩ := J'.p.form
      obtain ⟨n1, hn1⟩ : ∃ n, n = (iv x'.G).length := ⟨_, rfl⟩
      obtain ⟨n2, hn2⟩ : ∃ n, n = (bv x'.A).length := ⟨_, rfl⟩
      obtain ⟨n3, hn3⟩ : ∃ n, n = cv'.length := ⟨_, rfl⟩
      obtain ⟨n4, hn4⟩ : ∃ n, n = (iv x'.F).length := ⟨_, rfl⟩
      obtain ⟨n5, hn5⟩ : ∃ n, n = gs'.length := ⟨_, rfl⟩
      rw [← hn1, ← hn2, ← hn3, ← hn4, ← hn5] at J' ⊢
      rw [← hn5] at nV
      have gC' : Ch (fun q => S q ∨ Blk (.slice va0 nV0 vc0) q) wr w1 := ((Ch.refl _ wr).drew).trans' gC
      have nm : ¬ (S bm ∨ Blk (.slice va0 nV0 vc0) bm) := fun e => e.elim (fun a => (HS.out _ a).2 rfl) (fun a => (HV.out _ a).2 rfl)
      have ng : ¬ (S g ∨ Blk (.slice va0 nV0 vc0) g) := fun e => e.elim (fun a => by have := (HS.out _ a).1; omega) (fun a => by have := (HV.out _ a).1; omega)
      have hS1 : (w1.cell? ⟨g, p + j * 5, none⟩ = some (.int .i64 d) ∧ w1.cell? ⟨g, p + j * 5 + 1, none⟩ = some (.int .i64 pp) ∧ w1.cell? ⟨g, p + j * 5 + 2, none⟩ = some (.int .i64 pk) ∧ w1.cell? ⟨g, p + j * 5 + 3, none⟩ = some (.int .i64 s0) ∧ w1.cell? ⟨g, p + j * 5 + 4, none⟩ = some (.int .i64 gn)) := ⟨(gC'.cell (by omega) ng).trans hS0.1, (gC'.cell (by omega) ng).trans hS0.2.1, (gC'.cell (by omega) ng).trans hS0.2.2.1, (gC'.cell (by omega) ng).trans hS0.2.2.2.1, (gC'.cell (by omega) ng).trans hS0.2.2.2.2⟩
      have F1 := HF.out.ch gC' nm
      have s1 := gC'.size
      obtain ⟨z0, z1, z2, z3, z4⟩ := F1.cells
      obtain ⟨zf0, zf1, zf2, zf3, zf4⟩ := F1.fz
      have l5 := F1.lt
      have HF1 := hid F1
      have HJ1 := hid J'
      have HL1 := hid hl'
      have HC1 := hid gC'
      have HNS := hid (show ∀ q, S' q → S q ∨ wr.heap.size ≤ q from nS)
      have HNP := hid (show ∀ q, P' q → P q ∨ wr.heap.size ≤ q from nP)
      have HNV := hid (show ∀ q, Blk (.slice a5 n5 q5) q → Blk (.slice va0 nV0 vc0) q ∨ wr.heap.size ≤ q from nV)
      have HN5 := hid hn5
      clear J' hl' gC gC' nS nP nV nm F1 hn1 hn2 hn3 hn4 hn5
      refine hK.out _ _ (by exact hS1) (fun _ => ?_)
      clear hK K
      refine takeS_on (i := 8) 45 (v := ?v111) rfl rfl (by kernel_rfl) (by kernel_rfl) (by kernel_rfl) (fun _ _ _ h => h) (by kernel_rfl) ?hy111 (by exact hS1) ?_
      case hy111 => (intro w' hSw; go_simp; try (with_reducible rfl))
      simp only [Act.put, List.setIfInBounds_toArray, List.set_cons_zero, List.set_cons_succ]
      refine takeS_on (i := 9) 54 (v := ?v112) rfl rfl (by kernel_rfl) (by kernel_rfl) (by kernel_rfl) (fun _ _ _ h => h) (by kernel_rfl) ?hy112 (by exact hS1) ?_
      case hy112 => (intro w' hSw; go_simp; try (with_reducible rfl))
      simp only [Act.put, List.setIfInBounds_toArray, List.set_cons_zero, List.set_cons_succ]
      refine takeS_on (i := 10) 55 (v := ?v113) rfl rfl (by kernel_rfl) (by kernel_rfl) (by kernel_rfl) (fun _ _ _ h => h) (by kernel_rfl) ?hy113 (by exact hS1) ?_
      case hy113 => (intro w' hSw; go_simp; try (with_reducible rfl))
      simp only [Act.put, List.setIfInBounds_toArray, List.set_cons_zero, List.set_cons_succ]
      refine takeS_on (i := 11) 56 (v := ?v114) rfl rfl (by kernel_rfl) (by kernel_rfl) (by kernel_rfl) (fun _ _ _ h => h) (by kernel_rfl) ?hy114 (by exact hS1) ?_
      case hy114 => (intro w' hSw; go_simp; try (with_reducible rfl))
      simp only [Act.put, List.setIfInBounds_toArray, List.set_cons_zero, List.set_cons_succ]
      refine wpAnyH_ready (rs := [12]) (by kernel_rfl) (by simp) (AllReadyH.cons rfl (fun K hK => ?_) AllReadyH.nil)
      go_simp
      have C8 := (((((Ch.refl (Only bm) w1).own 0 (.int .i64 L)).own 1 (.slice a1 n1 q1)).own 2 (.slice a2 n2 q2)).own 3 (.slice a3 n3 q3)).own 4 (.slice a4 n4 q4)
      have hS2 : ((((((w1.setCell ⟨bm, 0, none⟩ (.int .i64 L)).setCell ⟨bm, 1, none⟩ (.slice a1 n1 q1)).setCell ⟨bm, 2, none⟩ (.slice a2 n2 q2)).setCell ⟨bm, 3, none⟩ (.slice a3 n3 q3)).setCell ⟨bm, 4, none⟩ (.slice a4 n4 q4)).cell? ⟨g, p + j * 5, none⟩ = some (.int .i64 d) ∧ (((((w1.setCell ⟨bm, 0, none⟩ (.int .i64 L)).setCell ⟨bm, 1, none⟩ (.slice a1 n1 q1)).setCell ⟨bm, 2, none⟩ (.slice a2 n2 q2)).setCell ⟨bm, 3, none⟩ (.slice a3 n3 q3)).setCell ⟨bm, 4, none⟩ (.slice a4 n4 q4)).cell? ⟨g, p + j * 5 + 1, none⟩ = some (.int .i64 pp) ∧ (((((w1.setCell ⟨bm, 0, none⟩ (.int .i64 L)).setCell ⟨bm, 1, none⟩ (.slice a1 n1 q1)).setCell ⟨bm, 2, none⟩ (.slice a2 n2 q2)).setCell ⟨bm, 3, none⟩ (.slice a3 n3 q3)).setCell ⟨bm, 4, none⟩ (.slice a4 n4 q4)).cell? ⟨g, p + j * 5 + 2, none⟩ = some (.int .i64 pk) ∧ (((((w1.setCell ⟨bm, 0, none⟩ (.int .i64 L)).setCell ⟨bm, 1, none⟩ (.slice a1 n1 q1)).setCell ⟨bm, 2, none⟩ (.slice a2 n2 q2)).setCell ⟨bm, 3, none⟩ (.slice a3 n3 q3)).setCell ⟨bm, 4, none⟩ (.slice a4 n4 q4)).cell? ⟨g, p + j * 5 + 3, none⟩ = some (.int .i64 s0) ∧ (((((w1.setCell ⟨bm, 0, none⟩ (.int .i64 L)).setCell ⟨bm, 1, none⟩ (.slice a1 n1 q1)).setCell ⟨bm, 2, none⟩ (.slice a2 n2 q2)).setCell ⟨bm, 3, none⟩ (.slice a3 n3 q3)).setCell ⟨bm, 4, none⟩ (.slice a4 n4 q4)).cell? ⟨g, p + j * 5 + 4, none⟩ = some (.int .i64 gn)) := ⟨(C8.cell (by omega) ngm).trans hS1.1, (C8.cell (by omega) ngm).trans hS1.2.1, (C8.cell (by omega) ngm).trans hS1.2.2.1, (C8.cell (by omega) ngm).trans hS1.2.2.2.1, (C8.cell (by omega) ngm).trans hS1.2.2.2.2⟩
      refine hK.out _ _ (by exact hS2) (fun _ => ?_)
      clear hK K
      refine takeS_on (i := 13) 10 (v := ?v115) rfl rfl (by kernel_rfl) (by kernel_rfl) (by kernel_rfl) (fun _ _ _ h => h) (by kernel_rfl) ?hy115 (by exact hS2) ?_
      case hy115 => (intro w' hSw; go_simp; try (with_reducible rfl))
      simp only [Act.put, List.setIfInBounds_toArray, List.set_cons_zero, List.set_cons_succ]
      refine takeS_on (i := 14) 9 (v := ?v116) rfl rfl (by kernel_rfl) (by kernel_rfl) (by kernel_rfl) (fun _ _ _ h => h) (by kernel_rfl) ?hy116 (by exact hS2) ?_
      case hy116 => (intro w' hSw; go_simp; try (with_reducible rfl))
      simp only [Act.put, List.setIfInBounds_toArray, List.set_cons_zero, List.set_cons_succ]
      refine wpAnyH_done (by kernel_rfl) ?_ _
      have F5 := HF1.out.put5 (.int .i64 L) (.slice a1 n1 q1) (.slice a2 n2 q2) (.slice a3 n3 q3) (.slice a4 n4 q4)
      have HI5 := hid (Inv.step HF.out hgl HG.out HS.out HP.out HV.out hlm hbx HJ1.out HL1.out HC1.out HNS.out HNP.out HNV.out C8 F5)
      obtain ⟨W5, hW5⟩ : ∃ W, W = (((((w1.setCell ⟨bm, 0, none⟩ (.int .i64 L)).setCell ⟨bm, 1, none⟩ (.slice a1 n1 q1)).setCell ⟨bm, 2, none⟩ (.slice a2 n2 q2)).setCell ⟨bm, 3, none⟩ (.slice a3 n3 q3)).setCell ⟨bm, 4, none⟩ (.slice a4 n4 q4)) := ⟨_, rfl⟩
      rw [← hW5] at HI5 ⊢
      clear F5 C8 hS2 hS1 hS0 z0 z1 z2 z3 z4 zf0 zf1 zf2 zf3 zf4 hW5
      go_wp2
      go_roundg (gk - 1)
      case measure => omega
      case rel => exact ⟨j + 1, _, _, _, by omega, by simp, rfl, rfl, HI5.out⟩
    · have e : j = n := by omega
      subst e
      clear hJ hF hg hS hP hV hm1 hm2 hm3 hm4
      go_wp2_with fail
      refine (is_eq base b P L _ _ _ _ cv x _ HJ.out.s.at HJ.out.r HJ.out.m.fits).mono ?_
      rintro e w6 ⟨rfl, g6⟩
      have HG6 := hid (HG.out.trans' g6)
      clear g6
      go_wp2
      go_ret
      exact ⟨rfl, HG6.out⟩

theorem loads_law (L : Int) (vg va vc vf v : Value) (cv : List Value) (x : Sl) (n : Nat) (w : World) (h : Given (· < w.heap.size) w vg va vc vf cv x) (hv : OpL w v n) : Calls Try.prog 5 #[.agg #[.int .i64 L, vg, va, vc, vf], v] w fun e w' => e = .returned (.bool true) ∧ Ch NoB w w' := by
  by_cases hS : Sized L (x.C.length : Nat)
  · cases hb : (slotsB L x && listsB x) with
    | false => exact loads_bad _ L vg va vc vf v cv x n w h hv hS hb
    | true => exact loads_good _ L vg va vc vf v cv x n w h hv hS hb
  · exact loads_arg _ L vg va vc vf v cv x n w h hv hS
end Go.Proofs.Ytfbkifkfhgkdbaa.Sb
