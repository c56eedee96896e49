/-
  SlabPlays' walk: any calls of a slab answer as the document says. Condition: the list of calls is there, and shorter than 2^43.
-/
import Derived.Test.YtfbkifkfhgkdbaaSbCallA
import Derived.Handy
namespace Go.Proofs.Ytfbkifkfhgkdbaa.Sb
open Go.RowKit
open Classical
attribute [local go_sem ↓] Go.wp_at_zero Go.wp_at_succ

theorem calls_any (S P : Nat → Prop) (base hb b : Nat) (L d p pk s0 gn : Int) (x : Sl) (vg va vc vf v : Value) (cv : List Value) (gs : List (Int × Int)) (w : World) (h : Jn S P base hb w b L x vg va vc vf cv v gs) (hgl : gs.length < 8796093022208) :
    Calls Try.prog 12 #[.pointer (some ⟨b, 0, none⟩), .agg #[.int .i64 L, vg, va, vc, vf], .agg #[.int .i64 d, .int .i64 p, .int .i64 pk, .int .i64 s0, .int .i64 gn], v] w fun e w' => Called S P base hb w b L v gs e w' := by
  by_cases h0 : d = 0
  · subst h0
    exact calls_take S P base hb b L p pk s0 gn x vg va vc vf v cv gs w h hgl
  · by_cases h1 : d = 1
    · subst h1
      exact calls_give S P base hb b L p pk s0 gn x vg va vc vf v cv gs w h
    · by_cases h2 : d = 2
      · subst h2
        exact calls_flush S P base hb b L p pk s0 gn x vg va vc vf v cv gs w h
      · exact calls_ask S P base hb b L d p pk s0 gn x vg va vc vf v cv gs w h (by simpa using h0) (by simpa using h1) (by simpa using h2)

/-- a list of calls -/
def OpL (w : World) (v : Value) (n : Nat) : Prop := ∃ ao cap, v = .slice ao n cap ∧ n ≤ 3518437208880 ∧ (n = 0 ∨ ∃ g p, ao = some ⟨g, p, none⟩ ∧ g < w.heap.size ∧ ∀ j, j < n → ∃ d pp pk s0 gn : Int, w.cell? ⟨g, p + j * 5, none⟩ = some (.int .i64 d) ∧ w.cell? ⟨g, p + j * 5 + 1, none⟩ = some (.int .i64 pp) ∧ w.cell? ⟨g, p + j * 5 + 2, none⟩ = some (.int .i64 pk) ∧ w.cell? ⟨g, p + j * 5 + 3, none⟩ = some (.int .i64 s0) ∧ w.cell? ⟨g, p + j * 5 + 4, none⟩ = some (.int .i64 gn))

theorem Fv.put5 {T : Nat} {w : World} {k : Nat} {c0 c1 c2 c3 c4 : Value} (h : Fv T w k c0 c1 c2 c3 c4) (d0 d1 d2 d3 d4 : Value) :
    Fv T (((((w.setCell ⟨k, 0, none⟩ d0).setCell ⟨k, 1, none⟩ d1).setCell ⟨k, 2, none⟩ d2).setCell ⟨k, 3, none⟩ d3).setCell ⟨k, 4, none⟩ d4) k d0 d1 d2 d3 d4 :=
  setCell_block (setCell_block (setCell_block (setCell_block (setCell_block h 0 d0) 1 d1) 2 d2) 3 d3) 4 d4
theorem Jn.put {S P T : Nat → Prop} {base hb : Nat} {w w3 : World} {b : Nat} {L : Int} {x : Sl} {vg va vc vf v : Value} {cv : List Value} {gs : List (Int × Int)} (h : Jn S P base hb w b L x vg va vc vf cv v gs) (g : Ch T w w3) (hs : ∀ q, S q → ¬ T q) (hp : ∀ q, P q → ¬ T q) (hv : ∀ q, Blk v q → ¬ T q) : Jn S P base hb w3 b L x vg va vc vf cv v gs :=
  { s := h.s.ch g hs, r := h.r.ch g (fun q _ a => hp q a), p := h.p.ch g hv, m := h.m, sb := Nat.le_trans h.sb g.size, hb := Nat.le_trans h.hb g.size, sp := h.sp, vs := h.vs, vp := h.vp, pl := fun q a => Nat.lt_of_lt_of_le (h.pl q a) g.size }

/-- between two calls: a slab, a state in its variable, a list of names, all apart -/
def Inv (w : World) (bm b base hb : Nat) (L : Int) (vo : Value) (j : Nat) (v : Value) (wr : World) : Prop :=
  ∃ S P x vg va vc vf cv gs, Jn S P base hb wr b L x vg va vc vf cv v gs ∧ Fv 30 wr bm (.int .i64 L) vg va vc vf ∧ gs.length ≤ j ∧ Ch NoB w wr ∧ (∀ q, S q → w.heap.size < q ∧ q ≠ bm) ∧ (∀ q, P q → q ≠ bm) ∧ (∀ q, Blk v q → w.heap.size < q ∧ q ≠ bm) ∧ w.heap.size < bm ∧ wr.cell? ⟨w.heap.size, 2, none⟩ = some vo
theorem Inv.still {w w1 wr : World} {bm b base hb j : Nat} {L : Int} {vo v : Value} (h : Inv w bm b base hb L vo j v wr) (g : Ch NoB wr w1) : Inv w bm b base hb L vo j v w1 := by
  obtain ⟨S, P, x, vg, va, vc, vf, cv, gs, h1, h2, h3, h4, h5, h6, h7, h8, h9⟩ := h
  exact ⟨S, P, x, vg, va, vc, vf, cv, gs, h1.same g, h2.ch g (noB _), h3, h4.trans' g, h5, h6, h7, h8, (g.cell (by have := h2.lt; omega) (noB _)).trans h9⟩
/-- behind a call, its state stored -/
theorem Inv.step {w wr w1 w5 : World} {bm b base hb j : Nat} {L : Int} {vo v v' : Value} {S P S' P' : Nat → Prop} {x' : Sl} {vg va vc vf vg' va' vc' vf' : Value} {cv' : List Value} {gs gs' : List (Int × Int)}
    (hf : Fv 30 wr bm (.int .i64 L) vg va vc vf) (hl : gs.length ≤ j) (g : Ch NoB w wr) (hS : ∀ q, S q → w.heap.size < q ∧ q ≠ bm) (hP : ∀ q, P q → q ≠ bm) (hV : ∀ q, Blk v q → w.heap.size < q ∧ q ≠ bm) (hbm : w.heap.size < bm) (hbx : wr.cell? ⟨w.heap.size, 2, none⟩ = some vo)
    (J : Jn S' P' base hb w1 b L x' vg' va' vc' vf' cv' v' gs') (hl' : gs'.length ≤ gs.length + 1) (gC : Ch (fun q => S q ∨ Blk v q) wr w1) (nS : ∀ q, S' q → S q ∨ wr.heap.size ≤ q) (nP : ∀ q, P' q → P q ∨ wr.heap.size ≤ q) (nV : ∀ q, Blk v' q → Blk v q ∨ wr.heap.size ≤ q)
    (g5 : Ch (Only bm) w1 w5) (f5 : Fv 30 w5 bm (.int .i64 L) vg' va' vc' vf') : Inv w bm b base hb L vo (j + 1) v' w5 := by
  have hlt := hf.lt
  have g1 : Ch NoB w w1 := g.trans gC (fun q e => .inr (e.elim (fun a => Nat.le_of_lt (hS q a).1) (fun a => Nat.le_of_lt (hV q a).1)))
  have s1 := g.size
  have sS : ∀ q, S' q → w.heap.size < q ∧ q ≠ bm := fun q a => (nS q a).elim (hS q) (fun a => ⟨by omega, by omega⟩)
  have sP : ∀ q, P' q → q ≠ bm := fun q a => (nP q a).elim (hP q) (fun a => by omega)
  have sV : ∀ q, Blk v' q → w.heap.size < q ∧ q ≠ bm := fun q a => (nV q a).elim (hV q) (fun a => ⟨by omega, by omega⟩)
  refine ⟨S', P', x', vg', va', vc', vf', cv', gs', J.put g5 (fun q a e => (sS q a).2 e) (fun q a e => sP q a e) (fun q a e => (sV q a).2 e), f5, by omega, g1.trans g5 (fun q e => .inr (by have e1 : q = bm := e; omega)), sS, sP, sV, hbm, ?_⟩
  have k1 := (gC.cell (b := w.heap.size) (o := 2) (by omega) (fun e => e.elim (fun a => by have := (hS _ a).1; omega) (fun a => by have := (hV _ a).1; omega))).trans hbx
  exact (g5.cell (b := w.heap.size) (o := 2) (by have := gC.size; omega) (fun e => by have e1 : w.heap.size = bm := e; omega)).trans k1

/-- what SlabPlays stands on when its first call begins -/
theorem Inv.new {w w0 w1 w2 : World} {b n cap : Nat} {L : Int} {ca : Option Addr} {vo : Value} {o0 o1 : Value} {T0 : Nat} (e0 : w0 = w.alloc (.cells #[o0, o1, vo] T0)) (hL : Sized L n) (hb : w0.heap.size ≤ b) (s1 : SlabAt w0.heap.size w1 b L (newSl n)) (g1 : Ch NoB w0 w1) (o2 : Ow 26 w1.heap.size w2 (.slice ca n cap) (List.replicate n (.slice none 0 0))) (g2 : Ch NoB w1 w2) :
    Inv w w2.heap.size b w0.heap.size (w2.heap.size + 1) L vo 0 (.slice none 0 0) (w2.alloc (.cells #[.int .i64 L, .slice none 0 0, .slice none 0 0, .slice ca n cap, .slice none 0 0] 30)) := by
  have h0 : w0.heap.size = w.heap.size + 1 := by rw [e0]; simp
  have k1 := g1.size
  have k2 := g2.size
  obtain ⟨vg, va, vc, vf, cv, f1, t1, n1⟩ := s1
  have hbl : b < w1.heap.size := f1.lt
  have i1 : SlabIn (fun q => w0.heap.size ≤ q ∧ q < w1.heap.size) w0.heap.size w1 b L (newSl n) := ⟨vg, va, vc, vf, cv, f1, t1, n1, ⟨hb, hbl⟩, fun q a => t1.blk a, fun q a => a.2⟩
  have gA : Ch NoB w2 (w2.alloc (.cells #[.int .i64 L, .slice none 0 0, .slice none 0 0, .slice ca n cap, .slice none 0 0] 30)) := (Ch.refl _ _).alloc _
  have st := St.nils o2
  have hlt2 : w2.heap.size + 1 ≤ (w2.alloc (.cells #[.int .i64 L, .slice none 0 0, .slice none 0 0, .slice ca n cap, .slice none 0 0] 30)).heap.size := by simp
  refine ⟨fun q => w0.heap.size ≤ q ∧ q < w1.heap.size, fun q => w1.heap.size ≤ q ∧ q < w2.heap.size, newSl n, _, _, _, _, _, [], ⟨(i1.ch g2 (fun _ _ => noB _)).ch gA (fun _ _ => noB _), (st.rd.mono (fun q _ a => st.blk a)).ch gA (fun _ _ _ => noB _), Pr.nil _ _, May.new hL.1.1 hL.1.2 (by have := hL.2.1; omega) (by have := hL.2.2; omega), (by omega), hlt2, fun q a e => (by omega), fun q a => (by cases a), fun q a => (by cases a), fun q a => Nat.lt_of_lt_of_le a.2 (by simp)⟩, Fv.new _ w2 _ _ _ _ _, by simp, ?_, fun q a => ⟨by omega, by omega⟩, fun q a => (by omega), fun q a => (by cases a), by omega, ?_⟩
  · have g0 : Ch NoB w w0 := by rw [e0]; exact (Ch.refl _ _).alloc _
    exact ((g0.trans' g1).trans' g2).trans' gA
  · have c0 : w0.cell? ⟨w.heap.size, 2, none⟩ = some vo := by rw [e0]; simp
    exact (((g1.trans' g2).trans' gA).cell (by omega) (noB _)).trans c0

set_option maxHeartbeats 1000000 in
theorem plays_bad (l p : Int) (v : Value) (n : Nat) (w : World) (h : ¬ Sized l p) (hv : OpL w v n) : Calls Try.prog 4 #[.agg #[.int .i64 l, .int .i64 p, v]] w fun e w' => e = .returned (.bool true) ∧ Ch NoB w w' := by
  obtain ⟨ao, cap, rfl, hmax, hel⟩ := hv
  have H := hid h
  clear h hel
  go_enter Try.func4, Try.ntmps4
  go_wp2_with fail
  refine (new_bad l p _ H.out).mono ?_
  rintro e w1 ⟨rfl, g1⟩
  have c0 : w1.cell? ⟨w.heap.size, 0, none⟩ = some (.int .i64 l) := (g1.cell (by simp) (noB _)).trans (by simp)
  have c1 : w1.cell? ⟨w.heap.size, 1, none⟩ = some (.int .i64 p) := (g1.cell (by simp) (noB _)).trans (by simp)
  have c2 : w1.cell? ⟨w.heap.size, 2, none⟩ = some (.slice ao n cap) := (g1.cell (by simp) (noB _)).trans (by simp)
  have l1 : w.heap.size < w1.heap.size := Nat.lt_of_lt_of_le (by simp) g1.size
  have HG1 := hid (((Ch.refl NoB w).alloc _).trans' g1)
  clear g1
  go_wp2_with fail
  refine (rnew_bad l p _ H.out).mono ?_
  rintro e w2 ⟨rfl, g2⟩
  have u2 := (g2.cell l1 (noB _)).trans c2
  have l2 : w.heap.size < w2.heap.size := Nat.lt_of_lt_of_le l1 g2.size
  have HG2 := hid (HG1.out.trans' g2)
  clear g2 c0 c1 c2
  go_wp2_with fail
  go_rounds 1
  all_goals go_ret
  all_goals exact ⟨rfl, HG2.out.alloc _⟩

set_option maxRecDepth 100000 in
set_option maxHeartbeats 1000000 in
theorem plays_good (l : Int) (np : Nat) (v : Value) (n : Nat) (w : World) (h : Sized l np) (hv : OpL w v n) : Calls Try.prog 4 #[.agg #[.int .i64 l, .int .i64 (np : Int), v]] w fun e w' => e = .returned (.bool true) ∧ Ch NoB w w' := by
  obtain ⟨ao, cap, rfl, hmax, hel⟩ := hv
  have H := hid h
  have HE := hid hel
  clear h hel
  obtain ⟨w0, hw0⟩ : ∃ w0, w0 = w.alloc (.cells #[.int .i64 l, .int .i64 (np : Int), .slice ao n cap] 37) := ⟨_, rfl⟩
  have HW0 := hid hw0
  go_enter Try.func4, Try.ntmps4
  go_wp2_with fail
  rw [← hw0]
  refine (new_good l np _ H.out).mono ?_
  rintro e w1 ⟨b, rfl, hb, s1, g1⟩
  have c0 : w1.cell? ⟨w.heap.size, 0, none⟩ = some (.int .i64 l) := (g1.cell (by rw [hw0]; simp) (noB _)).trans (by rw [hw0]; simp)
  have c1 : w1.cell? ⟨w.heap.size, 1, none⟩ = some (.int .i64 (np : Int)) := (g1.cell (by rw [hw0]; simp) (noB _)).trans (by rw [hw0]; simp)
  have hz0 : w0.heap.size = w.heap.size + 1 := by rw [hw0]; simp
  have l1 : w.heap.size < w1.heap.size := by have := g1.size; omega
  have HS1 := hid s1
  have HG1 := hid g1
  clear g1 s1 hw0
  go_wp2_with fail
  refine (rnew_good l np _ H.out).mono ?_
  rintro e w2 ⟨vc, rfl, o2, g2⟩
  obtain ⟨ca, cc, rfl⟩ := o2.form
  rw [List.length_replicate] at o2 ⊢
  have HI := hid (Inv.new HW0.out H.out hb HS1.out HG1.out o2 g2)
  obtain ⟨base, hbase⟩ : ∃ x, x = w0.heap.size := ⟨_, rfl⟩
  obtain ⟨bm, hbm⟩ : ∃ x, x = w2.heap.size := ⟨_, rfl⟩
  rw [← hbase, ← hbm] at HI
  clear g2 o2 c0 c1
  go_wp2_with fail
  rw [← hbm]
  clear hbm hbase hz0
  obtain ⟨hb', hhb⟩ : ∃ x, x = bm + 1 := ⟨_, rfl⟩
  rw [← hhb] at HI
  clear hhb
  go_loopg [7, 8, 9] n (fun k v ok i wr => ∃ j va0 nV0 vc0, j + k = n ∧ i = .int .i64 ((j : Nat) : Int) ∧ v = .slice va0 nV0 vc0 ∧ ok = .bool true ∧ Inv w bm b base hb' l (.slice ao n cap) j (.slice va0 nV0 vc0) wr)
  case atStart => exact ⟨0, _, _, _, by omega, rfl, rfl, rfl, HI.out⟩
  case round =>
    obtain ⟨j, va0, nV0, vc0, hjk, rfl, rfl, rfl, hI⟩ := hrel
    obtain ⟨S, P, x, vg, va, vc, vf, cv, gs, hJ, hF, hgl, hg, hS, hP, hV, hlm, hbx⟩ := hI
    obtain ⟨b1, r1, rfl⟩ := hJ.r.g.form
    obtain ⟨b2, r2, rfl⟩ := hJ.r.a.form
    obtain ⟨b3, r3, rfl⟩ := hJ.r.c.form
    obtain ⟨b4, r4, rfl⟩ := hJ.r.f.form
    obtain ⟨m1, hm1⟩ : ∃ n, n = (iv x.G).length := ⟨_, rfl⟩
    obtain ⟨m2, hm2⟩ : ∃ n, n = (bv x.A).length := ⟨_, rfl⟩
    obtain ⟨m3, hm3⟩ : ∃ n, n = cv.length := ⟨_, rfl⟩
    obtain ⟨m4, hm4⟩ : ∃ n, n = (iv x.F).length := ⟨_, rfl⟩
    rw [← hm1, ← hm2, ← hm3, ← hm4] at hJ hF
    obtain ⟨f0, f1, f2, f3, f4⟩ := hF.cells
    have lf := hF.lt
    have HJ := hid hJ
    have HF := hid hF
    have HG := hid hg
    have HS := hid hS
    have HP := hid hP
    have HV := hid hV
    have lw := hg.size
    by_cases hj : j < n
    · obtain ⟨g, p, rfl, hgw, hx⟩ := HE.out.resolve_left (by omega)
      obtain ⟨d, pp, pk, s0, gn, k0, k1, k2, k3, k4⟩ := hx j hj
      have hS0 := And.intro hbx (And.intro ((hg.cell hgw (noB _)).trans k0) (And.intro ((hg.cell hgw (noB _)).trans k1) (And.intro ((hg.cell hgw (noB _)).trans k2) (And.intro ((hg.cell hgw (noB _)).trans k3) ((hg.cell hgw (noB _)).trans k4)))))
      have ngm : ¬ Only bm g := fun e => by have e1 : g = bm := e; omega
      have hjz : (0 : Int) ≤ (j : Int) := by omega
      have hjn : (j : Int) < (n : Int) := by omega
      clear hx k0 k1 k2 k3 k4 hJ hF hg hS hP hV hm1 hm2 hm3 hm4
      go_wp2_with fail
      refine wp_region_held_drew (S := fun w' => w'.cell? ⟨w.heap.size, 2, none⟩ = some (.slice (some ⟨g, p, none⟩) n cap) ∧ w'.cell? ⟨g, p + j * 5, none⟩ = some (.int .i64 d) ∧ w'.cell? ⟨g, p + j * 5 + 1, none⟩ = some (.int .i64 pp) ∧ w'.cell? ⟨g, p + j * 5 + 2, none⟩ = some (.int .i64 pk) ∧ w'.cell? ⟨g, p + j * 5 + 3, none⟩ = some (.int .i64 s0) ∧ w'.cell? ⟨g, p + j * 5 + 4, none⟩ = some (.int .i64 gn)) (by kernel_rfl) (by exact hS0) (fun _ => ?_)
      refine takeS_on (i := 0) 48 (v := ?v92) rfl rfl (by kernel_rfl) (by kernel_rfl) (by kernel_rfl) (fun _ _ _ h => h) (by kernel_rfl) ?hy92 (by exact hS0) ?_
      case hy92 => (intro w' hSw; go_simp; try (with_reducible rfl))
      simp only [Act.put, List.setIfInBounds_toArray, List.set_cons_zero, List.set_cons_succ]
      refine takeS_on (i := 2) 50 (v := ?v93) rfl rfl (by kernel_rfl) (by kernel_rfl) (by kernel_rfl) (fun _ _ _ h => h) (by kernel_rfl) ?hy93 (by exact hS0) ?_
      case hy93 => (intro w' hSw; go_simp; try (with_reducible rfl))
      simp only [Act.put, List.setIfInBounds_toArray, List.set_cons_zero, List.set_cons_succ]
      refine takeS_on (i := 3) 51 (v := ?v94) rfl rfl (by kernel_rfl) (by kernel_rfl) (by kernel_rfl) (fun _ _ _ h => h) (by kernel_rfl) ?hy94 (by exact hS0) ?_
      case hy94 => (intro w' hSw; go_simp; try (with_reducible rfl))
      simp only [Act.put, List.setIfInBounds_toArray, List.set_cons_zero, List.set_cons_succ]
      refine takeS_on (i := 4) 52 (v := ?v95) rfl rfl (by kernel_rfl) (by kernel_rfl) (by kernel_rfl) (fun _ _ _ h => h) (by kernel_rfl) ?hy95 (by exact hS0) ?_
      case hy95 => (intro w' hSw; go_simp; try (with_reducible rfl))
      simp only [Act.put, List.setIfInBounds_toArray, List.set_cons_zero, List.set_cons_succ]
      refine takeS_on (i := 5) 53 (v := ?v96) rfl rfl (by kernel_rfl) (by kernel_rfl) (by kernel_rfl) (fun _ _ _ h => h) (by kernel_rfl) ?hy96 (by exact hS0) ?_
      case hy96 => (intro w' hSw; go_simp; try (with_reducible rfl))
      simp only [Act.put, List.setIfInBounds_toArray, List.set_cons_zero, List.set_cons_succ]
      refine takeS_on (i := 6) 54 (v := ?v97) rfl rfl (by kernel_rfl) (by kernel_rfl) (by kernel_rfl) (fun _ _ _ h => h) (by kernel_rfl) ?hy97 (by exact hS0) ?_
      case hy97 => (intro w' hSw; go_simp; try (with_reducible rfl))
      simp only [Act.put, List.setIfInBounds_toArray, List.set_cons_zero, List.set_cons_succ]
      refine takeS_on (i := 7) 55 (v := ?v98) rfl rfl (by kernel_rfl) (by kernel_rfl) (by kernel_rfl) (fun _ _ _ h => h) (by kernel_rfl) ?hy98 (by exact hS0) ?_
      case hy98 => (intro w' hSw; go_simp; try (with_reducible rfl))
      simp only [Act.put, List.setIfInBounds_toArray, List.set_cons_zero, List.set_cons_succ]
      refine wpAnyH_ready (rs := [1]) (by kernel_rfl) (by simp) (AllReadyH.cons rfl (fun K hK => ?_) AllReadyH.nil)
      go_simp
      refine hK.out _ _ (by exact hS0) (fun _ => ?_)
      clear hK K
      refine wpAnyH_ready (rs := [8]) (by kernel_rfl) (by simp) (AllReadyH.cons rfl (fun K hK => ?_) AllReadyH.nil)
      go_simp
      refine (calls_any S P base hb' b l d pp pk s0 gn x _ _ _ _ _ cv gs _ (HJ.out.same ((Ch.refl NoB wr).drew)) (by omega)).mono ?_
      rintro e w1 ⟨S', P', x', vg', va', vc', vf', cv', v', gs', rfl, J', hl', gC, nS, nP, nV⟩
      obtain ⟨a1, q1, rfl⟩ := J'.r.g.form
      obtain ⟨a2, q2, rfl⟩ := J'.r.a.form
      obtain ⟨a3, q3, rfl⟩ := J'.r.c.form
      obtain ⟨a4, q4, rfl⟩ := J'.r.f.form
      obtain ⟨a5, q5, rfl⟩ := J'.p.form
      obtain ⟨n1, hn1⟩ : ∃ n, n = (iv x'.G).length := ⟨_, rfl⟩
      obtain ⟨n2, hn2⟩ : ∃ n, n = (bv x'.A).length := ⟨_, rfl⟩
      obtain ⟨n3, hn3⟩ : ∃ n, n = cv'.length := ⟨_, rfl⟩
      obtain ⟨n4, hn4⟩ : ∃ n, n = (iv x'.F).length := ⟨_, rfl⟩
      obtain ⟨n5, hn5⟩ : ∃ n, n = gs'.length := ⟨_, rfl⟩
      rw [← hn1, ← hn2, ← hn3, ← hn4, ← hn5] at J' ⊢
      rw [← hn5] at nV
      have gC' : Ch (fun q => S q ∨ Blk (.slice va0 nV0 vc0) q) wr w1 := ((Ch.refl _ wr).drew).trans' gC
      have nb : ¬ (S w.heap.size ∨ Blk (.slice va0 nV0 vc0) w.heap.size) := fun e => e.elim (fun a => by have := (HS.out _ a).1; omega) (fun a => by have := (HV.out _ a).1; omega)
      have nm : ¬ (S bm ∨ Blk (.slice va0 nV0 vc0) bm) := fun e => e.elim (fun a => (HS.out _ a).2 rfl) (fun a => (HV.out _ a).2 rfl)
      have ng : ¬ (S g ∨ Blk (.slice va0 nV0 vc0) g) := fun e => e.elim (fun a => by have := (HS.out _ a).1; omega) (fun a => by have := (HV.out _ a).1; omega)
      have hS1 : (w1.cell? ⟨w.heap.size, 2, none⟩ = some (.slice (some ⟨g, p, none⟩) n cap) ∧ w1.cell? ⟨g, p + j * 5, none⟩ = some (.int .i64 d) ∧ w1.cell? ⟨g, p + j * 5 + 1, none⟩ = some (.int .i64 pp) ∧ w1.cell? ⟨g, p + j * 5 + 2, none⟩ = some (.int .i64 pk) ∧ w1.cell? ⟨g, p + j * 5 + 3, none⟩ = some (.int .i64 s0) ∧ w1.cell? ⟨g, p + j * 5 + 4, none⟩ = some (.int .i64 gn)) := ⟨(gC'.cell (by omega) nb).trans hS0.1, (gC'.cell (by omega) ng).trans hS0.2.1, (gC'.cell (by omega) ng).trans hS0.2.2.1, (gC'.cell (by omega) ng).trans hS0.2.2.2.1, (gC'.cell (by omega) ng).trans hS0.2.2.2.2.1, (gC'.cell (by omega) ng).trans hS0.2.2.2.2.2⟩
      have F1 := HF.out.ch gC' nm
      have s1 := gC'.size
      obtain ⟨z0, z1, z2, z3, z4⟩ := F1.cells
      obtain ⟨zf0, zf1, zf2, zf3, zf4⟩ := F1.fz
      have l5 := F1.lt
      have HF1 := hid F1
      have HJ1 := hid J'
      have HL1 := hid hl'
      have HC1 := hid gC'
      have HNS := hid (show ∀ q, S' q → S q ∨ wr.heap.size ≤ q from nS)
      have HNP := hid (show ∀ q, P' q → P q ∨ wr.heap.size ≤ q from nP)
      have HNV := hid (show ∀ q, Blk (.slice a5 n5 q5) q → Blk (.slice va0 nV0 vc0) q ∨ wr.heap.size ≤ q from nV)
      have HN5 := hid hn5
      clear J' hl' gC gC' nS nP nV nb nm F1 hn1 hn2 hn3 hn4 hn5
      refine hK.out _ _ (by exact hS1) (fun _ => ?_)
      clear hK K
      refine takeS_on (i := 9) 47 (v := ?v99) rfl rfl (by kernel_rfl) (by kernel_rfl) (by kernel_rfl) (fun _ _ _ h => h) (by kernel_rfl) ?hy99 (by exact hS1) ?_
      case hy99 => (intro w' hSw; go_simp; try (with_reducible rfl))
      simp only [Act.put, List.setIfInBounds_toArray, List.set_cons_zero, List.set_cons_succ]
      refine takeS_on (i := 10) 57 (v := ?v100) rfl rfl (by kernel_rfl) (by kernel_rfl) (by kernel_rfl) (fun _ _ _ h => h) (by kernel_rfl) ?hy100 (by exact hS1) ?_
      case hy100 => (intro w' hSw; go_simp; try (with_reducible rfl))
      simp only [Act.put, List.setIfInBounds_toArray, List.set_cons_zero, List.set_cons_succ]
      refine takeS_on (i := 11) 58 (v := ?v101) rfl rfl (by kernel_rfl) (by kernel_rfl) (by kernel_rfl) (fun _ _ _ h => h) (by kernel_rfl) ?hy101 (by exact hS1) ?_
      case hy101 => (intro w' hSw; go_simp; try (with_reducible rfl))
      simp only [Act.put, List.setIfInBounds_toArray, List.set_cons_zero, List.set_cons_succ]
      refine takeS_on (i := 12) 59 (v := ?v102) rfl rfl (by kernel_rfl) (by kernel_rfl) (by kernel_rfl) (fun _ _ _ h => h) (by kernel_rfl) ?hy102 (by exact hS1) ?_
      case hy102 => (intro w' hSw; go_simp; try (with_reducible rfl))
      simp only [Act.put, List.setIfInBounds_toArray, List.set_cons_zero, List.set_cons_succ]
      refine wpAnyH_ready (rs := [13]) (by kernel_rfl) (by simp) (AllReadyH.cons rfl (fun K hK => ?_) AllReadyH.nil)
      go_simp
      have C8 := (((((Ch.refl (Only bm) w1).own 0 (.int .i64 l)).own 1 (.slice a1 n1 q1)).own 2 (.slice a2 n2 q2)).own 3 (.slice a3 n3 q3)).own 4 (.slice a4 n4 q4)
      have hS2 : ((((((w1.setCell ⟨bm, 0, none⟩ (.int .i64 l)).setCell ⟨bm, 1, none⟩ (.slice a1 n1 q1)).setCell ⟨bm, 2, none⟩ (.slice a2 n2 q2)).setCell ⟨bm, 3, none⟩ (.slice a3 n3 q3)).setCell ⟨bm, 4, none⟩ (.slice a4 n4 q4)).cell? ⟨w.heap.size, 2, none⟩ = some (.slice (some ⟨g, p, none⟩) n cap) ∧ (((((w1.setCell ⟨bm, 0, none⟩ (.int .i64 l)).setCell ⟨bm, 1, none⟩ (.slice a1 n1 q1)).setCell ⟨bm, 2, none⟩ (.slice a2 n2 q2)).setCell ⟨bm, 3, none⟩ (.slice a3 n3 q3)).setCell ⟨bm, 4, none⟩ (.slice a4 n4 q4)).cell? ⟨g, p + j * 5, none⟩ = some (.int .i64 d) ∧ (((((w1.setCell ⟨bm, 0, none⟩ (.int .i64 l)).setCell ⟨bm, 1, none⟩ (.slice a1 n1 q1)).setCell ⟨bm, 2, none⟩ (.slice a2 n2 q2)).setCell ⟨bm, 3, none⟩ (.slice a3 n3 q3)).setCell ⟨bm, 4, none⟩ (.slice a4 n4 q4)).cell? ⟨g, p + j * 5 + 1, none⟩ = some (.int .i64 pp) ∧ (((((w1.setCell ⟨bm, 0, none⟩ (.int .i64 l)).setCell ⟨bm, 1, none⟩ (.slice a1 n1 q1)).setCell ⟨bm, 2, none⟩ (.slice a2 n2 q2)).setCell ⟨bm, 3, none⟩ (.slice a3 n3 q3)).setCell ⟨bm, 4, none⟩ (.slice a4 n4 q4)).cell? ⟨g, p + j * 5 + 2, none⟩ = some (.int .i64 pk) ∧ (((((w1.setCell ⟨bm, 0, none⟩ (.int .i64 l)).setCell ⟨bm, 1, none⟩ (.slice a1 n1 q1)).setCell ⟨bm, 2, none⟩ (.slice a2 n2 q2)).setCell ⟨bm, 3, none⟩ (.slice a3 n3 q3)).setCell ⟨bm, 4, none⟩ (.slice a4 n4 q4)).cell? ⟨g, p + j * 5 + 3, none⟩ = some (.int .i64 s0) ∧ (((((w1.setCell ⟨bm, 0, none⟩ (.int .i64 l)).setCell ⟨bm, 1, none⟩ (.slice a1 n1 q1)).setCell ⟨bm, 2, none⟩ (.slice a2 n2 q2)).setCell ⟨bm, 3, none⟩ (.slice a3 n3 q3)).setCell ⟨bm, 4, none⟩ (.slice a4 n4 q4)).cell? ⟨g, p + j * 5 + 4, none⟩ = some (.int .i64 gn)) := ⟨(C8.cell (by omega) (fun e => by have e1 : w.heap.size = bm := e; omega)).trans hS1.1, (C8.cell (by omega) ngm).trans hS1.2.1, (C8.cell (by omega) ngm).trans hS1.2.2.1, (C8.cell (by omega) ngm).trans hS1.2.2.2.1, (C8.cell (by omega) ngm).trans hS1.2.2.2.2.1, (C8.cell (by omega) ngm).trans hS1.2.2.2.2.2⟩
      refine hK.out _ _ (by exact hS2) (fun _ => ?_)
      clear hK K
      refine takeS_on (i := 14) 7 (v := ?v103) rfl rfl (by kernel_rfl) (by kernel_rfl) (by kernel_rfl) (fun _ _ _ h => h) (by kernel_rfl) ?hy103 (by exact hS2) ?_
      case hy103 => (intro w' hSw; go_simp; try (with_reducible rfl))
      simp only [Act.put, List.setIfInBounds_toArray, List.set_cons_zero, List.set_cons_succ]
      refine takeS_on (i := 15) 8 (v := ?v104) rfl rfl (by kernel_rfl) (by kernel_rfl) (by kernel_rfl) (fun _ _ _ h => h) (by kernel_rfl) ?hy104 (by exact hS2) ?_
      case hy104 => (intro w' hSw; go_simp; try (with_reducible rfl))
      simp only [Act.put, List.setIfInBounds_toArray, List.set_cons_zero, List.set_cons_succ]
      refine wpAnyH_done (by kernel_rfl) ?_ _
      have F5 := HF1.out.put5 (.int .i64 l) (.slice a1 n1 q1) (.slice a2 n2 q2) (.slice a3 n3 q3) (.slice a4 n4 q4)
      have HI5 := hid (Inv.step HF.out hgl HG.out HS.out HP.out HV.out hlm hbx HJ1.out HL1.out HC1.out HNS.out HNP.out HNV.out C8 F5)
      obtain ⟨u0, u1, u2, u3, u4⟩ := F5.cells
      have sb : ∀ q, S' q → ¬ Only bm q := fun q a e => by
        have e1 : q = bm := e
        exact (HNS.out q a).elim (fun a => (HS.out q a).2 e1) (fun a => by omega)
      have pb : ∀ q, P' q → ¬ Only bm q := fun q a e => by
        have e1 : q = bm := e
        exact (HNP.out q a).elim (fun a => HP.out q a e1) (fun a => by omega)
      have HQ1 := hid (HJ1.out.s.ch C8 sb).at
      have HQ2 := hid (HJ1.out.r.ch C8 (fun q _ a => pb q a))
      obtain ⟨W5, hW5⟩ : ∃ W, W = (((((w1.setCell ⟨bm, 0, none⟩ (.int .i64 l)).setCell ⟨bm, 1, none⟩ (.slice a1 n1 q1)).setCell ⟨bm, 2, none⟩ (.slice a2 n2 q2)).setCell ⟨bm, 3, none⟩ (.slice a3 n3 q3)).setCell ⟨bm, 4, none⟩ (.slice a4 n4 q4)) := ⟨_, rfl⟩
      rw [← hW5] at HI5 HQ1 HQ2 u0 u1 u2 u3 u4 ⊢
      clear F5 C8 hS2 hS1 hS0 sb pb z0 z1 z2 z3 z4 zf0 zf1 zf2 zf3 zf4 hW5
      go_wp2_with fail
      refine (is_eq base b P' l _ _ _ _ cv' x' _ HQ1.out HQ2.out HJ1.out.m.fits).mono ?_
      rintro e w6 ⟨rfl, g6⟩
      have HI6 := hid (HI5.out.still g6)
      clear g6
      go_wp2
      go_roundg (gk - 1)
      case measure => omega
      case rel => exact ⟨j + 1, _, _, _, by omega, by simp, rfl, rfl, HI6.out⟩
    · have e : j = n := by omega
      subst e
      clear hJ hF hg hS hP hV hm1 hm2 hm3 hm4
      go_wp2
      go_ret
      exact ⟨rfl, HG.out⟩

theorem plays_law (l p : Int) (v : Value) (n : Nat) (w : World) (hv : OpL w v n) : Calls Try.prog 4 #[.agg #[.int .i64 l, .int .i64 p, v]] w fun e w' => e = .returned (.bool true) ∧ Ch NoB w w' := by
  by_cases h : Sized l p
  · obtain ⟨np, rfl⟩ : ∃ np : Nat, p = (np : Int) := ⟨p.toNat, by have := h.2.1; omega⟩
    exact plays_good l np v n w h hv
  · exact plays_bad l p v n w h hv
end Go.Proofs.Ytfbkifkfhgkdbaa.Sb
