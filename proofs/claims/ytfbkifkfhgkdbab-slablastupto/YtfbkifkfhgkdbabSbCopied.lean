/-
  What slab.copied answers: a state that reads the same, in memory of the call's own. Condition: the state is there, and no list of it is longer than 4294967296.
-/
import Derived.Test.YtfbkifkfhgkdbabSbState
import Derived.Deep.RegionHeld3
namespace Go.Proofs.Ytfbkifkfhgkdbab.Sb
open Go.RowKit
attribute [local go_sem ↓] Go.wp_at_zero Go.wp_at_succ

/-- the first j lists of a list of lists are copied -/
def Cp (B : Nat) (w : World) (j n : Nat) (cv us : List Value) (C : List (List Int)) : Prop :=
  us.length = n ∧ (∀ (i : Nat), j ≤ i → us[i]? = cv[i]?) ∧ (∀ (i : Nat) u c, i < j → us[i]? = some u → C[i]? = some c → Ow 3 B w u (iv c)) ∧ (∀ (i i' : Nat) u u', i < j → i' < j → i ≠ i' → us[i]? = some u → us[i']? = some u' → Dj u u')
theorem Cp.drew {B j n : Nat} {w : World} {cv us : List Value} {C : List (List Int)} (h : Cp B w j n cv us C) : Cp B w.drew j n cv us C := h
theorem Cp.next {B j n g1 : Nat} {w w1 w2 : World} {cv us : List Value} {C : List (List Int)} {v : Value} {c : List Int} (h : Cp B w j n cv us C) (hj : j < n) (g : Ch NoB w w1) (o : Ow 3 w.heap.size w1 v (iv c)) (hc : C[j]? = some c) (hB : B ≤ w.heap.size) (k : Ch (Only g1) w1 w2) (hg : g1 < B) : Cp B w2 (j + 1) n cv (us.set j v) C := by
  obtain ⟨h1, h2, h3, h4⟩ := h
  have old : ∀ (i : Nat) u, i < j → us[i]? = some u → ∀ c, C[i]? = some c → Ow 3 B w1 u (iv c) := fun i u hi hu c hc => (h3 i u c hi hu hc).ch g (fun _ _ => noB _)
  have olt : ∀ (i : Nat) u, i < j → us[i]? = some u → i < C.length → ∀ q, Blk u q → q < w.heap.size := fun i u hi hu hl q e => ((h3 i u _ hi hu (List.getElem?_eq_getElem hl)).blk e).2
  have hjC : j < C.length := (List.getElem?_eq_some_iff.1 hc).1
  refine ⟨by rw [List.length_set]; exact h1, fun i hi => ?_, fun i u d hi hu hd => ?_, fun i i' u u' hi hi' hn hu hu' => ?_⟩
  · rw [List.getElem?_set_ne (by omega)]
    exact h2 i (by omega)
  · by_cases e : i = j
    · subst e
      rw [List.getElem?_set_self (by omega)] at hu
      injection hu with hu
      subst hu
      rw [hc] at hd
      injection hd with hd
      subst hd
      exact (o.ch k (fun q a b => by have := (o.blk a).1; have e1 : q = g1 := b; omega)).lower hB
    · rw [List.getElem?_set_ne (by omega)] at hu
      have := old i u (by omega) hu d hd
      exact this.ch k (fun q a b => by have := (this.blk a).1; have e1 : q = g1 := b; omega)
  · by_cases e : i = j
    · subst e
      rw [List.getElem?_set_self (by omega)] at hu
      rw [List.getElem?_set_ne (by omega)] at hu'
      injection hu with hu
      subst hu
      intro q a b
      have := (o.blk a).1
      have := olt i' u' (by omega) hu' (by omega) q b
      omega
    · rw [List.getElem?_set_ne (by omega)] at hu
      by_cases e' : i' = j
      · subst e'
        rw [List.getElem?_set_self (by omega)] at hu'
        injection hu' with hu'
        subst hu'
        intro q a b
        have := (o.blk b).1
        have := olt i u (by omega) hu (by omega) q a
        omega
      · rw [List.getElem?_set_ne (by omega)] at hu'
        exact h4 i i' u u' (by omega) (by omega) hn hu hu'

set_option maxHeartbeats 2000000 in
theorem copied_any (P : Nat → Prop) (L : Int) (vg va vc vf : Value) (cv : List Value) (x : Sl) (w : World) (h : Rd P w vg va vc vf cv x) (ht : x.Fits) :
    Calls Try.prog 32 #[.agg #[.int .i64 L, vg, va, vc, vf]] w fun e w' => ∃ vg' va' vc' vf' cv', e = .returned (.agg #[.int .i64 L, vg', va', vc', vf']) ∧ St w.heap.size w' vg' va' vc' vf' cv' x ∧ Ch NoB w w' := by
  obtain ⟨ga, gc, rfl⟩ := h.g.form
  obtain ⟨aa, ac, rfl⟩ := h.a.form
  obtain ⟨ca, cc, rfl⟩ := h.c.form
  obtain ⟨fa, fc, rfl⟩ := h.f.form
  obtain ⟨nG, hnG⟩ : ∃ n, n = (iv x.G).length := ⟨_, rfl⟩
  obtain ⟨nA, hnA⟩ : ∃ n, n = (bv x.A).length := ⟨_, rfl⟩
  obtain ⟨nC, hnC⟩ : ∃ n, n = cv.length := ⟨_, rfl⟩
  obtain ⟨nF, hnF⟩ : ∃ n, n = (iv x.F).length := ⟨_, rfl⟩
  rw [← hnG, ← hnA, ← hnC, ← hnF] at h
  rw [← hnG, ← hnA, ← hnC, ← hnF]
  have HnG := hid hnG
  have HnA := hid hnA
  have HnC := hid hnC
  have HnF := hid hnF
  have HT := hid ht
  have h0 := (h.mono (Q := fun g => g < w.heap.size) (fun g a _ => a)).ch (((Ch.refl NoB w).alloc (.cells #[.int .i64 L, .slice ga nG gc, .slice aa nA ac, .slice ca nC cc, .slice fa nF fc] 45)).alloc (.cells #[.int .i64 0, .slice none 0 0, .slice none 0 0, .slice none 0 0, .slice none 0 0] 45)) (fun _ _ _ => noB _)
  have f0 := (Fv.new 45 w (.int .i64 L) (.slice ga nG gc) (.slice aa nA ac) (.slice ca nC cc) (.slice fa nF fc)).alloc (.cells #[.int .i64 0, .slice none 0 0, .slice none 0 0, .slice none 0 0, .slice none 0 0] 45)
  have z0 := Fv.new 45 (w.alloc (.cells #[.int .i64 L, .slice ga nG gc, .slice aa nA ac, .slice ca nC cc, .slice fa nF fc] 45)) (.int .i64 0) (.slice none 0 0) (.slice none 0 0) (.slice none 0 0) (.slice none 0 0)
  have g0 := ((Ch.refl NoB w).alloc (.cells #[.int .i64 L, .slice ga nG gc, .slice aa nA ac, .slice ca nC cc, .slice fa nF fc] 45)).alloc (.cells #[.int .i64 0, .slice none 0 0, .slice none 0 0, .slice none 0 0, .slice none 0 0] 45)
  rw [World.size_alloc] at z0
  obtain ⟨W0, hW0⟩ : ∃ W0, W0 = (w.alloc (.cells #[.int .i64 L, .slice ga nG gc, .slice aa nA ac, .slice ca nC cc, .slice fa nF fc] 45)).alloc (.cells #[.int .i64 0, .slice none 0 0, .slice none 0 0, .slice none 0 0, .slice none 0 0] 45) := ⟨_, rfl⟩
  rw [← hW0] at h0 f0 z0 g0
  have HR0 := hid h0
  have HF0 := hid f0
  have HZ0 := hid z0
  have HG0 := hid g0
  obtain ⟨c0, c1, c2, c3, c4⟩ := f0.cells
  obtain ⟨y0, y1, y2, y3, y4⟩ := f0.fz
  have s0 := z0.lt
  clear h ht h0 f0 z0 g0 hnG hnA hnC hnF
  go_enter Try.func32, Try.ntmps32
  go_wp2_with fail
  rw [← hW0]
  clear hW0
  refine (clone_int (fun g => g < w.heap.size) _ _ W0 HR0.out.g (iv_one _) (by rw [iv_length]; exact HT.out.g)).mono ?_
  rintro e w1 ⟨v1, rfl, o1, g1⟩
  obtain ⟨a1, q1, rfl⟩ := o1.form
  rw [← HnG.out] at o1 ⊢
  have s1 := g1.size
  obtain ⟨W1, hW1⟩ : ∃ W, W = w1.setCell ⟨w.heap.size, 1, none⟩ (.slice a1 nG q1) := ⟨_, rfl⟩
  have C1 : Ch (Only w.heap.size) w1 W1 := by rw [hW1]; exact (Ch.refl _ _).own _ _
  have F1 : Fv 45 W1 w.heap.size (.int .i64 L) (.slice a1 nG q1) (.slice aa nA ac) (.slice ca nC cc) (.slice fa nF fc) := by rw [hW1]; exact setCell_block (HF0.out.ch g1 (noB _)) 1 _
  have HF1 := hid F1
  have HZ1 := hid ((HZ0.out.ch g1 (noB _)).ch C1 (fun e => by have e1 : w.heap.size + 1 = w.heap.size := e; omega))
  have HR1 := hid ((HR0.out.ch g1 (fun _ _ _ => noB _)).ch C1 (fun q _ a e => by have a1 : q < w.heap.size := a; have e1 : q = w.heap.size := e; omega))
  have HG1 := hid ((HG0.out.trans' g1).trans C1 (fun q e => .inr (by have e1 : q = w.heap.size := e; omega)))
  have HB1 := hid (fun q (e : Blk (.slice a1 nG q1) q) => (show W0.heap.size ≤ q ∧ q < W1.heap.size from ⟨(o1.blk e).1, Nat.lt_of_lt_of_le (o1.blk e).2 C1.size⟩))
  have HO11 := hid (o1.ch C1 (fun q e e' => by have e1 : q = w.heap.size := e'; have := (o1.blk e).1; omega))
  have r1 := C1.size
  have Fp := HF0.out.ch g1 (noB _)
  clear o1 g1 C1 c0 c1 c2 c3 c4 y0 y1 y2 y3 y4
  obtain ⟨c0, c1, c2, c3, c4⟩ := Fp.cells
  obtain ⟨y0, y1, y2, y3, y4⟩ := Fp.fz
  have l1 := Fp.lt
  clear Fp F1
  go_wp2_with fail
  rw [← hW1]
  clear hW1
  refine (clone_bool (fun g => g < w.heap.size) _ _ W1 HR1.out.a (bv_one _) (by rw [bv_length]; exact HT.out.a)).mono ?_
  rintro e w2 ⟨v2, rfl, o2, g2⟩
  obtain ⟨a2, q2, rfl⟩ := o2.form
  rw [← HnA.out] at o2 ⊢
  have s2 := g2.size
  obtain ⟨W2, hW2⟩ : ∃ W, W = w2.setCell ⟨w.heap.size, 2, none⟩ (.slice a2 nA q2) := ⟨_, rfl⟩
  have C2 : Ch (Only w.heap.size) w2 W2 := by rw [hW2]; exact (Ch.refl _ _).own _ _
  have F2 : Fv 45 W2 w.heap.size (.int .i64 L) (.slice a1 nG q1) (.slice a2 nA q2) (.slice ca nC cc) (.slice fa nF fc) := by rw [hW2]; exact setCell_block (HF1.out.ch g2 (noB _)) 2 _
  have HF2 := hid F2
  have HZ2 := hid ((HZ1.out.ch g2 (noB _)).ch C2 (fun e => by have e1 : w.heap.size + 1 = w.heap.size := e; omega))
  have HR2 := hid ((HR1.out.ch g2 (fun _ _ _ => noB _)).ch C2 (fun q _ a e => by have a1 : q < w.heap.size := a; have e1 : q = w.heap.size := e; omega))
  have HG2 := hid ((HG1.out.trans' g2).trans C2 (fun q e => .inr (by have e1 : q = w.heap.size := e; omega)))
  have HB2 := hid (fun q (e : Blk (.slice a2 nA q2) q) => (show W1.heap.size ≤ q ∧ q < W2.heap.size from ⟨(o2.blk e).1, Nat.lt_of_lt_of_le (o2.blk e).2 C2.size⟩))
  have HO22 := hid (o2.ch C2 (fun q e e' => by have e1 : q = w.heap.size := e'; have := (o2.blk e).1; omega))
  have HO12 := hid ((HO11.out.ch g2 (fun _ _ => noB _)).ch C2 (fun q e e' => by have e1 : q = w.heap.size := e'; have := (HB1.out q e).1; omega))
  have r2 := C2.size
  have Fp := HF1.out.ch g2 (noB _)
  clear o2 g2 C2 c0 c1 c2 c3 c4 y0 y1 y2 y3 y4
  obtain ⟨c0, c1, c2, c3, c4⟩ := Fp.cells
  obtain ⟨y0, y1, y2, y3, y4⟩ := Fp.fz
  have l2 := Fp.lt
  clear Fp F2
  go_wp2_with fail
  rw [← hW2]
  clear hW2
  refine (clone_int (fun g => g < w.heap.size) _ _ W2 HR2.out.f (iv_one _) (by rw [iv_length]; exact HT.out.f)).mono ?_
  rintro e w3 ⟨v3, rfl, o3, g3⟩
  obtain ⟨a3, q3, rfl⟩ := o3.form
  rw [← HnF.out] at o3 ⊢
  have s3 := g3.size
  obtain ⟨W3, hW3⟩ : ∃ W, W = w3.setCell ⟨w.heap.size, 4, none⟩ (.slice a3 nF q3) := ⟨_, rfl⟩
  have C3 : Ch (Only w.heap.size) w3 W3 := by rw [hW3]; exact (Ch.refl _ _).own _ _
  have F3 : Fv 45 W3 w.heap.size (.int .i64 L) (.slice a1 nG q1) (.slice a2 nA q2) (.slice ca nC cc) (.slice a3 nF q3) := by rw [hW3]; exact setCell_block (HF2.out.ch g3 (noB _)) 4 _
  have HF3 := hid F3
  have HZ3 := hid ((HZ2.out.ch g3 (noB _)).ch C3 (fun e => by have e1 : w.heap.size + 1 = w.heap.size := e; omega))
  have HR3 := hid ((HR2.out.ch g3 (fun _ _ _ => noB _)).ch C3 (fun q _ a e => by have a1 : q < w.heap.size := a; have e1 : q = w.heap.size := e; omega))
  have HG3 := hid ((HG2.out.trans' g3).trans C3 (fun q e => .inr (by have e1 : q = w.heap.size := e; omega)))
  have HB3 := hid (fun q (e : Blk (.slice a3 nF q3) q) => (show W2.heap.size ≤ q ∧ q < W3.heap.size from ⟨(o3.blk e).1, Nat.lt_of_lt_of_le (o3.blk e).2 C3.size⟩))
  have HO33 := hid (o3.ch C3 (fun q e e' => by have e1 : q = w.heap.size := e'; have := (o3.blk e).1; omega))
  have HO13 := hid ((HO12.out.ch g3 (fun _ _ => noB _)).ch C3 (fun q e e' => by have e1 : q = w.heap.size := e'; have := (HB1.out q e).1; omega))
  have HO23 := hid ((HO22.out.ch g3 (fun _ _ => noB _)).ch C3 (fun q e e' => by have e1 : q = w.heap.size := e'; have := (HB2.out q e).1; omega))
  have r3 := C3.size
  have Fp := HF2.out.ch g3 (noB _)
  clear o3 g3 C3 c0 c1 c2 c3 c4 y0 y1 y2 y3 y4
  obtain ⟨c0, c1, c2, c3, c4⟩ := Fp.cells
  obtain ⟨y0, y1, y2, y3, y4⟩ := Fp.fz
  have l3 := Fp.lt
  clear Fp F3
  go_wp2_with fail
  rw [← hW3]
  clear hW3
  refine (clone_ints (fun g => g < w.heap.size) _ _ W3 HR3.out.c HR3.out.e.one (by rw [HR3.out.e.1]; exact HT.out.c)).mono ?_
  rintro e w4 ⟨v4, rfl, o4, g4⟩
  obtain ⟨a4, q4, rfl⟩ := o4.form
  rw [← HnC.out] at o4 ⊢
  have s4 := g4.size
  obtain ⟨W4, hW4⟩ : ∃ W, W = w4.setCell ⟨w.heap.size, 3, none⟩ (.slice a4 nC q4) := ⟨_, rfl⟩
  have C4 : Ch (Only w.heap.size) w4 W4 := by rw [hW4]; exact (Ch.refl _ _).own _ _
  have F4 : Fv 45 W4 w.heap.size (.int .i64 L) (.slice a1 nG q1) (.slice a2 nA q2) (.slice a4 nC q4) (.slice a3 nF q3) := by rw [hW4]; exact setCell_block (HF3.out.ch g4 (noB _)) 3 _
  have HF4 := hid F4
  have HZ4 := hid ((HZ3.out.ch g4 (noB _)).ch C4 (fun e => by have e1 : w.heap.size + 1 = w.heap.size := e; omega))
  have HR4 := hid ((HR3.out.ch g4 (fun _ _ _ => noB _)).ch C4 (fun q _ a e => by have a1 : q < w.heap.size := a; have e1 : q = w.heap.size := e; omega))
  have HG4 := hid ((HG3.out.trans' g4).trans C4 (fun q e => .inr (by have e1 : q = w.heap.size := e; omega)))
  have HB4 := hid (fun q (e : Blk (.slice a4 nC q4) q) => (show W3.heap.size ≤ q ∧ q < W4.heap.size from ⟨(o4.blk e).1, Nat.lt_of_lt_of_le (o4.blk e).2 C4.size⟩))
  have HO44 := hid (o4.ch C4 (fun q e e' => by have e1 : q = w.heap.size := e'; have := (o4.blk e).1; omega))
  have HO14 := hid ((HO13.out.ch g4 (fun _ _ => noB _)).ch C4 (fun q e e' => by have e1 : q = w.heap.size := e'; have := (HB1.out q e).1; omega))
  have HO24 := hid ((HO23.out.ch g4 (fun _ _ => noB _)).ch C4 (fun q e e' => by have e1 : q = w.heap.size := e'; have := (HB2.out q e).1; omega))
  have HO34 := hid ((HO33.out.ch g4 (fun _ _ => noB _)).ch C4 (fun q e e' => by have e1 : q = w.heap.size := e'; have := (HB3.out q e).1; omega))
  have r4 := C4.size
  have Fp := HF3.out.ch g4 (noB _)
  clear o4 g4 C4 c0 c1 c2 c3 c4 y0 y1 y2 y3 y4
  obtain ⟨c0, c1, c2, c3, c4⟩ := Fp.cells
  obtain ⟨y0, y1, y2, y3, y4⟩ := Fp.fz
  have l4 := Fp.lt
  clear Fp F4
  go_wp2_with fail
  rw [← hW4]
  clear hW4
  have HZB := hid (show Cp W4.heap.size W4 0 nC cv cv x.C from ⟨HnC.out.symm, fun _ _ => rfl, fun i u c hi => by omega, fun i i' u u' hi => by omega⟩)
  have hnC4 : nC ≤ 4294967296 := by rw [HnC.out, HR4.out.e.1]; exact HT.out.c
  clear c0 c1 c2 c3 c4 y0 y1 y2 y3 y4
  go_loopg [24] nC (fun m i wv => ∃ (j : Nat) (us : List Value), j + m = nC ∧ i = .int .i64 ((j : Nat) : Int) ∧ Ow 41 W3.heap.size wv (.slice a4 nC q4) us ∧ Cp W4.heap.size wv j nC cv us x.C ∧ Ch (Blk (.slice a4 nC q4)) W4 wv)
  case atStart => exact ⟨0, cv, by omega, rfl, HO44.out, HZB.out, Ch.refl _ _⟩
  case round =>
    obtain ⟨j, us, hjm, rfl, hov, hcp, hgv⟩ := hrel
    have HOv := hid hov
    have HCv := hid hcp
    have HGv := hid hgv
    have hsv := hgv.size
    have Fk := HF4.out.ch hgv (fun e => by have := (HB4.out _ e).1; omega)
    obtain ⟨c0, c1, c2, c3, c4⟩ := Fk.cells
    have kl := Fk.lt
    by_cases hj : j < nC
    · have hjc : j < cv.length := by rw [← HnC.out]; exact hj
      have hjC : j < x.C.length := by rw [← HR4.out.e.1]; exact hjc
      obtain ⟨u, hu⟩ : ∃ u, cv[j]? = some u := ⟨_, List.getElem?_eq_getElem hjc⟩
      obtain ⟨c, hc⟩ : ∃ c, x.C[j]? = some c := ⟨_, List.getElem?_eq_getElem hjC⟩
      have hus : us[j]? = some u := (hcp.2.1 j (Nat.le_refl _)).trans hu
      have hl := (HR4.out.e.2 j u c hu hc).ch hgv (fun g _ a e => by have a1 : g < w.heap.size := a; have := (HB4.out _ e).1; omega)
      obtain ⟨ua, uc, rfl⟩ := hl.form
      obtain ⟨g1, rfl, hb1, hlt1, hcap1, d0, df, -⟩ := hov.get1 hus
      obtain ⟨nU, hnU⟩ : ∃ n, n = (iv c).length := ⟨_, rfl⟩
      rw [← hnU] at hl hus d0
      have hlc : (iv c).length ≤ 4294967296 := by rw [iv_length]; exact HT.out.e j c hc
      have hCl : ∀ w2 : World, Ls (fun g => g < w.heap.size) w2 (.slice ua nU uc) (iv c) → Calls Try.prog 50 #[.slice ua nU uc] w2 fun e w' => ∃ v', e = .returned v' ∧ Ow 3 w2.heap.size w' v' (iv c) ∧ Ch NoB w2 w' := fun w2 h2 => clone_int _ _ _ w2 h2 (iv_one _) hlc
      have HL := hid hl
      have HU := hid hus
      have HC := hid hc
      have HNU := hid hnU
      have HCl := hid hCl
      have j0 : (0 : Int) ≤ (j : Int) := by omega
      have j1 : (j : Int) < (nC : Int) := by omega
      have g1B : g1 < W4.heap.size := (HB4.out g1 rfl).2
      have n2 : ¬ (g1 = w.heap.size) ∧ ¬ (w.heap.size = g1) := by omega
      clear hov hcp hgv Fk hl hus hu hc hnU hCl hlc
      go_wp2
      go_region_held3 (fun w' => w'.cell? ⟨w.heap.size, 3, none⟩ = some (.slice (some ⟨g1, 0, none⟩) nC q4)) (first | (simp only [k3]; done) | (go_keep; done) | (go_simp; done))
        (first | (go_at_call 50; refine (HCl.out _ HL.out.drew).mono ?_; rintro e w5 ⟨v5, rfl, o5, g5⟩; obtain ⟨a5, q5, rfl⟩ := o5.form; rw [← HNU.out] at o5 ⊢; have k3 := (g5.cell (o := 3) (by exact kl) (noB _)).trans c3; obtain ⟨g2, e2, -, -, -, d5, f5, set5⟩ := (HOv.out.drew.ch g5 (fun _ _ => noB _)).get1 HU.out; cases e2; have s5 := g5.size; have l5 : g1 < w5.heap.size := Nat.lt_of_lt_of_le hlt1 s5; have l6 : w.heap.size < w5.heap.size := Nat.lt_of_lt_of_le kl s5; have HO5 := hid o5; have HG5 := hid g5; have HS5 := hid set5; clear o5 g5 set5))
      all_goals go_wp2
      go_roundg (gk - 1)
      case measure => omega
      case rel =>
        have C6 := (Ch.refl (Only g1) w5).own j (.slice a5 nU q5)
        exact ⟨j + 1, _, by omega, by simp, HS5.out _, HCv.out.drew.next (c := c) hj HG5.out HO5.out HC.out hsv C6 g1B, (HGv.out.drew.trans HG5.out (fun q e => e.elim)).trans C6 (fun q e => .inl (by have e1 : q = g1 := e; subst e1; rfl))⟩
    · have e : j = nC := by omega
      subst e
      have hz := HZ4.out.ch hgv (fun e => by have := (HB4.out _ e).1; omega)
      obtain ⟨z0, z1, z2, z3, z4⟩ := hz.cells
      obtain ⟨y0, y1, y2, y3, y4⟩ := hz.fz
      have zl := hz.lt
      clear hov hcp hgv Fk hz
      go_wp2
      have C5 := (((((Ch.refl (Only (w.heap.size + 1)) wr).own 0 (.int .i64 L)).own 1 (.slice a1 nG q1)).own 2 (.slice a2 nA q2)).own 3 (.slice a4 j q4)).own 4 (.slice a3 nF q3)
      refine bodyPost_ret (v := .agg #[.int .i64 L, .slice a1 nG q1, .slice a2 nA q2, .slice a4 j q4, .slice a3 nF q3]) (by simp [results, Try.results32, go_sem, z0, z1, z2, z3, z4]) rfl ⟨_, _, _, _, us, rfl, ?_, ?_⟩
      · have hul : us.length = j := HCv.out.1
        have hcl : x.C.length = j := by rw [← HR4.out.e.1, HnC.out]
        have ho : ∀ (i : Nat) u, us[i]? = some u → ∀ q, Blk u q → W4.heap.size ≤ q := fun i u hu q e => by
          have hi : i < us.length := (List.getElem?_eq_some_iff.1 hu).1
          exact ((HCv.out.2.2.1 i u _ (by omega) hu (List.getElem?_eq_getElem (by omega))).blk e).1
        exact {
          g := ((HO14.out.ch HGv.out (fun q a b => by have := HB1.out q a; have := HB4.out q b; omega)).ch C5 (fun q a b => by have := HB1.out q a; have e1 : q = w.heap.size + 1 := b; omega)).lower (by omega)
          a := ((HO24.out.ch HGv.out (fun q a b => by have := HB2.out q a; have := HB4.out q b; omega)).ch C5 (fun q a b => by have := HB2.out q a; have e1 : q = w.heap.size + 1 := b; omega)).lower (by omega)
          c := (HOv.out.ch C5 (fun q a b => by have := HB4.out q a; have e1 : q = w.heap.size + 1 := b; omega)).lower (by omega)
          f := ((HO34.out.ch HGv.out (fun q a b => by have := HB3.out q a; have := HB4.out q b; omega)).ch C5 (fun q a b => by have := HB3.out q a; have e1 : q = w.heap.size + 1 := b; omega)).lower (by omega)
          cl := by omega
          e := fun i u c hu hc => ((HCv.out.2.2.1 i u c (by have := (List.getElem?_eq_some_iff.1 hu).1; omega) hu hc).ch C5 (fun q a b => by have := ho i u hu q a; have e1 : q = w.heap.size + 1 := b; omega)).lower (by omega)
          ga := fun q a b => by have := HB1.out q a; have := HB2.out q b; omega
          gc := fun q a b => by have := HB1.out q a; have := HB4.out q b; omega
          gf := fun q a b => by have := HB1.out q a; have := HB3.out q b; omega
          ac := fun q a b => by have := HB2.out q a; have := HB4.out q b; omega
          af := fun q a b => by have := HB2.out q a; have := HB3.out q b; omega
          cf := fun q a b => by have := HB4.out q a; have := HB3.out q b; omega
          eg := fun i u hu q a b => by have := ho i u hu q a; have := HB1.out q b; omega
          ea := fun i u hu q a b => by have := ho i u hu q a; have := HB2.out q b; omega
          ec := fun i u hu q a b => by have := ho i u hu q a; have := HB4.out q b; omega
          ef := fun i u hu q a b => by have := ho i u hu q a; have := HB3.out q b; omega
          ee := fun i i' u u' hn hu hu' => HCv.out.2.2.2 i i' u u' (by have := (List.getElem?_eq_some_iff.1 hu).1; omega) (by have := (List.getElem?_eq_some_iff.1 hu').1; omega) hn hu hu' }
      · exact (HG4.out.trans HGv.out (fun q e => .inr (by have := (HB4.out q e).1; omega))).trans C5 (fun q e => .inr (by have e1 : q = w.heap.size + 1 := e; omega))
end Go.Proofs.Ytfbkifkfhgkdbab.Sb
