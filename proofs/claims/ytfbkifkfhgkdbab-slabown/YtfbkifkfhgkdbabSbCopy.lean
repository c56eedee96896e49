/-
  What the document's Copy answers: a state that reads the same, in memory of the call's own. Condition: the state is there, and no list of it is longer than 4294967296.
-/
import Derived.Test.YtfbkifkfhgkdbabSbGive
namespace Go.Proofs.Ytfbkifkfhgkdbab.Sb
open Go.RowKit
attribute [local go_sem ↓] Go.wp_at_zero Go.wp_at_succ

/-- the first j lists, copied, behind one another -/
structure Gp (B : Nat) (w : World) (v : Value) (us : List Value) (C : List (List Int)) (j : Nat) : Prop where
  l : us.length = j
  o : Ow 41 B w v us
  e : ∀ (i : Nat) u c, us[i]? = some u → C[i]? = some c → Ow 3 B w u (iv c)
  d : ∀ (i : Nat) u, us[i]? = some u → Dj u v
  dd : ∀ (i i' : Nat) u u', i ≠ i' → us[i]? = some u → us[i']? = some u' → Dj u u'
theorem Gp.next {B j kc : Nat} {w w5 w6 w7 : World} {v v' u : Value} {us : List Value} {C : List (List Int)} {c : List Int} {ob : Obj} (h : Gp B w v us C j) (hj : j < C.length) (hB : B ≤ w.heap.size) (g5 : Ch NoB w w5) (o5 : Ow 3 w.heap.size w5 u (iv c)) (hc : C[j]? = some c)
    (o6 : Ow 41 B w6 v' (us ++ [u])) (g6 : Ch (Blk v) (w5.alloc ob) w6) (b6 : ∀ q, Blk v' q → Blk v q ∨ (w5.alloc ob).heap.size ≤ q) (g7 : Ch (Only kc) w6 w7) (hk : kc < B) : Gp B w7 v' (us ++ [u]) C (j + 1) := by
  have hvl : ∀ q, Blk v q → q < w.heap.size := fun q e => (h.o.blk e).2
  have hul : ∀ (i : Nat) z, us[i]? = some z → ∀ q, Blk z q → B ≤ q ∧ q < w.heap.size := fun i z hz q e => by
    have hi : i < us.length := (List.getElem?_eq_some_iff.1 hz).1
    have hi2 : i < C.length := by have := h.l; omega
    exact (h.e i z _ hz (List.getElem?_eq_getElem hi2)).blk e
  have s5 := g5.size
  have sa : w5.heap.size ≤ (w5.alloc ob).heap.size := ((Ch.refl NoB w5).alloc ob).size
  have at_ : ∀ (i : Nat) z, (us ++ [u])[i]? = some z → (us[i]? = some z) ∨ (i = j ∧ z = u) := fun i z hz => by
    by_cases hi : i < us.length
    · rw [List.getElem?_append_left hi] at hz
      exact .inl hz
    · have hi2 : i < (us ++ [u]).length := (List.getElem?_eq_some_iff.1 hz).1
      have : i = us.length := by rw [List.length_append] at hi2; simp at hi2; omega
      subst this
      simp at hz
      exact .inr ⟨h.l, hz.symm⟩
  have hu5 : ∀ q, Blk u q → w.heap.size ≤ q ∧ q < w5.heap.size := fun q e => o5.blk e
  have djv : ∀ (i : Nat) z, (us ++ [u])[i]? = some z → Dj z v := fun i z hz q a b => by
    rcases at_ i z hz with hz | ⟨_, rfl⟩
    · exact h.d i z hz q a b
    · have := hu5 q a
      have := hvl q b
      omega
  have low : ∀ (i : Nat) z, (us ++ [u])[i]? = some z → ∀ q, Blk z q → B ≤ q ∧ q < w5.heap.size := fun i z hz q a => by
    rcases at_ i z hz with hz | ⟨_, rfl⟩
    · have := hul i z hz q a
      omega
    · have := hu5 q a
      omega
  refine ⟨by rw [List.length_append, h.l]; rfl, o6.ch g7 (fun q a e => by have := (o6.blk a).1; have e1 : q = kc := e; omega), fun i z d hz hd => ?_, fun i z hz q a b => ?_, fun i i' z z' hn hz hz' q a b => ?_⟩
  · have k5 : Ow 3 B w5 z (iv d) := by
      rcases at_ i z hz with hz | ⟨e, rfl⟩
      · exact (h.e i z d hz hd).ch g5 (fun _ _ => noB _)
      · subst e
        rw [hc] at hd
        injection hd with hd
        subst hd
        exact o5.lower hB
    exact ((k5.alloc ob).ch g6 (fun q a b => djv i z hz q a b)).ch g7 (fun q a e => by have := (k5.blk a).1; have e1 : q = kc := e; omega)
  · rcases b6 q b with b | b
    · exact djv i z hz q a b
    · have := low i z hz q a
      omega
  · rcases at_ i z hz with hz1 | ⟨e, e1⟩
    · rcases at_ i' z' hz' with hz2 | ⟨e', e2⟩
      · exact h.dd i i' z z' hn hz1 hz2 q a b
      · have := hul i z hz1 q a
        have := hu5 q (e2 ▸ b)
        omega
    · rcases at_ i' z' hz' with hz2 | ⟨e', e2⟩
      · have := hul i' z' hz2 q b
        have := hu5 q (e1 ▸ a)
        omega
      · omega

theorem ls_val (w : World) (z : Value) (t : TypeId) (k : Nat) (hk : k = w.heap.size) : Ls (fun _ => True) (w.alloc (.cells #[z] t)) (.slice (some ⟨k, 0, none⟩) 1 1) [z] := hk ▸
  ⟨some ⟨w.heap.size, 0, none⟩, 1, rfl, ⟨Nat.le_refl _, fun h => by cases h⟩, .inr ⟨w.heap.size, 0, rfl, trivial, by simp, fun i x hx => by
    obtain ⟨rfl, rfl⟩ : i = 0 ∧ x = z := by
      cases i with
      | zero => simpa using hx.symm
      | succ i => simp at hx
    exact (cell_of (MapKept.heap_alloc w _).1 0).trans rfl⟩⟩

set_option maxHeartbeats 8000000 in
theorem copy_any (L : Int) (vg va vc vf : Value) (cv : List Value) (x : Sl) (P : Nat → Prop) (w : World) (h : Rd P w vg va vc vf cv x) (ht : x.Fits) :
    Calls Try.prog 17 #[.agg #[.int .i64 L, vg, va, vc, vf]] w fun e w' => ∃ vg' va' vc' vf' cv', e = .returned (.agg #[.int .i64 L, vg', va', vc', vf']) ∧ St w.heap.size w' vg' va' vc' vf' cv' x ∧ Ch NoB w w' := by
  obtain ⟨ga, gc, rfl⟩ := h.g.form
  obtain ⟨aa, ac, rfl⟩ := h.a.form
  obtain ⟨ca, cc, rfl⟩ := h.c.form
  obtain ⟨fa, fc, rfl⟩ := h.f.form
  obtain ⟨nG, hnG⟩ : ∃ n, n = (iv x.G).length := ⟨_, rfl⟩
  obtain ⟨nA, hnA⟩ : ∃ n, n = (bv x.A).length := ⟨_, rfl⟩
  obtain ⟨nC, hnC⟩ : ∃ n, n = cv.length := ⟨_, rfl⟩
  obtain ⟨nF, hnF⟩ : ∃ n, n = (iv x.F).length := ⟨_, rfl⟩
  rw [← hnG, ← hnA, ← hnC, ← hnF] at h
  rw [← hnG, ← hnA, ← hnC, ← hnF]
  have HnG := hid hnG
  have HnA := hid hnA
  have HnC := hid hnC
  have HnF := hid hnF
  have HT := hid ht
  obtain ⟨W0, hW0⟩ : ∃ W0, W0 = (w.alloc (.cells #[.int .i64 L, .slice ga nG gc, .slice aa nA ac, .slice ca nC cc, .slice fa nF fc] 45)).alloc (.cells #[.int .i64 0, .slice none 0 0, .slice none 0 0, .slice none 0 0, .slice none 0 0] 45) := ⟨_, rfl⟩
  have g0 : Ch NoB w W0 := by rw [hW0]; exact ((Ch.refl NoB w).alloc _).alloc _
  have f0 : Fv 45 W0 w.heap.size (.int .i64 L) (.slice ga nG gc) (.slice aa nA ac) (.slice ca nC cc) (.slice fa nF fc) := by rw [hW0]; exact (Fv.new 45 w (.int .i64 L) (.slice ga nG gc) (.slice aa nA ac) (.slice ca nC cc) (.slice fa nF fc)).alloc _
  have r0 : Fv 45 W0 (w.heap.size + 1) (.int .i64 0) (.slice none 0 0) (.slice none 0 0) (.slice none 0 0) (.slice none 0 0) := by
    have z := Fv.new 45 (w.alloc (.cells #[.int .i64 L, .slice ga nG gc, .slice aa nA ac, .slice ca nC cc, .slice fa nF fc] 45)) (.int .i64 0) (.slice none 0 0) (.slice none 0 0) (.slice none 0 0) (.slice none 0 0)
    rw [World.size_alloc] at z
    rw [hW0]
    exact z
  have hr := (h.mono (Q := fun g => g < w.heap.size) (fun g a _ => a)).ch g0 (fun _ _ _ => noB _)
  have HR := hid hr
  have HF0 := hid f0
  have HR0 := hid r0
  have HG0 := hid g0
  have HI1 := hid (fun (W : World) (k : Ch NoB W0 W) => ints_any _ _ x.G W (hr.g.ch k (fun _ _ _ => noB _)) ht.g)
  have HI2 := hid (fun (W : World) (k : Ch NoB W0 W) => ints_any _ _ x.F W (hr.f.ch k (fun _ _ _ => noB _)) ht.f)
  have hl0 : w.heap.size + 1 < W0.heap.size := r0.lt
  obtain ⟨x00, x01, x02, x03, x04⟩ := f0.cells
  clear h hr f0 r0 g0 hnG hnA hnC hnF ht
  go_enter Try.func17, Try.ntmps17
  go_wp2_with fail
  rw [← hW0]
  clear hW0
  refine wp_region_held_drew (S := fun w' => w'.cell? ⟨w.heap.size, 0, none⟩ = some (.int .i64 L) ∧ w'.cell? ⟨w.heap.size, 1, none⟩ = some (.slice ga nG gc) ∧ w'.cell? ⟨w.heap.size, 4, none⟩ = some (.slice fa nF fc)) (by kernel_rfl) (by exact ⟨x00, x01, x04⟩) (fun _ => ?_)
  refine takeS_on (i := 0) 5 (v := ?v92) rfl rfl (by kernel_rfl) (by kernel_rfl) (by kernel_rfl) (fun _ _ _ h => h) (by kernel_rfl) ?hy92 (by exact ⟨x00, x01, x04⟩) ?_
  case hy92 => (intro w' hSw; go_simp; try (with_reducible rfl))
  simp only [Act.put, List.setIfInBounds_toArray, List.set_cons_zero, List.set_cons_succ]
  refine takeS_on (i := 1) 6 (v := ?v93) rfl rfl (by kernel_rfl) (by kernel_rfl) (by kernel_rfl) (fun _ _ _ h => h) (by kernel_rfl) ?hy93 (by exact ⟨x00, x01, x04⟩) ?_
  case hy93 => (intro w' hSw; go_simp; try (with_reducible rfl))
  simp only [Act.put, List.setIfInBounds_toArray, List.set_cons_zero, List.set_cons_succ]
  refine takeS_on (i := 2) 7 (v := ?v94) rfl rfl (by kernel_rfl) (by kernel_rfl) (by kernel_rfl) (fun _ _ _ h => h) (by kernel_rfl) ?hy94 (by exact ⟨x00, x01, x04⟩) ?_
  case hy94 => (intro w' hSw; go_simp; try (with_reducible rfl))
  simp only [Act.put, List.setIfInBounds_toArray, List.set_cons_zero, List.set_cons_succ]
  refine takeS_on (i := 3) 8 (v := ?v95) rfl rfl (by kernel_rfl) (by kernel_rfl) (by kernel_rfl) (fun _ _ _ h => h) (by kernel_rfl) ?hy95 (by exact ⟨x00, x01, x04⟩) ?_
  case hy95 => (intro w' hSw; go_simp; try (with_reducible rfl))
  simp only [Act.put, List.setIfInBounds_toArray, List.set_cons_zero, List.set_cons_succ]
  refine takeS_on (i := 5) 10 (v := ?v96) rfl rfl (by kernel_rfl) (by kernel_rfl) (by kernel_rfl) (fun _ _ _ h => h) (by kernel_rfl) ?hy96 (by exact ⟨x00, x01, x04⟩) ?_
  case hy96 => (intro w' hSw; go_simp; try (with_reducible rfl))
  simp only [Act.put, List.setIfInBounds_toArray, List.set_cons_zero, List.set_cons_succ]
  refine takeS_on (i := 6) 11 (v := ?v97) rfl rfl (by kernel_rfl) (by kernel_rfl) (by kernel_rfl) (fun _ _ _ h => h) (by kernel_rfl) ?hy97 (by exact ⟨x00, x01, x04⟩) ?_
  case hy97 => (intro w' hSw; go_simp; try (with_reducible rfl))
  simp only [Act.put, List.setIfInBounds_toArray, List.set_cons_zero, List.set_cons_succ]
  refine wpAnyH_ready (rs := [4, 9]) (by kernel_rfl) (by simp) (AllReadyH.cons rfl (fun K hK => ?_) (AllReadyH.cons rfl (fun K hK => ?_) AllReadyH.nil))
  · go_simp
    refine (HI1.out _ ((Ch.refl NoB W0).drew)).mono ?_
    rintro e w4 ⟨v4, rfl, o4, g4⟩
    obtain ⟨a4, q4, rfl⟩ := o4.form
    rw [← HnG.out] at o4 ⊢
    have G4 : Ch NoB W0 w4 := ((Ch.refl NoB W0).drew).trans' g4
    have F4 := HF0.out.ch G4 (noB _)
    obtain ⟨x40, x41, x42, x43, x44⟩ := F4.cells
    have hs4 := g4.size
    have hs4' : W0.heap.size ≤ w4.heap.size := hs4
    refine hK.out _ _ (by exact ⟨x40, x41, x44⟩) (fun _ => ?_)
    clear hK K
    refine wpAnyH_ready (rs := [7, 9]) (by kernel_rfl) (by simp) (AllReadyH.cons rfl (fun K hK => ?_) (AllReadyH.cons rfl (fun K hK => ?_) AllReadyH.nil))
    · go_simp
      refine (HI2.out _ (G4)).mono ?_
      rintro e w7 ⟨v7, rfl, o7, g7⟩
      obtain ⟨a7, q7, rfl⟩ := o7.form
      rw [← HnF.out] at o7 ⊢
      have G7 : Ch NoB W0 w7 := (G4).trans' g7
      have F7 := HF0.out.ch G7 (noB _)
      obtain ⟨x70, x71, x72, x73, x74⟩ := F7.cells
      have O4 := Ow.ch (w := w4) o4 g7 (fun _ _ => noB _)
      have hs7' : w4.heap.size ≤ w7.heap.size := g7.size
      refine hK.out _ _ (by exact ⟨x70, x71, x74⟩) (fun _ => ?_)
      clear hK K
      refine takeS_on (i := 8) 13 (v := ?v98) rfl rfl (by kernel_rfl) (by kernel_rfl) (by kernel_rfl) (fun _ _ _ h => h) (by kernel_rfl) ?hy98 (by exact ⟨x70, x71, x74⟩) ?_
      case hy98 => (intro w' hSw; go_simp; try (with_reducible rfl))
      simp only [Act.put, List.setIfInBounds_toArray, List.set_cons_zero, List.set_cons_succ]
      refine wpAnyH_ready (rs := [9]) (by kernel_rfl) (by simp) (AllReadyH.cons rfl (fun K hK => ?_) AllReadyH.nil)
      go_simp
      have F9 := HF0.out.ch (G7.alloc (.cells #[.int .i64 0, .slice none 0 0, .slice none 0 0, .slice none 0 0, .slice none 0 0] 45)) (noB _)
      obtain ⟨x90, x91, x92, x93, x94⟩ := F9.cells
      have Z9 := Fv.new 45 w7 (.int .i64 0) (.slice none 0 0) (.slice none 0 0) (.slice none 0 0) (.slice none 0 0)
      have hk9 : W0.heap.size ≤ w7.heap.size := G7.size
      refine hK.out _ _ (by exact ⟨x90, x91, x94⟩) (fun _ => ?_)
      clear hK K
      refine wpAnyH_ready (rs := [10]) (by kernel_rfl) (by simp) (AllReadyH.cons rfl (fun K hK => ?_) AllReadyH.nil)
      obtain ⟨s0, s1, s2, s3, s4⟩ := Z9.cells
      obtain ⟨sf0, sf1, sf2, sf3, sf4⟩ := Z9.fz
      have sl := Z9.lt
      go_simp
      have HA := hid (show ∀ q, Blk (.slice a4 nG q4) q → W0.heap.size ≤ q ∧ q < w4.heap.size ∧ q ≠ w7.heap.size from fun q e => by have := o4.blk e; have h1 : W0.heap.size ≤ q := this.1; omega)
      have hs4b : W0.heap.size ≤ w4.heap.size := by omega
      have HBq := hid (show ∀ q, Blk (.slice a7 nF q7) q → w4.heap.size ≤ q ∧ q < w7.heap.size ∧ q ≠ w7.heap.size from fun q e => by have := o7.blk e; have h1 : w4.heap.size ≤ q := this.1; omega)
      have F8 := Fv.new 45 w7 (.int .i64 L) (.slice a4 nG q4) (.slice none 0 0) (.slice none 0 0) (.slice a7 nF q7)
      have O8 := (O4.alloc (.cells #[.int .i64 L, .slice a4 nG q4, .slice none 0 0, .slice none 0 0, .slice a7 nF q7] 45)).lower (base' := w.heap.size + 2) hl0
      have P8 := (o7.alloc (.cells #[.int .i64 L, .slice a4 nG q4, .slice none 0 0, .slice none 0 0, .slice a7 nF q7] 45)).lower (base' := w.heap.size + 2) (Nat.le_trans hl0 hs4b)
      have D8 : Dj (.slice a4 nG q4) (.slice a7 nF q7) := fun q a b => by have := (HA.out q a).2.1; have := (HBq.out q b).1; omega
      have G8 : Ch NoB W0 _ := G7.alloc (.cells #[.int .i64 L, .slice a4 nG q4, .slice none 0 0, .slice none 0 0, .slice a7 nF q7] 45)
      have hne8 : ¬ (w7.heap.size = w.heap.size) := by omega
      have B8 := HF0.out.ch G8 (noB _)
      obtain ⟨kc, hkc⟩ : ∃ kc, kc = w7.heap.size := ⟨_, rfl⟩
      have hkl : W0.heap.size ≤ kc := by omega
      have hna8 : ∀ q, Blk (.slice a4 nG q4) q → q ≠ kc := fun q a => by rw [hkc]; exact (HA.out q a).2.2
      have hnb8 : ∀ q, Blk (.slice a7 nF q7) q → q ≠ kc := fun q a => by rw [hkc]; exact (HBq.out q a).2.2
      generalize hW8 : w7.alloc (.cells #[.int .i64 L, .slice a4 nG q4, .slice none 0 0, .slice none 0 0, .slice a7 nF q7] 45) = W8 at F8 O8 P8 G8 B8 ⊢
      rw [← hkc] at F8 ⊢
      obtain ⟨x80, x81, x82, x83, x84⟩ := B8.cells
      clear hkc hW8
      refine hK.out _ _ (by exact ⟨x80, x81, x84⟩) (fun _ => ?_)
      clear hK K
      refine wpAnyH_done (by kernel_rfl) ?_ _
      have HF8 := hid F8
      have HO8 := hid O8
      have HP8 := hid P8
      have HD8 := hid D8
      have HG8 := hid G8
      have HB8 := hid B8
      have HR8 := hid (HR.out.ch G8 (fun _ _ _ => noB _))
      have HRV := hid (HR0.out.ch G8 (noB _))
      have HNA8 := hid hna8
      have HNB8 := hid hnb8
      have hlW : W0.heap.size ≤ W8.heap.size := G8.size
      have hkl2 := hkl
      have hnAl : nA ≤ 4294967296 := by rw [HnA.out, bv_length]; exact HT.out.a
      have hxk : ¬ (w.heap.size = kc) := by omega
      have hxk2 : ¬ (kc = w.heap.size) := by omega
      have hrk : ¬ (w.heap.size + 1 = kc) := by omega
      have hrk2 : ¬ (kc = w.heap.size + 1) := by omega
      obtain ⟨c0, c1, c2, c3, c4⟩ := F8.cells
      obtain ⟨y0, y1, y2, y3, y4⟩ := F8.fz
      have kl8 := F8.lt
      clear F8 O8 P8 D8 G8 x80 x81 x83 x84 hna8 hnb8 B8 hkl
      have x82 := HB8.out.cells.2.2.1
      have xl8 := HB8.out.lt
      go_wp2_with (first | (at_builtin; refine wpList_append_ow rfl (.tmp 15) (.tmp 17) 42 4 1 (.bool false) Try.underlying42 bool_info rfl rfl W8.heap.size _ [] rfl (Ow.nil _ _ _) _ _ (bv x.A) rfl HR8.out.a (bv_one _) nA (by simp [HnA.out]) (by omega) (by unfold maxLen; omega) (Nat.le_refl _) (bv x.A) rfl ?_; intro ao9 cap9 w9 o9 g9' bl9; have g9 : Ch NoB W8 w9 := g9'.mono (fun q e => by cases e); have F9 := HF8.out.ch g9 (noB _); clear c0 c1 c2 c3 c4 y0 y1 y2 y3 y4; obtain ⟨c0, c1, c2, c3, c4⟩ := F9.cells; obtain ⟨y0, y1, y2, y3, y4⟩ := F9.fz; have kl9 := F9.lt; have HF9 := hid F9; have HO9 := hid o9; have HG9 := hid g9; clear F9 o9 g9 g9' bl9))
      obtain ⟨W10, hW10⟩ : ∃ W, W = w9.setCell ⟨kc, 2, none⟩ (.slice ao9 nA cap9) := ⟨_, rfl⟩
      have C10 : Ch (Only kc) w9 W10 := by rw [hW10]; exact (Ch.refl _ _).own _ _
      have F10 : Fv 45 W10 kc (.int .i64 L) (.slice a4 nG q4) (.slice ao9 nA cap9) (.slice none 0 0) (.slice a7 nF q7) := by rw [hW10]; exact setCell_block HF9.out 2 _
      have HF10 := hid F10
      have HC10 := hid C10
      have HX10 := hid ((HB8.out.ch HG9.out (noB _)).ch C10 hxk)
      have HR10 := hid ((HR8.out.ch HG9.out (fun _ _ _ => noB _)).ch C10 (fun q _ a e => by have e1 : q = kc := e; have a1 : q < w.heap.size := a; omega))
      have HRV10 := hid ((HRV.out.ch HG9.out (noB _)).ch C10 hrk)
      have hs9 := HG9.out.size
      have hs10 := C10.size
      have hkB : kc < W10.heap.size := F10.lt
      rw [← hW10]
      clear hW10 F10 C10 c0 c1 c2 c3 c4 y0 y1 y2 y3 y4
      have hnC4 : nC ≤ 4294967296 := by rw [HnC.out, HR.out.e.1]; exact HT.out.c
      have HCC := hid (show nC = x.C.length by rw [HnC.out, HR.out.e.1])
      go_loopg [4] nC (fun m i wv => ∃ (j : Nat) (at_ : Option Addr) (ct : Nat) (us : List Value), j + m = nC ∧ i = .int .i64 ((j : Nat) : Int) ∧ Fv 45 wv kc (.int .i64 L) (.slice a4 nG q4) (.slice ao9 nA cap9) (.slice at_ j ct) (.slice a7 nF q7) ∧ Gp W10.heap.size wv (.slice at_ j ct) us x.C j ∧ Ch (Only kc) W10 wv)
      case atStart => exact ⟨0, none, 0, [], by omega, rfl, HF10.out, ⟨rfl, Ow.nil _ _ _, fun i u c hu => by simp at hu, fun i u hu => by simp at hu, fun i i' u u' _ hu => by simp at hu⟩, Ch.refl _ _⟩
      case round =>
        obtain ⟨j, at_, ct, us, hjm, rfl, hfr, hgp, hcr⟩ := hrel
        have HFr := hid hfr
        have HGp := hid hgp
        have HCr := hid hcr
        have hB10 : W10.heap.size ≤ wr.heap.size := hcr.size
        have HBr := hid (HX10.out.ch hcr hxk)
        obtain ⟨k0, k1, k2, k3, k4⟩ := HBr.out.cells
        have lx := HBr.out.lt
        obtain ⟨m0, m1, m2, m3, m4⟩ := hfr.cells
        have lk := hfr.lt
        by_cases hj : j < nC
        · have hjc : j < cv.length := by rw [← HnC.out]; exact hj
          have hjC : j < x.C.length := by rw [← HCC.out]; exact hj
          obtain ⟨u, hu⟩ : ∃ u, cv[j]? = some u := ⟨_, List.getElem?_eq_getElem hjc⟩
          obtain ⟨c, hc⟩ : ∃ c, x.C[j]? = some c := ⟨_, List.getElem?_eq_getElem hjC⟩
          have hR := HR10.out.ch hcr (fun q _ a e => by have e1 : q = kc := e; have a1 : q < w.heap.size := a; omega)
          have hl := hR.e.2 j u c hu hc
          obtain ⟨ua, uc, rfl⟩ := hl.form
          obtain ⟨nU, hnU⟩ : ∃ n, n = (iv c).length := ⟨_, rfl⟩
          rw [← hnU] at hl hu
          obtain ⟨gs, os, cc', e', hgs, hgr, hcap, d0⟩ := hR.c.get hu
          rw [← HnC.out] at e'
          injection e' with e1 e2 e3
          subst e1 e3
          have HCl := hid (fun (W : World) (k : Ch NoB wr W) => ints_any _ _ c W (hl.ch k (fun _ _ _ => noB _)) (HT.out.e j c hc))
          have HNU := hid hnU
          have HC := hid hc
          have j0 : (0 : Int) ≤ (j : Int) := by omega
          have j1 : (j : Int) < (nC : Int) := by omega
          have gsl : gs < w.heap.size := hgs
          clear hfr hgp hcr hR hl hu hc hnU
          go_wp2_with fail
          refine wp_region_held_drew (S := fun w' => w'.cell? ⟨w.heap.size, 3, none⟩ = some (.slice (some ⟨gs, os, none⟩) nC cc) ∧ w'.cell? ⟨gs, os + j, none⟩ = some (.slice ua nU uc)) (by kernel_rfl) (by exact ⟨k3, d0⟩) (fun _ => ?_)
          refine takeS_on (i := 0) 27 (v := ?v99) rfl rfl (by kernel_rfl) (by kernel_rfl) (by kernel_rfl) (fun _ _ _ h => h) (by kernel_rfl) ?hy99 (by exact ⟨k3, d0⟩) ?_
          case hy99 => (intro w' hSw; go_simp; try (with_reducible rfl))
          simp only [Act.put, List.setIfInBounds_toArray, List.set_cons_zero, List.set_cons_succ]
          refine takeS_on (i := 2) 29 (v := ?v100) rfl rfl (by kernel_rfl) (by kernel_rfl) (by kernel_rfl) (fun _ _ _ h => h) (by kernel_rfl) ?hy100 (by exact ⟨k3, d0⟩) ?_
          case hy100 => (intro w' hSw; go_simp; try (with_reducible rfl))
          simp only [Act.put, List.setIfInBounds_toArray, List.set_cons_zero, List.set_cons_succ]
          refine takeS_on (i := 3) 30 (v := ?v101) rfl rfl (by kernel_rfl) (by kernel_rfl) (by kernel_rfl) (fun _ _ _ h => h) (by kernel_rfl) ?hy101 (by exact ⟨k3, d0⟩) ?_
          case hy101 => (intro w' hSw; go_simp; try (with_reducible rfl))
          simp only [Act.put, List.setIfInBounds_toArray, List.set_cons_zero, List.set_cons_succ]
          refine takeS_on (i := 4) 31 (v := ?v102) rfl rfl (by kernel_rfl) (by kernel_rfl) (by kernel_rfl) (fun _ _ _ h => h) (by kernel_rfl) ?hy102 (by exact ⟨k3, d0⟩) ?_
          case hy102 => (intro w' hSw; go_simp; try (with_reducible rfl))
          simp only [Act.put, List.setIfInBounds_toArray, List.set_cons_zero, List.set_cons_succ]
          refine takeS_on (i := 5) 32 (v := ?v103) rfl rfl (by kernel_rfl) (by kernel_rfl) (by kernel_rfl) (fun _ _ _ h => h) (by kernel_rfl) ?hy103 (by exact ⟨k3, d0⟩) ?_
          case hy103 => (intro w' hSw; go_simp; try (with_reducible rfl))
          simp only [Act.put, List.setIfInBounds_toArray, List.set_cons_zero, List.set_cons_succ]
          refine takeS_on (i := 6) 33 (v := ?v104) rfl rfl (by kernel_rfl) (by kernel_rfl) (by kernel_rfl) (fun _ _ _ h => h) (by kernel_rfl) ?hy104 (by exact ⟨k3, d0⟩) ?_
          case hy104 => (intro w' hSw; go_simp; try (with_reducible rfl))
          simp only [Act.put, List.setIfInBounds_toArray, List.set_cons_zero, List.set_cons_succ]
          refine wpAnyH_ready (rs := [1, 7]) (by kernel_rfl) (by simp) (AllReadyH.cons rfl (fun K hK => ?_) (AllReadyH.cons rfl (fun K hK => ?_) AllReadyH.nil))
          · go_simp
            refine hK.out _ _ (by exact ⟨k3, d0⟩) (fun _ => ?_)
            clear hK K
            refine wpAnyH_ready (rs := [7]) (by kernel_rfl) (by simp) (AllReadyH.cons rfl (fun K hK => ?_) AllReadyH.nil)
            go_simp
            refine (HCl.out _ ((Ch.refl NoB wr).drew)).mono ?_
            rintro e w5 ⟨v5, rfl, o5, g5'⟩
            obtain ⟨a5, q5, rfl⟩ := o5.form
            rw [← HNU.out] at o5 ⊢
            have g5 : Ch NoB wr w5 := ((Ch.refl NoB wr).drew).trans' g5'
            have s5 := g5.size
            have F5 := HFr.out.ch g5 (noB _)
            have l5k := F5.lt
            have X5 := HBr.out.ch g5 (noB _)
            obtain ⟨k50, k51, k52, k53, k54⟩ := X5.cells
            obtain ⟨m50, m51, m52, m53, m54⟩ := F5.cells
            have l5x := X5.lt
            have d5 := (g5.cell (o := os + j) hgr (noB _)).trans d0
            refine hK.out _ _ (by exact ⟨k53, d5⟩) (fun _ => ?_)
            clear hK K
            refine wpAnyH_ready (rs := [8]) (by kernel_rfl) (by simp) (AllReadyH.cons rfl (fun K hK => ?_) AllReadyH.nil)
            go_simp
            have g8 : Ch NoB wr (w5.alloc (.cells #[.slice a5 nU q5] 41)) := g5.alloc _
            have X8 := HBr.out.ch g8 (noB _)
            obtain ⟨k80, k81, k82, k83, k84⟩ := X8.cells
            have F88 := HFr.out.ch g8 (noB _)
            obtain ⟨m80, m81, m82, m83, m84⟩ := F88.cells
            have l8k := F88.lt
            have l8x := X8.lt
            have d8 := (g8.cell (o := os + j) hgr (noB _)).trans d0
            refine hK.out _ _ (by exact ⟨k83, d8⟩) (fun _ => ?_)
            clear hK K
            refine wpAnyH_ready (rs := [9]) (by kernel_rfl) (by simp) (AllReadyH.cons rfl (fun K hK => ?_) AllReadyH.nil)
            refine step_append_ow rfl (.tmp 28) (.tmp 35) 43 41 24 (.slice none 0 0) Try.underlying43 ints_info rfl rfl W10.heap.size (.slice at_ j ct) us (by simp [Act.eval]) ((HGp.out.o.ch g5 (fun _ _ => noB _)).alloc _) _ _ [.slice a5 nU q5] (by simp [Act.eval]) (ls_val _ _ _ _ rfl) (fun u hu => by rw [List.mem_singleton.1 hu]; rfl) (j + 1) (by rw [HGp.out.l]; rfl) (by omega) (by unfold maxLen; omega) (Nat.le_trans hB10 g8.size) (us ++ [.slice a5 nU q5]) rfl ?_
            intro ai9 ci9 wi9 o9 g9' bl9
            have X9 := X8.ch g9' (fun e => by have := (HGp.out.o.blk e).1; omega)
            obtain ⟨k90, k91, k92, k93, k94⟩ := X9.cells
            have F99 := F88.ch g9' (fun e => by have := (HGp.out.o.blk e).1; omega)
            obtain ⟨m90, m91, m92, m93, m94⟩ := F99.cells
            obtain ⟨f90, f91, f92, f93, f94⟩ := F99.fz
            have l9k := F99.lt
            have d9 := (g9'.cell (o := os + j) (Nat.lt_of_lt_of_le hgr g8.size) (fun e => by have := (HGp.out.o.blk e).1; omega)).trans d8
            refine hK.out _ _ (by exact ⟨k93, d9⟩) (fun _ => ?_)
            change wpAnyH _ _ _ _ _ _ _ (Act.put _ (some 36) _) _
            simp only [Act.put, List.setIfInBounds_toArray, List.set_cons_zero, List.set_cons_succ]
            clear hK K
            refine takeS_on (i := 10) 37 (v := ?v105) rfl rfl (by kernel_rfl) (by kernel_rfl) (by kernel_rfl) (fun _ _ _ h => h) (by kernel_rfl) ?hy105 (by exact ⟨k93, d9⟩) ?_
            case hy105 => (intro w' hSw; go_simp; try (with_reducible rfl))
            simp only [Act.put, List.setIfInBounds_toArray, List.set_cons_zero, List.set_cons_succ]
            refine wpAnyH_ready (rs := [11]) (by kernel_rfl) (by simp) (AllReadyH.cons rfl (fun K hK => ?_) AllReadyH.nil)
            go_simp
            have C11 := (Ch.refl (Only kc) wi9).own 3 (.slice ai9 (j + 1) ci9)
            have k11 := (C11.cell (o := 3) X9.lt (fun e => hxk e)).trans k93
            have d11 := (C11.cell (o := os + j) (Nat.lt_of_lt_of_le (Nat.lt_of_lt_of_le hgr g8.size) g9'.size) (fun e => by have e1 : gs = kc := e; omega)).trans d9
            refine hK.out _ _ (by exact ⟨k11, d11⟩) (fun _ => ?_)
            clear hK K
            refine wpAnyH_done (by kernel_rfl) ?_ _
            go_wp2
            go_roundg (gk - 1)
            case measure => omega
            case rel =>
              refine ⟨j + 1, ai9, ci9, us ++ [.slice a5 nU q5], by omega, by simp, setCell_block F99 3 _, HGp.out.next (c := c) (u := .slice a5 nU q5) (by rw [← HCC.out]; exact hj) hB10 g5 (show Ow 3 wr.heap.size w5 (.slice a5 nU q5) (iv c) from o5) HC.out o9 g9' bl9 C11 hkB, ?_⟩
              exact ((HCr.out.trans g8 (fun q e => e.elim)).trans g9' (fun q e => .inr (HGp.out.o.blk e).1)).trans' C11
          · go_simp
            refine (HCl.out _ ((Ch.refl NoB wr).drew)).mono ?_
            rintro e w5 ⟨v5, rfl, o5, g5'⟩
            obtain ⟨a5, q5, rfl⟩ := o5.form
            rw [← HNU.out] at o5 ⊢
            have g5 : Ch NoB wr w5 := ((Ch.refl NoB wr).drew).trans' g5'
            have s5 := g5.size
            have F5 := HFr.out.ch g5 (noB _)
            have l5k := F5.lt
            have X5 := HBr.out.ch g5 (noB _)
            obtain ⟨k50, k51, k52, k53, k54⟩ := X5.cells
            obtain ⟨m50, m51, m52, m53, m54⟩ := F5.cells
            have l5x := X5.lt
            have d5 := (g5.cell (o := os + j) hgr (noB _)).trans d0
            refine hK.out _ _ (by exact ⟨k53, d5⟩) (fun _ => ?_)
            clear hK K
            refine wpAnyH_ready (rs := [1, 8]) (by kernel_rfl) (by simp) (AllReadyH.cons rfl (fun K hK => ?_) (AllReadyH.cons rfl (fun K hK => ?_) AllReadyH.nil))
            · go_simp
              refine hK.out _ _ (by exact ⟨k53, d5⟩) (fun _ => ?_)
              clear hK K
              refine wpAnyH_ready (rs := [8]) (by kernel_rfl) (by simp) (AllReadyH.cons rfl (fun K hK => ?_) AllReadyH.nil)
              go_simp
              have g8 : Ch NoB wr (w5.alloc (.cells #[.slice a5 nU q5] 41)) := g5.alloc _
              have X8 := HBr.out.ch g8 (noB _)
              obtain ⟨k80, k81, k82, k83, k84⟩ := X8.cells
              have F88 := HFr.out.ch g8 (noB _)
              obtain ⟨m80, m81, m82, m83, m84⟩ := F88.cells
              have l8k := F88.lt
              have l8x := X8.lt
              have d8 := (g8.cell (o := os + j) hgr (noB _)).trans d0
              refine hK.out _ _ (by exact ⟨k83, d8⟩) (fun _ => ?_)
              clear hK K
              refine wpAnyH_ready (rs := [9]) (by kernel_rfl) (by simp) (AllReadyH.cons rfl (fun K hK => ?_) AllReadyH.nil)
              refine step_append_ow rfl (.tmp 28) (.tmp 35) 43 41 24 (.slice none 0 0) Try.underlying43 ints_info rfl rfl W10.heap.size (.slice at_ j ct) us (by simp [Act.eval]) ((HGp.out.o.ch g5 (fun _ _ => noB _)).alloc _) _ _ [.slice a5 nU q5] (by simp [Act.eval]) (ls_val _ _ _ _ rfl) (fun u hu => by rw [List.mem_singleton.1 hu]; rfl) (j + 1) (by rw [HGp.out.l]; rfl) (by omega) (by unfold maxLen; omega) (Nat.le_trans hB10 g8.size) (us ++ [.slice a5 nU q5]) rfl ?_
              intro ai9 ci9 wi9 o9 g9' bl9
              have X9 := X8.ch g9' (fun e => by have := (HGp.out.o.blk e).1; omega)
              obtain ⟨k90, k91, k92, k93, k94⟩ := X9.cells
              have F99 := F88.ch g9' (fun e => by have := (HGp.out.o.blk e).1; omega)
              obtain ⟨m90, m91, m92, m93, m94⟩ := F99.cells
              obtain ⟨f90, f91, f92, f93, f94⟩ := F99.fz
              have l9k := F99.lt
              have d9 := (g9'.cell (o := os + j) (Nat.lt_of_lt_of_le hgr g8.size) (fun e => by have := (HGp.out.o.blk e).1; omega)).trans d8
              refine hK.out _ _ (by exact ⟨k93, d9⟩) (fun _ => ?_)
              change wpAnyH _ _ _ _ _ _ _ (Act.put _ (some 36) _) _
              simp only [Act.put, List.setIfInBounds_toArray, List.set_cons_zero, List.set_cons_succ]
              clear hK K
              refine takeS_on (i := 10) 37 (v := ?v106) rfl rfl (by kernel_rfl) (by kernel_rfl) (by kernel_rfl) (fun _ _ _ h => h) (by kernel_rfl) ?hy106 (by exact ⟨k93, d9⟩) ?_
              case hy106 => (intro w' hSw; go_simp; try (with_reducible rfl))
              simp only [Act.put, List.setIfInBounds_toArray, List.set_cons_zero, List.set_cons_succ]
              refine wpAnyH_ready (rs := [11]) (by kernel_rfl) (by simp) (AllReadyH.cons rfl (fun K hK => ?_) AllReadyH.nil)
              go_simp
              have C11 := (Ch.refl (Only kc) wi9).own 3 (.slice ai9 (j + 1) ci9)
              have k11 := (C11.cell (o := 3) X9.lt (fun e => hxk e)).trans k93
              have d11 := (C11.cell (o := os + j) (Nat.lt_of_lt_of_le (Nat.lt_of_lt_of_le hgr g8.size) g9'.size) (fun e => by have e1 : gs = kc := e; omega)).trans d9
              refine hK.out _ _ (by exact ⟨k11, d11⟩) (fun _ => ?_)
              clear hK K
              refine wpAnyH_done (by kernel_rfl) ?_ _
              go_wp2
              go_roundg (gk - 1)
              case measure => omega
              case rel =>
                refine ⟨j + 1, ai9, ci9, us ++ [.slice a5 nU q5], by omega, by simp, setCell_block F99 3 _, HGp.out.next (c := c) (u := .slice a5 nU q5) (by rw [← HCC.out]; exact hj) hB10 g5 (show Ow 3 wr.heap.size w5 (.slice a5 nU q5) (iv c) from o5) HC.out o9 g9' bl9 C11 hkB, ?_⟩
                exact ((HCr.out.trans g8 (fun q e => e.elim)).trans g9' (fun q e => .inr (HGp.out.o.blk e).1)).trans' C11
            · go_simp
              have g8 : Ch NoB wr (w5.alloc (.cells #[.slice a5 nU q5] 41)) := g5.alloc _
              have X8 := HBr.out.ch g8 (noB _)
              obtain ⟨k80, k81, k82, k83, k84⟩ := X8.cells
              have F88 := HFr.out.ch g8 (noB _)
              obtain ⟨m80, m81, m82, m83, m84⟩ := F88.cells
              have l8k := F88.lt
              have l8x := X8.lt
              have d8 := (g8.cell (o := os + j) hgr (noB _)).trans d0
              refine hK.out _ _ (by exact ⟨k83, d8⟩) (fun _ => ?_)
              clear hK K
              refine wpAnyH_ready (rs := [1]) (by kernel_rfl) (by simp) (AllReadyH.cons rfl (fun K hK => ?_) AllReadyH.nil)
              go_simp
              refine hK.out _ _ (by exact ⟨k83, d8⟩) (fun _ => ?_)
              clear hK K
              refine wpAnyH_ready (rs := [9]) (by kernel_rfl) (by simp) (AllReadyH.cons rfl (fun K hK => ?_) AllReadyH.nil)
              refine step_append_ow rfl (.tmp 28) (.tmp 35) 43 41 24 (.slice none 0 0) Try.underlying43 ints_info rfl rfl W10.heap.size (.slice at_ j ct) us (by simp [Act.eval]) ((HGp.out.o.ch g5 (fun _ _ => noB _)).alloc _) _ _ [.slice a5 nU q5] (by simp [Act.eval]) (ls_val _ _ _ _ rfl) (fun u hu => by rw [List.mem_singleton.1 hu]; rfl) (j + 1) (by rw [HGp.out.l]; rfl) (by omega) (by unfold maxLen; omega) (Nat.le_trans hB10 g8.size) (us ++ [.slice a5 nU q5]) rfl ?_
              intro ai9 ci9 wi9 o9 g9' bl9
              have X9 := X8.ch g9' (fun e => by have := (HGp.out.o.blk e).1; omega)
              obtain ⟨k90, k91, k92, k93, k94⟩ := X9.cells
              have F99 := F88.ch g9' (fun e => by have := (HGp.out.o.blk e).1; omega)
              obtain ⟨m90, m91, m92, m93, m94⟩ := F99.cells
              obtain ⟨f90, f91, f92, f93, f94⟩ := F99.fz
              have l9k := F99.lt
              have d9 := (g9'.cell (o := os + j) (Nat.lt_of_lt_of_le hgr g8.size) (fun e => by have := (HGp.out.o.blk e).1; omega)).trans d8
              refine hK.out _ _ (by exact ⟨k93, d9⟩) (fun _ => ?_)
              change wpAnyH _ _ _ _ _ _ _ (Act.put _ (some 36) _) _
              simp only [Act.put, List.setIfInBounds_toArray, List.set_cons_zero, List.set_cons_succ]
              clear hK K
              refine takeS_on (i := 10) 37 (v := ?v107) rfl rfl (by kernel_rfl) (by kernel_rfl) (by kernel_rfl) (fun _ _ _ h => h) (by kernel_rfl) ?hy107 (by exact ⟨k93, d9⟩) ?_
              case hy107 => (intro w' hSw; go_simp; try (with_reducible rfl))
              simp only [Act.put, List.setIfInBounds_toArray, List.set_cons_zero, List.set_cons_succ]
              refine wpAnyH_ready (rs := [11]) (by kernel_rfl) (by simp) (AllReadyH.cons rfl (fun K hK => ?_) AllReadyH.nil)
              go_simp
              have C11 := (Ch.refl (Only kc) wi9).own 3 (.slice ai9 (j + 1) ci9)
              have k11 := (C11.cell (o := 3) X9.lt (fun e => hxk e)).trans k93
              have d11 := (C11.cell (o := os + j) (Nat.lt_of_lt_of_le (Nat.lt_of_lt_of_le hgr g8.size) g9'.size) (fun e => by have e1 : gs = kc := e; omega)).trans d9
              refine hK.out _ _ (by exact ⟨k11, d11⟩) (fun _ => ?_)
              clear hK K
              refine wpAnyH_done (by kernel_rfl) ?_ _
              go_wp2
              go_roundg (gk - 1)
              case measure => omega
              case rel =>
                refine ⟨j + 1, ai9, ci9, us ++ [.slice a5 nU q5], by omega, by simp, setCell_block F99 3 _, HGp.out.next (c := c) (u := .slice a5 nU q5) (by rw [← HCC.out]; exact hj) hB10 g5 (show Ow 3 wr.heap.size w5 (.slice a5 nU q5) (iv c) from o5) HC.out o9 g9' bl9 C11 hkB, ?_⟩
                exact ((HCr.out.trans g8 (fun q e => e.elim)).trans g9' (fun q e => .inr (HGp.out.o.blk e).1)).trans' C11
        · have e : j = nC := by omega
          subst e
          have hrv := HRV10.out.ch hcr hrk
          obtain ⟨z0, z1, z2, z3, z4⟩ := hrv.cells
          obtain ⟨zf0, zf1, zf2, zf3, zf4⟩ := hrv.fz
          have zl := hrv.lt
          clear hfr hgp hcr hrv
          go_wp2
          have C5 := (((((Ch.refl (Only (w.heap.size + 1)) wr).own 0 (.int .i64 L)).own 1 (.slice a4 nG q4)).own 2 (.slice ao9 nA cap9)).own 3 (.slice at_ j ct)).own 4 (.slice a7 nF q7)
          refine bodyPost_ret (v := .agg #[.int .i64 L, .slice a4 nG q4, .slice ao9 nA cap9, .slice at_ j ct, .slice a7 nF q7]) (by simp [results, Try.results17, go_sem, z0, z1, z2, z3, z4]) rfl ⟨_, _, _, _, us, rfl, ?_, ?_⟩
          · have tr : ∀ (e base : Nat) (v : Value) (zs : List Value) (wa : World), Ow e base wa v zs → Ch NoB wa w9 → (∀ q, Blk v q → w.heap.size + 2 ≤ q ∧ q ≠ kc) → Ow e base (((((wr.setCell ⟨w.heap.size + 1, 0, none⟩ (.int .i64 L)).setCell ⟨w.heap.size + 1, 1, none⟩ (.slice a4 nG q4)).setCell ⟨w.heap.size + 1, 2, none⟩ (.slice ao9 nA cap9)).setCell ⟨w.heap.size + 1, 3, none⟩ (.slice at_ j ct)).setCell ⟨w.heap.size + 1, 4, none⟩ (.slice a7 nF q7)) v zs := fun e base v zs wa ho hw hq => (((ho.ch hw (fun _ _ => noB _)).ch HC10.out (fun q a e => (hq q a).2 e)).ch HCr.out (fun q a e => (hq q a).2 e)).ch C5 (fun q a e => by have := (hq q a).1; have e1 : q = w.heap.size + 1 := e; omega)
            have qg : ∀ q, Blk (.slice a4 nG q4) q → w.heap.size + 2 ≤ q ∧ q < W8.heap.size := fun q a => HO8.out.blk a
            have qf : ∀ q, Blk (.slice a7 nF q7) q → w.heap.size + 2 ≤ q ∧ q < W8.heap.size := fun q a => HP8.out.blk a
            have qa : ∀ q, Blk (.slice ao9 nA cap9) q → W8.heap.size ≤ q ∧ q < w9.heap.size := fun q a => HO9.out.blk a
            have qc : ∀ q, Blk (.slice at_ j ct) q → W10.heap.size ≤ q := fun q a => (HGp.out.o.blk a).1
            have qe : ∀ (i : Nat) u, us[i]? = some u → ∀ q, Blk u q → W10.heap.size ≤ q := fun i u hu q a => by
              have hi : i < us.length := (List.getElem?_eq_some_iff.1 hu).1
              exact ((HGp.out.e i u _ hu (List.getElem?_eq_getElem (by rw [← HCC.out, ← HGp.out.l]; exact hi))).blk a).1
            exact {
              g := (tr _ _ _ _ _ HO8.out HG9.out (fun q a => ⟨(qg q a).1, HNA8.out q a⟩)).lower (by omega)
              a := (tr _ _ _ _ _ HO9.out (Ch.refl _ _) (fun q a => ⟨by have := qa q a; omega, by have := qa q a; omega⟩)).lower (by omega)
              c := (HGp.out.o.ch C5 (fun q a e => by have := qc q a; have e1 : q = w.heap.size + 1 := e; omega)).lower (by omega)
              f := (tr _ _ _ _ _ HP8.out HG9.out (fun q a => ⟨(qf q a).1, HNB8.out q a⟩)).lower (by omega)
              cl := by rw [HGp.out.l]; exact HCC.out
              e := fun i u c hu hc => ((HGp.out.e i u c hu hc).ch C5 (fun q a e => by have := qe i u hu q a; have e1 : q = w.heap.size + 1 := e; omega)).lower (by omega)
              ga := fun q a b => by have := qg q a; have := qa q b; omega
              gc := fun q a b => by have := qg q a; have := qc q b; omega
              gf := HD8.out
              ac := fun q a b => by have := qa q a; have := qc q b; omega
              af := fun q a b => by have := qa q a; have := qf q b; omega
              cf := fun q a b => by have := qc q a; have := qf q b; omega
              eg := fun i u hu q a b => by have := qe i u hu q a; have := qg q b; omega
              ea := fun i u hu q a b => by have := qe i u hu q a; have := qa q b; omega
              ec := HGp.out.d
              ef := fun i u hu q a b => by have := qe i u hu q a; have := qf q b; omega
              ee := fun i i' u u' hn hu hu' => HGp.out.dd i i' u u' hn hu hu' }
          · exact ((((HG0.out.trans' HG8.out).trans' HG9.out).trans HC10.out (fun q e => .inr (by have e1 : q = kc := e; omega))).trans HCr.out (fun q e => .inr (by have e1 : q = kc := e; omega))).trans C5 (fun q e => .inr (by have e1 : q = w.heap.size + 1 := e; omega))
    · go_simp
      have F9 := HF0.out.ch (G4.alloc (.cells #[.int .i64 0, .slice none 0 0, .slice none 0 0, .slice none 0 0, .slice none 0 0] 45)) (noB _)
      obtain ⟨x90, x91, x92, x93, x94⟩ := F9.cells
      have Z9 := Fv.new 45 w4 (.int .i64 0) (.slice none 0 0) (.slice none 0 0) (.slice none 0 0) (.slice none 0 0)
      have hk9 : W0.heap.size ≤ w4.heap.size := G4.size
      refine hK.out _ _ (by exact ⟨x90, x91, x94⟩) (fun _ => ?_)
      clear hK K
      refine wpAnyH_ready (rs := [7]) (by kernel_rfl) (by simp) (AllReadyH.cons rfl (fun K hK => ?_) AllReadyH.nil)
      go_simp
      refine (HI2.out _ ((G4.alloc _))).mono ?_
      rintro e w7 ⟨v7, rfl, o7, g7⟩
      obtain ⟨a7, q7, rfl⟩ := o7.form
      rw [← HnF.out] at o7 ⊢
      have G7 : Ch NoB W0 w7 := ((G4.alloc _)).trans' g7
      have F7 := HF0.out.ch G7 (noB _)
      obtain ⟨x70, x71, x72, x73, x74⟩ := F7.cells
      have O4 := Ow.ch (w := w4.alloc (.cells #[.int .i64 0, .slice none 0 0, .slice none 0 0, .slice none 0 0, .slice none 0 0] 45)) (o4.alloc _) g7 (fun _ _ => noB _)
      have Z7 := Fv.ch (w := w4.alloc (.cells #[.int .i64 0, .slice none 0 0, .slice none 0 0, .slice none 0 0, .slice none 0 0] 45)) Z9 g7 (noB _)
      have hs7' : w4.heap.size + 1 ≤ w7.heap.size := by simpa using g7.size
      refine hK.out _ _ (by exact ⟨x70, x71, x74⟩) (fun _ => ?_)
      clear hK K
      refine takeS_on (i := 8) 13 (v := ?v108) rfl rfl (by kernel_rfl) (by kernel_rfl) (by kernel_rfl) (fun _ _ _ h => h) (by kernel_rfl) ?hy108 (by exact ⟨x70, x71, x74⟩) ?_
      case hy108 => (intro w' hSw; go_simp; try (with_reducible rfl))
      simp only [Act.put, List.setIfInBounds_toArray, List.set_cons_zero, List.set_cons_succ]
      refine wpAnyH_ready (rs := [10]) (by kernel_rfl) (by simp) (AllReadyH.cons rfl (fun K hK => ?_) AllReadyH.nil)
      obtain ⟨s0, s1, s2, s3, s4⟩ := Z7.cells
      obtain ⟨sf0, sf1, sf2, sf3, sf4⟩ := Z7.fz
      have sl := Z7.lt
      go_simp
      have HA := hid (show ∀ q, Blk (.slice a4 nG q4) q → W0.heap.size ≤ q ∧ q < w4.heap.size ∧ q ≠ w4.heap.size from fun q e => by have := o4.blk e; have h1 : W0.heap.size ≤ q := this.1; omega)
      have hs4b : W0.heap.size ≤ w4.heap.size := by omega
      have HBq := hid (show ∀ q, Blk (.slice a7 nF q7) q → w4.heap.size ≤ q ∧ q < w7.heap.size ∧ q ≠ w4.heap.size from fun q e => by have := o7.blk e; have h1 : w4.heap.size + 1 ≤ q := (by simpa using this.1); omega)
      have C8 := (((((Ch.refl (Only w4.heap.size) w7).own 0 (.int .i64 L)).own 1 (.slice a4 nG q4)).own 2 (.slice none 0 0)).own 3 (.slice none 0 0)).own 4 (.slice a7 nF q7)
      have F8 : Fv 45 (((((w7.setCell ⟨w4.heap.size, 0, none⟩ (.int .i64 L)).setCell ⟨w4.heap.size, 1, none⟩ (.slice a4 nG q4)).setCell ⟨w4.heap.size, 2, none⟩ (.slice none 0 0)).setCell ⟨w4.heap.size, 3, none⟩ (.slice none 0 0)).setCell ⟨w4.heap.size, 4, none⟩ (.slice a7 nF q7)) w4.heap.size (.int .i64 L) (.slice a4 nG q4) (.slice none 0 0) (.slice none 0 0) (.slice a7 nF q7) := setCell_block (setCell_block (setCell_block (setCell_block (setCell_block Z7 0 (.int .i64 L)) 1 (.slice a4 nG q4)) 2 (.slice none 0 0)) 3 (.slice none 0 0)) 4 (.slice a7 nF q7)
      have O8 := (O4.ch C8 (fun q a e => by have e1 : q = w4.heap.size := e; exact (HA.out q a).2.2 e1)).lower (base' := w.heap.size + 2) (Nat.le_trans hl0 (Nat.le_refl _))
      have P8 := (o7.ch C8 (fun q a e => by have e1 : q = w4.heap.size := e; exact (HBq.out q a).2.2 e1)).lower (base' := w.heap.size + 2) (Nat.le_trans hl0 (Nat.le_trans hs4b (by simp)))
      have D8 : Dj (.slice a4 nG q4) (.slice a7 nF q7) := fun q a b => by have := (HA.out q a).2.1; have := (HBq.out q b).1; omega
      have G8 : Ch NoB W0 _ := G7.trans C8 (fun q e => .inr (by have e1 : q = w4.heap.size := e; omega))
      have hne8 : ¬ (w4.heap.size = w.heap.size) := by omega
      have B8 := HF0.out.ch G8 (noB _)
      obtain ⟨kc, hkc⟩ : ∃ kc, kc = w4.heap.size := ⟨_, rfl⟩
      have hkl : W0.heap.size ≤ kc := by omega
      have hna8 : ∀ q, Blk (.slice a4 nG q4) q → q ≠ kc := fun q a => by rw [hkc]; exact (HA.out q a).2.2
      have hnb8 : ∀ q, Blk (.slice a7 nF q7) q → q ≠ kc := fun q a => by rw [hkc]; exact (HBq.out q a).2.2
      rw [← hkc] at C8 F8 O8 P8 G8 B8 ⊢
      generalize hW8 : World.setCell _ ⟨kc, 4, none⟩ _ = W8 at C8 F8 O8 P8 G8 B8 ⊢
      obtain ⟨x80, x81, x82, x83, x84⟩ := B8.cells
      clear hkc hW8
      refine hK.out _ _ (by exact ⟨x80, x81, x84⟩) (fun _ => ?_)
      clear hK K
      refine wpAnyH_done (by kernel_rfl) ?_ _
      have HF8 := hid F8
      have HO8 := hid O8
      have HP8 := hid P8
      have HD8 := hid D8
      have HG8 := hid G8
      have HB8 := hid B8
      have HR8 := hid (HR.out.ch G8 (fun _ _ _ => noB _))
      have HRV := hid (HR0.out.ch G8 (noB _))
      have HNA8 := hid hna8
      have HNB8 := hid hnb8
      have hlW : W0.heap.size ≤ W8.heap.size := G8.size
      have hkl2 := hkl
      have hnAl : nA ≤ 4294967296 := by rw [HnA.out, bv_length]; exact HT.out.a
      have hxk : ¬ (w.heap.size = kc) := by omega
      have hxk2 : ¬ (kc = w.heap.size) := by omega
      have hrk : ¬ (w.heap.size + 1 = kc) := by omega
      have hrk2 : ¬ (kc = w.heap.size + 1) := by omega
      obtain ⟨c0, c1, c2, c3, c4⟩ := F8.cells
      obtain ⟨y0, y1, y2, y3, y4⟩ := F8.fz
      have kl8 := F8.lt
      clear F8 O8 P8 D8 G8 x80 x81 x83 x84 hna8 hnb8 B8 hkl
      have x82 := HB8.out.cells.2.2.1
      have xl8 := HB8.out.lt
      go_wp2_with (first | (at_builtin; refine wpList_append_ow rfl (.tmp 15) (.tmp 17) 42 4 1 (.bool false) Try.underlying42 bool_info rfl rfl W8.heap.size _ [] rfl (Ow.nil _ _ _) _ _ (bv x.A) rfl HR8.out.a (bv_one _) nA (by simp [HnA.out]) (by omega) (by unfold maxLen; omega) (Nat.le_refl _) (bv x.A) rfl ?_; intro ao9 cap9 w9 o9 g9' bl9; have g9 : Ch NoB W8 w9 := g9'.mono (fun q e => by cases e); have F9 := HF8.out.ch g9 (noB _); clear c0 c1 c2 c3 c4 y0 y1 y2 y3 y4; obtain ⟨c0, c1, c2, c3, c4⟩ := F9.cells; obtain ⟨y0, y1, y2, y3, y4⟩ := F9.fz; have kl9 := F9.lt; have HF9 := hid F9; have HO9 := hid o9; have HG9 := hid g9; clear F9 o9 g9 g9' bl9))
      obtain ⟨W10, hW10⟩ : ∃ W, W = w9.setCell ⟨kc, 2, none⟩ (.slice ao9 nA cap9) := ⟨_, rfl⟩
      have C10 : Ch (Only kc) w9 W10 := by rw [hW10]; exact (Ch.refl _ _).own _ _
      have F10 : Fv 45 W10 kc (.int .i64 L) (.slice a4 nG q4) (.slice ao9 nA cap9) (.slice none 0 0) (.slice a7 nF q7) := by rw [hW10]; exact setCell_block HF9.out 2 _
      have HF10 := hid F10
      have HC10 := hid C10
      have HX10 := hid ((HB8.out.ch HG9.out (noB _)).ch C10 hxk)
      have HR10 := hid ((HR8.out.ch HG9.out (fun _ _ _ => noB _)).ch C10 (fun q _ a e => by have e1 : q = kc := e; have a1 : q < w.heap.size := a; omega))
      have HRV10 := hid ((HRV.out.ch HG9.out (noB _)).ch C10 hrk)
      have hs9 := HG9.out.size
      have hs10 := C10.size
      have hkB : kc < W10.heap.size := F10.lt
      rw [← hW10]
      clear hW10 F10 C10 c0 c1 c2 c3 c4 y0 y1 y2 y3 y4
      have hnC4 : nC ≤ 4294967296 := by rw [HnC.out, HR.out.e.1]; exact HT.out.c
      have HCC := hid (show nC = x.C.length by rw [HnC.out, HR.out.e.1])
      go_loopg [4] nC (fun m i wv => ∃ (j : Nat) (at_ : Option Addr) (ct : Nat) (us : List Value), j + m = nC ∧ i = .int .i64 ((j : Nat) : Int) ∧ Fv 45 wv kc (.int .i64 L) (.slice a4 nG q4) (.slice ao9 nA cap9) (.slice at_ j ct) (.slice a7 nF q7) ∧ Gp W10.heap.size wv (.slice at_ j ct) us x.C j ∧ Ch (Only kc) W10 wv)
      case atStart => exact ⟨0, none, 0, [], by omega, rfl, HF10.out, ⟨rfl, Ow.nil _ _ _, fun i u c hu => by simp at hu, fun i u hu => by simp at hu, fun i i' u u' _ hu => by simp at hu⟩, Ch.refl _ _⟩
      case round =>
        obtain ⟨j, at_, ct, us, hjm, rfl, hfr, hgp, hcr⟩ := hrel
        have HFr := hid hfr
        have HGp := hid hgp
        have HCr := hid hcr
        have hB10 : W10.heap.size ≤ wr.heap.size := hcr.size
        have HBr := hid (HX10.out.ch hcr hxk)
        obtain ⟨k0, k1, k2, k3, k4⟩ := HBr.out.cells
        have lx := HBr.out.lt
        obtain ⟨m0, m1, m2, m3, m4⟩ := hfr.cells
        have lk := hfr.lt
        by_cases hj : j < nC
        · have hjc : j < cv.length := by rw [← HnC.out]; exact hj
          have hjC : j < x.C.length := by rw [← HCC.out]; exact hj
          obtain ⟨u, hu⟩ : ∃ u, cv[j]? = some u := ⟨_, List.getElem?_eq_getElem hjc⟩
          obtain ⟨c, hc⟩ : ∃ c, x.C[j]? = some c := ⟨_, List.getElem?_eq_getElem hjC⟩
          have hR := HR10.out.ch hcr (fun q _ a e => by have e1 : q = kc := e; have a1 : q < w.heap.size := a; omega)
          have hl := hR.e.2 j u c hu hc
          obtain ⟨ua, uc, rfl⟩ := hl.form
          obtain ⟨nU, hnU⟩ : ∃ n, n = (iv c).length := ⟨_, rfl⟩
          rw [← hnU] at hl hu
          obtain ⟨gs, os, cc', e', hgs, hgr, hcap, d0⟩ := hR.c.get hu
          rw [← HnC.out] at e'
          injection e' with e1 e2 e3
          subst e1 e3
          have HCl := hid (fun (W : World) (k : Ch NoB wr W) => ints_any _ _ c W (hl.ch k (fun _ _ _ => noB _)) (HT.out.e j c hc))
          have HNU := hid hnU
          have HC := hid hc
          have j0 : (0 : Int) ≤ (j : Int) := by omega
          have j1 : (j : Int) < (nC : Int) := by omega
          have gsl : gs < w.heap.size := hgs
          clear hfr hgp hcr hR hl hu hc hnU
          go_wp2_with fail
          refine wp_region_held_drew (S := fun w' => w'.cell? ⟨w.heap.size, 3, none⟩ = some (.slice (some ⟨gs, os, none⟩) nC cc) ∧ w'.cell? ⟨gs, os + j, none⟩ = some (.slice ua nU uc)) (by kernel_rfl) (by exact ⟨k3, d0⟩) (fun _ => ?_)
          refine takeS_on (i := 0) 27 (v := ?v109) rfl rfl (by kernel_rfl) (by kernel_rfl) (by kernel_rfl) (fun _ _ _ h => h) (by kernel_rfl) ?hy109 (by exact ⟨k3, d0⟩) ?_
          case hy109 => (intro w' hSw; go_simp; try (with_reducible rfl))
          simp only [Act.put, List.setIfInBounds_toArray, List.set_cons_zero, List.set_cons_succ]
          refine takeS_on (i := 2) 29 (v := ?v110) rfl rfl (by kernel_rfl) (by kernel_rfl) (by kernel_rfl) (fun _ _ _ h => h) (by kernel_rfl) ?hy110 (by exact ⟨k3, d0⟩) ?_
          case hy110 => (intro w' hSw; go_simp; try (with_reducible rfl))
          simp only [Act.put, List.setIfInBounds_toArray, List.set_cons_zero, List.set_cons_succ]
          refine takeS_on (i := 3) 30 (v := ?v111) rfl rfl (by kernel_rfl) (by kernel_rfl) (by kernel_rfl) (fun _ _ _ h => h) (by kernel_rfl) ?hy111 (by exact ⟨k3, d0⟩) ?_
          case hy111 => (intro w' hSw; go_simp; try (with_reducible rfl))
          simp only [Act.put, List.setIfInBounds_toArray, List.set_cons_zero, List.set_cons_succ]
          refine takeS_on (i := 4) 31 (v := ?v112) rfl rfl (by kernel_rfl) (by kernel_rfl) (by kernel_rfl) (fun _ _ _ h => h) (by kernel_rfl) ?hy112 (by exact ⟨k3, d0⟩) ?_
          case hy112 => (intro w' hSw; go_simp; try (with_reducible rfl))
          simp only [Act.put, List.setIfInBounds_toArray, List.set_cons_zero, List.set_cons_succ]
          refine takeS_on (i := 5) 32 (v := ?v113) rfl rfl (by kernel_rfl) (by kernel_rfl) (by kernel_rfl) (fun _ _ _ h => h) (by kernel_rfl) ?hy113 (by exact ⟨k3, d0⟩) ?_
          case hy113 => (intro w' hSw; go_simp; try (with_reducible rfl))
          simp only [Act.put, List.setIfInBounds_toArray, List.set_cons_zero, List.set_cons_succ]
          refine takeS_on (i := 6) 33 (v := ?v114) rfl rfl (by kernel_rfl) (by kernel_rfl) (by kernel_rfl) (fun _ _ _ h => h) (by kernel_rfl) ?hy114 (by exact ⟨k3, d0⟩) ?_
          case hy114 => (intro w' hSw; go_simp; try (with_reducible rfl))
          simp only [Act.put, List.setIfInBounds_toArray, List.set_cons_zero, List.set_cons_succ]
          refine wpAnyH_ready (rs := [1, 7]) (by kernel_rfl) (by simp) (AllReadyH.cons rfl (fun K hK => ?_) (AllReadyH.cons rfl (fun K hK => ?_) AllReadyH.nil))
          · go_simp
            refine hK.out _ _ (by exact ⟨k3, d0⟩) (fun _ => ?_)
            clear hK K
            refine wpAnyH_ready (rs := [7]) (by kernel_rfl) (by simp) (AllReadyH.cons rfl (fun K hK => ?_) AllReadyH.nil)
            go_simp
            refine (HCl.out _ ((Ch.refl NoB wr).drew)).mono ?_
            rintro e w5 ⟨v5, rfl, o5, g5'⟩
            obtain ⟨a5, q5, rfl⟩ := o5.form
            rw [← HNU.out] at o5 ⊢
            have g5 : Ch NoB wr w5 := ((Ch.refl NoB wr).drew).trans' g5'
            have s5 := g5.size
            have F5 := HFr.out.ch g5 (noB _)
            have l5k := F5.lt
            have X5 := HBr.out.ch g5 (noB _)
            obtain ⟨k50, k51, k52, k53, k54⟩ := X5.cells
            obtain ⟨m50, m51, m52, m53, m54⟩ := F5.cells
            have l5x := X5.lt
            have d5 := (g5.cell (o := os + j) hgr (noB _)).trans d0
            refine hK.out _ _ (by exact ⟨k53, d5⟩) (fun _ => ?_)
            clear hK K
            refine wpAnyH_ready (rs := [8]) (by kernel_rfl) (by simp) (AllReadyH.cons rfl (fun K hK => ?_) AllReadyH.nil)
            go_simp
            have g8 : Ch NoB wr (w5.alloc (.cells #[.slice a5 nU q5] 41)) := g5.alloc _
            have X8 := HBr.out.ch g8 (noB _)
            obtain ⟨k80, k81, k82, k83, k84⟩ := X8.cells
            have F88 := HFr.out.ch g8 (noB _)
            obtain ⟨m80, m81, m82, m83, m84⟩ := F88.cells
            have l8k := F88.lt
            have l8x := X8.lt
            have d8 := (g8.cell (o := os + j) hgr (noB _)).trans d0
            refine hK.out _ _ (by exact ⟨k83, d8⟩) (fun _ => ?_)
            clear hK K
            refine wpAnyH_ready (rs := [9]) (by kernel_rfl) (by simp) (AllReadyH.cons rfl (fun K hK => ?_) AllReadyH.nil)
            refine step_append_ow rfl (.tmp 28) (.tmp 35) 43 41 24 (.slice none 0 0) Try.underlying43 ints_info rfl rfl W10.heap.size (.slice at_ j ct) us (by simp [Act.eval]) ((HGp.out.o.ch g5 (fun _ _ => noB _)).alloc _) _ _ [.slice a5 nU q5] (by simp [Act.eval]) (ls_val _ _ _ _ rfl) (fun u hu => by rw [List.mem_singleton.1 hu]; rfl) (j + 1) (by rw [HGp.out.l]; rfl) (by omega) (by unfold maxLen; omega) (Nat.le_trans hB10 g8.size) (us ++ [.slice a5 nU q5]) rfl ?_
            intro ai9 ci9 wi9 o9 g9' bl9
            have X9 := X8.ch g9' (fun e => by have := (HGp.out.o.blk e).1; omega)
            obtain ⟨k90, k91, k92, k93, k94⟩ := X9.cells
            have F99 := F88.ch g9' (fun e => by have := (HGp.out.o.blk e).1; omega)
            obtain ⟨m90, m91, m92, m93, m94⟩ := F99.cells
            obtain ⟨f90, f91, f92, f93, f94⟩ := F99.fz
            have l9k := F99.lt
            have d9 := (g9'.cell (o := os + j) (Nat.lt_of_lt_of_le hgr g8.size) (fun e => by have := (HGp.out.o.blk e).1; omega)).trans d8
            refine hK.out _ _ (by exact ⟨k93, d9⟩) (fun _ => ?_)
            change wpAnyH _ _ _ _ _ _ _ (Act.put _ (some 36) _) _
            simp only [Act.put, List.setIfInBounds_toArray, List.set_cons_zero, List.set_cons_succ]
            clear hK K
            refine takeS_on (i := 10) 37 (v := ?v115) rfl rfl (by kernel_rfl) (by kernel_rfl) (by kernel_rfl) (fun _ _ _ h => h) (by kernel_rfl) ?hy115 (by exact ⟨k93, d9⟩) ?_
            case hy115 => (intro w' hSw; go_simp; try (with_reducible rfl))
            simp only [Act.put, List.setIfInBounds_toArray, List.set_cons_zero, List.set_cons_succ]
            refine wpAnyH_ready (rs := [11]) (by kernel_rfl) (by simp) (AllReadyH.cons rfl (fun K hK => ?_) AllReadyH.nil)
            go_simp
            have C11 := (Ch.refl (Only kc) wi9).own 3 (.slice ai9 (j + 1) ci9)
            have k11 := (C11.cell (o := 3) X9.lt (fun e => hxk e)).trans k93
            have d11 := (C11.cell (o := os + j) (Nat.lt_of_lt_of_le (Nat.lt_of_lt_of_le hgr g8.size) g9'.size) (fun e => by have e1 : gs = kc := e; omega)).trans d9
            refine hK.out _ _ (by exact ⟨k11, d11⟩) (fun _ => ?_)
            clear hK K
            refine wpAnyH_done (by kernel_rfl) ?_ _
            go_wp2
            go_roundg (gk - 1)
            case measure => omega
            case rel =>
              refine ⟨j + 1, ai9, ci9, us ++ [.slice a5 nU q5], by omega, by simp, setCell_block F99 3 _, HGp.out.next (c := c) (u := .slice a5 nU q5) (by rw [← HCC.out]; exact hj) hB10 g5 (show Ow 3 wr.heap.size w5 (.slice a5 nU q5) (iv c) from o5) HC.out o9 g9' bl9 C11 hkB, ?_⟩
              exact ((HCr.out.trans g8 (fun q e => e.elim)).trans g9' (fun q e => .inr (HGp.out.o.blk e).1)).trans' C11
          · go_simp
            refine (HCl.out _ ((Ch.refl NoB wr).drew)).mono ?_
            rintro e w5 ⟨v5, rfl, o5, g5'⟩
            obtain ⟨a5, q5, rfl⟩ := o5.form
            rw [← HNU.out] at o5 ⊢
            have g5 : Ch NoB wr w5 := ((Ch.refl NoB wr).drew).trans' g5'
            have s5 := g5.size
            have F5 := HFr.out.ch g5 (noB _)
            have l5k := F5.lt
            have X5 := HBr.out.ch g5 (noB _)
            obtain ⟨k50, k51, k52, k53, k54⟩ := X5.cells
            obtain ⟨m50, m51, m52, m53, m54⟩ := F5.cells
            have l5x := X5.lt
            have d5 := (g5.cell (o := os + j) hgr (noB _)).trans d0
            refine hK.out _ _ (by exact ⟨k53, d5⟩) (fun _ => ?_)
            clear hK K
            refine wpAnyH_ready (rs := [1, 8]) (by kernel_rfl) (by simp) (AllReadyH.cons rfl (fun K hK => ?_) (AllReadyH.cons rfl (fun K hK => ?_) AllReadyH.nil))
            · go_simp
              refine hK.out _ _ (by exact ⟨k53, d5⟩) (fun _ => ?_)
              clear hK K
              refine wpAnyH_ready (rs := [8]) (by kernel_rfl) (by simp) (AllReadyH.cons rfl (fun K hK => ?_) AllReadyH.nil)
              go_simp
              have g8 : Ch NoB wr (w5.alloc (.cells #[.slice a5 nU q5] 41)) := g5.alloc _
              have X8 := HBr.out.ch g8 (noB _)
              obtain ⟨k80, k81, k82, k83, k84⟩ := X8.cells
              have F88 := HFr.out.ch g8 (noB _)
              obtain ⟨m80, m81, m82, m83, m84⟩ := F88.cells
              have l8k := F88.lt
              have l8x := X8.lt
              have d8 := (g8.cell (o := os + j) hgr (noB _)).trans d0
              refine hK.out _ _ (by exact ⟨k83, d8⟩) (fun _ => ?_)
              clear hK K
              refine wpAnyH_ready (rs := [9]) (by kernel_rfl) (by simp) (AllReadyH.cons rfl (fun K hK => ?_) AllReadyH.nil)
              refine step_append_ow rfl (.tmp 28) (.tmp 35) 43 41 24 (.slice none 0 0) Try.underlying43 ints_info rfl rfl W10.heap.size (.slice at_ j ct) us (by simp [Act.eval]) ((HGp.out.o.ch g5 (fun _ _ => noB _)).alloc _) _ _ [.slice a5 nU q5] (by simp [Act.eval]) (ls_val _ _ _ _ rfl) (fun u hu => by rw [List.mem_singleton.1 hu]; rfl) (j + 1) (by rw [HGp.out.l]; rfl) (by omega) (by unfold maxLen; omega) (Nat.le_trans hB10 g8.size) (us ++ [.slice a5 nU q5]) rfl ?_
              intro ai9 ci9 wi9 o9 g9' bl9
              have X9 := X8.ch g9' (fun e => by have := (HGp.out.o.blk e).1; omega)
              obtain ⟨k90, k91, k92, k93, k94⟩ := X9.cells
              have F99 := F88.ch g9' (fun e => by have := (HGp.out.o.blk e).1; omega)
              obtain ⟨m90, m91, m92, m93, m94⟩ := F99.cells
              obtain ⟨f90, f91, f92, f93, f94⟩ := F99.fz
              have l9k := F99.lt
              have d9 := (g9'.cell (o := os + j) (Nat.lt_of_lt_of_le hgr g8.size) (fun e => by have := (HGp.out.o.blk e).1; omega)).trans d8
              refine hK.out _ _ (by exact ⟨k93, d9⟩) (fun _ => ?_)
              change wpAnyH _ _ _ _ _ _ _ (Act.put _ (some 36) _) _
              simp only [Act.put, List.setIfInBounds_toArray, List.set_cons_zero, List.set_cons_succ]
              clear hK K
              refine takeS_on (i := 10) 37 (v := ?v116) rfl rfl (by kernel_rfl) (by kernel_rfl) (by kernel_rfl) (fun _ _ _ h => h) (by kernel_rfl) ?hy116 (by exact ⟨k93, d9⟩) ?_
              case hy116 => (intro w' hSw; go_simp; try (with_reducible rfl))
              simp only [Act.put, List.setIfInBounds_toArray, List.set_cons_zero, List.set_cons_succ]
              refine wpAnyH_ready (rs := [11]) (by kernel_rfl) (by simp) (AllReadyH.cons rfl (fun K hK => ?_) AllReadyH.nil)
              go_simp
              have C11 := (Ch.refl (Only kc) wi9).own 3 (.slice ai9 (j + 1) ci9)
              have k11 := (C11.cell (o := 3) X9.lt (fun e => hxk e)).trans k93
              have d11 := (C11.cell (o := os + j) (Nat.lt_of_lt_of_le (Nat.lt_of_lt_of_le hgr g8.size) g9'.size) (fun e => by have e1 : gs = kc := e; omega)).trans d9
              refine hK.out _ _ (by exact ⟨k11, d11⟩) (fun _ => ?_)
              clear hK K
              refine wpAnyH_done (by kernel_rfl) ?_ _
              go_wp2
              go_roundg (gk - 1)
              case measure => omega
              case rel =>
                refine ⟨j + 1, ai9, ci9, us ++ [.slice a5 nU q5], by omega, by simp, setCell_block F99 3 _, HGp.out.next (c := c) (u := .slice a5 nU q5) (by rw [← HCC.out]; exact hj) hB10 g5 (show Ow 3 wr.heap.size w5 (.slice a5 nU q5) (iv c) from o5) HC.out o9 g9' bl9 C11 hkB, ?_⟩
                exact ((HCr.out.trans g8 (fun q e => e.elim)).trans g9' (fun q e => .inr (HGp.out.o.blk e).1)).trans' C11
            · go_simp
              have g8 : Ch NoB wr (w5.alloc (.cells #[.slice a5 nU q5] 41)) := g5.alloc _
              have X8 := HBr.out.ch g8 (noB _)
              obtain ⟨k80, k81, k82, k83, k84⟩ := X8.cells
              have F88 := HFr.out.ch g8 (noB _)
              obtain ⟨m80, m81, m82, m83, m84⟩ := F88.cells
              have l8k := F88.lt
              have l8x := X8.lt
              have d8 := (g8.cell (o := os + j) hgr (noB _)).trans d0
              refine hK.out _ _ (by exact ⟨k83, d8⟩) (fun _ => ?_)
              clear hK K
              refine wpAnyH_ready (rs := [1]) (by kernel_rfl) (by simp) (AllReadyH.cons rfl (fun K hK => ?_) AllReadyH.nil)
              go_simp
              refine hK.out _ _ (by exact ⟨k83, d8⟩) (fun _ => ?_)
              clear hK K
              refine wpAnyH_ready (rs := [9]) (by kernel_rfl) (by simp) (AllReadyH.cons rfl (fun K hK => ?_) AllReadyH.nil)
              refine step_append_ow rfl (.tmp 28) (.tmp 35) 43 41 24 (.slice none 0 0) Try.underlying43 ints_info rfl rfl W10.heap.size (.slice at_ j ct) us (by simp [Act.eval]) ((HGp.out.o.ch g5 (fun _ _ => noB _)).alloc _) _ _ [.slice a5 nU q5] (by simp [Act.eval]) (ls_val _ _ _ _ rfl) (fun u hu => by rw [List.mem_singleton.1 hu]; rfl) (j + 1) (by rw [HGp.out.l]; rfl) (by omega) (by unfold maxLen; omega) (Nat.le_trans hB10 g8.size) (us ++ [.slice a5 nU q5]) rfl ?_
              intro ai9 ci9 wi9 o9 g9' bl9
              have X9 := X8.ch g9' (fun e => by have := (HGp.out.o.blk e).1; omega)
              obtain ⟨k90, k91, k92, k93, k94⟩ := X9.cells
              have F99 := F88.ch g9' (fun e => by have := (HGp.out.o.blk e).1; omega)
              obtain ⟨m90, m91, m92, m93, m94⟩ := F99.cells
              obtain ⟨f90, f91, f92, f93, f94⟩ := F99.fz
              have l9k := F99.lt
              have d9 := (g9'.cell (o := os + j) (Nat.lt_of_lt_of_le hgr g8.size) (fun e => by have := (HGp.out.o.blk e).1; omega)).trans d8
              refine hK.out _ _ (by exact ⟨k93, d9⟩) (fun _ => ?_)
              change wpAnyH _ _ _ _ _ _ _ (Act.put _ (some 36) _) _
              simp only [Act.put, List.setIfInBounds_toArray, List.set_cons_zero, List.set_cons_succ]
              clear hK K
              refine takeS_on (i := 10) 37 (v := ?v117) rfl rfl (by kernel_rfl) (by kernel_rfl) (by kernel_rfl) (fun _ _ _ h => h) (by kernel_rfl) ?hy117 (by exact ⟨k93, d9⟩) ?_
              case hy117 => (intro w' hSw; go_simp; try (with_reducible rfl))
              simp only [Act.put, List.setIfInBounds_toArray, List.set_cons_zero, List.set_cons_succ]
              refine wpAnyH_ready (rs := [11]) (by kernel_rfl) (by simp) (AllReadyH.cons rfl (fun K hK => ?_) AllReadyH.nil)
              go_simp
              have C11 := (Ch.refl (Only kc) wi9).own 3 (.slice ai9 (j + 1) ci9)
              have k11 := (C11.cell (o := 3) X9.lt (fun e => hxk e)).trans k93
              have d11 := (C11.cell (o := os + j) (Nat.lt_of_lt_of_le (Nat.lt_of_lt_of_le hgr g8.size) g9'.size) (fun e => by have e1 : gs = kc := e; omega)).trans d9
              refine hK.out _ _ (by exact ⟨k11, d11⟩) (fun _ => ?_)
              clear hK K
              refine wpAnyH_done (by kernel_rfl) ?_ _
              go_wp2
              go_roundg (gk - 1)
              case measure => omega
              case rel =>
                refine ⟨j + 1, ai9, ci9, us ++ [.slice a5 nU q5], by omega, by simp, setCell_block F99 3 _, HGp.out.next (c := c) (u := .slice a5 nU q5) (by rw [← HCC.out]; exact hj) hB10 g5 (show Ow 3 wr.heap.size w5 (.slice a5 nU q5) (iv c) from o5) HC.out o9 g9' bl9 C11 hkB, ?_⟩
                exact ((HCr.out.trans g8 (fun q e => e.elim)).trans g9' (fun q e => .inr (HGp.out.o.blk e).1)).trans' C11
        · have e : j = nC := by omega
          subst e
          have hrv := HRV10.out.ch hcr hrk
          obtain ⟨z0, z1, z2, z3, z4⟩ := hrv.cells
          obtain ⟨zf0, zf1, zf2, zf3, zf4⟩ := hrv.fz
          have zl := hrv.lt
          clear hfr hgp hcr hrv
          go_wp2
          have C5 := (((((Ch.refl (Only (w.heap.size + 1)) wr).own 0 (.int .i64 L)).own 1 (.slice a4 nG q4)).own 2 (.slice ao9 nA cap9)).own 3 (.slice at_ j ct)).own 4 (.slice a7 nF q7)
          refine bodyPost_ret (v := .agg #[.int .i64 L, .slice a4 nG q4, .slice ao9 nA cap9, .slice at_ j ct, .slice a7 nF q7]) (by simp [results, Try.results17, go_sem, z0, z1, z2, z3, z4]) rfl ⟨_, _, _, _, us, rfl, ?_, ?_⟩
          · have tr : ∀ (e base : Nat) (v : Value) (zs : List Value) (wa : World), Ow e base wa v zs → Ch NoB wa w9 → (∀ q, Blk v q → w.heap.size + 2 ≤ q ∧ q ≠ kc) → Ow e base (((((wr.setCell ⟨w.heap.size + 1, 0, none⟩ (.int .i64 L)).setCell ⟨w.heap.size + 1, 1, none⟩ (.slice a4 nG q4)).setCell ⟨w.heap.size + 1, 2, none⟩ (.slice ao9 nA cap9)).setCell ⟨w.heap.size + 1, 3, none⟩ (.slice at_ j ct)).setCell ⟨w.heap.size + 1, 4, none⟩ (.slice a7 nF q7)) v zs := fun e base v zs wa ho hw hq => (((ho.ch hw (fun _ _ => noB _)).ch HC10.out (fun q a e => (hq q a).2 e)).ch HCr.out (fun q a e => (hq q a).2 e)).ch C5 (fun q a e => by have := (hq q a).1; have e1 : q = w.heap.size + 1 := e; omega)
            have qg : ∀ q, Blk (.slice a4 nG q4) q → w.heap.size + 2 ≤ q ∧ q < W8.heap.size := fun q a => HO8.out.blk a
            have qf : ∀ q, Blk (.slice a7 nF q7) q → w.heap.size + 2 ≤ q ∧ q < W8.heap.size := fun q a => HP8.out.blk a
            have qa : ∀ q, Blk (.slice ao9 nA cap9) q → W8.heap.size ≤ q ∧ q < w9.heap.size := fun q a => HO9.out.blk a
            have qc : ∀ q, Blk (.slice at_ j ct) q → W10.heap.size ≤ q := fun q a => (HGp.out.o.blk a).1
            have qe : ∀ (i : Nat) u, us[i]? = some u → ∀ q, Blk u q → W10.heap.size ≤ q := fun i u hu q a => by
              have hi : i < us.length := (List.getElem?_eq_some_iff.1 hu).1
              exact ((HGp.out.e i u _ hu (List.getElem?_eq_getElem (by rw [← HCC.out, ← HGp.out.l]; exact hi))).blk a).1
            exact {
              g := (tr _ _ _ _ _ HO8.out HG9.out (fun q a => ⟨(qg q a).1, HNA8.out q a⟩)).lower (by omega)
              a := (tr _ _ _ _ _ HO9.out (Ch.refl _ _) (fun q a => ⟨by have := qa q a; omega, by have := qa q a; omega⟩)).lower (by omega)
              c := (HGp.out.o.ch C5 (fun q a e => by have := qc q a; have e1 : q = w.heap.size + 1 := e; omega)).lower (by omega)
              f := (tr _ _ _ _ _ HP8.out HG9.out (fun q a => ⟨(qf q a).1, HNB8.out q a⟩)).lower (by omega)
              cl := by rw [HGp.out.l]; exact HCC.out
              e := fun i u c hu hc => ((HGp.out.e i u c hu hc).ch C5 (fun q a e => by have := qe i u hu q a; have e1 : q = w.heap.size + 1 := e; omega)).lower (by omega)
              ga := fun q a b => by have := qg q a; have := qa q b; omega
              gc := fun q a b => by have := qg q a; have := qc q b; omega
              gf := HD8.out
              ac := fun q a b => by have := qa q a; have := qc q b; omega
              af := fun q a b => by have := qa q a; have := qf q b; omega
              cf := fun q a b => by have := qc q a; have := qf q b; omega
              eg := fun i u hu q a b => by have := qe i u hu q a; have := qg q b; omega
              ea := fun i u hu q a b => by have := qe i u hu q a; have := qa q b; omega
              ec := HGp.out.d
              ef := fun i u hu q a b => by have := qe i u hu q a; have := qf q b; omega
              ee := fun i i' u u' hn hu hu' => HGp.out.dd i i' u u' hn hu hu' }
          · exact ((((HG0.out.trans' HG8.out).trans' HG9.out).trans HC10.out (fun q e => .inr (by have e1 : q = kc := e; omega))).trans HCr.out (fun q e => .inr (by have e1 : q = kc := e; omega))).trans C5 (fun q e => .inr (by have e1 : q = w.heap.size + 1 := e; omega))
  · go_simp
    have F9 := HF0.out.ch ((Ch.refl NoB W0).alloc (.cells #[.int .i64 0, .slice none 0 0, .slice none 0 0, .slice none 0 0, .slice none 0 0] 45)) (noB _)
    obtain ⟨x90, x91, x92, x93, x94⟩ := F9.cells
    have Z9 := Fv.new 45 W0 (.int .i64 0) (.slice none 0 0) (.slice none 0 0) (.slice none 0 0) (.slice none 0 0)
    have hk9 : W0.heap.size ≤ W0.heap.size := (Ch.refl NoB W0).size
    refine hK.out _ _ (by exact ⟨x90, x91, x94⟩) (fun _ => ?_)
    clear hK K
    refine wpAnyH_ready (rs := [4]) (by kernel_rfl) (by simp) (AllReadyH.cons rfl (fun K hK => ?_) AllReadyH.nil)
    go_simp
    refine (HI1.out _ (((Ch.refl NoB W0).alloc _).drew)).mono ?_
    rintro e w4 ⟨v4, rfl, o4, g4⟩
    obtain ⟨a4, q4, rfl⟩ := o4.form
    rw [← HnG.out] at o4 ⊢
    have G4 : Ch NoB W0 w4 := (((Ch.refl NoB W0).alloc _).drew).trans' g4
    have F4 := HF0.out.ch G4 (noB _)
    obtain ⟨x40, x41, x42, x43, x44⟩ := F4.cells
    have hs4 := g4.size
    have Z4 := Fv.ch (w := (W0.alloc (.cells #[.int .i64 0, .slice none 0 0, .slice none 0 0, .slice none 0 0, .slice none 0 0] 45)).drew) Z9 g4 (noB _)
    have hs4' : W0.heap.size + 1 ≤ w4.heap.size := by simpa using hs4
    refine hK.out _ _ (by exact ⟨x40, x41, x44⟩) (fun _ => ?_)
    clear hK K
    refine wpAnyH_ready (rs := [7]) (by kernel_rfl) (by simp) (AllReadyH.cons rfl (fun K hK => ?_) AllReadyH.nil)
    go_simp
    refine (HI2.out _ (G4)).mono ?_
    rintro e w7 ⟨v7, rfl, o7, g7⟩
    obtain ⟨a7, q7, rfl⟩ := o7.form
    rw [← HnF.out] at o7 ⊢
    have G7 : Ch NoB W0 w7 := (G4).trans' g7
    have F7 := HF0.out.ch G7 (noB _)
    obtain ⟨x70, x71, x72, x73, x74⟩ := F7.cells
    have O4 := Ow.ch (w := w4) o4 g7 (fun _ _ => noB _)
    have Z7 := Fv.ch (w := w4) Z4 g7 (noB _)
    have hs7' : w4.heap.size ≤ w7.heap.size := g7.size
    refine hK.out _ _ (by exact ⟨x70, x71, x74⟩) (fun _ => ?_)
    clear hK K
    refine takeS_on (i := 8) 13 (v := ?v118) rfl rfl (by kernel_rfl) (by kernel_rfl) (by kernel_rfl) (fun _ _ _ h => h) (by kernel_rfl) ?hy118 (by exact ⟨x70, x71, x74⟩) ?_
    case hy118 => (intro w' hSw; go_simp; try (with_reducible rfl))
    simp only [Act.put, List.setIfInBounds_toArray, List.set_cons_zero, List.set_cons_succ]
    refine wpAnyH_ready (rs := [10]) (by kernel_rfl) (by simp) (AllReadyH.cons rfl (fun K hK => ?_) AllReadyH.nil)
    obtain ⟨s0, s1, s2, s3, s4⟩ := Z7.cells
    obtain ⟨sf0, sf1, sf2, sf3, sf4⟩ := Z7.fz
    have sl := Z7.lt
    go_simp
    have HA := hid (show ∀ q, Blk (.slice a4 nG q4) q → W0.heap.size ≤ q ∧ q < w4.heap.size ∧ q ≠ W0.heap.size from fun q e => by have := o4.blk e; have h1 : W0.heap.size + 1 ≤ q := (by simpa using this.1); omega)
    have hs4b : W0.heap.size ≤ w4.heap.size := by omega
    have HBq := hid (show ∀ q, Blk (.slice a7 nF q7) q → w4.heap.size ≤ q ∧ q < w7.heap.size ∧ q ≠ W0.heap.size from fun q e => by have := o7.blk e; have h1 : w4.heap.size ≤ q := this.1; omega)
    have C8 := (((((Ch.refl (Only W0.heap.size) w7).own 0 (.int .i64 L)).own 1 (.slice a4 nG q4)).own 2 (.slice none 0 0)).own 3 (.slice none 0 0)).own 4 (.slice a7 nF q7)
    have F8 : Fv 45 (((((w7.setCell ⟨W0.heap.size, 0, none⟩ (.int .i64 L)).setCell ⟨W0.heap.size, 1, none⟩ (.slice a4 nG q4)).setCell ⟨W0.heap.size, 2, none⟩ (.slice none 0 0)).setCell ⟨W0.heap.size, 3, none⟩ (.slice none 0 0)).setCell ⟨W0.heap.size, 4, none⟩ (.slice a7 nF q7)) W0.heap.size (.int .i64 L) (.slice a4 nG q4) (.slice none 0 0) (.slice none 0 0) (.slice a7 nF q7) := setCell_block (setCell_block (setCell_block (setCell_block (setCell_block Z7 0 (.int .i64 L)) 1 (.slice a4 nG q4)) 2 (.slice none 0 0)) 3 (.slice none 0 0)) 4 (.slice a7 nF q7)
    have O8 := (O4.ch C8 (fun q a e => by have e1 : q = W0.heap.size := e; exact (HA.out q a).2.2 e1)).lower (base' := w.heap.size + 2) (Nat.le_trans hl0 (by simp))
    have P8 := (o7.ch C8 (fun q a e => by have e1 : q = W0.heap.size := e; exact (HBq.out q a).2.2 e1)).lower (base' := w.heap.size + 2) (Nat.le_trans hl0 (Nat.le_trans hs4b (Nat.le_refl _)))
    have D8 : Dj (.slice a4 nG q4) (.slice a7 nF q7) := fun q a b => by have := (HA.out q a).2.1; have := (HBq.out q b).1; omega
    have G8 : Ch NoB W0 _ := G7.trans C8 (fun q e => .inr (by have e1 : q = W0.heap.size := e; omega))
    have hne8 : ¬ (W0.heap.size = w.heap.size) := by omega
    have B8 := HF0.out.ch G8 (noB _)
    obtain ⟨kc, hkc⟩ : ∃ kc, kc = W0.heap.size := ⟨_, rfl⟩
    have hkl : W0.heap.size ≤ kc := by omega
    have hna8 : ∀ q, Blk (.slice a4 nG q4) q → q ≠ kc := fun q a => by rw [hkc]; exact (HA.out q a).2.2
    have hnb8 : ∀ q, Blk (.slice a7 nF q7) q → q ≠ kc := fun q a => by rw [hkc]; exact (HBq.out q a).2.2
    rw [← hkc] at C8 F8 O8 P8 G8 B8 ⊢
    generalize hW8 : World.setCell _ ⟨kc, 4, none⟩ _ = W8 at C8 F8 O8 P8 G8 B8 ⊢
    obtain ⟨x80, x81, x82, x83, x84⟩ := B8.cells
    clear hkc hW8
    refine hK.out _ _ (by exact ⟨x80, x81, x84⟩) (fun _ => ?_)
    clear hK K
    refine wpAnyH_done (by kernel_rfl) ?_ _
    have HF8 := hid F8
    have HO8 := hid O8
    have HP8 := hid P8
    have HD8 := hid D8
    have HG8 := hid G8
    have HB8 := hid B8
    have HR8 := hid (HR.out.ch G8 (fun _ _ _ => noB _))
    have HRV := hid (HR0.out.ch G8 (noB _))
    have HNA8 := hid hna8
    have HNB8 := hid hnb8
    have hlW : W0.heap.size ≤ W8.heap.size := G8.size
    have hkl2 := hkl
    have hnAl : nA ≤ 4294967296 := by rw [HnA.out, bv_length]; exact HT.out.a
    have hxk : ¬ (w.heap.size = kc) := by omega
    have hxk2 : ¬ (kc = w.heap.size) := by omega
    have hrk : ¬ (w.heap.size + 1 = kc) := by omega
    have hrk2 : ¬ (kc = w.heap.size + 1) := by omega
    obtain ⟨c0, c1, c2, c3, c4⟩ := F8.cells
    obtain ⟨y0, y1, y2, y3, y4⟩ := F8.fz
    have kl8 := F8.lt
    clear F8 O8 P8 D8 G8 x80 x81 x83 x84 hna8 hnb8 B8 hkl
    have x82 := HB8.out.cells.2.2.1
    have xl8 := HB8.out.lt
    go_wp2_with (first | (at_builtin; refine wpList_append_ow rfl (.tmp 15) (.tmp 17) 42 4 1 (.bool false) Try.underlying42 bool_info rfl rfl W8.heap.size _ [] rfl (Ow.nil _ _ _) _ _ (bv x.A) rfl HR8.out.a (bv_one _) nA (by simp [HnA.out]) (by omega) (by unfold maxLen; omega) (Nat.le_refl _) (bv x.A) rfl ?_; intro ao9 cap9 w9 o9 g9' bl9; have g9 : Ch NoB W8 w9 := g9'.mono (fun q e => by cases e); have F9 := HF8.out.ch g9 (noB _); clear c0 c1 c2 c3 c4 y0 y1 y2 y3 y4; obtain ⟨c0, c1, c2, c3, c4⟩ := F9.cells; obtain ⟨y0, y1, y2, y3, y4⟩ := F9.fz; have kl9 := F9.lt; have HF9 := hid F9; have HO9 := hid o9; have HG9 := hid g9; clear F9 o9 g9 g9' bl9))
    obtain ⟨W10, hW10⟩ : ∃ W, W = w9.setCell ⟨kc, 2, none⟩ (.slice ao9 nA cap9) := ⟨_, rfl⟩
    have C10 : Ch (Only kc) w9 W10 := by rw [hW10]; exact (Ch.refl _ _).own _ _
    have F10 : Fv 45 W10 kc (.int .i64 L) (.slice a4 nG q4) (.slice ao9 nA cap9) (.slice none 0 0) (.slice a7 nF q7) := by rw [hW10]; exact setCell_block HF9.out 2 _
    have HF10 := hid F10
    have HC10 := hid C10
    have HX10 := hid ((HB8.out.ch HG9.out (noB _)).ch C10 hxk)
    have HR10 := hid ((HR8.out.ch HG9.out (fun _ _ _ => noB _)).ch C10 (fun q _ a e => by have e1 : q = kc := e; have a1 : q < w.heap.size := a; omega))
    have HRV10 := hid ((HRV.out.ch HG9.out (noB _)).ch C10 hrk)
    have hs9 := HG9.out.size
    have hs10 := C10.size
    have hkB : kc < W10.heap.size := F10.lt
    rw [← hW10]
    clear hW10 F10 C10 c0 c1 c2 c3 c4 y0 y1 y2 y3 y4
    have hnC4 : nC ≤ 4294967296 := by rw [HnC.out, HR.out.e.1]; exact HT.out.c
    have HCC := hid (show nC = x.C.length by rw [HnC.out, HR.out.e.1])
    go_loopg [4] nC (fun m i wv => ∃ (j : Nat) (at_ : Option Addr) (ct : Nat) (us : List Value), j + m = nC ∧ i = .int .i64 ((j : Nat) : Int) ∧ Fv 45 wv kc (.int .i64 L) (.slice a4 nG q4) (.slice ao9 nA cap9) (.slice at_ j ct) (.slice a7 nF q7) ∧ Gp W10.heap.size wv (.slice at_ j ct) us x.C j ∧ Ch (Only kc) W10 wv)
    case atStart => exact ⟨0, none, 0, [], by omega, rfl, HF10.out, ⟨rfl, Ow.nil _ _ _, fun i u c hu => by simp at hu, fun i u hu => by simp at hu, fun i i' u u' _ hu => by simp at hu⟩, Ch.refl _ _⟩
    case round =>
      obtain ⟨j, at_, ct, us, hjm, rfl, hfr, hgp, hcr⟩ := hrel
      have HFr := hid hfr
      have HGp := hid hgp
      have HCr := hid hcr
      have hB10 : W10.heap.size ≤ wr.heap.size := hcr.size
      have HBr := hid (HX10.out.ch hcr hxk)
      obtain ⟨k0, k1, k2, k3, k4⟩ := HBr.out.cells
      have lx := HBr.out.lt
      obtain ⟨m0, m1, m2, m3, m4⟩ := hfr.cells
      have lk := hfr.lt
      by_cases hj : j < nC
      · have hjc : j < cv.length := by rw [← HnC.out]; exact hj
        have hjC : j < x.C.length := by rw [← HCC.out]; exact hj
        obtain ⟨u, hu⟩ : ∃ u, cv[j]? = some u := ⟨_, List.getElem?_eq_getElem hjc⟩
        obtain ⟨c, hc⟩ : ∃ c, x.C[j]? = some c := ⟨_, List.getElem?_eq_getElem hjC⟩
        have hR := HR10.out.ch hcr (fun q _ a e => by have e1 : q = kc := e; have a1 : q < w.heap.size := a; omega)
        have hl := hR.e.2 j u c hu hc
        obtain ⟨ua, uc, rfl⟩ := hl.form
        obtain ⟨nU, hnU⟩ : ∃ n, n = (iv c).length := ⟨_, rfl⟩
        rw [← hnU] at hl hu
        obtain ⟨gs, os, cc', e', hgs, hgr, hcap, d0⟩ := hR.c.get hu
        rw [← HnC.out] at e'
        injection e' with e1 e2 e3
        subst e1 e3
        have HCl := hid (fun (W : World) (k : Ch NoB wr W) => ints_any _ _ c W (hl.ch k (fun _ _ _ => noB _)) (HT.out.e j c hc))
        have HNU := hid hnU
        have HC := hid hc
        have j0 : (0 : Int) ≤ (j : Int) := by omega
        have j1 : (j : Int) < (nC : Int) := by omega
        have gsl : gs < w.heap.size := hgs
        clear hfr hgp hcr hR hl hu hc hnU
        go_wp2_with fail
        refine wp_region_held_drew (S := fun w' => w'.cell? ⟨w.heap.size, 3, none⟩ = some (.slice (some ⟨gs, os, none⟩) nC cc) ∧ w'.cell? ⟨gs, os + j, none⟩ = some (.slice ua nU uc)) (by kernel_rfl) (by exact ⟨k3, d0⟩) (fun _ => ?_)
        refine takeS_on (i := 0) 27 (v := ?v119) rfl rfl (by kernel_rfl) (by kernel_rfl) (by kernel_rfl) (fun _ _ _ h => h) (by kernel_rfl) ?hy119 (by exact ⟨k3, d0⟩) ?_
        case hy119 => (intro w' hSw; go_simp; try (with_reducible rfl))
        simp only [Act.put, List.setIfInBounds_toArray, List.set_cons_zero, List.set_cons_succ]
        refine takeS_on (i := 2) 29 (v := ?v120) rfl rfl (by kernel_rfl) (by kernel_rfl) (by kernel_rfl) (fun _ _ _ h => h) (by kernel_rfl) ?hy120 (by exact ⟨k3, d0⟩) ?_
        case hy120 => (intro w' hSw; go_simp; try (with_reducible rfl))
        simp only [Act.put, List.setIfInBounds_toArray, List.set_cons_zero, List.set_cons_succ]
        refine takeS_on (i := 3) 30 (v := ?v121) rfl rfl (by kernel_rfl) (by kernel_rfl) (by kernel_rfl) (fun _ _ _ h => h) (by kernel_rfl) ?hy121 (by exact ⟨k3, d0⟩) ?_
        case hy121 => (intro w' hSw; go_simp; try (with_reducible rfl))
        simp only [Act.put, List.setIfInBounds_toArray, List.set_cons_zero, List.set_cons_succ]
        refine takeS_on (i := 4) 31 (v := ?v122) rfl rfl (by kernel_rfl) (by kernel_rfl) (by kernel_rfl) (fun _ _ _ h => h) (by kernel_rfl) ?hy122 (by exact ⟨k3, d0⟩) ?_
        case hy122 => (intro w' hSw; go_simp; try (with_reducible rfl))
        simp only [Act.put, List.setIfInBounds_toArray, List.set_cons_zero, List.set_cons_succ]
        refine takeS_on (i := 5) 32 (v := ?v123) rfl rfl (by kernel_rfl) (by kernel_rfl) (by kernel_rfl) (fun _ _ _ h => h) (by kernel_rfl) ?hy123 (by exact ⟨k3, d0⟩) ?_
        case hy123 => (intro w' hSw; go_simp; try (with_reducible rfl))
        simp only [Act.put, List.setIfInBounds_toArray, List.set_cons_zero, List.set_cons_succ]
        refine takeS_on (i := 6) 33 (v := ?v124) rfl rfl (by kernel_rfl) (by kernel_rfl) (by kernel_rfl) (fun _ _ _ h => h) (by kernel_rfl) ?hy124 (by exact ⟨k3, d0⟩) ?_
        case hy124 => (intro w' hSw; go_simp; try (with_reducible rfl))
        simp only [Act.put, List.setIfInBounds_toArray, List.set_cons_zero, List.set_cons_succ]
        refine wpAnyH_ready (rs := [1, 7]) (by kernel_rfl) (by simp) (AllReadyH.cons rfl (fun K hK => ?_) (AllReadyH.cons rfl (fun K hK => ?_) AllReadyH.nil))
        · go_simp
          refine hK.out _ _ (by exact ⟨k3, d0⟩) (fun _ => ?_)
          clear hK K
          refine wpAnyH_ready (rs := [7]) (by kernel_rfl) (by simp) (AllReadyH.cons rfl (fun K hK => ?_) AllReadyH.nil)
          go_simp
          refine (HCl.out _ ((Ch.refl NoB wr).drew)).mono ?_
          rintro e w5 ⟨v5, rfl, o5, g5'⟩
          obtain ⟨a5, q5, rfl⟩ := o5.form
          rw [← HNU.out] at o5 ⊢
          have g5 : Ch NoB wr w5 := ((Ch.refl NoB wr).drew).trans' g5'
          have s5 := g5.size
          have F5 := HFr.out.ch g5 (noB _)
          have l5k := F5.lt
          have X5 := HBr.out.ch g5 (noB _)
          obtain ⟨k50, k51, k52, k53, k54⟩ := X5.cells
          obtain ⟨m50, m51, m52, m53, m54⟩ := F5.cells
          have l5x := X5.lt
          have d5 := (g5.cell (o := os + j) hgr (noB _)).trans d0
          refine hK.out _ _ (by exact ⟨k53, d5⟩) (fun _ => ?_)
          clear hK K
          refine wpAnyH_ready (rs := [8]) (by kernel_rfl) (by simp) (AllReadyH.cons rfl (fun K hK => ?_) AllReadyH.nil)
          go_simp
          have g8 : Ch NoB wr (w5.alloc (.cells #[.slice a5 nU q5] 41)) := g5.alloc _
          have X8 := HBr.out.ch g8 (noB _)
          obtain ⟨k80, k81, k82, k83, k84⟩ := X8.cells
          have F88 := HFr.out.ch g8 (noB _)
          obtain ⟨m80, m81, m82, m83, m84⟩ := F88.cells
          have l8k := F88.lt
          have l8x := X8.lt
          have d8 := (g8.cell (o := os + j) hgr (noB _)).trans d0
          refine hK.out _ _ (by exact ⟨k83, d8⟩) (fun _ => ?_)
          clear hK K
          refine wpAnyH_ready (rs := [9]) (by kernel_rfl) (by simp) (AllReadyH.cons rfl (fun K hK => ?_) AllReadyH.nil)
          refine step_append_ow rfl (.tmp 28) (.tmp 35) 43 41 24 (.slice none 0 0) Try.underlying43 ints_info rfl rfl W10.heap.size (.slice at_ j ct) us (by simp [Act.eval]) ((HGp.out.o.ch g5 (fun _ _ => noB _)).alloc _) _ _ [.slice a5 nU q5] (by simp [Act.eval]) (ls_val _ _ _ _ rfl) (fun u hu => by rw [List.mem_singleton.1 hu]; rfl) (j + 1) (by rw [HGp.out.l]; rfl) (by omega) (by unfold maxLen; omega) (Nat.le_trans hB10 g8.size) (us ++ [.slice a5 nU q5]) rfl ?_
          intro ai9 ci9 wi9 o9 g9' bl9
          have X9 := X8.ch g9' (fun e => by have := (HGp.out.o.blk e).1; omega)
          obtain ⟨k90, k91, k92, k93, k94⟩ := X9.cells
          have F99 := F88.ch g9' (fun e => by have := (HGp.out.o.blk e).1; omega)
          obtain ⟨m90, m91, m92, m93, m94⟩ := F99.cells
          obtain ⟨f90, f91, f92, f93, f94⟩ := F99.fz
          have l9k := F99.lt
          have d9 := (g9'.cell (o := os + j) (Nat.lt_of_lt_of_le hgr g8.size) (fun e => by have := (HGp.out.o.blk e).1; omega)).trans d8
          refine hK.out _ _ (by exact ⟨k93, d9⟩) (fun _ => ?_)
          change wpAnyH _ _ _ _ _ _ _ (Act.put _ (some 36) _) _
          simp only [Act.put, List.setIfInBounds_toArray, List.set_cons_zero, List.set_cons_succ]
          clear hK K
          refine takeS_on (i := 10) 37 (v := ?v125) rfl rfl (by kernel_rfl) (by kernel_rfl) (by kernel_rfl) (fun _ _ _ h => h) (by kernel_rfl) ?hy125 (by exact ⟨k93, d9⟩) ?_
          case hy125 => (intro w' hSw; go_simp; try (with_reducible rfl))
          simp only [Act.put, List.setIfInBounds_toArray, List.set_cons_zero, List.set_cons_succ]
          refine wpAnyH_ready (rs := [11]) (by kernel_rfl) (by simp) (AllReadyH.cons rfl (fun K hK => ?_) AllReadyH.nil)
          go_simp
          have C11 := (Ch.refl (Only kc) wi9).own 3 (.slice ai9 (j + 1) ci9)
          have k11 := (C11.cell (o := 3) X9.lt (fun e => hxk e)).trans k93
          have d11 := (C11.cell (o := os + j) (Nat.lt_of_lt_of_le (Nat.lt_of_lt_of_le hgr g8.size) g9'.size) (fun e => by have e1 : gs = kc := e; omega)).trans d9
          refine hK.out _ _ (by exact ⟨k11, d11⟩) (fun _ => ?_)
          clear hK K
          refine wpAnyH_done (by kernel_rfl) ?_ _
          go_wp2
          go_roundg (gk - 1)
          case measure => omega
          case rel =>
            refine ⟨j + 1, ai9, ci9, us ++ [.slice a5 nU q5], by omega, by simp, setCell_block F99 3 _, HGp.out.next (c := c) (u := .slice a5 nU q5) (by rw [← HCC.out]; exact hj) hB10 g5 (show Ow 3 wr.heap.size w5 (.slice a5 nU q5) (iv c) from o5) HC.out o9 g9' bl9 C11 hkB, ?_⟩
            exact ((HCr.out.trans g8 (fun q e => e.elim)).trans g9' (fun q e => .inr (HGp.out.o.blk e).1)).trans' C11
        · go_simp
          refine (HCl.out _ ((Ch.refl NoB wr).drew)).mono ?_
          rintro e w5 ⟨v5, rfl, o5, g5'⟩
          obtain ⟨a5, q5, rfl⟩ := o5.form
          rw [← HNU.out] at o5 ⊢
          have g5 : Ch NoB wr w5 := ((Ch.refl NoB wr).drew).trans' g5'
          have s5 := g5.size
          have F5 := HFr.out.ch g5 (noB _)
          have l5k := F5.lt
          have X5 := HBr.out.ch g5 (noB _)
          obtain ⟨k50, k51, k52, k53, k54⟩ := X5.cells
          obtain ⟨m50, m51, m52, m53, m54⟩ := F5.cells
          have l5x := X5.lt
          have d5 := (g5.cell (o := os + j) hgr (noB _)).trans d0
          refine hK.out _ _ (by exact ⟨k53, d5⟩) (fun _ => ?_)
          clear hK K
          refine wpAnyH_ready (rs := [1, 8]) (by kernel_rfl) (by simp) (AllReadyH.cons rfl (fun K hK => ?_) (AllReadyH.cons rfl (fun K hK => ?_) AllReadyH.nil))
          · go_simp
            refine hK.out _ _ (by exact ⟨k53, d5⟩) (fun _ => ?_)
            clear hK K
            refine wpAnyH_ready (rs := [8]) (by kernel_rfl) (by simp) (AllReadyH.cons rfl (fun K hK => ?_) AllReadyH.nil)
            go_simp
            have g8 : Ch NoB wr (w5.alloc (.cells #[.slice a5 nU q5] 41)) := g5.alloc _
            have X8 := HBr.out.ch g8 (noB _)
            obtain ⟨k80, k81, k82, k83, k84⟩ := X8.cells
            have F88 := HFr.out.ch g8 (noB _)
            obtain ⟨m80, m81, m82, m83, m84⟩ := F88.cells
            have l8k := F88.lt
            have l8x := X8.lt
            have d8 := (g8.cell (o := os + j) hgr (noB _)).trans d0
            refine hK.out _ _ (by exact ⟨k83, d8⟩) (fun _ => ?_)
            clear hK K
            refine wpAnyH_ready (rs := [9]) (by kernel_rfl) (by simp) (AllReadyH.cons rfl (fun K hK => ?_) AllReadyH.nil)
            refine step_append_ow rfl (.tmp 28) (.tmp 35) 43 41 24 (.slice none 0 0) Try.underlying43 ints_info rfl rfl W10.heap.size (.slice at_ j ct) us (by simp [Act.eval]) ((HGp.out.o.ch g5 (fun _ _ => noB _)).alloc _) _ _ [.slice a5 nU q5] (by simp [Act.eval]) (ls_val _ _ _ _ rfl) (fun u hu => by rw [List.mem_singleton.1 hu]; rfl) (j + 1) (by rw [HGp.out.l]; rfl) (by omega) (by unfold maxLen; omega) (Nat.le_trans hB10 g8.size) (us ++ [.slice a5 nU q5]) rfl ?_
            intro ai9 ci9 wi9 o9 g9' bl9
            have X9 := X8.ch g9' (fun e => by have := (HGp.out.o.blk e).1; omega)
            obtain ⟨k90, k91, k92, k93, k94⟩ := X9.cells
            have F99 := F88.ch g9' (fun e => by have := (HGp.out.o.blk e).1; omega)
            obtain ⟨m90, m91, m92, m93, m94⟩ := F99.cells
            obtain ⟨f90, f91, f92, f93, f94⟩ := F99.fz
            have l9k := F99.lt
            have d9 := (g9'.cell (o := os + j) (Nat.lt_of_lt_of_le hgr g8.size) (fun e => by have := (HGp.out.o.blk e).1; omega)).trans d8
            refine hK.out _ _ (by exact ⟨k93, d9⟩) (fun _ => ?_)
            change wpAnyH _ _ _ _ _ _ _ (Act.put _ (some 36) _) _
            simp only [Act.put, List.setIfInBounds_toArray, List.set_cons_zero, List.set_cons_succ]
            clear hK K
            refine takeS_on (i := 10) 37 (v := ?v126) rfl rfl (by kernel_rfl) (by kernel_rfl) (by kernel_rfl) (fun _ _ _ h => h) (by kernel_rfl) ?hy126 (by exact ⟨k93, d9⟩) ?_
            case hy126 => (intro w' hSw; go_simp; try (with_reducible rfl))
            simp only [Act.put, List.setIfInBounds_toArray, List.set_cons_zero, List.set_cons_succ]
            refine wpAnyH_ready (rs := [11]) (by kernel_rfl) (by simp) (AllReadyH.cons rfl (fun K hK => ?_) AllReadyH.nil)
            go_simp
            have C11 := (Ch.refl (Only kc) wi9).own 3 (.slice ai9 (j + 1) ci9)
            have k11 := (C11.cell (o := 3) X9.lt (fun e => hxk e)).trans k93
            have d11 := (C11.cell (o := os + j) (Nat.lt_of_lt_of_le (Nat.lt_of_lt_of_le hgr g8.size) g9'.size) (fun e => by have e1 : gs = kc := e; omega)).trans d9
            refine hK.out _ _ (by exact ⟨k11, d11⟩) (fun _ => ?_)
            clear hK K
            refine wpAnyH_done (by kernel_rfl) ?_ _
            go_wp2
            go_roundg (gk - 1)
            case measure => omega
            case rel =>
              refine ⟨j + 1, ai9, ci9, us ++ [.slice a5 nU q5], by omega, by simp, setCell_block F99 3 _, HGp.out.next (c := c) (u := .slice a5 nU q5) (by rw [← HCC.out]; exact hj) hB10 g5 (show Ow 3 wr.heap.size w5 (.slice a5 nU q5) (iv c) from o5) HC.out o9 g9' bl9 C11 hkB, ?_⟩
              exact ((HCr.out.trans g8 (fun q e => e.elim)).trans g9' (fun q e => .inr (HGp.out.o.blk e).1)).trans' C11
          · go_simp
            have g8 : Ch NoB wr (w5.alloc (.cells #[.slice a5 nU q5] 41)) := g5.alloc _
            have X8 := HBr.out.ch g8 (noB _)
            obtain ⟨k80, k81, k82, k83, k84⟩ := X8.cells
            have F88 := HFr.out.ch g8 (noB _)
            obtain ⟨m80, m81, m82, m83, m84⟩ := F88.cells
            have l8k := F88.lt
            have l8x := X8.lt
            have d8 := (g8.cell (o := os + j) hgr (noB _)).trans d0
            refine hK.out _ _ (by exact ⟨k83, d8⟩) (fun _ => ?_)
            clear hK K
            refine wpAnyH_ready (rs := [1]) (by kernel_rfl) (by simp) (AllReadyH.cons rfl (fun K hK => ?_) AllReadyH.nil)
            go_simp
            refine hK.out _ _ (by exact ⟨k83, d8⟩) (fun _ => ?_)
            clear hK K
            refine wpAnyH_ready (rs := [9]) (by kernel_rfl) (by simp) (AllReadyH.cons rfl (fun K hK => ?_) AllReadyH.nil)
            refine step_append_ow rfl (.tmp 28) (.tmp 35) 43 41 24 (.slice none 0 0) Try.underlying43 ints_info rfl rfl W10.heap.size (.slice at_ j ct) us (by simp [Act.eval]) ((HGp.out.o.ch g5 (fun _ _ => noB _)).alloc _) _ _ [.slice a5 nU q5] (by simp [Act.eval]) (ls_val _ _ _ _ rfl) (fun u hu => by rw [List.mem_singleton.1 hu]; rfl) (j + 1) (by rw [HGp.out.l]; rfl) (by omega) (by unfold maxLen; omega) (Nat.le_trans hB10 g8.size) (us ++ [.slice a5 nU q5]) rfl ?_
            intro ai9 ci9 wi9 o9 g9' bl9
            have X9 := X8.ch g9' (fun e => by have := (HGp.out.o.blk e).1; omega)
            obtain ⟨k90, k91, k92, k93, k94⟩ := X9.cells
            have F99 := F88.ch g9' (fun e => by have := (HGp.out.o.blk e).1; omega)
            obtain ⟨m90, m91, m92, m93, m94⟩ := F99.cells
            obtain ⟨f90, f91, f92, f93, f94⟩ := F99.fz
            have l9k := F99.lt
            have d9 := (g9'.cell (o := os + j) (Nat.lt_of_lt_of_le hgr g8.size) (fun e => by have := (HGp.out.o.blk e).1; omega)).trans d8
            refine hK.out _ _ (by exact ⟨k93, d9⟩) (fun _ => ?_)
            change wpAnyH _ _ _ _ _ _ _ (Act.put _ (some 36) _) _
            simp only [Act.put, List.setIfInBounds_toArray, List.set_cons_zero, List.set_cons_succ]
            clear hK K
            refine takeS_on (i := 10) 37 (v := ?v127) rfl rfl (by kernel_rfl) (by kernel_rfl) (by kernel_rfl) (fun _ _ _ h => h) (by kernel_rfl) ?hy127 (by exact ⟨k93, d9⟩) ?_
            case hy127 => (intro w' hSw; go_simp; try (with_reducible rfl))
            simp only [Act.put, List.setIfInBounds_toArray, List.set_cons_zero, List.set_cons_succ]
            refine wpAnyH_ready (rs := [11]) (by kernel_rfl) (by simp) (AllReadyH.cons rfl (fun K hK => ?_) AllReadyH.nil)
            go_simp
            have C11 := (Ch.refl (Only kc) wi9).own 3 (.slice ai9 (j + 1) ci9)
            have k11 := (C11.cell (o := 3) X9.lt (fun e => hxk e)).trans k93
            have d11 := (C11.cell (o := os + j) (Nat.lt_of_lt_of_le (Nat.lt_of_lt_of_le hgr g8.size) g9'.size) (fun e => by have e1 : gs = kc := e; omega)).trans d9
            refine hK.out _ _ (by exact ⟨k11, d11⟩) (fun _ => ?_)
            clear hK K
            refine wpAnyH_done (by kernel_rfl) ?_ _
            go_wp2
            go_roundg (gk - 1)
            case measure => omega
            case rel =>
              refine ⟨j + 1, ai9, ci9, us ++ [.slice a5 nU q5], by omega, by simp, setCell_block F99 3 _, HGp.out.next (c := c) (u := .slice a5 nU q5) (by rw [← HCC.out]; exact hj) hB10 g5 (show Ow 3 wr.heap.size w5 (.slice a5 nU q5) (iv c) from o5) HC.out o9 g9' bl9 C11 hkB, ?_⟩
              exact ((HCr.out.trans g8 (fun q e => e.elim)).trans g9' (fun q e => .inr (HGp.out.o.blk e).1)).trans' C11
      · have e : j = nC := by omega
        subst e
        have hrv := HRV10.out.ch hcr hrk
        obtain ⟨z0, z1, z2, z3, z4⟩ := hrv.cells
        obtain ⟨zf0, zf1, zf2, zf3, zf4⟩ := hrv.fz
        have zl := hrv.lt
        clear hfr hgp hcr hrv
        go_wp2
        have C5 := (((((Ch.refl (Only (w.heap.size + 1)) wr).own 0 (.int .i64 L)).own 1 (.slice a4 nG q4)).own 2 (.slice ao9 nA cap9)).own 3 (.slice at_ j ct)).own 4 (.slice a7 nF q7)
        refine bodyPost_ret (v := .agg #[.int .i64 L, .slice a4 nG q4, .slice ao9 nA cap9, .slice at_ j ct, .slice a7 nF q7]) (by simp [results, Try.results17, go_sem, z0, z1, z2, z3, z4]) rfl ⟨_, _, _, _, us, rfl, ?_, ?_⟩
        · have tr : ∀ (e base : Nat) (v : Value) (zs : List Value) (wa : World), Ow e base wa v zs → Ch NoB wa w9 → (∀ q, Blk v q → w.heap.size + 2 ≤ q ∧ q ≠ kc) → Ow e base (((((wr.setCell ⟨w.heap.size + 1, 0, none⟩ (.int .i64 L)).setCell ⟨w.heap.size + 1, 1, none⟩ (.slice a4 nG q4)).setCell ⟨w.heap.size + 1, 2, none⟩ (.slice ao9 nA cap9)).setCell ⟨w.heap.size + 1, 3, none⟩ (.slice at_ j ct)).setCell ⟨w.heap.size + 1, 4, none⟩ (.slice a7 nF q7)) v zs := fun e base v zs wa ho hw hq => (((ho.ch hw (fun _ _ => noB _)).ch HC10.out (fun q a e => (hq q a).2 e)).ch HCr.out (fun q a e => (hq q a).2 e)).ch C5 (fun q a e => by have := (hq q a).1; have e1 : q = w.heap.size + 1 := e; omega)
          have qg : ∀ q, Blk (.slice a4 nG q4) q → w.heap.size + 2 ≤ q ∧ q < W8.heap.size := fun q a => HO8.out.blk a
          have qf : ∀ q, Blk (.slice a7 nF q7) q → w.heap.size + 2 ≤ q ∧ q < W8.heap.size := fun q a => HP8.out.blk a
          have qa : ∀ q, Blk (.slice ao9 nA cap9) q → W8.heap.size ≤ q ∧ q < w9.heap.size := fun q a => HO9.out.blk a
          have qc : ∀ q, Blk (.slice at_ j ct) q → W10.heap.size ≤ q := fun q a => (HGp.out.o.blk a).1
          have qe : ∀ (i : Nat) u, us[i]? = some u → ∀ q, Blk u q → W10.heap.size ≤ q := fun i u hu q a => by
            have hi : i < us.length := (List.getElem?_eq_some_iff.1 hu).1
            exact ((HGp.out.e i u _ hu (List.getElem?_eq_getElem (by rw [← HCC.out, ← HGp.out.l]; exact hi))).blk a).1
          exact {
            g := (tr _ _ _ _ _ HO8.out HG9.out (fun q a => ⟨(qg q a).1, HNA8.out q a⟩)).lower (by omega)
            a := (tr _ _ _ _ _ HO9.out (Ch.refl _ _) (fun q a => ⟨by have := qa q a; omega, by have := qa q a; omega⟩)).lower (by omega)
            c := (HGp.out.o.ch C5 (fun q a e => by have := qc q a; have e1 : q = w.heap.size + 1 := e; omega)).lower (by omega)
            f := (tr _ _ _ _ _ HP8.out HG9.out (fun q a => ⟨(qf q a).1, HNB8.out q a⟩)).lower (by omega)
            cl := by rw [HGp.out.l]; exact HCC.out
            e := fun i u c hu hc => ((HGp.out.e i u c hu hc).ch C5 (fun q a e => by have := qe i u hu q a; have e1 : q = w.heap.size + 1 := e; omega)).lower (by omega)
            ga := fun q a b => by have := qg q a; have := qa q b; omega
            gc := fun q a b => by have := qg q a; have := qc q b; omega
            gf := HD8.out
            ac := fun q a b => by have := qa q a; have := qc q b; omega
            af := fun q a b => by have := qa q a; have := qf q b; omega
            cf := fun q a b => by have := qc q a; have := qf q b; omega
            eg := fun i u hu q a b => by have := qe i u hu q a; have := qg q b; omega
            ea := fun i u hu q a b => by have := qe i u hu q a; have := qa q b; omega
            ec := HGp.out.d
            ef := fun i u hu q a b => by have := qe i u hu q a; have := qf q b; omega
            ee := fun i i' u u' hn hu hu' => HGp.out.dd i i' u u' hn hu hu' }
        · exact ((((HG0.out.trans' HG8.out).trans' HG9.out).trans HC10.out (fun q e => .inr (by have e1 : q = kc := e; omega))).trans HCr.out (fun q e => .inr (by have e1 : q = kc := e; omega))).trans C5 (fun q e => .inr (by have e1 : q = w.heap.size + 1 := e; omega))
end Go.Proofs.Ytfbkifkfhgkdbab.Sb
