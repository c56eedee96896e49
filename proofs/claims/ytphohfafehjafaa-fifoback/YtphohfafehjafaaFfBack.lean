/-
  What FifoBack of the statements answers: true, at any list and any call. Condition: the list is there, and shorter than 2^62.
-/
import Derived.Test.YtphohfafehjafaaFfUq
import Derived.Test.YtphohfafehjafaaFfActs
import Derived.Deep.DeepCutAuto
import Derived.Deep.CutBlock
namespace Go.Proofs.Ytphohfafehjafaa.Ff
open Go.RowKit
attribute [local go_sem ↓] Go.wp_at_zero Go.wp_at_succ

/-- some were taken out of A, one behind the other: Q i is what is left behind i of them -/
structure Taken (A T : List W3) (Q : Nat → List W3) : Prop where
  zero : Q 0 = A
  step : ∀ i y, T[i]? = some y → ∃ k, (Q i)[k]? = some y ∧ Q (i + 1) = (Q i).eraseIdx k
  sub : ∀ i, (Q i).Sublist A
  len : (Q T.length).length + T.length = A.length
theorem Taken.none (A : List W3) : Taken A [] (fun _ => A) := ⟨rfl, fun i y h => by simp at h, fun _ => List.Sublist.refl _, by simp⟩
theorem Taken.front (A : List W3) (m : Nat) (hm : m ≤ A.length) : Taken A (A.take m) (fun i => A.drop i) := by
  refine ⟨List.drop_zero, fun i y h => ⟨0, ?_, ?_⟩, fun i => List.drop_sublist _ _, by rw [List.length_take, List.length_drop]; omega⟩
  · rw [List.getElem?_drop, Nat.add_zero]
    rw [List.getElem?_take] at h
    split at h
    · exact h
    · cases h
  · rw [erase_cut]; unfold cutOut; rw [List.take_zero, List.nil_append, List.drop_drop]
theorem Taken.one (A : List W3) (k : Nat) (y : W3) (h : A[k]? = some y) : Taken A [y] (fun i => if i = 0 then A else A.eraseIdx k) := by
  have hk := (List.getElem?_eq_some_iff.1 h).1
  refine ⟨rfl, fun i z hz => ?_, fun i => ?_, ?_⟩
  · cases i with
    | zero =>
      simp only [List.getElem?_cons_zero, Option.some.injEq] at hz
      subst hz
      exact ⟨k, h, rfl⟩
    | succ i => simp at hz
  · split
    · exact List.Sublist.refl _
    · exact List.eraseIdx_sublist _ _
  · simp [List.length_eraseIdx_of_lt hk]; omega

/-- behind the taking: the queue, what was taken, what was there -/
def Mid (base b : Nat) (A : List W3) (w : World) (wv : Value) (t : Value) (wr : World) : Prop :=
  ∃ (T : List W3) (Q : Nat → List W3) (vq : Value) (at_ : Option Addr) (ct : Nat) (B : Nat), t = .slice at_ T.length ct ∧ Taken A T Q ∧ Que base wr b vq (Q T.length) ∧ Own B wr (.slice at_ T.length ct) T ∧ Own B wr wv A ∧ base ≤ B ∧ (∀ q, Blk vq q → ¬ Blk (.slice at_ T.length ct) q ∧ ¬ Blk wv q) ∧ Ch NoB w wr ∧ base ≤ wr.heap.size

theorem mid_none {base b B T0 : Nat} {A : List W3} {w W4 wf : World} {vq wv tv : Value} (hq : Que base W4 b vq A) (ho : Own T0 W4 tv []) (hw : Own B W4 wv A) (_hg4 : Ch NoB w W4) (ht : ∀ q, Blk tv q → q = T0) (hwb : ∀ q, Blk wv q → B ≤ q ∧ q < T0) (hbl : ∀ q, Blk vq q → q < B) (hBT : B ≤ T0) (hB4 : B ≤ W4.heap.size) (hbB : base ≤ B)
    (hg : Ch NoB w wf) (g : Ch NoB W4 wf) : Mid base b A w wv tv wf := by
  obtain ⟨ao, cap, rfl⟩ := ho.form
  have := g.size
  exact ⟨[], fun _ => A, vq, ao, cap, B, rfl, Taken.none A, hq.ch g (fun _ _ => noB _), (ho.ch g (fun _ _ => noB _)).base hBT, hw.ch g (fun _ _ => noB _), hbB, fun q e => ⟨fun e' => by have := ht q e'; have := hbl q e; omega, fun e' => by have := (hwb q e').1; have := hbl q e; omega⟩, hg, by omega⟩

set_option maxHeartbeats 4000000 in
set_option maxRecDepth 20000 in
theorem back_law (lv : Value) (l : List W3) (a : A6) (w : World) (hx : Lst (fun _ => True) w lv l) (hl : l.length ≤ 4611686018427387903) :
    Calls Try.prog 6 #[lv, .agg #[.int .i64 a.d, .int .i64 a.x.s, .int .i64 a.x.g, .int .u64 a.x.t, .int .i64 a.p, .int .i64 a.r]] w fun e w' => e = .returned (.bool true) ∧ Ch NoB w w' := by
  obtain ⟨la, lc, rfl⟩ := hx.form
  obtain ⟨n, hn⟩ : ∃ n, n = l.length := ⟨_, rfl⟩
  rw [← hn] at hl hx ⊢
  obtain ⟨W, hW⟩ : ∃ W, W = w.alloc (.cells #[.int .i64 a.d, .int .i64 a.x.s, .int .i64 a.x.g, .int .u64 a.x.t, .int .i64 a.p, .int .i64 a.r] 35) := ⟨_, rfl⟩
  have HS0 := hid (show Six W w.heap.size a.d a.x a.p a.r by rw [hW]; exact Six.new w a.d a.x a.p a.r)
  have HG0 := hid (show Ch NoB w W by rw [hW]; exact (Ch.refl _ _).alloc _)
  have HX := hid hx
  have HN := hid hn
  have hsl := HS0.out.lt
  clear hx hn
  go_enter Try.func6, Try.ntmps6
  go_wp2_with fail
  rw [← hW]
  clear hW
  refine (new_any _).mono ?_
  rintro e w1 ⟨b, rfl, hb, q1, g1⟩
  have HQ1 := hid (Que.new q1)
  have HG1 := hid (HG0.out.trans' g1)
  have HS1 := hid (HS0.out.ch g1 (noB _))
  have hs1 := g1.size
  clear q1 g1
  go_wp2_with fail
  refine (lives_any _).mono ?_
  rintro e w2 ⟨rfl, g2⟩
  have HQ2 := hid (HQ1.out.ch g2 (fun _ _ => noB _))
  have HG2 := hid (HG1.out.trans' g2)
  have HS2 := hid (HS1.out.ch g2 (noB _))
  have hs2 := g2.size
  clear g2
  go_wp2_with fail
  go_loopg [6] n (fun m i wr => ∃ j vq, j + m = n ∧ i = .int .i64 ((j : Nat) : Int) ∧ Que w1.heap.size wr b vq (loadL [] (l.take j)) ∧ Six wr w.heap.size a.d a.x a.p a.r ∧ Ch NoB w wr ∧ w1.heap.size ≤ wr.heap.size)
  case atStart => exact ⟨0, _, by omega, rfl, by rw [List.take_zero]; exact HQ2.out, HS2.out, HG2.out, hs2⟩
  case round =>
    obtain ⟨j, vq, hjk, rfl, hq, hsix, hg, hsz⟩ := hrel
    obtain ⟨A, hA⟩ : ∃ A, A = loadL [] (l.take j) := ⟨_, rfl⟩
    have hup := loadL_up (l.take j) [] Up.nil (by simp)
    rw [← hA] at hq hup
    have HQ := hid hq
    have HG := hid hg
    have HA := hid hA
    have HUP := hid hup
    have HSX := hid hsix
    clear hq hg hA hup hsix
    by_cases hj : j < n
    · obtain ⟨z, hz⟩ : ∃ z, l[j]? = some z := ⟨_, List.getElem?_eq_getElem (by rw [← HN.out]; exact hj)⟩
      obtain ⟨gb, o, rfl, _, hgl, a0, a1, a2⟩ := (HX.out.ch HG.out (fun _ _ _ => noB _)).get hz
      have j0 : (0 : Int) ≤ (j : Int) := by omega
      have j1 : (j : Int) < (n : Int) := by omega
      have hls := loadL_step (l := l) hz
      rw [← HA.out] at hls
      have HLS := hid hls
      clear hls hz
      go_wp2_with fail
      refine (put_any w1.heap.size b vq A z _ HQ.out HUP.out.1 hsz).mono ?_
      rintro e w3 ⟨rfl, l3⟩
      obtain ⟨ao3, c3, h3, g3, b3⟩ := l3.que
      have hs3 := g3.size
      have HQ3 := hid h3
      have HG3 := hid (HG.out.trans g3 (fun q e => .inr (by rcases e with e | e; omega; have := (HQ.out.2.1.blk e).1; omega)))
      have HSX3 := hid (HSX.out.ch g3 (fun e => by rcases e with e | e; omega; have := (HQ.out.2.1.blk e).1; omega))
      clear l3 h3 g3 b3
      go_wp2
      go_roundg (gk - 1)
      case measure => omega
      case rel => exact ⟨j + 1, _, by omega, by simp, by rw [HLS.out]; exact HQ3.out, HSX3.out, HG3.out, by omega⟩
    · have htk : l.take j = l := List.take_of_length_le (by rw [← HN.out]; omega)
      have hA' := HA.out
      rw [htk] at hA'
      have HUQ := hid (show Uq A by rw [hA']; exact load_uq l [] Uq.nil)
      have hbb := HQ.out.2.2.1
      have hlen := HQ.out.2.2.2
      obtain ⟨aq, cq, rfl⟩ := HQ.out.2.1.form
      clear hA' htk
      go_wp2_with fail
      refine (all_any (w1.heap.size ≤ ·) b _ A _ HQ.out.1 HQ.out.2.1.lst hlen).mono ?_
      rintro e w3 ⟨wv, rfl, o3, g3⟩
      obtain ⟨aw, cw, rfl⟩ := o3.form
      have hs3 := g3.size
      have HW3 := hid o3
      have HG3 := hid (HG.out.trans' g3)
      have HSX3 := hid (HSX.out.ch g3 (noB _))
      have HQ3 := hid (HQ.out.ch g3 (fun _ _ => noB _))
      have HBL := hid (fun q (h : Blk (.slice aq A.length cq) q) => (HQ.out.2.1.blk h).2)
      have WB := hid (fun q (h : Blk (.slice aw A.length cw) q) => (show wr.heap.size ≤ q ∧ q < w3.heap.size from ⟨(o3.blk h).1, (o3.blk h).2⟩))
      obtain ⟨r0, r1, r2, r3, r4, r5⟩ := HSX3.out.cells
      have rl := HSX3.out.lt
      obtain ⟨SB, hSB⟩ : ∃ SB, SB = wr.heap.size := ⟨_, rfl⟩
      rw [← hSB] at hs3 HW3 HBL WB hsz
      clear o3 g3 hSB
      go_upto_block 2 with fail
      clear r0 r1 r2 r3 r4 r5
      obtain ⟨W4, hW4⟩ : ∃ W4, W4 = w3.alloc (.cells #[] 33) := ⟨_, rfl⟩
      have G4 : Ch NoB w3 W4 := by rw [hW4]; exact (Ch.refl _ _).alloc _
      have O4 : Own w3.heap.size W4 (.slice (some ⟨w3.heap.size, 0, none⟩) 0 0) [] := by rw [hW4]; exact Own.lit w3
      have HO4 := hid O4
      have HW4 := hid (HW3.out.ch G4 (fun _ _ => noB _))
      have HG4 := hid (HG3.out.trans' G4)
      have HSX4 := hid (HSX3.out.ch G4 (noB _))
      have HQ4 := hid (HQ3.out.ch G4 (fun _ _ => noB _))
      have hs4 : W4.heap.size = w3.heap.size + 1 := by rw [hW4]; simp
      obtain ⟨s0, s1, s2, s3, s4, s5⟩ := HSX4.out.cells
      have sl4 := HSX4.out.lt
      rw [← hW4]
      clear hW4 G4 O4 HQ HG HA HSX HQ3 HG3 HSX3 HW3
      have HTB := hid (fun q (h : Blk (.slice (some ⟨w3.heap.size, 0, none⟩) 0 0) q) => show q = w3.heap.size by have h' : some w3.heap.size = some q := h; injection h' with h'; exact h'.symm)
      have HWB := hid (fun q (h : Blk (.slice aw A.length cw) q) => (show SB ≤ q ∧ q < w3.heap.size from WB.out q h))
      go_cut [8] (fun t wr => Mid w1.heap.size b A w (.slice aw A.length cw) t wr)
      case first =>
        by_cases h1 : a.d = 1
        · have d1 : (a.d == 1) = true := by simp; exact h1
          have H1 := hid h1
          clear h1
          by_cases hAn : A = []
          · have HQn := hid (show Que w1.heap.size W4 b (.slice aq A.length cq) [] by have := HQ4.out; rw [hAn] at this ⊢; exact this)
            clear hAn
            go_wp2_with fail
            refine (take_none w1.heap.size b _ W4 HQn.out).mono ?_
            rintro e w5 ⟨rfl, g5⟩
            have hs5 := g5.size
            have HG5 := hid g5
            clear g5
            go_wp2_with fail
            go_meet
            exact mid_none HQ4.out HO4.out HW4.out HG4.out HTB.out HWB.out HBL.out (by omega) (by omega) hsz ((HG4.out.trans' HG5.out).alloc _) ((Ch.refl _ _).trans' HG5.out |>.alloc _)
          · obtain ⟨y, r, hA1⟩ : ∃ y r, A = y :: r := by
              cases hAc : A with
              | nil => exact absurd hAc hAn
              | cons y r => exact ⟨y, r, rfl⟩
            have HQn := hid (show Que w1.heap.size W4 b (.slice aq A.length cq) (y :: r) by have := HQ4.out; rw [hA1] at this ⊢; exact this)
            have HTK := hid (show Taken A [y] (fun i => A.drop i) by rw [hA1]; exact Taken.front (y :: r) 1 (by simp))
            have HDR := hid (show A.drop 1 = r by rw [hA1]; rfl)
            clear hA1 hAn
            go_wp2_with fail
            refine (take_some w1.heap.size b _ y r W4 HQn.out).mono ?_
            rintro e w5 ⟨rfl, l5⟩
            obtain ⟨a5, c5, h5, g5, b5⟩ := l5.que
            have hs5 := g5.size
            have HQ5 := hid h5
            have HG5 := hid g5
            have HB5 := hid b5
            have HO5 := hid (HO4.out.ch g5 (fun q e e' => by have := HTB.out q e; rcases e' with e' | e'; omega; have := HBL.out q e'; omega))
            have HW5 := hid (HW4.out.ch g5 (fun q e e' => by have := HWB.out q e; rcases e' with e' | e'; omega; have := HBL.out q e'; omega))
            have T5 := Three.new (w5.alloc (.cells #[.int .i64 y.s, .int .i64 y.g, .int .u64 y.t] 33)) y
            simp only [World.size_alloc] at T5
            have HT5 := hid T5
            clear l5 h5 g5 b5 T5
            go_wp2_with (first | (at_builtin; refine wpList_append_own2 rfl (.tmp 72) (.tmp 74) rfl w3.heap.size _ _ rfl (Own.alloc (Own.alloc HO5.out _) _) _ _ [y] rfl (lst_three HT5.out) 1 rfl (by omega) (by simp <;> omega) _ rfl ?_; intro ao6 cap6 w6 ow6 cw6 bl6; have HO6 := hid ow6; have HC6 := hid cw6; have HB6 := hid bl6; clear ow6 cw6 bl6))
            go_meet
            have hz6 := HC6.out.size
            have hB6 := HB6.out
            simp only [World.size_alloc] at hz6 hB6
            refine ⟨[y], fun i => A.drop i, _, ao6, cap6, SB, rfl, HTK.out, (((by rw [HDR.out]; exact HQ5.out : Que w1.heap.size w5 b _ (A.drop 1)).alloc _).alloc _).ch HC6.out (fun q e e' => ?_), HO6.out.base (by omega), ((HW5.out.alloc _).alloc _).ch HC6.out (fun q e e' => ?_), hsz, fun q e => ⟨fun e' => ?_, fun e' => ?_⟩, ?_, ?_⟩
            · have t1 := HTB.out q e'
              rcases e with e | e
              · omega
              · rcases HB5.out q e with e | e
                · have := HBL.out q e; omega
                · omega
            · have t1 := HTB.out q e'; have := HWB.out q e; omega
            · have l1 := (HQ5.out.2.1.blk e).2
              rcases hB6 q e' with t1 | t1
              · have t1 := HTB.out q t1
                rcases HB5.out q e with e | e
                · have := HBL.out q e; omega
                · omega
              · omega
            · have t1 := HWB.out q e'
              rcases HB5.out q e with e | e
              · have := HBL.out q e; omega
              · omega
            · refine (((HG4.out.trans HG5.out (fun q e => .inr ?_)).alloc _).alloc _).trans HC6.out (fun q e => .inr ?_)
              · rcases e with e | e
                · omega
                · have := (HQ4.out.2.1.blk e).1; omega
              · have := HTB.out q e; omega
            · omega
        · have d1 : (a.d == 1) = false := by simp; exact h1
          by_cases h3 : a.d = 3
          · have d3 : (a.d == 3) = true := by simp; exact h3
            clear h1 h3
            cases hf : A.findIdx? (isG a.x.s a.x.g) with
            | none =>
              have hat : atG a.x.s a.x.g A = -1 := by unfold atG; rw [hf]
              have HAT := hid hat
              clear hat hf
              go_wp2_with fail
              refine (drop_none w1.heap.size b _ A a.x.s a.x.g W4 HQ4.out HAT.out).mono ?_
              rintro e w5 ⟨rfl, g5⟩
              have hs5 := g5.size
              have HG5 := hid g5
              clear g5
              go_wp2_with fail
              go_meet
              exact mid_none HQ4.out HO4.out HW4.out HG4.out HTB.out HWB.out HBL.out (by omega) (by omega) hsz ((HG4.out.trans' HG5.out).alloc _) ((Ch.refl _ _).trans' HG5.out |>.alloc _)
            | some k =>
              have hat : atG a.x.s a.x.g A = (k : Int) := by unfold atG; rw [hf]
              obtain ⟨hk, _⟩ := List.findIdx?_eq_some_iff_getElem.1 hf
              obtain ⟨y, hy⟩ : ∃ y, A[k]? = some y := ⟨_, List.getElem?_eq_getElem hk⟩
              have HAT := hid hat
              have HY := hid hy
              clear hat hf hy
              go_wp2_with fail
              refine (drop_some w1.heap.size b k _ A a.x.s a.x.g y W4 HQ4.out HAT.out HY.out).mono ?_
              rintro e w5 ⟨rfl, l5⟩
              obtain ⟨a5, c5, h5, g5, b5⟩ := l5.que
              have hs5 := g5.size
              have HQ5 := hid h5
              have HG5 := hid g5
              have HB5 := hid b5
              have HO5 := hid (HO4.out.ch g5 (fun q e e' => by have := HTB.out q e; rcases e' with e' | e'; omega; have := HBL.out q e'; omega))
              have HW5 := hid (HW4.out.ch g5 (fun q e e' => by have := HWB.out q e; rcases e' with e' | e'; omega; have := HBL.out q e'; omega))
              have T5 := Three.new (w5.alloc (.cells #[.int .i64 y.s, .int .i64 y.g, .int .u64 y.t] 33)) y
              simp only [World.size_alloc] at T5
              have HT5 := hid T5
              clear l5 h5 g5 b5 T5
              go_wp2_with (first | (at_builtin; refine wpList_append_own2 rfl (.tmp 88) (.tmp 90) rfl w3.heap.size _ _ rfl (Own.alloc (Own.alloc HO5.out _) _) _ _ [y] rfl (lst_three HT5.out) 1 rfl (by omega) (by simp <;> omega) _ rfl ?_; intro ao6 cap6 w6 ow6 cw6 bl6; have HO6 := hid ow6; have HC6 := hid cw6; have HB6 := hid bl6; clear ow6 cw6 bl6))
              go_meet
              have hz6 := HC6.out.size
              have hB6 := HB6.out
              simp only [World.size_alloc] at hz6 hB6
              refine ⟨[y], fun i => if i = 0 then A else A.eraseIdx k, _, ao6, cap6, SB, rfl, Taken.one A k y HY.out, (((by rw [erase_cut]; exact HQ5.out : Que w1.heap.size w5 b _ (A.eraseIdx k)).alloc _).alloc _).ch HC6.out (fun q e e' => ?_), HO6.out.base (by omega), ((HW5.out.alloc _).alloc _).ch HC6.out (fun q e e' => ?_), hsz, fun q e => ⟨fun e' => ?_, fun e' => ?_⟩, ?_, ?_⟩
              · have t1 := HTB.out q e'
                rcases e with e | e
                · omega
                · rcases HB5.out q e with e | e
                  · have := HBL.out q e; omega
                  · omega
              · have t1 := HTB.out q e'; have := HWB.out q e; omega
              · have l1 := (HQ5.out.2.1.blk e).2
                rcases hB6 q e' with t1 | t1
                · have t1 := HTB.out q t1
                  rcases HB5.out q e with e | e
                  · have := HBL.out q e; omega
                  · omega
                · omega
              · have t1 := HWB.out q e'
                rcases HB5.out q e with e | e
                · have := HBL.out q e; omega
                · omega
              · refine (((HG4.out.trans HG5.out (fun q e => .inr ?_)).alloc _).alloc _).trans HC6.out (fun q e => .inr ?_)
                · rcases e with e | e
                  · omega
                  · have := (HQ4.out.2.1.blk e).1; omega
                · have := HTB.out q e; omega
              · omega
          · have d3 : (a.d == 3) = false := by simp; exact h3
            clear h1 h3
            by_cases hpr : a.p < 1 ∨ a.r < 0
            · have HPR := hid hpr
              clear hpr
              go_wp2_with fail
              refine (batch_err b a.p a.r W4 HPR.out).mono ?_
              rintro e w5 ⟨rfl, g5⟩
              have hs5 := g5.size
              have HG5 := hid (g5.any (S := QS b (.slice aq A.length cq)))
              have HQ5 := hid (HQ4.out.ch g5 (fun _ _ => noB _))
              have HO5 := hid (HO4.out.ch g5 (fun _ _ => noB _))
              have HW5 := hid (HW4.out.ch g5 (fun _ _ => noB _))
              have HB5 := hid (fun q (e : Blk (.slice aq A.length cq) q) => (Or.inl e : Blk (.slice aq A.length cq) q ∨ W4.heap.size ≤ q))
              have HNB := hid (show (0 : Nat) = ([] : List W3).length from rfl)
              clear g5
              go_wp2_with fail
              go_loopg [8, 15] 0 (fun m t i wv => ∃ j at_ ct, j + m = 0 ∧ i = .int .i64 ((j : Nat) : Int) ∧ t = .slice at_ j ct ∧ Own w3.heap.size wv (.slice at_ j ct) (([]).take j) ∧ (∀ q, Blk (.slice at_ j ct) q → q = w3.heap.size ∨ w5.heap.size ≤ q) ∧ Ch (Only w3.heap.size) w5 wv)
              case atStart => exact ⟨0, _, _, by omega, rfl, rfl, by rw [List.take_zero]; exact HO5.out, fun q e => .inl (HTB.out q e), Ch.refl _ _⟩
              case round =>
                obtain ⟨i, at_, ct, hik, rfl, rfl, ho, hbt, hg⟩ := hrel
                have HOi := hid ho
                have HBi := hid hbt
                have HGi := hid hg
                have hsi := hg.size
                clear ho hbt hg
                by_cases hi : i < 0
                · exact absurd hi (Nat.not_lt_zero _)
                · have hie : i = 0 := by omega
                  have htk : ([]).take i = [] := List.take_of_length_le (by have := HNB.out; omega)
                  rw [htk] at HOi
                  clear htk
                  go_wp2_with fail
                  go_meet
                  rw [hie] at HOi HBi ⊢
                  have hNB := HNB.out
                  refine ⟨[], fun _ => A, _, at_, ct, SB, by rw [← hNB], Taken.none A, (HQ5.out).ch HGi.out (fun q e e' => ?_), by rw [← hNB]; exact HOi.out.base (by omega), HW5.out.ch HGi.out (fun q e e' => ?_), hsz, fun q e => ⟨fun e' => ?_, fun e' => ?_⟩, ?_, by omega⟩
                  · have t1 : q = w3.heap.size := e'
                    rcases e with e | e
                    · omega
                    · rcases HB5.out q e with e | e
                      · have := HBL.out q e; omega
                      · omega
                  · have t1 : q = w3.heap.size := e'
                    have := HWB.out q e; omega
                  · have l1 := (HQ5.out.2.1.blk e).2
                    rcases HBi.out q e' with t1 | t1
                    · rcases HB5.out q e with e | e
                      · have := HBL.out q e; omega
                      · omega
                    · omega
                  · have t1 := HWB.out q e'
                    rcases HB5.out q e with e | e
                    · have := HBL.out q e; omega
                    · omega
                  · exact (HG4.out.trans HG5.out (fun q e => .inr (by rcases e with e | e; omega; have := (HQ4.out.2.1.blk e).1; omega))).trans HGi.out (fun q e => .inr (by have t1 : q = w3.heap.size := e; omega))
            · have hp : ¬ a.p < 1 := fun e => hpr (.inl e)
              have hr : ¬ a.r < 0 := fun e => hpr (.inr e)
              obtain ⟨M, hM⟩ : ∃ M, M = batchN a.p a.r A.length := ⟨_, rfl⟩
              have hB := batch_any w1.heap.size b _ a.p a.r A W4 HQ4.out hp hr
              have hMl := batchN_le a.p a.r A.length
              rw [← hM] at hB hMl
              have HB := hid hB
              clear hB hM hpr hp hr
              go_wp2_with fail
              refine HB.out.mono ?_
              rintro e w5 ⟨out5, rfl, o5, l5⟩
              obtain ⟨ab, cb, rfl⟩ := o5.form
              obtain ⟨a5, c5, h5, g5, b5⟩ := l5.que
              have hs5 := g5.size
              have HU5 := hid o5
              have HQ5 := hid h5
              have HG5 := hid g5
              have HB5 := hid b5
              have HO5 := hid (HO4.out.ch g5 (fun q e e' => by have := HTB.out q e; rcases e' with e' | e'; omega; have := HBL.out q e'; omega))
              have HW5 := hid (HW4.out.ch g5 (fun q e e' => by have := HWB.out q e; rcases e' with e' | e'; omega; have := HBL.out q e'; omega))
              obtain ⟨nb, hnb⟩ : ∃ nb, nb = (A.take M).length := ⟨_, rfl⟩
              have hnbl : nb ≤ 4096 := by rw [hnb, List.length_take]; omega
              have HNB := hid hnb
              rw [← hnb] at HU5 ⊢
              have HLM := hid (show (A.take M).length = M by rw [List.length_take]; omega)
              clear o5 l5 h5 g5 b5 hnb HB
              go_wp2_with fail
              go_loopg [8, 15] nb (fun m t i wv => ∃ j at_ ct, j + m = nb ∧ i = .int .i64 ((j : Nat) : Int) ∧ t = .slice at_ j ct ∧ Own w3.heap.size wv (.slice at_ j ct) ((A.take M).take j) ∧ (∀ q, Blk (.slice at_ j ct) q → q = w3.heap.size ∨ w5.heap.size ≤ q) ∧ Ch (Only w3.heap.size) w5 wv)
              case atStart => exact ⟨0, _, _, by omega, rfl, rfl, by rw [List.take_zero]; exact HO5.out, fun q e => .inl (HTB.out q e), Ch.refl _ _⟩
              case round =>
                obtain ⟨i, at_, ct, hik, rfl, rfl, ho, hbt, hg⟩ := hrel
                have HOi := hid ho
                have HBi := hid hbt
                have HGi := hid hg
                have hsi := hg.size
                clear ho hbt hg
                by_cases hi : i < nb
                · obtain ⟨z, hz⟩ : ∃ z, (A.take M)[i]? = some z := ⟨_, List.getElem?_eq_getElem (by have := HNB.out; omega)⟩
                  obtain ⟨gb, o, rfl, _, hgl, a0, a1, a2⟩ := ((HU5.out.ch HGi.out (fun q e e' => by have := (HU5.out.blk e).1; have t1 : q = w3.heap.size := e'; omega)).lst).get hz
                  have i0 : (0 : Int) ≤ (i : Int) := by omega
                  have i1 : (i : Int) < (nb : Int) := by omega
                  have ht : (A.take M).take (i + 1) = (A.take M).take i ++ [z] := by rw [List.take_add_one, hz]; rfl
                  have HTK := hid ht
                  have HTL := hid (show ((A.take M).take i).length = i by rw [List.length_take]; have := HNB.out; omega)
                  clear hz ht
                  go_wp2_with (first | (at_builtin; refine wpList_append_own2 rfl (.tmp 56) (.tmp 61) rfl w3.heap.size _ _ rfl (Own.alloc HOi.out _) _ _ [z] rfl (lst_three (Three.new _ z)) (i + 1) (by rw [HTL.out]; rfl) (by omega) (by simp <;> omega) _ rfl ?_; intro ao6 cap6 w6 ow6 cw6 bl6; have HO6 := hid ow6; have HC6 := hid cw6; have HB6 := hid bl6; clear ow6 cw6 bl6))
                  go_roundg (gk - 1)
                  case measure => omega
                  case rel =>
                    have hB6 := HB6.out
                    simp only [World.size_alloc] at hB6
                    refine ⟨i + 1, _, _, by omega, by simp, rfl, by rw [HTK.out]; exact HO6.out, fun q e => ?_, (HGi.out.alloc _).trans HC6.out (fun q e => (HBi.out q e).imp id id)⟩
                    rcases hB6 q e with e | e
                    · exact HBi.out q e
                    · exact .inr (by omega)
                · have hie : i = nb := by omega
                  have htk : (A.take M).take i = A.take M := List.take_of_length_le (by have := HNB.out; omega)
                  rw [htk] at HOi
                  clear htk
                  go_wp2_with fail
                  go_meet
                  rw [hie] at HOi HBi ⊢
                  have hNB := HNB.out
                  refine ⟨A.take M, fun i => A.drop i, _, at_, ct, SB, by rw [← hNB], Taken.front A M hMl, ((by rw [HLM.out]; exact HQ5.out : Que w1.heap.size w5 b _ (A.drop (A.take M).length))).ch HGi.out (fun q e e' => ?_), by rw [← hNB]; exact HOi.out.base (by omega), HW5.out.ch HGi.out (fun q e e' => ?_), hsz, fun q e => ⟨fun e' => ?_, fun e' => ?_⟩, ?_, by omega⟩
                  · have t1 : q = w3.heap.size := e'
                    rcases e with e | e
                    · omega
                    · rcases HB5.out q e with e | e
                      · have := HBL.out q e; omega
                      · omega
                  · have t1 : q = w3.heap.size := e'
                    have := HWB.out q e; omega
                  · have l1 := (HQ5.out.2.1.blk e).2
                    rcases HBi.out q (by rw [← hNB] at e'; exact e') with t1 | t1
                    · rcases HB5.out q e with e | e
                      · have := HBL.out q e; omega
                      · omega
                    · omega
                  · have t1 := HWB.out q e'
                    rcases HB5.out q e with e | e
                    · have := HBL.out q e; omega
                    · omega
                  · exact (HG4.out.trans HG5.out (fun q e => .inr (by rcases e with e | e; omega; have := (HQ4.out.2.1.blk e).1; omega))).trans HGi.out (fun q e => .inr (by have t1 : q = w3.heap.size := e; omega))
      case rest =>
        obtain ⟨T, Q, vq, at_, ct, B, rfl, htk, hq, ho, hw, hB, hsep, hg, hsc⟩ := hcut
        obtain ⟨ac, cc, rfl⟩ := hq.2.1.form
        obtain ⟨nt, hnt⟩ : ∃ nt, nt = T.length := ⟨_, rfl⟩
        obtain ⟨nq, hnq⟩ : ∃ nq, nq = (Q T.length).length := ⟨_, rfl⟩
        obtain ⟨na, hna⟩ : ∃ na, na = A.length := ⟨_, rfl⟩
        have hsum := htk.len
        have hna4 : na ≤ 4096 := by rw [hna]; exact hlen
        rw [← hnq, ← hnt, ← hna] at hsum
        have hlq := hq.2.2.2
        rw [← hnq] at hlq
        have hw1 : IntKind.i64.wrap ((nq : Int) + (nt : Int)) = (na : Int) := by rw [IntKind.wrap_i64]; omega
        have hw3 : IntKind.i64.wrap ((nt : Int) - 1) = (nt : Int) - 1 := by rw [IntKind.wrap_i64]; omega
        rw [← hnq] at hq hsep
        rw [← hnt] at hq ho hsep ⊢
        rw [← hna] at hw hsep
        have HTK := hid htk
        have HQc := hid hq
        have HOc := hid ho
        have HWc := hid hw
        have HSEP := hid hsep
        have HGc := hid hg
        have HNT := hid hnt
        have HNQ := hid hnq
        have HNA := hid hna
        rw [← hna]
        clear s0 s1 s2 s3 s4 s5 htk hq ho hw hsep hg hnt hnq hna
        go_wp2_with fail
        refine (len_any b ac nq cc wc HQc.out.1).mono ?_
        rintro e wl ⟨rfl, rfl⟩
        go_wp2_with fail
        go_loopg [16] nt (fun m i wv => ∃ vq, i = .int .i64 ((m : Int) - 1) ∧ m ≤ nt ∧ Que w1.heap.size wv b vq (Q m) ∧ Own B wv (.slice at_ nt ct) T ∧ Own B wv (.slice aw na cw) A ∧ (∀ q, Blk vq q → ¬ Blk (.slice at_ nt ct) q ∧ ¬ Blk (.slice aw na cw) q) ∧ Ch NoB w wv ∧ w1.heap.size ≤ wv.heap.size)
        case atStart => exact ⟨_, rfl, Nat.le_refl _, HQc.out, HOc.out, HWc.out, HSEP.out, HGc.out, hsc⟩
        case round =>
          obtain ⟨vi, rfl, hmn, hqi, hoi, hwi, hsi, hgi, hzi⟩ := hrel
          have HQi := hid hqi
          have HOi := hid hoi
          have HWi := hid hwi
          have HSi := hid hsi
          have HGi := hid hgi
          clear hqi hoi hwi hsi hgi
          by_cases hm : 0 < gk
          · obtain ⟨i, hi⟩ : ∃ i, gk = i + 1 := ⟨gk - 1, by omega⟩
            subst hi
            obtain ⟨y, hy⟩ : ∃ y, T[i]? = some y := ⟨_, List.getElem?_eq_getElem (by rw [← HNT.out]; omega)⟩
            obtain ⟨k, hk1, hk2⟩ := HTK.out.step i y hy
            have hub := up_sub HUP.out.1 (HTK.out.sub i)
            have huq := uq_sub HUQ.out (HTK.out.sub i)
            have hlb : (Q i).length ≤ 4096 := Nat.le_trans (HTK.out.sub i).length_le hlen
            obtain ⟨hp1, hp2, hp3⟩ := put_back hub huq hlb hk1
            rw [← hk2] at hp1 hp2 hp3
            have hpu := up_sub HUP.out.1 (HTK.out.sub (i + 1))
            obtain ⟨gt, co, hat, hgB, hgt⟩ := World.ownsRow.form HOi.out (by rw [← HNT.out]; omega)
            injection hat with hat hat2 hat3
            subst hat hat3
            clear hat2
            obtain ⟨a0, a1, a2⟩ := HOi.out.get hy
            have hH := has_any (w1.heap.size ≤ ·) b vi (Q (i + 1)) y.s y.g wr HQi.out.1 HQi.out.2.1.lst (by have := HQi.out.2.2.2; omega)
            rw [hp1] at hH
            have hHd : decide (0 ≤ (-1 : Int)) = false := by decide
            rw [hHd] at hH
            have HH := hid hH
            have HP := hid (fun W (h : Que w1.heap.size W b vi (Q (i + 1))) (h2 : w1.heap.size ≤ W.heap.size) => put_any w1.heap.size b vi (Q (i + 1)) y W h hpu h2)
            rw [hp2, hp3] at HP
            have i0 : ((i + 1 : Nat) : Int) - 1 = (i : Int) := by omega
            have i1 : (0 : Int) ≤ (i : Int) := by omega
            have i2 : (i : Int) < (nt : Int) := by omega
            rw [i0]
            have hwi : IntKind.i64.wrap ((i : Int) - 1) = (i : Int) - 1 := by rw [IntKind.wrap_i64]; omega
            clear hy hk1 hk2 hub huq hlb hp1 hp2 hp3 hpu hH hHd i0
            go_wp2_with fail
            refine HH.out.mono ?_
            rintro e w5 ⟨rfl, g5⟩
            have hs5 := g5.size
            have HQ5 := hid (HQi.out.ch g5 (fun _ _ => noB _))
            have HO5 := hid (HOi.out.ch g5 (fun _ _ => noB _))
            have HW5 := hid (HWi.out.ch g5 (fun _ _ => noB _))
            have HG5 := hid (HGi.out.trans' g5)
            have b0 := (g5.cell hgt (noB _)).trans a0
            have b1 := (g5.cell hgt (noB _)).trans a1
            have b2 := (g5.cell hgt (noB _)).trans a2
            have hgt5 : gt < w5.heap.size := by omega
            clear g5
            go_wp2_with fail
            refine (HP.out w5 HQ5.out (by omega)).mono ?_
            rintro e w6 ⟨rfl, l6⟩
            obtain ⟨v6, h6, g6, b6⟩ := l6
            have hs6 := g6.size
            have HQ6 := hid h6
            have hqs : ∀ q, QS b vi q → ¬ Blk (.slice (some ⟨gt, 0, none⟩) nt ct) q ∧ ¬ Blk (.slice aw na cw) q := fun q e => by
              rcases e with e | e
              · exact ⟨fun e' => by have := (HO5.out.blk e').1; omega, fun e' => by have := (HW5.out.blk e').1; omega⟩
              · exact HSi.out q e
            have HO6 := hid (HO5.out.ch g6 (fun q e e' => (hqs q e').1 e))
            have HW6 := hid (HW5.out.ch g6 (fun q e e' => (hqs q e').2 e))
            have HS6 := hid (show ∀ q, Blk v6 q → ¬ Blk (.slice (some ⟨gt, 0, none⟩) nt ct) q ∧ ¬ Blk (.slice aw na cw) q from fun q e => by
              rcases b6 q e with e | e
              · exact HSi.out q e
              · exact ⟨fun e' => by have := (HO5.out.blk e').2; omega, fun e' => by have := (HW5.out.blk e').2; omega⟩)
            have HG6 := hid (HG5.out.trans g6 (fun q e => .inr (by rcases e with e | e; omega; have := (HQ5.out.2.1.blk e).1; omega)))
            clear h6 g6 b6 hqs
            go_wp2
            go_roundg i
            case measure => omega
            case rel => exact ⟨v6, rfl, by omega, HQ6.out, HO6.out, HW6.out, HS6.out, HG6.out, by omega⟩
          · have hz : gk = 0 := by omega
            subst hz
            have hQ0 := HTK.out.zero
            have hA := all_any (w1.heap.size ≤ ·) b vi (Q 0) wr HQi.out.1 HQi.out.2.1.lst HQi.out.2.2.2
            rw [hQ0] at hA
            have HA := hid hA
            have HWl := hid HWi.out.lst
            clear hQ0 hA
            go_wp2_with fail
            refine HA.out.mono ?_
            rintro e w5 ⟨v5, rfl, o5, g5⟩
            have HO5 := hid o5
            have HW5 := hid (HWl.out.ch g5 (fun _ _ _ => noB _))
            have HG5 := hid (HGi.out.trans' g5)
            clear o5 g5
            go_wp2_with fail
            refine (same_eq _ _ _ _ A w5 HO5.out.lst HW5.out (by omega)).mono ?_
            rintro e w6 ⟨rfl, mm, rfl⟩
            go_wp2
            go_ret
            exact ⟨rfl, HG5.out.drewN _⟩
end Go.Proofs.Ytphohfafehjafaa.Ff
