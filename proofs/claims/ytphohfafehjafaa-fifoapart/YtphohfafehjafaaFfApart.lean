/-
  What FifoApart of the statements answers: true, at any two lists of calls. Condition: the lists are there, and shorter than 2^62.
-/
import Derived.Test.YtphohfafehjafaaFfPlays
namespace Go.Proofs.Ytphohfafehjafaa.Ff
open Go.RowKit
attribute [local go_sem ↓] Go.wp_at_zero Go.wp_at_succ

/-- two queues and the document's two lists, all apart -/
def Two (base b c : Nat) (w : World) (lv mv : Value) (wr : World) : Prop :=
  ∃ (v u : Value) (P R : Nat → Prop) (xs ys : List W3), Que base wr b v xs ∧ Que base wr c u ys ∧ Up xs ∧ Up ys ∧ Lst P wr lv xs ∧ Lst R wr mv ys ∧
    (∀ q, P q → ¬ QS b v q ∧ ¬ QS c u q) ∧ (∀ q, R q → ¬ QS b v q ∧ ¬ QS c u q) ∧ (∀ q, QS b v q → ¬ QS c u q) ∧ base ≤ wr.heap.size ∧ Ch NoB w wr ∧ w.heap.size ≤ b ∧ w.heap.size ≤ c
theorem Two.swap {base b c : Nat} {w wr : World} {lv mv : Value} (h : Two base b c w lv mv wr) : Two base c b w mv lv wr := by
  obtain ⟨v, u, P, R, xs, ys, h1, h2, h3, h4, h5, h6, h7, h8, h9, h10, h11, h12, h13⟩ := h
  exact ⟨u, v, R, P, ys, xs, h2, h1, h4, h3, h6, h5, fun q e => ⟨(h8 q e).2, (h8 q e).1⟩, fun q e => ⟨(h7 q e).2, (h7 q e).1⟩, fun q e e' => h9 q e' e, h10, h11, h13, h12⟩
theorem Que.below {base b : Nat} {w : World} {v : Value} {xs : List W3} (h : Que base w b v xs) {q : Nat} (e : QS b v q) : q < w.heap.size := by
  rcases e with e | e
  · rw [e]; exact h.1.lt
  · exact (h.2.1.blk e).2
theorem two_step {base b c : Nat} {w wr w' : World} {lv' mv v u : Value} {P R : Nat → Prop} {xs ys xs' : List W3} (h1 : Que base wr b v xs) (h2 : Que base wr c u ys) (h4 : Up ys) (h6 : Lst R wr mv ys) (h7 : ∀ q, P q → ¬ QS b v q ∧ ¬ QS c u q) (h8 : ∀ q, R q → ¬ QS b v q ∧ ¬ QS c u q)
    (h9 : ∀ q, QS b v q → ¬ QS c u q) (h10 : base ≤ wr.heap.size) (h11 : Ch NoB w wr) (h12 : w.heap.size ≤ b) (h13 : w.heap.size ≤ c) (h : Done base b v P wr lv' xs' w') : Two base b c w lv' mv w' := by
  obtain ⟨v', P', k1, k2, k3, k4, k5, k6, k7⟩ := h
  have hs := k3.size
  have hbb := h1.2.2.1
  have qs' : ∀ q, QS b v' q → QS b v q ∨ wr.heap.size ≤ q := fun q e => by
    rcases e with e | e
    · exact .inl (.inl e)
    · exact (k4 q e).imp .inr id
  have h6' : Lst (fun q => R q ∧ q < wr.heap.size) wr mv ys := h6.mono (fun q a c => ⟨c, a⟩)
  refine ⟨v', u, P', _, xs', ys, k1, h2.ch k3 (fun q e e' => h9 q e' e), k2, h4, k5, h6'.ch k3 (fun q _ e e' => (h8 q e.1).1 e'), fun q e => ⟨k7 q e, fun e' => ?_⟩, fun q e => ⟨fun e' => ?_, (h8 q e.1).2⟩, fun q e e' => ?_, by omega, h11.trans k3 (fun q e => .inr ?_), h12, h13⟩
  · have := h2.below e'
    rcases k6 q e with a | a
    · exact (h7 q a).2 e'
    · omega
  · have := e.2
    rcases qs' q e' with a | a
    · exact (h8 q e.1).1 a
    · omega
  · have := h2.below e'
    rcases qs' q e with a | a
    · exact h9 q a e'
    · omega
  · rcases e with e | e
    · omega
    · have := (h1.2.1.blk e).1; omega

set_option maxHeartbeats 2000000 in
set_option maxRecDepth 20000 in
theorem apart_law (ov : Value) (os : List A6) (pv : Value) (ps : List A6) (w : World) (ho : Ops w.heap.size w ov os) (hl : os.length ≤ 4611686018427387903) (hp : Ops w.heap.size w pv ps) (hk : ps.length ≤ 4611686018427387903) :
    Calls Try.prog 7 #[ov, pv] w fun e w' => e = .returned (.bool true) ∧ Ch NoB w w' := by
  obtain ⟨oa, oc, rfl⟩ := ho.form
  obtain ⟨pa, pc, rfl⟩ := hp.form
  obtain ⟨m, hm⟩ : ∃ m, m = os.length := ⟨_, rfl⟩
  obtain ⟨t, ht⟩ : ∃ t, t = ps.length := ⟨_, rfl⟩
  rw [← hm] at ho hl ⊢
  rw [← ht] at hp hk ⊢
  have HO := hid ho
  have HM := hid hm
  have HOP := hid hp
  have HT := hid ht
  clear ho hm hp ht
  go_enter Try.func7, Try.ntmps7
  go_wp2_with fail
  refine (new_any _).mono ?_
  rintro e w1 ⟨b, rfl, hb, q1, g1⟩
  have HQ1 := hid q1
  have HG1 := hid g1
  have hs1 := g1.size
  clear q1 g1
  go_wp2_with fail
  refine (new_any _).mono ?_
  rintro e w2 ⟨c, rfl, hc, q2, g2⟩
  have HQ2 := hid q2
  have HQ12 := hid (HQ1.out.ch g2 (noB _))
  have HG2 := hid (HG1.out.trans' g2)
  have hs2 := g2.size
  clear q2 g2
  go_wp2_with fail
  refine (lives_any _).mono ?_
  rintro e w3 ⟨rfl, g3⟩
  have HG3 := hid g3
  have hs3 := g3.size
  clear g3
  have HS : Hid (Two w2.heap.size b c w (.slice (some ⟨w3.heap.size, 0, none⟩) 0 0) (.slice (some ⟨w3.heap.size + 1, 0, none⟩) 0 0) ((w3.alloc (.cells #[] 33)).alloc (.cells #[] 33))) := by
    have hb1 := HQ12.out.lt
    have hc1 := HQ2.out.lt
    have hb2 := HQ1.out.lt
    have L2 := Own.lit (w3.alloc (.cells #[] 33))
    simp only [World.size_alloc] at L2
    have nb : ∀ q, ¬ Blk (.slice none 0 0) q := fun q e => by cases e
    refine hid ⟨.slice none 0 0, .slice none 0 0, (w3.heap.size ≤ ·), (w3.heap.size + 1 ≤ ·), [], [], (((Que.new HQ12.out).ch HG3.out (fun _ _ => noB _)).alloc _).alloc _, (((Que.new HQ2.out).ch HG3.out (fun _ _ => noB _)).alloc _).alloc _, Up.nil, Up.nil, (Own.lit w3).lst.alloc _, L2.lst, fun q h => ?_, fun q h => ?_, fun q e e' => ?_, by simp; omega, ((HG2.out.trans' HG3.out).alloc _).alloc _, hb, by omega⟩
    · have h' : w3.heap.size ≤ q := h
      exact ⟨fun e => e.elim (fun e => by omega) (nb q), fun e => e.elim (fun e => by omega) (nb q)⟩
    · have h' : w3.heap.size + 1 ≤ q := h
      exact ⟨fun e => e.elim (fun e => by omega) (nb q), fun e => e.elim (fun e => by omega) (nb q)⟩
    · rcases e with e | e
      · rcases e' with e' | e'
        · omega
        · exact nb q e'
      · exact nb q e
  go_wp2_with fail
  obtain ⟨M, hM1, hM2, hM3⟩ : ∃ M, m ≤ M ∧ t ≤ M ∧ (M = m ∨ M = t) := ⟨max m t, Nat.le_max_left _ _, Nat.le_max_right _ _, by omega⟩
  have HM3 := hid hM3
  clear hM3
  go_loopg [7, 8, 9, 10] M (fun k l mm ok i wr => ∃ j ao n cl au nu cu, j + k = M ∧ ok = .bool true ∧ i = .int .i64 ((j : Nat) : Int) ∧ l = .slice ao n cl ∧ mm = .slice au nu cu ∧ Two w2.heap.size b c w (.slice ao n cl) (.slice au nu cu) wr)
  case atStart => exact ⟨0, _, _, _, _, _, _, by omega, rfl, rfl, rfl, rfl, HS.out⟩
  case round =>
    obtain ⟨j, ao, n, cl, au, nu, cu, hjk, rfl, rfl, rfl, rfl, v, u, P, R, xs, ys, hq, hr, hu, hur, hl1, hlr, hP, hPR, hA, hbs, hg, hwb, hwc⟩ := hrel
    have HQ := hid hq
    have HR := hid hr
    have HU := hid hu
    have HUR := hid hur
    have HL := hid hl1
    have HLR := hid hlr
    have HP := hid hP
    have HPR := hid hPR
    have HA := hid hA
    have HG := hid hg
    clear hq hr hu hur hl1 hlr hP hPR hA hg
    by_cases hj : j < m
    · obtain ⟨a, hqa⟩ : ∃ q, os[j]? = some q := ⟨_, List.getElem?_eq_getElem (by rw [← HM.out]; exact hj)⟩
      obtain ⟨g, o, rfl, hgB, o0, o1, o2, o3, o4, o5⟩ := (HO.out.ch HG.out (Nat.le_refl _) (fun _ _ => noB _)).get hqa
      have hgl := HG.out.size
      have hgl2 : g < wr.heap.size := by omega
      have j0 : (0 : Int) ≤ (j : Int) := by omega
      have j1 : (j : Int) < (m : Int) := by omega
      clear hqa
      by_cases hj2 : j < t
      · have j2 : (j : Int) < (t : Int) := by omega
        go_wp2_with fail
        refine (does_any P w2.heap.size b v _ xs a.d a.x a.p a.r _ HQ.out HU.out HL.out (fun q e => (HP.out q e).1) hbs).mono ?_
        rintro e w5 ⟨ao5, n5, c5, xs5, rfl, d5⟩
        have HS5 := hid (two_step HQ.out HR.out HUR.out HLR.out HP.out HPR.out HA.out hbs HG.out hwb hwc d5)
        clear d5
        obtain ⟨v', u', P', R', xs', ys', h1, h2, h3, h4, h5, h6, h7, h8, h9, h10, h11, h12, h13⟩ := HS5.out
        have HQ' := hid h1
        have HR' := hid h2
        have HU' := hid h3
        have HUR' := hid h4
        have HL' := hid h5
        have HLR' := hid h6
        have HP' := hid h7
        have HPR' := hid h8
        have HA' := hid h9
        have HG' := hid h11
        clear h1 h2 h3 h4 h5 h6 h7 h8 h9 h11 h12 h13
        obtain ⟨d, hqd⟩ : ∃ q, ps[j]? = some q := ⟨_, List.getElem?_eq_getElem (by rw [← HT.out]; exact hj2)⟩
        obtain ⟨g2, y, rfl, hgB2, y0, y1, y2, y3, y4, y5⟩ := (HOP.out.ch HG'.out (Nat.le_refl _) (fun _ _ => noB _)).get hqd
        have hgl3 := HG'.out.size
        have hgl4 : g2 < w5.heap.size := by omega
        clear hqd
        go_wp2_with fail
        refine (does_any R' w2.heap.size c u' _ ys' d.d d.x d.p d.r _ HR'.out HUR'.out HLR'.out (fun q e => (HPR'.out q e).2) h10).mono ?_
        rintro e w6 ⟨ao6, n6, c6, xs6, rfl, d6⟩
        have HS6 := hid (Two.swap (two_step HR'.out HQ'.out HU'.out HL'.out (fun q e => ⟨(HPR'.out q e).2, (HPR'.out q e).1⟩) (fun q e => ⟨(HP'.out q e).2, (HP'.out q e).1⟩) (fun q e e' => HA'.out q e' e) h10 HG'.out hwc hwb d6))
        clear d6
        go_wp2
        go_roundg (gk - 1)
        case measure => omega
        case rel => exact ⟨j + 1, _, _, _, _, _, _, by omega, rfl, by simp, rfl, rfl, HS6.out⟩
      · have j2 : ¬ ((j : Int) < (t : Int)) := by omega
        go_wp2_with fail
        refine (does_any P w2.heap.size b v _ xs a.d a.x a.p a.r _ HQ.out HU.out HL.out (fun q e => (HP.out q e).1) hbs).mono ?_
        rintro e w5 ⟨ao5, n5, c5, xs5, rfl, d5⟩
        have HS5 := hid (two_step HQ.out HR.out HUR.out HLR.out HP.out HPR.out HA.out hbs HG.out hwb hwc d5)
        clear d5
        go_wp2
        go_roundg (gk - 1)
        case measure => omega
        case rel => exact ⟨j + 1, _, _, _, _, _, _, by omega, rfl, by simp, rfl, rfl, HS5.out⟩
    · have j1 : ¬ ((j : Int) < (m : Int)) := by omega
      by_cases hj2 : j < t
      · obtain ⟨d, hqd⟩ : ∃ q, ps[j]? = some q := ⟨_, List.getElem?_eq_getElem (by rw [← HT.out]; exact hj2)⟩
        obtain ⟨g2, y, rfl, hgB2, y0, y1, y2, y3, y4, y5⟩ := (HOP.out.ch HG.out (Nat.le_refl _) (fun _ _ => noB _)).get hqd
        have hgl3 := HG.out.size
        have hgl4 : g2 < wr.heap.size := by omega
        have j0 : (0 : Int) ≤ (j : Int) := by omega
        have j2 : (j : Int) < (t : Int) := by omega
        clear hqd
        go_wp2_with fail
        refine (does_any R w2.heap.size c u _ ys d.d d.x d.p d.r _ HR.out HUR.out HLR.out (fun q e => (HPR.out q e).2) hbs).mono ?_
        rintro e w6 ⟨ao6, n6, c6, xs6, rfl, d6⟩
        have HS6 := hid (Two.swap (two_step HR.out HQ.out HU.out HL.out (fun q e => ⟨(HPR.out q e).2, (HPR.out q e).1⟩) (fun q e => ⟨(HP.out q e).2, (HP.out q e).1⟩) (fun q e e' => HA.out q e' e) hbs HG.out hwc hwb d6))
        clear d6
        go_wp2
        go_roundg (gk - 1)
        case measure => omega
        case rel => exact ⟨j + 1, _, _, _, _, _, _, by omega, rfl, by simp, rfl, rfl, HS6.out⟩
      · have j2 : ¬ ((j : Int) < (t : Int)) := by omega
        go_wp2_with fail
        refine (told_any P w2.heap.size b v _ xs 0 0 _ HQ.out HL.out).mono ?_
        rintro e w5 ⟨rfl, g5⟩
        have HG5 := hid (HG.out.trans' g5)
        have HR5 := hid (HR.out.ch g5 (fun _ _ => noB _))
        have HLR5 := hid (HLR.out.ch g5 (fun _ _ _ => noB _))
        clear g5
        go_wp2_with fail
        refine (told_any R w2.heap.size c u _ ys 0 0 _ HR5.out HLR5.out).mono ?_
        rintro e w6 ⟨rfl, g6⟩
        have HG6 := hid (HG5.out.trans' g6)
        clear g6
        go_wp2
        go_ret
        exact ⟨rfl, HG6.out⟩
end Go.Proofs.Ytphohfafehjafaa.Ff
