/-
  What TimerFull of the statements answers: true, at any clock and any ticks. Condition: they are numbers of their kinds.
-/
import Derived.Test.YtgkapopkjgljjabTmCalls2
import Derived.Test.YtgkapopkjgljjabGnGrd
import Derived.Deep.Cut
namespace Go.Proofs.Ytgkapopkjgljjab.Lt
open Go.RowKit Wd
attribute [local go_sem ↓] Go.wp_at_zero Go.wp_at_succ
set_option maxRecDepth 20000

/-- so many run, all of them tell once, the third among them -/
structure Fl (j : Nat) (last : Int) (L : List Tk) : Prop where
  l : last = (j : Int)
  n : L.length = j
  k : ∀ t ∈ L, t.kind = 2
  t3 : 3 ≤ j → ∃ t ∈ L, t.id = 3
  wf : Wf last L
theorem Fl.nil : Fl 0 0 [] := ⟨rfl, rfl, fun t h => by simp at h, fun h => by omega, ⟨Int.le_refl _, by simp, fun t ht => by simp at ht, by simp⟩⟩
theorem full_of {last : Int} {L : List Tk} (h : 1024 ≤ L.length) : fullL last L = true := by
  unfold fullL
  rw [decide_eq_true (by omega : (1024 : Int) ≤ (L.length : Int)), Bool.true_or]
theorem room_of {last : Int} {L : List Tk} (h : L.length < 1024) (hl : last < 9223372036854775807) : fullL last L = false := by
  unfold fullL
  rw [decide_eq_false (by omega : ¬ (1024 : Int) ≤ (L.length : Int)), Bool.false_or, beq_eq_false_iff_ne]
  omega
theorem Fl.step {j : Nat} {last : Int} {L : List Tk} (h : Fl j last L) (hj : j < 1024) (ch a k : Int) : ∃ L', afterF last L ch a k = ⟨(j : Int) + 1, 0, ((j + 1 : Nat) : Int), L'⟩ ∧ Fl (j + 1) ((j + 1 : Nat) : Int) L' := by
  have hr := room_of (last := last) (L := L) (by rw [h.n]; exact hj) (by rw [h.l]; omega)
  have hw := h.wf.arm (tkA ch) a k
  refine ⟨putL L (laterT { tkA ch with id := last + 1 } a k), ?_, ?_⟩
  · unfold afterF armF
    rw [if_neg (by rw [hr]; exact Bool.false_ne_true), h.l]
    simp
  · unfold armF at hw
    rw [if_neg (by rw [hr]; exact Bool.false_ne_true)] at hw
    dsimp only at hw
    refine ⟨rfl, by rw [(putL_perm _ _).length_eq, List.length_cons, h.n], fun t ht => ?_, fun h3 => ?_, by rw [h.l] at hw ⊢; exact hw⟩
    · rcases List.mem_cons.1 ((putL_perm _ _).mem_iff.1 ht) with rfl | ht
      · rw [laterT_kind]; rfl
      · exact h.k t ht
    · by_cases e : j = 2
      · refine ⟨_, (putL_perm _ _).mem_iff.2 List.mem_cons_self, ?_⟩
        rw [laterT_id, h.l, e]
        rfl
      · obtain ⟨t, ht, e2⟩ := h.t3 (by omega)
        exact ⟨t, (putL_perm _ _).mem_iff.2 (List.mem_cons_of_mem _ ht), e2⟩
theorem arm_full {last : Int} {L : List Tk} (h : fullL last L = true) (x : Tk) (a k : Int) : armF last L x a k = ⟨0, 2, last, L⟩ := by
  unfold armF
  rw [if_pos h]
theorem TL.new1 {T : Nat → Prop} {w0 w w' : World} {b : Nat} {last : Int} {L : List Tk} {B : Int} (h : TL T w w' b last L B) (g : Gr w0 w) (n : ∀ q, T q → w0.heap.size ≤ q) : ∃ T', Tm T' w' b last L B ∧ Gr w0 w' ∧ ∀ q, T' q → w0.heap.size ≤ q := by
  obtain ⟨T', h1, h2, h3⟩ := h
  exact ⟨T', h1, Ch.trans g h2 (fun q e => .inr (n q e)), fun q e => (h3 q e).elim (n q) (fun x => Nat.le_trans g.size x)⟩
set_option maxHeartbeats 16000000 in
theorem full_walk (w : World) (a k : Int) (a0 : 0 ≤ a) (a1 : a < 18446744073709551616) (k0 : 0 ≤ k) (k1 : k < 18446744073709551616) : Calls Try.prog 3 #[.int .u64 a, .int .u64 k] w fun e w' => e = .returned (.bool true) ∧ Gr w w' := by
  have A := hid (show (0 ≤ a ∧ a < 18446744073709551616) ∧ 0 ≤ k ∧ k < 18446744073709551616 from ⟨⟨a0, a1⟩, k0, k1⟩)
  clear a0 a1 k0 k1
  go_enter Try.func3, Try.ntmps3
  go_wp2_with (go_at_call 6; refine (new_any _).mono ?_; rintro e w1 ⟨b, T, rfl, h1, g1, n1⟩; have TM1 := hid h1; have G1 := hid g1; have N1 := hid n1; clear h1 g1 n1)
  go_loopg [6] 1024 (fun q i wr => ∃ (j : Nat) (T : Nat → Prop) (last : Int) (L : List Tk), j + q = 1024 ∧ i = .int .i64 (j : Int) ∧ Tm T wr b last L (j : Int) ∧ Fl j last L ∧ Gr w wr ∧ ∀ q, T q → w.heap.size ≤ q)
  case atStart => exact ⟨0, T, 0, [], by omega, rfl, TM1.out, Fl.nil, G1.out, N1.out⟩
  case round =>
    obtain ⟨j, T0, last, L, hjq, rfl, htm, hfl, hg, hnw⟩ := hrel
    have TMj := hid htm
    have FJ := hid hfl
    have GJ := hid hg
    have NJ := hid hnw
    have hjb : j ≤ 1024 := by omega
    clear htm hfl hg hnw
    by_cases hj : j < 1024
    · obtain ⟨L', hr, fl'⟩ := FJ.out.step hj (j : Int) a k
      have FL' := hid fl'
      have HAF := hid (after_any TMj.out FJ.out.wf (j : Int) a k (by omega) A.out.1.1 A.out.1.2 A.out.2.1 A.out.2.2)
      rw [hr] at HAF
      have jm : (j : Int) < 1024 := by omega
      clear hr fl'
      go_wp2_with (go_at_call 7; refine HAF.out.mono ?_; rintro e w2 ⟨rfl, tl⟩; obtain ⟨T2, k2, c2, t2⟩ := tl; have TM2 := hid k2; have G2 := hid (show Gr w w2 from Ch.trans GJ.out c2 (fun q e => .inr (NJ.out q e))); have N2 := hid (show ∀ q, T2 q → w.heap.size ≤ q from fun q e => (t2 q e).elim (NJ.out q) (fun x => Nat.le_trans GJ.out.size x)); clear k2 c2 t2)
      go_roundg (gk - 1)
      case measure => omega
      case rel => exact ⟨j + 1, T2, _, L', by omega, by first | with_reducible rfl | simp, TM2.out.more (by omega), FL'.out, G2.out, N2.out⟩
    · have ej : j = 1024 := by omega
      subst ej
      have hfull := full_of (last := last) (L := L) (by rw [FJ.out.n]; exact Nat.le_refl _)
      have hsl : sleepsL L 0 0 = false := List.any_eq_false.2 (fun t ht e => by
        simp only [Bool.and_eq_true, beq_iff_eq] at e
        have := FJ.out.k t ht
        omega)
      obtain ⟨t3, ht3, e3⟩ := FJ.out.t3 (by omega)
      have hst : stopL L 3 = true := List.any_eq_true.2 ⟨t3, ht3, by simp [e3, FJ.out.k t3 ht3]⟩
      have HW := hid FJ.out.wf
      have HA := hid (fun W (T' : Nat → Prop) (h : Tm T' W b last L 1024) => after_any h HW.out 0 a k (by omega) A.out.1.1 A.out.1.2 A.out.2.1 A.out.2.2)
      have HE1 := hid (fun W (T' : Nat → Prop) (h : Tm T' W b last L 1025) => every_any h HW.out 0 a 1 (by omega) A.out.1.1 A.out.1.2 (by omega) (by omega))
      have HE0 := hid (fun W (T' : Nat → Prop) (h : Tm T' W b last L 1026) => every_any h HW.out 0 a 0 (by omega) A.out.1.1 A.out.1.2 (by omega) (by omega))
      have HS := hid (fun W (T' : Nat → Prop) (h : Tm T' W b last L 1027) => sleep_any h HW.out 0 0 a k (by unfold Gok; omega) (by omega) A.out.1.1 A.out.1.2 A.out.2.1 A.out.2.2)
      have HP := hid (fun W (T' : Nat → Prop) (h : Tm T' W b last L 1028) => stop_any h (by rw [FJ.out.n]; omega) 3)
      rw [hst] at HP
      unfold stoppedL at HP
      rw [hst, if_pos rfl] at HP
      unfold afterF at HA
      rw [arm_full hfull] at HA
      unfold everyF at HE1 HE0
      rw [arm_full hfull] at HE1 HE0
      rw [if_neg (by simp)] at HE1
      rw [if_pos (by simp)] at HE0
      unfold sleepF at HS
      rw [hsl, if_neg Bool.false_ne_true, arm_full hfull] at HS
      obtain ⟨L5, hL5⟩ : ∃ x, x = L.filter (isId 3) := ⟨_, rfl⟩
      have hl5 : L5.length < 1024 := by
        rw [hL5]
        refine Nat.lt_of_le_of_ne (by have := List.length_filter_le (isId 3) L; rw [FJ.out.n] at this; exact this) (fun e => ?_)
        rw [← FJ.out.n] at e
        have := List.length_filter_eq_length_iff.1 e t3 ht3
        simp [isId, e3] at this
      have hw5 : Wf last L5 := by
        have := FJ.out.wf
        rw [hL5]
        exact ⟨this.l0, this.l1, fun t ht => this.ids t (List.mem_filter.1 ht).1, Nat.le_trans (List.length_filter_le _ _) this.len⟩
      rw [← hL5] at HP
      have HA5 := hid (fun W (T' : Nat → Prop) (h : Tm T' W b last L5 1028) => after_any h hw5 0 a k (by omega) A.out.1.1 A.out.1.2 A.out.2.1 A.out.2.2)
      have el : last = 1024 := FJ.out.l
      have hr5 := room_of (last := last) hl5 (by omega)
      unfold afterF armF at HA5
      rw [hr5, if_neg Bool.false_ne_true] at HA5
      dsimp only at HA5
      rw [el] at HA5 HA HE1 HE0 HS HP TMj
      clear hfull hsl ht3 e3 hst hL5 hl5 hw5 el hr5 FJ HW
      have jm : ¬ (((1024 : Nat) : Int) < 1024) := by omega
      have TK := hid (TMj.out.more (show ((1024 : Nat) : Int) ≤ 1024 by omega))
      go_wp2_with (first
        | (go_at_call 7; refine (HA5.out _ _ (TM6.out.more (by omega))).mono ?_; rintro e w7 ⟨rfl, tl⟩; obtain ⟨T7, k7, g7, n7⟩ := tl.new1 G6.out N6.out; have TM7 := hid k7; have G7 := hid g7; have N7 := hid n7; clear tl k7 g7 n7)
        | (go_at_call 7; refine (HA.out _ _ TK.out).mono ?_; rintro e w2 ⟨rfl, tl⟩; obtain ⟨T2, k2, g2, n2⟩ := tl.new1 GJ.out NJ.out; have TM2 := hid k2; have G2 := hid g2; have N2 := hid n2; clear tl k2 g2 n2)
        | (go_at_call 8; refine (HE0.out _ _ (TM3.out.more (by omega))).mono ?_; rintro e w4 ⟨rfl, tl⟩; obtain ⟨T4, k4, g4, n4⟩ := tl.new1 G3.out N3.out; have TM4 := hid k4; have G4 := hid g4; have N4 := hid n4; clear tl k4 g4 n4)
        | (go_at_call 8; refine (HE1.out _ _ (TM2.out.more (by omega))).mono ?_; rintro e w3 ⟨rfl, tl⟩; obtain ⟨T3, k3, g3, n3⟩ := tl.new1 G2.out N2.out; have TM3 := hid k3; have G3 := hid g3; have N3 := hid n3; clear tl k3 g3 n3)
        | (refine callG (by kernel_rfl) 9 #[.tmp 69, .tmp 70, .tmp 71, .tmp 72] _ rfl #[.pointer (some ⟨b, 0, none⟩), .agg #[.int .i64 0, .int .i64 0], .int .u64 a, .int .u64 k] (by kernel_rfl) (HS.out _ _ (TM4.out.more (by omega))) ?_; rintro e w5 ⟨rfl, tl⟩; obtain ⟨T5, k5, g5, n5⟩ := tl.new1 G4.out N4.out; have TM5 := hid k5; have G5 := hid g5; have N5 := hid n5; clear tl k5 g5 n5; refine ⟨_, rfl, ?_⟩; simp only [Act.put, List.setIfInBounds_toArray, List.set_cons_zero, List.set_cons_succ])
        | (refine callG (by kernel_rfl) 10 #[.tmp 77, .const (.int .i64 3)] _ rfl #[.pointer (some ⟨b, 0, none⟩), .int .i64 3] (by kernel_rfl) (HP.out _ _ (TM5.out.more (by omega))) ?_; rintro e w6 ⟨rfl, tl⟩; obtain ⟨T6, k6, g6, n6⟩ := tl.new1 G5.out N5.out; have TM6 := hid k6; have G6 := hid g6; have N6 := hid n6; clear tl k6 g6 n6; refine ⟨_, rfl, ?_⟩; simp only [Act.put, List.setIfInBounds_toArray, List.set_cons_zero, List.set_cons_succ]))
      go_ret
      exact ⟨rfl, G7.out⟩
end Go.Proofs.Ytgkapopkjgljjab.Lt
