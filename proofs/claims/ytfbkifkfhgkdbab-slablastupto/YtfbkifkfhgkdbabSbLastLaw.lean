/-
  SlabLast's walk: as many names as the limit can be alive at once; the next one is refused; one given back by any P can be had by any other. Conditions: the list of calls is there, and at most 1048576 long.
-/
import Derived.Test.YtfbkifkfhgkdbabSbFit
import Derived.Test.YtfbkifkfhgkdbabSbAwake
import Derived.Handy
import Derived.Deep.DeepCutAuto
import Derived.Deep.CutBlock
namespace Go.Proofs.Ytfbkifkfhgkdbab.Sb
open Go.RowKit
open Classical
attribute [local go_sem ↓] Go.wp_at_zero Go.wp_at_succ

/-- where SlabLast stands behind j names more: the last one lies at kl -/
def Lst (S : Nat → Prop) (base : Nat) (W5 : World) (b kl : Nat) (L : Int) (n : Nat) (gs : List (Int × Int)) (j : Nat) (wr : World) : Prop :=
  ∃ S' y gs' al' s g, SlabIn S' base wr b L y ∧ Book L n y gs' al' ∧ j ≤ al'.length ∧ gs'.length = gs.length + j ∧ wr.heap[kl]? = some (.cells #[.int .i64 s, .int .i64 g] 34 (0, 0)) ∧ ((j = 0 ∧ s = 0 ∧ g = 0) ∨ (s, g) ∈ al') ∧ Ch (fun q => S q ∨ q = kl) W5 wr ∧ (∀ q, S' q → S q ∨ W5.heap.size ≤ q) ∧ base ≤ wr.heap.size

set_option maxRecDepth 100000 in
set_option maxHeartbeats 4000000 in
theorem last_law (l p : Int) (v : Value) (fr tz : Int) (N : Nat) (w : World) (hv : OpL w v N) (hN : N ≤ 1048576) : Calls Try.prog 3 #[.agg #[.int .i64 l, .int .i64 p, v], .int .i64 fr, .int .i64 tz] w fun e w' => e = .returned (.bool true) ∧ Ch NoB w w' := by
  obtain ⟨ao, cap, rfl, hmax, hel⟩ := hv
  have HV := hid (show OpL w (.slice ao N cap) N from ⟨ao, cap, rfl, hmax, hel⟩)
  clear hel
  obtain ⟨W0, hW0⟩ : ∃ W, W = w.alloc (.cells #[.int .i64 l, .int .i64 p, .slice ao N cap] 24) := ⟨_, rfl⟩
  have b0 : W0.heap[w.heap.size]? = some (.cells #[.int .i64 l, .int .i64 p, .slice ao N cap] 24 (0, 0)) := by rw [hW0]; exact (MapKept.heap_alloc w _).1
  have g0 : Ch NoB w W0 := by rw [hW0]; exact (Ch.refl _ _).alloc _
  have HB0 := hid b0
  have HG0 := hid g0
  clear b0 g0
  go_enter Try.func3, Try.ntmps3
  go_wp2_with fail
  rw [← hW0]
  clear hW0
  refine (fit_any l p ao N cap _).mono ?_
  rintro e w1 ⟨L, n, hS, rfl, g1⟩
  have b1 := (g1.block _ (lt_of_block HB0.out) (noB _)).trans HB0.out
  have y0 : w1.cell? ⟨w.heap.size, 0, none⟩ = some (.int .i64 l) := (cell_of b1 0).trans rfl
  have y1 : w1.cell? ⟨w.heap.size, 1, none⟩ = some (.int .i64 p) := (cell_of b1 1).trans rfl
  have y2 : w1.cell? ⟨w.heap.size, 2, none⟩ = some (.slice ao N cap) := (cell_of b1 2).trans rfl
  have fz0 := frozen_of b1 0
  have fz1 := frozen_of b1 1
  have fz2 := frozen_of b1 2
  have lb := lt_of_block b1
  obtain ⟨W2, hW2⟩ : ∃ W, W = (((w1.setCell ⟨w.heap.size, 0, none⟩ (.int .i64 L)).setCell ⟨w.heap.size, 1, none⟩ (.int .i64 (n : Int))).setCell ⟨w.heap.size, 2, none⟩ (.slice ao N cap)) := ⟨_, rfl⟩
  have b2 : W2.heap[w.heap.size]? = some (.cells #[.int .i64 L, .int .i64 (n : Int), .slice ao N cap] 24 (0, 0)) := by rw [hW2]; exact setCell_block (setCell_block (setCell_block b1 0 _) 1 _) 2 _
  have g2 : Ch NoB w W2 := by
    rw [hW2]
    exact (((HG0.out.trans' g1).fresh (Nat.le_refl _) 0 _).fresh (Nat.le_refl _) 1 _).fresh (Nat.le_refl _) 2 _
  have HS := hid hS
  have HB2 := hid b2
  have HG2 := hid g2
  have z0 : W2.cell? ⟨w.heap.size, 0, none⟩ = some (.int .i64 L) := (cell_of b2 0).trans rfl
  have z1 : W2.cell? ⟨w.heap.size, 1, none⟩ = some (.int .i64 (n : Int)) := (cell_of b2 1).trans rfl
  have lb2 := lt_of_block b2
  clear b1 b2 g1 g2 hS
  go_wp2_with fail
  rw [← hW2]
  clear hW2 y0 y1 y2 fz0 fz1 fz2 lb
  refine (new_good L n _ HS.out).mono ?_
  rintro e w3 ⟨b, rfl, hb, s3, g3⟩
  obtain ⟨vg, va, vc, vf, cv, f5, t5, n5⟩ := s3
  have i3 : SlabIn (fun q => W2.heap.size ≤ q ∧ q < w3.heap.size) W2.heap.size w3 b L (newSl n) := ⟨vg, va, vc, vf, cv, f5, t5, n5, ⟨hb, f5.lt⟩, fun q a => t5.blk a, fun q a => a.2⟩
  have HI3 := hid i3
  have b3 := (g3.block _ lb2 (noB _)).trans HB2.out
  have x0 : w3.cell? ⟨w.heap.size, 0, none⟩ = some (.int .i64 L) := (cell_of b3 0).trans rfl
  have x1 : w3.cell? ⟨w.heap.size, 1, none⟩ = some (.int .i64 (n : Int)) := (cell_of b3 1).trans rfl
  have x2 : w3.cell? ⟨w.heap.size, 2, none⟩ = some (.slice ao N cap) := (cell_of b3 2).trans rfl
  have lb3 := lt_of_block b3
  have HG3 := hid (HG2.out.trans' g3)
  have HB3 := hid b3
  have hz3 := g3.size
  have HOA := hid (HV.out.apart (S0 := fun q => W2.heap.size ≤ q ∧ q < w3.heap.size) HG3.out (fun q a => Nat.le_trans HG2.out.size a.1))
  clear f5 t5 n5 i3 b3 g3 z0 z1
  have n64 : n ≤ 64 := by have := HS.out.2.2; omega
  have n1 : 1 ≤ n := by have := HS.out.2.1; omega
  go_upto_region 5 with fail
  go_cut [47] (fun t wc => t = .bool (!decide ((0 ≤ fr ∧ fr < (n : Int)) ∧ (0 ≤ tz ∧ tz < (n : Int)))) ∧ wc = w3)
  case first =>
    by_cases h1 : fr < 0
    · have q1 : decide (fr < 0) = true := decide_eq_true h1
      have e : decide ((0 ≤ fr ∧ fr < (n : Int)) ∧ (0 ≤ tz ∧ tz < (n : Int))) = false := decide_eq_false (fun h => by omega)
      go_wp2_with fail
      go_meet
      exact ⟨by rw [e]; rfl, rfl⟩
    · have q1 : decide (fr < 0) = false := decide_eq_false h1
      by_cases h2 : (n : Int) ≤ fr
      · have q2 : decide ((n : Int) ≤ fr) = true := decide_eq_true h2
        have e : decide ((0 ≤ fr ∧ fr < (n : Int)) ∧ (0 ≤ tz ∧ tz < (n : Int))) = false := decide_eq_false (fun h => by omega)
        go_wp2_with fail
        go_meet
        exact ⟨by rw [e]; rfl, rfl⟩
      · have q2 : decide ((n : Int) ≤ fr) = false := decide_eq_false h2
        by_cases h3 : tz < 0
        · have q3 : decide (tz < 0) = true := decide_eq_true h3
          have e : decide ((0 ≤ fr ∧ fr < (n : Int)) ∧ (0 ≤ tz ∧ tz < (n : Int))) = false := decide_eq_false (fun h => by omega)
          go_wp2_with fail
          go_meet
          exact ⟨by rw [e]; rfl, rfl⟩
        · have q3 : decide (tz < 0) = false := decide_eq_false h3
          by_cases h4 : (n : Int) ≤ tz
          · have q4 : decide ((n : Int) ≤ tz) = true := decide_eq_true h4
            have e : decide ((0 ≤ fr ∧ fr < (n : Int)) ∧ (0 ≤ tz ∧ tz < (n : Int))) = false := decide_eq_false (fun h => by omega)
            go_wp2_with fail
            go_meet
            exact ⟨by rw [e]; rfl, rfl⟩
          · have q4 : decide ((n : Int) ≤ tz) = false := decide_eq_false h4
            have e : decide ((0 ≤ fr ∧ fr < (n : Int)) ∧ (0 ≤ tz ∧ tz < (n : Int))) = true := decide_eq_true ⟨⟨by omega, by omega⟩, by omega, by omega⟩
            go_wp2_with fail
            go_meet
            exact ⟨by rw [e]; rfl, rfl⟩
  case rest =>
  obtain ⟨rfl, hwc⟩ := hcut
  replace hwc := hwc.symm
  subst hwc
  obtain ⟨t, ht⟩ : ∃ t, t = decide ((0 ≤ fr ∧ fr < (n : Int)) ∧ (0 ≤ tz ∧ tz < (n : Int))) := ⟨_, rfl⟩
  rw [← ht]
  have HTT := hid ht
  clear ht
  go_upto_if 47 with fail
  go_cut [1, 2] (fun f g wd => ∃ fr' to' c : Nat, f = .int .i64 (fr' : Int) ∧ g = .int .i64 (to' : Int) ∧ fr' < n ∧ to' < n ∧ wd = w3.drewN c)
  case first =>
    cases t with
    | true =>
      have h := of_decide_eq_true HTT.out.symm
      obtain ⟨f', rfl⟩ : ∃ f' : Nat, fr = (f' : Int) := ⟨fr.toNat, by omega⟩
      obtain ⟨t', rfl⟩ : ∃ t' : Nat, tz = (t' : Int) := ⟨tz.toNat, by omega⟩
      have h1 : f' < n := by omega
      have h2 : t' < n := by omega
      clear h
      go_wp2_with fail
      go_meet
      exact ⟨f', t', 0, rfl, rfl, h1, h2, rfl⟩
    | false =>
      have hw1 : IntKind.i64.wrap ((n : Int) - 1) = (n : Int) - 1 := by rw [IntKind.wrap_i64]; omega
      go_wp2_with fail
      go_quiet (fail)
      go_wp2_with fail
      go_meet
      exact ⟨0, n - 1, _, rfl, by congr 1; omega, by omega, by omega, rfl⟩
  case rest =>
  obtain ⟨f1, t1, cc, rfl, rfl, hf1, ht1, rfl⟩ := hcut
  obtain ⟨v3, hv3⟩ : ∃ W, W = w3.drewN cc := ⟨_, rfl⟩
  rw [← hv3]
  have g33 : Ch NoB w3 v3 := by rw [hv3]; exact (Ch.refl _ _).drewN _
  have b33 := (g33.block _ lb3 (noB _)).trans HB3.out
  have x0' : v3.cell? ⟨w.heap.size, 0, none⟩ = some (.int .i64 L) := (cell_of b33 0).trans rfl
  have x1' : v3.cell? ⟨w.heap.size, 1, none⟩ = some (.int .i64 (n : Int)) := (cell_of b33 1).trans rfl
  have x2' : v3.cell? ⟨w.heap.size, 2, none⟩ = some (.slice ao N cap) := (cell_of b33 2).trans rfl
  have lb33 := lt_of_block b33
  have HI33 := hid (HI3.out.ch g33 (fun _ _ => noB _))
  have HB33 := hid b33
  have HG33 := hid (HG3.out.trans' g33)
  have hz33 := Nat.le_trans hz3 g33.size
  have HOA3 := hid (HV.out.apart (S0 := fun q => W2.heap.size ≤ q ∧ q < w3.heap.size) HG33.out (fun q a => Nat.le_trans HG2.out.size a.1))
  clear g33 b33 hv3 x0 x1 x2
  go_wp2_with fail
  refine (names_any _ W2.heap.size b L n N _ v3 HI33.out hz33 HS.out HOA3.out hN).mono ?_
  rintro e w4 ⟨S, x, gs, al, ha, hc, aa, ac, rfl, hB, hgl, g4, hSS⟩
  have b4 := (g4.block _ lb33 (fun e => by have := e.1; omega)).trans HB33.out
  have G4 : Ch NoB w w4 := HG33.out.trans g4 (fun q e => .inr (Nat.le_trans HG2.out.size e.1))
  have HB := hid hB
  have HG4 := hid G4
  have HX4 := hid b4
  have hgl2 : gs.length < 2147483647 := by omega
  have HGL := hid hgl2
  have HGN := hid hgl
  have HS4 := hid (show ∀ q, S q → w.heap.size < q ∧ q < w4.heap.size from fun q a => ⟨(hSS q a).elim (fun a => by have := a.1; omega) (fun a => by omega), hB.s.lt q a⟩)
  obtain ⟨nh, hnh⟩ : ∃ m, m = gs.length := ⟨_, rfl⟩
  obtain ⟨na, hna⟩ : ∃ m, m = al.length := ⟨_, rfl⟩
  rw [← hnh, ← hna] at HB ⊢
  have HNH := hid hnh
  have HNA := hid hna
  have naB : na ≤ 4096 := by rw [hna]; exact hB.k.few
  have nhB : nh ≤ 1048576 := by omega
  have bs := HB.out.sb
  have lb4 := lt_of_block b4
  clear hB hgl g4 hSS b4 G4 hgl2 x0' x1' x2' hnh hna
  obtain ⟨Lm, hLm⟩ : ∃ m : Nat, L = (m : Int) := ⟨L.toNat, by have := HS.out.1.1; omega⟩
  subst hLm
  have Lm4 : Lm ≤ 4096 := by have := HS.out.1.2; omega
  obtain ⟨kl, hkl⟩ : ∃ k, k = w4.heap.size := ⟨_, rfl⟩
  obtain ⟨W5, hW5⟩ : ∃ W, W = w4.alloc (.cells #[.int .i64 0, .int .i64 0] 34) := ⟨_, rfl⟩
  have g5 : Ch NoB w4 W5 := by rw [hW5]; exact (Ch.refl _ _).alloc _
  have k5 : W5.heap[kl]? = some (.cells #[.int .i64 0, .int .i64 0] 34 (0, 0)) := by rw [hW5, hkl]; exact (MapKept.heap_alloc w4 _).1
  have lk5 : kl < W5.heap.size := lt_of_block k5
  have b5 := (g5.block _ lb4 (noB _)).trans HX4.out
  have HX5 := hid b5
  have lx5 := lt_of_block b5
  have nSk : ∀ q, S q → q ≠ kl := fun q a e => by have := (HS4.out q a).2; omega
  have HSK := hid nSk
  have HG5 := hid (HG4.out.trans' g5)
  have hkw : w.heap.size < kl := by omega
  have HLt := hid (show Lst S W2.heap.size W5 b kl (Lm : Int) n gs 0 W5 from ⟨S, x, gs, al, 0, 0, HB.out.s.ch g5 (fun _ _ => noB _), HB.out.k, Nat.zero_le _, rfl, k5, .inl ⟨rfl, rfl, rfl⟩, Ch.refl _ _, fun q a => .inl a, Nat.le_trans bs g5.size⟩)
  have n0 : ¬ ((n : Int) = 0) := by omega
  clear g5 k5 b5 nSk
  go_wp2_with fail
  rw [← hW5, ← hkl]
  clear hW5 hkl
  go_loopg [11, 13] (Lm + 1) (fun k ok i wr => ∃ j : Nat, j + k = Lm + 1 ∧ ok = .bool true ∧ i = .int .i64 ((j : Nat) : Int) ∧ Lst S W2.heap.size W5 b kl (Lm : Int) n gs j wr)
  case atStart => exact ⟨0, by omega, rfl, rfl, HLt.out⟩
  case round =>
    obtain ⟨j, hjk, rfl, rfl, hL⟩ := hrel
    obtain ⟨V, hV⟩ : ∃ W, W = wr := ⟨_, rfl⟩
    subst hV
    obtain ⟨K1, hK1⟩ : ∃ k, k = gk := ⟨_, rfl⟩
    obtain ⟨S', y, gs', al', s, gg, i6, hK, hjl, hgs, k6, hin, g6, n6, sb6⟩ := hL
    have nx : ¬ (S w.heap.size ∨ w.heap.size = kl) := fun e => e.elim (fun a => by have := (HS4.out _ a).1; omega) (fun a => by omega)
    have b6 := (g6.block _ lx5 nx).trans HX5.out
    have x0 : V.cell? ⟨w.heap.size, 0, none⟩ = some (.int .i64 (Lm : Int)) := (cell_of b6 0).trans rfl
    have x1 : V.cell? ⟨w.heap.size, 1, none⟩ = some (.int .i64 (n : Int)) := (cell_of b6 1).trans rfl
    have lx6 := lt_of_block b6
    have lk6 := lt_of_block k6
    have alL : al'.length ≤ Lm := by have h1 := hK.len; have h2 : cnt y.A ≤ y.A.length := cnt_le _; have h3 := hK.m.ag; have h4 := hK.m.gl; omega
    have HI6 := hid i6
    have HK6 := hid hK
    have HGS := hid hgs
    have HIN := hid hin
    have HG6 := hid g6
    have HN6 := hid n6
    have HKL := hid k6
    have HX6 := hid b6
    have HJL := hid hjl
    have sS : ∀ q, S' q → q ≠ kl ∧ w.heap.size < q := fun q a => (n6 q a).elim (fun a => ⟨HSK.out q a, (HS4.out q a).1⟩) (fun a => ⟨by omega, by omega⟩)
    have HSS := hid sS
    clear i6 hK hgs hin g6 n6 k6 b6 nx sS HLt
    by_cases hj : j < Lm + 1
    · have hm1 : (j : Int).tmod (n : Int) = ((j % n : Nat) : Int) := by
        rw [Int.tmod_eq_emod_of_nonneg (by omega)]
        omega
      have hmn : j % n < n := Nat.mod_lt _ (by omega)
      have dj : decide ((j : Int) ≤ (Lm : Int)) = true := decide_eq_true (by omega)
      go_wp2_with fail
      first | rw [hm1] | skip
      refine (take_may S' W2.heap.size b ((j % n : Nat) : Int) (Lm : Int) y V HI6.out sb6 HK6.out.m).mono ?_
      rintro e w6 ⟨r, y', hT, rfl, ⟨S7, i7, g7, n7⟩⟩
      have tl := tells_of HK6.out hT
      have hp : HasP y ((j % n : Nat) : Int) := ⟨by omega, by rw [HK6.out.c]; omega⟩
      have nk : ¬ S' kl := fun a => (HSS.out _ a).1 rfl
      have nw : ¬ S' w.heap.size := fun a => Nat.lt_irrefl _ (HSS.out _ a).2
      have k7 := (g7.block _ lk6 nk).trans HKL.out
      have b7 := (g7.block _ lx6 nw).trans HX6.out
      have G7 : Ch (fun q => S q ∨ q = kl) W5 w6 := HG6.out.trans g7 (fun q a => (HN6.out q a).imp .inl id)
      have N7 : ∀ q, S7 q → S q ∨ W5.heap.size ≤ q := fun q a => (n7 q a).elim (HN6.out q) (fun a => .inr (Nat.le_trans HG6.out.size a))
      have sb7 := Nat.le_trans sb6 g7.size
      have HI7 := hid i7
      have HK7' := hid k7
      have HB7 := hid b7
      have HG7 := hid G7
      have HN7 := hid N7
      clear hT i7 g7 n7 k7 b7 G7 N7 nk nw x0 x1
      cases tl using Tells.elim with
      | bad hp' => exact absurd hp hp'
      | full _ hl bk hf =>
        clear hp hm1 hmn dj
        obtain ⟨W7, hW7⟩ : ∃ W, W = w6.alloc (.cells #[.int .i64 0, .int .i64 0] 34) := ⟨_, rfl⟩
        have gA : Ch NoB w6 W7 := by rw [hW7]; exact (Ch.refl _ _).alloc _
        have b7 := (gA.block _ (lt_of_block HB7.out) (noB _)).trans HB7.out
        have x7 : W7.cell? ⟨w.heap.size, 0, none⟩ = some (.int .i64 (Lm : Int)) := (cell_of b7 0).trans rfl
        have lx7 := lt_of_block b7
        have HKb := hid ((gA.block _ (lt_of_block HK7'.out) (noB _)).trans HK7'.out)
        have HIS := hid (HI7.out.ch gA (fun _ _ => noB _))
        have HK7 := hid bk
        have HL7 := hid hl
        have HF7 := hid hf
        have HCnt := hid (show ((cnt y'.A : Nat) : Int) = (Lm : Int) by rw [← bk.len]; exact hl)
        have HG7' := hid (HG7.out.trans gA (fun q e => e.elim))
        have HGw := hid (show Ch NoB w W7 from HG5.out.trans HG7'.out (fun q e => .inr (e.elim (fun a => Nat.le_of_lt (HS4.out q a).1) (fun a => by omega))))
        have nk7 : ¬ S7 kl := fun a => (HN7.out _ a).elim (fun a => HSK.out _ a rfl) (fun a => by omega)
        have sb8 := Nat.le_trans sb7 gA.size
        clear bk hl hf gA b7
        go_wp2_with fail
        rw [← hW7]
        clear hW7
        have hS0 := x7
        refine wp_region_held_drew (S := fun w' => w'.cell? ⟨w.heap.size, 0, none⟩ = some (.int .i64 (Lm : Int))) (by kernel_rfl) (by exact hS0) (fun _ => ?_)
        refine takeS_on (i := 0) 82 (v := ?v25) rfl rfl (by kernel_rfl) (by kernel_rfl) (by kernel_rfl) (fun _ _ _ h => h) (by kernel_rfl) ?hy25 (by exact hS0) ?_
        case hy25 => (intro w' hSw; go_simp; try (with_reducible rfl))
        simp only [Act.put, List.setIfInBounds_toArray, List.set_cons_zero, List.set_cons_succ]
        refine takeS_on (i := 1) 83 (v := ?v26) rfl rfl (by kernel_rfl) (by kernel_rfl) (by kernel_rfl) (fun _ _ _ h => h) (by kernel_rfl) ?hy26 (by exact hS0) ?_
        case hy26 => (intro w' hSw; go_simp; try (with_reducible rfl))
        simp only [Act.put, List.setIfInBounds_toArray, List.set_cons_zero, List.set_cons_succ]
        refine takeS_on (i := 2) 84 (v := ?v27) rfl rfl (by kernel_rfl) (by kernel_rfl) (by kernel_rfl) (fun _ _ _ h => h) (by kernel_rfl) ?hy27 (by exact hS0) ?_
        case hy27 => (intro w' hSw; go_simp; try (with_reducible rfl))
        simp only [Act.put, List.setIfInBounds_toArray, List.set_cons_zero, List.set_cons_succ]
        refine takeS_on (i := 3) 85 (v := ?v28) rfl rfl (by kernel_rfl) (by kernel_rfl) (by kernel_rfl) (fun _ _ _ h => h) (by kernel_rfl) ?hy28 (by exact hS0) ?_
        case hy28 => (intro w' hSw; go_simp; try (with_reducible rfl))
        simp only [Act.put, List.setIfInBounds_toArray, List.set_cons_zero, List.set_cons_succ]
        refine takeS_on (i := 5) 87 (v := ?v29) rfl rfl (by kernel_rfl) (by kernel_rfl) (by kernel_rfl) (fun _ _ _ h => h) (by kernel_rfl) ?hy29 (by exact hS0) ?_
        case hy29 => (intro w' hSw; go_simp; try (with_reducible rfl))
        simp only [Act.put, List.setIfInBounds_toArray, List.set_cons_zero, List.set_cons_succ]
        refine takeS_on (i := 6) 88 (v := ?v30) rfl rfl (by kernel_rfl) (by kernel_rfl) (by kernel_rfl) (fun _ _ _ h => h) (by kernel_rfl) ?hy30 (by exact hS0) ?_
        case hy30 => (intro w' hSw; go_simp; try (with_reducible rfl))
        simp only [Act.put, List.setIfInBounds_toArray, List.set_cons_zero, List.set_cons_succ]
        refine wpAnyH_ready (rs := [4]) (by kernel_rfl) (by simp) (AllReadyH.cons rfl (fun K hK => ?_) AllReadyH.nil)
        go_simp
        refine (live_any _ b (Lm : Int) y' _ (HIS.out.at.ch ((Ch.refl NoB _).drew)) HK7.out.m.fits).mono ?_
        rintro e w8 ⟨rfl, g8⟩
        rw [HCnt.out]
        have hS8 : w8.cell? ⟨w.heap.size, 0, none⟩ = some (.int .i64 (Lm : Int)) := (g8.cell lx7 (noB _)).trans x7
        have G8 := hid (show Ch NoB W7 w8 from ((Ch.refl NoB W7).drew).trans' g8)
        clear g8
        refine hK.out _ _ (by exact hS8) (fun _ => ?_)
        clear hK K
        refine takeS_on (i := 7) 89 (v := ?v31) rfl rfl (by kernel_rfl) (by kernel_rfl) (by kernel_rfl) (fun _ _ _ h => h) (by kernel_rfl) ?hy31 (by exact hS8) ?_
        case hy31 => (intro w' hSw; go_simp; try (with_reducible rfl))
        simp only [Act.put, List.setIfInBounds_toArray, List.set_cons_zero, List.set_cons_succ]
        refine takeS_on (i := 8) 90 (v := ?v32) rfl rfl (by kernel_rfl) (by kernel_rfl) (by kernel_rfl) (fun _ _ _ h => h) (by kernel_rfl) ?hy32 (by exact hS8) ?_
        case hy32 => (intro w' hSw; go_simp; try (with_reducible rfl))
        simp only [Act.put, List.setIfInBounds_toArray, List.set_cons_zero, List.set_cons_succ]
        refine wpAnyH_done (by kernel_rfl) ?_ _
        have K8 := (G8.out.block _ (lt_of_block HKb.out) (noB _)).trans HKb.out
        have c0 : w8.cell? ⟨kl, 0, none⟩ = some (.int .i64 s) := (cell_of K8 0).trans rfl
        have c1 : w8.cell? ⟨kl, 1, none⟩ = some (.int .i64 gg) := (cell_of K8 1).trans rfl
        have l8 := lt_of_block K8
        have HI8 := hid (HIS.out.ch G8.out (fun _ _ => noB _))
        have HK8 := hid K8
        have HG8 := hid (HGw.out.trans' G8.out)
        clear K8 hS8
        go_wp2_with fail
        refine (alive_any _ b (Lm : Int) s gg y' w8 HI8.out.at HK7.out.m.ag.symm).mono ?_
        rintro e w9 ⟨rfl, g9⟩
        have K9 := (g9.block _ l8 (noB _)).trans HK8.out
        have u0 : w9.cell? ⟨kl, 0, none⟩ = some (.int .i64 s) := (cell_of K9 0).trans rfl
        have u1 : w9.cell? ⟨kl, 1, none⟩ = some (.int .i64 gg) := (cell_of K9 1).trans rfl
        have l9 := lt_of_block K9
        have HI9 := hid (HI8.out.ch g9 (fun _ _ => noB _))
        have HK9 := hid K9
        have HG9 := hid (HG8.out.trans' g9)
        have sb9 := Nat.le_trans (Nat.le_trans sb8 G8.out.size) g9.size
        clear K9 g9 c0 c1
        rcases HIN.out with ⟨-, rfl, rfl⟩ | hmem
        · have ea : aliveB y' 0 0 = false := by
            cases e : aliveB y' 0 0 with
            | false => rfl
            | true =>
              obtain ⟨k, _, hG, _⟩ := alive_nat HK7.out.m.ag e
              have := (HK7.out.m.gen k 0 hG).1
              omega
          rw [ea]
          clear ea
          go_wp2
          go_ret
          exact ⟨rfl, HG9.out⟩
        · have ea := (HK7.out.a (s, gg)).1 hmem
          have ea' : aliveB y' s gg = true := ea
          rw [ea']
          obtain ⟨k, rfl, hG, hA⟩ := alive_nat HK7.out.m.ag ea'
          have hf1' : f1 < y'.C.length := by rw [HK7.out.c]; exact hf1
          have hc1 : y'.C[f1]? = some [] := by
            rw [List.getElem?_eq_getElem hf1']
            congr 1
            exact List.flatten_eq_nil_iff.1 HF7.out.1 _ (List.getElem_mem hf1')
          have gB : gg < 2147483647 := by have h1 := HK7.out.g k gg hG; have h2 := HGS.out; have h3 := HGN.out; omega
          have gB0 : 1 ≤ gg := (HK7.out.m.gen k gg hG).1
          have hkA : k < y'.A.length := (List.getElem?_eq_some_iff.1 hA).1
          have dead : aliveB (giveS y' f1 k gg []) (k : Int) gg = false := by
            rw [aliveB_in (z := gg) (a := false) (by rw [give_G]; exact hG) (by rw [give_A, List.getElem?_set_self hkA])]
            rfl
          have HGR := hid (giveR_good hc1 hG hA)
          have HMG := hid (HK7.out.m.give hc1 hG hA)
          have HDd := hid dead
          have HAT := hid (fun (q : Int) (r : Int × Int × Int) (x2 : Sl) (hq : HasP y' q) (h : TakeR (Lm : Int) (giveS y' f1 k gg []) q r x2) => again_take HK7.out HF7.out.1 HF7.out.2 HL7.out hc1 hG gB hq h)
          have hwg : IntKind.i64.wrap (gg + 1) = gg + 1 := by rw [IntKind.wrap_i64]; omega
          clear hmem ea ea' hG hA hc1 dead hf1' hkA
          go_wp2_with fail
          refine (give_may S7 W2.heap.size b (f1 : Int) (k : Int) gg (Lm : Int) y' w9 HI9.out sb9 HK7.out.m).mono ?_
          rintro e w10 ⟨rfl, ⟨S10, i10, g10, n10⟩⟩
          rw [HGR.out] at i10 ⊢
          have K10 := (g10.block _ l9 nk7).trans HK9.out
          have c0 : w10.cell? ⟨kl, 0, none⟩ = some (.int .i64 (k : Int)) := (cell_of K10 0).trans rfl
          have c1 : w10.cell? ⟨kl, 1, none⟩ = some (.int .i64 gg) := (cell_of K10 1).trans rfl
          have l10 := lt_of_block K10
          have HI10 := hid i10
          have HK10 := hid K10
          have HG10 := hid (HG9.out.trans g10 (fun q a => .inr ((HN7.out q a).elim (fun a => Nat.le_of_lt (HS4.out q a).1) (fun a => by omega))))
          have nk10 : ¬ S10 kl := fun a => (n10 _ a).elim nk7 (fun a => by omega)
          have HN10 := hid (show ∀ q, S10 q → w.heap.size ≤ q from fun q a => (n10 q a).elim (fun a => (HN7.out q a).elim (fun a => Nat.le_of_lt (HS4.out q a).1) (fun a => by omega)) (fun a => by omega))
          have sb10 := Nat.le_trans sb9 g10.size
          clear i10 g10 n10 K10 u0 u1
          go_wp2_with fail
          refine (alive_any _ b (Lm : Int) (k : Int) gg (giveS y' f1 k gg []) w10 HI10.out.at HMG.out.ag.symm).mono ?_
          rintro e w11 ⟨rfl, g11⟩
          rw [HDd.out]
          have HI11 := hid (HI10.out.ch g11 (fun _ _ => noB _))
          have HK11 := hid ((g11.block _ l10 (noB _)).trans HK10.out)
          have HG11 := hid (HG10.out.trans' g11)
          have sb11 := Nat.le_trans sb10 g11.size
          clear g11 c0 c1
          go_wp2_with fail
          refine (take_may S10 W2.heap.size b (t1 : Int) (Lm : Int) (giveS y' f1 k gg []) w11 HI11.out sb11 HMG.out).mono ?_
          rintro e w12 ⟨r, x2, hT2, rfl, ⟨S12, i12, g12, n12⟩⟩
          have er := HAT.out _ _ _ ⟨by omega, by rw [HK7.out.c]; omega⟩ hT2
          subst er
          have K12 := (g12.block _ (lt_of_block HK11.out) nk10).trans HK11.out
          have c0 : w12.cell? ⟨kl, 0, none⟩ = some (.int .i64 (k : Int)) := (cell_of K12 0).trans rfl
          have c1 : w12.cell? ⟨kl, 1, none⟩ = some (.int .i64 gg) := (cell_of K12 1).trans rfl
          have l12 := lt_of_block K12
          have HG12 := hid (HG11.out.trans g12 (fun q a => .inr (HN10.out q a)))
          clear hT2 i12 g12 n12 K12
          go_wp2
          go_ret
          exact ⟨rfl, HG12.out.alloc _⟩
      | @name y' s1 g1 _ hn bk =>
        clear hp hm1 hmn dj hn
        obtain ⟨kg, hkg⟩ : ∃ k, k = w6.heap.size := ⟨_, rfl⟩
        obtain ⟨W7, hW7⟩ : ∃ W, W = w6.alloc (.cells #[.int .i64 s1, .int .i64 g1] 34) := ⟨_, rfl⟩
        have gA : Ch NoB w6 W7 := by rw [hW7]; exact (Ch.refl _ _).alloc _
        have kb := (gA.block _ (lt_of_block HK7'.out) (noB _)).trans HK7'.out
        have gb : W7.heap[kg]? = some (.cells #[.int .i64 s1, .int .i64 g1] 34 (0, 0)) := by rw [hW7, hkg]; exact (MapKept.heap_alloc w6 _).1
        have v0 : W7.cell? ⟨kg, 0, none⟩ = some (.int .i64 s1) := (cell_of gb 0).trans rfl
        have v1 : W7.cell? ⟨kg, 1, none⟩ = some (.int .i64 g1) := (cell_of gb 1).trans rfl
        have c0 : W7.cell? ⟨kl, 0, none⟩ = some (.int .i64 s) := (cell_of kb 0).trans rfl
        have c1 : W7.cell? ⟨kl, 1, none⟩ = some (.int .i64 gg) := (cell_of kb 1).trans rfl
        have fz0 := frozen_of kb 0
        have fz1 := frozen_of kb 1
        have lkb := lt_of_block kb
        have lgb := lt_of_block gb
        have CC := ((Ch.refl (Only kl) W7).own 0 (.int .i64 s1)).own 1 (.int .i64 g1)
        have kk := setCell_block (setCell_block kb 0 (.int .i64 s1)) 1 (.int .i64 g1)
        have nk7 : ∀ q, S7 q → ¬ Only kl q := fun q a e => (HN7.out _ a).elim (fun a => HSK.out _ a e) (fun a => by have e1 : q = kl := e; omega)
        have HL9 := hid (show Lst S W2.heap.size W5 b kl (Lm : Int) n gs (j + 1) ((W7.setCell ⟨kl, 0, none⟩ (.int .i64 s1)).setCell ⟨kl, 1, none⟩ (.int .i64 g1)) from ⟨S7, y', _, _, s1, g1, (HI7.out.ch gA (fun _ _ => noB _)).ch CC nk7, bk, by have := HJL.out; rw [List.length_append]; simp; omega, by have := HGS.out; rw [List.length_append]; simp; omega, kk, .inr (by simp), (HG7.out.trans gA (fun q e => e.elim)).trans CC (fun q e => .inl (.inr e)), HN7.out, Nat.le_trans (Nat.le_trans sb7 gA.size) CC.size⟩)
        clear bk gA kb gb CC kk nk7
        go_upto_region 15 with fail
        rw [← hW7, ← hkg]
        clear hW7 hkg
        go_wp2
        go_roundg (K1 - 1)
        case measure => omega
        case rel => exact ⟨j + 1, by omega, rfl, by simp, HL9.out⟩
    · exfalso
      have := HJL.out
      omega
end Go.Proofs.Ytfbkifkfhgkdbab.Sb
