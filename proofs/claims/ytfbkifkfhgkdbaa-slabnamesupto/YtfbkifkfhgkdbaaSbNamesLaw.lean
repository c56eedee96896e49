/-
  SlabNames' walk: behind any calls just the names that the book has are alive. Conditions: the list of calls is there, and at most 1048576 long.
-/
import Derived.Test.YtfbkifkfhgkdbaaSbFit
import Derived.Test.YtfbkifkfhgkdbaaSbAwake
import Derived.Handy
namespace Go.Proofs.Ytfbkifkfhgkdbaa.Sb
open Go.RowKit
attribute [local go_sem ↓] Go.wp_at_zero Go.wp_at_succ

theorem mem_next {al : List (Int × Int)} {m : Nat} {y z : Int × Int} (h : al[m]? = some z) : decide (y ∈ al.take (m + 1)) = (decide (y ∈ al.take m) || decide (z = y)) := by
  rw [List.take_add_one, h]
  by_cases h1 : y ∈ al.take m
  · simp [h1]
  · by_cases h2 : z = y
    · subst h2
      simp
    · have h3 : ¬ y = z := fun e => h2 e.symm
      simp [h1, h2, h3]

set_option maxRecDepth 100000 in
set_option maxHeartbeats 4000000 in
theorem names_law (l p : Int) (v : Value) (N : Nat) (w : World) (hv : OpL w v N) (hN : N ≤ 1048576) : Calls Try.prog 6 #[.agg #[.int .i64 l, .int .i64 p, v]] w fun e w' => e = .returned (.bool true) ∧ Ch NoB w w' := by
  obtain ⟨ao, cap, rfl, hmax, hel⟩ := hv
  have HV := hid (show OpL w (.slice ao N cap) N from ⟨ao, cap, rfl, hmax, hel⟩)
  clear hel
  obtain ⟨W0, hW0⟩ : ∃ W, W = w.alloc (.cells #[.int .i64 l, .int .i64 p, .slice ao N cap] 37) := ⟨_, rfl⟩
  have b0 : W0.heap[w.heap.size]? = some (.cells #[.int .i64 l, .int .i64 p, .slice ao N cap] 37 (0, 0)) := by rw [hW0]; exact (MapKept.heap_alloc w _).1
  have g0 : Ch NoB w W0 := by rw [hW0]; exact (Ch.refl _ _).alloc _
  have HB0 := hid b0
  have HG0 := hid g0
  clear b0 g0
  go_enter Try.func6, Try.ntmps6
  go_wp2_with fail
  rw [← hW0]
  clear hW0
  refine (fit_any l p ao N cap _).mono ?_
  rintro e w1 ⟨L, n, hS, rfl, g1⟩
  have b1 := (g1.block _ (lt_of_block HB0.out) (noB _)).trans HB0.out
  have y0 : w1.cell? ⟨w.heap.size, 0, none⟩ = some (.int .i64 l) := (cell_of b1 0).trans rfl
  have y1 : w1.cell? ⟨w.heap.size, 1, none⟩ = some (.int .i64 p) := (cell_of b1 1).trans rfl
  have y2 : w1.cell? ⟨w.heap.size, 2, none⟩ = some (.slice ao N cap) := (cell_of b1 2).trans rfl
  have fz0 := frozen_of b1 0
  have fz1 := frozen_of b1 1
  have fz2 := frozen_of b1 2
  have lb := lt_of_block b1
  obtain ⟨W2, hW2⟩ : ∃ W, W = (((w1.setCell ⟨w.heap.size, 0, none⟩ (.int .i64 L)).setCell ⟨w.heap.size, 1, none⟩ (.int .i64 (n : Int))).setCell ⟨w.heap.size, 2, none⟩ (.slice ao N cap)) := ⟨_, rfl⟩
  have b2 : W2.heap[w.heap.size]? = some (.cells #[.int .i64 L, .int .i64 (n : Int), .slice ao N cap] 37 (0, 0)) := by rw [hW2]; exact setCell_block (setCell_block (setCell_block b1 0 _) 1 _) 2 _
  have g2 : Ch NoB w W2 := by
    rw [hW2]
    exact (((HG0.out.trans' g1).fresh (Nat.le_refl _) 0 _).fresh (Nat.le_refl _) 1 _).fresh (Nat.le_refl _) 2 _
  have HS := hid hS
  have HB2 := hid b2
  have HG2 := hid g2
  have z0 : W2.cell? ⟨w.heap.size, 0, none⟩ = some (.int .i64 L) := (cell_of b2 0).trans rfl
  have z1 : W2.cell? ⟨w.heap.size, 1, none⟩ = some (.int .i64 (n : Int)) := (cell_of b2 1).trans rfl
  have lb2 := lt_of_block b2
  clear b1 b2 g1 g2 hS
  go_wp2_with fail
  rw [← hW2]
  clear hW2 y0 y1 y2 fz0 fz1 fz2 lb
  refine (new_good L n _ HS.out).mono ?_
  rintro e w3 ⟨b, rfl, hb, s3, g3⟩
  obtain ⟨vg, va, vc, vf, cv, f5, t5, n5⟩ := s3
  have i3 : SlabIn (fun q => W2.heap.size ≤ q ∧ q < w3.heap.size) W2.heap.size w3 b L (newSl n) := ⟨vg, va, vc, vf, cv, f5, t5, n5, ⟨hb, f5.lt⟩, fun q a => t5.blk a, fun q a => a.2⟩
  have HI3 := hid i3
  have b3 := (g3.block _ lb2 (noB _)).trans HB2.out
  have x0 : w3.cell? ⟨w.heap.size, 0, none⟩ = some (.int .i64 L) := (cell_of b3 0).trans rfl
  have x1 : w3.cell? ⟨w.heap.size, 1, none⟩ = some (.int .i64 (n : Int)) := (cell_of b3 1).trans rfl
  have x2 : w3.cell? ⟨w.heap.size, 2, none⟩ = some (.slice ao N cap) := (cell_of b3 2).trans rfl
  have lb3 := lt_of_block b3
  have HG3 := hid (HG2.out.trans' g3)
  have HB3 := hid b3
  have hz3 := g3.size
  have HOA := hid (HV.out.apart (S0 := fun q => W2.heap.size ≤ q ∧ q < w3.heap.size) HG3.out (fun q a => Nat.le_trans HG2.out.size a.1))
  clear f5 t5 n5 i3 b3 g3 z0 z1
  go_wp2_with fail
  refine (names_any _ W2.heap.size b L n N _ w3 HI3.out hz3 HS.out HOA.out hN).mono ?_
  rintro e w4 ⟨S, x, gs, al, ha, hc, aa, ac, rfl, hB, hgl, g4, hSS⟩
  have b4 := (g4.block _ lb3 (fun e => by have := e.1; omega)).trans HB3.out
  have G4 : Ch NoB w w4 := HG3.out.trans g4 (fun q e => .inr (Nat.le_trans HG2.out.size e.1))
  have HB := hid hB
  have HG4 := hid G4
  have HX4 := hid b4
  have hgl2 : gs.length < 2147483647 := by omega
  have HGL := hid hgl2
  have HGN := hid hgl
  have HS4 := hid (show ∀ q, S q → w.heap.size < q ∧ q < w4.heap.size from fun q a => ⟨(hSS q a).elim (fun a => by have := a.1; omega) (fun a => by omega), hB.s.lt q a⟩)
  obtain ⟨nh, hnh⟩ : ∃ m, m = gs.length := ⟨_, rfl⟩
  obtain ⟨na, hna⟩ : ∃ m, m = al.length := ⟨_, rfl⟩
  rw [← hnh, ← hna] at HB ⊢
  have HNH := hid hnh
  have HNA := hid hna
  have naB : na ≤ 4096 := by rw [hna]; exact hB.k.few
  have nhB : nh ≤ 1048576 := by omega
  have bs := HB.out.sb
  have lb4 := lt_of_block b4
  clear hB hgl g4 hSS b4 G4 hgl2 x0 x1 x2 hnh hna
  have HCN := hid HB.out.k.len
  go_wp2_with fail
  refine (live_any _ b L x w4 HB.out.s.at HB.out.k.m.fits).mono ?_
  rintro e w5 ⟨rfl, g5⟩
  rw [← HCN.out, ← HNA.out]
  have HB5 := hid (HB.out.still g5)
  have HG5 := hid (HG4.out.trans' g5)
  clear g5
  go_wp2_with fail
  go_loopg [8] nh (fun k i wr => ∃ j : Nat, j + k = nh ∧ i = .int .i64 ((j : Nat) : Int) ∧ Nb S W2.heap.size w3.heap.size wr b L n x (.slice ha nh hc) (.slice aa na ac) gs al ∧ Ch NoB w wr)
  case atStart => exact ⟨0, by omega, rfl, HB5.out, HG5.out⟩
  case round =>
    obtain ⟨j, hjk, rfl, hBj, hGj⟩ := hrel
    obtain ⟨V, hV⟩ : ∃ W, W = wr := ⟨_, rfl⟩
    subst hV
    obtain ⟨K1, hK1⟩ : ∃ k, k = gk := ⟨_, rfl⟩
    have HBj := hid hBj
    have HGj := hid hGj
    clear hBj hGj HB5 HG5
    by_cases hj : j < nh
    · obtain ⟨y, hy⟩ : ∃ y, gs[j]? = some y := ⟨_, List.getElem?_eq_getElem (by rw [← HNH.out]; exact hj)⟩
      obtain ⟨hbk, rfl, -, hbl, t0, t1⟩ := HBj.out.h.get hy
      have j0 : (0 : Int) ≤ (j : Int) := by omega
      have j1 : (j : Int) < (nh : Int) := by omega
      clear hy
      go_wp2_with fail
      go_loopg [9, 10] na (fun k is i wq => ∃ (m c : Nat) (t : Bool), m + k = na ∧ i = .int .i64 ((m : Nat) : Int) ∧ wq = V.drewN c ∧ is = .bool t ∧ t = decide (y ∈ al.take m))
      case atStart => exact ⟨0, 0, false, by omega, rfl, rfl, rfl, by simp⟩
      case round =>
        obtain ⟨m, c, t, hmk, rfl, rfl, rfl, ht⟩ := hrel
        have HT := hid ht
        clear ht
        by_cases hm : m < na
        · obtain ⟨z, hz⟩ : ∃ z, al[m]? = some z := ⟨_, List.getElem?_eq_getElem (by rw [← HNA.out]; exact hm)⟩
          obtain ⟨abk, rfl, -, abl, s0, s1⟩ := HBj.out.a.get hz
          have m0 : (0 : Int) ≤ (m : Int) := by omega
          have m1 : (m : Int) < (na : Int) := by omega
          have HZ := hid (mem_next (y := y) hz)
          clear hz
          cases t with
          | true =>
            go_wp2
            refine wp_region_any (by kernel_rfl) ?_
            change wpAny _ _ _ _ _ _ _ (World.drew _)
            refine take_on (i := 0) 51 (v := ?v1) rfl rfl (by kernel_rfl) (by kernel_rfl) (by kernel_rfl) (fun _ _ _ h => h) (by kernel_rfl) ?hy1 ?_
            case hy1 => (intro w; go_simp; try (with_reducible rfl))
            simp only [Act.put, List.setIfInBounds_toArray, List.set_cons_zero, List.set_cons_succ]
            refine take_on (i := 1) 52 (v := ?v2) rfl rfl (by kernel_rfl) (by kernel_rfl) (by kernel_rfl) (fun _ _ _ h => h) (by kernel_rfl) ?hy2 ?_
            case hy2 => (intro w; go_simp; try (with_reducible rfl))
            simp only [Act.put, List.setIfInBounds_toArray, List.set_cons_zero, List.set_cons_succ]
            refine skip_on (i := 2) 53 rfl rfl (by kernel_rfl) (by kernel_rfl) (by kernel_rfl) (fun _ _ _ h => h) (by kernel_rfl) ?_
            simp only [Act.put, List.setIfInBounds_toArray, List.set_cons_zero, List.set_cons_succ]
            refine skip_on (i := 3) 54 rfl rfl (by kernel_rfl) (by kernel_rfl) (by kernel_rfl) (fun _ _ _ h => h) (by kernel_rfl) ?_
            simp only [Act.put, List.setIfInBounds_toArray, List.set_cons_zero, List.set_cons_succ]
            refine skip_on (i := 4) 55 rfl rfl (by kernel_rfl) (by kernel_rfl) (by kernel_rfl) (fun _ _ _ h => h) (by kernel_rfl) ?_
            simp only [Act.put, List.setIfInBounds_toArray, List.set_cons_zero, List.set_cons_succ]
            refine skip_on (i := 5) 56 rfl rfl (by kernel_rfl) (by kernel_rfl) (by kernel_rfl) (fun _ _ _ h => h) (by kernel_rfl) ?_
            simp only [Act.put, List.setIfInBounds_toArray, List.set_cons_zero, List.set_cons_succ]
            refine skip_on (i := 6) 57 rfl rfl (by kernel_rfl) (by kernel_rfl) (by kernel_rfl) (fun _ _ _ h => h) (by kernel_rfl) ?_
            simp only [Act.put, List.setIfInBounds_toArray, List.set_cons_zero, List.set_cons_succ]
            refine skip_on (i := 7) 58 rfl rfl (by kernel_rfl) (by kernel_rfl) (by kernel_rfl) (fun _ _ _ h => h) (by kernel_rfl) ?_
            simp only [Act.put, List.setIfInBounds_toArray, List.set_cons_zero, List.set_cons_succ]
            refine skip_on (i := 8) 59 rfl rfl (by kernel_rfl) (by kernel_rfl) (by kernel_rfl) (fun _ _ _ h => h) (by kernel_rfl) ?_
            simp only [Act.put, List.setIfInBounds_toArray, List.set_cons_zero, List.set_cons_succ]
            refine skip_on (i := 9) 60 rfl rfl (by kernel_rfl) (by kernel_rfl) (by kernel_rfl) (fun _ _ _ h => h) (by kernel_rfl) ?_
            simp only [Act.put, List.setIfInBounds_toArray, List.set_cons_zero, List.set_cons_succ]
            refine skip_on (i := 10) 61 rfl rfl (by kernel_rfl) (by kernel_rfl) (by kernel_rfl) (fun _ _ _ h => h) (by kernel_rfl) ?_
            simp only [Act.put, List.setIfInBounds_toArray, List.set_cons_zero, List.set_cons_succ]
            refine take_on (i := 11) 62 (v := ?v12) rfl rfl (by kernel_rfl) (by kernel_rfl) (by kernel_rfl) (fun _ _ _ h => h) (by kernel_rfl) ?hy12 ?_
            case hy12 => (intro w; go_simp; try (with_reducible rfl))
            simp only [Act.put, List.setIfInBounds_toArray, List.set_cons_zero, List.set_cons_succ]
            refine take_on (i := 12) 9 (v := ?v13) rfl rfl (by kernel_rfl) (by kernel_rfl) (by kernel_rfl) (fun _ _ _ h => h) (by kernel_rfl) ?hy13 ?_
            case hy13 => (intro w; go_simp; try (with_reducible rfl))
            simp only [Act.put, List.setIfInBounds_toArray, List.set_cons_zero, List.set_cons_succ]
            refine wpAny_done (by kernel_rfl) ?_ _
            go_wp2
            go_roundg (gk - 1)
            case measure => omega
            case rel => exact ⟨m + 1, _, true, by omega, by simp, rfl, rfl, by rw [HZ.out, ← HT.out]; rfl⟩
          | false =>
            have heq := fun w => eql_gid z.1 z.2 y.1 y.2 w
            have HE := hid (show decide (y ∈ al.take (m + 1)) = (decide (z.1 = y.1) && decide (z.2 = y.2)) by rw [HZ.out, ← HT.out]; simp [Prod.ext_iff])
            go_wp2
            go_quiet (fail)
            go_wp2
            go_roundg (gk - 1)
            case measure => omega
            case rel => exact ⟨m + 1, _, _, by omega, by simp, rfl, rfl, HE.out.symm⟩
        · have em : m = na := by omega
          have et : aliveB x y.1 y.2 = t := by
            rw [HT.out, em, HNA.out, List.take_length]
            cases e : aliveB x y.1 y.2 with
            | true => exact (decide_eq_true ((HB.out.k.a y).2 e)).symm
            | false => exact (decide_eq_false (fun h => by rw [(HB.out.k.a y).1 h] at e; cases e)).symm
          have HET := hid et
          clear et em
          go_wp2_with fail
          refine (alive_any _ b L y.1 y.2 x _ ((HBj.out.still ((Ch.refl NoB V).drewN c)).s.at) HB.out.k.m.ag.symm).mono ?_
          rintro e w6 ⟨rfl, g6⟩
          rw [HET.out]
          have HB6 := hid ((HBj.out.still ((Ch.refl NoB V).drewN c)).still g6)
          have HG6 := hid ((HGj.out.drewN c).trans' g6)
          clear g6
          cases t with
          | true =>
            go_wp2
            go_roundg (K1 - 1)
            case measure => omega
            case rel => exact ⟨j + 1, by omega, by simp, HB6.out, HG6.out⟩
          | false =>
            go_wp2
            go_roundg (K1 - 1)
            case measure => omega
            case rel => exact ⟨j + 1, by omega, by simp, HB6.out, HG6.out⟩
    · go_wp2_with fail
      refine (awake_any _).mono ?_
      rintro e w7 ⟨rfl, g7⟩
      have HG7 := hid (HGj.out.trans' g7)
      clear g7
      go_wp2
      go_ret
      exact ⟨rfl, HG7.out⟩
end Go.Proofs.Ytfbkifkfhgkdbaa.Sb
