/-
  SlabFlushes' walk: behind Flush of all Ps the caches are empty, and as many slots are free as were. Conditions: the list of calls is there, and at most 1048576 long.
-/
import Derived.Test.YtfbkifkfhgkdbaaSbFit
import Derived.Test.YtfbkifkfhgkdbaaSbAwake
import Derived.Handy
namespace Go.Proofs.Ytfbkifkfhgkdbaa.Sb
open Go.RowKit
attribute [local go_sem ↓] Go.wp_at_zero Go.wp_at_succ

/-- where SlabFlushes stands behind Flush of the first j Ps -/
def Fi (S : Nat → Prop) (base : Nat) (W6 : World) (b : Nat) (L : Int) (n : Nat) (x : Sl) (gs al : List (Int × Int)) (j : Nat) (nn : Value) (wr : World) : Prop :=
  ∃ S' y, SlabIn S' base wr b L y ∧ Flushed L n x gs al j y ∧ nn = .int .i64 (y.F.length : Int) ∧ Ch S W6 wr ∧ (∀ q, S' q → S q ∨ W6.heap.size ≤ q) ∧ base ≤ wr.heap.size

set_option maxRecDepth 100000 in
set_option maxHeartbeats 4000000 in
theorem flushes_law (l p : Int) (v : Value) (N : Nat) (w : World) (hv : OpL w v N) (hN : N ≤ 1048576) : Calls Try.prog 8 #[.agg #[.int .i64 l, .int .i64 p, v]] w fun e w' => e = .returned (.bool true) ∧ Ch NoB w w' := by
  obtain ⟨ao, cap, rfl, hmax, hel⟩ := hv
  have HV := hid (show OpL w (.slice ao N cap) N from ⟨ao, cap, rfl, hmax, hel⟩)
  clear hel
  obtain ⟨W0, hW0⟩ : ∃ W, W = w.alloc (.cells #[.int .i64 l, .int .i64 p, .slice ao N cap] 37) := ⟨_, rfl⟩
  have b0 : W0.heap[w.heap.size]? = some (.cells #[.int .i64 l, .int .i64 p, .slice ao N cap] 37 (0, 0)) := by rw [hW0]; exact (MapKept.heap_alloc w _).1
  have g0 : Ch NoB w W0 := by rw [hW0]; exact (Ch.refl _ _).alloc _
  have HB0 := hid b0
  have HG0 := hid g0
  clear b0 g0
  go_enter Try.func8, Try.ntmps8
  go_wp2_with fail
  rw [← hW0]
  clear hW0
  refine (fit_any l p ao N cap _).mono ?_
  rintro e w1 ⟨L, n, hS, rfl, g1⟩
  have b1 := (g1.block _ (lt_of_block HB0.out) (noB _)).trans HB0.out
  have y0 : w1.cell? ⟨w.heap.size, 0, none⟩ = some (.int .i64 l) := (cell_of b1 0).trans rfl
  have y1 : w1.cell? ⟨w.heap.size, 1, none⟩ = some (.int .i64 p) := (cell_of b1 1).trans rfl
  have y2 : w1.cell? ⟨w.heap.size, 2, none⟩ = some (.slice ao N cap) := (cell_of b1 2).trans rfl
  have fz0 := frozen_of b1 0
  have fz1 := frozen_of b1 1
  have fz2 := frozen_of b1 2
  have lb := lt_of_block b1
  obtain ⟨W2, hW2⟩ : ∃ W, W = (((w1.setCell ⟨w.heap.size, 0, none⟩ (.int .i64 L)).setCell ⟨w.heap.size, 1, none⟩ (.int .i64 (n : Int))).setCell ⟨w.heap.size, 2, none⟩ (.slice ao N cap)) := ⟨_, rfl⟩
  have b2 : W2.heap[w.heap.size]? = some (.cells #[.int .i64 L, .int .i64 (n : Int), .slice ao N cap] 37 (0, 0)) := by rw [hW2]; exact setCell_block (setCell_block (setCell_block b1 0 _) 1 _) 2 _
  have g2 : Ch NoB w W2 := by
    rw [hW2]
    exact (((HG0.out.trans' g1).fresh (Nat.le_refl _) 0 _).fresh (Nat.le_refl _) 1 _).fresh (Nat.le_refl _) 2 _
  have HS := hid hS
  have HB2 := hid b2
  have HG2 := hid g2
  have z0 : W2.cell? ⟨w.heap.size, 0, none⟩ = some (.int .i64 L) := (cell_of b2 0).trans rfl
  have z1 : W2.cell? ⟨w.heap.size, 1, none⟩ = some (.int .i64 (n : Int)) := (cell_of b2 1).trans rfl
  have lb2 := lt_of_block b2
  clear b1 b2 g1 g2 hS
  go_wp2_with fail
  rw [← hW2]
  clear hW2 y0 y1 y2 fz0 fz1 fz2 lb
  refine (new_good L n _ HS.out).mono ?_
  rintro e w3 ⟨b, rfl, hb, s3, g3⟩
  obtain ⟨vg, va, vc, vf, cv, f5, t5, n5⟩ := s3
  have i3 : SlabIn (fun q => W2.heap.size ≤ q ∧ q < w3.heap.size) W2.heap.size w3 b L (newSl n) := ⟨vg, va, vc, vf, cv, f5, t5, n5, ⟨hb, f5.lt⟩, fun q a => t5.blk a, fun q a => a.2⟩
  have HI3 := hid i3
  have b3 := (g3.block _ lb2 (noB _)).trans HB2.out
  have x0 : w3.cell? ⟨w.heap.size, 0, none⟩ = some (.int .i64 L) := (cell_of b3 0).trans rfl
  have x1 : w3.cell? ⟨w.heap.size, 1, none⟩ = some (.int .i64 (n : Int)) := (cell_of b3 1).trans rfl
  have x2 : w3.cell? ⟨w.heap.size, 2, none⟩ = some (.slice ao N cap) := (cell_of b3 2).trans rfl
  have lb3 := lt_of_block b3
  have HG3 := hid (HG2.out.trans' g3)
  have HB3 := hid b3
  have hz3 := g3.size
  have HOA := hid (HV.out.apart (S0 := fun q => W2.heap.size ≤ q ∧ q < w3.heap.size) HG3.out (fun q a => Nat.le_trans HG2.out.size a.1))
  clear f5 t5 n5 i3 b3 g3 z0 z1
  go_wp2_with fail
  refine (names_any _ W2.heap.size b L n N _ w3 HI3.out hz3 HS.out HOA.out hN).mono ?_
  rintro e w4 ⟨S, x, gs, al, ha, hc, aa, ac, rfl, hB, hgl, g4, hSS⟩
  have b4 := (g4.block _ lb3 (fun e => by have := e.1; omega)).trans HB3.out
  have G4 : Ch NoB w w4 := HG3.out.trans g4 (fun q e => .inr (Nat.le_trans HG2.out.size e.1))
  have HB := hid hB
  have HG4 := hid G4
  have HX4 := hid b4
  have hgl2 : gs.length < 2147483647 := by omega
  have HGL := hid hgl2
  have HGN := hid hgl
  have HS4 := hid (show ∀ q, S q → w.heap.size < q ∧ q < w4.heap.size from fun q a => ⟨(hSS q a).elim (fun a => by have := a.1; omega) (fun a => by omega), hB.s.lt q a⟩)
  obtain ⟨nh, hnh⟩ : ∃ m, m = gs.length := ⟨_, rfl⟩
  obtain ⟨na, hna⟩ : ∃ m, m = al.length := ⟨_, rfl⟩
  rw [← hnh, ← hna] at HB ⊢
  have HNH := hid hnh
  have HNA := hid hna
  have naB : na ≤ 4096 := by rw [hna]; exact hB.k.few
  have nhB : nh ≤ 1048576 := by omega
  have bs := HB.out.sb
  have lb4 := lt_of_block b4
  clear hB hgl g4 hSS b4 G4 hgl2 x0 x1 x2 hnh hna
  go_wp2_with fail
  refine (state_any _ b L x w4 HB.out.s.at HB.out.k.m.fits).mono ?_
  rintro e w5 ⟨vg', va', vc', vf', cv', rfl, st, g5⟩
  obtain ⟨a1, q1, rfl⟩ := st.g.form
  obtain ⟨a2, q2, rfl⟩ := st.a.form
  obtain ⟨a3, q3, rfl⟩ := st.c.form
  obtain ⟨a4, q4, rfl⟩ := st.f.form
  obtain ⟨n1, hn1⟩ : ∃ m, m = (iv x.G).length := ⟨_, rfl⟩
  obtain ⟨n2, hn2⟩ : ∃ m, m = (bv x.A).length := ⟨_, rfl⟩
  obtain ⟨n3, hn3⟩ : ∃ m, m = cv'.length := ⟨_, rfl⟩
  obtain ⟨n4, hn4⟩ : ∃ m, m = (iv x.F).length := ⟨_, rfl⟩
  rw [← hn1, ← hn2, ← hn3, ← hn4] at st ⊢
  have e3 : n3 = n := by rw [hn3, st.cl]; exact HB.out.k.c
  have e4 : n4 = x.F.length := by rw [hn4, iv_length]
  rw [e3] at st ⊢
  have n64 : n ≤ 64 := by have := HS.out.2.2; omega
  obtain ⟨kw, hkw⟩ : ∃ k, k = w5.heap.size := ⟨_, rfl⟩
  obtain ⟨W6, hW6⟩ : ∃ W, W = w5.alloc (.cells #[.int .i64 L, .slice a1 n1 q1, .slice a2 n2 q2, .slice a3 n q3, .slice a4 n4 q4] 30) := ⟨_, rfl⟩
  have gA : Ch NoB w5 W6 := by rw [hW6]; exact (Ch.refl _ _).alloc _
  have f6 : Fv 30 W6 kw (.int .i64 L) (.slice a1 n1 q1) (.slice a2 n2 q2) (.slice a3 n q3) (.slice a4 n4 q4) := by rw [hW6, hkw]; exact Fv.new _ w5 _ _ _ _ _
  have r6 := (st.rd.mono (fun q _ a => st.blk a)).ch gA (fun _ _ _ => noB _)
  obtain ⟨c0, c1, c2, c3, c4⟩ := f6.cells
  have l6 := f6.lt
  have HF6 := hid f6
  have HR6 := hid r6
  have G6 : Ch NoB w4 W6 := g5.trans' gA
  have HB6 := hid (HB.out.still G6)
  have HW6 := hid G6
  have b6 := (G6.block _ lb4 (noB _)).trans HX4.out
  have x1 : W6.cell? ⟨w.heap.size, 1, none⟩ = some (.int .i64 (n : Int)) := (cell_of b6 1).trans rfl
  have lx6 := lt_of_block b6
  have HX6 := hid b6
  have HG6 := hid (HG4.out.trans' G6)
  have hkw4 : w4.heap.size ≤ kw := by rw [hkw]; exact g5.size
  have z6 := G6.size
  have HFi := hid (show Fi S W2.heap.size W6 b L n x gs al 0 (.int .i64 (n4 : Int)) W6 from ⟨S, x, HB6.out.s, Flushed.start HB.out.k, by rw [e4], Ch.refl _ _, fun q a => .inl a, HB6.out.sb⟩)
  have HNl := hid HS.out.2.2
  have HSt := hid st
  clear st g5 gA f6 r6 G6 b6 hn1 hn2 hn3 hn4 e3 e4
  go_wp2_with fail
  rw [← hW6, ← hkw]
  clear hW6 hkw c0 c1 c2 c3 c4 x1
  go_loopg [7, 9, 10] n (fun k ok nn p wr => ∃ (j : Nat) (nz : Int), j + k = n ∧ ok = .bool true ∧ nn = .int .i64 nz ∧ p = .int .i64 ((j : Nat) : Int) ∧ Fi S W2.heap.size W6 b L n x gs al j (.int .i64 nz) wr)
  case atStart => exact ⟨0, _, by omega, rfl, rfl, rfl, HFi.out⟩
  case round =>
    obtain ⟨j, nz, hjk, rfl, rfl, rfl, hF⟩ := hrel
    obtain ⟨V, hV⟩ : ∃ W, W = wr := ⟨_, rfl⟩
    subst hV
    obtain ⟨K1, hK1⟩ : ∃ k, k = gk := ⟨_, rfl⟩
    obtain ⟨S', y, i7, hFl, hnz, g7, n7, sb7⟩ := hF
    have hnz' : nz = (y.F.length : Int) := by injection hnz
    have yFl := hFl.b.m.fl
    have nS : ∀ q, w4.heap.size ≤ q → ¬ S q := fun q a e => by have := (HS4.out q e).2; omega
    have nSx : ¬ S w.heap.size := fun e => by have := (HS4.out _ e).1; omega
    have f7 := HF6.out.ch g7 (nS _ hkw4)
    obtain ⟨c0, c1, c2, c3, c4⟩ := f7.cells
    have l7 := f7.lt
    have b7 := (g7.block _ lx6 nSx).trans HX6.out
    have x1 : V.cell? ⟨w.heap.size, 1, none⟩ = some (.int .i64 (n : Int)) := (cell_of b7 1).trans rfl
    have lx7 := lt_of_block b7
    have r7 := HR6.out.ch g7 (fun q _ a => nS q a.1)
    have HI7 := hid i7
    have HFl := hid hFl
    have HG7 := hid g7
    have HN7 := hid n7
    have HR7 := hid r7
    have HX7 := hid b7
    have HNZ := hid hnz'
    clear i7 hFl g7 n7 r7 b7 f7 hnz hnz' nS HFi
    by_cases hj : j < n
    · obtain ⟨c, hc⟩ : ∃ c, x.C[j]? = some c := ⟨_, List.getElem?_eq_getElem (by rw [HB.out.k.c]; exact hj)⟩
      obtain ⟨u, hu⟩ : ∃ u, cv'[j]? = some u := ⟨_, List.getElem?_eq_getElem (by rw [HSt.out.cl, HB.out.k.c]; exact hj)⟩
      have lsu := HR7.out.e.2 j u c hu hc
      obtain ⟨la, lc, rfl⟩ := lsu.form
      obtain ⟨nU, hnU⟩ : ∃ m, m = (iv c).length := ⟨_, rfl⟩
      rw [← hnU] at lsu hu
      have hnc : nU = c.length := by rw [hnU, iv_length]
      obtain ⟨g1, o1, rfl, -, -, -, t1⟩ := HR7.out.c.get1 hu
      have nU64 : nU < 64 := by rw [hnc]; exact HB.out.k.m.cl j c hc
      obtain ⟨hcy, hFn⟩ := HFl.out.next hc
      have j0 : (0 : Int) ≤ (j : Int) := by omega
      have j1 : (j : Int) < (n : Int) := by omega
      have dj : decide ((j : Int) < (n : Int)) = true := decide_eq_true j1
      have nz0 : 0 ≤ nz ∧ nz ≤ 4096 := by rw [HNZ.out]; omega
      have hwz : IntKind.i64.wrap (nz + (nU : Int)) = nz + (nU : Int) := by rw [IntKind.wrap_i64]; omega
      have HFn := hid hFn
      have HCy := hid hcy
      have HNC := hid hnc
      clear hu lsu hc hnU hnc hcy hFn
      go_wp2_with fail
      refine (flush_may S' W2.heap.size b (j : Int) L y V HI7.out sb7 HFl.out.b.m).mono ?_
      rintro e w8 ⟨rfl, ⟨S8, i8, g8, n8⟩⟩
      rw [flushR_good HCy.out] at i8 ⊢
      have HFi8 := hid (show Fi S W2.heap.size W6 b L n x gs al (j + 1) (.int .i64 (nz + (nU : Int))) w8 from ⟨S8, flushS y j c, i8, HFn.out, by rw [HNZ.out, HNC.out]; simp [flushS], HG7.out.trans g8 HN7.out, fun q a => (n8 q a).elim (HN7.out q) (fun a => .inr (Nat.le_trans HG7.out.size a)), Nat.le_trans sb7 g8.size⟩)
      clear i8 g8 n8
      go_wp2
      go_roundg (K1 - 1)
      case measure => omega
      case rel => exact ⟨j + 1, _, by omega, rfl, rfl, by simp, HFi8.out⟩
    · have ej : j = n := by omega
      have dj : decide ((j : Int) < (n : Int)) = false := decide_eq_false (by omega)
      have hAll : ∀ i : Nat, i < n → y.C[i]? = some [] := fun i hi => HFl.out.lo i (by omega)
      have HAll := hid hAll
      clear hAll
      go_wp2_with fail
      refine (state_any _ b L y V HI7.out.at HFl.out.b.m.fits).mono ?_
      rintro e w8 ⟨vg2, va2, vc2, vf2, cv2, rfl, st2, g8⟩
      obtain ⟨a1y, q1y, rfl⟩ := st2.g.form
      obtain ⟨a2y, q2y, rfl⟩ := st2.a.form
      obtain ⟨a3y, q3y, rfl⟩ := st2.c.form
      obtain ⟨a4y, q4y, rfl⟩ := st2.f.form
      obtain ⟨n1y, hn1y⟩ : ∃ m, m = (iv y.G).length := ⟨_, rfl⟩
      obtain ⟨n2y, hn2y⟩ : ∃ m, m = (bv y.A).length := ⟨_, rfl⟩
      obtain ⟨n3y, hn3y⟩ : ∃ m, m = cv2.length := ⟨_, rfl⟩
      obtain ⟨n4y, hn4y⟩ : ∃ m, m = (iv y.F).length := ⟨_, rfl⟩
      rw [← hn1y, ← hn2y, ← hn3y, ← hn4y] at st2 ⊢
      have e3y : n3y = n := by rw [hn3y, st2.cl]; exact HFl.out.b.c
      have e4y : n4y = y.F.length := by rw [hn4y, iv_length]
      obtain ⟨kn, hkn⟩ : ∃ k, k = w8.heap.size := ⟨_, rfl⟩
      obtain ⟨fl, hfl⟩ : ∃ k, k = y.F.length := ⟨_, rfl⟩
      have enz : nz = (fl : Int) := by rw [hfl]; exact HNZ.out
      subst enz
      rw [e4y, ← hfl, e3y] at st2 ⊢
      obtain ⟨W9, hW9⟩ : ∃ W, W = w8.alloc (.cells #[.int .i64 L, .slice a1y n1y q1y, .slice a2y n2y q2y, .slice a3y n q3y, .slice a4y fl q4y] 30) := ⟨_, rfl⟩
      have gB : Ch NoB w8 W9 := by rw [hW9]; exact (Ch.refl _ _).alloc _
      have f9 : Fv 30 W9 kn (.int .i64 L) (.slice a1y n1y q1y) (.slice a2y n2y q2y) (.slice a3y n q3y) (.slice a4y fl q4y) := by rw [hW9, hkn]; exact Fv.new _ w8 _ _ _ _ _
      have r9 := (st2.rd.mono (fun q _ a => st2.blk a)).ch gB (fun _ _ _ => noB _)
      obtain ⟨d0, d1, d2, d3, d4⟩ := f9.cells
      have lk0 := f9.lt
      have G9 : Ch NoB V W9 := g8.trans' gB
      have b9 := (G9.block _ lx7 (noB _)).trans HX7.out
      have y1 : W9.cell? ⟨w.heap.size, 1, none⟩ = some (.int .i64 (n : Int)) := (cell_of b9 1).trans rfl
      have lx0 := lt_of_block b9
      have HA0 := hid ((HI7.out.at.ch G9).ch ((Ch.refl NoB W9).drew))
      have HR0 := hid (r9.ch ((Ch.refl NoB W9).drew) (fun _ _ _ => noB _))
      have HC0 := hid ((((HG6.out.trans HG7.out (fun q e => .inr (Nat.le_of_lt (HS4.out q e).1))).trans' G9)).drew)
      have HFt := hid HFl.out.b.m.fits
      have HR9 := hid r9
      have HSt2 := hid st2
      clear st2 g8 gB f9 r9 G9 b9 c0 c1 c2 c3 c4 x1 e3y e4y hn1y hn2y hn3y hn4y hfl ej
      go_wp2_with fail
      rw [← hW9, ← hkn]
      clear hW9 hkn
      go_loopg [7, 12] n (fun k ok p wr => ∃ m : Nat, m + k = n ∧ ok = .bool true ∧ p = .int .i64 ((m : Nat) : Int) ∧ W9 = wr)
      case atStart => exact ⟨0, by omega, rfl, rfl, rfl⟩
      case round =>
        obtain ⟨m, hmk, rfl, rfl, rfl⟩ := hrel
        by_cases hm : m < n
        · have hc0 := HAll.out m hm
          obtain ⟨u, hu⟩ : ∃ u, cv2[m]? = some u := ⟨_, List.getElem?_eq_getElem (by rw [HSt2.out.cl]; exact (List.getElem?_eq_some_iff.1 hc0).1)⟩
          have lsu := HR9.out.e.2 m u [] hu hc0
          obtain ⟨la, lc, rfl⟩ := lsu.form
          have e0 : (iv ([] : List Int)).length = 0 := rfl
          rw [e0] at hu
          obtain ⟨g1, o1, rfl, -, -, -, t1⟩ := HR9.out.c.get1 hu
          have m0 : (0 : Int) ≤ (m : Int) := by omega
          have m1 : (m : Int) < (n : Int) := by omega
          clear hu lsu hc0 e0
          go_wp2
          go_roundg (gk - 1)
          case measure => omega
          case rel => exact ⟨m + 1, by omega, rfl, by simp, rfl⟩
        · have hS0 : (W9.cell? ⟨kn, 0, none⟩ = some (.int .i64 L) ∧ W9.cell? ⟨kn, 1, none⟩ = some (.slice a1y n1y q1y) ∧ W9.cell? ⟨kn, 2, none⟩ = some (.slice a2y n2y q2y) ∧ W9.cell? ⟨kn, 3, none⟩ = some (.slice a3y n q3y) ∧ W9.cell? ⟨kn, 4, none⟩ = some (.slice a4y fl q4y) ∧ W9.cell? ⟨w.heap.size, 1, none⟩ = some (.int .i64 (n : Int))) := ⟨d0, d1, d2, d3, d4, y1⟩
          go_wp2_with fail
          refine wp_region_held_drew (S := fun w' => w'.cell? ⟨kn, 0, none⟩ = some (.int .i64 L) ∧ w'.cell? ⟨kn, 1, none⟩ = some (.slice a1y n1y q1y) ∧ w'.cell? ⟨kn, 2, none⟩ = some (.slice a2y n2y q2y) ∧ w'.cell? ⟨kn, 3, none⟩ = some (.slice a3y n q3y) ∧ w'.cell? ⟨kn, 4, none⟩ = some (.slice a4y fl q4y) ∧ w'.cell? ⟨w.heap.size, 1, none⟩ = some (.int .i64 (n : Int))) (by kernel_rfl) (by exact hS0) (fun _ => ?_)
          refine takeS_on (i := 0) 84 (v := ?v1) rfl rfl (by kernel_rfl) (by kernel_rfl) (by kernel_rfl) (fun _ _ _ h => h) (by kernel_rfl) ?hy1 (by exact hS0) ?_
          case hy1 => (intro w' hSw; go_simp; try (with_reducible rfl))
          simp only [Act.put, List.setIfInBounds_toArray, List.set_cons_zero, List.set_cons_succ]
          refine takeS_on (i := 1) 85 (v := ?v2) rfl rfl (by kernel_rfl) (by kernel_rfl) (by kernel_rfl) (fun _ _ _ h => h) (by kernel_rfl) ?hy2 (by exact hS0) ?_
          case hy2 => (intro w' hSw; go_simp; try (with_reducible rfl))
          simp only [Act.put, List.setIfInBounds_toArray, List.set_cons_zero, List.set_cons_succ]
          refine takeS_on (i := 2) 86 (v := ?v3) rfl rfl (by kernel_rfl) (by kernel_rfl) (by kernel_rfl) (fun _ _ _ h => h) (by kernel_rfl) ?hy3 (by exact hS0) ?_
          case hy3 => (intro w' hSw; go_simp; try (with_reducible rfl))
          simp only [Act.put, List.setIfInBounds_toArray, List.set_cons_zero, List.set_cons_succ]
          refine takeS_on (i := 3) 87 (v := ?v4) rfl rfl (by kernel_rfl) (by kernel_rfl) (by kernel_rfl) (fun _ _ _ h => h) (by kernel_rfl) ?hy4 (by exact hS0) ?_
          case hy4 => (intro w' hSw; go_simp; try (with_reducible rfl))
          simp only [Act.put, List.setIfInBounds_toArray, List.set_cons_zero, List.set_cons_succ]
          refine takeS_on (i := 4) 88 (v := ?v5) rfl rfl (by kernel_rfl) (by kernel_rfl) (by kernel_rfl) (fun _ _ _ h => h) (by kernel_rfl) ?hy5 (by exact hS0) ?_
          case hy5 => (intro w' hSw; go_simp; try (with_reducible rfl))
          simp only [Act.put, List.setIfInBounds_toArray, List.set_cons_zero, List.set_cons_succ]
          refine takeS_on (i := 5) 89 (v := ?v6) rfl rfl (by kernel_rfl) (by kernel_rfl) (by kernel_rfl) (fun _ _ _ h => h) (by kernel_rfl) ?hy6 (by exact hS0) ?_
          case hy6 => (intro w' hSw; go_simp; try (with_reducible rfl))
          simp only [Act.put, List.setIfInBounds_toArray, List.set_cons_zero, List.set_cons_succ]
          refine takeS_on (i := 6) 90 (v := ?v7) rfl rfl (by kernel_rfl) (by kernel_rfl) (by kernel_rfl) (fun _ _ _ h => h) (by kernel_rfl) ?hy7 (by exact hS0) ?_
          case hy7 => (intro w' hSw; go_simp; try (with_reducible rfl))
          simp only [Act.put, List.setIfInBounds_toArray, List.set_cons_zero, List.set_cons_succ]
          refine takeS_on (i := 7) 91 (v := ?v8) rfl rfl (by kernel_rfl) (by kernel_rfl) (by kernel_rfl) (fun _ _ _ h => h) (by kernel_rfl) ?hy8 (by exact hS0) ?_
          case hy8 => (intro w' hSw; go_simp; try (with_reducible rfl))
          simp only [Act.put, List.setIfInBounds_toArray, List.set_cons_zero, List.set_cons_succ]
          refine takeS_on (i := 8) 92 (v := ?v9) rfl rfl (by kernel_rfl) (by kernel_rfl) (by kernel_rfl) (fun _ _ _ h => h) (by kernel_rfl) ?hy9 (by exact hS0) ?_
          case hy9 => (intro w' hSw; go_simp; try (with_reducible rfl))
          simp only [Act.put, List.setIfInBounds_toArray, List.set_cons_zero, List.set_cons_succ]
          refine takeS_on (i := 9) 93 (v := ?v10) rfl rfl (by kernel_rfl) (by kernel_rfl) (by kernel_rfl) (fun _ _ _ h => h) (by kernel_rfl) ?hy10 (by exact hS0) ?_
          case hy10 => (intro w' hSw; go_simp; try (with_reducible rfl))
          simp only [Act.put, List.setIfInBounds_toArray, List.set_cons_zero, List.set_cons_succ]
          refine takeS_on (i := 10) 94 (v := ?v11) rfl rfl (by kernel_rfl) (by kernel_rfl) (by kernel_rfl) (fun _ _ _ h => h) (by kernel_rfl) ?hy11 (by exact hS0) ?_
          case hy11 => (intro w' hSw; go_simp; try (with_reducible rfl))
          simp only [Act.put, List.setIfInBounds_toArray, List.set_cons_zero, List.set_cons_succ]
          refine takeS_on (i := 11) 95 (v := ?v12) rfl rfl (by kernel_rfl) (by kernel_rfl) (by kernel_rfl) (fun _ _ _ h => h) (by kernel_rfl) ?hy12 (by exact hS0) ?_
          case hy12 => (intro w' hSw; go_simp; try (with_reducible rfl))
          simp only [Act.put, List.setIfInBounds_toArray, List.set_cons_zero, List.set_cons_succ]
          refine takeS_on (i := 12) 96 (v := ?v13) rfl rfl (by kernel_rfl) (by kernel_rfl) (by kernel_rfl) (fun _ _ _ h => h) (by kernel_rfl) ?hy13 (by exact hS0) ?_
          case hy13 => (intro w' hSw; go_simp; try (with_reducible rfl))
          simp only [Act.put, List.setIfInBounds_toArray, List.set_cons_zero, List.set_cons_succ]
          refine takeS_on (i := 13) 97 (v := ?v14) rfl rfl (by kernel_rfl) (by kernel_rfl) (by kernel_rfl) (fun _ _ _ h => h) (by kernel_rfl) ?hy14 (by exact hS0) ?_
          case hy14 => (intro w' hSw; go_simp; try (with_reducible rfl))
          simp only [Act.put, List.setIfInBounds_toArray, List.set_cons_zero, List.set_cons_succ]
          refine takeS_on (i := 14) 98 (v := ?v15) rfl rfl (by kernel_rfl) (by kernel_rfl) (by kernel_rfl) (fun _ _ _ h => h) (by kernel_rfl) ?hy15 (by exact hS0) ?_
          case hy15 => (intro w' hSw; go_simp; try (with_reducible rfl))
          simp only [Act.put, List.setIfInBounds_toArray, List.set_cons_zero, List.set_cons_succ]
          refine takeS_on (i := 15) 99 (v := ?v16) rfl rfl (by kernel_rfl) (by kernel_rfl) (by kernel_rfl) (fun _ _ _ h => h) (by kernel_rfl) ?hy16 (by exact hS0) ?_
          case hy16 => (intro w' hSw; go_simp; try (with_reducible rfl))
          simp only [Act.put, List.setIfInBounds_toArray, List.set_cons_zero, List.set_cons_succ]
          refine takeS_on (i := 16) 100 (v := ?v17) rfl rfl (by kernel_rfl) (by kernel_rfl) (by kernel_rfl) (fun _ _ _ h => h) (by kernel_rfl) ?hy17 (by exact hS0) ?_
          case hy17 => (intro w' hSw; go_simp; try (with_reducible rfl))
          simp only [Act.put, List.setIfInBounds_toArray, List.set_cons_zero, List.set_cons_succ]
          refine takeS_on (i := 17) 101 (v := ?v18) rfl rfl (by kernel_rfl) (by kernel_rfl) (by kernel_rfl) (fun _ _ _ h => h) (by kernel_rfl) ?hy18 (by exact hS0) ?_
          case hy18 => (intro w' hSw; go_simp; try (with_reducible rfl))
          simp only [Act.put, List.setIfInBounds_toArray, List.set_cons_zero, List.set_cons_succ]
          refine takeS_on (i := 19) 103 (v := ?v19) rfl rfl (by kernel_rfl) (by kernel_rfl) (by kernel_rfl) (fun _ _ _ h => h) (by kernel_rfl) ?hy19 (by exact hS0) ?_
          case hy19 => (intro w' hSw; go_simp; try (with_reducible rfl))
          simp only [Act.put, List.setIfInBounds_toArray, List.set_cons_zero, List.set_cons_succ]
          refine wpAnyH_ready (rs := [18]) (by kernel_rfl) (by simp) (AllReadyH.cons rfl (fun K hK => ?_) AllReadyH.nil)
          go_simp
          refine (live_any _ b L y _ HA0.out HFt.out).mono ?_
          rintro e v18 ⟨rfl, g18⟩
          have HA18 := hid (HA0.out.ch g18)
          have HR18 := hid (HR0.out.ch g18 (fun _ _ _ => noB _))
          have HC18 := hid (HC0.out.trans' g18)
          have lk18 : kn < v18.heap.size := Nat.lt_of_lt_of_le lk0 g18.size
          have lx18 : w.heap.size < v18.heap.size := Nat.lt_of_lt_of_le lx0 g18.size
          have hS18 : (v18.cell? ⟨kn, 0, none⟩ = some (.int .i64 L) ∧ v18.cell? ⟨kn, 1, none⟩ = some (.slice a1y n1y q1y) ∧ v18.cell? ⟨kn, 2, none⟩ = some (.slice a2y n2y q2y) ∧ v18.cell? ⟨kn, 3, none⟩ = some (.slice a3y n q3y) ∧ v18.cell? ⟨kn, 4, none⟩ = some (.slice a4y fl q4y) ∧ v18.cell? ⟨w.heap.size, 1, none⟩ = some (.int .i64 (n : Int))) := ⟨(g18.cell lk0 (noB _)).trans hS0.1, (g18.cell lk0 (noB _)).trans hS0.2.1, (g18.cell lk0 (noB _)).trans hS0.2.2.1, (g18.cell lk0 (noB _)).trans hS0.2.2.2.1, (g18.cell lk0 (noB _)).trans hS0.2.2.2.2.1, (g18.cell lx0 (noB _)).trans hS0.2.2.2.2.2⟩
          clear g18
          refine hK.out _ _ (by exact hS18) (fun _ => ?_)
          clear hK K
          refine wpAnyH_ready (rs := [20]) (by kernel_rfl) (by simp) (AllReadyH.cons rfl (fun K hK => ?_) AllReadyH.nil)
          go_simp
          refine (rlive_any _ L _ _ _ _ cv2 y _ HR18.out HFt.out).mono ?_
          rintro e v20 ⟨rfl, g20⟩
          have HA20 := hid (HA18.out.ch g20)
          have HR20 := hid (HR18.out.ch g20 (fun _ _ _ => noB _))
          have HC20 := hid (HC18.out.trans' g20)
          have lk20 : kn < v20.heap.size := Nat.lt_of_lt_of_le lk18 g20.size
          have lx20 : w.heap.size < v20.heap.size := Nat.lt_of_lt_of_le lx18 g20.size
          have hS20 : (v20.cell? ⟨kn, 0, none⟩ = some (.int .i64 L) ∧ v20.cell? ⟨kn, 1, none⟩ = some (.slice a1y n1y q1y) ∧ v20.cell? ⟨kn, 2, none⟩ = some (.slice a2y n2y q2y) ∧ v20.cell? ⟨kn, 3, none⟩ = some (.slice a3y n q3y) ∧ v20.cell? ⟨kn, 4, none⟩ = some (.slice a4y fl q4y) ∧ v20.cell? ⟨w.heap.size, 1, none⟩ = some (.int .i64 (n : Int))) := ⟨(g20.cell lk18 (noB _)).trans hS18.1, (g20.cell lk18 (noB _)).trans hS18.2.1, (g20.cell lk18 (noB _)).trans hS18.2.2.1, (g20.cell lk18 (noB _)).trans hS18.2.2.2.1, (g20.cell lk18 (noB _)).trans hS18.2.2.2.2.1, (g20.cell lx18 (noB _)).trans hS18.2.2.2.2.2⟩
          clear g20
          refine hK.out _ _ (by exact hS20) (fun _ => ?_)
          clear hK K
          refine takeS_on (i := 21) 105 (v := ?v20) rfl rfl (by kernel_rfl) (by kernel_rfl) (by kernel_rfl) (fun _ _ _ h => h) (by kernel_rfl) ?hy20 (by exact hS20) ?_
          case hy20 => (intro w' hSw; go_simp; try (with_reducible rfl))
          simp only [Act.put, List.setIfInBounds_toArray, List.set_cons_zero, List.set_cons_succ]
          refine takeS_on (i := 22) 106 (v := ?v21) rfl rfl (by kernel_rfl) (by kernel_rfl) (by kernel_rfl) (fun _ _ _ h => h) (by kernel_rfl) ?hy21 (by exact hS20) ?_
          case hy21 => (intro w' hSw; go_simp; try (with_reducible rfl))
          simp only [Act.put, List.setIfInBounds_toArray, List.set_cons_zero, List.set_cons_succ]
          refine takeS_on (i := 23) 107 (v := ?v22) rfl rfl (by kernel_rfl) (by kernel_rfl) (by kernel_rfl) (fun _ _ _ h => h) (by kernel_rfl) ?hy22 (by exact hS20) ?_
          case hy22 => (intro w' hSw; go_simp; try (with_reducible rfl))
          simp only [Act.put, List.setIfInBounds_toArray, List.set_cons_zero, List.set_cons_succ]
          refine wpAnyH_ready (rs := [24]) (by kernel_rfl) (by simp) (AllReadyH.cons rfl (fun K hK => ?_) AllReadyH.nil)
          go_simp
          refine (awake_any _).mono ?_
          rintro e v24 ⟨rfl, g24⟩
          have HA24 := hid (HA20.out.ch g24)
          have HR24 := hid (HR20.out.ch g24 (fun _ _ _ => noB _))
          have HC24 := hid (HC20.out.trans' g24)
          have lk24 : kn < v24.heap.size := Nat.lt_of_lt_of_le lk20 g24.size
          have lx24 : w.heap.size < v24.heap.size := Nat.lt_of_lt_of_le lx20 g24.size
          have hS24 : (v24.cell? ⟨kn, 0, none⟩ = some (.int .i64 L) ∧ v24.cell? ⟨kn, 1, none⟩ = some (.slice a1y n1y q1y) ∧ v24.cell? ⟨kn, 2, none⟩ = some (.slice a2y n2y q2y) ∧ v24.cell? ⟨kn, 3, none⟩ = some (.slice a3y n q3y) ∧ v24.cell? ⟨kn, 4, none⟩ = some (.slice a4y fl q4y) ∧ v24.cell? ⟨w.heap.size, 1, none⟩ = some (.int .i64 (n : Int))) := ⟨(g24.cell lk20 (noB _)).trans hS20.1, (g24.cell lk20 (noB _)).trans hS20.2.1, (g24.cell lk20 (noB _)).trans hS20.2.2.1, (g24.cell lk20 (noB _)).trans hS20.2.2.2.1, (g24.cell lk20 (noB _)).trans hS20.2.2.2.2.1, (g24.cell lx20 (noB _)).trans hS20.2.2.2.2.2⟩
          clear g24
          refine hK.out _ _ (by exact hS24) (fun _ => ?_)
          clear hK K
          refine takeS_on (i := 25) 109 (v := ?v23) rfl rfl (by kernel_rfl) (by kernel_rfl) (by kernel_rfl) (fun _ _ _ h => h) (by kernel_rfl) ?hy23 (by exact hS24) ?_
          case hy23 => (intro w' hSw; go_simp; try (with_reducible rfl))
          simp only [Act.put, List.setIfInBounds_toArray, List.set_cons_zero, List.set_cons_succ]
          refine takeS_on (i := 26) 2 (v := ?v24) rfl rfl (by kernel_rfl) (by kernel_rfl) (by kernel_rfl) (fun _ _ _ h => h) (by kernel_rfl) ?hy24 (by exact hS24) ?_
          case hy24 => (intro w' hSw; go_simp; try (with_reducible rfl))
          simp only [Act.put, List.setIfInBounds_toArray, List.set_cons_zero, List.set_cons_succ]
          refine wpAnyH_done (by kernel_rfl) ?_ _
          go_wp2
          go_ret
          exact ⟨rfl, HC24.out⟩
end Go.Proofs.Ytfbkifkfhgkdbaa.Sb
