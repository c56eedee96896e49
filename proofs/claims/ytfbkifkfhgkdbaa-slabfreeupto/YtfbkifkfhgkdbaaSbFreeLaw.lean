/-
  SlabFree's walk: behind any calls the document's Load takes what the slab tells. Conditions: the list of calls is there, and at most 1048576 long.
-/
import Derived.Test.YtfbkifkfhgkdbaaSbFit
import Derived.Test.YtfbkifkfhgkdbaaSbRLoad3
import Derived.Test.YtfbkifkfhgkdbaaSbAwake
import Derived.Handy
namespace Go.Proofs.Ytfbkifkfhgkdbaa.Sb
open Go.RowKit
attribute [local go_sem ↓] Go.wp_at_zero Go.wp_at_succ

set_option maxRecDepth 100000 in
set_option maxHeartbeats 4000000 in
theorem free_law (l p : Int) (v : Value) (N : Nat) (w : World) (hv : OpL w v N) (hN : N ≤ 1048576) : Calls Try.prog 7 #[.agg #[.int .i64 l, .int .i64 p, v]] w fun e w' => e = .returned (.bool true) ∧ Ch NoB w w' := by
  obtain ⟨ao, cap, rfl, hmax, hel⟩ := hv
  have HV := hid (show OpL w (.slice ao N cap) N from ⟨ao, cap, rfl, hmax, hel⟩)
  clear hel
  obtain ⟨W0, hW0⟩ : ∃ W, W = w.alloc (.cells #[.int .i64 l, .int .i64 p, .slice ao N cap] 37) := ⟨_, rfl⟩
  have b0 : W0.heap[w.heap.size]? = some (.cells #[.int .i64 l, .int .i64 p, .slice ao N cap] 37 (0, 0)) := by rw [hW0]; exact (MapKept.heap_alloc w _).1
  have g0 : Ch NoB w W0 := by rw [hW0]; exact (Ch.refl _ _).alloc _
  have HB0 := hid b0
  have HG0 := hid g0
  clear b0 g0
  go_enter Try.func7, Try.ntmps7
  go_wp2_with fail
  rw [← hW0]
  clear hW0
  refine (fit_any l p ao N cap _).mono ?_
  rintro e w1 ⟨L, n, hS, rfl, g1⟩
  have b1 := (g1.block _ (lt_of_block HB0.out) (noB _)).trans HB0.out
  have y0 : w1.cell? ⟨w.heap.size, 0, none⟩ = some (.int .i64 l) := (cell_of b1 0).trans rfl
  have y1 : w1.cell? ⟨w.heap.size, 1, none⟩ = some (.int .i64 p) := (cell_of b1 1).trans rfl
  have y2 : w1.cell? ⟨w.heap.size, 2, none⟩ = some (.slice ao N cap) := (cell_of b1 2).trans rfl
  have fz0 := frozen_of b1 0
  have fz1 := frozen_of b1 1
  have fz2 := frozen_of b1 2
  have lb := lt_of_block b1
  obtain ⟨W2, hW2⟩ : ∃ W, W = (((w1.setCell ⟨w.heap.size, 0, none⟩ (.int .i64 L)).setCell ⟨w.heap.size, 1, none⟩ (.int .i64 (n : Int))).setCell ⟨w.heap.size, 2, none⟩ (.slice ao N cap)) := ⟨_, rfl⟩
  have b2 : W2.heap[w.heap.size]? = some (.cells #[.int .i64 L, .int .i64 (n : Int), .slice ao N cap] 37 (0, 0)) := by rw [hW2]; exact setCell_block (setCell_block (setCell_block b1 0 _) 1 _) 2 _
  have g2 : Ch NoB w W2 := by
    rw [hW2]
    exact (((HG0.out.trans' g1).fresh (Nat.le_refl _) 0 _).fresh (Nat.le_refl _) 1 _).fresh (Nat.le_refl _) 2 _
  have HS := hid hS
  have HB2 := hid b2
  have HG2 := hid g2
  have z0 : W2.cell? ⟨w.heap.size, 0, none⟩ = some (.int .i64 L) := (cell_of b2 0).trans rfl
  have z1 : W2.cell? ⟨w.heap.size, 1, none⟩ = some (.int .i64 (n : Int)) := (cell_of b2 1).trans rfl
  have lb2 := lt_of_block b2
  clear b1 b2 g1 g2 hS
  go_wp2_with fail
  rw [← hW2]
  clear hW2 y0 y1 y2 fz0 fz1 fz2 lb
  refine (new_good L n _ HS.out).mono ?_
  rintro e w3 ⟨b, rfl, hb, s3, g3⟩
  obtain ⟨vg, va, vc, vf, cv, f5, t5, n5⟩ := s3
  have i3 : SlabIn (fun q => W2.heap.size ≤ q ∧ q < w3.heap.size) W2.heap.size w3 b L (newSl n) := ⟨vg, va, vc, vf, cv, f5, t5, n5, ⟨hb, f5.lt⟩, fun q a => t5.blk a, fun q a => a.2⟩
  have HI3 := hid i3
  have b3 := (g3.block _ lb2 (noB _)).trans HB2.out
  have x0 : w3.cell? ⟨w.heap.size, 0, none⟩ = some (.int .i64 L) := (cell_of b3 0).trans rfl
  have x1 : w3.cell? ⟨w.heap.size, 1, none⟩ = some (.int .i64 (n : Int)) := (cell_of b3 1).trans rfl
  have x2 : w3.cell? ⟨w.heap.size, 2, none⟩ = some (.slice ao N cap) := (cell_of b3 2).trans rfl
  have lb3 := lt_of_block b3
  have HG3 := hid (HG2.out.trans' g3)
  have HB3 := hid b3
  have hz3 := g3.size
  have HOA := hid (HV.out.apart (S0 := fun q => W2.heap.size ≤ q ∧ q < w3.heap.size) HG3.out (fun q a => Nat.le_trans HG2.out.size a.1))
  clear f5 t5 n5 i3 b3 g3 z0 z1
  go_wp2_with fail
  refine (names_any _ W2.heap.size b L n N _ w3 HI3.out hz3 HS.out HOA.out hN).mono ?_
  rintro e w4 ⟨S, x, gs, al, ha, hc, aa, ac, rfl, hB, hgl, g4, hSS⟩
  have b4 := (g4.block _ lb3 (fun e => by have := e.1; omega)).trans HB3.out
  have G4 : Ch NoB w w4 := HG3.out.trans g4 (fun q e => .inr (Nat.le_trans HG2.out.size e.1))
  have HB := hid hB
  have HG4 := hid G4
  have HX4 := hid b4
  have hgl2 : gs.length < 2147483647 := by omega
  have HGL := hid hgl2
  have HGN := hid hgl
  have HS4 := hid (show ∀ q, S q → w.heap.size < q ∧ q < w4.heap.size from fun q a => ⟨(hSS q a).elim (fun a => by have := a.1; omega) (fun a => by omega), hB.s.lt q a⟩)
  obtain ⟨nh, hnh⟩ : ∃ m, m = gs.length := ⟨_, rfl⟩
  obtain ⟨na, hna⟩ : ∃ m, m = al.length := ⟨_, rfl⟩
  rw [← hnh, ← hna] at HB ⊢
  have HNH := hid hnh
  have HNA := hid hna
  have naB : na ≤ 4096 := by rw [hna]; exact hB.k.few
  have nhB : nh ≤ 1048576 := by omega
  have bs := HB.out.sb
  have lb4 := lt_of_block b4
  clear hB hgl g4 hSS b4 G4 hgl2 x0 x1 x2 hnh hna
  go_wp2_with fail
  refine (state_any _ b L x w4 HB.out.s.at HB.out.k.m.fits).mono ?_
  rintro e w5 ⟨vg', va', vc', vf', cv', rfl, st, g5⟩
  obtain ⟨a1, q1, rfl⟩ := st.g.form
  obtain ⟨a2, q2, rfl⟩ := st.a.form
  obtain ⟨a3, q3, rfl⟩ := st.c.form
  obtain ⟨a4, q4, rfl⟩ := st.f.form
  obtain ⟨n1, hn1⟩ : ∃ m, m = (iv x.G).length := ⟨_, rfl⟩
  obtain ⟨n2, hn2⟩ : ∃ m, m = (bv x.A).length := ⟨_, rfl⟩
  obtain ⟨n3, hn3⟩ : ∃ m, m = cv'.length := ⟨_, rfl⟩
  obtain ⟨n4, hn4⟩ : ∃ m, m = (iv x.F).length := ⟨_, rfl⟩
  rw [← hn1, ← hn2, ← hn3, ← hn4] at st ⊢
  have HST := hid st
  have HG5 := hid (HG4.out.trans' g5)
  have hcl : x.C.length = n := HB.out.k.c
  have hld := HB.out.k.load HGL.out
  rw [Bool.and_eq_true] at hld
  have HLD := hid hld
  have HCL := hid hcl
  clear st g5 hn1 hn2 hn3 hn4 hld hcl
  go_wp2_with fail
  refine (rload_lists _ L _ _ _ _ cv' x w5 ⟨HST.out.rd, fun q a => (HST.out.blk a).2, fun i c hc => by have := HB.out.k.m.cl i c hc; omega, by have := HB.out.k.m.fl; omega⟩ (by rw [HCL.out]; exact HS.out) HLD.out.1).mono ?_
  rintro e w6 ⟨rfl, g6⟩
  rw [loadE_yes HLD.out.2]
  have HG6 := hid (HG5.out.trans' g6)
  clear g6
  go_wp2_with fail
  refine (awake_any _).mono ?_
  rintro e w7 ⟨rfl, g7⟩
  have HG7 := hid (HG6.out.trans' g7)
  clear g7
  go_wp2
  go_ret
  exact ⟨rfl, HG7.out⟩
end Go.Proofs.Ytfbkifkfhgkdbaa.Sb
