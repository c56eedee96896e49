/-
  What Pop and Drop of the document's answer tell. Condition: the list is there, and at most 4294967296 long.
-/
import Derived.Test.YtkaeccmhfbjcmaaHpRef2
import Derived.Handy
namespace Go.Proofs.Ytkaeccmhfbjcmaa.Hp
open Go.RowKit
attribute [local go_sem ↓] Go.wp_at_zero Go.wp_at_succ

set_option maxHeartbeats 4000000 in
theorem rpop_at (P : Nat → Prop) (v : Value) (xs : List W3) (nx : Int) (p : Nat) (x : W3) (w : World) (hx : Lst P w v xs) (hl : xs.length ≤ 4294967296) (hn : Nn xs) (hm : Mi xs p x) :
    Calls Try.prog 23 #[.agg #[v, .int .i64 nx]] w fun e w' => ∃ v', e = .returned (.tuple #[.agg #[v', .int .i64 nx], .agg #[.int .u64 x.w, .int .i64 x.n, .int .i64 x.v], .int .i64 0]) ∧ Lst (w.heap.size ≤ ·) w' v' (xs.eraseIdx p) ∧ Ch NoB w w' := by
  obtain ⟨ao, cap, rfl⟩ := hx.form
  obtain ⟨n, hnn⟩ : ∃ n, n = xs.length := ⟨_, rfl⟩
  rw [← hnn] at hl hx ⊢
  have HN := hid hnn
  have HNn := hid hn
  have HM := hid hm
  clear hnn hn hm
  obtain ⟨W0, hW0⟩ : ∃ W, W = ((w.alloc (.cells #[.slice ao n cap, .int .i64 nx] 28)).alloc (.cells #[.slice none 0 0, .int .i64 0] 28)).alloc (.cells #[.int .u64 0, .int .i64 0, .int .i64 0] 44) := ⟨_, rfl⟩
  have g0 : Ch NoB w W0 := by rw [hW0]; exact (((Ch.refl NoB w).alloc _).alloc _).alloc _
  have f0 : Tv W0 w.heap.size (.slice ao n cap) nx := by rw [hW0]; exact ((Tv.new w _ _).alloc _).alloc _
  have r0 : Tv W0 (w.heap.size + 1) (.slice none 0 0) 0 := by
    have z := Tv.new (w.alloc (.cells #[.slice ao n cap, .int .i64 nx] 28)) (.slice none 0 0) 0
    rw [World.size_alloc] at z
    rw [hW0]
    exact z.alloc _
  have t0 : Th W0 (w.heap.size + 1 + 1) W3.zero := by
    have z := Th.new ((w.alloc (.cells #[.slice ao n cap, .int .i64 nx] 28)).alloc (.cells #[.slice none 0 0, .int .i64 0] 28)) W3.zero
    rw [World.size_alloc, World.size_alloc] at z
    rw [hW0]
    exact z
  obtain ⟨ks, hks⟩ : ∃ k, k = w.heap.size := ⟨_, rfl⟩
  obtain ⟨kr, hkr⟩ : ∃ k, k = w.heap.size + 1 := ⟨_, rfl⟩
  obtain ⟨kt, hkt⟩ : ∃ k, k = w.heap.size + 1 + 1 := ⟨_, rfl⟩
  have HK := hid (show w.heap.size ≤ ks ∧ ks < kr ∧ kr < kt by omega)
  have HX := hid (hx.ch g0 (fun _ _ _ => noB _))
  have HX0 := hid hx
  have HG0 := hid g0
  have HF0 := hid (show Tv W0 ks (.slice ao n cap) nx by rw [hks]; exact f0)
  have HR0 := hid (show Tv W0 kr (.slice none 0 0) 0 by rw [hkr]; exact r0)
  have HT0 := hid (show Th W0 kt W3.zero by rw [hkt]; exact t0)
  have l1 := HF0.out.lt
  obtain ⟨c0, c1⟩ := HF0.out.cells
  clear hx g0 f0 r0 t0
  go_enter Try.func23, Try.ntmps23
  go_wp2_with fail
  have e2 : w.heap.size + 2 = w.heap.size + 1 + 1 := rfl
  try rw [e2]
  rw [← hW0]
  rw [← hkt, ← hkr, ← hks]
  clear hW0 hks hkr hkt e2
  go_wp2_with fail
  refine (rtop_at P _ xs nx p x W0 HX.out (by rw [← HN.out]; exact hl) HNn.out HM.out).mono ?_
  rintro e w1 ⟨rfl, g1⟩
  have HG1 := hid g1
  clear g1 c0 c1 l1
  go_wp2_with fail
  have hk1 : W0.heap.size ≤ w1.heap.size := HG1.out.size
  obtain ⟨V2, hV2⟩ : ∃ W, W = (w1.alloc (.cells #[.int .u64 x.w, .int .i64 x.n, .int .i64 x.v] 44)).drew := ⟨_, rfl⟩
  obtain ⟨kx, hkx⟩ : ∃ k, k = w1.heap.size := ⟨_, rfl⟩
  have gv : Ch NoB w1 V2 := by rw [hV2]; exact ((Ch.refl NoB w1).alloc _).drew
  have HGV := hid (HG1.out.trans' gv)
  have FV := HF0.out.ch HGV.out (noB _)
  have hSV : V2.cell? ⟨ks, 0, none⟩ = some (.slice ao n cap) ∧ V2.cell? ⟨ks, 1, none⟩ = some (.int .i64 nx) ∧ V2.cell? ⟨kx, 0, none⟩ = some (.int .u64 x.w) ∧ V2.cell? ⟨kx, 1, none⟩ = some (.int .i64 x.n) ∧ V2.cell? ⟨kx, 2, none⟩ = some (.int .i64 x.v) := by
    have z : Th (w1.alloc (.cells #[.int .u64 x.w, .int .i64 x.n, .int .i64 x.v] 44)) w1.heap.size x := Th.new w1 x
    rw [← hkx] at z
    refine ⟨FV.cells.1, FV.cells.2, ?_⟩
    rw [hV2]
    exact z.cells
  have hSW : (w1.alloc (.cells #[.int .u64 x.w, .int .i64 x.n, .int .i64 x.v] 44)).cell? ⟨ks, 0, none⟩ = some (.slice ao n cap) ∧ (w1.alloc (.cells #[.int .u64 x.w, .int .i64 x.n, .int .i64 x.v] 44)).cell? ⟨ks, 1, none⟩ = some (.int .i64 nx) ∧ (w1.alloc (.cells #[.int .u64 x.w, .int .i64 x.n, .int .i64 x.v] 44)).cell? ⟨kx, 0, none⟩ = some (.int .u64 x.w) ∧ (w1.alloc (.cells #[.int .u64 x.w, .int .i64 x.n, .int .i64 x.v] 44)).cell? ⟨kx, 1, none⟩ = some (.int .i64 x.n) ∧ (w1.alloc (.cells #[.int .u64 x.w, .int .i64 x.n, .int .i64 x.v] 44)).cell? ⟨kx, 2, none⟩ = some (.int .i64 x.v) := by
    rw [hV2] at hSV
    exact hSV
  have lks : ks < V2.heap.size := FV.lt
  have lkx : kx < V2.heap.size := by rw [hV2, hkx]; show w1.heap.size < (w1.alloc _).heap.size; simp
  have HBV := hid (show W0.heap.size ≤ V2.heap.size from HGV.out.size)
  have HXV := hid (HX.out.ch HGV.out (fun _ _ _ => noB _))
  have nks1 : ¬ (ks = kr) := by have := HK.out; omega
  have nks2 : ¬ (ks = kt) := by have := HK.out; omega
  have nkx1 : ¬ (kx = kr) := by have := HR0.out.lt; omega
  have nkx2 : ¬ (kx = kt) := by have := HT0.out.lt; omega
  have nrt : ¬ (kr = kt) := by have := HK.out; omega
  have ntr : ¬ (kt = kr) := by have := HK.out; omega
  rw [← hkx]
  clear gv FV hkx hk1
  refine wp_region_held_drew (S := fun w' => w'.cell? ⟨ks, 0, none⟩ = some (.slice ao n cap) ∧ w'.cell? ⟨ks, 1, none⟩ = some (.int .i64 nx) ∧ w'.cell? ⟨kx, 0, none⟩ = some (.int .u64 x.w) ∧ w'.cell? ⟨kx, 1, none⟩ = some (.int .i64 x.n) ∧ w'.cell? ⟨kx, 2, none⟩ = some (.int .i64 x.v)) (by kernel_rfl) (by exact hSW) (fun _ => ?_)
  rw [← hV2]
  clear hV2
  refine takeS_on (i := 0) 17 (v := ?v89) rfl rfl (by kernel_rfl) (by kernel_rfl) (by kernel_rfl) (fun _ _ _ h => h) (by kernel_rfl) ?hy89 (by exact hSV) ?_
  case hy89 => (intro w' hSw; go_simp; try (with_reducible rfl))
  simp only [Act.put, List.setIfInBounds_toArray, List.set_cons_zero, List.set_cons_succ]
  refine takeS_on (i := 1) 18 (v := ?v90) rfl rfl (by kernel_rfl) (by kernel_rfl) (by kernel_rfl) (fun _ _ _ h => h) (by kernel_rfl) ?hy90 (by exact hSV) ?_
  case hy90 => (intro w' hSw; go_simp; try (with_reducible rfl))
  simp only [Act.put, List.setIfInBounds_toArray, List.set_cons_zero, List.set_cons_succ]
  refine takeS_on (i := 4) 21 (v := ?v91) rfl rfl (by kernel_rfl) (by kernel_rfl) (by kernel_rfl) (fun _ _ _ h => h) (by kernel_rfl) ?hy91 (by exact hSV) ?_
  case hy91 => (intro w' hSw; go_simp; try (with_reducible rfl))
  simp only [Act.put, List.setIfInBounds_toArray, List.set_cons_zero, List.set_cons_succ]
  refine wpAnyH_ready (rs := [2]) (by kernel_rfl) (by simp) (AllReadyH.cons rfl (fun K hK => ?_) AllReadyH.nil)
  go_simp
  refine (rfirst_any P _ xs nx V2 HXV.out (by rw [← HN.out]; exact hl)).mono ?_
  rintro e w3 ⟨⟨k3, rfl, hs⟩, g3⟩
  have ek := hs.is HNn.out HM.out
  subst ek
  have hS3 : w3.cell? ⟨ks, 0, none⟩ = some (.slice ao n cap) ∧ w3.cell? ⟨ks, 1, none⟩ = some (.int .i64 nx) ∧ w3.cell? ⟨kx, 0, none⟩ = some (.int .u64 x.w) ∧ w3.cell? ⟨kx, 1, none⟩ = some (.int .i64 x.n) ∧ w3.cell? ⟨kx, 2, none⟩ = some (.int .i64 x.v) := ⟨(g3.cell lks (noB _)).trans hSV.1, (g3.cell lks (noB _)).trans hSV.2.1, (g3.cell lkx (noB _)).trans hSV.2.2.1, (g3.cell lkx (noB _)).trans hSV.2.2.2.1, (g3.cell lkx (noB _)).trans hSV.2.2.2.2⟩
  have HX3 := hid (HXV.out.ch g3 (fun _ _ _ => noB _))
  have HG3 := hid (HGV.out.trans' g3)
  have lks3 := Nat.lt_of_lt_of_le lks g3.size
  have lkx3 := Nat.lt_of_lt_of_le lkx g3.size
  have HB3 := hid (Nat.le_trans HBV.out g3.size)
  clear hs g3
  refine hK.out _ _ (by exact hS3) (fun _ => ?_)
  clear hK K
  refine wpAnyH_ready (rs := [3]) (by kernel_rfl) (by simp) (AllReadyH.cons rfl (fun K hK => ?_) AllReadyH.nil)
  go_simp
  refine (rwithout_any P _ xs nx p w3 HX3.out (by rw [← HN.out]; exact hl)).mono ?_
  rintro e w4 ⟨v4, rfl, lv4, g4⟩
  obtain ⟨a4, q4, rfl⟩ := lv4.form
  obtain ⟨l4, hl4⟩ : ∃ l, l = (xs.eraseIdx p).length := ⟨_, rfl⟩
  rw [← hl4] at lv4 ⊢
  have hS4 : w4.cell? ⟨ks, 0, none⟩ = some (.slice ao n cap) ∧ w4.cell? ⟨ks, 1, none⟩ = some (.int .i64 nx) ∧ w4.cell? ⟨kx, 0, none⟩ = some (.int .u64 x.w) ∧ w4.cell? ⟨kx, 1, none⟩ = some (.int .i64 x.n) ∧ w4.cell? ⟨kx, 2, none⟩ = some (.int .i64 x.v) := ⟨(g4.cell lks3 (noB _)).trans hS3.1, (g4.cell lks3 (noB _)).trans hS3.2.1, (g4.cell lkx3 (noB _)).trans hS3.2.2.1, (g4.cell lkx3 (noB _)).trans hS3.2.2.2.1, (g4.cell lkx3 (noB _)).trans hS3.2.2.2.2⟩
  have lks4 := Nat.lt_of_lt_of_le lks3 g4.size
  have lkx4 := Nat.lt_of_lt_of_le lkx3 g4.size
  have C5 := ((Ch.refl (Only kr) w4).own 0 (.slice a4 l4 q4)).own 1 (.int .i64 nx)
  have hS5 : ((w4.setCell ⟨kr, 0, none⟩ (.slice a4 l4 q4)).setCell ⟨kr, 1, none⟩ (.int .i64 nx)).cell? ⟨ks, 0, none⟩ = some (.slice ao n cap) ∧ ((w4.setCell ⟨kr, 0, none⟩ (.slice a4 l4 q4)).setCell ⟨kr, 1, none⟩ (.int .i64 nx)).cell? ⟨ks, 1, none⟩ = some (.int .i64 nx) ∧ ((w4.setCell ⟨kr, 0, none⟩ (.slice a4 l4 q4)).setCell ⟨kr, 1, none⟩ (.int .i64 nx)).cell? ⟨kx, 0, none⟩ = some (.int .u64 x.w) ∧ ((w4.setCell ⟨kr, 0, none⟩ (.slice a4 l4 q4)).setCell ⟨kr, 1, none⟩ (.int .i64 nx)).cell? ⟨kx, 1, none⟩ = some (.int .i64 x.n) ∧ ((w4.setCell ⟨kr, 0, none⟩ (.slice a4 l4 q4)).setCell ⟨kr, 1, none⟩ (.int .i64 nx)).cell? ⟨kx, 2, none⟩ = some (.int .i64 x.v) := ⟨(C5.cell lks4 (fun e => nks1 e)).trans hS4.1, (C5.cell lks4 (fun e => nks1 e)).trans hS4.2.1, (C5.cell lkx4 (fun e => nkx1 e)).trans hS4.2.2.1, (C5.cell lkx4 (fun e => nkx1 e)).trans hS4.2.2.2.1, (C5.cell lkx4 (fun e => nkx1 e)).trans hS4.2.2.2.2⟩
  have C6 := (((Ch.refl (Only kt) ((w4.setCell ⟨kr, 0, none⟩ (.slice a4 l4 q4)).setCell ⟨kr, 1, none⟩ (.int .i64 nx))).own 0 (.int .u64 x.w)).own 1 (.int .i64 x.n)).own 2 (.int .i64 x.v)
  have hS6 : (((((w4.setCell ⟨kr, 0, none⟩ (.slice a4 l4 q4)).setCell ⟨kr, 1, none⟩ (.int .i64 nx)).setCell ⟨kt, 0, none⟩ (.int .u64 x.w)).setCell ⟨kt, 1, none⟩ (.int .i64 x.n)).setCell ⟨kt, 2, none⟩ (.int .i64 x.v)).cell? ⟨ks, 0, none⟩ = some (.slice ao n cap) ∧ (((((w4.setCell ⟨kr, 0, none⟩ (.slice a4 l4 q4)).setCell ⟨kr, 1, none⟩ (.int .i64 nx)).setCell ⟨kt, 0, none⟩ (.int .u64 x.w)).setCell ⟨kt, 1, none⟩ (.int .i64 x.n)).setCell ⟨kt, 2, none⟩ (.int .i64 x.v)).cell? ⟨ks, 1, none⟩ = some (.int .i64 nx) ∧ (((((w4.setCell ⟨kr, 0, none⟩ (.slice a4 l4 q4)).setCell ⟨kr, 1, none⟩ (.int .i64 nx)).setCell ⟨kt, 0, none⟩ (.int .u64 x.w)).setCell ⟨kt, 1, none⟩ (.int .i64 x.n)).setCell ⟨kt, 2, none⟩ (.int .i64 x.v)).cell? ⟨kx, 0, none⟩ = some (.int .u64 x.w) ∧ (((((w4.setCell ⟨kr, 0, none⟩ (.slice a4 l4 q4)).setCell ⟨kr, 1, none⟩ (.int .i64 nx)).setCell ⟨kt, 0, none⟩ (.int .u64 x.w)).setCell ⟨kt, 1, none⟩ (.int .i64 x.n)).setCell ⟨kt, 2, none⟩ (.int .i64 x.v)).cell? ⟨kx, 1, none⟩ = some (.int .i64 x.n) ∧ (((((w4.setCell ⟨kr, 0, none⟩ (.slice a4 l4 q4)).setCell ⟨kr, 1, none⟩ (.int .i64 nx)).setCell ⟨kt, 0, none⟩ (.int .u64 x.w)).setCell ⟨kt, 1, none⟩ (.int .i64 x.n)).setCell ⟨kt, 2, none⟩ (.int .i64 x.v)).cell? ⟨kx, 2, none⟩ = some (.int .i64 x.v) := ⟨(C6.cell (Nat.lt_of_lt_of_le lks4 C5.size) (fun e => nks2 e)).trans hS5.1, (C6.cell (Nat.lt_of_lt_of_le lks4 C5.size) (fun e => nks2 e)).trans hS5.2.1, (C6.cell (Nat.lt_of_lt_of_le lkx4 C5.size) (fun e => nkx2 e)).trans hS5.2.2.1, (C6.cell (Nat.lt_of_lt_of_le lkx4 C5.size) (fun e => nkx2 e)).trans hS5.2.2.2.1, (C6.cell (Nat.lt_of_lt_of_le lkx4 C5.size) (fun e => nkx2 e)).trans hS5.2.2.2.2⟩
  have G4 := HG3.out.trans' g4
  have R4 := HR0.out.ch G4 (noB _)
  have T4 := HT0.out.ch G4 (noB _)
  obtain ⟨z0, z1⟩ := R4.cells
  obtain ⟨y0, y1⟩ := R4.fz
  have l2 := R4.lt
  obtain ⟨z2, z3, z4⟩ := T4.cells
  obtain ⟨y2, y3, y4⟩ := T4.fz
  have l3 := T4.lt
  have HL6 := hid ((lv4.mono (Q := fun q => W0.heap.size ≤ q) (fun q _ (hq : w3.heap.size ≤ q) => Nat.le_trans HB3.out hq)).own C5 (HR0.out.lt) (Nat.le_refl _))
  have HL7 := hid (HL6.out.own C6 HT0.out.lt HG0.out.size)
  have HG7 := hid (((HG0.out.trans' G4).trans C5 (fun q e => .inr (by have e1 : q = kr := e; have := HK.out; omega))).trans C6 (fun q e => .inr (by have e1 : q = kt := e; have := HK.out; omega)))
  clear lv4 g4 hl4 G4 R4 T4 C5 C6 HL6
  refine hK.out _ _ (by exact hS4) (fun _ => ?_)
  clear hK K
  refine wpAnyH_ready (rs := [5]) (by kernel_rfl) (by simp) (AllReadyH.cons rfl (fun K hK => ?_) AllReadyH.nil)
  go_simp
  refine hK.out _ _ (by exact hS5) (fun _ => ?_)
  clear hK K
  refine wpAnyH_ready (rs := [6]) (by kernel_rfl) (by simp) (AllReadyH.cons rfl (fun K hK => ?_) AllReadyH.nil)
  go_simp
  refine hK.out _ _ (by exact hS6) (fun _ => ?_)
  clear hK K
  refine takeS_on (i := 7) 4 (v := ?v92) rfl rfl (by kernel_rfl) (by kernel_rfl) (by kernel_rfl) (fun _ _ _ h => h) (by kernel_rfl) ?hy92 (by exact hS6) ?_
  case hy92 => (intro w' hSw; go_simp; try (with_reducible rfl))
  simp only [Act.put, List.setIfInBounds_toArray, List.set_cons_zero, List.set_cons_succ]
  refine wpAnyH_done (by kernel_rfl) ?_ _
  go_wp2
  exact bodyPost_ret (v := .tuple #[.agg #[.slice a4 l4 q4, .int .i64 nx], .agg #[.int .u64 x.w, .int .i64 x.n, .int .i64 x.v], .int .i64 0]) (by simp [results, Try.results23, go_sem, z0, z1, z2, z3, z4]) rfl ⟨_, rfl, HL7.out, HG7.out⟩
set_option maxHeartbeats 4000000 in
theorem rpop_none (P : Nat → Prop) (v : Value) (nx : Int) (w : World) (hx : Lst P w v []) :
    Calls Try.prog 23 #[.agg #[v, .int .i64 nx]] w fun e w' => e = .returned (.tuple #[.agg #[v, .int .i64 nx], .agg #[.int .u64 0, .int .i64 0, .int .i64 0], .int .i64 31]) ∧ Ch NoB w w' := by
  obtain ⟨ao, cap, rfl⟩ := hx.form
  rw [List.length_nil] at hx ⊢
  obtain ⟨W0, hW0⟩ : ∃ W, W = ((w.alloc (.cells #[.slice ao 0 cap, .int .i64 nx] 28)).alloc (.cells #[.slice none 0 0, .int .i64 0] 28)).alloc (.cells #[.int .u64 0, .int .i64 0, .int .i64 0] 44) := ⟨_, rfl⟩
  have g0 : Ch NoB w W0 := by rw [hW0]; exact (((Ch.refl NoB w).alloc _).alloc _).alloc _
  have f0 : Tv W0 w.heap.size (.slice ao 0 cap) nx := by rw [hW0]; exact ((Tv.new w _ _).alloc _).alloc _
  have r0 : Tv W0 (w.heap.size + 1) (.slice none 0 0) 0 := by
    have z := Tv.new (w.alloc (.cells #[.slice ao 0 cap, .int .i64 nx] 28)) (.slice none 0 0) 0
    rw [World.size_alloc] at z
    rw [hW0]
    exact z.alloc _
  have t0 : Th W0 (w.heap.size + 1 + 1) W3.zero := by
    have z := Th.new ((w.alloc (.cells #[.slice ao 0 cap, .int .i64 nx] 28)).alloc (.cells #[.slice none 0 0, .int .i64 0] 28)) W3.zero
    rw [World.size_alloc, World.size_alloc] at z
    rw [hW0]
    exact z
  obtain ⟨ks, hks⟩ : ∃ k, k = w.heap.size := ⟨_, rfl⟩
  obtain ⟨kr, hkr⟩ : ∃ k, k = w.heap.size + 1 := ⟨_, rfl⟩
  obtain ⟨kt, hkt⟩ : ∃ k, k = w.heap.size + 1 + 1 := ⟨_, rfl⟩
  have HK := hid (show w.heap.size ≤ ks ∧ ks < kr ∧ kr < kt by omega)
  have HX := hid (hx.ch g0 (fun _ _ _ => noB _))
  have HX0 := hid hx
  have HG0 := hid g0
  have HF0 := hid (show Tv W0 ks (.slice ao 0 cap) nx by rw [hks]; exact f0)
  have HR0 := hid (show Tv W0 kr (.slice none 0 0) 0 by rw [hkr]; exact r0)
  have HT0 := hid (show Th W0 kt W3.zero by rw [hkt]; exact t0)
  have l1 := HF0.out.lt
  obtain ⟨c0, c1⟩ := HF0.out.cells
  clear hx g0 f0 r0 t0
  go_enter Try.func23, Try.ntmps23
  go_wp2_with fail
  have e2 : w.heap.size + 2 = w.heap.size + 1 + 1 := rfl
  try rw [e2]
  rw [← hW0]
  rw [← hkt, ← hkr, ← hks]
  clear hW0 hks hkr hkt e2
  go_wp2_with fail
  refine (rtop_none _ nx W0 P HX.out).mono ?_
  rintro e w1 ⟨rfl, g1⟩
  have HG1 := hid g1
  clear g1 c0 c1 l1
  go_wp2_with fail
  have hk1 : W0.heap.size ≤ w1.heap.size := HG1.out.size
  obtain ⟨V2, hV2⟩ : ∃ W, W = (w1.alloc (.cells #[.int .u64 0, .int .i64 0, .int .i64 0] 44)).drew := ⟨_, rfl⟩
  obtain ⟨kx, hkx⟩ : ∃ k, k = w1.heap.size := ⟨_, rfl⟩
  have gv : Ch NoB w1 V2 := by rw [hV2]; exact ((Ch.refl NoB w1).alloc _).drew
  have HGV := hid (HG1.out.trans' gv)
  have FV := HF0.out.ch HGV.out (noB _)
  have hSV : V2.cell? ⟨ks, 0, none⟩ = some (.slice ao 0 cap) ∧ V2.cell? ⟨ks, 1, none⟩ = some (.int .i64 nx) ∧ V2.cell? ⟨kx, 0, none⟩ = some (.int .u64 0) ∧ V2.cell? ⟨kx, 1, none⟩ = some (.int .i64 0) ∧ V2.cell? ⟨kx, 2, none⟩ = some (.int .i64 0) := by
    have z : Th (w1.alloc (.cells #[.int .u64 0, .int .i64 0, .int .i64 0] 44)) w1.heap.size W3.zero := Th.new w1 W3.zero
    rw [← hkx] at z
    refine ⟨FV.cells.1, FV.cells.2, ?_⟩
    rw [hV2]
    exact z.cells
  have hSW : (w1.alloc (.cells #[.int .u64 0, .int .i64 0, .int .i64 0] 44)).cell? ⟨ks, 0, none⟩ = some (.slice ao 0 cap) ∧ (w1.alloc (.cells #[.int .u64 0, .int .i64 0, .int .i64 0] 44)).cell? ⟨ks, 1, none⟩ = some (.int .i64 nx) ∧ (w1.alloc (.cells #[.int .u64 0, .int .i64 0, .int .i64 0] 44)).cell? ⟨kx, 0, none⟩ = some (.int .u64 0) ∧ (w1.alloc (.cells #[.int .u64 0, .int .i64 0, .int .i64 0] 44)).cell? ⟨kx, 1, none⟩ = some (.int .i64 0) ∧ (w1.alloc (.cells #[.int .u64 0, .int .i64 0, .int .i64 0] 44)).cell? ⟨kx, 2, none⟩ = some (.int .i64 0) := by
    rw [hV2] at hSV
    exact hSV
  have lks : ks < V2.heap.size := FV.lt
  have lkx : kx < V2.heap.size := by rw [hV2, hkx]; show w1.heap.size < (w1.alloc _).heap.size; simp
  have nks1 : ¬ (ks = kr) := by have := HK.out; omega
  have nks2 : ¬ (ks = kt) := by have := HK.out; omega
  have nkx1 : ¬ (kx = kr) := by have := HR0.out.lt; omega
  have nkx2 : ¬ (kx = kt) := by have := HT0.out.lt; omega
  have nrt : ¬ (kr = kt) := by have := HK.out; omega
  have ntr : ¬ (kt = kr) := by have := HK.out; omega
  have C5 := ((Ch.refl (Only kr) V2).own 0 (.slice ao 0 cap)).own 1 (.int .i64 nx)
  have hS5 : ((V2.setCell ⟨kr, 0, none⟩ (.slice ao 0 cap)).setCell ⟨kr, 1, none⟩ (.int .i64 nx)).cell? ⟨ks, 0, none⟩ = some (.slice ao 0 cap) ∧ ((V2.setCell ⟨kr, 0, none⟩ (.slice ao 0 cap)).setCell ⟨kr, 1, none⟩ (.int .i64 nx)).cell? ⟨ks, 1, none⟩ = some (.int .i64 nx) ∧ ((V2.setCell ⟨kr, 0, none⟩ (.slice ao 0 cap)).setCell ⟨kr, 1, none⟩ (.int .i64 nx)).cell? ⟨kx, 0, none⟩ = some (.int .u64 0) ∧ ((V2.setCell ⟨kr, 0, none⟩ (.slice ao 0 cap)).setCell ⟨kr, 1, none⟩ (.int .i64 nx)).cell? ⟨kx, 1, none⟩ = some (.int .i64 0) ∧ ((V2.setCell ⟨kr, 0, none⟩ (.slice ao 0 cap)).setCell ⟨kr, 1, none⟩ (.int .i64 nx)).cell? ⟨kx, 2, none⟩ = some (.int .i64 0) := ⟨(C5.cell lks (fun e => nks1 e)).trans hSV.1, (C5.cell lks (fun e => nks1 e)).trans hSV.2.1, (C5.cell lkx (fun e => nkx1 e)).trans hSV.2.2.1, (C5.cell lkx (fun e => nkx1 e)).trans hSV.2.2.2.1, (C5.cell lkx (fun e => nkx1 e)).trans hSV.2.2.2.2⟩
  have C6 := (((Ch.refl (Only kt) ((V2.setCell ⟨kr, 0, none⟩ (.slice ao 0 cap)).setCell ⟨kr, 1, none⟩ (.int .i64 nx))).own 0 (.int .u64 0)).own 1 (.int .i64 0)).own 2 (.int .i64 0)
  have hS6 : (((((V2.setCell ⟨kr, 0, none⟩ (.slice ao 0 cap)).setCell ⟨kr, 1, none⟩ (.int .i64 nx)).setCell ⟨kt, 0, none⟩ (.int .u64 0)).setCell ⟨kt, 1, none⟩ (.int .i64 0)).setCell ⟨kt, 2, none⟩ (.int .i64 0)).cell? ⟨ks, 0, none⟩ = some (.slice ao 0 cap) ∧ (((((V2.setCell ⟨kr, 0, none⟩ (.slice ao 0 cap)).setCell ⟨kr, 1, none⟩ (.int .i64 nx)).setCell ⟨kt, 0, none⟩ (.int .u64 0)).setCell ⟨kt, 1, none⟩ (.int .i64 0)).setCell ⟨kt, 2, none⟩ (.int .i64 0)).cell? ⟨ks, 1, none⟩ = some (.int .i64 nx) ∧ (((((V2.setCell ⟨kr, 0, none⟩ (.slice ao 0 cap)).setCell ⟨kr, 1, none⟩ (.int .i64 nx)).setCell ⟨kt, 0, none⟩ (.int .u64 0)).setCell ⟨kt, 1, none⟩ (.int .i64 0)).setCell ⟨kt, 2, none⟩ (.int .i64 0)).cell? ⟨kx, 0, none⟩ = some (.int .u64 0) ∧ (((((V2.setCell ⟨kr, 0, none⟩ (.slice ao 0 cap)).setCell ⟨kr, 1, none⟩ (.int .i64 nx)).setCell ⟨kt, 0, none⟩ (.int .u64 0)).setCell ⟨kt, 1, none⟩ (.int .i64 0)).setCell ⟨kt, 2, none⟩ (.int .i64 0)).cell? ⟨kx, 1, none⟩ = some (.int .i64 0) ∧ (((((V2.setCell ⟨kr, 0, none⟩ (.slice ao 0 cap)).setCell ⟨kr, 1, none⟩ (.int .i64 nx)).setCell ⟨kt, 0, none⟩ (.int .u64 0)).setCell ⟨kt, 1, none⟩ (.int .i64 0)).setCell ⟨kt, 2, none⟩ (.int .i64 0)).cell? ⟨kx, 2, none⟩ = some (.int .i64 0) := ⟨(C6.cell (Nat.lt_of_lt_of_le lks C5.size) (fun e => nks2 e)).trans hS5.1, (C6.cell (Nat.lt_of_lt_of_le lks C5.size) (fun e => nks2 e)).trans hS5.2.1, (C6.cell (Nat.lt_of_lt_of_le lkx C5.size) (fun e => nkx2 e)).trans hS5.2.2.1, (C6.cell (Nat.lt_of_lt_of_le lkx C5.size) (fun e => nkx2 e)).trans hS5.2.2.2.1, (C6.cell (Nat.lt_of_lt_of_le lkx C5.size) (fun e => nkx2 e)).trans hS5.2.2.2.2⟩
  have R4 := HR0.out.ch HGV.out (noB _)
  have T4 := HT0.out.ch HGV.out (noB _)
  obtain ⟨z0, z1⟩ := R4.cells
  obtain ⟨y0, y1⟩ := R4.fz
  have l2 := R4.lt
  obtain ⟨z2, z3, z4⟩ := T4.cells
  obtain ⟨y2, y3, y4⟩ := T4.fz
  have l3 := T4.lt
  have HG7 := hid (((HG0.out.trans' HGV.out).trans C5 (fun q e => .inr (by have e1 : q = kr := e; have := HK.out; omega))).trans C6 (fun q e => .inr (by have e1 : q = kt := e; have := HK.out; omega)))
  rw [← hkx]
  clear gv FV hkx hk1 R4 T4 C5 C6
  refine wp_region_held_drew (S := fun w' => w'.cell? ⟨ks, 0, none⟩ = some (.slice ao 0 cap) ∧ w'.cell? ⟨ks, 1, none⟩ = some (.int .i64 nx) ∧ w'.cell? ⟨kx, 0, none⟩ = some (.int .u64 0) ∧ w'.cell? ⟨kx, 1, none⟩ = some (.int .i64 0) ∧ w'.cell? ⟨kx, 2, none⟩ = some (.int .i64 0)) (by kernel_rfl) (by exact hSW) (fun _ => ?_)
  rw [← hV2]
  clear hV2
  refine takeS_on (i := 0) 14 (v := ?v93) rfl rfl (by kernel_rfl) (by kernel_rfl) (by kernel_rfl) (fun _ _ _ h => h) (by kernel_rfl) ?hy93 (by exact hSV) ?_
  case hy93 => (intro w' hSw; go_simp; try (with_reducible rfl))
  simp only [Act.put, List.setIfInBounds_toArray, List.set_cons_zero, List.set_cons_succ]
  refine takeS_on (i := 1) 15 (v := ?v94) rfl rfl (by kernel_rfl) (by kernel_rfl) (by kernel_rfl) (fun _ _ _ h => h) (by kernel_rfl) ?hy94 (by exact hSV) ?_
  case hy94 => (intro w' hSw; go_simp; try (with_reducible rfl))
  simp only [Act.put, List.setIfInBounds_toArray, List.set_cons_zero, List.set_cons_succ]
  refine takeS_on (i := 2) 16 (v := ?v95) rfl rfl (by kernel_rfl) (by kernel_rfl) (by kernel_rfl) (fun _ _ _ h => h) (by kernel_rfl) ?hy95 (by exact hSV) ?_
  case hy95 => (intro w' hSw; go_simp; try (with_reducible rfl))
  simp only [Act.put, List.setIfInBounds_toArray, List.set_cons_zero, List.set_cons_succ]
  refine wpAnyH_ready (rs := [3]) (by kernel_rfl) (by simp) (AllReadyH.cons rfl (fun K hK => ?_) AllReadyH.nil)
  go_simp
  refine hK.out _ _ (by exact hS5) (fun _ => ?_)
  clear hK K
  refine wpAnyH_ready (rs := [4]) (by kernel_rfl) (by simp) (AllReadyH.cons rfl (fun K hK => ?_) AllReadyH.nil)
  go_simp
  refine hK.out _ _ (by exact hS6) (fun _ => ?_)
  clear hK K
  refine takeS_on (i := 5) 4 (v := ?v96) rfl rfl (by kernel_rfl) (by kernel_rfl) (by kernel_rfl) (fun _ _ _ h => h) (by kernel_rfl) ?hy96 (by exact hS6) ?_
  case hy96 => (intro w' hSw; go_simp; try (with_reducible rfl))
  simp only [Act.put, List.setIfInBounds_toArray, List.set_cons_zero, List.set_cons_succ]
  refine wpAnyH_done (by kernel_rfl) ?_ _
  go_wp2
  exact bodyPost_ret (v := .tuple #[.agg #[.slice ao 0 cap, .int .i64 nx], .agg #[.int .u64 0, .int .i64 0, .int .i64 0], .int .i64 31]) (by simp [results, Try.results23, go_sem, z0, z1, z2, z3, z4]) rfl ⟨rfl, HG7.out⟩
set_option maxHeartbeats 4000000 in
theorem rdrop_no (P : Nat → Prop) (v : Value) (xs : List W3) (nx a : Int) (w : World) (hx : Lst P w v xs) (hl : xs.length ≤ 4294967296) (hne : ∀ x ∈ xs, x.n ≠ a) :
    Calls Try.prog 24 #[.agg #[v, .int .i64 nx], .int .i64 a] w fun e w' => e = .returned (.tuple #[.agg #[v, .int .i64 nx], .agg #[.int .u64 0, .int .i64 0, .int .i64 0], .int .i64 31]) ∧ Ch NoB w w' := by
  obtain ⟨ao, cap, rfl⟩ := hx.form
  obtain ⟨n, hnn⟩ : ∃ n, n = xs.length := ⟨_, rfl⟩
  rw [← hnn] at hl hx ⊢
  have HN := hid hnn
  clear hnn
  have HNE := hid hne
  clear hne
  obtain ⟨W0, hW0⟩ : ∃ W, W = ((w.alloc (.cells #[.slice ao n cap, .int .i64 nx] 28)).alloc (.cells #[.slice none 0 0, .int .i64 0] 28)).alloc (.cells #[.int .u64 0, .int .i64 0, .int .i64 0] 44) := ⟨_, rfl⟩
  have g0 : Ch NoB w W0 := by rw [hW0]; exact (((Ch.refl NoB w).alloc _).alloc _).alloc _
  have f0 : Tv W0 w.heap.size (.slice ao n cap) nx := by rw [hW0]; exact ((Tv.new w _ _).alloc _).alloc _
  have r0 : Tv W0 (w.heap.size + 1) (.slice none 0 0) 0 := by
    have z := Tv.new (w.alloc (.cells #[.slice ao n cap, .int .i64 nx] 28)) (.slice none 0 0) 0
    rw [World.size_alloc] at z
    rw [hW0]
    exact z.alloc _
  have t0 : Th W0 (w.heap.size + 1 + 1) W3.zero := by
    have z := Th.new ((w.alloc (.cells #[.slice ao n cap, .int .i64 nx] 28)).alloc (.cells #[.slice none 0 0, .int .i64 0] 28)) W3.zero
    rw [World.size_alloc, World.size_alloc] at z
    rw [hW0]
    exact z
  obtain ⟨ks, hks⟩ : ∃ k, k = w.heap.size := ⟨_, rfl⟩
  obtain ⟨kr, hkr⟩ : ∃ k, k = w.heap.size + 1 := ⟨_, rfl⟩
  obtain ⟨kt, hkt⟩ : ∃ k, k = w.heap.size + 1 + 1 := ⟨_, rfl⟩
  have HK := hid (show w.heap.size ≤ ks ∧ ks < kr ∧ kr < kt by omega)
  have HX := hid (hx.ch g0 (fun _ _ _ => noB _))
  have HX0 := hid hx
  have HG0 := hid g0
  have HF0 := hid (show Tv W0 ks (.slice ao n cap) nx by rw [hks]; exact f0)
  have HR0 := hid (show Tv W0 kr (.slice none 0 0) 0 by rw [hkr]; exact r0)
  have HT0 := hid (show Th W0 kt W3.zero by rw [hkt]; exact t0)
  clear hx g0 f0 r0 t0
  go_enter Try.func24, Try.ntmps24
  go_wp2_with fail
  have e2 : w.heap.size + 2 = w.heap.size + 1 + 1 := rfl
  try rw [e2]
  rw [← hW0]
  rw [← hkt, ← hkr, ← hks]
  clear hW0 hks hkr hkt e2
  go_loopg [7] n (fun m i wr => ∃ j, j + m = n ∧ i = .int .i64 ((j : Nat) : Int) ∧ Ch NoB W0 wr)
  case atStart => exact ⟨0, by omega, rfl, Ch.refl _ _⟩
  case round =>
    obtain ⟨j, hjk, rfl, hg⟩ := hrel
    obtain ⟨V, hV⟩ : ∃ W, W = wr := ⟨_, rfl⟩
    subst hV
    obtain ⟨K1, hK1⟩ : ∃ k, k = gk := ⟨_, rfl⟩
    have HG := hid hg
    have F1 := HF0.out.ch hg (noB _)
    obtain ⟨c0, c1⟩ := F1.cells
    have l1 := F1.lt
    clear F1
    by_cases hj : j < n
    · obtain ⟨z, hz⟩ : ∃ z, xs[j]? = some z := ⟨_, List.getElem?_eq_getElem (by rw [← HN.out]; exact hj)⟩
      obtain ⟨gb, o, rfl, _, hgl, a0, a1, a2⟩ := (HX.out.ch hg (fun _ _ _ => noB _)).get hz
      have j0 : (0 : Int) ≤ (j : Int) := by omega
      have j1 : (j : Int) < (n : Int) := by omega
      have e1 : (z.n == a) = false := beq_eq_false_iff_ne.2 (HNE.out z (List.mem_of_getElem? hz))
      have e2 : ¬ (z.n = a) := HNE.out z (List.mem_of_getElem? hz)
      clear hz hg
      go_wp2
      go_roundg (K1 - 1)
      case measure => omega
      case rel => exact ⟨j + 1, by omega, by simp, HG.out⟩
    · have R4 := HR0.out.ch hg (noB _)
      have T4 := HT0.out.ch hg (noB _)
      obtain ⟨z0, z1⟩ := R4.cells
      obtain ⟨y0, y1⟩ := R4.fz
      have l2 := R4.lt
      obtain ⟨z2, z3, z4⟩ := T4.cells
      obtain ⟨y2, y3, y4⟩ := T4.fz
      have l3 := T4.lt
      have nrt : ¬ (kr = kt) := by have := HK.out; omega
      have ntr : ¬ (kt = kr) := by have := HK.out; omega
      have C5 := ((Ch.refl (Only kr) V).own 0 (.slice ao n cap)).own 1 (.int .i64 nx)
      have C6 := (((Ch.refl (Only kt) ((V.setCell ⟨kr, 0, none⟩ (.slice ao n cap)).setCell ⟨kr, 1, none⟩ (.int .i64 nx))).own 0 (.int .u64 0)).own 1 (.int .i64 0)).own 2 (.int .i64 0)
      have HG7 := hid (((HG0.out.trans' HG.out).trans C5 (fun q e => .inr (by have e1 : q = kr := e; have := HK.out; omega))).trans C6 (fun q e => .inr (by have e1 : q = kt := e; have := HK.out; omega)))
      clear R4 T4 C5 C6 hg
      go_wp2
      exact bodyPost_ret (v := .tuple #[.agg #[.slice ao n cap, .int .i64 nx], .agg #[.int .u64 0, .int .i64 0, .int .i64 0], .int .i64 31]) (by simp [results, Try.results24, go_sem, z0, z1, z2, z3, z4]) rfl ⟨rfl, HG7.out⟩
set_option maxHeartbeats 4000000 in
theorem rdrop_yes (P : Nat → Prop) (v : Value) (xs : List W3) (nx : Int) (i : Nat) (x : W3) (w : World) (hx : Lst P w v xs) (hl : xs.length ≤ 4294967296) (hn : Nn xs) (hi : xs[i]? = some x) :
    Calls Try.prog 24 #[.agg #[v, .int .i64 nx], .int .i64 x.n] w fun e w' => ∃ v', e = .returned (.tuple #[.agg #[v', .int .i64 nx], .agg #[.int .u64 x.w, .int .i64 x.n, .int .i64 x.v], .int .i64 0]) ∧ Lst (w.heap.size ≤ ·) w' v' (xs.eraseIdx i) ∧ Ch NoB w w' := by
  obtain ⟨ao, cap, rfl⟩ := hx.form
  obtain ⟨n, hnn⟩ : ∃ n, n = xs.length := ⟨_, rfl⟩
  rw [← hnn] at hl hx ⊢
  have HN := hid hnn
  clear hnn
  have HNn := hid hn
  have HI := hid hi
  have hin : i < n := by rw [HN.out]; exact (List.getElem?_eq_some_iff.1 hi).1
  clear hn hi
  obtain ⟨W0, hW0⟩ : ∃ W, W = ((w.alloc (.cells #[.slice ao n cap, .int .i64 nx] 28)).alloc (.cells #[.slice none 0 0, .int .i64 0] 28)).alloc (.cells #[.int .u64 0, .int .i64 0, .int .i64 0] 44) := ⟨_, rfl⟩
  have g0 : Ch NoB w W0 := by rw [hW0]; exact (((Ch.refl NoB w).alloc _).alloc _).alloc _
  have f0 : Tv W0 w.heap.size (.slice ao n cap) nx := by rw [hW0]; exact ((Tv.new w _ _).alloc _).alloc _
  have r0 : Tv W0 (w.heap.size + 1) (.slice none 0 0) 0 := by
    have z := Tv.new (w.alloc (.cells #[.slice ao n cap, .int .i64 nx] 28)) (.slice none 0 0) 0
    rw [World.size_alloc] at z
    rw [hW0]
    exact z.alloc _
  have t0 : Th W0 (w.heap.size + 1 + 1) W3.zero := by
    have z := Th.new ((w.alloc (.cells #[.slice ao n cap, .int .i64 nx] 28)).alloc (.cells #[.slice none 0 0, .int .i64 0] 28)) W3.zero
    rw [World.size_alloc, World.size_alloc] at z
    rw [hW0]
    exact z
  obtain ⟨ks, hks⟩ : ∃ k, k = w.heap.size := ⟨_, rfl⟩
  obtain ⟨kr, hkr⟩ : ∃ k, k = w.heap.size + 1 := ⟨_, rfl⟩
  obtain ⟨kt, hkt⟩ : ∃ k, k = w.heap.size + 1 + 1 := ⟨_, rfl⟩
  have HK := hid (show w.heap.size ≤ ks ∧ ks < kr ∧ kr < kt by omega)
  have HX := hid (hx.ch g0 (fun _ _ _ => noB _))
  have HX0 := hid hx
  have HG0 := hid g0
  have HF0 := hid (show Tv W0 ks (.slice ao n cap) nx by rw [hks]; exact f0)
  have HR0 := hid (show Tv W0 kr (.slice none 0 0) 0 by rw [hkr]; exact r0)
  have HT0 := hid (show Th W0 kt W3.zero by rw [hkt]; exact t0)
  clear hx g0 f0 r0 t0
  go_enter Try.func24, Try.ntmps24
  go_wp2_with fail
  have e2 : w.heap.size + 2 = w.heap.size + 1 + 1 := rfl
  try rw [e2]
  rw [← hW0]
  rw [← hkt, ← hkr, ← hks]
  clear hW0 hks hkr hkt e2
  go_loopg [7] i (fun m i' wr => ∃ j, j + m = i ∧ i' = .int .i64 ((j : Nat) : Int) ∧ Ch NoB W0 wr)
  case atStart => exact ⟨0, by omega, rfl, Ch.refl _ _⟩
  case round =>
    obtain ⟨j, hjk, rfl, hg⟩ := hrel
    obtain ⟨V, hV⟩ : ∃ W, W = wr := ⟨_, rfl⟩
    subst hV
    obtain ⟨K1, hK1⟩ : ∃ k, k = gk := ⟨_, rfl⟩
    have HG := hid hg
    have F1 := HF0.out.ch hg (noB _)
    obtain ⟨c0, c1⟩ := F1.cells
    have l1 := F1.lt
    clear F1
    by_cases hj : j < i
    · obtain ⟨z, hz⟩ : ∃ z, xs[j]? = some z := ⟨_, List.getElem?_eq_getElem (by rw [← HN.out]; omega)⟩
      obtain ⟨gb, o, rfl, _, hgl, a0, a1, a2⟩ := (HX.out.ch hg (fun _ _ _ => noB _)).get hz
      have j0 : (0 : Int) ≤ (j : Int) := by omega
      have j1 : (j : Int) < (n : Int) := by omega
      have e2 : ¬ (z.n = x.n) := fun e => by have := HNn.out.inj hz HI.out e; omega
      have e1 : (z.n == x.n) = false := beq_eq_false_iff_ne.2 e2
      clear hz hg
      go_wp2
      go_roundg (K1 - 1)
      case measure => omega
      case rel => exact ⟨j + 1, by omega, by simp, HG.out⟩
    · have ej : i = j := by omega
      subst ej
      obtain ⟨gb, o, rfl, _, hgw, b0, b1, b2⟩ := HX0.out.get HI.out
      have gg := HG0.out.trans' hg
      have a0 := (gg.cell hgw (noB _)).trans b0
      have a1 := (gg.cell hgw (noB _)).trans b1
      have a2 := (gg.cell hgw (noB _)).trans b2
      have hgl : gb < V.heap.size := Nat.lt_of_lt_of_le hgw gg.size
      have j0 : (0 : Int) ≤ (i : Int) := by omega
      have j1 : (i : Int) < (n : Int) := by omega
      clear b0 b1 b2 gg
      obtain ⟨V2, hV2⟩ : ∃ W, W = V.drew := ⟨_, rfl⟩
      have HGV := hid (show Ch NoB W0 V2 by rw [hV2]; exact HG.out.drew)
      have hSW : V.cell? ⟨ks, 0, none⟩ = some (.slice (some ⟨gb, o, none⟩) n cap) ∧ V.cell? ⟨ks, 1, none⟩ = some (.int .i64 nx) ∧ V.cell? ⟨gb, o + i * 3, none⟩ = some (.int .u64 x.w) ∧ V.cell? ⟨gb, o + i * 3 + 1, none⟩ = some (.int .i64 x.n) ∧ V.cell? ⟨gb, o + i * 3 + 2, none⟩ = some (.int .i64 x.v) := ⟨c0, c1, a0, a1, a2⟩
      have hSV : V2.cell? ⟨ks, 0, none⟩ = some (.slice (some ⟨gb, o, none⟩) n cap) ∧ V2.cell? ⟨ks, 1, none⟩ = some (.int .i64 nx) ∧ V2.cell? ⟨gb, o + i * 3, none⟩ = some (.int .u64 x.w) ∧ V2.cell? ⟨gb, o + i * 3 + 1, none⟩ = some (.int .i64 x.n) ∧ V2.cell? ⟨gb, o + i * 3 + 2, none⟩ = some (.int .i64 x.v) := by rw [hV2]; exact hSW
      have lks : ks < V2.heap.size := (HF0.out.ch HGV.out (noB _)).lt
      have lgb : gb < V2.heap.size := by rw [hV2]; exact hgl
      have HBV := hid (show W0.heap.size ≤ V2.heap.size from HGV.out.size)
      have HXV := hid (HX.out.ch HGV.out (fun _ _ _ => noB _))
      have nks1 : ¬ (ks = kr) := by have := HK.out; omega
      have nks2 : ¬ (ks = kt) := by have := HK.out; omega
      have ngb1 : ¬ (gb = kr) := by have := HK.out; omega
      have ngb2 : ¬ (gb = kt) := by have := HK.out; omega
      have nrt : ¬ (kr = kt) := by have := HK.out; omega
      have ntr : ¬ (kt = kr) := by have := HK.out; omega
      clear hg
      go_wp2_with fail
      refine wp_region_held_drew (S := fun w' => w'.cell? ⟨ks, 0, none⟩ = some (.slice (some ⟨gb, o, none⟩) n cap) ∧ w'.cell? ⟨ks, 1, none⟩ = some (.int .i64 nx) ∧ w'.cell? ⟨gb, o + i * 3, none⟩ = some (.int .u64 x.w) ∧ w'.cell? ⟨gb, o + i * 3 + 1, none⟩ = some (.int .i64 x.n) ∧ w'.cell? ⟨gb, o + i * 3 + 2, none⟩ = some (.int .i64 x.v)) (by kernel_rfl) (by exact hSW) (fun _ => ?_)
      rw [← hV2]
      clear hV2
      refine takeS_on (i := 0) 23 (v := ?v97) rfl rfl (by kernel_rfl) (by kernel_rfl) (by kernel_rfl) (fun _ _ _ h => h) (by kernel_rfl) ?hy97 (by exact hSV) ?_
      case hy97 => (intro w' hSw; go_simp; try (with_reducible rfl))
      simp only [Act.put, List.setIfInBounds_toArray, List.set_cons_zero, List.set_cons_succ]
      refine takeS_on (i := 1) 24 (v := ?v98) rfl rfl (by kernel_rfl) (by kernel_rfl) (by kernel_rfl) (fun _ _ _ h => h) (by kernel_rfl) ?hy98 (by exact hSV) ?_
      case hy98 => (intro w' hSw; go_simp; try (with_reducible rfl))
      simp only [Act.put, List.setIfInBounds_toArray, List.set_cons_zero, List.set_cons_succ]
      refine takeS_on (i := 3) 26 (v := ?v99) rfl rfl (by kernel_rfl) (by kernel_rfl) (by kernel_rfl) (fun _ _ _ h => h) (by kernel_rfl) ?hy99 (by exact hSV) ?_
      case hy99 => (intro w' hSw; go_simp; try (with_reducible rfl))
      simp only [Act.put, List.setIfInBounds_toArray, List.set_cons_zero, List.set_cons_succ]
      refine takeS_on (i := 4) 27 (v := ?v100) rfl rfl (by kernel_rfl) (by kernel_rfl) (by kernel_rfl) (fun _ _ _ h => h) (by kernel_rfl) ?hy100 (by exact hSV) ?_
      case hy100 => (intro w' hSw; go_simp; try (with_reducible rfl))
      simp only [Act.put, List.setIfInBounds_toArray, List.set_cons_zero, List.set_cons_succ]
      refine takeS_on (i := 5) 28 (v := ?v101) rfl rfl (by kernel_rfl) (by kernel_rfl) (by kernel_rfl) (fun _ _ _ h => h) (by kernel_rfl) ?hy101 (by exact hSV) ?_
      case hy101 => (intro w' hSw; go_simp; try (with_reducible rfl))
      simp only [Act.put, List.setIfInBounds_toArray, List.set_cons_zero, List.set_cons_succ]
      refine takeS_on (i := 6) 29 (v := ?v102) rfl rfl (by kernel_rfl) (by kernel_rfl) (by kernel_rfl) (fun _ _ _ h => h) (by kernel_rfl) ?hy102 (by exact hSV) ?_
      case hy102 => (intro w' hSw; go_simp; try (with_reducible rfl))
      simp only [Act.put, List.setIfInBounds_toArray, List.set_cons_zero, List.set_cons_succ]
      refine takeS_on (i := 7) 30 (v := ?v103) rfl rfl (by kernel_rfl) (by kernel_rfl) (by kernel_rfl) (fun _ _ _ h => h) (by kernel_rfl) ?hy103 (by exact hSV) ?_
      case hy103 => (intro w' hSw; go_simp; try (with_reducible rfl))
      simp only [Act.put, List.setIfInBounds_toArray, List.set_cons_zero, List.set_cons_succ]
      refine wpAnyH_ready (rs := [2]) (by kernel_rfl) (by simp) (AllReadyH.cons rfl (fun K hK => ?_) AllReadyH.nil)
      go_simp
      refine (rwithout_any P _ xs nx i V2 HXV.out (by rw [← HN.out]; exact hl)).mono ?_
      rintro e w4 ⟨v4, rfl, lv4, g4⟩
      obtain ⟨a4, q4, rfl⟩ := lv4.form
      obtain ⟨l4, hl4⟩ : ∃ l, l = (xs.eraseIdx i).length := ⟨_, rfl⟩
      rw [← hl4] at lv4 ⊢
      have hS4 : w4.cell? ⟨ks, 0, none⟩ = some (.slice (some ⟨gb, o, none⟩) n cap) ∧ w4.cell? ⟨ks, 1, none⟩ = some (.int .i64 nx) ∧ w4.cell? ⟨gb, o + i * 3, none⟩ = some (.int .u64 x.w) ∧ w4.cell? ⟨gb, o + i * 3 + 1, none⟩ = some (.int .i64 x.n) ∧ w4.cell? ⟨gb, o + i * 3 + 2, none⟩ = some (.int .i64 x.v) := ⟨(g4.cell lks (noB _)).trans hSV.1, (g4.cell lks (noB _)).trans hSV.2.1, (g4.cell lgb (noB _)).trans hSV.2.2.1, (g4.cell lgb (noB _)).trans hSV.2.2.2.1, (g4.cell lgb (noB _)).trans hSV.2.2.2.2⟩
      have lks4 := Nat.lt_of_lt_of_le lks g4.size
      have lgb4 := Nat.lt_of_lt_of_le lgb g4.size
      have C5 := ((Ch.refl (Only kr) w4).own 0 (.slice a4 l4 q4)).own 1 (.int .i64 nx)
      have hS5 : ((w4.setCell ⟨kr, 0, none⟩ (.slice a4 l4 q4)).setCell ⟨kr, 1, none⟩ (.int .i64 nx)).cell? ⟨ks, 0, none⟩ = some (.slice (some ⟨gb, o, none⟩) n cap) ∧ ((w4.setCell ⟨kr, 0, none⟩ (.slice a4 l4 q4)).setCell ⟨kr, 1, none⟩ (.int .i64 nx)).cell? ⟨ks, 1, none⟩ = some (.int .i64 nx) ∧ ((w4.setCell ⟨kr, 0, none⟩ (.slice a4 l4 q4)).setCell ⟨kr, 1, none⟩ (.int .i64 nx)).cell? ⟨gb, o + i * 3, none⟩ = some (.int .u64 x.w) ∧ ((w4.setCell ⟨kr, 0, none⟩ (.slice a4 l4 q4)).setCell ⟨kr, 1, none⟩ (.int .i64 nx)).cell? ⟨gb, o + i * 3 + 1, none⟩ = some (.int .i64 x.n) ∧ ((w4.setCell ⟨kr, 0, none⟩ (.slice a4 l4 q4)).setCell ⟨kr, 1, none⟩ (.int .i64 nx)).cell? ⟨gb, o + i * 3 + 2, none⟩ = some (.int .i64 x.v) := ⟨(C5.cell lks4 (fun e => nks1 e)).trans hS4.1, (C5.cell lks4 (fun e => nks1 e)).trans hS4.2.1, (C5.cell lgb4 (fun e => ngb1 e)).trans hS4.2.2.1, (C5.cell lgb4 (fun e => ngb1 e)).trans hS4.2.2.2.1, (C5.cell lgb4 (fun e => ngb1 e)).trans hS4.2.2.2.2⟩
      have C6 := (((Ch.refl (Only kt) ((w4.setCell ⟨kr, 0, none⟩ (.slice a4 l4 q4)).setCell ⟨kr, 1, none⟩ (.int .i64 nx))).own 0 (.int .u64 x.w)).own 1 (.int .i64 x.n)).own 2 (.int .i64 x.v)
      have hS6 : (((((w4.setCell ⟨kr, 0, none⟩ (.slice a4 l4 q4)).setCell ⟨kr, 1, none⟩ (.int .i64 nx)).setCell ⟨kt, 0, none⟩ (.int .u64 x.w)).setCell ⟨kt, 1, none⟩ (.int .i64 x.n)).setCell ⟨kt, 2, none⟩ (.int .i64 x.v)).cell? ⟨ks, 0, none⟩ = some (.slice (some ⟨gb, o, none⟩) n cap) ∧ (((((w4.setCell ⟨kr, 0, none⟩ (.slice a4 l4 q4)).setCell ⟨kr, 1, none⟩ (.int .i64 nx)).setCell ⟨kt, 0, none⟩ (.int .u64 x.w)).setCell ⟨kt, 1, none⟩ (.int .i64 x.n)).setCell ⟨kt, 2, none⟩ (.int .i64 x.v)).cell? ⟨ks, 1, none⟩ = some (.int .i64 nx) ∧ (((((w4.setCell ⟨kr, 0, none⟩ (.slice a4 l4 q4)).setCell ⟨kr, 1, none⟩ (.int .i64 nx)).setCell ⟨kt, 0, none⟩ (.int .u64 x.w)).setCell ⟨kt, 1, none⟩ (.int .i64 x.n)).setCell ⟨kt, 2, none⟩ (.int .i64 x.v)).cell? ⟨gb, o + i * 3, none⟩ = some (.int .u64 x.w) ∧ (((((w4.setCell ⟨kr, 0, none⟩ (.slice a4 l4 q4)).setCell ⟨kr, 1, none⟩ (.int .i64 nx)).setCell ⟨kt, 0, none⟩ (.int .u64 x.w)).setCell ⟨kt, 1, none⟩ (.int .i64 x.n)).setCell ⟨kt, 2, none⟩ (.int .i64 x.v)).cell? ⟨gb, o + i * 3 + 1, none⟩ = some (.int .i64 x.n) ∧ (((((w4.setCell ⟨kr, 0, none⟩ (.slice a4 l4 q4)).setCell ⟨kr, 1, none⟩ (.int .i64 nx)).setCell ⟨kt, 0, none⟩ (.int .u64 x.w)).setCell ⟨kt, 1, none⟩ (.int .i64 x.n)).setCell ⟨kt, 2, none⟩ (.int .i64 x.v)).cell? ⟨gb, o + i * 3 + 2, none⟩ = some (.int .i64 x.v) := ⟨(C6.cell (Nat.lt_of_lt_of_le lks4 C5.size) (fun e => nks2 e)).trans hS5.1, (C6.cell (Nat.lt_of_lt_of_le lks4 C5.size) (fun e => nks2 e)).trans hS5.2.1, (C6.cell (Nat.lt_of_lt_of_le lgb4 C5.size) (fun e => ngb2 e)).trans hS5.2.2.1, (C6.cell (Nat.lt_of_lt_of_le lgb4 C5.size) (fun e => ngb2 e)).trans hS5.2.2.2.1, (C6.cell (Nat.lt_of_lt_of_le lgb4 C5.size) (fun e => ngb2 e)).trans hS5.2.2.2.2⟩
      have G4 := HGV.out.trans' g4
      have R4 := HR0.out.ch G4 (noB _)
      have T4 := HT0.out.ch G4 (noB _)
      obtain ⟨z0, z1⟩ := R4.cells
      obtain ⟨y0, y1⟩ := R4.fz
      have l2 := R4.lt
      obtain ⟨z2, z3, z4⟩ := T4.cells
      obtain ⟨y2, y3, y4⟩ := T4.fz
      have l3 := T4.lt
      have HL6 := hid ((lv4.mono (Q := fun q => W0.heap.size ≤ q) (fun q _ (hq : V2.heap.size ≤ q) => Nat.le_trans HBV.out hq)).own C5 (HR0.out.lt) (Nat.le_refl _))
      have HL7 := hid (HL6.out.own C6 HT0.out.lt HG0.out.size)
      have HG7 := hid (((HG0.out.trans' G4).trans C5 (fun q e => .inr (by have e1 : q = kr := e; have := HK.out; omega))).trans C6 (fun q e => .inr (by have e1 : q = kt := e; have := HK.out; omega)))
      clear lv4 g4 hl4 G4 R4 T4 C5 C6 HL6
      refine hK.out _ _ (by exact hS4) (fun _ => ?_)
      clear hK K
      refine wpAnyH_ready (rs := [8]) (by kernel_rfl) (by simp) (AllReadyH.cons rfl (fun K hK => ?_) AllReadyH.nil)
      go_simp
      refine hK.out _ _ (by exact hS5) (fun _ => ?_)
      clear hK K
      refine wpAnyH_ready (rs := [9]) (by kernel_rfl) (by simp) (AllReadyH.cons rfl (fun K hK => ?_) AllReadyH.nil)
      go_simp
      refine hK.out _ _ (by exact hS6) (fun _ => ?_)
      clear hK K
      refine takeS_on (i := 10) 6 (v := ?v104) rfl rfl (by kernel_rfl) (by kernel_rfl) (by kernel_rfl) (fun _ _ _ h => h) (by kernel_rfl) ?hy104 (by exact hS6) ?_
      case hy104 => (intro w' hSw; go_simp; try (with_reducible rfl))
      simp only [Act.put, List.setIfInBounds_toArray, List.set_cons_zero, List.set_cons_succ]
      refine wpAnyH_done (by kernel_rfl) ?_ _
      go_wp2
      exact bodyPost_ret (v := .tuple #[.agg #[.slice a4 l4 q4, .int .i64 nx], .agg #[.int .u64 x.w, .int .i64 x.n, .int .i64 x.v], .int .i64 0]) (by simp [results, Try.results24, go_sem, z0, z1, z2, z3, z4]) rfl ⟨_, rfl, HL7.out, HG7.out⟩
end Go.Proofs.Ytkaeccmhfbjcmaa.Hp
