/-
  PolicyOrder, walked: paths lead from each domain to itself, go on where others end, and have all edges. Condition: the list is not too long.
-/
import Derived.Test.YtcoaefojamhloaaPyLives
import Derived.Test.YtcoaefojamhloaaPyFact
import Derived.Test.YtcoaefojamhloaaPyRChk
namespace Go.Proofs.Ytcoaefojamhloaa.Lt
open Go.RowKit Wd
attribute [local go_sem ↓] Go.wp_at_zero Go.wp_at_succ
set_option maxRecDepth 20000

/-- the two boxes of the statement -/
theorem boxGT {w w1 : World} {T T2 : TypeId} {a b x y z : Value} (g : Gr ((w.alloc (.cells #[a, b] T)).alloc (.cells #[x, y, z] T2)) w1) :
    w1.cell? ⟨w.heap.size, 0, none⟩ = some a ∧ w1.cell? ⟨w.heap.size, 1, none⟩ = some b ∧ w.heap.size < w1.heap.size ∧ w1.cell? ⟨w.heap.size + 1, 0, none⟩ = some x ∧ w1.cell? ⟨w.heap.size + 1, 1, none⟩ = some y ∧ w1.cell? ⟨w.heap.size + 1, 2, none⟩ = some z ∧ w.heap.size + 1 < w1.heap.size ∧ Gr w w1 := by
  have h2 := gr_blk (al_at (w := w.alloc (.cells #[a, b] T)) (x := w.heap.size + 1) (.cells #[x, y, z] T2) (by simp)) g
  have h1 := gr_blk (gr_blk (al_at (w := w) (.cells #[a, b] T) rfl) (Ch.alloc (Gr.refl _) (.cells #[x, y, z] T2))) g
  exact ⟨cell_of h1 0, cell_of h1 1, lt_of_block h1, cell_of h2 0, cell_of h2 1, cell_of h2 2, lt_of_block h2, Gr.trans (Ch.alloc (Ch.alloc (Gr.refl w) _) _) g⟩
set_option maxHeartbeats 16000000 in
theorem order_walk (w : World) (n : Int) (a : Option Addr) (m c : Nat) (l : List Eg) (h : Le w (.slice a m c) l) (hm : m ≤ 8796093022208) (_hn : -9223372036854775808 ≤ n ∧ n ≤ 9223372036854775807) (x y z : Int) (_hx : -9223372036854775808 ≤ x ∧ x ≤ 9223372036854775807) (_hy : -9223372036854775808 ≤ y ∧ y ≤ 9223372036854775807) (_hz : -9223372036854775808 ≤ z ∧ z ≤ 9223372036854775807) :
    Calls Try.prog 6 #[.agg #[.int .i64 n, .slice a m c], .agg #[.int .i64 x, .int .i64 y, .int .i64 z]] w fun e w' => e = .returned (.bool true) ∧ Gr w w' := by
  obtain ⟨A, hA⟩ : ∃ A, A = (w.alloc (.cells #[.int .i64 n, .slice a m c] 24)).alloc (.cells #[.int .i64 x, .int .i64 y, .int .i64 z] 40) := ⟨_, rfl⟩
  have HB := hide (show ∀ W, Gr A W → W.cell? ⟨w.heap.size, 0, none⟩ = some (.int .i64 n) ∧ W.cell? ⟨w.heap.size, 1, none⟩ = some (.slice a m c) ∧ w.heap.size < W.heap.size ∧ W.cell? ⟨w.heap.size + 1, 0, none⟩ = some (.int .i64 x) ∧ W.cell? ⟨w.heap.size + 1, 1, none⟩ = some (.int .i64 y) ∧ W.cell? ⟨w.heap.size + 1, 2, none⟩ = some (.int .i64 z) ∧ w.heap.size + 1 < W.heap.size ∧ Gr w W from fun W g => boxGT (by rw [hA] at g; exact g))
  have CE := hide (fun W (g : Gr w W) => edges_any W AnyB a m c l (h.gr g) hm)
  have CR := hide (fun W (g : Gr w W) => rcheck_any W n a m c l (h.gr g) hm)
  have HL := hide h
  have HM := hide (show m = l.length from h.len.1)
  unfold chkE at CR
  by_cases h0 : (chkP n l).2 = 0
  · obtain ⟨n1, n2, ok, -⟩ := chkP_ok h0
    rw [h0] at CR
    generalize (chkP n l).1 = place at CR
    obtain ⟨N, rfl⟩ : ∃ N : Nat, n = (N : Int) := ⟨n.toNat, by omega⟩
    have hN1 : 1 ≤ N := by omega
    have hN2 : N ≤ 16 := by omega
    have CP := hide (show ∀ W ao cap, Le W (.slice ao m cap) l → ∀ X Y : Nat, X < N → Y < N → Calls Try.prog 15 #[.int .i64 (N : Int), .slice ao m cap, .int .i64 (X : Int), .int .i64 (Y : Int)] W fun e w' => e = .returned (.tuple #[.bool (pthR N l X Y), .int .i64 0]) ∧ Gr W w' from fun W ao cap k X Y hX hY => (path_any W N ao m cap l k hm X Y).mono fun e w' q => ⟨q.1.trans (pthE_ok hN1 hN2 ok hX hY), q.2⟩)
    have HRF := hide (show ∀ X, X < N → pthR N l X X = true from fun X hX => pth_refl hX)
    have HTR := hide (show ∀ X Y Z, X < N → Y < N → pthR N l X Y = true → pthR N l Y Z = true → pthR N l X Z = true from fun X Y Z h1 h2 h3 h4 => pthR_trans ok h1 h2 h3 h4)
    have HED := hide (show ∀ x ∈ l, pthR N l x.f.toNat x.t.toNat = true from fun x hx => pthR_edge ok hx)
    have HO := hide ok
    obtain ⟨u1, X, m1, p1, q1, o1, hX⟩ := mod_way x N (by omega) hN2
    have r1 := wrap_way p1 q1 hN2
    obtain ⟨u2, Y, m2, p2, q2, o2, hY⟩ := mod_way y N (by omega) hN2
    have r2 := wrap_way p2 q2 hN2
    obtain ⟨u3, Z, m3, p3, q3, o3, hZ⟩ := mod_way z N (by omega) hN2
    have r3 := wrap_way p3 q3 hN2
    have hNi : ¬ ((N : Int) = 0) := by omega
    have hNn : ¬ (N = 0) := by omega
    have hNp : (N : Int) ≤ 16 := by omega
    have hN0 : (1 : Int) ≤ (N : Int) := by omega
    generalize pthR N l = r at *
    clear h h0 ok n1 n2 _hn
    go_enter Try.func6, Try.ntmps6
    go_wp2_with fail
    rw [← hA]
    clear hA
    have hS0 : Gr A (World.drew A) := Ch.drew (Gr.refl _)
    refine wp_region_held_drew (S := Gr A) (by kernel_rfl) (by exact hS0) (fun _ => ?_)
    generalize World.drew _ = V0 at hS0 ⊢
    refine takeS_on (i := 0) 24 (v := ?hv51) rfl rfl (by kernel_rfl) (by kernel_rfl) (by kernel_rfl) (fun _ _ _ h => h) (by kernel_rfl) ?hh51 (by exact hS0) ?_
    case hh51 => (intro w' hSw; go_simp; try (with_reducible rfl))
    simp only [Act.put, List.setIfInBounds_toArray, List.set_cons_zero, List.set_cons_succ]
    refine takeS_on (i := 1) 25 (v := ?hv52) rfl rfl (by kernel_rfl) (by kernel_rfl) (by kernel_rfl) (fun _ _ _ h => h) (by kernel_rfl) ?hh52 (by exact hS0) ?_
    case hh52 => (intro w' hSw; obtain ⟨b0, b1, bl, z0, z1, z2, zl, -⟩ := HB.out _ hSw; go_simp; try (with_reducible rfl))
    simp only [Act.put, List.setIfInBounds_toArray, List.set_cons_zero, List.set_cons_succ]
    refine takeS_on (i := 2) 26 (v := ?hv53) rfl rfl (by kernel_rfl) (by kernel_rfl) (by kernel_rfl) (fun _ _ _ h => h) (by kernel_rfl) ?hh53 (by exact hS0) ?_
    case hh53 => (intro w' hSw; go_simp; try (with_reducible rfl))
    simp only [Act.put, List.setIfInBounds_toArray, List.set_cons_zero, List.set_cons_succ]
    refine takeS_on (i := 3) 27 (v := ?hv54) rfl rfl (by kernel_rfl) (by kernel_rfl) (by kernel_rfl) (fun _ _ _ h => h) (by kernel_rfl) ?hh54 (by exact hS0) ?_
    case hh54 => (intro w' hSw; obtain ⟨b0, b1, bl, z0, z1, z2, zl, -⟩ := HB.out _ hSw; go_simp; try (with_reducible rfl))
    simp only [Act.put, List.setIfInBounds_toArray, List.set_cons_zero, List.set_cons_succ]
    refine takeS_on (i := 4) 28 (v := ?hv55) rfl rfl (by kernel_rfl) (by kernel_rfl) (by kernel_rfl) (fun _ _ _ h => h) (by kernel_rfl) ?hh55 (by exact hS0) ?_
    case hh55 => (intro w' hSw; go_simp; try (with_reducible rfl))
    simp only [Act.put, List.setIfInBounds_toArray, List.set_cons_zero, List.set_cons_succ]
    refine takeS_on (i := 5) 29 (v := ?hv56) rfl rfl (by kernel_rfl) (by kernel_rfl) (by kernel_rfl) (fun _ _ _ h => h) (by kernel_rfl) ?hh56 (by exact hS0) ?_
    case hh56 => (intro w' hSw; obtain ⟨b0, b1, bl, z0, z1, z2, zl, -⟩ := HB.out _ hSw; go_simp; try (with_reducible rfl))
    simp only [Act.put, List.setIfInBounds_toArray, List.set_cons_zero, List.set_cons_succ]
    refine takeS_on (i := 6) 5 (v := ?hv57) rfl rfl (by kernel_rfl) (by kernel_rfl) (by kernel_rfl) (fun _ _ _ h => h) (by kernel_rfl) ?hh57 (by exact hS0) ?_
    case hh57 => (intro w' hSw; go_simp; try (with_reducible rfl))
    simp only [Act.put, List.setIfInBounds_toArray, List.set_cons_zero, List.set_cons_succ]
    refine takeS_on (i := 7) 6 (v := ?hv58) rfl rfl (by kernel_rfl) (by kernel_rfl) (by kernel_rfl) (fun _ _ _ h => h) (by kernel_rfl) ?hh58 (by exact hS0) ?_
    case hh58 => (intro w' hSw; go_simp; try (with_reducible rfl))
    simp only [Act.put, List.setIfInBounds_toArray, List.set_cons_zero, List.set_cons_succ]
    refine takeS_on (i := 8) 7 (v := ?hv59) rfl rfl (by kernel_rfl) (by kernel_rfl) (by kernel_rfl) (fun _ _ _ h => h) (by kernel_rfl) ?hh59 (by exact hS0) ?_
    case hh59 => (intro w' hSw; go_simp; try (with_reducible rfl))
    simp only [Act.put, List.setIfInBounds_toArray, List.set_cons_zero, List.set_cons_succ]
    refine wpAnyH_done (by kernel_rfl) ?_ _
    obtain ⟨b0, b1, bl, -, -, -, -, gw⟩ := HB.out _ hS0
    have G0 := hide hS0
    have GW0 := hide gw
    clear hS0 gw
    go_wp2_with fail
    refine (CR.out _ GW0.out).mono ?_
    rintro e w1 ⟨rfl, g1⟩
    have G1 := hide (Gr.trans G0.out g1)
    clear g1 b0 b1 bl
    go_wp2_with fail
    refine (lives_any _).mono ?_
    rintro e w2 ⟨rfl, g2⟩
    have G2 := hide (Gr.trans G1.out g2)
    clear g2
    obtain ⟨b0, b1, bl, -, -, -, -, gw⟩ := HB.out _ G2.out
    go_wp2_with fail
    clear b0 b1 bl gw
    have hS0 := Ch.drew G2.out
    refine wp_region_held_drew (S := Gr A) (by kernel_rfl) (by exact hS0) (fun _ => ?_)
    generalize World.drew _ = V0 at hS0 ⊢
    refine takeS_on (i := 0) 63 (v := ?hv60) rfl rfl (by kernel_rfl) (by kernel_rfl) (by kernel_rfl) (fun _ _ _ h => h) (by kernel_rfl) ?hh60 (by exact hS0) ?_
    case hh60 => (intro w' hSw; go_simp; try (with_reducible rfl))
    simp only [Act.put, List.setIfInBounds_toArray, List.set_cons_zero, List.set_cons_succ]
    refine takeS_on (i := 1) 64 (v := ?hv61) rfl rfl (by kernel_rfl) (by kernel_rfl) (by kernel_rfl) (fun _ _ _ h => h) (by kernel_rfl) ?hh61 (by exact hS0) ?_
    case hh61 => (intro w' hSw; go_simp; try (with_reducible rfl))
    simp only [Act.put, List.setIfInBounds_toArray, List.set_cons_zero, List.set_cons_succ]
    refine takeS_on (i := 2) 65 (v := ?hv62) rfl rfl (by kernel_rfl) (by kernel_rfl) (by kernel_rfl) (fun _ _ _ h => h) (by kernel_rfl) ?hh62 (by exact hS0) ?_
    case hh62 => (intro w' hSw; go_simp; try (with_reducible rfl))
    simp only [Act.put, List.setIfInBounds_toArray, List.set_cons_zero, List.set_cons_succ]
    refine takeS_on (i := 3) 66 (v := ?hv63) rfl rfl (by kernel_rfl) (by kernel_rfl) (by kernel_rfl) (fun _ _ _ h => h) (by kernel_rfl) ?hh63 (by exact hS0) ?_
    case hh63 => (intro w' hSw; go_simp; try (with_reducible rfl))
    simp only [Act.put, List.setIfInBounds_toArray, List.set_cons_zero, List.set_cons_succ]
    refine takeS_on (i := 4) 67 (v := ?hv64) rfl rfl (by kernel_rfl) (by kernel_rfl) (by kernel_rfl) (fun _ _ _ h => h) (by kernel_rfl) ?hh64 (by exact hS0) ?_
    case hh64 => (intro w' hSw; go_simp; try (with_reducible rfl))
    simp only [Act.put, List.setIfInBounds_toArray, List.set_cons_zero, List.set_cons_succ]
    refine takeS_on (i := 5) 68 (v := ?hv65) rfl rfl (by kernel_rfl) (by kernel_rfl) (by kernel_rfl) (fun _ _ _ h => h) (by kernel_rfl) ?hh65 (by exact hS0) ?_
    case hh65 => (intro w' hSw; go_simp; try (with_reducible rfl))
    simp only [Act.put, List.setIfInBounds_toArray, List.set_cons_zero, List.set_cons_succ]
    refine takeS_on (i := 6) 69 (v := ?hv66) rfl rfl (by kernel_rfl) (by kernel_rfl) (by kernel_rfl) (fun _ _ _ h => h) (by kernel_rfl) ?hh66 (by exact hS0) ?_
    case hh66 => (intro w' hSw; go_simp; try (with_reducible rfl))
    simp only [Act.put, List.setIfInBounds_toArray, List.set_cons_zero, List.set_cons_succ]
    refine takeS_on (i := 7) 70 (v := ?hv67) rfl rfl (by kernel_rfl) (by kernel_rfl) (by kernel_rfl) (fun _ _ _ h => h) (by kernel_rfl) ?hh67 (by exact hS0) ?_
    case hh67 => (intro w' hSw; go_simp; try (with_reducible rfl))
    simp only [Act.put, List.setIfInBounds_toArray, List.set_cons_zero, List.set_cons_succ]
    refine takeS_on (i := 8) 71 (v := ?hv68) rfl rfl (by kernel_rfl) (by kernel_rfl) (by kernel_rfl) (fun _ _ _ h => h) (by kernel_rfl) ?hh68 (by exact hS0) ?_
    case hh68 => (intro w' hSw; go_simp; try (with_reducible rfl))
    simp only [Act.put, List.setIfInBounds_toArray, List.set_cons_zero, List.set_cons_succ]
    refine takeS_on (i := 9) 72 (v := ?hv69) rfl rfl (by kernel_rfl) (by kernel_rfl) (by kernel_rfl) (fun _ _ _ h => h) (by kernel_rfl) ?hh69 (by exact hS0) ?_
    case hh69 => (intro w' hSw; go_simp; try (with_reducible rfl))
    simp only [Act.put, List.setIfInBounds_toArray, List.set_cons_zero, List.set_cons_succ]
    refine takeS_on (i := 10) 73 (v := ?hv70) rfl rfl (by kernel_rfl) (by kernel_rfl) (by kernel_rfl) (fun _ _ _ h => h) (by kernel_rfl) ?hh70 (by exact hS0) ?_
    case hh70 => (intro w' hSw; go_simp; try (with_reducible rfl))
    simp only [Act.put, List.setIfInBounds_toArray, List.set_cons_zero, List.set_cons_succ]
    refine takeS_on (i := 11) 74 (v := ?hv71) rfl rfl (by kernel_rfl) (by kernel_rfl) (by kernel_rfl) (fun _ _ _ h => h) (by kernel_rfl) ?hh71 (by exact hS0) ?_
    case hh71 => (intro w' hSw; go_simp; try (with_reducible rfl))
    simp only [Act.put, List.setIfInBounds_toArray, List.set_cons_zero, List.set_cons_succ]
    refine takeS_on (i := 12) 75 (v := ?hv72) rfl rfl (by kernel_rfl) (by kernel_rfl) (by kernel_rfl) (fun _ _ _ h => h) (by kernel_rfl) ?hh72 (by exact hS0) ?_
    case hh72 => (intro w' hSw; go_simp; try (with_reducible rfl))
    simp only [Act.put, List.setIfInBounds_toArray, List.set_cons_zero, List.set_cons_succ]
    refine takeS_on (i := 13) 76 (v := ?hv73) rfl rfl (by kernel_rfl) (by kernel_rfl) (by kernel_rfl) (fun _ _ _ h => h) (by kernel_rfl) ?hh73 (by exact hS0) ?_
    case hh73 => (intro w' hSw; go_simp; try (with_reducible rfl))
    simp only [Act.put, List.setIfInBounds_toArray, List.set_cons_zero, List.set_cons_succ]
    refine takeS_on (i := 14) 77 (v := ?hv74) rfl rfl (by kernel_rfl) (by kernel_rfl) (by kernel_rfl) (fun _ _ _ h => h) (by kernel_rfl) ?hh74 (by exact hS0) ?_
    case hh74 => (intro w' hSw; go_simp; try (with_reducible rfl))
    simp only [Act.put, List.setIfInBounds_toArray, List.set_cons_zero, List.set_cons_succ]
    refine takeS_on (i := 15) 78 (v := ?hv75) rfl rfl (by kernel_rfl) (by kernel_rfl) (by kernel_rfl) (fun _ _ _ h => h) (by kernel_rfl) ?hh75 (by exact hS0) ?_
    case hh75 => (intro w' hSw; go_simp; try (with_reducible rfl))
    simp only [Act.put, List.setIfInBounds_toArray, List.set_cons_zero, List.set_cons_succ]
    refine takeS_on (i := 16) 79 (v := ?hv76) rfl rfl (by kernel_rfl) (by kernel_rfl) (by kernel_rfl) (fun _ _ _ h => h) (by kernel_rfl) ?hh76 (by exact hS0) ?_
    case hh76 => (intro w' hSw; go_simp; try (with_reducible rfl))
    simp only [Act.put, List.setIfInBounds_toArray, List.set_cons_zero, List.set_cons_succ]
    refine takeS_on (i := 17) 80 (v := ?hv77) rfl rfl (by kernel_rfl) (by kernel_rfl) (by kernel_rfl) (fun _ _ _ h => h) (by kernel_rfl) ?hh77 (by exact hS0) ?_
    case hh77 => (intro w' hSw; go_simp; try (with_reducible rfl))
    simp only [Act.put, List.setIfInBounds_toArray, List.set_cons_zero, List.set_cons_succ]
    refine takeS_on (i := 18) 81 (v := ?hv78) rfl rfl (by kernel_rfl) (by kernel_rfl) (by kernel_rfl) (fun _ _ _ h => h) (by kernel_rfl) ?hh78 (by exact hS0) ?_
    case hh78 => (intro w' hSw; go_simp; try (with_reducible rfl))
    simp only [Act.put, List.setIfInBounds_toArray, List.set_cons_zero, List.set_cons_succ]
    refine takeS_on (i := 19) 82 (v := ?hv79) rfl rfl (by kernel_rfl) (by kernel_rfl) (by kernel_rfl) (fun _ _ _ h => h) (by kernel_rfl) ?hh79 (by exact hS0) ?_
    case hh79 => (intro w' hSw; go_simp; try (with_reducible rfl))
    simp only [Act.put, List.setIfInBounds_toArray, List.set_cons_zero, List.set_cons_succ]
    refine takeS_on (i := 20) 83 (v := ?hv80) rfl rfl (by kernel_rfl) (by kernel_rfl) (by kernel_rfl) (fun _ _ _ h => h) (by kernel_rfl) ?hh80 (by exact hS0) ?_
    case hh80 => (intro w' hSw; go_simp; try (with_reducible rfl))
    simp only [Act.put, List.setIfInBounds_toArray, List.set_cons_zero, List.set_cons_succ]
    refine takeS_on (i := 21) 5 (v := ?hv81) rfl rfl (by kernel_rfl) (by kernel_rfl) (by kernel_rfl) (fun _ _ _ h => h) (by kernel_rfl) ?hh81 (by exact hS0) ?_
    case hh81 => (intro w' hSw; go_simp; try (with_reducible rfl))
    simp only [Act.put, List.setIfInBounds_toArray, List.set_cons_zero, List.set_cons_succ]
    refine takeS_on (i := 22) 6 (v := ?hv82) rfl rfl (by kernel_rfl) (by kernel_rfl) (by kernel_rfl) (fun _ _ _ h => h) (by kernel_rfl) ?hh82 (by exact hS0) ?_
    case hh82 => (intro w' hSw; go_simp; try (with_reducible rfl))
    simp only [Act.put, List.setIfInBounds_toArray, List.set_cons_zero, List.set_cons_succ]
    refine takeS_on (i := 23) 7 (v := ?hv83) rfl rfl (by kernel_rfl) (by kernel_rfl) (by kernel_rfl) (fun _ _ _ h => h) (by kernel_rfl) ?hh83 (by exact hS0) ?_
    case hh83 => (intro w' hSw; go_simp; try (with_reducible rfl))
    simp only [Act.put, List.setIfInBounds_toArray, List.set_cons_zero, List.set_cons_succ]
    refine wpAnyH_done (by kernel_rfl) ?_ _
    have G0 := hide hS0
    clear hS0 r1 r2 r3 m1 m2 m3 o1 o2 o3 p1 p2 p3 q1 q2 q3
    clear _hx _hy _hz
    obtain ⟨b0, b1, bl, z0, z1, z2, zl, gw⟩ := HB.out _ G0.out
    go_wp2_with fail
    refine (CE.out _ gw).mono ?_
    rintro e w5a ⟨ao5, cap5, rfl, ow5, g5a⟩
    have L5 := hide (ow5.lst.mono (fun _ _ _ => AnyB.it _) : Le w5a (.slice ao5 m cap5) l)
    have G5a := hide (Gr.trans G0.out g5a)
    clear g5a ow5 b0 b1 bl z0 z1 z2 zl gw
    go_wp2_with fail
    refine (CP.out _ ao5 cap5 L5.out X X hX hX).mono ?_
    rintro e w5b ⟨rfl, g5b⟩
    have G5 := hide (Gr.trans G5a.out g5b)
    clear g5b
    rw [HRF.out X hX]
    obtain ⟨b0, b1, bl, z0, z1, z2, zl, gw⟩ := HB.out _ G5.out
    go_wp2_with fail
    refine (CE.out _ gw).mono ?_
    rintro e w6a ⟨ao6, cap6, rfl, ow6, g6a⟩
    have L6 := hide (ow6.lst.mono (fun _ _ _ => AnyB.it _) : Le w6a (.slice ao6 m cap6) l)
    have G6a := hide (Gr.trans G5.out g6a)
    clear g6a ow6 b0 b1 bl z0 z1 z2 zl gw
    go_wp2_with fail
    refine (CP.out _ ao6 cap6 L6.out X Y hX hY).mono ?_
    rintro e w6b ⟨rfl, g6b⟩
    have G6 := hide (Gr.trans G6a.out g6b)
    clear g6b
    obtain ⟨b0, b1, bl, z0, z1, z2, zl, gw⟩ := HB.out _ G6.out
    go_wp2_with fail
    refine (CE.out _ gw).mono ?_
    rintro e w7a ⟨ao7, cap7, rfl, ow7, g7a⟩
    have L7 := hide (ow7.lst.mono (fun _ _ _ => AnyB.it _) : Le w7a (.slice ao7 m cap7) l)
    have G7a := hide (Gr.trans G6.out g7a)
    clear g7a ow7 b0 b1 bl z0 z1 z2 zl gw
    go_wp2_with fail
    refine (CP.out _ ao7 cap7 L7.out Y Z hY hZ).mono ?_
    rintro e w7b ⟨rfl, g7b⟩
    have G7 := hide (Gr.trans G7a.out g7b)
    clear g7b
    obtain ⟨b0, b1, bl, z0, z1, z2, zl, gw⟩ := HB.out _ G7.out
    go_wp2_with fail
    refine (CE.out _ gw).mono ?_
    rintro e w4a ⟨ao4, cap4, rfl, ow4, g4a⟩
    have L4 := hide (ow4.lst.mono (fun _ _ _ => AnyB.it _) : Le w4a (.slice ao4 m cap4) l)
    have G4a := hide (Gr.trans G7.out g4a)
    clear g4a ow4 b0 b1 bl z0 z1 z2 zl gw
    go_wp2_with fail
    refine (CP.out _ ao4 cap4 L4.out X Z hX hZ).mono ?_
    rintro e w4b ⟨rfl, g4b⟩
    have G4 := hide (Gr.trans G4a.out g4b)
    clear g4b
    obtain ⟨b0, b1, bl, -, -, -, -, gw⟩ := HB.out _ G4.out
    cases e1 : r X Y
    · go_wp2_with fail
      go_loopg [21] m (fun k9 i wr => ∃ (j : Nat), j + k9 = m ∧ i = .int .i64 (j : Int) ∧ Gr A wr)
      case atStart => exact ⟨0, by omega, rfl, G4.out⟩
      case round =>
        obtain ⟨j, hjk, rfl, hg⟩ := hrel
        obtain ⟨V, hV⟩ : ∃ V, V = wr := ⟨_, rfl⟩
        subst hV
        have G := hide hg
        obtain ⟨b0, b1, bl, z0, z1, z2, zl, gw⟩ := HB.out _ hg
        have GW := hide gw
        by_cases hj : j < m
        · have hj' : (j : Int) < (m : Int) := by omega
          have hj0 : (0 : Int) ≤ (j : Int) := by omega
          have hjm : (j : Int) < 8796093022208 := by omega
          have hjl : j < l.length := by rw [← HM.out]; exact hj
          have hjx : l[j]? = some l[j] := List.getElem?_eq_getElem hjl
          have HR := hide (HED.out l[j] (List.getElem_mem hjl))
          have hok := egB_iff.1 (HO.out l[j] (List.getElem_mem hjl))
          obtain ⟨g, o, ea, gl, gc, x0, x1⟩ := eg_at (HL.out.gr gw) hjx
          have HBJ := hide (show ∀ X, Gr A X → (X.cell? ⟨w.heap.size, 1, none⟩ = some (.slice (some ⟨g, o, none⟩) m c) ∧ w.heap.size < X.heap.size) ∧ X.cell? ⟨g, o + j * 2, none⟩ = some (.int .i64 l[j].f) ∧ X.cell? ⟨g, o + j * 2 + 1, none⟩ = some (.int .i64 l[j].t) ∧ g < X.heap.size from fun X k => by
            obtain ⟨q0, q1, ql, -, -, -, -, qw⟩ := HB.out X k
            obtain ⟨g2, o2, e2, a1, a2, a3, a4⟩ := eg_at (HL.out.gr qw) hjx
            rw [ea] at e2
            injection e2 with e2
            injection e2 with e2 e3
            subst e2 e3
            exact ⟨⟨by rw [← ea]; exact q1, ql⟩, a3, a4, a1⟩)
          have CEJ := hide (show ∀ X, Gr w X → Calls Try.prog 10 #[.slice (some ⟨g, o, none⟩) m c] X fun e w' => ∃ ao cap, e = .returned (.slice ao m cap) ∧ Ow eE 2 42 X.heap.size w' (.slice ao m cap) l ∧ Gr X w' by rw [← ea]; exact CE.out)
          rw [ea] at b1
          clear x0 x1 hg gw ea
          generalize l[j] = x9 at *
          obtain ⟨xf, xt⟩ := x9
          simp only at HR hok HBJ
          obtain ⟨f, rfl⟩ : ∃ f : Nat, xf = (f : Int) := ⟨xf.toNat, by omega⟩
          obtain ⟨t, rfl⟩ : ∃ t : Nat, xt = (t : Int) := ⟨xt.toNat, by omega⟩
          have hfN : f < N := by omega
          have htN : t < N := by omega
          have HR2 := hide (show r f t = true from HR.out)
          clear hok hjx hjl HR
          go_wp2_with fail
          have hS0 : Gr A (World.drew V) := Ch.drew G.out
          clear b0 b1 bl z0 z1 z2 zl
          refine wp_region_held_drew (S := Gr A) (by kernel_rfl) (by exact hS0) (fun _ => ?_)
          generalize World.drew _ = V0 at hS0 ⊢
          refine takeS_on (i := 0) 148 (v := ?hv84) rfl rfl (by kernel_rfl) (by kernel_rfl) (by kernel_rfl) (fun _ _ _ h => h) (by kernel_rfl) ?hh84 (by exact hS0) ?_
          case hh84 => (intro w' hSw; go_simp; try (with_reducible rfl))
          simp only [Act.put, List.setIfInBounds_toArray, List.set_cons_zero, List.set_cons_succ]
          refine takeS_on (i := 1) 149 (v := ?hv85) rfl rfl (by kernel_rfl) (by kernel_rfl) (by kernel_rfl) (fun _ _ _ h => h) (by kernel_rfl) ?hh85 (by exact hS0) ?_
          case hh85 => (intro w' hSw; go_simp; try (with_reducible rfl))
          simp only [Act.put, List.setIfInBounds_toArray, List.set_cons_zero, List.set_cons_succ]
          refine takeS_on (i := 2) 150 (v := ?hv86) rfl rfl (by kernel_rfl) (by kernel_rfl) (by kernel_rfl) (fun _ _ _ h => h) (by kernel_rfl) ?hh86 (by exact hS0) ?_
          case hh86 => (intro w' hSw; obtain ⟨⟨b1, bl⟩, x0, x1, gl⟩ := HBJ.out _ hSw; go_simp; try (with_reducible rfl))
          simp only [Act.put, List.setIfInBounds_toArray, List.set_cons_zero, List.set_cons_succ]
          refine takeS_on (i := 4) 152 (v := ?hv87) rfl rfl (by kernel_rfl) (by kernel_rfl) (by kernel_rfl) (fun _ _ _ h => h) (by kernel_rfl) ?hh87 (by exact hS0) ?_
          case hh87 => (intro w' hSw; go_simp; try (with_reducible rfl))
          simp only [Act.put, List.setIfInBounds_toArray, List.set_cons_zero, List.set_cons_succ]
          refine takeS_on (i := 5) 153 (v := ?hv88) rfl rfl (by kernel_rfl) (by kernel_rfl) (by kernel_rfl) (fun _ _ _ h => h) (by kernel_rfl) ?hh88 (by exact hS0) ?_
          case hh88 => (intro w' hSw; obtain ⟨⟨b1, bl⟩, x0, x1, gl⟩ := HBJ.out _ hSw; go_simp; try (with_reducible rfl))
          simp only [Act.put, List.setIfInBounds_toArray, List.set_cons_zero, List.set_cons_succ]
          refine takeS_on (i := 6) 154 (v := ?hv89) rfl rfl (by kernel_rfl) (by kernel_rfl) (by kernel_rfl) (fun _ _ _ h => h) (by kernel_rfl) ?hh89 (by exact hS0) ?_
          case hh89 => (intro w' hSw; go_simp; try (with_reducible rfl))
          simp only [Act.put, List.setIfInBounds_toArray, List.set_cons_zero, List.set_cons_succ]
          refine takeS_on (i := 7) 155 (v := ?hv90) rfl rfl (by kernel_rfl) (by kernel_rfl) (by kernel_rfl) (fun _ _ _ h => h) (by kernel_rfl) ?hh90 (by exact hS0) ?_
          case hh90 => (intro w' hSw; go_simp; try (with_reducible rfl))
          simp only [Act.put, List.setIfInBounds_toArray, List.set_cons_zero, List.set_cons_succ]
          refine takeS_on (i := 8) 156 (v := ?hv91) rfl rfl (by kernel_rfl) (by kernel_rfl) (by kernel_rfl) (fun _ _ _ h => h) (by kernel_rfl) ?hh91 (by exact hS0) ?_
          case hh91 => (intro w' hSw; go_simp; try (with_reducible rfl))
          simp only [Act.put, List.setIfInBounds_toArray, List.set_cons_zero, List.set_cons_succ]
          refine takeS_on (i := 9) 157 (v := ?hv92) rfl rfl (by kernel_rfl) (by kernel_rfl) (by kernel_rfl) (fun _ _ _ h => h) (by kernel_rfl) ?hh92 (by exact hS0) ?_
          case hh92 => (intro w' hSw; obtain ⟨⟨b1, bl⟩, x0, x1, gl⟩ := HBJ.out _ hSw; go_simp; try (with_reducible rfl))
          simp only [Act.put, List.setIfInBounds_toArray, List.set_cons_zero, List.set_cons_succ]
          refine takeS_on (i := 10) 158 (v := ?hv93) rfl rfl (by kernel_rfl) (by kernel_rfl) (by kernel_rfl) (fun _ _ _ h => h) (by kernel_rfl) ?hh93 (by exact hS0) ?_
          case hh93 => (intro w' hSw; go_simp; try (with_reducible rfl))
          simp only [Act.put, List.setIfInBounds_toArray, List.set_cons_zero, List.set_cons_succ]
          refine takeS_on (i := 11) 159 (v := ?hv94) rfl rfl (by kernel_rfl) (by kernel_rfl) (by kernel_rfl) (fun _ _ _ h => h) (by kernel_rfl) ?hh94 (by exact hS0) ?_
          case hh94 => (intro w' hSw; obtain ⟨⟨b1, bl⟩, x0, x1, gl⟩ := HBJ.out _ hSw; go_simp; try (with_reducible rfl))
          simp only [Act.put, List.setIfInBounds_toArray, List.set_cons_zero, List.set_cons_succ]
          refine takeS_on (i := 12) 160 (v := ?hv95) rfl rfl (by kernel_rfl) (by kernel_rfl) (by kernel_rfl) (fun _ _ _ h => h) (by kernel_rfl) ?hh95 (by exact hS0) ?_
          case hh95 => (intro w' hSw; go_simp; try (with_reducible rfl))
          simp only [Act.put, List.setIfInBounds_toArray, List.set_cons_zero, List.set_cons_succ]
          refine takeS_on (i := 13) 161 (v := ?hv96) rfl rfl (by kernel_rfl) (by kernel_rfl) (by kernel_rfl) (fun _ _ _ h => h) (by kernel_rfl) ?hh96 (by exact hS0) ?_
          case hh96 => (intro w' hSw; go_simp; try (with_reducible rfl))
          simp only [Act.put, List.setIfInBounds_toArray, List.set_cons_zero, List.set_cons_succ]
          refine takeS_on (i := 14) 162 (v := ?hv97) rfl rfl (by kernel_rfl) (by kernel_rfl) (by kernel_rfl) (fun _ _ _ h => h) (by kernel_rfl) ?hh97 (by exact hS0) ?_
          case hh97 => (intro w' hSw; go_simp; try (with_reducible rfl))
          simp only [Act.put, List.setIfInBounds_toArray, List.set_cons_zero, List.set_cons_succ]
          refine takeS_on (i := 15) 163 (v := ?hv98) rfl rfl (by kernel_rfl) (by kernel_rfl) (by kernel_rfl) (fun _ _ _ h => h) (by kernel_rfl) ?hh98 (by exact hS0) ?_
          case hh98 => (intro w' hSw; obtain ⟨⟨b1, bl⟩, x0, x1, gl⟩ := HBJ.out _ hSw; go_simp; try (with_reducible rfl))
          simp only [Act.put, List.setIfInBounds_toArray, List.set_cons_zero, List.set_cons_succ]
          refine wpAnyH_ready (rs := [3]) (by kernel_rfl) (by simp) (AllReadyH.cons rfl (fun K hK => ?_) AllReadyH.nil)
          go_simp
          refine (CEJ.out _ (HB.out _ hS0).2.2.2.2.2.2.2).mono ?_
          rintro e wa ⟨ao, cap, rfl, ow, ga⟩
          have LA := hide (ow.lst.mono (fun _ _ _ => AnyB.it _) : Le wa (.slice ao m cap) l)
          have hS1 := Gr.trans hS0 ga
          clear ga ow
          refine hK.out _ _ (by exact hS1) (fun _ => ?_)
          clear hK K
          refine wpAnyH_ready (rs := [16]) (by kernel_rfl) (by simp) (AllReadyH.cons rfl (fun K hK => ?_) AllReadyH.nil)
          go_simp
          refine (CP.out _ ao cap LA.out f t hfN htN).mono ?_
          rintro e wb ⟨rfl, gb⟩
          rw [HR2.out]
          have hS2 := Gr.trans hS1 gb
          clear gb LA
          refine hK.out _ _ (by exact hS2) (fun _ => ?_)
          clear hK K
          refine takeS_on (i := 17) 147 (v := ?hv99) rfl rfl (by kernel_rfl) (by kernel_rfl) (by kernel_rfl) (fun _ _ _ h => h) (by kernel_rfl) ?hh99 (by exact hS2) ?_
          case hh99 => (intro w' hSw; go_simp; try (with_reducible rfl))
          simp only [Act.put, List.setIfInBounds_toArray, List.set_cons_zero, List.set_cons_succ]
          refine takeS_on (i := 18) 165 (v := ?hv100) rfl rfl (by kernel_rfl) (by kernel_rfl) (by kernel_rfl) (fun _ _ _ h => h) (by kernel_rfl) ?hh100 (by exact hS2) ?_
          case hh100 => (intro w' hSw; go_simp; try (with_reducible rfl))
          simp only [Act.put, List.setIfInBounds_toArray, List.set_cons_zero, List.set_cons_succ]
          refine takeS_on (i := 19) 166 (v := ?hv101) rfl rfl (by kernel_rfl) (by kernel_rfl) (by kernel_rfl) (fun _ _ _ h => h) (by kernel_rfl) ?hh101 (by exact hS2) ?_
          case hh101 => (intro w' hSw; go_simp; try (with_reducible rfl))
          simp only [Act.put, List.setIfInBounds_toArray, List.set_cons_zero, List.set_cons_succ]
          refine takeS_on (i := 20) 22 (v := ?hv102) rfl rfl (by kernel_rfl) (by kernel_rfl) (by kernel_rfl) (fun _ _ _ h => h) (by kernel_rfl) ?hh102 (by exact hS2) ?_
          case hh102 => (intro w' hSw; go_simp; try (with_reducible rfl))
          simp only [Act.put, List.setIfInBounds_toArray, List.set_cons_zero, List.set_cons_succ]
          refine takeS_on (i := 21) 23 (v := ?hv103) rfl rfl (by kernel_rfl) (by kernel_rfl) (by kernel_rfl) (fun _ _ _ h => h) (by kernel_rfl) ?hh103 (by exact hS2) ?_
          case hh103 => (intro w' hSw; go_simp; try (with_reducible rfl))
          simp only [Act.put, List.setIfInBounds_toArray, List.set_cons_zero, List.set_cons_succ]
          refine wpAnyH_done (by kernel_rfl) ?_ _
          have G9 := hide hS2
          clear hS0 hS1 hS2
          go_wp2
          go_roundg (m - (j + 1))
          case measure => omega
          case rel =>
            refine ⟨j + 1, by omega, ?_, G9.out⟩
            first | with_reducible rfl | simp
        · have hj' : ¬ ((j : Int) < (m : Int)) := by omega
          clear hg gw
          go_wp2
          go_ret
          exact ⟨rfl, GW.out⟩
    · cases e3 : r Y Z
      · go_wp2_with fail
        go_loopg [21] m (fun k9 i wr => ∃ (j : Nat), j + k9 = m ∧ i = .int .i64 (j : Int) ∧ Gr A wr)
        case atStart => exact ⟨0, by omega, rfl, G4.out⟩
        case round =>
          obtain ⟨j, hjk, rfl, hg⟩ := hrel
          obtain ⟨V, hV⟩ : ∃ V, V = wr := ⟨_, rfl⟩
          subst hV
          have G := hide hg
          obtain ⟨b0, b1, bl, z0, z1, z2, zl, gw⟩ := HB.out _ hg
          have GW := hide gw
          by_cases hj : j < m
          · have hj' : (j : Int) < (m : Int) := by omega
            have hj0 : (0 : Int) ≤ (j : Int) := by omega
            have hjm : (j : Int) < 8796093022208 := by omega
            have hjl : j < l.length := by rw [← HM.out]; exact hj
            have hjx : l[j]? = some l[j] := List.getElem?_eq_getElem hjl
            have HR := hide (HED.out l[j] (List.getElem_mem hjl))
            have hok := egB_iff.1 (HO.out l[j] (List.getElem_mem hjl))
            obtain ⟨g, o, ea, gl, gc, x0, x1⟩ := eg_at (HL.out.gr gw) hjx
            have HBJ := hide (show ∀ X, Gr A X → (X.cell? ⟨w.heap.size, 1, none⟩ = some (.slice (some ⟨g, o, none⟩) m c) ∧ w.heap.size < X.heap.size) ∧ X.cell? ⟨g, o + j * 2, none⟩ = some (.int .i64 l[j].f) ∧ X.cell? ⟨g, o + j * 2 + 1, none⟩ = some (.int .i64 l[j].t) ∧ g < X.heap.size from fun X k => by
              obtain ⟨q0, q1, ql, -, -, -, -, qw⟩ := HB.out X k
              obtain ⟨g2, o2, e2, a1, a2, a3, a4⟩ := eg_at (HL.out.gr qw) hjx
              rw [ea] at e2
              injection e2 with e2
              injection e2 with e2 e3
              subst e2 e3
              exact ⟨⟨by rw [← ea]; exact q1, ql⟩, a3, a4, a1⟩)
            have CEJ := hide (show ∀ X, Gr w X → Calls Try.prog 10 #[.slice (some ⟨g, o, none⟩) m c] X fun e w' => ∃ ao cap, e = .returned (.slice ao m cap) ∧ Ow eE 2 42 X.heap.size w' (.slice ao m cap) l ∧ Gr X w' by rw [← ea]; exact CE.out)
            rw [ea] at b1
            clear x0 x1 hg gw ea
            generalize l[j] = x9 at *
            obtain ⟨xf, xt⟩ := x9
            simp only at HR hok HBJ
            obtain ⟨f, rfl⟩ : ∃ f : Nat, xf = (f : Int) := ⟨xf.toNat, by omega⟩
            obtain ⟨t, rfl⟩ : ∃ t : Nat, xt = (t : Int) := ⟨xt.toNat, by omega⟩
            have hfN : f < N := by omega
            have htN : t < N := by omega
            have HR2 := hide (show r f t = true from HR.out)
            clear hok hjx hjl HR
            go_wp2_with fail
            have hS0 : Gr A (World.drew V) := Ch.drew G.out
            clear b0 b1 bl z0 z1 z2 zl
            refine wp_region_held_drew (S := Gr A) (by kernel_rfl) (by exact hS0) (fun _ => ?_)
            generalize World.drew _ = V0 at hS0 ⊢
            refine takeS_on (i := 0) 148 (v := ?hv104) rfl rfl (by kernel_rfl) (by kernel_rfl) (by kernel_rfl) (fun _ _ _ h => h) (by kernel_rfl) ?hh104 (by exact hS0) ?_
            case hh104 => (intro w' hSw; go_simp; try (with_reducible rfl))
            simp only [Act.put, List.setIfInBounds_toArray, List.set_cons_zero, List.set_cons_succ]
            refine takeS_on (i := 1) 149 (v := ?hv105) rfl rfl (by kernel_rfl) (by kernel_rfl) (by kernel_rfl) (fun _ _ _ h => h) (by kernel_rfl) ?hh105 (by exact hS0) ?_
            case hh105 => (intro w' hSw; go_simp; try (with_reducible rfl))
            simp only [Act.put, List.setIfInBounds_toArray, List.set_cons_zero, List.set_cons_succ]
            refine takeS_on (i := 2) 150 (v := ?hv106) rfl rfl (by kernel_rfl) (by kernel_rfl) (by kernel_rfl) (fun _ _ _ h => h) (by kernel_rfl) ?hh106 (by exact hS0) ?_
            case hh106 => (intro w' hSw; obtain ⟨⟨b1, bl⟩, x0, x1, gl⟩ := HBJ.out _ hSw; go_simp; try (with_reducible rfl))
            simp only [Act.put, List.setIfInBounds_toArray, List.set_cons_zero, List.set_cons_succ]
            refine takeS_on (i := 4) 152 (v := ?hv107) rfl rfl (by kernel_rfl) (by kernel_rfl) (by kernel_rfl) (fun _ _ _ h => h) (by kernel_rfl) ?hh107 (by exact hS0) ?_
            case hh107 => (intro w' hSw; go_simp; try (with_reducible rfl))
            simp only [Act.put, List.setIfInBounds_toArray, List.set_cons_zero, List.set_cons_succ]
            refine takeS_on (i := 5) 153 (v := ?hv108) rfl rfl (by kernel_rfl) (by kernel_rfl) (by kernel_rfl) (fun _ _ _ h => h) (by kernel_rfl) ?hh108 (by exact hS0) ?_
            case hh108 => (intro w' hSw; obtain ⟨⟨b1, bl⟩, x0, x1, gl⟩ := HBJ.out _ hSw; go_simp; try (with_reducible rfl))
            simp only [Act.put, List.setIfInBounds_toArray, List.set_cons_zero, List.set_cons_succ]
            refine takeS_on (i := 6) 154 (v := ?hv109) rfl rfl (by kernel_rfl) (by kernel_rfl) (by kernel_rfl) (fun _ _ _ h => h) (by kernel_rfl) ?hh109 (by exact hS0) ?_
            case hh109 => (intro w' hSw; go_simp; try (with_reducible rfl))
            simp only [Act.put, List.setIfInBounds_toArray, List.set_cons_zero, List.set_cons_succ]
            refine takeS_on (i := 7) 155 (v := ?hv110) rfl rfl (by kernel_rfl) (by kernel_rfl) (by kernel_rfl) (fun _ _ _ h => h) (by kernel_rfl) ?hh110 (by exact hS0) ?_
            case hh110 => (intro w' hSw; go_simp; try (with_reducible rfl))
            simp only [Act.put, List.setIfInBounds_toArray, List.set_cons_zero, List.set_cons_succ]
            refine takeS_on (i := 8) 156 (v := ?hv111) rfl rfl (by kernel_rfl) (by kernel_rfl) (by kernel_rfl) (fun _ _ _ h => h) (by kernel_rfl) ?hh111 (by exact hS0) ?_
            case hh111 => (intro w' hSw; go_simp; try (with_reducible rfl))
            simp only [Act.put, List.setIfInBounds_toArray, List.set_cons_zero, List.set_cons_succ]
            refine takeS_on (i := 9) 157 (v := ?hv112) rfl rfl (by kernel_rfl) (by kernel_rfl) (by kernel_rfl) (fun _ _ _ h => h) (by kernel_rfl) ?hh112 (by exact hS0) ?_
            case hh112 => (intro w' hSw; obtain ⟨⟨b1, bl⟩, x0, x1, gl⟩ := HBJ.out _ hSw; go_simp; try (with_reducible rfl))
            simp only [Act.put, List.setIfInBounds_toArray, List.set_cons_zero, List.set_cons_succ]
            refine takeS_on (i := 10) 158 (v := ?hv113) rfl rfl (by kernel_rfl) (by kernel_rfl) (by kernel_rfl) (fun _ _ _ h => h) (by kernel_rfl) ?hh113 (by exact hS0) ?_
            case hh113 => (intro w' hSw; go_simp; try (with_reducible rfl))
            simp only [Act.put, List.setIfInBounds_toArray, List.set_cons_zero, List.set_cons_succ]
            refine takeS_on (i := 11) 159 (v := ?hv114) rfl rfl (by kernel_rfl) (by kernel_rfl) (by kernel_rfl) (fun _ _ _ h => h) (by kernel_rfl) ?hh114 (by exact hS0) ?_
            case hh114 => (intro w' hSw; obtain ⟨⟨b1, bl⟩, x0, x1, gl⟩ := HBJ.out _ hSw; go_simp; try (with_reducible rfl))
            simp only [Act.put, List.setIfInBounds_toArray, List.set_cons_zero, List.set_cons_succ]
            refine takeS_on (i := 12) 160 (v := ?hv115) rfl rfl (by kernel_rfl) (by kernel_rfl) (by kernel_rfl) (fun _ _ _ h => h) (by kernel_rfl) ?hh115 (by exact hS0) ?_
            case hh115 => (intro w' hSw; go_simp; try (with_reducible rfl))
            simp only [Act.put, List.setIfInBounds_toArray, List.set_cons_zero, List.set_cons_succ]
            refine takeS_on (i := 13) 161 (v := ?hv116) rfl rfl (by kernel_rfl) (by kernel_rfl) (by kernel_rfl) (fun _ _ _ h => h) (by kernel_rfl) ?hh116 (by exact hS0) ?_
            case hh116 => (intro w' hSw; go_simp; try (with_reducible rfl))
            simp only [Act.put, List.setIfInBounds_toArray, List.set_cons_zero, List.set_cons_succ]
            refine takeS_on (i := 14) 162 (v := ?hv117) rfl rfl (by kernel_rfl) (by kernel_rfl) (by kernel_rfl) (fun _ _ _ h => h) (by kernel_rfl) ?hh117 (by exact hS0) ?_
            case hh117 => (intro w' hSw; go_simp; try (with_reducible rfl))
            simp only [Act.put, List.setIfInBounds_toArray, List.set_cons_zero, List.set_cons_succ]
            refine takeS_on (i := 15) 163 (v := ?hv118) rfl rfl (by kernel_rfl) (by kernel_rfl) (by kernel_rfl) (fun _ _ _ h => h) (by kernel_rfl) ?hh118 (by exact hS0) ?_
            case hh118 => (intro w' hSw; obtain ⟨⟨b1, bl⟩, x0, x1, gl⟩ := HBJ.out _ hSw; go_simp; try (with_reducible rfl))
            simp only [Act.put, List.setIfInBounds_toArray, List.set_cons_zero, List.set_cons_succ]
            refine wpAnyH_ready (rs := [3]) (by kernel_rfl) (by simp) (AllReadyH.cons rfl (fun K hK => ?_) AllReadyH.nil)
            go_simp
            refine (CEJ.out _ (HB.out _ hS0).2.2.2.2.2.2.2).mono ?_
            rintro e wa ⟨ao, cap, rfl, ow, ga⟩
            have LA := hide (ow.lst.mono (fun _ _ _ => AnyB.it _) : Le wa (.slice ao m cap) l)
            have hS1 := Gr.trans hS0 ga
            clear ga ow
            refine hK.out _ _ (by exact hS1) (fun _ => ?_)
            clear hK K
            refine wpAnyH_ready (rs := [16]) (by kernel_rfl) (by simp) (AllReadyH.cons rfl (fun K hK => ?_) AllReadyH.nil)
            go_simp
            refine (CP.out _ ao cap LA.out f t hfN htN).mono ?_
            rintro e wb ⟨rfl, gb⟩
            rw [HR2.out]
            have hS2 := Gr.trans hS1 gb
            clear gb LA
            refine hK.out _ _ (by exact hS2) (fun _ => ?_)
            clear hK K
            refine takeS_on (i := 17) 147 (v := ?hv119) rfl rfl (by kernel_rfl) (by kernel_rfl) (by kernel_rfl) (fun _ _ _ h => h) (by kernel_rfl) ?hh119 (by exact hS2) ?_
            case hh119 => (intro w' hSw; go_simp; try (with_reducible rfl))
            simp only [Act.put, List.setIfInBounds_toArray, List.set_cons_zero, List.set_cons_succ]
            refine takeS_on (i := 18) 165 (v := ?hv120) rfl rfl (by kernel_rfl) (by kernel_rfl) (by kernel_rfl) (fun _ _ _ h => h) (by kernel_rfl) ?hh120 (by exact hS2) ?_
            case hh120 => (intro w' hSw; go_simp; try (with_reducible rfl))
            simp only [Act.put, List.setIfInBounds_toArray, List.set_cons_zero, List.set_cons_succ]
            refine takeS_on (i := 19) 166 (v := ?hv121) rfl rfl (by kernel_rfl) (by kernel_rfl) (by kernel_rfl) (fun _ _ _ h => h) (by kernel_rfl) ?hh121 (by exact hS2) ?_
            case hh121 => (intro w' hSw; go_simp; try (with_reducible rfl))
            simp only [Act.put, List.setIfInBounds_toArray, List.set_cons_zero, List.set_cons_succ]
            refine takeS_on (i := 20) 22 (v := ?hv122) rfl rfl (by kernel_rfl) (by kernel_rfl) (by kernel_rfl) (fun _ _ _ h => h) (by kernel_rfl) ?hh122 (by exact hS2) ?_
            case hh122 => (intro w' hSw; go_simp; try (with_reducible rfl))
            simp only [Act.put, List.setIfInBounds_toArray, List.set_cons_zero, List.set_cons_succ]
            refine takeS_on (i := 21) 23 (v := ?hv123) rfl rfl (by kernel_rfl) (by kernel_rfl) (by kernel_rfl) (fun _ _ _ h => h) (by kernel_rfl) ?hh123 (by exact hS2) ?_
            case hh123 => (intro w' hSw; go_simp; try (with_reducible rfl))
            simp only [Act.put, List.setIfInBounds_toArray, List.set_cons_zero, List.set_cons_succ]
            refine wpAnyH_done (by kernel_rfl) ?_ _
            have G9 := hide hS2
            clear hS0 hS1 hS2
            go_wp2
            go_roundg (m - (j + 1))
            case measure => omega
            case rel =>
              refine ⟨j + 1, by omega, ?_, G9.out⟩
              first | with_reducible rfl | simp
          · have hj' : ¬ ((j : Int) < (m : Int)) := by omega
            clear hg gw
            go_wp2
            go_ret
            exact ⟨rfl, GW.out⟩
      · rw [HTR.out X Y Z hX hY e1 e3]
        go_wp2_with fail
        go_loopg [21] m (fun k9 i wr => ∃ (j : Nat), j + k9 = m ∧ i = .int .i64 (j : Int) ∧ Gr A wr)
        case atStart => exact ⟨0, by omega, rfl, G4.out⟩
        case round =>
          obtain ⟨j, hjk, rfl, hg⟩ := hrel
          obtain ⟨V, hV⟩ : ∃ V, V = wr := ⟨_, rfl⟩
          subst hV
          have G := hide hg
          obtain ⟨b0, b1, bl, z0, z1, z2, zl, gw⟩ := HB.out _ hg
          have GW := hide gw
          by_cases hj : j < m
          · have hj' : (j : Int) < (m : Int) := by omega
            have hj0 : (0 : Int) ≤ (j : Int) := by omega
            have hjm : (j : Int) < 8796093022208 := by omega
            have hjl : j < l.length := by rw [← HM.out]; exact hj
            have hjx : l[j]? = some l[j] := List.getElem?_eq_getElem hjl
            have HR := hide (HED.out l[j] (List.getElem_mem hjl))
            have hok := egB_iff.1 (HO.out l[j] (List.getElem_mem hjl))
            obtain ⟨g, o, ea, gl, gc, x0, x1⟩ := eg_at (HL.out.gr gw) hjx
            have HBJ := hide (show ∀ X, Gr A X → (X.cell? ⟨w.heap.size, 1, none⟩ = some (.slice (some ⟨g, o, none⟩) m c) ∧ w.heap.size < X.heap.size) ∧ X.cell? ⟨g, o + j * 2, none⟩ = some (.int .i64 l[j].f) ∧ X.cell? ⟨g, o + j * 2 + 1, none⟩ = some (.int .i64 l[j].t) ∧ g < X.heap.size from fun X k => by
              obtain ⟨q0, q1, ql, -, -, -, -, qw⟩ := HB.out X k
              obtain ⟨g2, o2, e2, a1, a2, a3, a4⟩ := eg_at (HL.out.gr qw) hjx
              rw [ea] at e2
              injection e2 with e2
              injection e2 with e2 e3
              subst e2 e3
              exact ⟨⟨by rw [← ea]; exact q1, ql⟩, a3, a4, a1⟩)
            have CEJ := hide (show ∀ X, Gr w X → Calls Try.prog 10 #[.slice (some ⟨g, o, none⟩) m c] X fun e w' => ∃ ao cap, e = .returned (.slice ao m cap) ∧ Ow eE 2 42 X.heap.size w' (.slice ao m cap) l ∧ Gr X w' by rw [← ea]; exact CE.out)
            rw [ea] at b1
            clear x0 x1 hg gw ea
            generalize l[j] = x9 at *
            obtain ⟨xf, xt⟩ := x9
            simp only at HR hok HBJ
            obtain ⟨f, rfl⟩ : ∃ f : Nat, xf = (f : Int) := ⟨xf.toNat, by omega⟩
            obtain ⟨t, rfl⟩ : ∃ t : Nat, xt = (t : Int) := ⟨xt.toNat, by omega⟩
            have hfN : f < N := by omega
            have htN : t < N := by omega
            have HR2 := hide (show r f t = true from HR.out)
            clear hok hjx hjl HR
            go_wp2_with fail
            have hS0 : Gr A (World.drew V) := Ch.drew G.out
            clear b0 b1 bl z0 z1 z2 zl
            refine wp_region_held_drew (S := Gr A) (by kernel_rfl) (by exact hS0) (fun _ => ?_)
            generalize World.drew _ = V0 at hS0 ⊢
            refine takeS_on (i := 0) 148 (v := ?hv124) rfl rfl (by kernel_rfl) (by kernel_rfl) (by kernel_rfl) (fun _ _ _ h => h) (by kernel_rfl) ?hh124 (by exact hS0) ?_
            case hh124 => (intro w' hSw; go_simp; try (with_reducible rfl))
            simp only [Act.put, List.setIfInBounds_toArray, List.set_cons_zero, List.set_cons_succ]
            refine takeS_on (i := 1) 149 (v := ?hv125) rfl rfl (by kernel_rfl) (by kernel_rfl) (by kernel_rfl) (fun _ _ _ h => h) (by kernel_rfl) ?hh125 (by exact hS0) ?_
            case hh125 => (intro w' hSw; go_simp; try (with_reducible rfl))
            simp only [Act.put, List.setIfInBounds_toArray, List.set_cons_zero, List.set_cons_succ]
            refine takeS_on (i := 2) 150 (v := ?hv126) rfl rfl (by kernel_rfl) (by kernel_rfl) (by kernel_rfl) (fun _ _ _ h => h) (by kernel_rfl) ?hh126 (by exact hS0) ?_
            case hh126 => (intro w' hSw; obtain ⟨⟨b1, bl⟩, x0, x1, gl⟩ := HBJ.out _ hSw; go_simp; try (with_reducible rfl))
            simp only [Act.put, List.setIfInBounds_toArray, List.set_cons_zero, List.set_cons_succ]
            refine takeS_on (i := 4) 152 (v := ?hv127) rfl rfl (by kernel_rfl) (by kernel_rfl) (by kernel_rfl) (fun _ _ _ h => h) (by kernel_rfl) ?hh127 (by exact hS0) ?_
            case hh127 => (intro w' hSw; go_simp; try (with_reducible rfl))
            simp only [Act.put, List.setIfInBounds_toArray, List.set_cons_zero, List.set_cons_succ]
            refine takeS_on (i := 5) 153 (v := ?hv128) rfl rfl (by kernel_rfl) (by kernel_rfl) (by kernel_rfl) (fun _ _ _ h => h) (by kernel_rfl) ?hh128 (by exact hS0) ?_
            case hh128 => (intro w' hSw; obtain ⟨⟨b1, bl⟩, x0, x1, gl⟩ := HBJ.out _ hSw; go_simp; try (with_reducible rfl))
            simp only [Act.put, List.setIfInBounds_toArray, List.set_cons_zero, List.set_cons_succ]
            refine takeS_on (i := 6) 154 (v := ?hv129) rfl rfl (by kernel_rfl) (by kernel_rfl) (by kernel_rfl) (fun _ _ _ h => h) (by kernel_rfl) ?hh129 (by exact hS0) ?_
            case hh129 => (intro w' hSw; go_simp; try (with_reducible rfl))
            simp only [Act.put, List.setIfInBounds_toArray, List.set_cons_zero, List.set_cons_succ]
            refine takeS_on (i := 7) 155 (v := ?hv130) rfl rfl (by kernel_rfl) (by kernel_rfl) (by kernel_rfl) (fun _ _ _ h => h) (by kernel_rfl) ?hh130 (by exact hS0) ?_
            case hh130 => (intro w' hSw; go_simp; try (with_reducible rfl))
            simp only [Act.put, List.setIfInBounds_toArray, List.set_cons_zero, List.set_cons_succ]
            refine takeS_on (i := 8) 156 (v := ?hv131) rfl rfl (by kernel_rfl) (by kernel_rfl) (by kernel_rfl) (fun _ _ _ h => h) (by kernel_rfl) ?hh131 (by exact hS0) ?_
            case hh131 => (intro w' hSw; go_simp; try (with_reducible rfl))
            simp only [Act.put, List.setIfInBounds_toArray, List.set_cons_zero, List.set_cons_succ]
            refine takeS_on (i := 9) 157 (v := ?hv132) rfl rfl (by kernel_rfl) (by kernel_rfl) (by kernel_rfl) (fun _ _ _ h => h) (by kernel_rfl) ?hh132 (by exact hS0) ?_
            case hh132 => (intro w' hSw; obtain ⟨⟨b1, bl⟩, x0, x1, gl⟩ := HBJ.out _ hSw; go_simp; try (with_reducible rfl))
            simp only [Act.put, List.setIfInBounds_toArray, List.set_cons_zero, List.set_cons_succ]
            refine takeS_on (i := 10) 158 (v := ?hv133) rfl rfl (by kernel_rfl) (by kernel_rfl) (by kernel_rfl) (fun _ _ _ h => h) (by kernel_rfl) ?hh133 (by exact hS0) ?_
            case hh133 => (intro w' hSw; go_simp; try (with_reducible rfl))
            simp only [Act.put, List.setIfInBounds_toArray, List.set_cons_zero, List.set_cons_succ]
            refine takeS_on (i := 11) 159 (v := ?hv134) rfl rfl (by kernel_rfl) (by kernel_rfl) (by kernel_rfl) (fun _ _ _ h => h) (by kernel_rfl) ?hh134 (by exact hS0) ?_
            case hh134 => (intro w' hSw; obtain ⟨⟨b1, bl⟩, x0, x1, gl⟩ := HBJ.out _ hSw; go_simp; try (with_reducible rfl))
            simp only [Act.put, List.setIfInBounds_toArray, List.set_cons_zero, List.set_cons_succ]
            refine takeS_on (i := 12) 160 (v := ?hv135) rfl rfl (by kernel_rfl) (by kernel_rfl) (by kernel_rfl) (fun _ _ _ h => h) (by kernel_rfl) ?hh135 (by exact hS0) ?_
            case hh135 => (intro w' hSw; go_simp; try (with_reducible rfl))
            simp only [Act.put, List.setIfInBounds_toArray, List.set_cons_zero, List.set_cons_succ]
            refine takeS_on (i := 13) 161 (v := ?hv136) rfl rfl (by kernel_rfl) (by kernel_rfl) (by kernel_rfl) (fun _ _ _ h => h) (by kernel_rfl) ?hh136 (by exact hS0) ?_
            case hh136 => (intro w' hSw; go_simp; try (with_reducible rfl))
            simp only [Act.put, List.setIfInBounds_toArray, List.set_cons_zero, List.set_cons_succ]
            refine takeS_on (i := 14) 162 (v := ?hv137) rfl rfl (by kernel_rfl) (by kernel_rfl) (by kernel_rfl) (fun _ _ _ h => h) (by kernel_rfl) ?hh137 (by exact hS0) ?_
            case hh137 => (intro w' hSw; go_simp; try (with_reducible rfl))
            simp only [Act.put, List.setIfInBounds_toArray, List.set_cons_zero, List.set_cons_succ]
            refine takeS_on (i := 15) 163 (v := ?hv138) rfl rfl (by kernel_rfl) (by kernel_rfl) (by kernel_rfl) (fun _ _ _ h => h) (by kernel_rfl) ?hh138 (by exact hS0) ?_
            case hh138 => (intro w' hSw; obtain ⟨⟨b1, bl⟩, x0, x1, gl⟩ := HBJ.out _ hSw; go_simp; try (with_reducible rfl))
            simp only [Act.put, List.setIfInBounds_toArray, List.set_cons_zero, List.set_cons_succ]
            refine wpAnyH_ready (rs := [3]) (by kernel_rfl) (by simp) (AllReadyH.cons rfl (fun K hK => ?_) AllReadyH.nil)
            go_simp
            refine (CEJ.out _ (HB.out _ hS0).2.2.2.2.2.2.2).mono ?_
            rintro e wa ⟨ao, cap, rfl, ow, ga⟩
            have LA := hide (ow.lst.mono (fun _ _ _ => AnyB.it _) : Le wa (.slice ao m cap) l)
            have hS1 := Gr.trans hS0 ga
            clear ga ow
            refine hK.out _ _ (by exact hS1) (fun _ => ?_)
            clear hK K
            refine wpAnyH_ready (rs := [16]) (by kernel_rfl) (by simp) (AllReadyH.cons rfl (fun K hK => ?_) AllReadyH.nil)
            go_simp
            refine (CP.out _ ao cap LA.out f t hfN htN).mono ?_
            rintro e wb ⟨rfl, gb⟩
            rw [HR2.out]
            have hS2 := Gr.trans hS1 gb
            clear gb LA
            refine hK.out _ _ (by exact hS2) (fun _ => ?_)
            clear hK K
            refine takeS_on (i := 17) 147 (v := ?hv139) rfl rfl (by kernel_rfl) (by kernel_rfl) (by kernel_rfl) (fun _ _ _ h => h) (by kernel_rfl) ?hh139 (by exact hS2) ?_
            case hh139 => (intro w' hSw; go_simp; try (with_reducible rfl))
            simp only [Act.put, List.setIfInBounds_toArray, List.set_cons_zero, List.set_cons_succ]
            refine takeS_on (i := 18) 165 (v := ?hv140) rfl rfl (by kernel_rfl) (by kernel_rfl) (by kernel_rfl) (fun _ _ _ h => h) (by kernel_rfl) ?hh140 (by exact hS2) ?_
            case hh140 => (intro w' hSw; go_simp; try (with_reducible rfl))
            simp only [Act.put, List.setIfInBounds_toArray, List.set_cons_zero, List.set_cons_succ]
            refine takeS_on (i := 19) 166 (v := ?hv141) rfl rfl (by kernel_rfl) (by kernel_rfl) (by kernel_rfl) (fun _ _ _ h => h) (by kernel_rfl) ?hh141 (by exact hS2) ?_
            case hh141 => (intro w' hSw; go_simp; try (with_reducible rfl))
            simp only [Act.put, List.setIfInBounds_toArray, List.set_cons_zero, List.set_cons_succ]
            refine takeS_on (i := 20) 22 (v := ?hv142) rfl rfl (by kernel_rfl) (by kernel_rfl) (by kernel_rfl) (fun _ _ _ h => h) (by kernel_rfl) ?hh142 (by exact hS2) ?_
            case hh142 => (intro w' hSw; go_simp; try (with_reducible rfl))
            simp only [Act.put, List.setIfInBounds_toArray, List.set_cons_zero, List.set_cons_succ]
            refine takeS_on (i := 21) 23 (v := ?hv143) rfl rfl (by kernel_rfl) (by kernel_rfl) (by kernel_rfl) (fun _ _ _ h => h) (by kernel_rfl) ?hh143 (by exact hS2) ?_
            case hh143 => (intro w' hSw; go_simp; try (with_reducible rfl))
            simp only [Act.put, List.setIfInBounds_toArray, List.set_cons_zero, List.set_cons_succ]
            refine wpAnyH_done (by kernel_rfl) ?_ _
            have G9 := hide hS2
            clear hS0 hS1 hS2
            go_wp2
            go_roundg (m - (j + 1))
            case measure => omega
            case rel =>
              refine ⟨j + 1, by omega, ?_, G9.out⟩
              first | with_reducible rfl | simp
          · have hj' : ¬ ((j : Int) < (m : Int)) := by omega
            clear hg gw
            go_wp2
            go_ret
            exact ⟨rfl, GW.out⟩
  · have HE := hide (show ∀ x y, pthE n l x y = _ from fun x y => pthE_err h0)
    have CP := hide (fun W ao cap (k : Le W (.slice ao m cap) l) => path_any W n ao m cap l k hm x y)
    rw [HE.out] at CP
    generalize (chkP n l).1 = place at *
    generalize (chkP n l).2 = E at *
    have hne : (E != 0) = true := by simpa using h0
    clear h h0 HE HL HM
    go_enter Try.func6, Try.ntmps6
    go_wp2_with fail
    rw [← hA]
    clear hA
    have hS0 : Gr A (World.drew A) := Ch.drew (Gr.refl _)
    refine wp_region_held_drew (S := Gr A) (by kernel_rfl) (by exact hS0) (fun _ => ?_)
    generalize World.drew _ = V0 at hS0 ⊢
    refine takeS_on (i := 0) 24 (v := ?hv144) rfl rfl (by kernel_rfl) (by kernel_rfl) (by kernel_rfl) (fun _ _ _ h => h) (by kernel_rfl) ?hh144 (by exact hS0) ?_
    case hh144 => (intro w' hSw; go_simp; try (with_reducible rfl))
    simp only [Act.put, List.setIfInBounds_toArray, List.set_cons_zero, List.set_cons_succ]
    refine takeS_on (i := 1) 25 (v := ?hv145) rfl rfl (by kernel_rfl) (by kernel_rfl) (by kernel_rfl) (fun _ _ _ h => h) (by kernel_rfl) ?hh145 (by exact hS0) ?_
    case hh145 => (intro w' hSw; obtain ⟨b0, b1, bl, z0, z1, z2, zl, -⟩ := HB.out _ hSw; go_simp; try (with_reducible rfl))
    simp only [Act.put, List.setIfInBounds_toArray, List.set_cons_zero, List.set_cons_succ]
    refine takeS_on (i := 2) 26 (v := ?hv146) rfl rfl (by kernel_rfl) (by kernel_rfl) (by kernel_rfl) (fun _ _ _ h => h) (by kernel_rfl) ?hh146 (by exact hS0) ?_
    case hh146 => (intro w' hSw; go_simp; try (with_reducible rfl))
    simp only [Act.put, List.setIfInBounds_toArray, List.set_cons_zero, List.set_cons_succ]
    refine takeS_on (i := 3) 27 (v := ?hv147) rfl rfl (by kernel_rfl) (by kernel_rfl) (by kernel_rfl) (fun _ _ _ h => h) (by kernel_rfl) ?hh147 (by exact hS0) ?_
    case hh147 => (intro w' hSw; obtain ⟨b0, b1, bl, z0, z1, z2, zl, -⟩ := HB.out _ hSw; go_simp; try (with_reducible rfl))
    simp only [Act.put, List.setIfInBounds_toArray, List.set_cons_zero, List.set_cons_succ]
    refine takeS_on (i := 4) 28 (v := ?hv148) rfl rfl (by kernel_rfl) (by kernel_rfl) (by kernel_rfl) (fun _ _ _ h => h) (by kernel_rfl) ?hh148 (by exact hS0) ?_
    case hh148 => (intro w' hSw; go_simp; try (with_reducible rfl))
    simp only [Act.put, List.setIfInBounds_toArray, List.set_cons_zero, List.set_cons_succ]
    refine takeS_on (i := 5) 29 (v := ?hv149) rfl rfl (by kernel_rfl) (by kernel_rfl) (by kernel_rfl) (fun _ _ _ h => h) (by kernel_rfl) ?hh149 (by exact hS0) ?_
    case hh149 => (intro w' hSw; obtain ⟨b0, b1, bl, z0, z1, z2, zl, -⟩ := HB.out _ hSw; go_simp; try (with_reducible rfl))
    simp only [Act.put, List.setIfInBounds_toArray, List.set_cons_zero, List.set_cons_succ]
    refine takeS_on (i := 6) 5 (v := ?hv150) rfl rfl (by kernel_rfl) (by kernel_rfl) (by kernel_rfl) (fun _ _ _ h => h) (by kernel_rfl) ?hh150 (by exact hS0) ?_
    case hh150 => (intro w' hSw; go_simp; try (with_reducible rfl))
    simp only [Act.put, List.setIfInBounds_toArray, List.set_cons_zero, List.set_cons_succ]
    refine takeS_on (i := 7) 6 (v := ?hv151) rfl rfl (by kernel_rfl) (by kernel_rfl) (by kernel_rfl) (fun _ _ _ h => h) (by kernel_rfl) ?hh151 (by exact hS0) ?_
    case hh151 => (intro w' hSw; go_simp; try (with_reducible rfl))
    simp only [Act.put, List.setIfInBounds_toArray, List.set_cons_zero, List.set_cons_succ]
    refine takeS_on (i := 8) 7 (v := ?hv152) rfl rfl (by kernel_rfl) (by kernel_rfl) (by kernel_rfl) (fun _ _ _ h => h) (by kernel_rfl) ?hh152 (by exact hS0) ?_
    case hh152 => (intro w' hSw; go_simp; try (with_reducible rfl))
    simp only [Act.put, List.setIfInBounds_toArray, List.set_cons_zero, List.set_cons_succ]
    refine wpAnyH_done (by kernel_rfl) ?_ _
    obtain ⟨b0, b1, bl, -, -, -, -, gw⟩ := HB.out _ hS0
    have G0 := hide hS0
    have GW0 := hide gw
    clear hS0 gw
    go_wp2_with fail
    refine (CR.out _ GW0.out).mono ?_
    rintro e w1 ⟨rfl, g1⟩
    have G1 := hide (Gr.trans G0.out g1)
    clear g1 b0 b1 bl
    go_wp2_with fail
    have hS0 := Ch.drew G1.out
    refine wp_region_held_drew (S := Gr A) (by kernel_rfl) (by exact hS0) (fun _ => ?_)
    generalize World.drew _ = V0 at hS0 ⊢
    refine takeS_on (i := 0) 45 (v := ?hv153) rfl rfl (by kernel_rfl) (by kernel_rfl) (by kernel_rfl) (fun _ _ _ h => h) (by kernel_rfl) ?hh153 (by exact hS0) ?_
    case hh153 => (intro w' hSw; go_simp; try (with_reducible rfl))
    simp only [Act.put, List.setIfInBounds_toArray, List.set_cons_zero, List.set_cons_succ]
    refine takeS_on (i := 1) 46 (v := ?hv154) rfl rfl (by kernel_rfl) (by kernel_rfl) (by kernel_rfl) (fun _ _ _ h => h) (by kernel_rfl) ?hh154 (by exact hS0) ?_
    case hh154 => (intro w' hSw; obtain ⟨b0, b1, bl, z0, z1, z2, zl, -⟩ := HB.out _ hSw; go_simp; try (with_reducible rfl))
    simp only [Act.put, List.setIfInBounds_toArray, List.set_cons_zero, List.set_cons_succ]
    refine takeS_on (i := 2) 47 (v := ?hv155) rfl rfl (by kernel_rfl) (by kernel_rfl) (by kernel_rfl) (fun _ _ _ h => h) (by kernel_rfl) ?hh155 (by exact hS0) ?_
    case hh155 => (intro w' hSw; go_simp; try (with_reducible rfl))
    simp only [Act.put, List.setIfInBounds_toArray, List.set_cons_zero, List.set_cons_succ]
    refine takeS_on (i := 3) 48 (v := ?hv156) rfl rfl (by kernel_rfl) (by kernel_rfl) (by kernel_rfl) (fun _ _ _ h => h) (by kernel_rfl) ?hh156 (by exact hS0) ?_
    case hh156 => (intro w' hSw; obtain ⟨b0, b1, bl, z0, z1, z2, zl, -⟩ := HB.out _ hSw; go_simp; try (with_reducible rfl))
    simp only [Act.put, List.setIfInBounds_toArray, List.set_cons_zero, List.set_cons_succ]
    refine takeS_on (i := 5) 50 (v := ?hv157) rfl rfl (by kernel_rfl) (by kernel_rfl) (by kernel_rfl) (fun _ _ _ h => h) (by kernel_rfl) ?hh157 (by exact hS0) ?_
    case hh157 => (intro w' hSw; go_simp; try (with_reducible rfl))
    simp only [Act.put, List.setIfInBounds_toArray, List.set_cons_zero, List.set_cons_succ]
    refine takeS_on (i := 6) 51 (v := ?hv158) rfl rfl (by kernel_rfl) (by kernel_rfl) (by kernel_rfl) (fun _ _ _ h => h) (by kernel_rfl) ?hh158 (by exact hS0) ?_
    case hh158 => (intro w' hSw; go_simp; try (with_reducible rfl))
    simp only [Act.put, List.setIfInBounds_toArray, List.set_cons_zero, List.set_cons_succ]
    refine wpAnyH_ready (rs := [4]) (by kernel_rfl) (by simp) (AllReadyH.cons rfl (fun K hK => ?_) AllReadyH.nil)
    go_simp
    refine (CE.out _ (HB.out _ hS0).2.2.2.2.2.2.2).mono ?_
    rintro e wa ⟨ao, cap, rfl, ow, ga⟩
    have LA := hide (ow.lst.mono (fun _ _ _ => AnyB.it _) : Le wa (.slice ao m cap) l)
    have hS1 := Gr.trans hS0 ga
    clear ga ow
    refine hK.out _ _ (by exact hS1) (fun _ => ?_)
    clear hK K
    refine wpAnyH_ready (rs := [7]) (by kernel_rfl) (by simp) (AllReadyH.cons rfl (fun K hK => ?_) AllReadyH.nil)
    go_simp
    refine (CP.out _ ao cap LA.out).mono ?_
    rintro e wb ⟨rfl, gb⟩
    have hS2 := Gr.trans hS1 gb
    clear gb LA
    refine hK.out _ _ (by exact hS2) (fun _ => ?_)
    clear hK K
    refine takeS_on (i := 8) 44 (v := ?hv159) rfl rfl (by kernel_rfl) (by kernel_rfl) (by kernel_rfl) (fun _ _ _ h => h) (by kernel_rfl) ?hh159 (by exact hS2) ?_
    case hh159 => (intro w' hSw; go_simp; try (with_reducible rfl))
    simp only [Act.put, List.setIfInBounds_toArray, List.set_cons_zero, List.set_cons_succ]
    refine takeS_on (i := 9) 53 (v := ?hv160) rfl rfl (by kernel_rfl) (by kernel_rfl) (by kernel_rfl) (fun _ _ _ h => h) (by kernel_rfl) ?hh160 (by exact hS2) ?_
    case hh160 => (intro w' hSw; go_simp; try (with_reducible rfl))
    simp only [Act.put, List.setIfInBounds_toArray, List.set_cons_zero, List.set_cons_succ]
    refine takeS_on (i := 10) 54 (v := ?hv161) rfl rfl (by kernel_rfl) (by kernel_rfl) (by kernel_rfl) (fun _ _ _ h => h) (by kernel_rfl) ?hh161 (by exact hS2) ?_
    case hh161 => (intro w' hSw; go_simp; try (with_reducible rfl))
    simp only [Act.put, List.setIfInBounds_toArray, List.set_cons_zero, List.set_cons_succ]
    refine takeS_on (i := 11) 10 (v := ?hv162) rfl rfl (by kernel_rfl) (by kernel_rfl) (by kernel_rfl) (fun _ _ _ h => h) (by kernel_rfl) ?hh162 (by exact hS2) ?_
    case hh162 => (intro w' hSw; go_simp; try (with_reducible rfl))
    simp only [Act.put, List.setIfInBounds_toArray, List.set_cons_zero, List.set_cons_succ]
    refine takeS_on (i := 12) 11 (v := ?hv163) rfl rfl (by kernel_rfl) (by kernel_rfl) (by kernel_rfl) (fun _ _ _ h => h) (by kernel_rfl) ?hh163 (by exact hS2) ?_
    case hh163 => (intro w' hSw; go_simp; try (with_reducible rfl))
    simp only [Act.put, List.setIfInBounds_toArray, List.set_cons_zero, List.set_cons_succ]
    refine wpAnyH_done (by kernel_rfl) ?_ _
    have G2 := hide (HB.out _ hS2).2.2.2.2.2.2.2
    clear hS0 hS1 hS2
    go_wp2_with fail
    refine (lives_any _).mono ?_
    rintro e w4 ⟨rfl, g4⟩
    have G4 := hide (Gr.trans G2.out g4)
    clear g4
    go_wp2
    go_ret
    exact ⟨rfl, G4.out⟩
end Go.Proofs.Ytcoaefojamhloaa.Lt
