/-
  PolicyAbove, walked: both sides tell the same of Above and Groups. Condition: the list is not too long.
-/
import Derived.Test.YtcoaefojamhloaaPyLives
import Derived.Test.YtcoaefojamhloaaPyRGrp
namespace Go.Proofs.Ytcoaefojamhloaa.Lt
open Go.RowKit Wd
attribute [local go_sem ↓] Go.wp_at_zero Go.wp_at_succ
set_option maxRecDepth 20000

set_option maxHeartbeats 8000000 in
theorem above_walk (w : World) (n : Int) (a : Option Addr) (m c : Nat) (l : List Eg) (h : Le w (.slice a m c) l) (hm : m ≤ 8796093022208) (_hn : -9223372036854775808 ≤ n ∧ n ≤ 9223372036854775807) (x : Int) (_hx : -9223372036854775808 ≤ x ∧ x ≤ 9223372036854775807) :
    Calls Try.prog 5 #[.agg #[.int .i64 n, .slice a m c], .int .i64 x] w fun e w' => e = .returned (.bool true) ∧ Gr w w' := by
  obtain ⟨A, hA⟩ : ∃ A, A = w.alloc (.cells #[.int .i64 n, .slice a m c] 24) := ⟨_, rfl⟩
  have HB := hide (show ∀ W, Gr A W → W.cell? ⟨w.heap.size, 0, none⟩ = some (.int .i64 n) ∧ W.cell? ⟨w.heap.size, 1, none⟩ = some (.slice a m c) ∧ w.heap.size < W.heap.size ∧ Gr w W from fun W g => box2 (by rw [hA] at g; exact g))
  have CE := hide (fun W (g : Gr w W) => edges_any W AnyB a m c l (h.gr g) hm)
  have CM := hide (fun W ao cap (k : Le W (.slice ao m cap) l) => above_any W n ao m cap l k hm x)
  have CP := hide (fun W ao cap (k : Le W (.slice ao m cap) l) => groups_any W n ao m cap l k hm)
  have CRM := hide (fun W (g : Gr w W) => rabove_any W n a m c l (h.gr g) hm x)
  have CRP := hide (fun W (g : Gr w W) => rgroups_any W n a m c l (h.gr g) hm)
  have HX := hide (abvI_len n l x)
  have HY := hide (grpI_len n l)
  unfold NumR at CM CP CRM CRP
  generalize wrgP n l [x] = E1 at *
  generalize wrgP n l [] = E2 at *
  generalize abvI n l x = xs at *
  generalize grpI n l = ys at *
  clear h
  go_enter Try.func5, Try.ntmps5
  go_wp2_with fail
  rw [← hA]
  clear hA
  have hS0 : Gr A (World.drew A) := Ch.drew (Gr.refl _)
  refine wp_region_held_drew (S := Gr A) (by kernel_rfl) (by exact hS0) (fun _ => ?_)
  generalize World.drew _ = V0 at hS0 ⊢
  refine takeS_on (i := 0) 14 (v := ?hv32) rfl rfl (by kernel_rfl) (by kernel_rfl) (by kernel_rfl) (fun _ _ _ h => h) (by kernel_rfl) ?hh32 (by exact hS0) ?_
  case hh32 => (intro w' hSw; go_simp; try (with_reducible rfl))
  simp only [Act.put, List.setIfInBounds_toArray, List.set_cons_zero, List.set_cons_succ]
  refine takeS_on (i := 1) 15 (v := ?hv33) rfl rfl (by kernel_rfl) (by kernel_rfl) (by kernel_rfl) (fun _ _ _ h => h) (by kernel_rfl) ?hh33 (by exact hS0) ?_
  case hh33 => (intro w' hSw; obtain ⟨b0, b1, bl, -⟩ := HB.out _ hSw; go_simp; try (with_reducible rfl))
  simp only [Act.put, List.setIfInBounds_toArray, List.set_cons_zero, List.set_cons_succ]
  refine takeS_on (i := 2) 16 (v := ?hv34) rfl rfl (by kernel_rfl) (by kernel_rfl) (by kernel_rfl) (fun _ _ _ h => h) (by kernel_rfl) ?hh34 (by exact hS0) ?_
  case hh34 => (intro w' hSw; go_simp; try (with_reducible rfl))
  simp only [Act.put, List.setIfInBounds_toArray, List.set_cons_zero, List.set_cons_succ]
  refine takeS_on (i := 3) 17 (v := ?hv35) rfl rfl (by kernel_rfl) (by kernel_rfl) (by kernel_rfl) (fun _ _ _ h => h) (by kernel_rfl) ?hh35 (by exact hS0) ?_
  case hh35 => (intro w' hSw; obtain ⟨b0, b1, bl, -⟩ := HB.out _ hSw; go_simp; try (with_reducible rfl))
  simp only [Act.put, List.setIfInBounds_toArray, List.set_cons_zero, List.set_cons_succ]
  refine takeS_on (i := 5) 19 (v := ?hv36) rfl rfl (by kernel_rfl) (by kernel_rfl) (by kernel_rfl) (fun _ _ _ h => h) (by kernel_rfl) ?hh36 (by exact hS0) ?_
  case hh36 => (intro w' hSw; go_simp; try (with_reducible rfl))
  simp only [Act.put, List.setIfInBounds_toArray, List.set_cons_zero, List.set_cons_succ]
  refine wpAnyH_ready (rs := [4]) (by kernel_rfl) (by simp) (AllReadyH.cons rfl (fun K hK => ?_) AllReadyH.nil)
  go_simp
  refine (CE.out _ (HB.out _ hS0).2.2.2).mono ?_
  rintro e wa ⟨ao, cap, rfl, ow, ga⟩
  have LA := hide (ow.lst.mono (fun _ _ _ => AnyB.it _) : Le wa (.slice ao m cap) l)
  have hS1 := Gr.trans hS0 ga
  clear ga ow
  refine hK.out _ _ (by exact hS1) (fun _ => ?_)
  clear hK K
  refine wpAnyH_ready (rs := [6]) (by kernel_rfl) (by simp) (AllReadyH.cons rfl (fun K hK => ?_) AllReadyH.nil)
  go_simp
  refine (CM.out _ ao cap LA.out).mono ?_
  rintro e wb ⟨a1, c1, rfl, l1, gb⟩
  have L1 := hide l1
  clear l1
  have hS2 := Gr.trans hS1 gb
  clear gb LA
  refine hK.out _ _ (by exact hS2) (fun _ => ?_)
  clear hK K
  refine takeS_on (i := 7) 13 (v := ?hv37) rfl rfl (by kernel_rfl) (by kernel_rfl) (by kernel_rfl) (fun _ _ _ h => h) (by kernel_rfl) ?hh37 (by exact hS2) ?_
  case hh37 => (intro w' hSw; go_simp; try (with_reducible rfl))
  simp only [Act.put, List.setIfInBounds_toArray, List.set_cons_zero, List.set_cons_succ]
  refine takeS_on (i := 8) 21 (v := ?hv38) rfl rfl (by kernel_rfl) (by kernel_rfl) (by kernel_rfl) (fun _ _ _ h => h) (by kernel_rfl) ?hh38 (by exact hS2) ?_
  case hh38 => (intro w' hSw; go_simp; try (with_reducible rfl))
  simp only [Act.put, List.setIfInBounds_toArray, List.set_cons_zero, List.set_cons_succ]
  refine takeS_on (i := 9) 22 (v := ?hv39) rfl rfl (by kernel_rfl) (by kernel_rfl) (by kernel_rfl) (fun _ _ _ h => h) (by kernel_rfl) ?hh39 (by exact hS2) ?_
  case hh39 => (intro w' hSw; go_simp; try (with_reducible rfl))
  simp only [Act.put, List.setIfInBounds_toArray, List.set_cons_zero, List.set_cons_succ]
  refine takeS_on (i := 10) 5 (v := ?hv40) rfl rfl (by kernel_rfl) (by kernel_rfl) (by kernel_rfl) (fun _ _ _ h => h) (by kernel_rfl) ?hh40 (by exact hS2) ?_
  case hh40 => (intro w' hSw; go_simp; try (with_reducible rfl))
  simp only [Act.put, List.setIfInBounds_toArray, List.set_cons_zero, List.set_cons_succ]
  refine takeS_on (i := 11) 6 (v := ?hv41) rfl rfl (by kernel_rfl) (by kernel_rfl) (by kernel_rfl) (fun _ _ _ h => h) (by kernel_rfl) ?hh41 (by exact hS2) ?_
  case hh41 => (intro w' hSw; go_simp; try (with_reducible rfl))
  simp only [Act.put, List.setIfInBounds_toArray, List.set_cons_zero, List.set_cons_succ]
  refine wpAnyH_done (by kernel_rfl) ?_ _
  have G2 := hide hS2
  obtain ⟨b0, b1, bl, gw⟩ := HB.out _ hS2
  have GW := hide gw
  clear hS0 hS1 hS2 gw
  go_wp2_with fail
  refine (CRM.out _ GW.out).mono ?_
  rintro e w3 ⟨a2, c2, rfl, l2, g3⟩
  have L2 := hide l2
  have L1b := hide (L1.out.gr g3)
  have G3 := hide (Gr.trans G2.out g3)
  clear g3 b0 b1 bl l2
  go_wp2_with fail
  have hS0 := Ch.drew G3.out
  have L1b := hide (L1b.out.drew)
  have L2 := hide (L2.out.drew)
  refine wp_region_held_drew (S := Gr A) (by kernel_rfl) (by exact hS0) (fun _ => ?_)
  generalize World.drew _ = V0 at hS0 L1b L2 ⊢
  refine takeS_on (i := 0) 33 (v := ?hv42) rfl rfl (by kernel_rfl) (by kernel_rfl) (by kernel_rfl) (fun _ _ _ h => h) (by kernel_rfl) ?hh42 (by exact hS0) ?_
  case hh42 => (intro w' hSw; go_simp; try (with_reducible rfl))
  simp only [Act.put, List.setIfInBounds_toArray, List.set_cons_zero, List.set_cons_succ]
  refine takeS_on (i := 1) 34 (v := ?hv43) rfl rfl (by kernel_rfl) (by kernel_rfl) (by kernel_rfl) (fun _ _ _ h => h) (by kernel_rfl) ?hh43 (by exact hS0) ?_
  case hh43 => (intro w' hSw; obtain ⟨b0, b1, bl, -⟩ := HB.out _ hSw; go_simp; try (with_reducible rfl))
  simp only [Act.put, List.setIfInBounds_toArray, List.set_cons_zero, List.set_cons_succ]
  refine takeS_on (i := 2) 35 (v := ?hv44) rfl rfl (by kernel_rfl) (by kernel_rfl) (by kernel_rfl) (fun _ _ _ h => h) (by kernel_rfl) ?hh44 (by exact hS0) ?_
  case hh44 => (intro w' hSw; go_simp; try (with_reducible rfl))
  simp only [Act.put, List.setIfInBounds_toArray, List.set_cons_zero, List.set_cons_succ]
  refine takeS_on (i := 3) 36 (v := ?hv45) rfl rfl (by kernel_rfl) (by kernel_rfl) (by kernel_rfl) (fun _ _ _ h => h) (by kernel_rfl) ?hh45 (by exact hS0) ?_
  case hh45 => (intro w' hSw; obtain ⟨b0, b1, bl, -⟩ := HB.out _ hSw; go_simp; try (with_reducible rfl))
  simp only [Act.put, List.setIfInBounds_toArray, List.set_cons_zero, List.set_cons_succ]
  refine wpAnyH_ready (rs := [4]) (by kernel_rfl) (by simp) (AllReadyH.cons rfl (fun K hK => ?_) AllReadyH.nil)
  go_simp
  refine (CE.out _ (HB.out _ hS0).2.2.2).mono ?_
  rintro e wa ⟨ao, cap, rfl, ow, ga⟩
  have LA := hide (ow.lst.mono (fun _ _ _ => AnyB.it _) : Le wa (.slice ao m cap) l)
  have hS1 := Gr.trans hS0 ga
  have ga2 := hide ga; clear ga ow
  refine hK.out _ _ (by exact hS1) (fun _ => ?_)
  clear hK K
  refine wpAnyH_ready (rs := [5]) (by kernel_rfl) (by simp) (AllReadyH.cons rfl (fun K hK => ?_) AllReadyH.nil)
  go_simp
  refine (CP.out _ ao cap LA.out).mono ?_
  rintro e wb ⟨a3, c3, rfl, l3, gb⟩
  have L3 := hide l3
  have L1c := hide ((L1b.out.gr ga2.out).gr gb)
  have L2c := hide ((L2.out.gr ga2.out).gr gb)
  clear l3
  have hS2 := Gr.trans hS1 gb
  clear gb LA
  refine hK.out _ _ (by exact hS2) (fun _ => ?_)
  clear hK K
  refine takeS_on (i := 6) 32 (v := ?hv46) rfl rfl (by kernel_rfl) (by kernel_rfl) (by kernel_rfl) (fun _ _ _ h => h) (by kernel_rfl) ?hh46 (by exact hS2) ?_
  case hh46 => (intro w' hSw; go_simp; try (with_reducible rfl))
  simp only [Act.put, List.setIfInBounds_toArray, List.set_cons_zero, List.set_cons_succ]
  refine takeS_on (i := 7) 39 (v := ?hv47) rfl rfl (by kernel_rfl) (by kernel_rfl) (by kernel_rfl) (fun _ _ _ h => h) (by kernel_rfl) ?hh47 (by exact hS2) ?_
  case hh47 => (intro w' hSw; go_simp; try (with_reducible rfl))
  simp only [Act.put, List.setIfInBounds_toArray, List.set_cons_zero, List.set_cons_succ]
  refine takeS_on (i := 8) 40 (v := ?hv48) rfl rfl (by kernel_rfl) (by kernel_rfl) (by kernel_rfl) (fun _ _ _ h => h) (by kernel_rfl) ?hh48 (by exact hS2) ?_
  case hh48 => (intro w' hSw; go_simp; try (with_reducible rfl))
  simp only [Act.put, List.setIfInBounds_toArray, List.set_cons_zero, List.set_cons_succ]
  refine takeS_on (i := 9) 9 (v := ?hv49) rfl rfl (by kernel_rfl) (by kernel_rfl) (by kernel_rfl) (fun _ _ _ h => h) (by kernel_rfl) ?hh49 (by exact hS2) ?_
  case hh49 => (intro w' hSw; go_simp; try (with_reducible rfl))
  simp only [Act.put, List.setIfInBounds_toArray, List.set_cons_zero, List.set_cons_succ]
  refine takeS_on (i := 10) 10 (v := ?hv50) rfl rfl (by kernel_rfl) (by kernel_rfl) (by kernel_rfl) (fun _ _ _ h => h) (by kernel_rfl) ?hh50 (by exact hS2) ?_
  case hh50 => (intro w' hSw; go_simp; try (with_reducible rfl))
  simp only [Act.put, List.setIfInBounds_toArray, List.set_cons_zero, List.set_cons_succ]
  refine wpAnyH_done (by kernel_rfl) ?_ _
  have G4 := hide hS2
  obtain ⟨b0, b1, bl, gw⟩ := HB.out _ hS2
  have GW4 := hide gw
  clear hS0 hS1 hS2 gw
  go_wp2_with fail
  refine (CRP.out _ GW4.out).mono ?_
  rintro e w6 ⟨a4, c4, rfl, l4, g6⟩
  have L4 := hide l4
  have L3b := hide (L3.out.gr g6)
  have L1d := hide (L1c.out.gr g6)
  have L2d := hide (L2c.out.gr g6)
  have G6 := hide (Gr.trans GW4.out g6)
  clear g6 b0 b1 bl l4
  go_wp2_with fail
  refine (lives_any _).mono ?_
  rintro e w7 ⟨rfl, g7⟩
  have G7 := hide (Gr.trans G6.out g7)
  have g7b := hide g7
  clear g7
  go_wp2_with fail
  refine (same_any _ _ _ _ _ _ _ _ _ _ _ (L1d.out.gr g7b.out) (L2d.out.gr g7b.out) HX.out).mono ?_
  rintro e w8 ⟨rfl, g8⟩
  rw [decide_eq_true rfl]
  have G8 := hide (Gr.trans G7.out g8)
  have g8b := hide g8; clear g8
  go_wp2_with fail
  refine (same_any _ _ _ _ _ _ _ _ _ _ _ ((L3b.out.gr g7b.out).gr g8b.out) ((L4.out.gr g7b.out).gr g8b.out) HY.out).mono ?_
  rintro e w9 ⟨rfl, g9⟩
  rw [decide_eq_true rfl]
  have G9 := hide (Gr.trans G8.out g9)
  clear g9
  go_wp2
  go_ret
  exact ⟨rfl, G9.out⟩
end Go.Proofs.Ytcoaefojamhloaa.Lt
