/-
  PolicyChecks, walked: both sides tell the same of any number of domains and any edges. Condition: the list is not too long.
-/
import Derived.Test.YtcoaefojamhloaaPyLives
import Derived.Test.YtcoaefojamhloaaPyRChk
namespace Go.Proofs.Ytcoaefojamhloaa.Lt
open Go.RowKit Wd
attribute [local go_sem ↓] Go.wp_at_zero Go.wp_at_succ
set_option maxRecDepth 20000

set_option maxHeartbeats 8000000 in
theorem checks_walk (w : World) (n : Int) (a : Option Addr) (m c : Nat) (l : List Eg) (h : Le w (.slice a m c) l) (hm : m ≤ 8796093022208) (_hn : -9223372036854775808 ≤ n ∧ n ≤ 9223372036854775807) :
    Calls Try.prog 3 #[.agg #[.int .i64 n, .slice a m c]] w fun e w' => e = .returned (.bool true) ∧ Gr w w' := by
  obtain ⟨A, hA⟩ : ∃ A, A = w.alloc (.cells #[.int .i64 n, .slice a m c] 24) := ⟨_, rfl⟩
  have HB := hide (show ∀ W, Gr A W → W.cell? ⟨w.heap.size, 0, none⟩ = some (.int .i64 n) ∧ W.cell? ⟨w.heap.size, 1, none⟩ = some (.slice a m c) ∧ w.heap.size < W.heap.size ∧ Gr w W from fun W g => box2 (by rw [hA] at g; exact g))
  have CE := hide (fun W (g : Gr w W) => edges_any W AnyB a m c l (h.gr g) hm)
  have CK := hide (fun W ao cap (k : Le W (.slice ao m cap) l) => check_any W n ao m cap l k hm)
  have CR := hide (fun W (g : Gr w W) => rcheck_any W n a m c l (h.gr g) hm)
  unfold chkE at CK CR
  generalize chkP n l = q at CK CR
  clear h
  go_enter Try.func3, Try.ntmps3
  go_wp2_with fail
  rw [← hA]
  clear hA
  have hS0 : Gr A (World.drew A) := Ch.drew (Gr.refl _)
  refine wp_region_held_drew (S := Gr A) (by kernel_rfl) (by exact hS0) (fun _ => ?_)
  generalize World.drew _ = V0 at hS0 ⊢
  refine takeS_on (i := 0) 8 (v := ?hv1) rfl rfl (by kernel_rfl) (by kernel_rfl) (by kernel_rfl) (fun _ _ _ h => h) (by kernel_rfl) ?hh1 (by exact hS0) ?_
  case hh1 => (intro w' hSw; go_simp; try (with_reducible rfl))
  simp only [Act.put, List.setIfInBounds_toArray, List.set_cons_zero, List.set_cons_succ]
  refine takeS_on (i := 1) 9 (v := ?hv2) rfl rfl (by kernel_rfl) (by kernel_rfl) (by kernel_rfl) (fun _ _ _ h => h) (by kernel_rfl) ?hh2 (by exact hS0) ?_
  case hh2 => (intro w' hSw; obtain ⟨b0, b1, bl, -⟩ := HB.out _ hSw; go_simp; try (with_reducible rfl))
  simp only [Act.put, List.setIfInBounds_toArray, List.set_cons_zero, List.set_cons_succ]
  refine takeS_on (i := 2) 10 (v := ?hv3) rfl rfl (by kernel_rfl) (by kernel_rfl) (by kernel_rfl) (fun _ _ _ h => h) (by kernel_rfl) ?hh3 (by exact hS0) ?_
  case hh3 => (intro w' hSw; go_simp; try (with_reducible rfl))
  simp only [Act.put, List.setIfInBounds_toArray, List.set_cons_zero, List.set_cons_succ]
  refine takeS_on (i := 3) 11 (v := ?hv4) rfl rfl (by kernel_rfl) (by kernel_rfl) (by kernel_rfl) (fun _ _ _ h => h) (by kernel_rfl) ?hh4 (by exact hS0) ?_
  case hh4 => (intro w' hSw; obtain ⟨b0, b1, bl, -⟩ := HB.out _ hSw; go_simp; try (with_reducible rfl))
  simp only [Act.put, List.setIfInBounds_toArray, List.set_cons_zero, List.set_cons_succ]
  refine wpAnyH_ready (rs := [4]) (by kernel_rfl) (by simp) (AllReadyH.cons rfl (fun K hK => ?_) AllReadyH.nil)
  go_simp
  refine (CE.out _ (HB.out _ hS0).2.2.2).mono ?_
  rintro e wa ⟨ao, cap, rfl, ow, ga⟩
  have LA := hide (ow.lst.mono (fun _ _ _ => AnyB.it _) : Le wa (.slice ao m cap) l)
  have hS1 := Gr.trans hS0 ga
  clear ga ow
  refine hK.out _ _ (by exact hS1) (fun _ => ?_)
  clear hK K
  refine wpAnyH_ready (rs := [5]) (by kernel_rfl) (by simp) (AllReadyH.cons rfl (fun K hK => ?_) AllReadyH.nil)
  go_simp
  refine (CK.out _ ao cap LA.out).mono ?_
  rintro e wb ⟨rfl, gb⟩
  have hS2 := Gr.trans hS1 gb
  clear gb LA
  refine hK.out _ _ (by exact hS2) (fun _ => ?_)
  clear hK K
  refine takeS_on (i := 6) 7 (v := ?hv5) rfl rfl (by kernel_rfl) (by kernel_rfl) (by kernel_rfl) (fun _ _ _ h => h) (by kernel_rfl) ?hh5 (by exact hS2) ?_
  case hh5 => (intro w' hSw; go_simp; try (with_reducible rfl))
  simp only [Act.put, List.setIfInBounds_toArray, List.set_cons_zero, List.set_cons_succ]
  refine takeS_on (i := 7) 14 (v := ?hv6) rfl rfl (by kernel_rfl) (by kernel_rfl) (by kernel_rfl) (fun _ _ _ h => h) (by kernel_rfl) ?hh6 (by exact hS2) ?_
  case hh6 => (intro w' hSw; go_simp; try (with_reducible rfl))
  simp only [Act.put, List.setIfInBounds_toArray, List.set_cons_zero, List.set_cons_succ]
  refine takeS_on (i := 8) 15 (v := ?hv7) rfl rfl (by kernel_rfl) (by kernel_rfl) (by kernel_rfl) (fun _ _ _ h => h) (by kernel_rfl) ?hh7 (by exact hS2) ?_
  case hh7 => (intro w' hSw; go_simp; try (with_reducible rfl))
  simp only [Act.put, List.setIfInBounds_toArray, List.set_cons_zero, List.set_cons_succ]
  refine takeS_on (i := 9) 3 (v := ?hv8) rfl rfl (by kernel_rfl) (by kernel_rfl) (by kernel_rfl) (fun _ _ _ h => h) (by kernel_rfl) ?hh8 (by exact hS2) ?_
  case hh8 => (intro w' hSw; go_simp; try (with_reducible rfl))
  simp only [Act.put, List.setIfInBounds_toArray, List.set_cons_zero, List.set_cons_succ]
  refine takeS_on (i := 10) 4 (v := ?hv9) rfl rfl (by kernel_rfl) (by kernel_rfl) (by kernel_rfl) (fun _ _ _ h => h) (by kernel_rfl) ?hh9 (by exact hS2) ?_
  case hh9 => (intro w' hSw; go_simp; try (with_reducible rfl))
  simp only [Act.put, List.setIfInBounds_toArray, List.set_cons_zero, List.set_cons_succ]
  refine wpAnyH_done (by kernel_rfl) ?_ _
  have G2 := hide hS2
  obtain ⟨b0, b1, bl, gw⟩ := HB.out _ hS2
  have GW := hide gw
  clear hS0 hS1 hS2 gw
  go_wp2_with fail
  refine (CR.out _ GW.out).mono ?_
  rintro e w3 ⟨rfl, g3⟩
  have G3 := hide (Gr.trans GW.out g3)
  clear g3 b0 b1 bl
  go_wp2_with fail
  refine (lives_any _).mono ?_
  rintro e w4 ⟨rfl, g4⟩
  have G4 := hide (Gr.trans G3.out g4)
  clear g4
  go_wp2
  go_ret
  exact ⟨rfl, G4.out⟩
end Go.Proofs.Ytcoaefojamhloaa.Lt
