/-
  What CellsReplayed of the statements answers: true, at any number and calls. Conditions: the list of calls lies where it lies; there are no more than 1048576.
-/
import Derived.Test.YtpmhmikefkgbdaaClLog
import Derived.Test.YtpmhmikefkgbdaaClRo
namespace Go.Proofs.Ytpmhmikefkgbdaa.Lt
open Go.RowKit Wd
attribute [local go_sem ↓] Go.wp_at_zero Go.wp_at_succ

set_option maxHeartbeats 4000000 in
set_option maxRecDepth 20000 in
theorem replayed_law (n : Int) (P : Nat → Prop) (vo : Value) (os : List O4) (w : World) (h : Ls eO P w vo os) (hl : os.length ≤ 1048576) : Calls Try.prog 7 #[.int .i64 n, vo] w fun e w' => e = .returned (.bool true) ∧ Gr w w' := by
  obtain ⟨N, hN⟩ : ∃ N, N = fitN n := ⟨_, rfl⟩
  have hN2 := fitN_le n
  rw [← hN] at hN2
  have HF := hid (show ∀ W : World, Calls Try.prog 15 #[.int .i64 n] W fun e w' => e = .returned (.int .i64 (N : Nat)) ∧ w' = W from fun W => by rw [hN]; exact fit_any n W)
  have HN := hid (fun (W : World) => new_good N W hN2)
  have HA := hid (fun (W : World) => awake_any W)
  obtain ⟨zs, hzs⟩ : ∃ zs : List Int, List.replicate N 0 = zs := ⟨_, rfl⟩
  have hzl : zs.length = N := by rw [← hzs]; exact List.length_replicate
  have HZ := hid hzs
  have HZL := hid hzl
  have HLG := hid (fun (W : World) (b : Nat) (v : Value) (p : CAt w.heap.size W b v zs) (q : w.heap.size ≤ b) (g : Gr w W) => log_any P w W b v zs vo os p q h g (by rw [hzl]; exact hN2) hl)
  have HRG := hid (lgs_rgo os zs os.length (Nat.le_refl _))
  have HLL := hid (lgs_len os zs os.length)
  have HCL := hid (show (cur os zs os.length).length = N from (cur_len os zs _).trans hzl)
  have HRP := hid (show ∀ (W : World) (Q : Nat → Prop) (vv vl : Value), Ls eI (fun _ => True) W vv zs → Ls eA Q W vl (lgs os zs os.length) → Calls Try.prog 17 #[vv, vl] W fun e w' => ∃ ao cap, e = .returned (.tuple #[.slice ao N cap, .int .i64 0, .int .i64 0]) ∧ Ow eI 1 2 W.heap.size w' (.slice ao N cap) (cur os zs os.length) ∧ Gr W w' from fun W Q vv vl p q => by
    have := replay_any _ Q W vv vl zs (lgs os zs os.length) p q (by rw [hzl]; omega) (by have := HLL.out; omega)
    unfold RyR at this
    rw [HRG.out] at this
    simp only [HCL.out] at this
    exact this)
  have HV := hid (fun (W : World) (b : Nat) (v : Value) (p : CAt w.heap.size W b v (cur os zs os.length)) => values_any _ W b v _ p (by rw [HCL.out]; omega))
  have HS := hid (fun (P Q : Nat → Prop) (va vb : Value) (W : World) (p : Ls eI P W va (cur os zs os.length)) (q : Ls eI Q W vb (cur os zs os.length)) => rsame_eq P Q va vb _ W p q (by rw [HCL.out]; omega))
  obtain ⟨i0, hi, hz0, hz1, hz2⟩ := info_parts i64_info
  generalize cur os zs os.length = cu at *
  generalize lgs os zs os.length = lg at *
  clear h hzs hzl hN
  go_enter Try.func7, Try.ntmps7
  go_wp2_with (first
    | (go_at_call 15; refine (HF.out _).mono ?_; rintro e wa ⟨rfl, hw⟩; have hw := hw.symm; subst hw)
    | (go_at_call 9; refine (HN.out _).mono ?_; rintro e w1 ⟨b, v, rfl, hb, c1, g1⟩; have C1 := hid (show CAt w.heap.size w1 b v zs from HZ.out ▸ c1); have G1 := hid g1; have HB := hid hb; clear hb c1 g1)
    | (go_at_call 21; refine (HLG.out _ b v C1.out HB.out G1.out).mono ?_; rintro e w2 ⟨ao2, n2, cap2, rfl, o2, c2, g2⟩; have O2 := hid o2; have C2 := hid c2; have G2 := hid g2; clear o2 c2 g2)
    | (at_make; refine wpList_make_full _ rfl _ _ 26 rfl w.heap.size 2 i0 _ 1 Try.underlying26 hi hz0 hz1 _ _ _ _ N rfl rfl (by omega) (by omega) (by rw [hz2]; omega) (by unfold maxLen; omega) (by simpa using G2.out.size) ?_; intro w3 hown hgrow; have ho : Ow eI 1 2 w.heap.size w3 _ zs := (by have h2 := toList_madeCells_one (.int .i64 0) N; rw [Nat.mul_one] at hown; unfold Ow; rw [HZL.out, ← HZ.out, zeros_cells, ← h2]; exact hown); have g3 : Gr w2 w3 := (Ch.refl NoB w2).grown hgrow (fun k hk => by cases hk); have O3 := hid (ho.lst.mono (fun _ _ _ => trivial)); have O3b := hid (O2.out.gr g3); have C3 := hid (C2.out.gr g3); have G3 := hid (Gr.trans G2.out g3); clear ho hown hgrow g3)
    | (go_at_call 17; refine (HRP.out _ _ _ _ O3.out O3b.out.lst).mono ?_; rintro e w4 ⟨ao4, cap4, rfl, o4, g4⟩; have O4 := hid o4; have C4 := hid (C3.out.gr g4); have G4 := hid (Gr.trans G3.out g4); clear o4 g4)
    | (go_at_call 13; refine (HV.out _ b v C4.out).mono ?_; rintro e w5 ⟨v5, rfl, o5, g5⟩; have O5 := hid o5; have O5b := hid (O4.out.gr g5); have G5 := hid (Gr.trans G4.out g5); clear o5 g5)
    | (go_at_call 12; refine (HS.out _ _ _ _ _ O5b.out.lst O5.out.lst).mono ?_; rintro e w6 ⟨rfl, g6⟩; have G6 := hid (Gr.trans G5.out g6); clear g6)
    | (go_at_call 14; refine (HA.out _).mono ?_; rintro e w7 ⟨rfl, g7⟩; have G7 := hid (Gr.trans G6.out g7); clear g7))
  go_ret
  exact ⟨rfl, G7.out⟩
end Go.Proofs.Ytpmhmikefkgbdaa.Lt
