/-
  What the document's decimal and ahead answer. Condition: a number is an int that has an opposite.
-/
import Derived.Test.YtbehlhnnfdkmaaaGreatDoorLtText
import Derived.Laws.BytesArg
namespace Go.Proofs.YtbehlhnnfdkmaaaGreatDoor.Lt
open Go.RowKit Wd

theorem itB_lt {n : Nat} (h : n < 10) : itB (n : Nat) = { data := #[UInt8.ofNat (48 + n)] } := by
  unfold itB
  rw [Lib.itoa_nonneg, Lib.decDigits_one h]
theorem itB_ge {n : Nat} (h : ¬ n < 10) : itB (n : Nat) = itB ((n / 10 : Nat) : Nat) ++ { data := #[UInt8.ofNat (48 + n % 10)] } := by
  unfold itB
  rw [Lib.itoa_nonneg, Lib.itoa_nonneg, Lib.decDigits, dif_neg h]
  apply ByteArray.ext
  simp
theorem itB_neg {n : Nat} (h : 1 ≤ n) : itB (-(n : Int)) = { data := #[45] } ++ itB (n : Nat) := by
  unfold itB
  rw [Lib.itoa_neg n h, Lib.itoa_nonneg]
  apply ByteArray.ext
  simp
theorem conv1 (W : World) (b : Nat) (d : Nat) (h : W.cell? ⟨b, 0, none⟩ = some (.int .u8 (48 + (d : Int)))) : (convert 84 9 (.slice (some ⟨b, 0, none⟩) 1 1)).run Tryz.prog W = .ok (.string { data := #[UInt8.ofNat (48 + d)] }) W := by
  have := run_convert_bytes_arg (P := Tryz.prog) W 84 5 Tryz.underlying84 Tryz.underlying5 b 0 1 1 [48 + (d : Int)] rfl (fun i hi => by
    have : i = 0 := by omega
    subst this
    simpa using h) 9 Tryz.underlying9
  rw [this]
  have e : strOfNums [48 + (d : Int)] = { data := #[UInt8.ofNat (48 + d)] } := by
    unfold strOfNums
    have e2 : (48 + (d : Int)).toNat = 48 + d := by omega
    simp [e2]
  rw [e]
set_option maxHeartbeats 1000000 in
set_option maxRecDepth 20000 in
theorem decimal_nat : ∀ (n : Nat), n ≤ 9223372036854775807 → ∀ w : World, Calls Tryz.prog 36 #[.int .i64 (n : Nat)] w fun e w' => e = .returned (.string (itB (n : Nat))) ∧ Gr w w' := by
  intro n
  induction n using Nat.strongRecOn with
  | ind n ih =>
    intro hn w
    have h0 : ¬ ((n : Nat) : Int) < 0 := by omega
    obtain ⟨S, hS⟩ : ∃ S : ByteArray, S = itB (n : Nat) := ⟨_, rfl⟩
    rw [← hS]
    by_cases h : n < 10
    · rw [itB_lt h] at hS
      have h1 : ((n : Nat) : Int) < 10 := by omega
      have HS := hid hS
      have hwr : IntKind.u8.wrap (48 + ((n : Nat) : Int)) = 48 + ((n : Nat) : Int) := by rw [IntKind.wrap_u8]; omega
      have hcv := conv1 (w.alloc (.cells #[.int .u8 (48 + ((n : Nat) : Int))] 5)) w.heap.size n ((cell_of (MapKept.heap_alloc w _).1 0).trans rfl)
      rw [← hS] at hcv
      clear ih hS
      go_enter Tryz.func36, Tryz.ntmps36
      go_wp2
      go_ret
      exact ⟨rfl, Gr.alloc (Gr.refl w) _ _⟩
    · rw [itB_ge h] at hS
      have h1 : ¬ ((n : Nat) : Int) < 10 := by omega
      have HS := hid hS
      obtain ⟨q, hq⟩ : ∃ q, q = n / 10 := ⟨_, rfl⟩
      obtain ⟨r, hr⟩ : ∃ r, r = n % 10 := ⟨_, rfl⟩
      have IH := hid (ih q (by omega) (by omega))
      rw [← hq, ← hr] at HS
      have e1 : ((n : Nat) : Int).tdiv 10 = (q : Int) := by rw [Int.tdiv_eq_ediv_of_nonneg (by omega)]; omega
      have e2 : ((n : Nat) : Int).tmod 10 = (r : Int) := by rw [Int.tmod_eq_emod_of_nonneg (by omega)]; omega
      have e1' : ((n : Nat) : Int) / 10 = (q : Int) := by omega
      have e2' : ((n : Nat) : Int) % 10 = (r : Int) := by omega
      have e3 : IntKind.i64.wrap (q : Int) = (q : Int) := IntWalk.i64_in _ (by omega)
      have e4 : IntKind.i64.wrap (r : Int) = (r : Int) := IntWalk.i64_in _ (by omega)
      have e5 : IntKind.i64.wrap (48 + (r : Int)) = 48 + (r : Int) := IntWalk.i64_in _ (by omega)
      have e6 : IntKind.u8.wrap (48 + (r : Int)) = 48 + (r : Int) := by rw [IntKind.wrap_u8]; omega
      have hcv : ∀ (W : World) (b : Nat), W.cell? ⟨b, 0, none⟩ = some (.int .u8 (48 + (r : Int))) → (convert 84 9 (.slice (some ⟨b, 0, none⟩) 1 1)).run Tryz.prog W = .ok (.string { data := #[UInt8.ofNat (48 + r)] }) W := fun W b hc => conv1 W b r hc
      obtain ⟨S1, hS1⟩ : ∃ s : ByteArray, s = { data := #[UInt8.ofNat (48 + r)] } := ⟨_, rfl⟩
      rw [← hS1] at hcv HS
      have z1 : S1.size = 1 := by rw [hS1]; rfl
      have z2 := itB_size (q : Int) (by omega) (by omega)
      obtain ⟨S2, hS2⟩ : ∃ s : ByteArray, s = itB (q : Int) := ⟨_, rfl⟩
      rw [← hS2] at IH HS z2
      have z3 : ¬ 9223372036854775807 < S2.size + S1.size := by omega
      clear ih hS hS1 hS2 z1 z2 hq hr
      go_enter Tryz.func36, Tryz.ntmps36
      go_wp2_with fail
      refine wp_region_held_drew (S := fun _ => True) (by kernel_rfl) (by exact trivial) (fun hSx => ?_)
      clear hSx
      refine takeS_on (i := 0) 16 (v := ?v18) rfl rfl (by kernel_rfl) (by kernel_rfl) (by kernel_rfl) (fun _ _ _ h => h) (by kernel_rfl) ?hy18 (by exact trivial) ?_
      case hy18 => (intro w' hSw; go_simp; try (with_reducible rfl))
      simp only [Act.put, List.setIfInBounds_toArray, List.set_cons_zero, List.set_cons_succ]
      refine takeS_on (i := 1) 17 (v := ?v19) rfl rfl (by kernel_rfl) (by kernel_rfl) (by kernel_rfl) (fun _ _ _ h => h) (by kernel_rfl) ?hy19 (by exact trivial) ?_
      case hy19 => (intro w' hSw; go_simp; try (with_reducible rfl))
      simp only [Act.put, List.setIfInBounds_toArray, List.set_cons_zero, List.set_cons_succ]
      refine takeS_on (i := 3) 19 (v := ?v20) rfl rfl (by kernel_rfl) (by kernel_rfl) (by kernel_rfl) (fun _ _ _ h => h) (by kernel_rfl) ?hy20 (by exact trivial) ?_
      case hy20 => (intro w' hSw; go_simp; try (with_reducible rfl))
      simp only [Act.put, List.setIfInBounds_toArray, List.set_cons_zero, List.set_cons_succ]
      refine takeS_on (i := 4) 20 (v := ?v21) rfl rfl (by kernel_rfl) (by kernel_rfl) (by kernel_rfl) (fun _ _ _ h => h) (by kernel_rfl) ?hy21 (by exact trivial) ?_
      case hy21 => (intro w' hSw; go_simp; try (with_reducible rfl))
      simp only [Act.put, List.setIfInBounds_toArray, List.set_cons_zero, List.set_cons_succ]
      refine takeS_on (i := 5) 21 (v := ?v22) rfl rfl (by kernel_rfl) (by kernel_rfl) (by kernel_rfl) (fun _ _ _ h => h) (by kernel_rfl) ?hy22 (by exact trivial) ?_
      case hy22 => (intro w' hSw; go_simp; try (with_reducible rfl))
      simp only [Act.put, List.setIfInBounds_toArray, List.set_cons_zero, List.set_cons_succ]
      refine takeS_on (i := 6) 22 (v := ?v23) rfl rfl (by kernel_rfl) (by kernel_rfl) (by kernel_rfl) (fun _ _ _ h => h) (by kernel_rfl) ?hy23 (by exact trivial) ?_
      case hy23 => (intro w' hSw; go_simp; try (with_reducible rfl))
      simp only [Act.put, List.setIfInBounds_toArray, List.set_cons_zero, List.set_cons_succ]
      refine wpAnyH_ready (rs := [2, 7]) (by kernel_rfl) (by simp) (AllReadyH.cons rfl (fun K hK => ?_) (AllReadyH.cons rfl (fun K hK => ?_) AllReadyH.nil))
      · go_simp
        refine (IH.out _).mono ?_
        rintro e w3 ⟨rfl, g3⟩
        have G3 := hid (Gr.trans (Ch.drew (Gr.refl w)) g3)
        clear g3
        refine hK.out _ _ (by exact trivial) (fun hSx => ?_)
        clear hSx hK K
        refine wpAnyH_ready (rs := [7]) (by kernel_rfl) (by simp) (AllReadyH.cons rfl (fun K hK => ?_) AllReadyH.nil)
        go_simp
        refine hK.out _ _ (by exact trivial) (fun hSx => ?_)
        clear hSx hK K
        refine wpAnyH_ready (rs := [8]) (by kernel_rfl) (by simp) (AllReadyH.cons rfl (fun K hK => ?_) AllReadyH.nil)
        go_simp
        refine hK.out _ _ (by exact trivial) (fun hSx => ?_)
        clear hSx hK K
        refine takeS_on (i := 9) 25 (v := ?v24) rfl rfl (by kernel_rfl) (by kernel_rfl) (by kernel_rfl) (fun _ _ _ h => h) (by kernel_rfl) ?hy24 (by exact trivial) ?_
        case hy24 => (intro w' hSw; go_simp; try (with_reducible rfl))
        simp only [Act.put, List.setIfInBounds_toArray, List.set_cons_zero, List.set_cons_succ]
        refine takeS_on (i := 10) 2 (v := ?v25) rfl rfl (by kernel_rfl) (by kernel_rfl) (by kernel_rfl) (fun _ _ _ h => h) (by kernel_rfl) ?hy25 (by exact trivial) ?_
        case hy25 => (intro w' hSw; go_simp; try (with_reducible rfl))
        simp only [Act.put, List.setIfInBounds_toArray, List.set_cons_zero, List.set_cons_succ]
        refine wpAnyH_done (by kernel_rfl) ?_ _
        go_wp2
        go_ret
        exact ⟨by rw [HS.out]; rfl, Ch.alloc G3.out _⟩
      · go_simp
        refine hK.out _ _ (by exact trivial) (fun hSx => ?_)
        clear hSx hK K
        refine wpAnyH_ready (rs := [2, 8]) (by kernel_rfl) (by simp) (AllReadyH.cons rfl (fun K hK => ?_) (AllReadyH.cons rfl (fun K hK => ?_) AllReadyH.nil))
        · go_simp
          refine (IH.out _).mono ?_
          rintro e w3 ⟨rfl, g3⟩
          have G3 := hid (Gr.trans (Ch.drew (Ch.alloc (Gr.refl w) (.cells #[.int .u8 (48 + (r : Int))] 5))) g3)
          have c3 : w3.cell? ⟨w.heap.size, 0, none⟩ = some (.int .u8 (48 + (r : Int))) := (Ch.cell g3 (b := w.heap.size) (o := 0) (by simp) (noB _)).trans ((cell_of (MapKept.heap_alloc w (.cells #[.int .u8 (48 + (r : Int))] 5)).1 0).trans rfl)
          clear g3
          refine hK.out _ _ (by exact trivial) (fun hSx => ?_)
          clear hSx hK K
          refine wpAnyH_ready (rs := [8]) (by kernel_rfl) (by simp) (AllReadyH.cons rfl (fun K hK => ?_) AllReadyH.nil)
          go_simp
          refine hK.out _ _ (by exact trivial) (fun hSx => ?_)
          clear hSx hK K
          refine takeS_on (i := 9) 25 (v := ?v26) rfl rfl (by kernel_rfl) (by kernel_rfl) (by kernel_rfl) (fun _ _ _ h => h) (by kernel_rfl) ?hy26 (by exact trivial) ?_
          case hy26 => (intro w' hSw; go_simp; try (with_reducible rfl))
          simp only [Act.put, List.setIfInBounds_toArray, List.set_cons_zero, List.set_cons_succ]
          refine takeS_on (i := 10) 2 (v := ?v27) rfl rfl (by kernel_rfl) (by kernel_rfl) (by kernel_rfl) (fun _ _ _ h => h) (by kernel_rfl) ?hy27 (by exact trivial) ?_
          case hy27 => (intro w' hSw; go_simp; try (with_reducible rfl))
          simp only [Act.put, List.setIfInBounds_toArray, List.set_cons_zero, List.set_cons_succ]
          refine wpAnyH_done (by kernel_rfl) ?_ _
          go_wp2
          go_ret
          exact ⟨by rw [HS.out]; rfl, G3.out⟩
        · go_simp
          refine hK.out _ _ (by exact trivial) (fun hSx => ?_)
          clear hSx hK K
          refine wpAnyH_ready (rs := [2]) (by kernel_rfl) (by simp) (AllReadyH.cons rfl (fun K hK => ?_) AllReadyH.nil)
          go_simp
          refine (IH.out _).mono ?_
          rintro e w3 ⟨rfl, g3⟩
          have G3 := hid (Gr.trans (Ch.drew (Ch.alloc (Gr.refl w) (.cells #[.int .u8 (48 + (r : Int))] 5))) g3)
          have c3 : w3.cell? ⟨w.heap.size, 0, none⟩ = some (.int .u8 (48 + (r : Int))) := (Ch.cell g3 (b := w.heap.size) (o := 0) (by simp) (noB _)).trans ((cell_of (MapKept.heap_alloc w (.cells #[.int .u8 (48 + (r : Int))] 5)).1 0).trans rfl)
          clear g3
          refine hK.out _ _ (by exact trivial) (fun hSx => ?_)
          clear hSx hK K
          refine takeS_on (i := 9) 25 (v := ?v28) rfl rfl (by kernel_rfl) (by kernel_rfl) (by kernel_rfl) (fun _ _ _ h => h) (by kernel_rfl) ?hy28 (by exact trivial) ?_
          case hy28 => (intro w' hSw; go_simp; try (with_reducible rfl))
          simp only [Act.put, List.setIfInBounds_toArray, List.set_cons_zero, List.set_cons_succ]
          refine takeS_on (i := 10) 2 (v := ?v29) rfl rfl (by kernel_rfl) (by kernel_rfl) (by kernel_rfl) (fun _ _ _ h => h) (by kernel_rfl) ?hy29 (by exact trivial) ?_
          case hy29 => (intro w' hSw; go_simp; try (with_reducible rfl))
          simp only [Act.put, List.setIfInBounds_toArray, List.set_cons_zero, List.set_cons_succ]
          refine wpAnyH_done (by kernel_rfl) ?_ _
          go_wp2
          go_ret
          exact ⟨by rw [HS.out]; rfl, G3.out⟩
theorem decimal_any (n : Int) (h0 : -9223372036854775807 ≤ n) (h1 : n ≤ 9223372036854775807) (w : World) : Calls Tryz.prog 36 #[.int .i64 n] w fun e w' => e = .returned (.string (itB n)) ∧ Gr w w' := by
  by_cases h : 0 ≤ n
  · have e : n = ((n.toNat : Nat) : Int) := by omega
    rw [e]
    exact decimal_nat n.toNat (by omega) w
  · obtain ⟨k, hk⟩ : ∃ k : Nat, n = -(k : Int) := ⟨(-n).toNat, by omega⟩
    subst hk
    have hk1 : 1 ≤ k := by omega
    have HD := hid (decimal_nat k (by omega))
    have hS := itB_neg hk1
    obtain ⟨S, hS'⟩ : ∃ S, S = itB (-(k : Int)) := ⟨_, rfl⟩
    rw [← hS'] at hS ⊢
    have z := itB_size (k : Int) (by omega) (by omega)
    obtain ⟨S2, hS2⟩ : ∃ s : ByteArray, s = itB (k : Int) := ⟨_, rfl⟩
    rw [← hS2] at HD hS z
    have HS := hid hS
    have g1 : -(k : Int) < 0 := by omega
    have g2 : wrap64 (0 - -(k : Int)) = (k : Int) := by unfold wrap64; omega
    clear hS hS' hS2
    go_enter Tryz.func36, Tryz.ntmps36
    go_wp2_with (go_at_call 36; refine (HD.out _).mono ?_; rintro e w1 ⟨rfl, hg⟩)
    go_ret
    exact ⟨by rw [HS.out]; rfl, hg⟩
/-- what stands ahead of a number -/
def ahd (o : Int) : ByteArray := if knd o = 1 then { data := #[76] } else if knd o = 2 then { data := #[102] } else if knd o = 3 then { data := #[116] } else { data := #[] }
theorem ahead_any (o : Int) (w : World) : Calls Tryz.prog 37 #[.int .i64 o] w fun e w' => e = .returned (.string (ahd o)) ∧ w' = w := by
  rcases (by omega : o = 17 ∨ o = 18 ∨ o = 19 ∨ o = 20 ∨ o = 22 ∨ o = 34 ∨ (¬ o = 17 ∧ ¬ o = 18 ∧ ¬ o = 19 ∧ ¬ o = 20 ∧ ¬ o = 22 ∧ ¬ o = 34)) with rfl | rfl | rfl | rfl | rfl | rfl | ⟨h1, h2, h3, h4, h5, h6⟩
  case inr.inr.inr.inr.inr.inr =>
    have e1 : ahd o = { data := #[] } := by unfold ahd knd; simp [h1, h2, h3, h4, h5, h6]
    rw [e1]
    clear e1
    go_enter Tryz.func37, Tryz.ntmps37
    go_wp2
    go_ret
    exact ⟨rfl, rfl⟩
  all_goals
    go_enter Tryz.func37, Tryz.ntmps37
    go_wp2
    go_ret
    exact ⟨rfl, rfl⟩
theorem ba_assoc (a b c : ByteArray) : (a ++ b) ++ c = a ++ (b ++ c) := by
  apply ByteArray.ext
  simp [Array.append_assoc]
theorem ahd_cal (o n : Int) : ahd o ++ itB n = cal (knd o) n := by
  unfold ahd cal
  repeat' split
  all_goals first | rfl | (apply ByteArray.ext; simp)
end Go.Proofs.YtbehlhnnfdkmaaaGreatDoor.Lt
