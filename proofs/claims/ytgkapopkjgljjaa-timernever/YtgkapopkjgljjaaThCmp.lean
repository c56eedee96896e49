/-
  What cmp.Compare, cmp.Or and compare answer. No conditions.
-/
import Derived.Test.YtgkapopkjgljjaaThMap
import Derived.Handy
namespace Go.Proofs.Ytgkapopkjgljjaa.Hp
open Go.RowKit Wd
attribute [local go_sem ↓] Go.wp_at_zero Go.wp_at_succ

/-- what cmp.Compare answers -/
def cmpI (x y : Int) : Int := if x < y then -1 else if y < x then 1 else 0
/-- what cmp.Or answers -/
def orI (a b : Int) : Int := if a = 0 then b else a
/-- what compare answers -/
def cmpD (x y : W3) : Int := orI (cmpI x.w y.w) (cmpI x.n y.n)
theorem cmpD_lt (x y : W3) : decide (cmpD x y < 0) = lt x y := by
  unfold cmpD orI cmpI lt
  apply decide_eq_decide.2
  split <;> (repeat' split) <;> constructor <;> intro _ <;> omega
theorem isNaNU_any (x : Int) (w : World) : Calls Try.prog 63 #[.int .u64 x] w fun e w' => e = .returned (.bool false) ∧ w' = w := by
  go_enter Try.func63, Try.ntmps63
  go_wp2
  all_goals go_ret
  all_goals first | exact ⟨rfl, rfl⟩ | simp
set_option maxHeartbeats 1000000 in
theorem compareU_any (x y : Int) (w : World) : Calls Try.prog 51 #[.int .u64 x, .int .u64 y] w fun e w' => e = .returned (.int .i64 (cmpI x y)) ∧ w' = w := by
  have h : (decide (x < y) = true ∧ cmpI x y = -1) ∨ (decide (x < y) = false ∧ decide (y < x) = true ∧ cmpI x y = 1) ∨ (decide (x < y) = false ∧ decide (y < x) = false ∧ cmpI x y = 0) := by
    unfold cmpI
    by_cases h1 : x < y
    · exact .inl ⟨decide_eq_true h1, if_pos h1⟩
    · by_cases h2 : y < x
      · exact .inr (.inl ⟨decide_eq_false h1, decide_eq_true h2, by rw [if_neg h1, if_pos h2]⟩)
      · exact .inr (.inr ⟨decide_eq_false h1, decide_eq_false h2, by rw [if_neg h1, if_neg h2]⟩)
  rcases h with ⟨h1, h3⟩ | ⟨h1, h2, h3⟩ | ⟨h1, h2, h3⟩
  · rw [h3]
    clear h3
    go_enter Try.func51, Try.ntmps51
    go_wp2_with fail
    refine (isNaNU_any x _).mono ?_
    rintro e w1 ⟨rfl, rfl⟩
    go_wp2_with fail
    refine (isNaNU_any y _).mono ?_
    rintro e w1 ⟨rfl, rfl⟩
    go_wp2
    go_ret
    exact ⟨rfl, rfl⟩
  · rw [h3]
    clear h3
    go_enter Try.func51, Try.ntmps51
    go_wp2_with fail
    refine (isNaNU_any x _).mono ?_
    rintro e w1 ⟨rfl, rfl⟩
    go_wp2_with fail
    refine (isNaNU_any y _).mono ?_
    rintro e w1 ⟨rfl, rfl⟩
    go_wp2
    go_ret
    exact ⟨rfl, rfl⟩
  · rw [h3]
    clear h3
    go_enter Try.func51, Try.ntmps51
    go_wp2_with fail
    refine (isNaNU_any x _).mono ?_
    rintro e w1 ⟨rfl, rfl⟩
    go_wp2_with fail
    refine (isNaNU_any y _).mono ?_
    rintro e w1 ⟨rfl, rfl⟩
    go_wp2
    go_ret
    exact ⟨rfl, rfl⟩
theorem isNaNI_any (x : Int) (w : World) : Calls Try.prog 89 #[.int .i64 x] w fun e w' => e = .returned (.bool false) ∧ w' = w := by
  go_enter Try.func89, Try.ntmps89
  go_wp2
  all_goals go_ret
  all_goals first | exact ⟨rfl, rfl⟩ | simp
set_option maxHeartbeats 1000000 in
theorem compareI_any (x y : Int) (w : World) : Calls Try.prog 77 #[.int .i64 x, .int .i64 y] w fun e w' => e = .returned (.int .i64 (cmpI x y)) ∧ w' = w := by
  have h : (decide (x < y) = true ∧ cmpI x y = -1) ∨ (decide (x < y) = false ∧ decide (y < x) = true ∧ cmpI x y = 1) ∨ (decide (x < y) = false ∧ decide (y < x) = false ∧ cmpI x y = 0) := by
    unfold cmpI
    by_cases h1 : x < y
    · exact .inl ⟨decide_eq_true h1, if_pos h1⟩
    · by_cases h2 : y < x
      · exact .inr (.inl ⟨decide_eq_false h1, decide_eq_true h2, by rw [if_neg h1, if_pos h2]⟩)
      · exact .inr (.inr ⟨decide_eq_false h1, decide_eq_false h2, by rw [if_neg h1, if_neg h2]⟩)
  rcases h with ⟨h1, h3⟩ | ⟨h1, h2, h3⟩ | ⟨h1, h2, h3⟩
  · rw [h3]
    clear h3
    go_enter Try.func77, Try.ntmps77
    go_wp2_with fail
    refine (isNaNI_any x _).mono ?_
    rintro e w1 ⟨rfl, rfl⟩
    go_wp2_with fail
    refine (isNaNI_any y _).mono ?_
    rintro e w1 ⟨rfl, rfl⟩
    go_wp2
    go_ret
    exact ⟨rfl, rfl⟩
  · rw [h3]
    clear h3
    go_enter Try.func77, Try.ntmps77
    go_wp2_with fail
    refine (isNaNI_any x _).mono ?_
    rintro e w1 ⟨rfl, rfl⟩
    go_wp2_with fail
    refine (isNaNI_any y _).mono ?_
    rintro e w1 ⟨rfl, rfl⟩
    go_wp2
    go_ret
    exact ⟨rfl, rfl⟩
  · rw [h3]
    clear h3
    go_enter Try.func77, Try.ntmps77
    go_wp2_with fail
    refine (isNaNI_any x _).mono ?_
    rintro e w1 ⟨rfl, rfl⟩
    go_wp2_with fail
    refine (isNaNI_any y _).mono ?_
    rintro e w1 ⟨rfl, rfl⟩
    go_wp2
    go_ret
    exact ⟨rfl, rfl⟩
set_option maxHeartbeats 1000000 in
theorem or_any (k : Nat) (a b : Int) (w : World) (h0 : w.cell? ⟨k, 0, none⟩ = some (.int .i64 a)) (h1 : w.cell? ⟨k, 1, none⟩ = some (.int .i64 b)) : Calls Try.prog 76 #[.slice (some ⟨k, 0, none⟩) 2 2] w fun e w' => e = .returned (.int .i64 (orI a b)) ∧ w' = w := by
  by_cases ha : a = 0
  · subst ha
    by_cases hb : b = 0
    · subst hb
      rw [show orI 0 0 = 0 from rfl]
      go_enter Try.func76, Try.ntmps76
      go_wp2_with fail
      go_rounds 3
      all_goals go_ret
      all_goals exact ⟨rfl, rfl⟩
    · have hb1 : (b == 0) = false := by simpa using hb
      rw [show orI 0 b = b from if_pos rfl]
      go_enter Try.func76, Try.ntmps76
      go_wp2_with fail
      go_rounds 3
      all_goals go_ret
      all_goals exact ⟨rfl, rfl⟩
  · have ha1 : (a == 0) = false := by simpa using ha
    rw [show orI a b = a from if_neg ha]
    go_enter Try.func76, Try.ntmps76
    go_wp2_with fail
    go_rounds 3
    all_goals go_ret
    all_goals exact ⟨rfl, rfl⟩
set_option maxHeartbeats 2000000 in
theorem comp_any (x y : W3) (w : World) : Calls Try.prog 68 #[.agg #[.int .u64 x.w, .int .i64 x.n], .agg #[.int .u64 y.w, .int .i64 y.n]] w fun e w' => e = .returned (.int .i64 (cmpD x y)) ∧ Ch NoB w w' := by
  go_enter Try.func68, Try.ntmps68
  go_wp2_with fail
  obtain ⟨W1, hW1⟩ : ∃ W, W = (w.alloc (.cells #[.int .u64 x.w, .int .i64 x.n] 117)).alloc (.cells #[.int .u64 y.w, .int .i64 y.n] 117) := ⟨_, rfl⟩
  obtain ⟨ka, hka⟩ : ∃ k, k = w.heap.size := ⟨_, rfl⟩
  obtain ⟨kb, hkb⟩ : ∃ k, k = w.heap.size + 1 := ⟨_, rfl⟩
  have hS0 : (W1.cell? ⟨ka, 0, none⟩ = some (.int .u64 x.w) ∧ W1.cell? ⟨ka, 1, none⟩ = some (.int .i64 x.n) ∧ W1.cell? ⟨kb, 0, none⟩ = some (.int .u64 y.w) ∧ W1.cell? ⟨kb, 1, none⟩ = some (.int .i64 y.n)) := by rw [hW1, hka, hkb]; simp
  have ka1 : ka < W1.heap.size := by rw [hW1, hka]; simp; omega
  have kb1 : kb < W1.heap.size := by rw [hW1, hkb]; simp
  have HG := hid (show Ch NoB w W1 by rw [hW1]; exact ((Ch.refl _ _).alloc _).alloc _)
  rw [← hW1, ← hkb, ← hka]
  clear hW1 hka hkb
  refine wp_region_held_drew (S := fun w' => w'.cell? ⟨ka, 0, none⟩ = some (.int .u64 x.w) ∧ w'.cell? ⟨ka, 1, none⟩ = some (.int .i64 x.n) ∧ w'.cell? ⟨kb, 0, none⟩ = some (.int .u64 y.w) ∧ w'.cell? ⟨kb, 1, none⟩ = some (.int .i64 y.n)) (by kernel_rfl) (by exact hS0) (fun _ => ?_)
  refine takeS_on (i := 0) 5 (v := ?v1) rfl rfl (by kernel_rfl) (by kernel_rfl) (by kernel_rfl) (fun _ _ _ h => h) (by kernel_rfl) ?hy1 (by exact hS0) ?_
  case hy1 => (intro w' hSw; go_simp; try (with_reducible rfl))
  simp only [Act.put, List.setIfInBounds_toArray, List.set_cons_zero, List.set_cons_succ]
  refine takeS_on (i := 1) 6 (v := ?v2) rfl rfl (by kernel_rfl) (by kernel_rfl) (by kernel_rfl) (fun _ _ _ h => h) (by kernel_rfl) ?hy2 (by exact hS0) ?_
  case hy2 => (intro w' hSw; go_simp; try (with_reducible rfl))
  simp only [Act.put, List.setIfInBounds_toArray, List.set_cons_zero, List.set_cons_succ]
  refine takeS_on (i := 2) 7 (v := ?v3) rfl rfl (by kernel_rfl) (by kernel_rfl) (by kernel_rfl) (fun _ _ _ h => h) (by kernel_rfl) ?hy3 (by exact hS0) ?_
  case hy3 => (intro w' hSw; go_simp; try (with_reducible rfl))
  simp only [Act.put, List.setIfInBounds_toArray, List.set_cons_zero, List.set_cons_succ]
  refine takeS_on (i := 3) 8 (v := ?v4) rfl rfl (by kernel_rfl) (by kernel_rfl) (by kernel_rfl) (fun _ _ _ h => h) (by kernel_rfl) ?hy4 (by exact hS0) ?_
  case hy4 => (intro w' hSw; go_simp; try (with_reducible rfl))
  simp only [Act.put, List.setIfInBounds_toArray, List.set_cons_zero, List.set_cons_succ]
  refine takeS_on (i := 5) 10 (v := ?v5) rfl rfl (by kernel_rfl) (by kernel_rfl) (by kernel_rfl) (fun _ _ _ h => h) (by kernel_rfl) ?hy5 (by exact hS0) ?_
  case hy5 => (intro w' hSw; go_simp; try (with_reducible rfl))
  simp only [Act.put, List.setIfInBounds_toArray, List.set_cons_zero, List.set_cons_succ]
  refine takeS_on (i := 6) 11 (v := ?v6) rfl rfl (by kernel_rfl) (by kernel_rfl) (by kernel_rfl) (fun _ _ _ h => h) (by kernel_rfl) ?hy6 (by exact hS0) ?_
  case hy6 => (intro w' hSw; go_simp; try (with_reducible rfl))
  simp only [Act.put, List.setIfInBounds_toArray, List.set_cons_zero, List.set_cons_succ]
  refine takeS_on (i := 7) 12 (v := ?v7) rfl rfl (by kernel_rfl) (by kernel_rfl) (by kernel_rfl) (fun _ _ _ h => h) (by kernel_rfl) ?hy7 (by exact hS0) ?_
  case hy7 => (intro w' hSw; go_simp; try (with_reducible rfl))
  simp only [Act.put, List.setIfInBounds_toArray, List.set_cons_zero, List.set_cons_succ]
  refine takeS_on (i := 8) 13 (v := ?v8) rfl rfl (by kernel_rfl) (by kernel_rfl) (by kernel_rfl) (fun _ _ _ h => h) (by kernel_rfl) ?hy8 (by exact hS0) ?_
  case hy8 => (intro w' hSw; go_simp; try (with_reducible rfl))
  simp only [Act.put, List.setIfInBounds_toArray, List.set_cons_zero, List.set_cons_succ]
  refine wpAnyH_ready (rs := [4]) (by kernel_rfl) (by simp) (AllReadyH.cons rfl (fun K hK => ?_) AllReadyH.nil)
  go_simp
  refine (compareU_any x.w y.w _).mono ?_
  rintro e v4 ⟨rfl, rfl⟩
  refine hK.out _ _ (by exact hS0) (fun _ => ?_)
  clear hK K
  refine wpAnyH_ready (rs := [9]) (by kernel_rfl) (by simp) (AllReadyH.cons rfl (fun K hK => ?_) AllReadyH.nil)
  go_simp
  refine (compareI_any x.n y.n _).mono ?_
  rintro e v9 ⟨rfl, rfl⟩
  refine hK.out _ _ (by exact hS0) (fun _ => ?_)
  clear hK K
  refine wpAnyH_ready (rs := [10]) (by kernel_rfl) (by simp) (AllReadyH.cons rfl (fun K hK => ?_) AllReadyH.nil)
  go_simp
  have hS1 : ((W1.alloc (.cells #[.int .i64 (cmpI x.w y.w), .int .i64 (cmpI x.n y.n)] 3)).cell? ⟨ka, 0, none⟩ = some (.int .u64 x.w) ∧ (W1.alloc (.cells #[.int .i64 (cmpI x.w y.w), .int .i64 (cmpI x.n y.n)] 3)).cell? ⟨ka, 1, none⟩ = some (.int .i64 x.n) ∧ (W1.alloc (.cells #[.int .i64 (cmpI x.w y.w), .int .i64 (cmpI x.n y.n)] 3)).cell? ⟨kb, 0, none⟩ = some (.int .u64 y.w) ∧ (W1.alloc (.cells #[.int .i64 (cmpI x.w y.w), .int .i64 (cmpI x.n y.n)] 3)).cell? ⟨kb, 1, none⟩ = some (.int .i64 y.n)) := ⟨(((Ch.refl NoB W1).alloc _).cell ka1 (noB _)).trans hS0.1, (((Ch.refl NoB W1).alloc _).cell ka1 (noB _)).trans hS0.2.1, (((Ch.refl NoB W1).alloc _).cell kb1 (noB _)).trans hS0.2.2.1, (((Ch.refl NoB W1).alloc _).cell kb1 (noB _)).trans hS0.2.2.2⟩
  refine hK.out _ _ (by exact hS1) (fun _ => ?_)
  clear hK K
  refine wpAnyH_ready (rs := [11]) (by kernel_rfl) (by simp) (AllReadyH.cons rfl (fun K hK => ?_) AllReadyH.nil)
  go_simp
  refine (or_any W1.heap.size (cmpI x.w y.w) (cmpI x.n y.n) _ (by simp) (by simp)).mono ?_
  rintro e v11 ⟨rfl, rfl⟩
  refine hK.out _ _ (by exact hS1) (fun _ => ?_)
  clear hK K
  refine takeS_on (i := 12) 4 (v := ?v9) rfl rfl (by kernel_rfl) (by kernel_rfl) (by kernel_rfl) (fun _ _ _ h => h) (by kernel_rfl) ?hy9 (by exact hS1) ?_
  case hy9 => (intro w' hSw; go_simp; try (with_reducible rfl))
  simp only [Act.put, List.setIfInBounds_toArray, List.set_cons_zero, List.set_cons_succ]
  refine wpAnyH_done (by kernel_rfl) ?_ _
  go_wp2
  go_ret
  exact ⟨rfl, (HG.out.alloc _).drew⟩
end Go.Proofs.Ytgkapopkjgljjaa.Hp
