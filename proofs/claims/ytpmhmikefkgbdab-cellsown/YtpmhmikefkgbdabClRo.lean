/-
  What the document's Load, New and Same of layer 10 answer, and its calls where there is no such cell. No conditions.
-/
import Derived.Test.YtpmhmikefkgbdabClRef
namespace Go.Proofs.Ytpmhmikefkgbdab.Lt
open Go.RowKit Wd
attribute [local go_sem ↓] Go.wp_at_zero Go.wp_at_succ

set_option maxHeartbeats 2000000 in
theorem rload_yes (P : Nat → Prop) (w : World) (ao : Option Addr) (cap : Nat) (vs : List Int) (h : Ls eI P w (.slice ao vs.length cap) vs) (j : Nat) (oo ov : Int) (hj : j < vs.length) :
    Calls Try.prog 26 #[.slice ao vs.length cap, .int .i64 (j : Int)] w fun e w' => e = .returned (.tuple #[(told ⟨1, (j : Int), oo, ov⟩ vs).val, .int .i64 (terr ⟨1, (j : Int), oo, ov⟩ vs)]) ∧ Gr w w' := by
  have hp : isP (j : Int) vs.length = true := decide_eq_true (by omega)
  have hx := inC_get hj
  obtain ⟨g, o, cap', hv, _, hgl, _, hcs⟩ := h.get eI_len hx
  injection hv with hv1 hv2 hv3
  subst hv1
  have c0 := hcs 0 _ rfl
  simp only [Nat.mul_one, Nat.add_zero] at c0
  have hji : (j : Int) < (vs.length : Int) := by omega
  have HI := hid (fun (i : Int) (ao : Option Addr) (n cap : Nat) (W : World) => ris_any i ao n cap W)
  have hS0 := Sr.new w g (o + j) _ hgl c0
  obtain ⟨e1, e2, -⟩ := told_yes (o := ⟨1, (j : Int), oo, ov⟩) (vs := vs) hp
  have E1 := hid e1
  have E2 := hid e2
  clear hcs hv2 hv3 h e1 e2
  go_enter Try.func26, Try.ntmps26
  go_wp2_with (go_at_call 32; refine (HI.out _ _ _ _ _).mono ?_; rw [hp]; rintro e w1 ⟨rfl, hw⟩; have hw := hw.symm; subst hw)
  refine wp_region_held_drew (S := Sr w ⟨g, o + j, none⟩ (inC vs (j : Int))) (by kernel_rfl) (by exact hS0) (fun _ => ?_)
  refine takeS_on (i := 0) 11 (v := ?v1) rfl rfl (by kernel_rfl) (by kernel_rfl) (by kernel_rfl) (fun _ _ _ h => h) (by kernel_rfl) ?hy1 (by exact hS0) ?_
  case hy1 => (intro w' hSw; go_simp; try (with_reducible rfl))
  simp only [Act.put, List.setIfInBounds_toArray, List.set_cons_zero, List.set_cons_succ]
  refine takeS_on (i := 1) 12 (v := ?v2) rfl rfl (by kernel_rfl) (by kernel_rfl) (by kernel_rfl) (fun _ _ _ h => h) (by kernel_rfl) ?hy2 (by exact hS0) ?_
  case hy2 => (intro w' hSw; go_simp; try (with_reducible rfl))
  simp only [Act.put, List.setIfInBounds_toArray, List.set_cons_zero, List.set_cons_succ]
  refine takeS_on (i := 2) 13 (v := ?v3) rfl rfl (by kernel_rfl) (by kernel_rfl) (by kernel_rfl) (fun _ _ _ h => h) (by kernel_rfl) ?hy3 (by exact hS0) ?_
  case hy3 => (intro w' hSw; go_simp; try (with_reducible rfl))
  simp only [Act.put, List.setIfInBounds_toArray, List.set_cons_zero, List.set_cons_succ]
  refine takeS_on (i := 3) 14 (v := ?v4) rfl rfl (by kernel_rfl) (by kernel_rfl) (by kernel_rfl) (fun _ _ _ h => h) (by kernel_rfl) ?hy4 (by exact hS0) ?_
  case hy4 => (intro w' hSw; go_simp; try (with_reducible rfl))
  simp only [Act.put, List.setIfInBounds_toArray, List.set_cons_zero, List.set_cons_succ]
  refine takeS_on (i := 4) 15 (v := ?v5) rfl rfl (by kernel_rfl) (by kernel_rfl) (by kernel_rfl) (fun _ _ _ h => h) (by kernel_rfl) ?hy5 (by exact hS0) ?_
  case hy5 => (intro w' hSw; have c5 := hSw.f; go_simp; try (with_reducible rfl))
  simp only [Act.put, List.setIfInBounds_toArray, List.set_cons_zero, List.set_cons_succ]
  refine takeS_on (i := 5) 16 (v := ?v6) rfl rfl (by kernel_rfl) (by kernel_rfl) (by kernel_rfl) (fun _ _ _ h => h) (by kernel_rfl) ?hy6 (by exact hS0) ?_
  case hy6 => (intro w' hSw; go_simp; try (with_reducible rfl))
  simp only [Act.put, List.setIfInBounds_toArray, List.set_cons_zero, List.set_cons_succ]
  refine takeS_on (i := 6) 17 (v := ?v7) rfl rfl (by kernel_rfl) (by kernel_rfl) (by kernel_rfl) (fun _ _ _ h => h) (by kernel_rfl) ?hy7 (by exact hS0) ?_
  case hy7 => (intro w' hSw; go_simp; try (with_reducible rfl))
  simp only [Act.put, List.setIfInBounds_toArray, List.set_cons_zero, List.set_cons_succ]
  refine takeS_on (i := 7) 18 (v := ?v8) rfl rfl (by kernel_rfl) (by kernel_rfl) (by kernel_rfl) (fun _ _ _ h => h) (by kernel_rfl) ?hy8 (by exact hS0) ?_
  case hy8 => (intro w' hSw; go_simp; try (with_reducible rfl))
  simp only [Act.put, List.setIfInBounds_toArray, List.set_cons_zero, List.set_cons_succ]
  refine takeS_on (i := 8) 19 (v := ?v9) rfl rfl (by kernel_rfl) (by kernel_rfl) (by kernel_rfl) (fun _ _ _ h => h) (by kernel_rfl) ?hy9 (by exact hS0) ?_
  case hy9 => (intro w' hSw; have c5 := hSw.f; go_simp; try (with_reducible rfl))
  simp only [Act.put, List.setIfInBounds_toArray, List.set_cons_zero, List.set_cons_succ]
  refine takeS_on (i := 9) 20 (v := ?v10) rfl rfl (by kernel_rfl) (by kernel_rfl) (by kernel_rfl) (fun _ _ _ h => h) (by kernel_rfl) ?hy10 (by exact hS0) ?_
  case hy10 => (intro w' hSw; go_simp; try (with_reducible rfl))
  simp only [Act.put, List.setIfInBounds_toArray, List.set_cons_zero, List.set_cons_succ]
  refine wpAnyH_ready (rs := [10]) (by kernel_rfl) (by simp) (AllReadyH.cons rfl (fun K hK => ?_) AllReadyH.nil)
  rw [if_pos (by kernel_rfl)]
  obtain ⟨old, ht, hsz⟩ := hS0.t
  refine wp_store_row 28 (.tmp 4) (.tmp 20) rfl w.heap.size #[.int .i64 (j : Int), .int .i64 1, .int .i64 (inC vs (j : Int)), .int .i64 (inC vs (j : Int)), .bool false] rfl rfl _ _ ht acc_size hsz (one5 _ _ _ _ _) ?_
  have b3 := setRow_blk (c := #[.int .i64 (j : Int), .int .i64 1, .int .i64 (inC vs (j : Int)), .int .i64 (inC vs (j : Int)), .bool false]) ht
  have hS1 := hS0.st (setRow_ch _ w.heap.size #[.int .i64 (j : Int), .int .i64 1, .int .i64 (inC vs (j : Int)), .int .i64 (inC vs (j : Int)), .bool false]) b3 rfl
  clear ht hsz
  have B3 := hid b3
  clear b3
  refine hK.out _ _ (by exact hS1) (fun _ => ?_)
  clear hK K
  refine takeS_on (i := 11) 5 (v := ?v11) rfl rfl (by kernel_rfl) (by kernel_rfl) (by kernel_rfl) (fun _ _ _ h => h) (by kernel_rfl) ?hy11 (by exact hS1) ?_
  case hy11 => (intro w' hSw; go_simp; try (with_reducible rfl))
  simp only [Act.put, List.setIfInBounds_toArray]
  refine wpAnyH_done (by kernel_rfl) ?_ _
  go_wp2_with fail
  refine bodyPost_ret (results_cell_tmp2 rfl _ _ w.heap.size _ rfl (run_loadVar_row _ _ _ _ _ _ _ B3.out Try.underlying28 rfl acc_size)) rfl ?_
  exact ⟨by rw [E1.out, E2.out]; rfl, hS1.g⟩

theorem rload_no (w : World) (ao : Option Addr) (cap : Nat) (vs : List Int) (o : O4) (hp : isP o.c vs.length = false) :
    Calls Try.prog 26 #[.slice ao vs.length cap, .int .i64 o.c] w fun e w' => e = .returned (.tuple #[(told o vs).val, .int .i64 (terr o vs)]) ∧ Gr w w' := by
  obtain ⟨e1, e2, -⟩ := told_no hp
  have HI := hid (fun (i : Int) (ao : Option Addr) (n cap : Nat) (W : World) => ris_any i ao n cap W)
  have HR := hid (show ∀ w', Gr w w' → (.returned (.tuple #[.agg #[.int .i64 0, .int .i64 0, .int .i64 0, .int .i64 0, .bool false], .int .i64 100]) : Ending) = .returned (.tuple #[(told o vs).val, .int .i64 (terr o vs)]) ∧ Gr w w' from fun w' g => ⟨by rw [e1, e2]; rfl, g⟩)
  clear e1 e2
  go_enter Try.func26, Try.ntmps26
  go_wp2_with (go_at_call 32; refine (HI.out _ _ _ _ _).mono ?_; rw [hp]; rintro e w1 ⟨rfl, hw⟩; have hw := hw.symm; subst hw)
  exact bodyPost_ret (v := .tuple #[.agg #[.int .i64 0, .int .i64 0, .int .i64 0, .int .i64 0, .bool false], .int .i64 100]) (by simp [results, Try.results26, go_sem]) rfl (HR.out _ (Gr.alloc (Gr.refl w) _ _))
theorem rstore_no (P : Nat → Prop) (w : World) (ao : Option Addr) (cap : Nat) (vs : List Int) (h : Ls eI P w (.slice ao vs.length cap) vs) (o : O4) (hp : isP o.c vs.length = false) :
    Calls Try.prog 27 #[.slice ao vs.length cap, .int .i64 o.c, .int .i64 o.v] w (RfR P w vs o) := by
  have HI := hid (fun (i : Int) (ao : Option Addr) (n cap : Nat) (W : World) => ris_any i ao n cap W)
  have HR := hid (fun w' (g : Gr w w') => RfR.no (o := o) h hp g)
  clear h
  go_enter Try.func27, Try.ntmps27
  go_wp2_with (go_at_call 32; refine (HI.out _ _ _ _ _).mono ?_; rw [hp]; rintro e w1 ⟨rfl, hw⟩; have hw := hw.symm; subst hw)
  exact bodyPost_ret (v := .tuple #[.slice ao vs.length cap, .agg #[.int .i64 0, .int .i64 0, .int .i64 0, .int .i64 0, .bool false], .int .i64 100]) (by simp [results, Try.results27, go_sem]) rfl (HR.out _ (Gr.alloc (Gr.refl w) _ _))
theorem rswap_no (P : Nat → Prop) (w : World) (ao : Option Addr) (cap : Nat) (vs : List Int) (h : Ls eI P w (.slice ao vs.length cap) vs) (o : O4) (hp : isP o.c vs.length = false) :
    Calls Try.prog 28 #[.slice ao vs.length cap, .int .i64 o.c, .int .i64 o.o, .int .i64 o.v] w (RfR P w vs o) := by
  have HI := hid (fun (i : Int) (ao : Option Addr) (n cap : Nat) (W : World) => ris_any i ao n cap W)
  have HR := hid (fun w' (g : Gr w w') => RfR.no (o := o) h hp g)
  clear h
  go_enter Try.func28, Try.ntmps28
  go_wp2_with (go_at_call 32; refine (HI.out _ _ _ _ _).mono ?_; rw [hp]; rintro e w1 ⟨rfl, hw⟩; have hw := hw.symm; subst hw)
  exact bodyPost_ret (v := .tuple #[.slice ao vs.length cap, .agg #[.int .i64 0, .int .i64 0, .int .i64 0, .int .i64 0, .bool false], .int .i64 100]) (by simp [results, Try.results28, go_sem]) rfl (HR.out _ (Gr.alloc (Gr.refl w) _ _))
theorem radd_no (P : Nat → Prop) (w : World) (ao : Option Addr) (cap : Nat) (vs : List Int) (h : Ls eI P w (.slice ao vs.length cap) vs) (o : O4) (hp : isP o.c vs.length = false) :
    Calls Try.prog 29 #[.slice ao vs.length cap, .int .i64 o.c, .int .i64 o.v] w (RfR P w vs o) := by
  have HI := hid (fun (i : Int) (ao : Option Addr) (n cap : Nat) (W : World) => ris_any i ao n cap W)
  have HR := hid (fun w' (g : Gr w w') => RfR.no (o := o) h hp g)
  clear h
  go_enter Try.func29, Try.ntmps29
  go_wp2_with (go_at_call 32; refine (HI.out _ _ _ _ _).mono ?_; rw [hp]; rintro e w1 ⟨rfl, hw⟩; have hw := hw.symm; subst hw)
  exact bodyPost_ret (v := .tuple #[.slice ao vs.length cap, .agg #[.int .i64 0, .int .i64 0, .int .i64 0, .int .i64 0, .bool false], .int .i64 100]) (by simp [results, Try.results29, go_sem]) rfl (HR.out _ (Gr.alloc (Gr.refl w) _ _))
theorem rnew_bad (n : Int) (w : World) (h : ¬ (0 ≤ n ∧ n ≤ 256)) : Calls Try.prog 15 #[.int .i64 n] w fun e w' => e = .returned (.tuple #[.slice none 0 0, .int .i64 1]) ∧ Gr w w' := by
  by_cases h1 : n < 0
  · have d1 : decide (n < 0) = true := decide_eq_true h1
    clear h
    go_enter Try.func15, Try.ntmps15
    go_wp2
    exact bodyPost_ret (v := .tuple #[.slice none 0 0, .int .i64 1]) (by simp [results, Try.results15, go_sem]) rfl ⟨rfl, Gr.refl _⟩
  · have d1 : decide (n < 0) = false := decide_eq_false h1
    have h2 : 256 < n := by omega
    have d2 : decide (256 < n) = true := decide_eq_true h2
    clear h
    go_enter Try.func15, Try.ntmps15
    go_wp2
    exact bodyPost_ret (v := .tuple #[.slice none 0 0, .int .i64 1]) (by simp [results, Try.results15, go_sem]) rfl ⟨rfl, Gr.refl _⟩
set_option maxHeartbeats 1000000 in
theorem rnew_good (n : Nat) (w : World) (h : n ≤ 256) : Calls Try.prog 15 #[.int .i64 (n : Int)] w fun e w' => ∃ ao cap, e = .returned (.tuple #[.slice ao n cap, .int .i64 0]) ∧ Ow eI 1 2 w.heap.size w' (.slice ao n cap) (List.replicate n 0) ∧ Gr w w' := by
  have d1 : decide ((n : Int) < 0) = false := decide_eq_false (by omega)
  have d2 : decide ((256 : Int) < (n : Int)) = false := decide_eq_false (by omega)
  obtain ⟨i0, hi, hz0, hz1, hz2⟩ := info_parts i64_info
  go_enter Try.func15, Try.ntmps15
  go_wp2_with (first | (at_make; refine wpList_make_full _ rfl _ _ 22 rfl w.heap.size 2 i0 _ 1 Try.underlying22 hi hz0 hz1 _ _ _ _ n rfl rfl (by omega) (by omega) (by rw [hz2]; omega) (by unfold maxLen; omega) (by simp) ?_; intro w1 hown hgrow))
  have ho : Ow eI 1 2 w.heap.size w1 (.slice (some ⟨w.heap.size, 0, none⟩) n n) (List.replicate n 0) := by
    have h2 := toList_madeCells_one (.int .i64 0) n
    rw [Nat.mul_one] at hown
    unfold Ow
    rw [List.length_replicate, zeros_cells, ← h2]
    exact hown
  have hg : Gr w w1 := (Ch.refl NoB w).grown hgrow (fun k hk => by cases hk)
  exact bodyPost_ret (v := .tuple #[.slice (some ⟨w.heap.size, 0, none⟩) n n, .int .i64 0]) (by simp [results, Try.results15, go_sem]) rfl ⟨_, _, rfl, ho, hg⟩
theorem rsame_eq (P Q : Nat → Prop) (va vb : Value) (xs : List Int) (w : World) (ha : Ls eI P w va xs) (hb : Ls eI Q w vb xs) (hl : xs.length ≤ 17592186044416) :
    Calls Try.prog 19 #[va, vb] w fun e w' => e = .returned (.bool true) ∧ Gr w w' := by
  obtain ⟨aa, ac, rfl⟩ := ha.form
  obtain ⟨ba, bc, rfl⟩ := hb.form
  obtain ⟨n, hn⟩ : ∃ n, n = xs.length := ⟨_, rfl⟩
  rw [← hn] at ha hb hl ⊢
  have HA := hid ha
  have HB := hid hb
  have HN := hid hn
  clear ha hb hn
  go_enter Try.func19, Try.ntmps19
  go_wp2_with fail
  go_loopg [5] n (fun k i wr => ∃ j : Nat, j + k = n ∧ i = .int .i64 ((j : Nat) : Int) ∧ ∃ m, wr = w.drewN m)
  case atStart => exact ⟨0, by omega, rfl, 0, rfl⟩
  case round =>
    obtain ⟨j, hjk, rfl, m, rfl⟩ := hrel
    by_cases hj : j < n
    · obtain ⟨z, hz⟩ : ∃ z, xs[j]? = some z := ⟨_, List.getElem?_eq_getElem (by rw [← HN.out]; exact hj)⟩
      obtain ⟨g, o, cap1, e1, -, -, -, d2⟩ := HA.out.get eI_len hz
      obtain ⟨g', o', cap2, e2, -, -, -, d3⟩ := HB.out.get eI_len hz
      injection e1 with e1 h1 h2
      injection e2 with e2 h3 h4
      subst e1 e2
      have d0 := d2 0 _ rfl
      have d1 := d3 0 _ rfl
      clear d2 d3 h1 h2 h3 h4
      simp only [Nat.mul_one, Nat.add_zero] at d0 d1
      have j0 : (0 : Int) ≤ (j : Int) := by omega
      have j1 : (j : Int) < (n : Int) := by omega
      clear hz
      go_wp2
      go_quiet (fail)
      go_wp2
      go_roundg (gk - 1)
      case measure => omega
      case rel => exact ⟨j + 1, by omega, by simp, _, rfl⟩
    · go_wp2
      go_ret
      exact ⟨rfl, Ch.drewN (Gr.refl w) _⟩
end Go.Proofs.Ytpmhmikefkgbdab.Lt
