/-
  What the document's Swap of layer 10 answers, where there is such a cell. Condition: there is.
-/
import Derived.Test.YtpmhmikefkgbdabClRef
namespace Go.Proofs.Ytpmhmikefkgbdab.Lt
open Go.RowKit Wd
attribute [local go_sem ↓] Go.wp_at_zero Go.wp_at_succ

set_option maxHeartbeats 2000000 in
theorem rswap_yes (P : Nat → Prop) (w : World) (ao : Option Addr) (cap : Nat) (vs : List Int) (h : Ls eI P w (.slice ao vs.length cap) vs) (hl : vs.length ≤ 17592186044416) (j : Nat) (oo ov : Int) (hj : j < vs.length) (hq : inC vs (j : Int) = oo) :
    Calls Try.prog 28 #[.slice ao vs.length cap, .int .i64 (j : Int), .int .i64 oo, .int .i64 ov] w (RfR P w vs ⟨3, (j : Int), oo, ov⟩) := by
  have hp : isP (j : Int) vs.length = true := decide_eq_true (by omega)
  have hx := inC_get hj
  obtain ⟨g, o, cap', hv, _, hgl, _, hcs⟩ := h.get eI_len hx
  injection hv with hv1 hv2 hv3
  subst hv1
  have c0 := hcs 0 _ rfl
  simp only [Nat.mul_one, Nat.add_zero] at c0
  have hji : (j : Int) < (vs.length : Int) := by omega
  have hlt : ∀ (i : Int) (ao : Option Addr) (n cap : Nat) (W : World), Calls Try.prog 32 #[.slice ao n cap, .int .i64 i] W fun e w' => e = .returned (.bool (isP i n)) ∧ w' = W := ris_any
  have HI := hid hlt
  have hS0 := Sr.new w g (o + j) _ hgl c0
  have HP := hid (fun (W : World) (p : Gr w W) => rput_any P W _ vs (h.gr p) hl j hj ov)
  have HNB := hid (fun (b q : Nat) (e : q = w.heap.size) => e)
  have HL := hid h
  obtain ⟨e1, e2, e30⟩ := told_yes (o := ⟨3, (j : Int), oo, ov⟩) (vs := vs) hp
  have hpo : putOf ⟨3, (j : Int), oo, ov⟩ (inC vs (j : Int)) = (ov, true) := by simp [putOf, hq]
  rw [hpo] at e1 e30
  have e3 : left ⟨3, (j : Int), oo, ov⟩ vs = vs.set j ov := e30
  simp only at e1
  clear e30
  clear hpo
  subst hq
  have E1 := hid e1
  have E2 := hid e2
  have E3 := hid e3
  clear hcs hv2 hv3 h hlt e1 e2 e3
  go_enter Try.func28, Try.ntmps28
  go_wp2_with (go_at_call 32; refine (HI.out _ _ _ _ _).mono ?_; rw [hp]; rintro e w1 ⟨rfl, hw⟩; have hw := hw.symm; subst hw)
  refine wp_region_held_drew (S := Sr w ⟨g, o + j, none⟩ (inC vs (j : Int))) (by kernel_rfl) (by exact hS0) (fun _ => ?_)
  refine takeS_on (i := 0) 34 (v := ?v26) rfl rfl (by kernel_rfl) (by kernel_rfl) (by kernel_rfl) (fun _ _ _ h => h) (by kernel_rfl) ?hy26 (by exact hS0) ?_
  case hy26 => (intro w' hSw; go_simp; try (with_reducible rfl))
  simp only [Act.put, List.setIfInBounds_toArray, List.set_cons_zero, List.set_cons_succ]
  refine takeS_on (i := 1) 35 (v := ?v27) rfl rfl (by kernel_rfl) (by kernel_rfl) (by kernel_rfl) (fun _ _ _ h => h) (by kernel_rfl) ?hy27 (by exact hS0) ?_
  case hy27 => (intro w' hSw; go_simp; try (with_reducible rfl))
  simp only [Act.put, List.setIfInBounds_toArray, List.set_cons_zero, List.set_cons_succ]
  refine takeS_on (i := 2) 36 (v := ?v28) rfl rfl (by kernel_rfl) (by kernel_rfl) (by kernel_rfl) (fun _ _ _ h => h) (by kernel_rfl) ?hy28 (by exact hS0) ?_
  case hy28 => (intro w' hSw; go_simp; try (with_reducible rfl))
  simp only [Act.put, List.setIfInBounds_toArray, List.set_cons_zero, List.set_cons_succ]
  refine takeS_on (i := 4) 38 (v := ?v29) rfl rfl (by kernel_rfl) (by kernel_rfl) (by kernel_rfl) (fun _ _ _ h => h) (by kernel_rfl) ?hy29 (by exact hS0) ?_
  case hy29 => (intro w' hSw; go_simp; try (with_reducible rfl))
  simp only [Act.put, List.setIfInBounds_toArray, List.set_cons_zero, List.set_cons_succ]
  refine takeS_on (i := 5) 39 (v := ?v30) rfl rfl (by kernel_rfl) (by kernel_rfl) (by kernel_rfl) (fun _ _ _ h => h) (by kernel_rfl) ?hy30 (by exact hS0) ?_
  case hy30 => (intro w' hSw; go_simp; try (with_reducible rfl))
  simp only [Act.put, List.setIfInBounds_toArray, List.set_cons_zero, List.set_cons_succ]
  refine takeS_on (i := 6) 40 (v := ?v31) rfl rfl (by kernel_rfl) (by kernel_rfl) (by kernel_rfl) (fun _ _ _ h => h) (by kernel_rfl) ?hy31 (by exact hS0) ?_
  case hy31 => (intro w' hSw; go_simp; try (with_reducible rfl))
  simp only [Act.put, List.setIfInBounds_toArray, List.set_cons_zero, List.set_cons_succ]
  refine takeS_on (i := 7) 41 (v := ?v32) rfl rfl (by kernel_rfl) (by kernel_rfl) (by kernel_rfl) (fun _ _ _ h => h) (by kernel_rfl) ?hy32 (by exact hS0) ?_
  case hy32 => (intro w' hSw; go_simp; try (with_reducible rfl))
  simp only [Act.put, List.setIfInBounds_toArray, List.set_cons_zero, List.set_cons_succ]
  refine takeS_on (i := 8) 42 (v := ?v33) rfl rfl (by kernel_rfl) (by kernel_rfl) (by kernel_rfl) (fun _ _ _ h => h) (by kernel_rfl) ?hy33 (by exact hS0) ?_
  case hy33 => (intro w' hSw; have c5 := hSw.f; go_simp; try (with_reducible rfl))
  simp only [Act.put, List.setIfInBounds_toArray, List.set_cons_zero, List.set_cons_succ]
  refine takeS_on (i := 9) 43 (v := ?v34) rfl rfl (by kernel_rfl) (by kernel_rfl) (by kernel_rfl) (fun _ _ _ h => h) (by kernel_rfl) ?hy34 (by exact hS0) ?_
  case hy34 => (intro w' hSw; go_simp; try (with_reducible rfl))
  simp only [Act.put, List.setIfInBounds_toArray, List.set_cons_zero, List.set_cons_succ]
  refine takeS_on (i := 10) 44 (v := ?v35) rfl rfl (by kernel_rfl) (by kernel_rfl) (by kernel_rfl) (fun _ _ _ h => h) (by kernel_rfl) ?hy35 (by exact hS0) ?_
  case hy35 => (intro w' hSw; go_simp; try (with_reducible rfl))
  simp only [Act.put, List.setIfInBounds_toArray, List.set_cons_zero, List.set_cons_succ]
  refine wpAnyH_ready (rs := [3]) (by kernel_rfl) (by simp) (AllReadyH.cons rfl (fun K hK => ?_) AllReadyH.nil)
  go_simp
  refine (HP.out _ hS0.g).mono ?_
  rintro e w1 ⟨v2, rfl, o2, g2⟩
  have hS1 := hS0.gr g2
  obtain ⟨ao2, cap2, hv2⟩ := o2.form
  rw [List.length_set] at hv2
  subst hv2
  have O2 := hid (o2.lower (show w.heap.size + 1 ≤ _ from (by obtain ⟨_, q, _⟩ := hS0.t; exact lt_of_block q)))
  clear o2 g2
  refine hK.out _ _ (by exact hS1) (fun _ => ?_)
  clear hK K
  refine takeS_on (i := 11) 8 (v := ?v36) rfl rfl (by kernel_rfl) (by kernel_rfl) (by kernel_rfl) (fun _ _ _ h => h) (by kernel_rfl) ?hy36 (by exact hS1) ?_
  case hy36 => (intro w' hSw; go_simp; try (with_reducible rfl))
  simp only [Act.put, List.setIfInBounds_toArray, List.set_cons_zero, List.set_cons_succ]
  refine wpAnyH_ready (rs := [12]) (by kernel_rfl) (by simp) (AllReadyH.cons rfl (fun K hK => ?_) AllReadyH.nil)
  rw [if_pos (by kernel_rfl)]
  obtain ⟨old, ht, hsz⟩ := hS1.t
  refine wp_store_row 28 (.tmp 9) (.tmp 44) rfl w.heap.size #[.int .i64 (j : Int), .int .i64 3, .int .i64 (inC vs (j : Int)), .int .i64 ov, .bool true] rfl rfl _ _ ht acc_size hsz (one5 _ _ _ _ _) ?_
  have b3 := setRow_blk (c := #[.int .i64 (j : Int), .int .i64 3, .int .i64 (inC vs (j : Int)), .int .i64 ov, .bool true]) ht
  have hS2 := hS1.st (setRow_ch _ w.heap.size #[.int .i64 (j : Int), .int .i64 3, .int .i64 (inC vs (j : Int)), .int .i64 ov, .bool true]) b3 rfl
  have O3 := hid (O2.out.ch (setRow_ch _ w.heap.size #[.int .i64 (j : Int), .int .i64 3, .int .i64 (inC vs (j : Int)), .int .i64 ov, .bool true]) (fun q hq e => by have q1 := (O2.out.blk hq).1; have e1 : q = w.heap.size := e; omega))
  clear ht hsz
  have B3 := hid b3
  clear b3
  refine hK.out _ _ (by exact hS2) (fun _ => ?_)
  clear hK K
  refine takeS_on (i := 13) 10 (v := ?v37) rfl rfl (by kernel_rfl) (by kernel_rfl) (by kernel_rfl) (fun _ _ _ h => h) (by kernel_rfl) ?hy37 (by exact hS2) ?_
  case hy37 => (intro w' hSw; go_simp; try (with_reducible rfl))
  simp only [Act.put, List.setIfInBounds_toArray]
  refine wpAnyH_done (by kernel_rfl) ?_ _
  go_wp2_with fail
  refine bodyPost_ret (results_tmp_cell_tmp rfl _ _ w.heap.size _ rfl (run_loadVar_row _ _ _ _ _ _ _ B3.out Try.underlying28 rfl acc_size)) rfl ?_
  exact ⟨ao2, cap2, by rw [E1.out, E2.out]; rfl, by rw [E3.out]; exact O3.out.lst.mono (fun q _ hq => .inr (by omega)), hS2.g⟩
end Go.Proofs.Ytpmhmikefkgbdab.Lt
