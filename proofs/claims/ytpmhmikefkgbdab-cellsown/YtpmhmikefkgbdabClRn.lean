/-
  What the document's Swap of layer 10 answers, where there is such a cell. Condition: there is.
-/
import Derived.Test.YtpmhmikefkgbdabClRef
namespace Go.Proofs.Ytpmhmikefkgbdab.Lt
open Go.RowKit Wd
attribute [local go_sem ↓] Go.wp_at_zero Go.wp_at_succ

set_option maxHeartbeats 2000000 in
theorem rswapn_yes (P : Nat → Prop) (w : World) (ao : Option Addr) (cap : Nat) (vs : List Int) (h : Ls eI P w (.slice ao vs.length cap) vs) (_hl : vs.length ≤ 17592186044416) (j : Nat) (oo ov : Int) (hj : j < vs.length) (hq : ¬ inC vs (j : Int) = oo) :
    Calls Try.prog 28 #[.slice ao vs.length cap, .int .i64 (j : Int), .int .i64 oo, .int .i64 ov] w (RfR P w vs ⟨3, (j : Int), oo, ov⟩) := by
  have hp : isP (j : Int) vs.length = true := decide_eq_true (by omega)
  have hx := inC_get hj
  obtain ⟨g, o, cap', hv, _, hgl, _, hcs⟩ := h.get eI_len hx
  injection hv with hv1 hv2 hv3
  subst hv1
  have c0 := hcs 0 _ rfl
  simp only [Nat.mul_one, Nat.add_zero] at c0
  have hji : (j : Int) < (vs.length : Int) := by omega
  have hlt : ∀ (i : Int) (ao : Option Addr) (n cap : Nat) (W : World), Calls Try.prog 32 #[.slice ao n cap, .int .i64 i] W fun e w' => e = .returned (.bool (isP i n)) ∧ w' = W := ris_any
  have HI := hid hlt
  have hS0 := Sr.new w g (o + j) _ hgl c0
  skip
  have HNB := hid (fun (b q : Nat) (e : q = w.heap.size) => e)
  have HL := hid h
  obtain ⟨e1, e2, e30⟩ := told_yes (o := ⟨3, (j : Int), oo, ov⟩) (vs := vs) hp
  have hpo : putOf ⟨3, (j : Int), oo, ov⟩ (inC vs (j : Int)) = ((inC vs (j : Int)), false) := by simp [putOf, hq]
  rw [hpo] at e1 e30
  have e3 : left ⟨3, (j : Int), oo, ov⟩ vs = vs := e30
  simp only at e1
  clear e30
  clear hpo
  have hqb : (inC vs (j : Int) == oo) = false := by simpa using hq
  have E1 := hid e1
  have E2 := hid e2
  have E3 := hid e3
  clear hcs hv2 hv3 h hlt e1 e2 e3
  go_enter Try.func28, Try.ntmps28
  go_wp2_with (go_at_call 32; refine (HI.out _ _ _ _ _).mono ?_; rw [hp]; rintro e w1 ⟨rfl, hw⟩; have hw := hw.symm; subst hw)
  refine wp_region_held_drew (S := Sr w ⟨g, o + j, none⟩ (inC vs (j : Int))) (by kernel_rfl) (by exact hS0) (fun _ => ?_)
  refine takeS_on (i := 0) 23 (v := ?v13) rfl rfl (by kernel_rfl) (by kernel_rfl) (by kernel_rfl) (fun _ _ _ h => h) (by kernel_rfl) ?hy13 (by exact hS0) ?_
  case hy13 => (intro w' hSw; go_simp; try (with_reducible rfl))
  simp only [Act.put, List.setIfInBounds_toArray, List.set_cons_zero, List.set_cons_succ]
  refine takeS_on (i := 1) 24 (v := ?v14) rfl rfl (by kernel_rfl) (by kernel_rfl) (by kernel_rfl) (fun _ _ _ h => h) (by kernel_rfl) ?hy14 (by exact hS0) ?_
  case hy14 => (intro w' hSw; go_simp; try (with_reducible rfl))
  simp only [Act.put, List.setIfInBounds_toArray, List.set_cons_zero, List.set_cons_succ]
  refine takeS_on (i := 2) 25 (v := ?v15) rfl rfl (by kernel_rfl) (by kernel_rfl) (by kernel_rfl) (fun _ _ _ h => h) (by kernel_rfl) ?hy15 (by exact hS0) ?_
  case hy15 => (intro w' hSw; go_simp; try (with_reducible rfl))
  simp only [Act.put, List.setIfInBounds_toArray, List.set_cons_zero, List.set_cons_succ]
  refine takeS_on (i := 3) 26 (v := ?v16) rfl rfl (by kernel_rfl) (by kernel_rfl) (by kernel_rfl) (fun _ _ _ h => h) (by kernel_rfl) ?hy16 (by exact hS0) ?_
  case hy16 => (intro w' hSw; go_simp; try (with_reducible rfl))
  simp only [Act.put, List.setIfInBounds_toArray, List.set_cons_zero, List.set_cons_succ]
  refine takeS_on (i := 4) 27 (v := ?v17) rfl rfl (by kernel_rfl) (by kernel_rfl) (by kernel_rfl) (fun _ _ _ h => h) (by kernel_rfl) ?hy17 (by exact hS0) ?_
  case hy17 => (intro w' hSw; go_simp; try (with_reducible rfl))
  simp only [Act.put, List.setIfInBounds_toArray, List.set_cons_zero, List.set_cons_succ]
  refine takeS_on (i := 5) 28 (v := ?v18) rfl rfl (by kernel_rfl) (by kernel_rfl) (by kernel_rfl) (fun _ _ _ h => h) (by kernel_rfl) ?hy18 (by exact hS0) ?_
  case hy18 => (intro w' hSw; have c5 := hSw.f; go_simp; try (with_reducible rfl))
  simp only [Act.put, List.setIfInBounds_toArray, List.set_cons_zero, List.set_cons_succ]
  refine takeS_on (i := 6) 29 (v := ?v19) rfl rfl (by kernel_rfl) (by kernel_rfl) (by kernel_rfl) (fun _ _ _ h => h) (by kernel_rfl) ?hy19 (by exact hS0) ?_
  case hy19 => (intro w' hSw; go_simp; try (with_reducible rfl))
  simp only [Act.put, List.setIfInBounds_toArray, List.set_cons_zero, List.set_cons_succ]
  refine takeS_on (i := 7) 30 (v := ?v20) rfl rfl (by kernel_rfl) (by kernel_rfl) (by kernel_rfl) (fun _ _ _ h => h) (by kernel_rfl) ?hy20 (by exact hS0) ?_
  case hy20 => (intro w' hSw; go_simp; try (with_reducible rfl))
  simp only [Act.put, List.setIfInBounds_toArray, List.set_cons_zero, List.set_cons_succ]
  refine takeS_on (i := 8) 31 (v := ?v21) rfl rfl (by kernel_rfl) (by kernel_rfl) (by kernel_rfl) (fun _ _ _ h => h) (by kernel_rfl) ?hy21 (by exact hS0) ?_
  case hy21 => (intro w' hSw; go_simp; try (with_reducible rfl))
  simp only [Act.put, List.setIfInBounds_toArray, List.set_cons_zero, List.set_cons_succ]
  refine takeS_on (i := 9) 32 (v := ?v22) rfl rfl (by kernel_rfl) (by kernel_rfl) (by kernel_rfl) (fun _ _ _ h => h) (by kernel_rfl) ?hy22 (by exact hS0) ?_
  case hy22 => (intro w' hSw; have c5 := hSw.f; go_simp; try (with_reducible rfl))
  simp only [Act.put, List.setIfInBounds_toArray, List.set_cons_zero, List.set_cons_succ]
  refine takeS_on (i := 10) 33 (v := ?v23) rfl rfl (by kernel_rfl) (by kernel_rfl) (by kernel_rfl) (fun _ _ _ h => h) (by kernel_rfl) ?hy23 (by exact hS0) ?_
  case hy23 => (intro w' hSw; go_simp; try (with_reducible rfl))
  simp only [Act.put, List.setIfInBounds_toArray, List.set_cons_zero, List.set_cons_succ]
  refine takeS_on (i := 11) 8 (v := ?v24) rfl rfl (by kernel_rfl) (by kernel_rfl) (by kernel_rfl) (fun _ _ _ h => h) (by kernel_rfl) ?hy24 (by exact hS0) ?_
  case hy24 => (intro w' hSw; go_simp; try (with_reducible rfl))
  simp only [Act.put, List.setIfInBounds_toArray, List.set_cons_zero, List.set_cons_succ]
  refine wpAnyH_ready (rs := [12]) (by kernel_rfl) (by simp) (AllReadyH.cons rfl (fun K hK => ?_) AllReadyH.nil)
  rw [if_pos (by kernel_rfl)]
  obtain ⟨old, ht, hsz⟩ := hS0.t
  refine wp_store_row 28 (.tmp 9) (.tmp 33) rfl w.heap.size #[.int .i64 (j : Int), .int .i64 3, .int .i64 (inC vs (j : Int)), .int .i64 (inC vs (j : Int)), .bool false] rfl rfl _ _ ht acc_size hsz (one5 _ _ _ _ _) ?_
  have b3 := setRow_blk (c := #[.int .i64 (j : Int), .int .i64 3, .int .i64 (inC vs (j : Int)), .int .i64 (inC vs (j : Int)), .bool false]) ht
  have hS1 := hS0.st (setRow_ch _ w.heap.size #[.int .i64 (j : Int), .int .i64 3, .int .i64 (inC vs (j : Int)), .int .i64 (inC vs (j : Int)), .bool false]) b3 rfl
  clear ht hsz
  have B3 := hid b3
  clear b3
  refine hK.out _ _ (by exact hS1) (fun _ => ?_)
  clear hK K
  refine takeS_on (i := 13) 10 (v := ?v25) rfl rfl (by kernel_rfl) (by kernel_rfl) (by kernel_rfl) (fun _ _ _ h => h) (by kernel_rfl) ?hy25 (by exact hS1) ?_
  case hy25 => (intro w' hSw; go_simp; try (with_reducible rfl))
  simp only [Act.put, List.setIfInBounds_toArray]
  refine wpAnyH_done (by kernel_rfl) ?_ _
  go_wp2_with fail
  refine bodyPost_ret (results_tmp_cell_tmp rfl _ _ w.heap.size _ rfl (run_loadVar_row _ _ _ _ _ _ _ B3.out Try.underlying28 rfl acc_size)) rfl ?_
  exact ⟨some ⟨g, o, none⟩, cap, by rw [E1.out, E2.out]; rfl, by rw [E3.out]; exact (HL.out.gr hS1.g).mono (fun q _ hq => .inl hq), hS1.g⟩
end Go.Proofs.Ytpmhmikefkgbdab.Lt
