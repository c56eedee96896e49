/-
  What the document's Store of layer 10 answers, where there is such a cell. Condition: there is.
-/
import Derived.Test.YtpmhmikefkgbdabClRef
namespace Go.Proofs.Ytpmhmikefkgbdab.Lt
open Go.RowKit Wd
attribute [local go_sem ↓] Go.wp_at_zero Go.wp_at_succ

set_option maxHeartbeats 2000000 in
theorem rstore_yes (P : Nat → Prop) (w : World) (ao : Option Addr) (cap : Nat) (vs : List Int) (h : Ls eI P w (.slice ao vs.length cap) vs) (hl : vs.length ≤ 17592186044416) (j : Nat) (oo ov : Int) (hj : j < vs.length) :
    Calls Try.prog 27 #[.slice ao vs.length cap, .int .i64 (j : Int), .int .i64 ov] w (RfR P w vs ⟨2, (j : Int), oo, ov⟩) := by
  have hp : isP (j : Int) vs.length = true := decide_eq_true (by omega)
  have hx := inC_get hj
  obtain ⟨g, o, cap', hv, _, hgl, _, hcs⟩ := h.get eI_len hx
  injection hv with hv1 hv2 hv3
  subst hv1
  have c0 := hcs 0 _ rfl
  simp only [Nat.mul_one, Nat.add_zero] at c0
  have hji : (j : Int) < (vs.length : Int) := by omega
  have hlt : ∀ (i : Int) (ao : Option Addr) (n cap : Nat) (W : World), Calls Try.prog 32 #[.slice ao n cap, .int .i64 i] W fun e w' => e = .returned (.bool (isP i n)) ∧ w' = W := ris_any
  have HI := hid hlt
  have hS0 := Sr.new w g (o + j) _ hgl c0
  have HP := hid (fun (W : World) (p : Gr w W) => rput_any P W _ vs (h.gr p) hl j hj ov)
  have HNB := hid (fun (b q : Nat) (e : q = w.heap.size) => e)
  have HL := hid h
  obtain ⟨e1, e2, e30⟩ := told_yes (o := ⟨2, (j : Int), oo, ov⟩) (vs := vs) hp
  have hpo : putOf ⟨2, (j : Int), oo, ov⟩ (inC vs (j : Int)) = (ov, true) := rfl
  rw [hpo] at e1 e30
  have e3 : left ⟨2, (j : Int), oo, ov⟩ vs = vs.set j ov := e30
  simp only at e1
  clear e30
  clear hpo
  skip
  have E1 := hid e1
  have E2 := hid e2
  have E3 := hid e3
  clear hcs hv2 hv3 h hlt e1 e2 e3
  go_enter Try.func27, Try.ntmps27
  go_wp2_with (go_at_call 32; refine (HI.out _ _ _ _ _).mono ?_; rw [hp]; rintro e w1 ⟨rfl, hw⟩; have hw := hw.symm; subst hw)
  refine wp_region_held_drew (S := Sr w ⟨g, o + j, none⟩ (inC vs (j : Int))) (by kernel_rfl) (by exact hS0) (fun _ => ?_)
  refine takeS_on (i := 0) 15 (v := ?v1) rfl rfl (by kernel_rfl) (by kernel_rfl) (by kernel_rfl) (fun _ _ _ h => h) (by kernel_rfl) ?hy1 (by exact hS0) ?_
  case hy1 => (intro w' hSw; go_simp; try (with_reducible rfl))
  simp only [Act.put, List.setIfInBounds_toArray, List.set_cons_zero, List.set_cons_succ]
  refine takeS_on (i := 1) 16 (v := ?v2) rfl rfl (by kernel_rfl) (by kernel_rfl) (by kernel_rfl) (fun _ _ _ h => h) (by kernel_rfl) ?hy2 (by exact hS0) ?_
  case hy2 => (intro w' hSw; go_simp; try (with_reducible rfl))
  simp only [Act.put, List.setIfInBounds_toArray, List.set_cons_zero, List.set_cons_succ]
  refine takeS_on (i := 2) 17 (v := ?v3) rfl rfl (by kernel_rfl) (by kernel_rfl) (by kernel_rfl) (fun _ _ _ h => h) (by kernel_rfl) ?hy3 (by exact hS0) ?_
  case hy3 => (intro w' hSw; go_simp; try (with_reducible rfl))
  simp only [Act.put, List.setIfInBounds_toArray, List.set_cons_zero, List.set_cons_succ]
  refine takeS_on (i := 4) 19 (v := ?v4) rfl rfl (by kernel_rfl) (by kernel_rfl) (by kernel_rfl) (fun _ _ _ h => h) (by kernel_rfl) ?hy4 (by exact hS0) ?_
  case hy4 => (intro w' hSw; go_simp; try (with_reducible rfl))
  simp only [Act.put, List.setIfInBounds_toArray, List.set_cons_zero, List.set_cons_succ]
  refine takeS_on (i := 5) 20 (v := ?v5) rfl rfl (by kernel_rfl) (by kernel_rfl) (by kernel_rfl) (fun _ _ _ h => h) (by kernel_rfl) ?hy5 (by exact hS0) ?_
  case hy5 => (intro w' hSw; go_simp; try (with_reducible rfl))
  simp only [Act.put, List.setIfInBounds_toArray, List.set_cons_zero, List.set_cons_succ]
  refine takeS_on (i := 6) 21 (v := ?v6) rfl rfl (by kernel_rfl) (by kernel_rfl) (by kernel_rfl) (fun _ _ _ h => h) (by kernel_rfl) ?hy6 (by exact hS0) ?_
  case hy6 => (intro w' hSw; go_simp; try (with_reducible rfl))
  simp only [Act.put, List.setIfInBounds_toArray, List.set_cons_zero, List.set_cons_succ]
  refine takeS_on (i := 7) 22 (v := ?v7) rfl rfl (by kernel_rfl) (by kernel_rfl) (by kernel_rfl) (fun _ _ _ h => h) (by kernel_rfl) ?hy7 (by exact hS0) ?_
  case hy7 => (intro w' hSw; go_simp; try (with_reducible rfl))
  simp only [Act.put, List.setIfInBounds_toArray, List.set_cons_zero, List.set_cons_succ]
  refine takeS_on (i := 8) 23 (v := ?v8) rfl rfl (by kernel_rfl) (by kernel_rfl) (by kernel_rfl) (fun _ _ _ h => h) (by kernel_rfl) ?hy8 (by exact hS0) ?_
  case hy8 => (intro w' hSw; have c5 := hSw.f; go_simp; try (with_reducible rfl))
  simp only [Act.put, List.setIfInBounds_toArray, List.set_cons_zero, List.set_cons_succ]
  refine takeS_on (i := 9) 24 (v := ?v9) rfl rfl (by kernel_rfl) (by kernel_rfl) (by kernel_rfl) (fun _ _ _ h => h) (by kernel_rfl) ?hy9 (by exact hS0) ?_
  case hy9 => (intro w' hSw; go_simp; try (with_reducible rfl))
  simp only [Act.put, List.setIfInBounds_toArray, List.set_cons_zero, List.set_cons_succ]
  refine takeS_on (i := 10) 25 (v := ?v10) rfl rfl (by kernel_rfl) (by kernel_rfl) (by kernel_rfl) (fun _ _ _ h => h) (by kernel_rfl) ?hy10 (by exact hS0) ?_
  case hy10 => (intro w' hSw; go_simp; try (with_reducible rfl))
  simp only [Act.put, List.setIfInBounds_toArray, List.set_cons_zero, List.set_cons_succ]
  refine wpAnyH_ready (rs := [3]) (by kernel_rfl) (by simp) (AllReadyH.cons rfl (fun K hK => ?_) AllReadyH.nil)
  go_simp
  refine (HP.out _ hS0.g).mono ?_
  rintro e w1 ⟨v2, rfl, o2, g2⟩
  have hS1 := hS0.gr g2
  obtain ⟨ao2, cap2, hv2⟩ := o2.form
  rw [List.length_set] at hv2
  subst hv2
  have O2 := hid (o2.lower (show w.heap.size + 1 ≤ _ from (by obtain ⟨_, q, _⟩ := hS0.t; exact lt_of_block q)))
  clear o2 g2
  refine hK.out _ _ (by exact hS1) (fun _ => ?_)
  clear hK K
  refine takeS_on (i := 11) 6 (v := ?v11) rfl rfl (by kernel_rfl) (by kernel_rfl) (by kernel_rfl) (fun _ _ _ h => h) (by kernel_rfl) ?hy11 (by exact hS1) ?_
  case hy11 => (intro w' hSw; go_simp; try (with_reducible rfl))
  simp only [Act.put, List.setIfInBounds_toArray, List.set_cons_zero, List.set_cons_succ]
  refine wpAnyH_ready (rs := [12]) (by kernel_rfl) (by simp) (AllReadyH.cons rfl (fun K hK => ?_) AllReadyH.nil)
  rw [if_pos (by kernel_rfl)]
  obtain ⟨old, ht, hsz⟩ := hS1.t
  refine wp_store_row 28 (.tmp 7) (.tmp 25) rfl w.heap.size #[.int .i64 (j : Int), .int .i64 2, .int .i64 (inC vs (j : Int)), .int .i64 ov, .bool true] rfl rfl _ _ ht acc_size hsz (one5 _ _ _ _ _) ?_
  have b3 := setRow_blk (c := #[.int .i64 (j : Int), .int .i64 2, .int .i64 (inC vs (j : Int)), .int .i64 ov, .bool true]) ht
  have hS2 := hS1.st (setRow_ch _ w.heap.size #[.int .i64 (j : Int), .int .i64 2, .int .i64 (inC vs (j : Int)), .int .i64 ov, .bool true]) b3 rfl
  have O3 := hid (O2.out.ch (setRow_ch _ w.heap.size #[.int .i64 (j : Int), .int .i64 2, .int .i64 (inC vs (j : Int)), .int .i64 ov, .bool true]) (fun q hq e => by have q1 := (O2.out.blk hq).1; have e1 : q = w.heap.size := e; omega))
  clear ht hsz
  have B3 := hid b3
  clear b3
  refine hK.out _ _ (by exact hS2) (fun _ => ?_)
  clear hK K
  refine takeS_on (i := 13) 8 (v := ?v12) rfl rfl (by kernel_rfl) (by kernel_rfl) (by kernel_rfl) (fun _ _ _ h => h) (by kernel_rfl) ?hy12 (by exact hS2) ?_
  case hy12 => (intro w' hSw; go_simp; try (with_reducible rfl))
  simp only [Act.put, List.setIfInBounds_toArray]
  refine wpAnyH_done (by kernel_rfl) ?_ _
  go_wp2_with fail
  refine bodyPost_ret (results_tmp_cell_tmp rfl _ _ w.heap.size _ rfl (run_loadVar_row _ _ _ _ _ _ _ B3.out Try.underlying28 rfl acc_size)) rfl ?_
  exact ⟨ao2, cap2, by rw [E1.out, E2.out]; rfl, by rw [E3.out]; exact O3.out.lst.mono (fun q _ hq => .inr (by omega)), hS2.g⟩
end Go.Proofs.Ytpmhmikefkgbdab.Lt
