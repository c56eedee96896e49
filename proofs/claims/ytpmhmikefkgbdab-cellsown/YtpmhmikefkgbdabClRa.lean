/-
  What the document's Add of layer 10 answers, where there is such a cell. Condition: there is.
-/
import Derived.Test.YtpmhmikefkgbdabClRef
namespace Go.Proofs.Ytpmhmikefkgbdab.Lt
open Go.RowKit Wd
attribute [local go_sem ↓] Go.wp_at_zero Go.wp_at_succ

set_option maxHeartbeats 2000000 in
theorem radd_yes (P : Nat → Prop) (w : World) (ao : Option Addr) (cap : Nat) (vs : List Int) (h : Ls eI P w (.slice ao vs.length cap) vs) (hl : vs.length ≤ 17592186044416) (j : Nat) (oo ov : Int) (hj : j < vs.length) :
    Calls Try.prog 29 #[.slice ao vs.length cap, .int .i64 (j : Int), .int .i64 ov] w (RfR P w vs ⟨4, (j : Int), oo, ov⟩) := by
  have hp : isP (j : Int) vs.length = true := decide_eq_true (by omega)
  have hx := inC_get hj
  obtain ⟨g, o, cap', hv, _, hgl, _, hcs⟩ := h.get eI_len hx
  injection hv with hv1 hv2 hv3
  subst hv1
  have c0 := hcs 0 _ rfl
  simp only [Nat.mul_one, Nat.add_zero] at c0
  have hji : (j : Int) < (vs.length : Int) := by omega
  have hlt : ∀ (i : Int) (ao : Option Addr) (n cap : Nat) (W : World), Calls Try.prog 32 #[.slice ao n cap, .int .i64 i] W fun e w' => e = .returned (.bool (isP i n)) ∧ w' = W := ris_any
  have HI := hid hlt
  have hS0 := Sr.new w g (o + j) _ hgl c0
  have HP := hid (fun (W : World) (p : Gr w W) => rput_any P W _ vs (h.gr p) hl j hj (wrap64 (inC vs (j : Int) + ov)))
  have HNB := hid (fun (b q : Nat) (e : q = w.heap.size) => e)
  have HL := hid h
  obtain ⟨e1, e2, e30⟩ := told_yes (o := ⟨4, (j : Int), oo, ov⟩) (vs := vs) hp
  have hpo : putOf ⟨4, (j : Int), oo, ov⟩ (inC vs (j : Int)) = ((wrap64 (inC vs (j : Int) + ov)), true) := rfl
  rw [hpo] at e1 e30
  have e3 : left ⟨4, (j : Int), oo, ov⟩ vs = vs.set j (wrap64 (inC vs (j : Int) + ov)) := e30
  simp only at e1
  clear e30
  clear hpo
  obtain ⟨A, hA⟩ : ∃ A, A = wrap64 (inC vs (j : Int) + ov) := ⟨_, rfl⟩
  rw [← hA] at e1 e3 HP
  have hw1 : wrap64 (inC vs (j : Int) + ov) = A := hA.symm
  have hw2 : IntKind.i64.wrap (inC vs (j : Int) + ov) = A := (IntWalk.i64_left _).trans hA.symm
  clear hA
  skip
  have E1 := hid e1
  have E2 := hid e2
  have E3 := hid e3
  clear hcs hv2 hv3 h hlt e1 e2 e3
  go_enter Try.func29, Try.ntmps29
  go_wp2_with (go_at_call 32; refine (HI.out _ _ _ _ _).mono ?_; rw [hp]; rintro e w1 ⟨rfl, hw⟩; have hw := hw.symm; subst hw)
  refine wp_region_held_drew (S := Sr w ⟨g, o + j, none⟩ (inC vs (j : Int))) (by kernel_rfl) (by exact hS0) (fun _ => ?_)
  refine takeS_on (i := 0) 15 (v := ?v38) rfl rfl (by kernel_rfl) (by kernel_rfl) (by kernel_rfl) (fun _ _ _ h => h) (by kernel_rfl) ?hy38 (by exact hS0) ?_
  case hy38 => (intro w' hSw; go_simp; try (with_reducible rfl))
  simp only [Act.put, List.setIfInBounds_toArray, List.set_cons_zero, List.set_cons_succ]
  refine takeS_on (i := 1) 16 (v := ?v39) rfl rfl (by kernel_rfl) (by kernel_rfl) (by kernel_rfl) (fun _ _ _ h => h) (by kernel_rfl) ?hy39 (by exact hS0) ?_
  case hy39 => (intro w' hSw; go_simp; try (with_reducible rfl))
  simp only [Act.put, List.setIfInBounds_toArray, List.set_cons_zero, List.set_cons_succ]
  refine takeS_on (i := 2) 17 (v := ?v40) rfl rfl (by kernel_rfl) (by kernel_rfl) (by kernel_rfl) (fun _ _ _ h => h) (by kernel_rfl) ?hy40 (by exact hS0) ?_
  case hy40 => (intro w' hSw; go_simp; try (with_reducible rfl))
  simp only [Act.put, List.setIfInBounds_toArray, List.set_cons_zero, List.set_cons_succ]
  refine takeS_on (i := 3) 18 (v := ?v41) rfl rfl (by kernel_rfl) (by kernel_rfl) (by kernel_rfl) (fun _ _ _ h => h) (by kernel_rfl) ?hy41 (by exact hS0) ?_
  case hy41 => (intro w' hSw; go_simp; try (with_reducible rfl))
  simp only [Act.put, List.setIfInBounds_toArray, List.set_cons_zero, List.set_cons_succ]
  refine takeS_on (i := 4) 19 (v := ?v42) rfl rfl (by kernel_rfl) (by kernel_rfl) (by kernel_rfl) (fun _ _ _ h => h) (by kernel_rfl) ?hy42 (by exact hS0) ?_
  case hy42 => (intro w' hSw; go_simp; try (with_reducible rfl))
  simp only [Act.put, List.setIfInBounds_toArray, List.set_cons_zero, List.set_cons_succ]
  refine takeS_on (i := 5) 20 (v := ?v43) rfl rfl (by kernel_rfl) (by kernel_rfl) (by kernel_rfl) (fun _ _ _ h => h) (by kernel_rfl) ?hy43 (by exact hS0) ?_
  case hy43 => (intro w' hSw; have c5 := hSw.f; go_simp; try (with_reducible rfl))
  simp only [Act.put, List.setIfInBounds_toArray, List.set_cons_zero, List.set_cons_succ]
  refine takeS_on (i := 6) 21 (v := ?v44) rfl rfl (by kernel_rfl) (by kernel_rfl) (by kernel_rfl) (fun _ _ _ h => h) (by kernel_rfl) ?hy44 (by exact hS0) ?_
  case hy44 => (intro w' hSw; go_simp; try (with_reducible rfl))
  simp only [Act.put, List.setIfInBounds_toArray, List.set_cons_zero, List.set_cons_succ]
  refine takeS_on (i := 7) 22 (v := ?v45) rfl rfl (by kernel_rfl) (by kernel_rfl) (by kernel_rfl) (fun _ _ _ h => h) (by kernel_rfl) ?hy45 (by exact hS0) ?_
  case hy45 => (intro w' hSw; go_simp; try (with_reducible rfl))
  simp only [Act.put, List.setIfInBounds_toArray, List.set_cons_zero, List.set_cons_succ]
  refine takeS_on (i := 9) 24 (v := ?v46) rfl rfl (by kernel_rfl) (by kernel_rfl) (by kernel_rfl) (fun _ _ _ h => h) (by kernel_rfl) ?hy46 (by exact hS0) ?_
  case hy46 => (intro w' hSw; go_simp; try (with_reducible rfl))
  simp only [Act.put, List.setIfInBounds_toArray, List.set_cons_zero, List.set_cons_succ]
  refine takeS_on (i := 10) 25 (v := ?v47) rfl rfl (by kernel_rfl) (by kernel_rfl) (by kernel_rfl) (fun _ _ _ h => h) (by kernel_rfl) ?hy47 (by exact hS0) ?_
  case hy47 => (intro w' hSw; go_simp; try (with_reducible rfl))
  simp only [Act.put, List.setIfInBounds_toArray, List.set_cons_zero, List.set_cons_succ]
  refine takeS_on (i := 11) 26 (v := ?v48) rfl rfl (by kernel_rfl) (by kernel_rfl) (by kernel_rfl) (fun _ _ _ h => h) (by kernel_rfl) ?hy48 (by exact hS0) ?_
  case hy48 => (intro w' hSw; go_simp; try (with_reducible rfl))
  simp only [Act.put, List.setIfInBounds_toArray, List.set_cons_zero, List.set_cons_succ]
  refine takeS_on (i := 12) 27 (v := ?v49) rfl rfl (by kernel_rfl) (by kernel_rfl) (by kernel_rfl) (fun _ _ _ h => h) (by kernel_rfl) ?hy49 (by exact hS0) ?_
  case hy49 => (intro w' hSw; go_simp; try (with_reducible rfl))
  simp only [Act.put, List.setIfInBounds_toArray, List.set_cons_zero, List.set_cons_succ]
  refine takeS_on (i := 13) 28 (v := ?v50) rfl rfl (by kernel_rfl) (by kernel_rfl) (by kernel_rfl) (fun _ _ _ h => h) (by kernel_rfl) ?hy50 (by exact hS0) ?_
  case hy50 => (intro w' hSw; have c5 := hSw.f; go_simp; try (with_reducible rfl))
  simp only [Act.put, List.setIfInBounds_toArray, List.set_cons_zero, List.set_cons_succ]
  refine takeS_on (i := 14) 29 (v := ?v51) rfl rfl (by kernel_rfl) (by kernel_rfl) (by kernel_rfl) (fun _ _ _ h => h) (by kernel_rfl) ?hy51 (by exact hS0) ?_
  case hy51 => (intro w' hSw; go_simp; try (with_reducible rfl))
  simp only [Act.put, List.setIfInBounds_toArray, List.set_cons_zero, List.set_cons_succ]
  refine takeS_on (i := 15) 30 (v := ?v52) rfl rfl (by kernel_rfl) (by kernel_rfl) (by kernel_rfl) (fun _ _ _ h => h) (by kernel_rfl) ?hy52 (by exact hS0) ?_
  case hy52 => (intro w' hSw; go_simp; try (with_reducible rfl))
  simp only [Act.put, List.setIfInBounds_toArray, List.set_cons_zero, List.set_cons_succ]
  refine takeS_on (i := 16) 31 (v := ?v53) rfl rfl (by kernel_rfl) (by kernel_rfl) (by kernel_rfl) (fun _ _ _ h => h) (by kernel_rfl) ?hy53 (by exact hS0) ?_
  case hy53 => (intro w' hSw; go_simp; try (with_reducible rfl))
  simp only [Act.put, List.setIfInBounds_toArray, List.set_cons_zero, List.set_cons_succ]
  refine takeS_on (i := 17) 32 (v := ?v54) rfl rfl (by kernel_rfl) (by kernel_rfl) (by kernel_rfl) (fun _ _ _ h => h) (by kernel_rfl) ?hy54 (by exact hS0) ?_
  case hy54 => (intro w' hSw; have c5 := hSw.f; go_simp; try (with_reducible rfl))
  simp only [Act.put, List.setIfInBounds_toArray, List.set_cons_zero, List.set_cons_succ]
  refine takeS_on (i := 18) 33 (v := ?v55) rfl rfl (by kernel_rfl) (by kernel_rfl) (by kernel_rfl) (fun _ _ _ h => h) (by kernel_rfl) ?hy55 (by exact hS0) ?_
  case hy55 => (intro w' hSw; go_simp; try (with_reducible rfl))
  simp only [Act.put, List.setIfInBounds_toArray, List.set_cons_zero, List.set_cons_succ]
  refine takeS_on (i := 19) 34 (v := ?v56) rfl rfl (by kernel_rfl) (by kernel_rfl) (by kernel_rfl) (fun _ _ _ h => h) (by kernel_rfl) ?hy56 (by exact hS0) ?_
  case hy56 => (intro w' hSw; go_simp; try (with_reducible rfl))
  simp only [Act.put, List.setIfInBounds_toArray, List.set_cons_zero, List.set_cons_succ]
  refine takeS_on (i := 20) 35 (v := ?v57) rfl rfl (by kernel_rfl) (by kernel_rfl) (by kernel_rfl) (fun _ _ _ h => h) (by kernel_rfl) ?hy57 (by exact hS0) ?_
  case hy57 => (intro w' hSw; go_simp; try (with_reducible rfl))
  simp only [Act.put, List.setIfInBounds_toArray, List.set_cons_zero, List.set_cons_succ]
  refine wpAnyH_ready (rs := [8]) (by kernel_rfl) (by simp) (AllReadyH.cons rfl (fun K hK => ?_) AllReadyH.nil)
  go_simp
  refine (HP.out _ hS0.g).mono ?_
  rintro e w1 ⟨v2, rfl, o2, g2⟩
  have hS1 := hS0.gr g2
  obtain ⟨ao2, cap2, hv2⟩ := o2.form
  rw [List.length_set] at hv2
  subst hv2
  have O2 := hid (o2.lower (show w.heap.size + 1 ≤ _ from (by obtain ⟨_, q, _⟩ := hS0.t; exact lt_of_block q)))
  clear o2 g2
  refine hK.out _ _ (by exact hS1) (fun _ => ?_)
  clear hK K
  refine takeS_on (i := 21) 6 (v := ?v58) rfl rfl (by kernel_rfl) (by kernel_rfl) (by kernel_rfl) (fun _ _ _ h => h) (by kernel_rfl) ?hy58 (by exact hS1) ?_
  case hy58 => (intro w' hSw; go_simp; try (with_reducible rfl))
  simp only [Act.put, List.setIfInBounds_toArray, List.set_cons_zero, List.set_cons_succ]
  refine wpAnyH_ready (rs := [22]) (by kernel_rfl) (by simp) (AllReadyH.cons rfl (fun K hK => ?_) AllReadyH.nil)
  rw [if_pos (by kernel_rfl)]
  obtain ⟨old, ht, hsz⟩ := hS1.t
  refine wp_store_row 28 (.tmp 7) (.tmp 35) rfl w.heap.size #[.int .i64 (j : Int), .int .i64 4, .int .i64 (inC vs (j : Int)), .int .i64 A, .bool true] rfl rfl _ _ ht acc_size hsz (one5 _ _ _ _ _) ?_
  have b3 := setRow_blk (c := #[.int .i64 (j : Int), .int .i64 4, .int .i64 (inC vs (j : Int)), .int .i64 A, .bool true]) ht
  have hS2 := hS1.st (setRow_ch _ w.heap.size #[.int .i64 (j : Int), .int .i64 4, .int .i64 (inC vs (j : Int)), .int .i64 A, .bool true]) b3 rfl
  have O3 := hid (O2.out.ch (setRow_ch _ w.heap.size #[.int .i64 (j : Int), .int .i64 4, .int .i64 (inC vs (j : Int)), .int .i64 A, .bool true]) (fun q hq e => by have q1 := (O2.out.blk hq).1; have e1 : q = w.heap.size := e; omega))
  clear ht hsz
  have B3 := hid b3
  clear b3
  refine hK.out _ _ (by exact hS2) (fun _ => ?_)
  clear hK K
  refine takeS_on (i := 23) 8 (v := ?v59) rfl rfl (by kernel_rfl) (by kernel_rfl) (by kernel_rfl) (fun _ _ _ h => h) (by kernel_rfl) ?hy59 (by exact hS2) ?_
  case hy59 => (intro w' hSw; go_simp; try (with_reducible rfl))
  simp only [Act.put, List.setIfInBounds_toArray]
  refine wpAnyH_done (by kernel_rfl) ?_ _
  go_wp2_with fail
  refine bodyPost_ret (results_tmp_cell_tmp rfl _ _ w.heap.size _ rfl (run_loadVar_row _ _ _ _ _ _ _ B3.out Try.underlying28 rfl acc_size)) rfl ?_
  exact ⟨ao2, cap2, by rw [E1.out, E2.out]; rfl, by rw [E3.out]; exact O3.out.lst.mono (fun q _ hq => .inr (by omega)), hS2.g⟩
end Go.Proofs.Ytpmhmikefkgbdab.Lt
