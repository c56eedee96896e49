/-
  What the program's calls answer on cells that nobody made. No conditions.
-/
import Derived.Test.YtpmhmikefkgbdabClAny
namespace Go.Proofs.Ytpmhmikefkgbdab.Lt
open Go.RowKit Wd
attribute [local go_sem ↓] Go.wp_at_zero Go.wp_at_succ

/-- cells that nobody made: none, or plain ones -/
def NoC (w : World) (p : Option Addr) : Prop := p = none ∨ ∃ b, p = some ⟨b, 0, none⟩ ∧ w.heap[b]? = some (.cells #[.bool false, .slice none 0 0] 37 (0, 0))
theorem NoC.gr {w w' : World} {p : Option Addr} (h : NoC w p) (g : Gr w w') : NoC w' p := by
  rcases h with h | ⟨b, h1, h2⟩
  · exact .inl h
  · exact .inr ⟨b, h1, gr_blk h2 g⟩
theorem len_no (w : World) (p : Option Addr) (h : NoC w p) : Calls Try.prog 12 #[.pointer p] w fun e w' => e = .returned (.int .i64 0) ∧ Gr w w' := by
  rcases h with rfl | ⟨b, rfl, h2⟩
  · go_enter Try.func12, Try.ntmps12
    go_wp2
    go_ret
    exact ⟨rfl, Gr.refl _⟩
  · have c1 := cell_of h2 1
    simp at c1
    clear h2
    go_enter Try.func12, Try.ntmps12
    go_wp2
    go_ret
    exact ⟨rfl, Gr.refl _⟩
theorem values_no (w : World) (p : Option Addr) (h : NoC w p) : Calls Try.prog 13 #[.pointer p] w fun e w' => ∃ ao cap, e = .returned (.slice ao 0 cap) ∧ Gr w w' := by
  rcases h with rfl | ⟨b, rfl, h2⟩
  · go_enter Try.func13, Try.ntmps13
    go_wp2
    go_ret
    exact ⟨_, _, rfl, Gr.refl _⟩
  · have c1 := cell_of h2 1
    simp at c1
    have HC := hid (fun (W : World) => clone_any NoB (.slice none 0 0) [] W (Ls.nil _ _ _) (by simp))
    clear h2
    go_enter Try.func13, Try.ntmps13
    go_wp2_with (go_at_call 25; refine (HC.out _).mono ?_; rintro e w1 ⟨v1, rfl, o1, g1⟩; obtain ⟨ao, cap, hv⟩ := o1.form; subst hv; have G1 := hid g1; clear o1 g1)
    go_ret
    exact ⟨_, _, rfl, G1.out⟩
theorem access_no_load (w : World) (p : Option Addr) (h : NoC w p) (i : Int) : Calls Try.prog 20 #[.pointer p, .int .i64 i, .int .i64 1, .func (.func 23) #[] #[]] w fun e w' => e = .returned (.tuple #[.agg #[.int .i64 0, .int .i64 0, .int .i64 0, .int .i64 0, .bool false], .int .i64 1]) ∧ Gr w w' := by
  rcases h with rfl | ⟨b, rfl, h2⟩
  · go_enter Try.func20, Try.ntmps20
    go_wp2
    exact bodyPost_ret (v := .tuple #[.agg #[.int .i64 0, .int .i64 0, .int .i64 0, .int .i64 0, .bool false], .int .i64 1]) (by simp [results, Try.results20, go_sem]) rfl ⟨rfl, (Gr.refl w).alloc _ _⟩
  · have c0 := cell_of h2 0
    simp at c0
    have hbl := lt_of_block h2
    clear h2
    go_enter Try.func20, Try.ntmps20
    go_wp2
    exact bodyPost_ret (v := .tuple #[.agg #[.int .i64 0, .int .i64 0, .int .i64 0, .int .i64 0, .bool false], .int .i64 1]) (by simp [results, Try.results20, go_sem]) rfl ⟨rfl, (Gr.refl w).alloc _ _⟩
set_option maxHeartbeats 1000000 in
theorem load_no (w : World) (p : Option Addr) (h : NoC w p) (i : Int) : Calls Try.prog 10 #[.pointer p, .int .i64 i] w fun e w' => e = .returned (.tuple #[.agg #[.int .i64 0, .int .i64 0, .int .i64 0, .int .i64 0, .bool false], .int .i64 1]) ∧ Gr w w' := by
  have HGr := hid (show Gr w (w.alloc (.cells #[.int .i64 0, .int .i64 0, .int .i64 0, .int .i64 0, .bool false] 28)) from ((Gr.refl w)).alloc _ _)
  have HA := hid (access_no_load (w.alloc (.cells #[.int .i64 0, .int .i64 0, .int .i64 0, .int .i64 0, .bool false] 28)) p (h.gr HGr.out) i )
  have HB := hid (show (w.alloc (.cells #[.int .i64 0, .int .i64 0, .int .i64 0, .int .i64 0, .bool false] 28)).heap[w.heap.size]? = some (.cells #[.int .i64 0, .int .i64 0, .int .i64 0, .int .i64 0, .bool false] 28 (0, 0)) from al_at _ (by simp))
  clear h
  go_enter Try.func10, Try.ntmps10
  go_wp2_with (first | (go_at_call 20; refine HA.out.mono ?_; rintro e w1 ⟨rfl, g1⟩; have BT := hid (gr_blk HB.out g1); have G1 := hid (Gr.trans HGr.out g1); clear g1) | (refine st_row rfl 28 (.tmp 4) (.tmp 9) rfl w.heap.size _ rfl rfl _ _ BT.out acc_size rfl (one5 _ _ _ _ _) ?_; intro w9 b9 k9; have R9 := hid b9; have K9 := hid k9; clear b9 k9))
  refine bodyPost_ret (results_cell_tmp2 rfl _ _ w.heap.size _ rfl (run_loadVar_row _ _ _ _ _ _ _ R9.out Try.underlying28 rfl acc_size)) rfl ?_
  exact ⟨rfl, Ch.trans G1.out K9.out (fun x q => .inr (by rw [q]; omega))⟩
theorem access_no_store (w : World) (p : Option Addr) (h : NoC w p) (i : Int) (X0 : Nat) : Calls Try.prog 20 #[.pointer p, .int .i64 i, .int .i64 2, .func (.func 21) #[] #[.pointer (some ⟨X0, 0, none⟩)]] w fun e w' => e = .returned (.tuple #[.agg #[.int .i64 0, .int .i64 0, .int .i64 0, .int .i64 0, .bool false], .int .i64 1]) ∧ Gr w w' := by
  rcases h with rfl | ⟨b, rfl, h2⟩
  · go_enter Try.func20, Try.ntmps20
    go_wp2
    exact bodyPost_ret (v := .tuple #[.agg #[.int .i64 0, .int .i64 0, .int .i64 0, .int .i64 0, .bool false], .int .i64 1]) (by simp [results, Try.results20, go_sem]) rfl ⟨rfl, (Gr.refl w).alloc _ _⟩
  · have c0 := cell_of h2 0
    simp at c0
    have hbl := lt_of_block h2
    clear h2
    go_enter Try.func20, Try.ntmps20
    go_wp2
    exact bodyPost_ret (v := .tuple #[.agg #[.int .i64 0, .int .i64 0, .int .i64 0, .int .i64 0, .bool false], .int .i64 1]) (by simp [results, Try.results20, go_sem]) rfl ⟨rfl, (Gr.refl w).alloc _ _⟩
set_option maxHeartbeats 1000000 in
theorem store_no (w : World) (p : Option Addr) (h : NoC w p) (i : Int) (v : Int) : Calls Try.prog 7 #[.pointer p, .int .i64 i, .int .i64 v] w fun e w' => e = .returned (.tuple #[.agg #[.int .i64 0, .int .i64 0, .int .i64 0, .int .i64 0, .bool false], .int .i64 1]) ∧ Gr w w' := by
  have HGr := hid (show Gr w ((w.alloc (.cells #[.int .i64 v] 2)).alloc (.cells #[.int .i64 0, .int .i64 0, .int .i64 0, .int .i64 0, .bool false] 28)) from (((Gr.refl w)).alloc _ _).alloc _ _)
  have HA := hid (access_no_store ((w.alloc (.cells #[.int .i64 v] 2)).alloc (.cells #[.int .i64 0, .int .i64 0, .int .i64 0, .int .i64 0, .bool false] 28)) p (h.gr HGr.out) i w.heap.size)
  have HB := hid (show ((w.alloc (.cells #[.int .i64 v] 2)).alloc (.cells #[.int .i64 0, .int .i64 0, .int .i64 0, .int .i64 0, .bool false] 28)).heap[(w.heap.size + 1)]? = some (.cells #[.int .i64 0, .int .i64 0, .int .i64 0, .int .i64 0, .bool false] 28 (0, 0)) from al_at _ (by simp))
  clear h
  go_enter Try.func7, Try.ntmps7
  go_wp2_with (first | (go_at_call 20; refine HA.out.mono ?_; rintro e w1 ⟨rfl, g1⟩; have BT := hid (gr_blk HB.out g1); have G1 := hid (Gr.trans HGr.out g1); clear g1) | (refine st_row rfl 28 (.tmp 6) (.tmp 12) rfl (w.heap.size + 1) _ rfl rfl _ _ BT.out acc_size rfl (one5 _ _ _ _ _) ?_; intro w9 b9 k9; have R9 := hid b9; have K9 := hid k9; clear b9 k9))
  refine bodyPost_ret (results_cell_tmp2 rfl _ _ (w.heap.size + 1) _ rfl (run_loadVar_row _ _ _ _ _ _ _ R9.out Try.underlying28 rfl acc_size)) rfl ?_
  exact ⟨rfl, Ch.trans G1.out K9.out (fun x q => .inr (by rw [q]; omega))⟩
theorem access_no_swap (w : World) (p : Option Addr) (h : NoC w p) (i : Int) (X0 X1 : Nat) : Calls Try.prog 20 #[.pointer p, .int .i64 i, .int .i64 3, .func (.func 22) #[] #[.pointer (some ⟨X0, 0, none⟩), .pointer (some ⟨X1, 0, none⟩)]] w fun e w' => e = .returned (.tuple #[.agg #[.int .i64 0, .int .i64 0, .int .i64 0, .int .i64 0, .bool false], .int .i64 1]) ∧ Gr w w' := by
  rcases h with rfl | ⟨b, rfl, h2⟩
  · go_enter Try.func20, Try.ntmps20
    go_wp2
    exact bodyPost_ret (v := .tuple #[.agg #[.int .i64 0, .int .i64 0, .int .i64 0, .int .i64 0, .bool false], .int .i64 1]) (by simp [results, Try.results20, go_sem]) rfl ⟨rfl, (Gr.refl w).alloc _ _⟩
  · have c0 := cell_of h2 0
    simp at c0
    have hbl := lt_of_block h2
    clear h2
    go_enter Try.func20, Try.ntmps20
    go_wp2
    exact bodyPost_ret (v := .tuple #[.agg #[.int .i64 0, .int .i64 0, .int .i64 0, .int .i64 0, .bool false], .int .i64 1]) (by simp [results, Try.results20, go_sem]) rfl ⟨rfl, (Gr.refl w).alloc _ _⟩
set_option maxHeartbeats 1000000 in
theorem swap_no (w : World) (p : Option Addr) (h : NoC w p) (i : Int) (o v : Int) : Calls Try.prog 8 #[.pointer p, .int .i64 i, .int .i64 o, .int .i64 v] w fun e w' => e = .returned (.tuple #[.agg #[.int .i64 0, .int .i64 0, .int .i64 0, .int .i64 0, .bool false], .int .i64 1]) ∧ Gr w w' := by
  have HGr := hid (show Gr w (((w.alloc (.cells #[.int .i64 o] 2)).alloc (.cells #[.int .i64 v] 2)).alloc (.cells #[.int .i64 0, .int .i64 0, .int .i64 0, .int .i64 0, .bool false] 28)) from ((((Gr.refl w)).alloc _ _).alloc _ _).alloc _ _)
  have HA := hid (access_no_swap (((w.alloc (.cells #[.int .i64 o] 2)).alloc (.cells #[.int .i64 v] 2)).alloc (.cells #[.int .i64 0, .int .i64 0, .int .i64 0, .int .i64 0, .bool false] 28)) p (h.gr HGr.out) i w.heap.size (w.heap.size + 1))
  have HB := hid (show (((w.alloc (.cells #[.int .i64 o] 2)).alloc (.cells #[.int .i64 v] 2)).alloc (.cells #[.int .i64 0, .int .i64 0, .int .i64 0, .int .i64 0, .bool false] 28)).heap[(w.heap.size + 2)]? = some (.cells #[.int .i64 0, .int .i64 0, .int .i64 0, .int .i64 0, .bool false] 28 (0, 0)) from al_at _ (by simp))
  clear h
  go_enter Try.func8, Try.ntmps8
  go_wp2_with (first | (go_at_call 20; refine HA.out.mono ?_; rintro e w1 ⟨rfl, g1⟩; have BT := hid (gr_blk HB.out g1); have G1 := hid (Gr.trans HGr.out g1); clear g1) | (refine st_row rfl 28 (.tmp 8) (.tmp 14) rfl (w.heap.size + 2) _ rfl rfl _ _ BT.out acc_size rfl (one5 _ _ _ _ _) ?_; intro w9 b9 k9; have R9 := hid b9; have K9 := hid k9; clear b9 k9))
  refine bodyPost_ret (results_cell_tmp2 rfl _ _ (w.heap.size + 2) _ rfl (run_loadVar_row _ _ _ _ _ _ _ R9.out Try.underlying28 rfl acc_size)) rfl ?_
  exact ⟨rfl, Ch.trans G1.out K9.out (fun x q => .inr (by rw [q]; omega))⟩
theorem access_no_add (w : World) (p : Option Addr) (h : NoC w p) (i : Int) (X0 : Nat) : Calls Try.prog 20 #[.pointer p, .int .i64 i, .int .i64 4, .func (.func 24) #[] #[.pointer (some ⟨X0, 0, none⟩)]] w fun e w' => e = .returned (.tuple #[.agg #[.int .i64 0, .int .i64 0, .int .i64 0, .int .i64 0, .bool false], .int .i64 1]) ∧ Gr w w' := by
  rcases h with rfl | ⟨b, rfl, h2⟩
  · go_enter Try.func20, Try.ntmps20
    go_wp2
    exact bodyPost_ret (v := .tuple #[.agg #[.int .i64 0, .int .i64 0, .int .i64 0, .int .i64 0, .bool false], .int .i64 1]) (by simp [results, Try.results20, go_sem]) rfl ⟨rfl, (Gr.refl w).alloc _ _⟩
  · have c0 := cell_of h2 0
    simp at c0
    have hbl := lt_of_block h2
    clear h2
    go_enter Try.func20, Try.ntmps20
    go_wp2
    exact bodyPost_ret (v := .tuple #[.agg #[.int .i64 0, .int .i64 0, .int .i64 0, .int .i64 0, .bool false], .int .i64 1]) (by simp [results, Try.results20, go_sem]) rfl ⟨rfl, (Gr.refl w).alloc _ _⟩
set_option maxHeartbeats 1000000 in
theorem add_no (w : World) (p : Option Addr) (h : NoC w p) (i : Int) (v : Int) : Calls Try.prog 11 #[.pointer p, .int .i64 i, .int .i64 v] w fun e w' => e = .returned (.tuple #[.agg #[.int .i64 0, .int .i64 0, .int .i64 0, .int .i64 0, .bool false], .int .i64 1]) ∧ Gr w w' := by
  have HGr := hid (show Gr w ((w.alloc (.cells #[.int .i64 v] 2)).alloc (.cells #[.int .i64 0, .int .i64 0, .int .i64 0, .int .i64 0, .bool false] 28)) from (((Gr.refl w)).alloc _ _).alloc _ _)
  have HA := hid (access_no_add ((w.alloc (.cells #[.int .i64 v] 2)).alloc (.cells #[.int .i64 0, .int .i64 0, .int .i64 0, .int .i64 0, .bool false] 28)) p (h.gr HGr.out) i w.heap.size)
  have HB := hid (show ((w.alloc (.cells #[.int .i64 v] 2)).alloc (.cells #[.int .i64 0, .int .i64 0, .int .i64 0, .int .i64 0, .bool false] 28)).heap[(w.heap.size + 1)]? = some (.cells #[.int .i64 0, .int .i64 0, .int .i64 0, .int .i64 0, .bool false] 28 (0, 0)) from al_at _ (by simp))
  clear h
  go_enter Try.func11, Try.ntmps11
  go_wp2_with (first | (go_at_call 20; refine HA.out.mono ?_; rintro e w1 ⟨rfl, g1⟩; have BT := hid (gr_blk HB.out g1); have G1 := hid (Gr.trans HGr.out g1); clear g1) | (refine st_row rfl 28 (.tmp 6) (.tmp 12) rfl (w.heap.size + 1) _ rfl rfl _ _ BT.out acc_size rfl (one5 _ _ _ _ _) ?_; intro w9 b9 k9; have R9 := hid b9; have K9 := hid k9; clear b9 k9))
  refine bodyPost_ret (results_cell_tmp2 rfl _ _ (w.heap.size + 1) _ rfl (run_loadVar_row _ _ _ _ _ _ _ R9.out Try.underlying28 rfl acc_size)) rfl ?_
  exact ⟨rfl, Ch.trans G1.out K9.out (fun x q => .inr (by rw [q]; omega))⟩
end Go.Proofs.Ytpmhmikefkgbdab.Lt
