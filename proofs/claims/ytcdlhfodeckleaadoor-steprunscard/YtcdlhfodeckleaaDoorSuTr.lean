/-
  What the program's traps answers where it traps, and where it does not. No conditions.
-/
import Derived.Test.YtcdlhfodeckleaaDoorSuSm
import Derived.Test.YtcdlhfodeckleaaDoorStBegin
namespace Go.Proofs.YtcdlhfodeckleaaDoor.Lt
open Go.RowKit Wd

theorem al_at9 {w : World} {x : Nat} (o : Obj) (h : x = w.heap.size) : (w.alloc o).heap[x]? = some o := by
  subst h
  exact (MapKept.heap_alloc w o).1
set_option maxRecDepth 20000 in
theorem traps_div0_8 (w : World) (aoc aof aot : Option Addr) (nc nf nt cac caf cat : Nat) (pc : Int) (r : List Int) (hr : r.length = 16) (ao : Option Addr) (n cap : Nat) (o2 o3 im : Int) (c : Nat) (lc : c < 16) (hz : r[c]? = some 0) :
    Calls Tryd.prog 30 #[.agg #[.slice aoc nc cac, .slice aof nf caf, .slice aot nt cat], .agg (cC pc r (.slice ao n cap)), .agg #[.int .i64 8, .int .i64 o2, .int .i64 o3, .int .i64 (c : Int), .int .i64 im]] w fun e w' => e = .returned (.tuple #[.agg (wt 58 0 0 0 0 0 0 0 0 2 0), .bool true]) ∧ Gr w w' := by
  have K0 := hid (show Gr w ((((w.alloc (.cells #[.slice aoc nc cac, .slice aof nf caf, .slice aot nt cat] 26)).alloc (.cells (cC pc r (.slice ao n cap)) 30)).alloc (.cells #[.int .i64 8, .int .i64 o2, .int .i64 o3, .int .i64 (c : Int), .int .i64 im] 46)).alloc (.cells #[.int .i64 0, .int .i64 0, .int .i64 0, .int .i64 0, .int .i64 0, .int .i64 0, .int .i64 0, .int .i64 0, .int .i64 0, .int .i64 0, .int .i64 0] 49)) from Ch.alloc (Ch.alloc (Ch.alloc (Ch.alloc (Gr.refl w) _) _) _) _)
  have BT := hid (show ((((w.alloc (.cells #[.slice aoc nc cac, .slice aof nf caf, .slice aot nt cat] 26)).alloc (.cells (cC pc r (.slice ao n cap)) 30)).alloc (.cells #[.int .i64 8, .int .i64 o2, .int .i64 o3, .int .i64 (c : Int), .int .i64 im] 46)).alloc (.cells #[.int .i64 0, .int .i64 0, .int .i64 0, .int .i64 0, .int .i64 0, .int .i64 0, .int .i64 0, .int .i64 0, .int .i64 0, .int .i64 0, .int .i64 0] 49)).heap[w.heap.size + 3]? = some (.cells #[.int .i64 0, .int .i64 0, .int .i64 0, .int .i64 0, .int .i64 0, .int .i64 0, .int .i64 0, .int .i64 0, .int .i64 0, .int .i64 0, .int .i64 0] 49 (0, 0)) from al_at9 _ (by simp))
  have hv := cC_v hr pc (.slice ao n cap)
  have HTR := hid (fun (t : Int) (W : World) => ptrap_any t W)
  have HHF := hid (fun (W : World) (f : Int) => hasf_any W aoc aof aot nc nf nt cac caf cat f)
  have hc := cC_get (pc := pc) (v := .slice ao n cap) hz
  have c0 : (0 : Int) ≤ (c : Int) := by omega
  have c1 : (c : Int) < 16 := by omega
  clear hr
  go_enter Tryd.func30, Tryd.ntmps30
  go_wp2_with (first
    | (go_at_call 21; refine (HHF.out _ _).mono ?_; rintro e w0 ⟨rfl, g0⟩; have BT := hid (gr_blk BT.out g0); have K0 := hid (Gr.trans K0.out g0); clear g0)
    | (go_at_call 29; refine (HTR.out _ _).mono ?_; rintro e w1 ⟨rfl, g1⟩; have B1 := hid (gr_blk BT.out g1); have K1 := hid (Gr.trans K0.out g1); clear g1)
    | (refine st_row rfl 49 (.tmp 6) (.tmp 32) rfl (w.heap.size + 3) _ rfl rfl _ _ B1.out want_size rfl (wt_one _ _ _ _ _ _ _ _ _ _ _) ?_; intro w9 b9 k9; have R9 := hid b9; have K9 := hid k9; clear b9 k9))
  refine bodyPost_ret (results_cell_tmp2 rfl _ _ (w.heap.size + 3) _ rfl (run_loadVar_row _ _ _ _ _ _ _ R9.out Tryd.underlying49 rfl want_size)) rfl ?_
  exact ⟨rfl, Ch.trans K1.out K9.out (fun q e => .inr (by have e1 : q = w.heap.size + 3 := e; omega))⟩
set_option maxRecDepth 20000 in
theorem traps_div0_9 (w : World) (aoc aof aot : Option Addr) (nc nf nt cac caf cat : Nat) (pc : Int) (r : List Int) (hr : r.length = 16) (ao : Option Addr) (n cap : Nat) (o2 o3 im : Int) (c : Nat) (lc : c < 16) (hz : r[c]? = some 0) :
    Calls Tryd.prog 30 #[.agg #[.slice aoc nc cac, .slice aof nf caf, .slice aot nt cat], .agg (cC pc r (.slice ao n cap)), .agg #[.int .i64 9, .int .i64 o2, .int .i64 o3, .int .i64 (c : Int), .int .i64 im]] w fun e w' => e = .returned (.tuple #[.agg (wt 58 0 0 0 0 0 0 0 0 2 0), .bool true]) ∧ Gr w w' := by
  have K0 := hid (show Gr w ((((w.alloc (.cells #[.slice aoc nc cac, .slice aof nf caf, .slice aot nt cat] 26)).alloc (.cells (cC pc r (.slice ao n cap)) 30)).alloc (.cells #[.int .i64 9, .int .i64 o2, .int .i64 o3, .int .i64 (c : Int), .int .i64 im] 46)).alloc (.cells #[.int .i64 0, .int .i64 0, .int .i64 0, .int .i64 0, .int .i64 0, .int .i64 0, .int .i64 0, .int .i64 0, .int .i64 0, .int .i64 0, .int .i64 0] 49)) from Ch.alloc (Ch.alloc (Ch.alloc (Ch.alloc (Gr.refl w) _) _) _) _)
  have BT := hid (show ((((w.alloc (.cells #[.slice aoc nc cac, .slice aof nf caf, .slice aot nt cat] 26)).alloc (.cells (cC pc r (.slice ao n cap)) 30)).alloc (.cells #[.int .i64 9, .int .i64 o2, .int .i64 o3, .int .i64 (c : Int), .int .i64 im] 46)).alloc (.cells #[.int .i64 0, .int .i64 0, .int .i64 0, .int .i64 0, .int .i64 0, .int .i64 0, .int .i64 0, .int .i64 0, .int .i64 0, .int .i64 0, .int .i64 0] 49)).heap[w.heap.size + 3]? = some (.cells #[.int .i64 0, .int .i64 0, .int .i64 0, .int .i64 0, .int .i64 0, .int .i64 0, .int .i64 0, .int .i64 0, .int .i64 0, .int .i64 0, .int .i64 0] 49 (0, 0)) from al_at9 _ (by simp))
  have hv := cC_v hr pc (.slice ao n cap)
  have HTR := hid (fun (t : Int) (W : World) => ptrap_any t W)
  have HHF := hid (fun (W : World) (f : Int) => hasf_any W aoc aof aot nc nf nt cac caf cat f)
  have hc := cC_get (pc := pc) (v := .slice ao n cap) hz
  have c0 : (0 : Int) ≤ (c : Int) := by omega
  have c1 : (c : Int) < 16 := by omega
  clear hr
  go_enter Tryd.func30, Tryd.ntmps30
  go_wp2_with (first
    | (go_at_call 21; refine (HHF.out _ _).mono ?_; rintro e w0 ⟨rfl, g0⟩; have BT := hid (gr_blk BT.out g0); have K0 := hid (Gr.trans K0.out g0); clear g0)
    | (go_at_call 29; refine (HTR.out _ _).mono ?_; rintro e w1 ⟨rfl, g1⟩; have B1 := hid (gr_blk BT.out g1); have K1 := hid (Gr.trans K0.out g1); clear g1)
    | (refine st_row rfl 49 (.tmp 6) (.tmp 32) rfl (w.heap.size + 3) _ rfl rfl _ _ B1.out want_size rfl (wt_one _ _ _ _ _ _ _ _ _ _ _) ?_; intro w9 b9 k9; have R9 := hid b9; have K9 := hid k9; clear b9 k9))
  refine bodyPost_ret (results_cell_tmp2 rfl _ _ (w.heap.size + 3) _ rfl (run_loadVar_row _ _ _ _ _ _ _ R9.out Tryd.underlying49 rfl want_size)) rfl ?_
  exact ⟨rfl, Ch.trans K1.out K9.out (fun q e => .inr (by have e1 : q = w.heap.size + 3 := e; omega))⟩
set_option maxRecDepth 20000 in
theorem traps_full (w : World) (aoc aof aot : Option Addr) (nc nf nt cac caf cat : Nat) (pc : Int) (r : List Int) (hr : r.length = 16) (ao : Option Addr) (n cap : Nat) (o2 o3 o4 im : Int) (hn : 64 ≤ n) :
    Calls Tryd.prog 30 #[.agg #[.slice aoc nc cac, .slice aof nf caf, .slice aot nt cat], .agg (cC pc r (.slice ao n cap)), .agg #[.int .i64 20, .int .i64 o2, .int .i64 o3, .int .i64 o4, .int .i64 im]] w fun e w' => e = .returned (.tuple #[.agg (wt 58 0 0 0 0 0 0 0 0 3 0), .bool true]) ∧ Gr w w' := by
  have K0 := hid (show Gr w ((((w.alloc (.cells #[.slice aoc nc cac, .slice aof nf caf, .slice aot nt cat] 26)).alloc (.cells (cC pc r (.slice ao n cap)) 30)).alloc (.cells #[.int .i64 20, .int .i64 o2, .int .i64 o3, .int .i64 o4, .int .i64 im] 46)).alloc (.cells #[.int .i64 0, .int .i64 0, .int .i64 0, .int .i64 0, .int .i64 0, .int .i64 0, .int .i64 0, .int .i64 0, .int .i64 0, .int .i64 0, .int .i64 0] 49)) from Ch.alloc (Ch.alloc (Ch.alloc (Ch.alloc (Gr.refl w) _) _) _) _)
  have BT := hid (show ((((w.alloc (.cells #[.slice aoc nc cac, .slice aof nf caf, .slice aot nt cat] 26)).alloc (.cells (cC pc r (.slice ao n cap)) 30)).alloc (.cells #[.int .i64 20, .int .i64 o2, .int .i64 o3, .int .i64 o4, .int .i64 im] 46)).alloc (.cells #[.int .i64 0, .int .i64 0, .int .i64 0, .int .i64 0, .int .i64 0, .int .i64 0, .int .i64 0, .int .i64 0, .int .i64 0, .int .i64 0, .int .i64 0] 49)).heap[w.heap.size + 3]? = some (.cells #[.int .i64 0, .int .i64 0, .int .i64 0, .int .i64 0, .int .i64 0, .int .i64 0, .int .i64 0, .int .i64 0, .int .i64 0, .int .i64 0, .int .i64 0] 49 (0, 0)) from al_at9 _ (by simp))
  have hv := cC_v hr pc (.slice ao n cap)
  have HTR := hid (fun (t : Int) (W : World) => ptrap_any t W)
  have HHF := hid (fun (W : World) (f : Int) => hasf_any W aoc aof aot nc nf nt cac caf cat f)
  have hq : (64 : Int) ≤ (n : Int) := by omega
  clear hr
  go_enter Tryd.func30, Tryd.ntmps30
  go_wp2_with (first
    | (go_at_call 21; refine (HHF.out _ _).mono ?_; rintro e w0 ⟨rfl, g0⟩; have BT := hid (gr_blk BT.out g0); have K0 := hid (Gr.trans K0.out g0); clear g0)
    | (go_at_call 29; refine (HTR.out _ _).mono ?_; rintro e w1 ⟨rfl, g1⟩; have B1 := hid (gr_blk BT.out g1); have K1 := hid (Gr.trans K0.out g1); clear g1)
    | (refine st_row rfl 49 (.tmp 6) (.tmp 43) rfl (w.heap.size + 3) _ rfl rfl _ _ B1.out want_size rfl (wt_one _ _ _ _ _ _ _ _ _ _ _) ?_; intro w9 b9 k9; have R9 := hid b9; have K9 := hid k9; clear b9 k9))
  refine bodyPost_ret (results_cell_tmp2 rfl _ _ (w.heap.size + 3) _ rfl (run_loadVar_row _ _ _ _ _ _ _ R9.out Tryd.underlying49 rfl want_size)) rfl ?_
  exact ⟨rfl, Ch.trans K1.out K9.out (fun q e => .inr (by have e1 : q = w.heap.size + 3 := e; omega))⟩
set_option maxRecDepth 20000 in
theorem traps_none (w : World) (aoc aof aot : Option Addr) (nc nf nt cac caf cat : Nat) (pc : Int) (r : List Int) (hr : r.length = 16) (ao : Option Addr) (n cap : Nat) (o2 o3 o4 im : Int) (hn : ¬ 64 ≤ n) (hf : ¬ (0 ≤ im ∧ im < (nf : Int))) :
    Calls Tryd.prog 30 #[.agg #[.slice aoc nc cac, .slice aof nf caf, .slice aot nt cat], .agg (cC pc r (.slice ao n cap)), .agg #[.int .i64 20, .int .i64 o2, .int .i64 o3, .int .i64 o4, .int .i64 im]] w fun e w' => e = .returned (.tuple #[.agg (wt 58 0 0 0 0 0 0 0 0 1 0), .bool true]) ∧ Gr w w' := by
  have K0 := hid (show Gr w ((((w.alloc (.cells #[.slice aoc nc cac, .slice aof nf caf, .slice aot nt cat] 26)).alloc (.cells (cC pc r (.slice ao n cap)) 30)).alloc (.cells #[.int .i64 20, .int .i64 o2, .int .i64 o3, .int .i64 o4, .int .i64 im] 46)).alloc (.cells #[.int .i64 0, .int .i64 0, .int .i64 0, .int .i64 0, .int .i64 0, .int .i64 0, .int .i64 0, .int .i64 0, .int .i64 0, .int .i64 0, .int .i64 0] 49)) from Ch.alloc (Ch.alloc (Ch.alloc (Ch.alloc (Gr.refl w) _) _) _) _)
  have BT := hid (show ((((w.alloc (.cells #[.slice aoc nc cac, .slice aof nf caf, .slice aot nt cat] 26)).alloc (.cells (cC pc r (.slice ao n cap)) 30)).alloc (.cells #[.int .i64 20, .int .i64 o2, .int .i64 o3, .int .i64 o4, .int .i64 im] 46)).alloc (.cells #[.int .i64 0, .int .i64 0, .int .i64 0, .int .i64 0, .int .i64 0, .int .i64 0, .int .i64 0, .int .i64 0, .int .i64 0, .int .i64 0, .int .i64 0] 49)).heap[w.heap.size + 3]? = some (.cells #[.int .i64 0, .int .i64 0, .int .i64 0, .int .i64 0, .int .i64 0, .int .i64 0, .int .i64 0, .int .i64 0, .int .i64 0, .int .i64 0, .int .i64 0] 49 (0, 0)) from al_at9 _ (by simp))
  have hv := cC_v hr pc (.slice ao n cap)
  have HTR := hid (fun (t : Int) (W : World) => ptrap_any t W)
  have HHF := hid (fun (W : World) (f : Int) => hasf_any W aoc aof aot nc nf nt cac caf cat f)
  have hq : ¬ (64 : Int) ≤ (n : Int) := by omega
  have hb : (decide (0 ≤ im) && decide (im < (nf : Int))) = false := by rw [Bool.and_eq_false_iff]; by_cases q : 0 ≤ im <;> simp_all
  clear hf
  clear hr
  go_enter Tryd.func30, Tryd.ntmps30
  go_wp2_with (first
    | (go_at_call 21; refine (HHF.out _ _).mono ?_; rintro e w0 ⟨rfl, g0⟩; have BT := hid (gr_blk BT.out g0); have K0 := hid (Gr.trans K0.out g0); clear g0)
    | (go_at_call 29; refine (HTR.out _ _).mono ?_; rintro e w1 ⟨rfl, g1⟩; have B1 := hid (gr_blk BT.out g1); have K1 := hid (Gr.trans K0.out g1); clear g1)
    | (refine st_row rfl 49 (.tmp 6) (.tmp 55) rfl (w.heap.size + 3) _ rfl rfl _ _ B1.out want_size rfl (wt_one _ _ _ _ _ _ _ _ _ _ _) ?_; intro w9 b9 k9; have R9 := hid b9; have K9 := hid k9; clear b9 k9))
  refine bodyPost_ret (results_cell_tmp2 rfl _ _ (w.heap.size + 3) _ rfl (run_loadVar_row _ _ _ _ _ _ _ R9.out Tryd.underlying49 rfl want_size)) rfl ?_
  exact ⟨rfl, Ch.trans K1.out K9.out (fun q e => .inr (by have e1 : q = w.heap.size + 3 := e; omega))⟩
set_option maxRecDepth 20000 in
theorem traps_divn_8 (w : World) (aoc aof aot : Option Addr) (nc nf nt cac caf cat : Nat) (pc : Int) (r : List Int) (hr : r.length = 16) (ao : Option Addr) (n cap : Nat) (o2 o3 im : Int) (c : Nat) (lc : c < 16) (z : Int) (hz : r[c]? = some z) (hn : z ≠ 0) :
    Calls Tryd.prog 30 #[.agg #[.slice aoc nc cac, .slice aof nf caf, .slice aot nt cat], .agg (cC pc r (.slice ao n cap)), .agg #[.int .i64 8, .int .i64 o2, .int .i64 o3, .int .i64 (c : Int), .int .i64 im]] w fun e w' => e = .returned (.tuple #[.agg #[.int .i64 0, .int .i64 0, .int .i64 0, .int .i64 0, .int .i64 0, .int .i64 0, .int .i64 0, .int .i64 0, .int .i64 0, .int .i64 0, .int .i64 0], .bool false]) ∧ Gr w w' := by
  have K0 := hid (show Gr w ((((w.alloc (.cells #[.slice aoc nc cac, .slice aof nf caf, .slice aot nt cat] 26)).alloc (.cells (cC pc r (.slice ao n cap)) 30)).alloc (.cells #[.int .i64 8, .int .i64 o2, .int .i64 o3, .int .i64 (c : Int), .int .i64 im] 46)).alloc (.cells #[.int .i64 0, .int .i64 0, .int .i64 0, .int .i64 0, .int .i64 0, .int .i64 0, .int .i64 0, .int .i64 0, .int .i64 0, .int .i64 0, .int .i64 0] 49)) from Ch.alloc (Ch.alloc (Ch.alloc (Ch.alloc (Gr.refl w) _) _) _) _)
  have BT := hid (show ((((w.alloc (.cells #[.slice aoc nc cac, .slice aof nf caf, .slice aot nt cat] 26)).alloc (.cells (cC pc r (.slice ao n cap)) 30)).alloc (.cells #[.int .i64 8, .int .i64 o2, .int .i64 o3, .int .i64 (c : Int), .int .i64 im] 46)).alloc (.cells #[.int .i64 0, .int .i64 0, .int .i64 0, .int .i64 0, .int .i64 0, .int .i64 0, .int .i64 0, .int .i64 0, .int .i64 0, .int .i64 0, .int .i64 0] 49)).heap[w.heap.size + 3]? = some (.cells #[.int .i64 0, .int .i64 0, .int .i64 0, .int .i64 0, .int .i64 0, .int .i64 0, .int .i64 0, .int .i64 0, .int .i64 0, .int .i64 0, .int .i64 0] 49 (0, 0)) from al_at9 _ (by simp))
  have hv := cC_v hr pc (.slice ao n cap)
  have HHF := hid (fun (W : World) (f : Int) => hasf_any W aoc aof aot nc nf nt cac caf cat f)
  have hc := cC_get (pc := pc) (v := .slice ao n cap) hz
  have c0 : (0 : Int) ≤ (c : Int) := by omega
  have c1 : (c : Int) < 16 := by omega
  have hzb : (z == 0) = false := by simpa using hn
  clear hr
  go_enter Tryd.func30, Tryd.ntmps30
  go_wp2_with (first
    | (go_at_call 21; refine (HHF.out _ _).mono ?_; rintro e w0 ⟨rfl, g0⟩; have BT := hid (gr_blk BT.out g0); have K0 := hid (Gr.trans K0.out g0); clear g0)
    | (refine st_row rfl 49 (.tmp 6) (.tmp 56) rfl (w.heap.size + 3) _ rfl rfl _ _ BT.out want_size rfl one11 ?_; intro w9 b9 k9; have R9 := hid b9; have K9 := hid k9; clear b9 k9))
  refine bodyPost_ret (results_cell_tmp2 rfl _ _ (w.heap.size + 3) _ rfl (run_loadVar_row _ _ _ _ _ _ _ R9.out Tryd.underlying49 rfl want_size)) rfl ?_
  exact ⟨rfl, Ch.trans K0.out K9.out (fun q e => .inr (by have e1 : q = w.heap.size + 3 := e; omega))⟩
set_option maxRecDepth 20000 in
theorem traps_divn_9 (w : World) (aoc aof aot : Option Addr) (nc nf nt cac caf cat : Nat) (pc : Int) (r : List Int) (hr : r.length = 16) (ao : Option Addr) (n cap : Nat) (o2 o3 im : Int) (c : Nat) (lc : c < 16) (z : Int) (hz : r[c]? = some z) (hn : z ≠ 0) :
    Calls Tryd.prog 30 #[.agg #[.slice aoc nc cac, .slice aof nf caf, .slice aot nt cat], .agg (cC pc r (.slice ao n cap)), .agg #[.int .i64 9, .int .i64 o2, .int .i64 o3, .int .i64 (c : Int), .int .i64 im]] w fun e w' => e = .returned (.tuple #[.agg #[.int .i64 0, .int .i64 0, .int .i64 0, .int .i64 0, .int .i64 0, .int .i64 0, .int .i64 0, .int .i64 0, .int .i64 0, .int .i64 0, .int .i64 0], .bool false]) ∧ Gr w w' := by
  have K0 := hid (show Gr w ((((w.alloc (.cells #[.slice aoc nc cac, .slice aof nf caf, .slice aot nt cat] 26)).alloc (.cells (cC pc r (.slice ao n cap)) 30)).alloc (.cells #[.int .i64 9, .int .i64 o2, .int .i64 o3, .int .i64 (c : Int), .int .i64 im] 46)).alloc (.cells #[.int .i64 0, .int .i64 0, .int .i64 0, .int .i64 0, .int .i64 0, .int .i64 0, .int .i64 0, .int .i64 0, .int .i64 0, .int .i64 0, .int .i64 0] 49)) from Ch.alloc (Ch.alloc (Ch.alloc (Ch.alloc (Gr.refl w) _) _) _) _)
  have BT := hid (show ((((w.alloc (.cells #[.slice aoc nc cac, .slice aof nf caf, .slice aot nt cat] 26)).alloc (.cells (cC pc r (.slice ao n cap)) 30)).alloc (.cells #[.int .i64 9, .int .i64 o2, .int .i64 o3, .int .i64 (c : Int), .int .i64 im] 46)).alloc (.cells #[.int .i64 0, .int .i64 0, .int .i64 0, .int .i64 0, .int .i64 0, .int .i64 0, .int .i64 0, .int .i64 0, .int .i64 0, .int .i64 0, .int .i64 0] 49)).heap[w.heap.size + 3]? = some (.cells #[.int .i64 0, .int .i64 0, .int .i64 0, .int .i64 0, .int .i64 0, .int .i64 0, .int .i64 0, .int .i64 0, .int .i64 0, .int .i64 0, .int .i64 0] 49 (0, 0)) from al_at9 _ (by simp))
  have hv := cC_v hr pc (.slice ao n cap)
  have HHF := hid (fun (W : World) (f : Int) => hasf_any W aoc aof aot nc nf nt cac caf cat f)
  have hc := cC_get (pc := pc) (v := .slice ao n cap) hz
  have c0 : (0 : Int) ≤ (c : Int) := by omega
  have c1 : (c : Int) < 16 := by omega
  have hzb : (z == 0) = false := by simpa using hn
  clear hr
  go_enter Tryd.func30, Tryd.ntmps30
  go_wp2_with (first
    | (go_at_call 21; refine (HHF.out _ _).mono ?_; rintro e w0 ⟨rfl, g0⟩; have BT := hid (gr_blk BT.out g0); have K0 := hid (Gr.trans K0.out g0); clear g0)
    | (refine st_row rfl 49 (.tmp 6) (.tmp 56) rfl (w.heap.size + 3) _ rfl rfl _ _ BT.out want_size rfl one11 ?_; intro w9 b9 k9; have R9 := hid b9; have K9 := hid k9; clear b9 k9))
  refine bodyPost_ret (results_cell_tmp2 rfl _ _ (w.heap.size + 3) _ rfl (run_loadVar_row _ _ _ _ _ _ _ R9.out Tryd.underlying49 rfl want_size)) rfl ?_
  exact ⟨rfl, Ch.trans K0.out K9.out (fun q e => .inr (by have e1 : q = w.heap.size + 3 := e; omega))⟩
set_option maxRecDepth 20000 in
theorem traps_fits (w : World) (aoc aof aot : Option Addr) (nc nf nt cac caf cat : Nat) (pc : Int) (r : List Int) (hr : r.length = 16) (ao : Option Addr) (n cap : Nat) (o2 o3 o4 im : Int) (hn : ¬ 64 ≤ n) (f0 : 0 ≤ im) (f1 : im < (nf : Int)) :
    Calls Tryd.prog 30 #[.agg #[.slice aoc nc cac, .slice aof nf caf, .slice aot nt cat], .agg (cC pc r (.slice ao n cap)), .agg #[.int .i64 20, .int .i64 o2, .int .i64 o3, .int .i64 o4, .int .i64 im]] w fun e w' => e = .returned (.tuple #[.agg #[.int .i64 0, .int .i64 0, .int .i64 0, .int .i64 0, .int .i64 0, .int .i64 0, .int .i64 0, .int .i64 0, .int .i64 0, .int .i64 0, .int .i64 0], .bool false]) ∧ Gr w w' := by
  have K0 := hid (show Gr w ((((w.alloc (.cells #[.slice aoc nc cac, .slice aof nf caf, .slice aot nt cat] 26)).alloc (.cells (cC pc r (.slice ao n cap)) 30)).alloc (.cells #[.int .i64 20, .int .i64 o2, .int .i64 o3, .int .i64 o4, .int .i64 im] 46)).alloc (.cells #[.int .i64 0, .int .i64 0, .int .i64 0, .int .i64 0, .int .i64 0, .int .i64 0, .int .i64 0, .int .i64 0, .int .i64 0, .int .i64 0, .int .i64 0] 49)) from Ch.alloc (Ch.alloc (Ch.alloc (Ch.alloc (Gr.refl w) _) _) _) _)
  have BT := hid (show ((((w.alloc (.cells #[.slice aoc nc cac, .slice aof nf caf, .slice aot nt cat] 26)).alloc (.cells (cC pc r (.slice ao n cap)) 30)).alloc (.cells #[.int .i64 20, .int .i64 o2, .int .i64 o3, .int .i64 o4, .int .i64 im] 46)).alloc (.cells #[.int .i64 0, .int .i64 0, .int .i64 0, .int .i64 0, .int .i64 0, .int .i64 0, .int .i64 0, .int .i64 0, .int .i64 0, .int .i64 0, .int .i64 0] 49)).heap[w.heap.size + 3]? = some (.cells #[.int .i64 0, .int .i64 0, .int .i64 0, .int .i64 0, .int .i64 0, .int .i64 0, .int .i64 0, .int .i64 0, .int .i64 0, .int .i64 0, .int .i64 0] 49 (0, 0)) from al_at9 _ (by simp))
  have hv := cC_v hr pc (.slice ao n cap)
  have HHF := hid (fun (W : World) (f : Int) => hasf_any W aoc aof aot nc nf nt cac caf cat f)
  have hq : ¬ (64 : Int) ≤ (n : Int) := by omega
  have hb : (decide (0 ≤ im) && decide (im < (nf : Int))) = true := by simp [f0, f1]
  clear hr
  go_enter Tryd.func30, Tryd.ntmps30
  go_wp2_with (first
    | (go_at_call 21; refine (HHF.out _ _).mono ?_; rintro e w0 ⟨rfl, g0⟩; have BT := hid (gr_blk BT.out g0); have K0 := hid (Gr.trans K0.out g0); clear g0)
    | (refine st_row rfl 49 (.tmp 6) (.tmp 56) rfl (w.heap.size + 3) _ rfl rfl _ _ BT.out want_size rfl one11 ?_; intro w9 b9 k9; have R9 := hid b9; have K9 := hid k9; clear b9 k9))
  refine bodyPost_ret (results_cell_tmp2 rfl _ _ (w.heap.size + 3) _ rfl (run_loadVar_row _ _ _ _ _ _ _ R9.out Tryd.underlying49 rfl want_size)) rfl ?_
  exact ⟨rfl, Ch.trans K0.out K9.out (fun q e => .inr (by have e1 : q = w.heap.size + 3 := e; omega))⟩
set_option maxRecDepth 20000 in
theorem traps_58 (w : World) (aoc aof aot : Option Addr) (nc nf nt cac caf cat : Nat) (pc : Int) (r : List Int) (ao : Option Addr) (n cap : Nat) (o2 o3 o4 im : Int) :
    Calls Tryd.prog 30 #[.agg #[.slice aoc nc cac, .slice aof nf caf, .slice aot nt cat], .agg (cC pc r (.slice ao n cap)), .agg #[.int .i64 58, .int .i64 o2, .int .i64 o3, .int .i64 o4, .int .i64 im]] w fun e w' => e = .returned (.tuple #[.agg (wt 58 0 0 0 0 0 0 0 0 16 im), .bool true]) ∧ Gr w w' := by
  have K0 := hid (show Gr w ((((w.alloc (.cells #[.slice aoc nc cac, .slice aof nf caf, .slice aot nt cat] 26)).alloc (.cells (cC pc r (.slice ao n cap)) 30)).alloc (.cells #[.int .i64 58, .int .i64 o2, .int .i64 o3, .int .i64 o4, .int .i64 im] 46)).alloc (.cells #[.int .i64 0, .int .i64 0, .int .i64 0, .int .i64 0, .int .i64 0, .int .i64 0, .int .i64 0, .int .i64 0, .int .i64 0, .int .i64 0, .int .i64 0] 49)) from Ch.alloc (Ch.alloc (Ch.alloc (Ch.alloc (Gr.refl w) _) _) _) _)
  have BT := hid (show ((((w.alloc (.cells #[.slice aoc nc cac, .slice aof nf caf, .slice aot nt cat] 26)).alloc (.cells (cC pc r (.slice ao n cap)) 30)).alloc (.cells #[.int .i64 58, .int .i64 o2, .int .i64 o3, .int .i64 o4, .int .i64 im] 46)).alloc (.cells #[.int .i64 0, .int .i64 0, .int .i64 0, .int .i64 0, .int .i64 0, .int .i64 0, .int .i64 0, .int .i64 0, .int .i64 0, .int .i64 0, .int .i64 0] 49)).heap[w.heap.size + 3]? = some (.cells #[.int .i64 0, .int .i64 0, .int .i64 0, .int .i64 0, .int .i64 0, .int .i64 0, .int .i64 0, .int .i64 0, .int .i64 0, .int .i64 0, .int .i64 0] 49 (0, 0)) from al_at9 _ (by simp))
  go_enter Tryd.func30, Tryd.ntmps30
  go_wp2_with (refine st_row rfl 49 (.tmp 6) (.tmp 14) rfl (w.heap.size + 3) _ rfl rfl _ _ BT.out want_size rfl (wt_one 58 0 0 0 0 0 0 0 0 16 im) ?_; intro w9 b9 k9; have R9 := hid b9; have K9 := hid k9; clear b9 k9)
  refine bodyPost_ret (results_cell_tmp2 rfl _ _ (w.heap.size + 3) _ rfl (run_loadVar_row _ _ _ _ _ _ _ R9.out Tryd.underlying49 rfl want_size)) rfl ?_
  exact ⟨rfl, Ch.trans K0.out K9.out (fun q e => .inr (by have e1 : q = w.heap.size + 3 := e; omega))⟩
end Go.Proofs.YtcdlhfodeckleaaDoor.Lt
