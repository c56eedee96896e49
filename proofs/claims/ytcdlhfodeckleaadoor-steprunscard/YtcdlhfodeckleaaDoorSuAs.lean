/-
  What the program's asked and returned answer. No conditions.
-/
import Derived.Test.YtcdlhfodeckleaaDoorSuTr
namespace Go.Proofs.YtcdlhfodeckleaaDoor.Lt
open Go.RowKit Wd

theorem results_cell1 {fn : Func} {p : Tmp} {ty : TypeId} (h : fn.results = #[.cell p ty]) (tmps : Array Value) (w : World) (g : Nat) (cs : Array Value)
    (hp : tmps.getD p undef = .pointer (some ⟨g, 0, none⟩)) (hl : (loadVar ty ⟨g, 0, none⟩).run Tryd.prog w = .ok (.agg cs) w) :
    (results fn tmps).run Tryd.prog w = .ok (.agg cs) w := by
  have hp' : tmps[p]?.getD undef = .pointer (some ⟨g, 0, none⟩) := by simpa using hp
  simp [results, h, hp', asAddr, hl]
/-- a context, an instruction and a want in variables of their own -/
structure Sk (w : World) (X I : Array Value) (W : World) : Prop where
  g : Gr w W
  c : W.heap[w.heap.size]? = some (.cells X 30 (0, 0))
  i : W.heap[w.heap.size + 1]? = some (.cells I 46 (0, 0))
  t : ∃ old, W.heap[w.heap.size + 2]? = some (.cells old 49 (0, 0)) ∧ old.size = 11
theorem Sk.st {w : World} {X I c : Array Value} {W W' : World} (h : Sk w X I W) (k : Ch (Only (w.heap.size + 2)) W W') (hc : W'.heap[w.heap.size + 2]? = some (.cells c 49 (0, 0))) (hs : c.size = 11) : Sk w X I W' :=
  ⟨Ch.trans h.g k (fun q e => .inr (by have e1 : q = w.heap.size + 2 := e; omega)), (k.block _ (lt_of_block h.c) (fun q => by have q1 : w.heap.size = w.heap.size + 2 := q; omega)).trans h.c, (k.block _ (lt_of_block h.i) (fun q => by have q1 : w.heap.size + 1 = w.heap.size + 2 := q; omega)).trans h.i, ⟨c, hc, hs⟩⟩
theorem Sk.new (w : World) (X I : Array Value) : Sk w X I (((w.alloc (.cells X 30)).alloc (.cells I 46)).alloc (.cells #[.int .i64 0, .int .i64 0, .int .i64 0, .int .i64 0, .int .i64 0, .int .i64 0, .int .i64 0, .int .i64 0, .int .i64 0, .int .i64 0, .int .i64 0] 49)).drew :=
  ⟨Ch.drew (Ch.alloc (Ch.alloc (Ch.alloc (Gr.refl w) _) _) _), al_blk (al_blk (al_at9 _ rfl) _) _, al_blk (al_at9 _ (by simp)) _, ⟨_, al_at9 _ (by simp), rfl⟩⟩
set_option maxHeartbeats 2000000 in
set_option maxRecDepth 20000 in
theorem asked_more (w : World) (pc : Int) (r : List Int) (ao : Option Addr) (n cap : Nat) (o1 im x y z : Int) (a b c : Nat) (ha : r[a]? = some x) (hb : r[b]? = some y) (hc : r[c]? = some z) (la : a < 16) (lb : b < 16) (lc : c < 16) (h23 : o1 ≠ 23) (h24 : o1 ≠ 24) :
    Calls Tryd.prog 35 #[.agg (cC pc r (.slice ao n cap)), .agg #[.int .i64 o1, .int .i64 (a : Int), .int .i64 (b : Int), .int .i64 (c : Int), .int .i64 im]] w fun e w' => e = .returned (.agg (wt o1 o1 (a : Int) (b : Int) (c : Int) im x y z 0 0)) ∧ Gr w w' := by
  have e23 : (o1 == 23) = false := by simpa using h23
  have e24 : (o1 == 24) = false := by simpa using h24
  have HXA := hid ha
  have HXB := hid hb
  have HXC := hid hc
  have a0 : (0 : Int) ≤ (a : Int) := by omega
  have a1 : (a : Int) < 16 := by omega
  have b0 : (0 : Int) ≤ (b : Int) := by omega
  have b1 : (b : Int) < 16 := by omega
  have c0 : (0 : Int) ≤ (c : Int) := by omega
  have c1 : (c : Int) < 16 := by omega
  have hS0 := Sk.new w (cC pc r (.slice ao n cap)) #[.int .i64 o1, .int .i64 (a : Int), .int .i64 (b : Int), .int .i64 (c : Int), .int .i64 im]
  clear ha hb hc h23 h24
  go_enter Tryd.func35, Tryd.ntmps35
  go_wp2_with fail
  refine wp_region_held_drew (S := Sk w (cC pc r (.slice ao n cap)) #[.int .i64 o1, .int .i64 (a : Int), .int .i64 (b : Int), .int .i64 (c : Int), .int .i64 im]) (by kernel_rfl) (by exact hS0) (fun _ => ?_)
  refine takeS_on (i := 0) 16 (v := ?v1) rfl rfl (by kernel_rfl) (by kernel_rfl) (by kernel_rfl) (fun _ _ _ h => h) (by kernel_rfl) ?hy1 (by exact hS0) ?_
  case hy1 => (intro w' hSw; go_simp; try (with_reducible rfl))
  simp only [Act.put, List.setIfInBounds_toArray, List.set_cons_zero, List.set_cons_succ]
  refine takeS_on (i := 1) 17 (v := ?v2) rfl rfl (by kernel_rfl) (by kernel_rfl) (by kernel_rfl) (fun _ _ _ h => h) (by kernel_rfl) ?hy2 (by exact hS0) ?_
  case hy2 => (intro w' hSw; have z9 := (cell_of hSw.i 0).trans (rfl : _ = some (Value.int .i64 o1)); go_simp; try (with_reducible rfl))
  simp only [Act.put, List.setIfInBounds_toArray, List.set_cons_zero, List.set_cons_succ]
  refine takeS_on (i := 2) 18 (v := ?v3) rfl rfl (by kernel_rfl) (by kernel_rfl) (by kernel_rfl) (fun _ _ _ h => h) (by kernel_rfl) ?hy3 (by exact hS0) ?_
  case hy3 => (intro w' hSw; refine Eq.trans (exec_row 46 (.tmp 3) rfl _ rfl _ _ _ _ hSw.i Tryd.underlying46 rfl ins_size) ?_; with_reducible rfl)
  simp only [Act.put, List.setIfInBounds_toArray, List.set_cons_zero, List.set_cons_succ]
  refine takeS_on (i := 3) 19 (v := ?v4) rfl rfl (by kernel_rfl) (by kernel_rfl) (by kernel_rfl) (fun _ _ _ h => h) (by kernel_rfl) ?hy4 (by exact hS0) ?_
  case hy4 => (intro w' hSw; go_simp; try (with_reducible rfl))
  simp only [Act.put, List.setIfInBounds_toArray, List.set_cons_zero, List.set_cons_succ]
  refine takeS_on (i := 4) 20 (v := ?v5) rfl rfl (by kernel_rfl) (by kernel_rfl) (by kernel_rfl) (fun _ _ _ h => h) (by kernel_rfl) ?hy5 (by exact hS0) ?_
  case hy5 => (intro w' hSw; have z9 := (cell_of hSw.i 1).trans (rfl : _ = some (Value.int .i64 (a : Int))); go_simp; try (with_reducible rfl))
  simp only [Act.put, List.setIfInBounds_toArray, List.set_cons_zero, List.set_cons_succ]
  refine takeS_on (i := 5) 21 (v := ?v6) rfl rfl (by kernel_rfl) (by kernel_rfl) (by kernel_rfl) (fun _ _ _ h => h) (by kernel_rfl) ?hy6 (by exact hS0) ?_
  case hy6 => (intro w' hSw; go_simp; try (with_reducible rfl))
  simp only [Act.put, List.setIfInBounds_toArray, List.set_cons_zero, List.set_cons_succ]
  refine takeS_on (i := 6) 22 (v := ?v7) rfl rfl (by kernel_rfl) (by kernel_rfl) (by kernel_rfl) (fun _ _ _ h => h) (by kernel_rfl) ?hy7 (by exact hS0) ?_
  case hy7 => (intro w' hSw; go_simp; try (with_reducible rfl))
  simp only [Act.put, List.setIfInBounds_toArray, List.set_cons_zero, List.set_cons_succ]
  refine takeS_on (i := 7) 23 (v := ?v8) rfl rfl (by kernel_rfl) (by kernel_rfl) (by kernel_rfl) (fun _ _ _ h => h) (by kernel_rfl) ?hy8 (by exact hS0) ?_
  case hy8 => (intro w' hSw; have z9 := (cell_of hSw.c (1 + a)).trans (cC_get HXA.out); go_simp; try (with_reducible rfl))
  simp only [Act.put, List.setIfInBounds_toArray, List.set_cons_zero, List.set_cons_succ]
  refine takeS_on (i := 8) 24 (v := ?v9) rfl rfl (by kernel_rfl) (by kernel_rfl) (by kernel_rfl) (fun _ _ _ h => h) (by kernel_rfl) ?hy9 (by exact hS0) ?_
  case hy9 => (intro w' hSw; go_simp; try (with_reducible rfl))
  simp only [Act.put, List.setIfInBounds_toArray, List.set_cons_zero, List.set_cons_succ]
  refine takeS_on (i := 9) 25 (v := ?v10) rfl rfl (by kernel_rfl) (by kernel_rfl) (by kernel_rfl) (fun _ _ _ h => h) (by kernel_rfl) ?hy10 (by exact hS0) ?_
  case hy10 => (intro w' hSw; have z9 := (cell_of hSw.i 2).trans (rfl : _ = some (Value.int .i64 (b : Int))); go_simp; try (with_reducible rfl))
  simp only [Act.put, List.setIfInBounds_toArray, List.set_cons_zero, List.set_cons_succ]
  refine takeS_on (i := 10) 26 (v := ?v11) rfl rfl (by kernel_rfl) (by kernel_rfl) (by kernel_rfl) (fun _ _ _ h => h) (by kernel_rfl) ?hy11 (by exact hS0) ?_
  case hy11 => (intro w' hSw; go_simp; try (with_reducible rfl))
  simp only [Act.put, List.setIfInBounds_toArray, List.set_cons_zero, List.set_cons_succ]
  refine takeS_on (i := 11) 27 (v := ?v12) rfl rfl (by kernel_rfl) (by kernel_rfl) (by kernel_rfl) (fun _ _ _ h => h) (by kernel_rfl) ?hy12 (by exact hS0) ?_
  case hy12 => (intro w' hSw; go_simp; try (with_reducible rfl))
  simp only [Act.put, List.setIfInBounds_toArray, List.set_cons_zero, List.set_cons_succ]
  refine takeS_on (i := 12) 28 (v := ?v13) rfl rfl (by kernel_rfl) (by kernel_rfl) (by kernel_rfl) (fun _ _ _ h => h) (by kernel_rfl) ?hy13 (by exact hS0) ?_
  case hy13 => (intro w' hSw; have z9 := (cell_of hSw.c (1 + b)).trans (cC_get HXB.out); go_simp; try (with_reducible rfl))
  simp only [Act.put, List.setIfInBounds_toArray, List.set_cons_zero, List.set_cons_succ]
  refine takeS_on (i := 13) 29 (v := ?v14) rfl rfl (by kernel_rfl) (by kernel_rfl) (by kernel_rfl) (fun _ _ _ h => h) (by kernel_rfl) ?hy14 (by exact hS0) ?_
  case hy14 => (intro w' hSw; go_simp; try (with_reducible rfl))
  simp only [Act.put, List.setIfInBounds_toArray, List.set_cons_zero, List.set_cons_succ]
  refine takeS_on (i := 14) 30 (v := ?v15) rfl rfl (by kernel_rfl) (by kernel_rfl) (by kernel_rfl) (fun _ _ _ h => h) (by kernel_rfl) ?hy15 (by exact hS0) ?_
  case hy15 => (intro w' hSw; have z9 := (cell_of hSw.i 3).trans (rfl : _ = some (Value.int .i64 (c : Int))); go_simp; try (with_reducible rfl))
  simp only [Act.put, List.setIfInBounds_toArray, List.set_cons_zero, List.set_cons_succ]
  refine takeS_on (i := 15) 31 (v := ?v16) rfl rfl (by kernel_rfl) (by kernel_rfl) (by kernel_rfl) (fun _ _ _ h => h) (by kernel_rfl) ?hy16 (by exact hS0) ?_
  case hy16 => (intro w' hSw; go_simp; try (with_reducible rfl))
  simp only [Act.put, List.setIfInBounds_toArray, List.set_cons_zero, List.set_cons_succ]
  refine takeS_on (i := 16) 32 (v := ?v17) rfl rfl (by kernel_rfl) (by kernel_rfl) (by kernel_rfl) (fun _ _ _ h => h) (by kernel_rfl) ?hy17 (by exact hS0) ?_
  case hy17 => (intro w' hSw; go_simp; try (with_reducible rfl))
  simp only [Act.put, List.setIfInBounds_toArray, List.set_cons_zero, List.set_cons_succ]
  refine takeS_on (i := 17) 33 (v := ?v18) rfl rfl (by kernel_rfl) (by kernel_rfl) (by kernel_rfl) (fun _ _ _ h => h) (by kernel_rfl) ?hy18 (by exact hS0) ?_
  case hy18 => (intro w' hSw; have z9 := (cell_of hSw.c (1 + c)).trans (cC_get HXC.out); go_simp; try (with_reducible rfl))
  simp only [Act.put, List.setIfInBounds_toArray, List.set_cons_zero, List.set_cons_succ]
  refine takeS_on (i := 18) 34 (v := .agg (wt o1 o1 (a : Int) (b : Int) (c : Int) im x y z 0 0)) rfl rfl (by kernel_rfl) (by kernel_rfl) (by kernel_rfl) (fun _ _ _ h => h) (by kernel_rfl) ?hy19 (by exact hS0) ?_
  case hy19 => (intro w' hSw; go_simp; try rfl)
  simp only [Act.put, List.setIfInBounds_toArray, List.set_cons_zero, List.set_cons_succ]
  refine wpAnyH_ready (rs := [19]) (by kernel_rfl) (by simp) (AllReadyH.cons rfl (fun K hK => ?_) AllReadyH.nil)
  rw [if_pos (by kernel_rfl)]
  obtain ⟨old, ht, hsz⟩ := hS0.t
  refine wp_store_row 49 (.tmp 4) (.tmp 34) rfl (w.heap.size + 2) (wt o1 o1 (a : Int) (b : Int) (c : Int) im x y z 0 0) rfl rfl _ _ ht want_size hsz (wt_one _ _ _ _ _ _ _ _ _ _ _) ?_
  have b3 := setRow_blk (c := (wt o1 o1 (a : Int) (b : Int) (c : Int) im x y z 0 0)) ht
  have hS1 := hS0.st (setRow_ch _ (w.heap.size + 2) (wt o1 o1 (a : Int) (b : Int) (c : Int) im x y z 0 0)) b3 rfl
  clear ht hsz
  have B3 := hid b3
  clear b3
  refine hK.out _ _ (by exact hS1) (fun _ => ?_)
  clear hK K
  refine wpAnyH_done (by kernel_rfl) ?_ _
  go_wp2_with fail
  refine bodyPost_ret (results_cell1 rfl _ _ (w.heap.size + 2) _ rfl (run_loadVar_row _ _ _ _ _ _ _ B3.out Tryd.underlying49 rfl want_size)) rfl ?_
  exact ⟨rfl, hS1.g⟩

theorem asked_23 (w : World) (pc : Int) (r : List Int) (ao : Option Addr) (n cap : Nat) (o2 o3 o4 im : Int) :
    Calls Tryd.prog 35 #[.agg (cC pc r (.slice ao n cap)), .agg #[.int .i64 23, .int .i64 o2, .int .i64 o3, .int .i64 o4, .int .i64 im]] w fun e w' => e = .returned (.agg (wt 23 0 0 0 0 0 0 0 0 0 0)) ∧ Gr w w' := by
  go_enter Tryd.func35, Tryd.ntmps35
  go_wp2
  exact bodyPost_ret (v := .agg (wt 23 0 0 0 0 0 0 0 0 0 0)) (by simp [results, Tryd.results35, go_sem, wt]) rfl ⟨rfl, Ch.alloc (Ch.alloc (Ch.alloc (Gr.refl w) _) _) _⟩
theorem asked_24 (w : World) (pc : Int) (r : List Int) (ao : Option Addr) (n cap : Nat) (o2 o3 o4 im : Int) :
    Calls Tryd.prog 35 #[.agg (cC pc r (.slice ao n cap)), .agg #[.int .i64 24, .int .i64 o2, .int .i64 o3, .int .i64 o4, .int .i64 im]] w fun e w' => e = .returned (.agg (wt 24 0 0 0 0 0 0 0 0 0 0)) ∧ Gr w w' := by
  go_enter Tryd.func35, Tryd.ntmps35
  go_wp2
  exact bodyPost_ret (v := .agg (wt 24 0 0 0 0 0 0 0 0 0 0)) (by simp [results, Tryd.results35, go_sem, wt]) rfl ⟨rfl, Ch.alloc (Ch.alloc (Ch.alloc (Gr.refl w) _) _) _⟩
set_option maxHeartbeats 2000000 in
set_option maxRecDepth 20000 in
theorem returned_no (w : World) (pc : Int) (r : List Int) (hr : r.length = 16) (ao : Option Addr) (cap : Nat) :
    Calls Tryd.prog 33 #[.agg (cC pc r (.slice ao 0 cap))] w fun e w' => e = .returned (.tuple #[.agg (cC pc r (.slice ao 0 cap)), .agg (wt 24 0 0 0 0 0 0 0 0 0 0)]) ∧ Gr w w' := by
  have HSZ := hid (fun (pc : Int) (v : Value) => cC_size (pc := pc) (v := v) hr)
  have hv := cC_v hr pc (.slice ao 0 cap)
  have B0 := hid (show (((w.alloc (.cells (cC pc r (.slice ao 0 cap)) 30)).alloc (.cells #[.int .i64 0, .int .i64 0, .int .i64 0, .int .i64 0, .int .i64 0, .int .i64 0, .int .i64 0, .int .i64 0, .int .i64 0, .int .i64 0, .int .i64 0, .int .i64 0, .int .i64 0, .int .i64 0, .int .i64 0, .int .i64 0, .int .i64 0, .slice none 0 0] 30)).alloc (.cells #[.int .i64 0, .int .i64 0, .int .i64 0, .int .i64 0, .int .i64 0, .int .i64 0, .int .i64 0, .int .i64 0, .int .i64 0, .int .i64 0, .int .i64 0] 49)).heap[w.heap.size]? = some (.cells (cC pc r (.slice ao 0 cap)) 30 (0, 0)) from al_blk (al_blk (al_at9 _ rfl) _) _)
  have B1 := hid (show (((w.alloc (.cells (cC pc r (.slice ao 0 cap)) 30)).alloc (.cells #[.int .i64 0, .int .i64 0, .int .i64 0, .int .i64 0, .int .i64 0, .int .i64 0, .int .i64 0, .int .i64 0, .int .i64 0, .int .i64 0, .int .i64 0, .int .i64 0, .int .i64 0, .int .i64 0, .int .i64 0, .int .i64 0, .int .i64 0, .slice none 0 0] 30)).alloc (.cells #[.int .i64 0, .int .i64 0, .int .i64 0, .int .i64 0, .int .i64 0, .int .i64 0, .int .i64 0, .int .i64 0, .int .i64 0, .int .i64 0, .int .i64 0] 49)).heap[w.heap.size + 1]? = some (.cells #[.int .i64 0, .int .i64 0, .int .i64 0, .int .i64 0, .int .i64 0, .int .i64 0, .int .i64 0, .int .i64 0, .int .i64 0, .int .i64 0, .int .i64 0, .int .i64 0, .int .i64 0, .int .i64 0, .int .i64 0, .int .i64 0, .int .i64 0, .slice none 0 0] 30 (0, 0)) from al_blk (al_at9 _ (by simp)) _)
  have B2 := hid (show (((w.alloc (.cells (cC pc r (.slice ao 0 cap)) 30)).alloc (.cells #[.int .i64 0, .int .i64 0, .int .i64 0, .int .i64 0, .int .i64 0, .int .i64 0, .int .i64 0, .int .i64 0, .int .i64 0, .int .i64 0, .int .i64 0, .int .i64 0, .int .i64 0, .int .i64 0, .int .i64 0, .int .i64 0, .int .i64 0, .slice none 0 0] 30)).alloc (.cells #[.int .i64 0, .int .i64 0, .int .i64 0, .int .i64 0, .int .i64 0, .int .i64 0, .int .i64 0, .int .i64 0, .int .i64 0, .int .i64 0, .int .i64 0] 49)).heap[w.heap.size + 2]? = some (.cells #[.int .i64 0, .int .i64 0, .int .i64 0, .int .i64 0, .int .i64 0, .int .i64 0, .int .i64 0, .int .i64 0, .int .i64 0, .int .i64 0, .int .i64 0] 49 (0, 0)) from al_at9 _ (by simp))
  have K0 := hid (show Gr w (((w.alloc (.cells (cC pc r (.slice ao 0 cap)) 30)).alloc (.cells #[.int .i64 0, .int .i64 0, .int .i64 0, .int .i64 0, .int .i64 0, .int .i64 0, .int .i64 0, .int .i64 0, .int .i64 0, .int .i64 0, .int .i64 0, .int .i64 0, .int .i64 0, .int .i64 0, .int .i64 0, .int .i64 0, .int .i64 0, .slice none 0 0] 30)).alloc (.cells #[.int .i64 0, .int .i64 0, .int .i64 0, .int .i64 0, .int .i64 0, .int .i64 0, .int .i64 0, .int .i64 0, .int .i64 0, .int .i64 0, .int .i64 0] 49)) from Ch.alloc (Ch.alloc (Ch.alloc (Gr.refl w) _) _) _)
  clear hr
  go_enter Tryd.func33, Tryd.ntmps33
  go_wp2_with (first
    | (refine wpList_load_row rfl 30 (.tmp 1) rfl w.heap.size rfl _ _ _ _ B0.out Tryd.underlying30 rfl (ctx_size' (HSZ.out _ _)) ?_)
    | (refine st_row rfl 30 (.tmp 2) (.tmp 11) rfl (w.heap.size + 1) _ rfl rfl _ _ B1.out (ctx_size' (HSZ.out _ _)) (HSZ.out _ _).symm cC_one ?_; intro w9 b9 k9; have R9 := hid b9; have K9 := hid k9; have T9 := hid ((k9.block _ (lt_of_block B2.out) (fun q => by have q1 : w.heap.size + 2 = w.heap.size + 1 := q; omega)).trans B2.out); clear b9 k9)
    | (refine st_row rfl 49 (.tmp 3) (.tmp 12) rfl (w.heap.size + 2) _ rfl rfl _ _ T9.out want_size rfl (wt_one 24 0 0 0 0 0 0 0 0 0 0) ?_; intro w10 b10 k10; have T10 := hid b10; have K10 := hid k10; have R10 := hid ((k10.block _ (lt_of_block R9.out) (fun q => by have q1 : w.heap.size + 1 = w.heap.size + 2 := q; omega)).trans R9.out); clear b10 k10))
  refine bodyPost_ret (results_cell_cell rfl _ _ (w.heap.size + 1) (w.heap.size + 2) _ _ rfl (run_loadVar_row _ _ _ _ _ _ _ R10.out Tryd.underlying30 rfl (ctx_size' (HSZ.out _ _))) rfl (run_loadVar_row _ _ _ _ _ _ _ T10.out Tryd.underlying49 rfl want_size)) rfl ?_
  exact ⟨rfl, Ch.trans (Ch.trans K0.out K9.out (fun q e => .inr (by have e1 : q = w.heap.size + 1 := e; omega))) K10.out (fun q e => .inr (by have e1 : q = w.heap.size + 2 := e; omega))⟩
set_option maxHeartbeats 2000000 in
set_option maxRecDepth 20000 in
theorem returned_yes (P : Nat → Prop) (w : World) (pc : Int) (r : List Int) (hr : r.length = 16) (ao : Option Addr) (m cap : Nat) (ks : List Int) (h : Ls eI P w (.slice ao (m + 1) cap) ks) (x : Int) (hx : ks[m]? = some x) (hm : m ≤ 17592186044416) :
    Calls Tryd.prog 33 #[.agg (cC pc r (.slice ao (m + 1) cap))] w fun e w' => e = .returned (.tuple #[.agg (cC x r (.slice ao m cap)), .agg #[.int .i64 0, .int .i64 0, .int .i64 0, .int .i64 0, .int .i64 0, .int .i64 0, .int .i64 0, .int .i64 0, .int .i64 0, .int .i64 0, .int .i64 0]]) ∧ Gr w w' := by
  have HSZ := hid (fun (pc : Int) (v : Value) => cC_size (pc := pc) (v := v) hr)
  have hv := cC_v hr pc (.slice ao (m + 1) cap)
  have hp := cC_pc pc r (.slice ao (m + 1) cap)
  have hcap := h.len.2.1
  obtain ⟨g, o, cap', e1, -, hgl, -, d⟩ := h.get eI_len hx
  injection e1 with e1 e2 e3
  subst e1
  have d0 := d 0 _ rfl
  simp only [Nat.mul_one, Nat.add_zero] at d0
  have g1 : g < w.heap.size + 1 := by omega
  have g2 : g < w.heap.size + 2 := by omega
  have m0 : (0 : Int) ≤ (m : Int) := by omega
  have HRR := hid hr
  clear hr e2 e3 d h
  go_enter Tryd.func33, Tryd.ntmps33
  go_wp2
  go_region
  all_goals
    rw [cC_setpc, cC_setv HRR.out]
    have B0 := hid (show (((w.alloc (.cells (cC x r (.slice (some ⟨g, o, none⟩) m cap)) 30)).alloc (.cells #[.int .i64 0, .int .i64 0, .int .i64 0, .int .i64 0, .int .i64 0, .int .i64 0, .int .i64 0, .int .i64 0, .int .i64 0, .int .i64 0, .int .i64 0, .int .i64 0, .int .i64 0, .int .i64 0, .int .i64 0, .int .i64 0, .int .i64 0, .slice none 0 0] 30)).alloc (.cells #[.int .i64 0, .int .i64 0, .int .i64 0, .int .i64 0, .int .i64 0, .int .i64 0, .int .i64 0, .int .i64 0, .int .i64 0, .int .i64 0, .int .i64 0] 49)).drew.heap[w.heap.size]? = some (.cells (cC x r (.slice (some ⟨g, o, none⟩) m cap)) 30 (0, 0)) from al_blk (al_blk (al_at9 _ rfl) _) _)
    have B1 := hid (show (((w.alloc (.cells (cC x r (.slice (some ⟨g, o, none⟩) m cap)) 30)).alloc (.cells #[.int .i64 0, .int .i64 0, .int .i64 0, .int .i64 0, .int .i64 0, .int .i64 0, .int .i64 0, .int .i64 0, .int .i64 0, .int .i64 0, .int .i64 0, .int .i64 0, .int .i64 0, .int .i64 0, .int .i64 0, .int .i64 0, .int .i64 0, .slice none 0 0] 30)).alloc (.cells #[.int .i64 0, .int .i64 0, .int .i64 0, .int .i64 0, .int .i64 0, .int .i64 0, .int .i64 0, .int .i64 0, .int .i64 0, .int .i64 0, .int .i64 0] 49)).drew.heap[w.heap.size + 1]? = some (.cells #[.int .i64 0, .int .i64 0, .int .i64 0, .int .i64 0, .int .i64 0, .int .i64 0, .int .i64 0, .int .i64 0, .int .i64 0, .int .i64 0, .int .i64 0, .int .i64 0, .int .i64 0, .int .i64 0, .int .i64 0, .int .i64 0, .int .i64 0, .slice none 0 0] 30 (0, 0)) from al_blk (al_at9 _ (by simp)) _)
    have B2 := hid (show (((w.alloc (.cells (cC x r (.slice (some ⟨g, o, none⟩) m cap)) 30)).alloc (.cells #[.int .i64 0, .int .i64 0, .int .i64 0, .int .i64 0, .int .i64 0, .int .i64 0, .int .i64 0, .int .i64 0, .int .i64 0, .int .i64 0, .int .i64 0, .int .i64 0, .int .i64 0, .int .i64 0, .int .i64 0, .int .i64 0, .int .i64 0, .slice none 0 0] 30)).alloc (.cells #[.int .i64 0, .int .i64 0, .int .i64 0, .int .i64 0, .int .i64 0, .int .i64 0, .int .i64 0, .int .i64 0, .int .i64 0, .int .i64 0, .int .i64 0] 49)).drew.heap[w.heap.size + 2]? = some (.cells #[.int .i64 0, .int .i64 0, .int .i64 0, .int .i64 0, .int .i64 0, .int .i64 0, .int .i64 0, .int .i64 0, .int .i64 0, .int .i64 0, .int .i64 0] 49 (0, 0)) from al_at9 _ (by simp))
    have K0 := hid (show Gr w (((w.alloc (.cells (cC x r (.slice (some ⟨g, o, none⟩) m cap)) 30)).alloc (.cells #[.int .i64 0, .int .i64 0, .int .i64 0, .int .i64 0, .int .i64 0, .int .i64 0, .int .i64 0, .int .i64 0, .int .i64 0, .int .i64 0, .int .i64 0, .int .i64 0, .int .i64 0, .int .i64 0, .int .i64 0, .int .i64 0, .int .i64 0, .slice none 0 0] 30)).alloc (.cells #[.int .i64 0, .int .i64 0, .int .i64 0, .int .i64 0, .int .i64 0, .int .i64 0, .int .i64 0, .int .i64 0, .int .i64 0, .int .i64 0, .int .i64 0] 49)).drew from Ch.drew (Ch.alloc (Ch.alloc (Ch.alloc (Gr.refl w) _) _) _))
    generalize (((w.alloc (.cells (cC x r (.slice (some ⟨g, o, none⟩) m cap)) 30)).alloc (.cells #[.int .i64 0, .int .i64 0, .int .i64 0, .int .i64 0, .int .i64 0, .int .i64 0, .int .i64 0, .int .i64 0, .int .i64 0, .int .i64 0, .int .i64 0, .int .i64 0, .int .i64 0, .int .i64 0, .int .i64 0, .int .i64 0, .int .i64 0, .slice none 0 0] 30)).alloc (.cells #[.int .i64 0, .int .i64 0, .int .i64 0, .int .i64 0, .int .i64 0, .int .i64 0, .int .i64 0, .int .i64 0, .int .i64 0, .int .i64 0, .int .i64 0] 49)).drew = W0 at B0 B1 B2 K0 ⊢
    clear hv hp
    go_wp2_with (first
      | (refine wpList_load_row rfl 30 (.tmp 1) rfl w.heap.size rfl _ _ _ _ B0.out Tryd.underlying30 rfl (ctx_size' (HSZ.out _ _)) ?_)
      | (refine st_row rfl 30 (.tmp 2) (.tmp 24) rfl (w.heap.size + 1) _ rfl rfl _ _ B1.out (ctx_size' (HSZ.out _ _)) (HSZ.out _ _).symm cC_one ?_; intro w9 b9 k9; have R9 := hid b9; have K9 := hid k9; have T9 := hid ((k9.block _ (lt_of_block B2.out) (fun q => by have q1 : w.heap.size + 2 = w.heap.size + 1 := q; omega)).trans B2.out); clear b9 k9)
      | (refine st_row rfl 49 (.tmp 3) (.tmp 25) rfl (w.heap.size + 2) _ rfl rfl _ _ T9.out want_size rfl one11 ?_; intro w10 b10 k10; have T10 := hid b10; have K10 := hid k10; have R10 := hid ((k10.block _ (lt_of_block R9.out) (fun q => by have q1 : w.heap.size + 1 = w.heap.size + 2 := q; omega)).trans R9.out); clear b10 k10))
    refine bodyPost_ret (results_cell_cell rfl _ _ (w.heap.size + 1) (w.heap.size + 2) _ _ rfl (run_loadVar_row _ _ _ _ _ _ _ R10.out Tryd.underlying30 rfl (ctx_size' (HSZ.out _ _))) rfl (run_loadVar_row _ _ _ _ _ _ _ T10.out Tryd.underlying49 rfl want_size)) rfl ?_
    exact ⟨rfl, Ch.trans (Ch.trans K0.out K9.out (fun q e => .inr (by have e1 : q = w.heap.size + 1 := e; omega))) K10.out (fun q e => .inr (by have e1 : q = w.heap.size + 2 := e; omega))⟩
end Go.Proofs.YtcdlhfodeckleaaDoor.Lt
