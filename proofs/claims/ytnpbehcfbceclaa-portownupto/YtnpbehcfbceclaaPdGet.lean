/-
  What the document's Get answers. Condition: the lists have no more than 1048576 elements.
-/
import Derived.Test.YtnpbehcfbceclaaPdSame
namespace Go.Proofs.Ytnpbehcfbceclaa.Lt
open Go.RowKit Wd
attribute [local go_sem ↓] Go.wp_at_zero Go.wp_at_succ
set_option maxRecDepth 20000

/-- a state's block and a value's -/
structure Cg (x b5 : Nat) (y : Array Value) (uv ua : Int) (W : World) : Prop where
  b : W.heap[x]? = some (.cells y 32 (0, 0))
  e : W.heap[b5]? = some (.cells #[.int .i64 uv, .int .i64 ua] 59 (0, 0))
theorem Cg.st {x b5 r : Nat} {y : Array Value} {uv ua : Int} {W W' : World} (h : Cg x b5 y uv ua W) (c : Ch (Only r) W W') (h1 : x ≠ r) (h2 : b5 ≠ r) : Cg x b5 y uv ua W' := ⟨ch_blk h.b c (fun e => h1 e), ch_blk h.e c (fun e => h2 e)⟩
theorem rget0_any {P Q : Nat → Prop} (w : World) (x : Pt) (v1 v2 : Value) (h1 : Ls eI P w v1 x.out) (h2 : Ls eG Q w v2 x.inn) (hi : x.inn = []) :
    Calls Try.prog 26 #[stV x v1 v2] w fun e w' => ∃ u1 u2, e = .returned (.tuple #[stV x u1 u2, .int .i64 0, .int .i64 (-1)]) ∧ RdR P Q w x u1 u2 w' := by
  have H1 := hid h1
  have H2 := hid h2
  obtain ⟨q, cap, out, inn, lost⟩ := x
  dsimp only at hi
  subst hi
  obtain ⟨a1, c1, rfl⟩ := h1.form
  obtain ⟨a2, c2, rfl⟩ := h2.form
  unfold stV RdR
  dsimp only at H1 H2 ⊢
  clear h1 h2
  generalize out.length = n1 at *
  have BZ := hid (al_blk (al_at (w := w) (.cells #[.bool q, .int .i64 (cap : Nat), .slice a1 n1 c1, .slice a2 0 c2, .int .i64 (lost : Nat)] 32) rfl) (.cells #[.bool false, .int .i64 0, .slice none 0 0, .slice none 0 0, .int .i64 0] 32))
  have BR := hid (show ((w.alloc (.cells #[.bool q, .int .i64 (cap : Nat), .slice a1 n1 c1, .slice a2 0 c2, .int .i64 (lost : Nat)] 32)).alloc (.cells #[.bool false, .int .i64 0, .slice none 0 0, .slice none 0 0, .int .i64 0] 32)).heap[w.heap.size + 1]? = some (.cells #[.bool false, .int .i64 0, .slice none 0 0, .slice none 0 0, .int .i64 0] 32 (0, 0)) from al_at _ (by simp))
  have GG := hid (show Gr w ((w.alloc (.cells #[.bool q, .int .i64 (cap : Nat), .slice a1 n1 c1, .slice a2 0 c2, .int .i64 (lost : Nat)] 32)).alloc (.cells #[.bool false, .int .i64 0, .slice none 0 0, .slice none 0 0, .int .i64 0] 32)) from Ch.alloc (Ch.alloc (Gr.refl w) _) _)
  go_enter Try.func26, Try.ntmps26
  go_wp2_with (first
    | (refine wpList_load_row rfl 32 (.tmp 1) rfl w.heap.size rfl _ _ _ _ BZ.out Try.underlying32 rfl pst_size ?_)
    | (refine st_row rfl 32 (.tmp 2) (.tmp 12) rfl (w.heap.size + 1) #[.bool q, .int .i64 (cap : Nat), .slice a1 n1 c1, .slice a2 0 c2, .int .i64 (lost : Nat)] rfl rfl _ _ BR.out pst_size rfl (by simp [Value.oneCell']) ?_; intro w8 b8 k8; have B9 := hid b8; have K9 := hid k8; clear b8 k8))
  refine bodyPost_ret (results_cell_tmp3 rfl _ _ (w.heap.size + 1) _ rfl (run_loadVar_row _ _ _ _ _ _ _ B9.out Try.underlying32 rfl pst_size)) rfl ?_
  have GZ : Gr w w8 := Ch.trans GG.out K9.out (fun q e => .inr (by have e1 : q = w.heap.size + 1 := e; omega))
  exact ⟨_, _, rfl, (H1.out.gr GZ).mono (fun g _ e => .inl e), (H2.out.gr GZ).mono (fun g _ e => .inl e), GZ⟩
set_option maxHeartbeats 16000000 in
theorem rgets_any {P Q : Nat → Prop} (w : World) (cap lost : Nat) (a1 : Option Addr) (n1 n2 c1 c2 g o : Nat) (out : List Int) (uv ua : Int) (us : List Ag) (h1 : Ls eI P w (.slice a1 n1 c1) out) (h2 : Ls eG Q w (.slice (some ⟨g, o, none⟩) n2 c2) (⟨uv, ua⟩ :: us)) :
    Calls Try.prog 26 #[.agg #[.bool false, .int .i64 (cap : Nat), .slice a1 n1 c1, .slice (some ⟨g, o, none⟩) n2 c2, .int .i64 (lost : Nat)]] w fun e w' => ∃ u1 u2, e = .returned (.tuple #[.agg #[.bool false, .int .i64 (cap : Nat), u1, u2, .int .i64 (lost : Nat)], .int .i64 uv, .int .i64 ua]) ∧ RdR P Q w ⟨false, cap, out, ⟨uv, ua⟩ :: us, lost⟩ u1 u2 w' := by
  have H1 := hid h1
  have H2 := hid h2
  obtain ⟨g', o', cp, e, _, hgl, _, hc⟩ := h2.get eG_len (i := 0) (a := ⟨uv, ua⟩) rfl
  injection e with e1 e2 e3
  injection e1 with e1
  injection e1 with e4 e5
  subst e4 e5
  have g0 := hc 0 _ rfl
  have g1 := hc 1 _ rfl
  rw [Nat.zero_mul, Nat.add_zero] at g0 g1
  have hn : ¬ ((n2 : Int) = 0) := by have := h2.len.1; simp at this; omega
  have hn2 : (0 : Int) < (n2 : Int) := by have := h2.len.1; simp at this; omega
  clear h1 h2 hc e2 e3
  obtain ⟨W3, hw3⟩ : ∃ W, W = ((w.alloc (.cells #[.bool false, .int .i64 (cap : Nat), .slice a1 n1 c1, .slice (some ⟨g, o, none⟩) n2 c2, .int .i64 (lost : Nat)] 32)).alloc (.cells #[.bool false, .int .i64 0, .slice none 0 0, .slice none 0 0, .int .i64 0] 32)).alloc (.cells #[.int .i64 uv, .int .i64 ua] 59) := ⟨_, rfl⟩
  have HW3 := hid hw3
  have XR := hid (show (World.drew W3).heap[w.heap.size + 1]? = some (.cells #[.bool false, .int .i64 0, .slice none 0 0, .slice none 0 0, .int .i64 0] 32 (0, 0)) by rw [hw3]; exact al_blk (al_at _ (by simp)) _)
  have GG := hid (show Gr w (World.drew W3) by rw [hw3]; exact Ch.drew (Ch.alloc (Ch.alloc (Ch.alloc (Gr.refl w) _) _) _))
  have hS5 : Cg w.heap.size (w.heap.size + 1 + 1) #[.bool false, .int .i64 (cap : Nat), .slice a1 n1 c1, .slice (some ⟨g, o, none⟩) n2 c2, .int .i64 (lost : Nat)] uv ua (World.drew W3) := by rw [hw3]; exact ⟨al_blk (al_blk (al_at _ rfl) _) _, al_at _ (by simp)⟩
  clear hw3
  go_enter Try.func26, Try.ntmps26
  go_wp2_with fail
  rw [← HW3.out]
  refine wp_region_held_drew (S := Cg w.heap.size (w.heap.size + 1 + 1) #[.bool false, .int .i64 (cap : Nat), .slice a1 n1 c1, .slice (some ⟨g, o, none⟩) n2 c2, .int .i64 (lost : Nat)] uv ua) (by kernel_rfl) (by exact hS5) (fun _ => ?_)
  generalize World.drew W3 = V9 at hS5 XR GG ⊢
  refine takeS_on (i := 0) 20 (v := (.agg #[.bool false, .int .i64 (cap : Nat), .slice a1 n1 c1, .slice (some ⟨g, o, none⟩) n2 c2, .int .i64 (lost : Nat)])) rfl rfl (by kernel_rfl) (by kernel_rfl) (by kernel_rfl) (fun _ _ _ h => h) (by kernel_rfl) ?hh1 (by exact hS5) ?_
  case hh1 => (intro w' hSw; have x0 := cell_of hSw.b 0; have x1 := cell_of hSw.b 1; have x2 := cell_of hSw.b 2; have x3 := cell_of hSw.b 3; have x4 := cell_of hSw.b 4; simp at x0 x1 x2 x3 x4; have xl := lt_of_block hSw.b; go_simp; try (with_reducible rfl))
  simp only [Act.put, List.setIfInBounds_toArray, List.set_cons_zero, List.set_cons_succ]
  refine takeS_on (i := 1) 21 (v := ?hv2) rfl rfl (by kernel_rfl) (by kernel_rfl) (by kernel_rfl) (fun _ _ _ h => h) (by kernel_rfl) ?hh2 (by exact hS5) ?_
  case hh2 => (intro w' hSw; go_simp; try (with_reducible rfl))
  simp only [Act.put, List.setIfInBounds_toArray, List.set_cons_zero, List.set_cons_succ]
  refine takeS_on (i := 2) 22 (v := ?hv3) rfl rfl (by kernel_rfl) (by kernel_rfl) (by kernel_rfl) (fun _ _ _ h => h) (by kernel_rfl) ?hh3 (by exact hS5) ?_
  case hh3 => (intro w' hSw; have y0 := cell_of hSw.e 0; have y1 := cell_of hSw.e 1; simp at y0 y1; have yl := lt_of_block hSw.e; go_simp; try (with_reducible rfl))
  simp only [Act.put, List.setIfInBounds_toArray, List.set_cons_zero, List.set_cons_succ]
  refine takeS_on (i := 3) 23 (v := ?hv4) rfl rfl (by kernel_rfl) (by kernel_rfl) (by kernel_rfl) (fun _ _ _ h => h) (by kernel_rfl) ?hh4 (by exact hS5) ?_
  case hh4 => (intro w' hSw; go_simp; try (with_reducible rfl))
  simp only [Act.put, List.setIfInBounds_toArray, List.set_cons_zero, List.set_cons_succ]
  refine takeS_on (i := 4) 24 (v := ?hv5) rfl rfl (by kernel_rfl) (by kernel_rfl) (by kernel_rfl) (fun _ _ _ h => h) (by kernel_rfl) ?hh5 (by exact hS5) ?_
  case hh5 => (intro w' hSw; have y0 := cell_of hSw.e 0; have y1 := cell_of hSw.e 1; simp at y0 y1; have yl := lt_of_block hSw.e; go_simp; try (with_reducible rfl))
  simp only [Act.put, List.setIfInBounds_toArray, List.set_cons_zero, List.set_cons_succ]
  refine wpAnyH_ready (rs := [5]) (by kernel_rfl) (by simp) (AllReadyH.cons rfl (fun K hK => ?_) AllReadyH.nil)
  refine step_st_row rfl 32 (.tmp 2) (.tmp 20) rfl (w.heap.size + 1) #[.bool false, .int .i64 (cap : Nat), .slice a1 n1 c1, .slice (some ⟨g, o, none⟩) n2 c2, .int .i64 (lost : Nat)] rfl rfl _ _ XR.out pst_size rfl (by simp [Value.oneCell']) ?_
  intro w8 b8 k8
  have hS7 := hS5.st k8 (by omega) (by omega)
  have B9 := hid b8
  have K9 := hid k8
  clear b8 k8
  refine hK.out _ _ (by exact hS7) (fun _ => ?_)
  change wpAnyH _ _ _ _ _ _ _ (Act.put _ none _) _
  simp only [Act.put]
  clear hK K
  refine takeS_on (i := 6) 3 (v := ?hv6) rfl rfl (by kernel_rfl) (by kernel_rfl) (by kernel_rfl) (fun _ _ _ h => h) (by kernel_rfl) ?hh6 (by exact hS7) ?_
  case hh6 => (intro w' hSw; go_simp; try (with_reducible rfl))
  simp only [Act.put, List.setIfInBounds_toArray, List.set_cons_zero, List.set_cons_succ]
  refine takeS_on (i := 7) 4 (v := ?hv7) rfl rfl (by kernel_rfl) (by kernel_rfl) (by kernel_rfl) (fun _ _ _ h => h) (by kernel_rfl) ?hh7 (by exact hS7) ?_
  case hh7 => (intro w' hSw; go_simp; try (with_reducible rfl))
  simp only [Act.put, List.setIfInBounds_toArray, List.set_cons_zero, List.set_cons_succ]
  refine wpAnyH_done (by kernel_rfl) ?_ _
  go_wp2_with fail
  refine bodyPost_ret (results_cell_tmp3 rfl _ _ (w.heap.size + 1) _ rfl (run_loadVar_row _ _ _ _ _ _ _ B9.out Try.underlying32 rfl pst_size)) rfl ?_
  have GZ : Gr w w8 := Ch.trans GG.out K9.out (fun q e => .inr (by have e1 : q = w.heap.size + 1 := e; omega))
  exact ⟨_, _, rfl, (H1.out.gr GZ).mono (fun g _ e => .inl e), (H2.out.gr GZ).mono (fun g _ e => .inl e), GZ⟩
end Go.Proofs.Ytnpbehcfbceclaa.Lt
