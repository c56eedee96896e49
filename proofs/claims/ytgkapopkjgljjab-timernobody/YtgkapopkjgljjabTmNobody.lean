/-
  What TimerNobody of the statements answers: true, of any call. No conditions.
-/
import Derived.Test.YtgkapopkjgljjabTmNo
import Derived.Test.YtgkapopkjgljjabGnGrd
namespace Go.Proofs.Ytgkapopkjgljjab.Lt
open Go.RowKit Wd
attribute [local go_sem ↓] Go.wp_at_zero Go.wp_at_succ

theorem cells6 {w : World} {b : Nat} {d s g c n k : Int} (h : w.heap[b]? = some (.cells #[.int .i64 d, .int .i64 s, .int .i64 g, .int .i64 c, .int .u64 n, .int .u64 k] 34 (0, 0))) : w.cell? ⟨b, 1, none⟩ = some (.int .i64 s) ∧ w.cell? ⟨b, 2, none⟩ = some (.int .i64 g) ∧ w.cell? ⟨b, 3, none⟩ = some (.int .i64 c) ∧ w.cell? ⟨b, 4, none⟩ = some (.int .u64 n) ∧ w.cell? ⟨b, 5, none⟩ = some (.int .u64 k) ∧ b < w.heap.size :=
  ⟨(cell_of h 1).trans rfl, (cell_of h 2).trans rfl, (cell_of h 3).trans rfl, (cell_of h 4).trans rfl, (cell_of h 5).trans rfl, lt_of_block h⟩
set_option maxHeartbeats 4000000 in
set_option maxRecDepth 20000 in
theorem nobody_law (d s g c n k : Int) (w : World) : Calls Try.prog 4 #[.agg #[.int .i64 d, .int .i64 s, .int .i64 g, .int .i64 c, .int .u64 n, .int .u64 k]] w fun e w' => e = .returned (.bool true) ∧ Gr w w' := by
  go_enter Try.func4, Try.ntmps4
  go_wp2_with fail
  go_loopg [4] 2 (fun q i wr => ∃ j : Nat, j + q = 2 ∧ i = .int .i64 (j : Int) ∧ wr.heap[w.heap.size]? = some (.cells #[.int .i64 d, .int .i64 s, .int .i64 g, .int .i64 c, .int .u64 n, .int .u64 k] 34 (0, 0)) ∧ Gr w wr)
  case atStart => exact ⟨0, by omega, rfl, al_at _ rfl, Ch.alloc (Gr.refl w) _⟩
  case round =>
    obtain ⟨j, hjk, rfl, hb, hg⟩ := hrel
    have B9 := hid hb
    have G9 := hid hg
    clear hb hg
    rcases (by omega : j = 0 ∨ j = 1 ∨ j = 2) with rfl | rfl | rfl
    · have N0 := hid (show NoT wr none from .inl rfl)
      have B0 := B9
      have G0 := G9
      have qy := cells6 B0.out; have y1 := qy.1; have y2 := qy.2.1; have y3 := qy.2.2.1; have y4 := qy.2.2.2.1; have y5 := qy.2.2.2.2.1; have yl := qy.2.2.2.2.2; clear qy
      go_wp2_with (first
        | (go_at_call 7; refine (after_no _ _ N0.out c n k).mono ?_; rintro e w1 ⟨rfl, hw⟩; subst hw)
        | (go_at_call 8; refine (every_no _ _ N0.out c n k).mono ?_; rintro e w1 ⟨rfl, hw⟩; subst hw)
        | (go_at_call 11; refine (next_no _ _ N0.out).mono ?_; rintro e w1 ⟨rfl, hw⟩; subst hw)
        | (go_at_call 12; refine (state_no _ _ N0.out).mono ?_; rintro e w1 ⟨rfl, hw⟩; subst hw)
        | (refine callG (by kernel_rfl) 9 #[.tmp 62, .tmp 64, .tmp 66, .tmp 68] _ rfl #[.pointer none, .agg #[.int .i64 s, .int .i64 g], .int .u64 n, .int .u64 k] (by kernel_rfl) (sleep_no _ _ N0.out s g n k) ?_; rintro e w5 ⟨rfl, g5⟩; refine ⟨_, rfl, ?_⟩; simp only [Act.put, List.setIfInBounds_toArray, List.set_cons_zero, List.set_cons_succ]; have N5 := hid (N0.out.gr g5); have B5 := hid (gr_blk B0.out g5); have G5 := hid (Gr.trans G0.out g5); clear g5; have qx := cells6 B5.out; have x1 := qx.1; have x2 := qx.2.1; have x3 := qx.2.2.1; have x4 := qx.2.2.2.1; have x5 := qx.2.2.2.2.1; have xl := qx.2.2.2.2.2; clear qx)
        | (refine callG (by kernel_rfl) 13 #[.tmp 82, .tmp 84] _ rfl #[.pointer none, .int .u64 n] (by kernel_rfl) (due_no _ _ N5.out n) ?_; rintro e w6 ⟨rfl, hw⟩; subst hw; refine ⟨_, rfl, ?_⟩; simp only [Act.put, List.setIfInBounds_toArray, List.set_cons_zero, List.set_cons_succ])
        | (refine callG (by kernel_rfl) 10 #[.tmp 91, .tmp 93] _ rfl #[.pointer none, .int .i64 c] (by kernel_rfl) (stop_no _ _ N5.out c) ?_; rintro e w6 ⟨rfl, hw⟩; subst hw; refine ⟨_, rfl, ?_⟩; simp only [Act.put, List.setIfInBounds_toArray, List.set_cons_zero, List.set_cons_succ])
        | (refine callG (by kernel_rfl) 14 #[.tmp 97, .tmp 99] _ rfl #[.pointer none, .agg #[.int .i64 s, .int .i64 g]] (by kernel_rfl) (sleeps_no _ _ N5.out s g) ?_; rintro e w7 ⟨rfl, g7⟩; refine ⟨_, rfl, ?_⟩; simp only [Act.put, List.setIfInBounds_toArray, List.set_cons_zero, List.set_cons_succ]; have B7 := hid (gr_blk B5.out g7); have G7 := hid (Gr.trans G5.out g7); clear g7))
      go_roundg (gk - 1)
      case measure => omega
      case rel => exact ⟨1, by omega, rfl, B7.out, G7.out⟩
    · have N0 := hid (show NoT (wr.alloc (.cells #[.int .i64 0, .pointer none, .pointer none, .map none, .map none] 39)) (some ⟨wr.heap.size, 0, none⟩) from .inr ⟨_, rfl, al_at _ rfl⟩)
      have B0 := hid (al_blk B9.out (.cells #[.int .i64 0, .pointer none, .pointer none, .map none, .map none] 39))
      have G0 := hid (show Gr w (wr.alloc (.cells #[.int .i64 0, .pointer none, .pointer none, .map none, .map none] 39)) from Ch.alloc G9.out _)
      have qy := cells6 B9.out; have y1 := qy.1; have y2 := qy.2.1; have y3 := qy.2.2.1; have y4 := qy.2.2.2.1; have y5 := qy.2.2.2.2.1; have yl := qy.2.2.2.2.2; clear qy
      go_wp2_with (first
        | (go_at_call 7; refine (after_no _ _ N0.out c n k).mono ?_; rintro e w1 ⟨rfl, hw⟩; subst hw)
        | (go_at_call 8; refine (every_no _ _ N0.out c n k).mono ?_; rintro e w1 ⟨rfl, hw⟩; subst hw)
        | (go_at_call 11; refine (next_no _ _ N0.out).mono ?_; rintro e w1 ⟨rfl, hw⟩; subst hw)
        | (go_at_call 12; refine (state_no _ _ N0.out).mono ?_; rintro e w1 ⟨rfl, hw⟩; subst hw)
        | (refine callG (by kernel_rfl) 9 #[.tmp 62, .tmp 64, .tmp 66, .tmp 68] _ rfl #[.pointer (some ⟨wr.heap.size, 0, none⟩), .agg #[.int .i64 s, .int .i64 g], .int .u64 n, .int .u64 k] (by kernel_rfl) (sleep_no _ _ N0.out s g n k) ?_; rintro e w5 ⟨rfl, g5⟩; refine ⟨_, rfl, ?_⟩; simp only [Act.put, List.setIfInBounds_toArray, List.set_cons_zero, List.set_cons_succ]; have N5 := hid (N0.out.gr g5); have B5 := hid (gr_blk B0.out g5); have G5 := hid (Gr.trans G0.out g5); clear g5; have qx := cells6 B5.out; have x1 := qx.1; have x2 := qx.2.1; have x3 := qx.2.2.1; have x4 := qx.2.2.2.1; have x5 := qx.2.2.2.2.1; have xl := qx.2.2.2.2.2; clear qx)
        | (refine callG (by kernel_rfl) 13 #[.tmp 82, .tmp 84] _ rfl #[.pointer (some ⟨wr.heap.size, 0, none⟩), .int .u64 n] (by kernel_rfl) (due_no _ _ N5.out n) ?_; rintro e w6 ⟨rfl, hw⟩; subst hw; refine ⟨_, rfl, ?_⟩; simp only [Act.put, List.setIfInBounds_toArray, List.set_cons_zero, List.set_cons_succ])
        | (refine callG (by kernel_rfl) 10 #[.tmp 91, .tmp 93] _ rfl #[.pointer (some ⟨wr.heap.size, 0, none⟩), .int .i64 c] (by kernel_rfl) (stop_no _ _ N5.out c) ?_; rintro e w6 ⟨rfl, hw⟩; subst hw; refine ⟨_, rfl, ?_⟩; simp only [Act.put, List.setIfInBounds_toArray, List.set_cons_zero, List.set_cons_succ])
        | (refine callG (by kernel_rfl) 14 #[.tmp 97, .tmp 99] _ rfl #[.pointer (some ⟨wr.heap.size, 0, none⟩), .agg #[.int .i64 s, .int .i64 g]] (by kernel_rfl) (sleeps_no _ _ N5.out s g) ?_; rintro e w7 ⟨rfl, g7⟩; refine ⟨_, rfl, ?_⟩; simp only [Act.put, List.setIfInBounds_toArray, List.set_cons_zero, List.set_cons_succ]; have B7 := hid (gr_blk B5.out g7); have G7 := hid (Gr.trans G5.out g7); clear g7))
      go_roundg (gk - 1)
      case measure => omega
      case rel => exact ⟨2, by omega, rfl, B7.out, G7.out⟩
    · go_wp2
      go_ret
      exact ⟨rfl, G9.out⟩
end Go.Proofs.Ytgkapopkjgljjab.Lt
