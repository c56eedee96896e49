/-
  TickWindows: May and Left of the program answer as the document's do, for any tick, frame and window: the walk. No conditions: the numbers are uint64.
-/
import Derived.Test.YtikipkjanojgaaaRWindows
import Derived.Deep.DrawnRows
namespace Go.Proofs.Ytikipkjanojgaaa.Tk
open Go.RowKit
attribute [local go_sem ↓] Go.wp_at_zero Go.wp_at_succ

theorem windows_any (t f s l : Int) (ht : U t) (hf : U f) (hs : U s) (hl : U l) (w : World) :
    Calls Try.prog 5 #[.agg #[.int .u64 t, .int .u64 f, .int .u64 s, .int .u64 l]] w fun e w' => e = .returned (.bool true) ∧ Gr w w' := by
  go_enter Try.func5, Try.ntmps5
  go_wp2_with fail
  refine (left_any t f s l ht hf hs hl _).mono ?_
  rintro e w1 ⟨rfl, g1⟩
  obtain ⟨c0, c1, c2, c3, cb, gw⟩ := boxedF g1
  go_wp2_with fail
  refine (rleft_any t f s l ht hf hs hl _).mono ?_
  rintro e w2 ⟨rfl, g2⟩
  obtain ⟨c0, c1, c2, c3, cb, gw⟩ := heldF g2 ⟨c0, c1, c2, c3, cb, gw⟩
  clear g1 g2
  go_wp2_with fail
  go_region_held3 (fun w' => w'.cell? ⟨w.heap.size, 0, none⟩ = some (.int .u64 t) ∧ w'.cell? ⟨w.heap.size, 1, none⟩ = some (.int .u64 f) ∧ w'.cell? ⟨w.heap.size, 2, none⟩ = some (.int .u64 s) ∧ w'.cell? ⟨w.heap.size, 3, none⟩ = some (.int .u64 l) ∧ w.heap.size < w'.heap.size ∧ Gr w w')
    (first | (refine heldF g ?_; assumption) | exact ⟨c0, c1, c2, c3, cb, gw⟩ | exact ⟨c0, c1, c2, c3, cb, gw.drew⟩ | assumption)
    (first | (go_at_call 13; refine (lives_any _).mono ?_; rintro e wl ⟨rfl, rfl⟩) | (go_at_call 20; refine (may_any s l f hs hl hf _).mono ?_; rintro e wm ⟨rfl, g⟩) | (go_at_call 21; refine (rmay_any s l f hs hl hf _).mono ?_; rintro e wm ⟨rfl, g⟩))
  all_goals go_wp2
  all_goals go_ret
  all_goals (rename_i hh; exact ⟨rfl, hh.2.2.2.2.2⟩)
end Go.Proofs.Ytikipkjanojgaaa.Tk
