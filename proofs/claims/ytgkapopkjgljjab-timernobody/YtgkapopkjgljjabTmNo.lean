/-
  What the program's calls answer on timers that nobody made. No conditions.
-/
import Derived.Test.YtgkapopkjgljjabTmBase
namespace Go.Proofs.Ytgkapopkjgljjab.Lt
open Go.RowKit Wd
attribute [local go_sem ↓] Go.wp_at_zero Go.wp_at_succ
set_option maxRecDepth 20000

/-- timers that nobody made: none, or plain ones -/
def NoT (w : World) (p : Option Addr) : Prop := p = none ∨ ∃ b, p = some ⟨b, 0, none⟩ ∧ w.heap[b]? = some (.cells #[.int .i64 0, .pointer none, .pointer none, .map none, .map none] 39 (0, 0))
theorem NoT.gr {w w' : World} {p : Option Addr} (h : NoT w p) (g : Gr w w') : NoT w' p := by
  rcases h with h | ⟨b, h1, h2⟩
  · exact .inl h
  · exact .inr ⟨b, h1, gr_blk h2 g⟩
theorem neq_mapA : ∀ w : World, (binOp .neq 36 (.map none) (.map none)).run Try.prog w = .ok (.bool false) w := fun w => by kernel_rfl
theorem given_no (w : World) (p : Option Addr) (h : NoT w p) : Calls Try.prog 22 #[.pointer p] w fun e w' => e = .returned (.bool false) ∧ w = w' := by
  rcases h with rfl | ⟨b, rfl, h2⟩
  · go_enter Try.func22, Try.ntmps22
    go_wp2
    go_ret
    exact ⟨rfl, rfl⟩
  · have c1 := cell_of h2 3
    simp at c1
    clear h2
    have hm := neq_mapA
    go_enter Try.func22, Try.ntmps22
    go_wp2
    go_ret
    exact ⟨rfl, rfl⟩
theorem after_no (w : World) (p : Option Addr) (h : NoT w p) (c n k : Int) : Calls Try.prog 7 #[.pointer p, .int .i64 c, .int .u64 n, .int .u64 k] w fun e w' => e = .returned (.tuple #[.int .i64 0, .int .i64 1]) ∧ w = w' := by
  have HG := hid (given_no w p h)
  clear h
  go_enter Try.func7, Try.ntmps7
  go_wp2_with (go_at_call 22; refine HG.out.mono ?_; rintro e w1 ⟨rfl, hw⟩; obtain rfl := hw.symm; clear hw)
  exact bodyPost_ret (v := .tuple #[.int .i64 0, .int .i64 1]) (by simp [results, Try.results7, go_sem]) rfl ⟨rfl, rfl⟩
theorem every_no (w : World) (p : Option Addr) (h : NoT w p) (c n k : Int) : Calls Try.prog 8 #[.pointer p, .int .i64 c, .int .u64 n, .int .u64 k] w fun e w' => e = .returned (.tuple #[.int .i64 0, .int .i64 1]) ∧ w = w' := by
  have HG := hid (given_no w p h)
  clear h
  go_enter Try.func8, Try.ntmps8
  go_wp2_with (go_at_call 22; refine HG.out.mono ?_; rintro e w1 ⟨rfl, hw⟩; obtain rfl := hw.symm; clear hw)
  exact bodyPost_ret (v := .tuple #[.int .i64 0, .int .i64 1]) (by simp [results, Try.results8, go_sem]) rfl ⟨rfl, rfl⟩
theorem sleep_no (w : World) (p : Option Addr) (h : NoT w p) (s g n k : Int) : Calls Try.prog 9 #[.pointer p, .agg #[.int .i64 s, .int .i64 g], .int .u64 n, .int .u64 k] w fun e w' => e = .returned (.int .i64 1) ∧ Gr w w' := by
  have HG := hid (fun (W : World) (k : NoT W p) => given_no W p k)
  have H := hid h
  clear h
  go_enter Try.func9, Try.ntmps9
  go_wp2_with (go_at_call 22; refine (HG.out _ (H.out.gr (Ch.alloc (Gr.refl w) _))).mono ?_; rintro e w1 ⟨rfl, hw⟩; obtain rfl := hw.symm; clear hw)
  go_ret
  exact ⟨rfl, Ch.alloc (Gr.refl w) _⟩
theorem stop_no (w : World) (p : Option Addr) (h : NoT w p) (c : Int) : Calls Try.prog 10 #[.pointer p, .int .i64 c] w fun e w' => e = .returned (.bool false) ∧ w = w' := by
  have HG := hid (given_no w p h)
  clear h
  go_enter Try.func10, Try.ntmps10
  go_wp2_with (go_at_call 22; refine HG.out.mono ?_; rintro e w1 ⟨rfl, hw⟩; obtain rfl := hw.symm; clear hw)
  go_ret
  exact ⟨rfl, rfl⟩
theorem next_no (w : World) (p : Option Addr) (h : NoT w p) : Calls Try.prog 11 #[.pointer p] w fun e w' => e = .returned (.tuple #[.int .u64 0, .bool false]) ∧ w = w' := by
  have HG := hid (given_no w p h)
  clear h
  go_enter Try.func11, Try.ntmps11
  go_wp2_with (go_at_call 22; refine HG.out.mono ?_; rintro e w1 ⟨rfl, hw⟩; obtain rfl := hw.symm; clear hw)
  exact bodyPost_ret (v := .tuple #[.int .u64 0, .bool false]) (by simp [results, Try.results11, go_sem]) rfl ⟨rfl, rfl⟩
theorem state_no (w : World) (p : Option Addr) (h : NoT w p) : Calls Try.prog 12 #[.pointer p] w fun e w' => e = .returned (.tuple #[.int .i64 0, .slice none 0 0]) ∧ w = w' := by
  have HG := hid (given_no w p h)
  clear h
  go_enter Try.func12, Try.ntmps12
  go_wp2_with (go_at_call 22; refine HG.out.mono ?_; rintro e w1 ⟨rfl, hw⟩; obtain rfl := hw.symm; clear hw)
  exact bodyPost_ret (v := .tuple #[.int .i64 0, .slice none 0 0]) (by simp [results, Try.results12, go_sem]) rfl ⟨rfl, rfl⟩
theorem sleeps_no (w : World) (p : Option Addr) (h : NoT w p) (s g : Int) : Calls Try.prog 14 #[.pointer p, .agg #[.int .i64 s, .int .i64 g]] w fun e w' => e = .returned (.bool false) ∧ Gr w w' := by
  have HG := hid (fun (W : World) (k : NoT W p) => given_no W p k)
  have H := hid h
  clear h
  go_enter Try.func14, Try.ntmps14
  go_wp2_with (go_at_call 22; refine (HG.out _ (H.out.gr (Ch.alloc (Gr.refl w) _))).mono ?_; rintro e w1 ⟨rfl, hw⟩; obtain rfl := hw.symm; clear hw)
  go_ret
  exact ⟨rfl, Ch.alloc (Gr.refl w) _⟩
theorem due_no (w : World) (p : Option Addr) (h : NoT w p) (n : Int) : Calls Try.prog 13 #[.pointer p, .int .u64 n] w fun e w' => e = .returned (.slice none 0 0) ∧ w = w' := by
  have HN := hid (next_no w p h)
  clear h
  go_enter Try.func13, Try.ntmps13
  go_wp2_with (go_at_call 11; refine HN.out.mono ?_; rintro e w1 ⟨rfl, hw⟩; obtain rfl := hw.symm; clear hw)
  go_loopg [5, 7] 0 (fun q a b wr => a = .slice none 0 0 ∧ b = .bool false ∧ w1 = wr)
  case atStart => exact ⟨rfl, rfl, rfl⟩
  case round =>
    obtain ⟨rfl, rfl, hw⟩ := hrel
    obtain rfl := hw.symm
    go_wp2
    go_ret
    exact ⟨rfl, rfl⟩
end Go.Proofs.Ytgkapopkjgljjab.Lt
