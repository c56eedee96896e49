/-
  Ticks' inner function: a slot's window is appended to a list. Condition: the list is not too long.
-/
import Derived.Test.YtbghagpjkkmhpaaTbNum
import Derived.Test.YtbghagpjkkmhpaaTbTckM
namespace Go.Proofs.Ytbghagpjkkmhpaa.Lt
open Go.RowKit Wd
attribute [local go_sem ↓] Go.wp_at_zero Go.wp_at_succ
set_option maxRecDepth 20000

set_option maxHeartbeats 4000000 in
theorem tckc_any (w : World) (P : Int) (x : Sl) (lb base : Nat)
    (xs : List (Int × Int)) (hxl : xs.length ≤ 65536) (hb : LBox eW 2 52 68 lb base xs w) (h1 : lb < base) (h2 : base ≤ w.heap.size) :
    Calls Try.prog 43 #[.int .i64 P, .agg #[.int .i64 x.d, .int .u64 x.s, .int .u64 x.l, .int .u64 x.p], .pointer (some ⟨lb, 0, none⟩)] w fun e w' => e = .returned (.tuple #[]) ∧ LBox eW 2 52 68 lb base (xs ++ [wf2 x]) w' ∧ Ch (Apd lb base) w w' := by
  obtain ⟨ao, cap, b1, o1⟩ := hb.form
  have l0 := cell_of b1 0
  simp at l0
  have ll := lt_of_block b1
  have O1 := hide o1
  have B1 := hide b1
  have H1 := hide h1
  have H2 := hide h2
  clear hb b1 o1
  obtain ⟨V, hV⟩ : ∃ W, W = w.alloc (.cells #[.int .i64 x.d, .int .u64 x.s, .int .u64 x.l, .int .u64 x.p] 54) := ⟨_, rfl⟩
  have BV := hide (show (V.alloc (.cells #[.int .u64 x.s, .int .u64 x.l] 52)).heap[lb]? = some (.cells #[.slice ao xs.length cap] 68 (0, 0)) by rw [hV]; exact gr_blk B1.out (Ch.alloc (Ch.alloc (Gr.refl w) _) _))
  have OV := hide (show Ow eW 2 52 base (V.alloc (.cells #[.int .u64 x.s, .int .u64 x.l] 52)) (.slice ao xs.length cap) xs by rw [hV]; exact (O1.out.alloc _).alloc _)
  have SV := hide (show V.heap.size = w.heap.size + 1 by rw [hV]; simp)
  have GV := hide (show Gr w (V.alloc (.cells #[.int .u64 x.s, .int .u64 x.l] 52)) by rw [hV]; exact Ch.alloc (Ch.alloc (Gr.refl w) _) _)
  go_enter Try.func43, Try.ntmps43
  go_wp2_with (at_builtin; rw [← hV]; refine wpList_append_ow eW_len rfl (.tmp 5) (.tmp 8) _ 52 16 _ Try.underlying68 win_info rfl (by omega) rfl base _ xs rfl OV.out _ _ [wf2 x] rfl (ls_at V (wf2 x) 52 #[.int .u64 x.s, .int .u64 x.l] (w.heap.size + 1) SV.out.symm rfl) (eW_one _) (xs.length + 1) (by simp) (by omega) (by unfold maxLen; omega) (by have h3 := SV.out; have := H2.out; simp; omega) (xs ++ [wf2 x]) rfl ?_; intro ao5 cap5 w5 ow5 cw5 bl5; have BB := (cw5.block lb (lt_of_block BV.out) (fun q => by have := (OV.out.blk q).1; have := H1.out; omega)).trans BV.out; have l5 := cell_of BB 0; simp at l5; have f5 := frozen_of BB 0; have z5 := lt_of_block BB; have O5 := hide ow5; have C5 := hide cw5; have L5 := hide bl5; clear ow5 cw5 bl5 BB)
  go_end0
  obtain ⟨q1, q2⟩ := LBox.set BV.out H1.out (fun q hq => (OV.out.blk hq).1) O5.out C5.out L5.out
  exact ⟨rfl, q1, Ch.trans GV.out.any q2 (fun q hq => .inl hq)⟩
end Go.Proofs.Ytbghagpjkkmhpaa.Lt
