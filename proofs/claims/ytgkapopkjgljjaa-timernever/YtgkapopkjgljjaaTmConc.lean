/-
  What slices.Grow and slices.Concat leave of two lists of timers. Condition: the lists are not too long.
-/
import Derived.Test.YtgkapopkjgljjaaTmList
import Derived.Lib.AppendZeros
namespace Go.Proofs.Ytgkapopkjgljjaa.Lt
open Go.RowKit Wd
attribute [local go_sem ↓] Go.wp_at_zero Go.wp_at_succ
set_option maxRecDepth 20000

theorem grow_any (w : World) (n : Nat) (hn : n ≤ 1099511627776) : Calls Try.prog 57 #[.slice none 0 0, .int .i64 (n : Int)] w fun e w' => ∃ ao cap, e = .returned (.slice ao 0 cap) ∧ Ow eT 8 46 w.heap.size w' (.slice ao 0 cap) [] ∧ Gr w w' := by
  by_cases h0 : n = 0
  · subst h0
    go_enter Try.func57, Try.ntmps57
    go_wp2
    go_ret
    exact ⟨none, 0, rfl, Ow.nil _ _ _ _ _, Gr.refl _⟩
  · obtain ⟨i0, hi, hz0, hz1, hz2⟩ := info_parts tmr_info
    have happ := Lib.run_append_nil_zeros (P := Try.prog) w 25 3 25 46 i0 _ .i64 .i64 Try.underlying25 Try.underlying3 hi hz0 n (by omega) (by omega) (by omega) (by rw [hz2]; omega)
    obtain ⟨cap, hcap⟩ : ∃ c, c = grownCap w n 0 46 := ⟨_, rfl⟩
    have hge : n ≤ cap := by rw [hcap]; exact grownCap_ge w _ 0 46
    have hle : cap ≤ maxLen := by rw [hcap]; exact grownCap_le_maxLen w _ 0 46 (by unfold maxLen; omega)
    rw [← hcap] at happ
    obtain ⟨Z, hZ⟩ : ∃ Z, Z = Builtin.zeroCells (Value.agg #[.int .i64 0, .int .i64 0, .int .i64 0, .int .i64 0, .int .i64 0, .int .u64 0, .bool false, .int .u64 0]).cells n ++ Builtin.zeroCells (Value.agg #[.int .i64 0, .int .i64 0, .int .i64 0, .int .i64 0, .int .i64 0, .int .u64 0, .bool false, .int .u64 0]).cells (cap - n) := ⟨_, rfl⟩
    have hZs : Z.size = cap * 8 := by rw [hZ]; simp [size_zeroCells, Value.cells]; omega
    rw [← hZ] at happ
    have HO := hid (show Ow eT 8 46 w.heap.size (w.drew.alloc (.cells Z 46)) (.slice (some ⟨w.heap.size, 0, none⟩) 0 cap) [] from World.ownsRow_made (w.drew) Z cap (Nat.le_refl _) hle hZs)
    have hn0 : (0 : Int) < (n : Int) := by omega
    have hcn : (n : Int) ≤ (cap : Int) := by omega
    clear hcap hge hle hZ hZs h0 hi hz0 hz1 hz2
    go_enter Try.func57, Try.ntmps57
    go_wp2_with (at_builtin; refine Lib.wpList_append_run _ rfl _ _ _ _ rfl _ _ rfl rfl _ _ happ ?_)
    go_ret
    exact ⟨_, cap, rfl, HO.out, Ch.alloc (Ch.drew (Gr.refl w)) _⟩
end Go.Proofs.Ytgkapopkjgljjaa.Lt
