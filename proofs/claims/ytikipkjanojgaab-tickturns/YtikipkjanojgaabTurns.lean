/-
  TickTurns: among as many ticks as a frame has, Length are inside: the walk, for any tick, frame and window. No conditions: the numbers are uint64.
-/
import Derived.Test.YtikipkjanojgaabCount
import Derived.Test.YtikipkjanojgaabPlain3
namespace Go.Proofs.Ytikipkjanojgaab.Tk
open Go.RowKit

theorem turns_any (t f s l : Int) (ht : U t) (hf : U f) (hs : U s) (hl : U l) (w : World) :
    Calls Try.prog 6 #[.agg #[.int .u64 t, .int .u64 f, .int .u64 s, .int .u64 l]] w fun e w' => e = .returned (.bool true) ∧ Gr w w' := by
  rcases co_vals t f f s l hs.1 hf.1 with ⟨k1, k2, k3⟩ | ⟨k1, k2, k3, k4, k5⟩ | ⟨k1, k2, k3, k4⟩
  · have H2 := hid k2
    have H3 := hid k3
    have hne : (mayE s l f != 0) = true := by simpa using k1
    have h10 : (mayE s l f == 10) = false := by
      rcases may_vals s l f with h | h | h <;> rw [h] <;> rfl
    clear k1 k2 k3
    go_enter Try.func6, Try.ntmps6
    go_wp2_with fail
    refine (lives_any _).mono ?_
    rintro e w0 ⟨rfl, rfl⟩
    go_wp2_with fail
    refine (count_any t f f s l ht hf hf hs hl _).mono ?_
    rintro e w1 ⟨rfl, g1⟩
    rw [H2.out, H3.out]
    obtain ⟨c0, c1, c2, c3, cb, gw⟩ := boxedF g1
    clear g1
    go_wp2_with fail
    refine (may_any s l f hs hl hf _).mono ?_
    rintro e w2 ⟨rfl, g2⟩
    go_wp2
    go_ret
    exact ⟨rfl, gw.trans g2⟩
  · have H2 := hid k2
    have H3 := hid k3
    clear k1 k2 k3 k5
    go_enter Try.func6, Try.ntmps6
    go_wp2_with fail
    refine (lives_any _).mono ?_
    rintro e w0 ⟨rfl, rfl⟩
    go_wp2_with fail
    refine (count_any t f f s l ht hf hf hs hl _).mono ?_
    rintro e w1 ⟨rfl, g1⟩
    rw [H2.out, H3.out]
    obtain ⟨c0, c1, c2, c3, cb, gw⟩ := boxedF g1
    clear g1
    go_wp2
    go_ret
    exact ⟨rfl, gw⟩
  · have H2 : Hid (coN t f f s l = l) := by
      show coN t f f s l = l
      rw [k2, bef_frame t f s l (may_ok k1).2.2]
      omega
    have H3 := hid k3
    clear k1 k2 k3 k4
    go_enter Try.func6, Try.ntmps6
    go_wp2_with fail
    refine (lives_any _).mono ?_
    rintro e w0 ⟨rfl, rfl⟩
    go_wp2_with fail
    refine (count_any t f f s l ht hf hf hs hl _).mono ?_
    rintro e w1 ⟨rfl, g1⟩
    rw [H2.out, H3.out]
    obtain ⟨c0, c1, c2, c3, cb, gw⟩ := boxedF g1
    clear g1
    go_wp2
    go_ret
    exact ⟨rfl, gw⟩
end Go.Proofs.Ytikipkjanojgaab.Tk
