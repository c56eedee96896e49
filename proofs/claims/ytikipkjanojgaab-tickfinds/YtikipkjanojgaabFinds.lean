/-
  TickFinds: up to the tick that Nth tells just k are inside, and it is: the walk, for any tick, frame, window and number. No conditions: the numbers are uint64.
-/
import Derived.Test.YtikipkjanojgaabNth
import Derived.Test.YtikipkjanojgaabPlain3
namespace Go.Proofs.Ytikipkjanojgaab.Tk
open Go.RowKit

theorem finds_any (t f s l k : Int) (ht : U t) (hf : U f) (hs : U s) (hl : U l) (hk : U k) (w : World) :
    Calls Try.prog 4 #[.agg #[.int .u64 t, .int .u64 f, .int .u64 s, .int .u64 l], .int .u64 k] w fun e w' => e = .returned (.bool true) ∧ Gr w w' := by
  rcases nt_vals t k f s l ht hk.1 hs.1 with ⟨k1, k2, k3⟩ | ⟨k1, k2, k3⟩ | ⟨k1, k2, k3, k4, k5, k6, k7⟩
  · have H2 := hid k2
    have H3 := hid k3
    have hne : (mayE s l f != 0) = true := by simpa using k1
    have h10 : (mayE s l f == 10) = false := by
      rcases may_vals s l f with h | h | h <;> rw [h] <;> rfl
    clear k1 k2 k3
    go_enter Try.func4, Try.ntmps4
    go_wp2_with fail
    refine (lives_any _).mono ?_
    rintro e w0 ⟨rfl, rfl⟩
    go_wp2_with fail
    refine (nth_any t k f s l ht hk hf hs hl _).mono ?_
    rintro e w1 ⟨rfl, g1⟩
    rw [H2.out, H3.out]
    obtain ⟨c0, c1, c2, c3, cb, gw⟩ := boxedF g1
    clear g1
    go_wp2_with fail
    refine (may_any s l f hs hl hf _).mono ?_
    rintro e w2 ⟨rfl, g2⟩
    go_wp2
    go_ret
    exact ⟨rfl, gw.trans g2⟩
  · have H2 := hid k2
    have H3 := hid k3
    clear k1 k2 k3
    go_enter Try.func4, Try.ntmps4
    go_wp2_with fail
    refine (lives_any _).mono ?_
    rintro e w0 ⟨rfl, rfl⟩
    go_wp2_with fail
    refine (nth_any t k f s l ht hk hf hs hl _).mono ?_
    rintro e w1 ⟨rfl, g1⟩
    rw [H2.out, H3.out]
    obtain ⟨c0, c1, c2, c3, cb, gw⟩ := boxedF g1
    clear g1
    go_wp2
    go_ret
    exact ⟨rfl, gw⟩
  · have H2 := hid k2
    have Hm := hid k1
    have t0 := ht.1
    obtain ⟨u, hu⟩ : ∃ u, u = ntN t k f s l := ⟨_, rfl⟩
    have Hu := hid hu.symm
    rw [← hu] at k3 k4 k5 k6 k7
    have H5 := hid k5
    have H6 := hid k6
    have hUu : U u := ⟨by omega, k4⟩
    have hUd : U (u - t) := ⟨by omega, by omega⟩
    clear k1 k2 k5 k6 hu
    go_enter Try.func4, Try.ntmps4
    go_wp2_with fail
    refine (lives_any _).mono ?_
    rintro e w0 ⟨rfl, rfl⟩
    go_wp2_with fail
    refine (nth_any t k f s l ht hk hf hs hl _).mono ?_
    rintro e w1 ⟨rfl, g1⟩
    rw [Hu.out, H2.out]
    obtain ⟨c0, c1, c2, c3, cb, gw⟩ := boxedF g1
    clear g1
    go_wp2_with fail
    refine (count_any t (u - t) f s l ht hUd hf hs hl _).mono ?_
    rintro e w2 ⟨rfl, g2⟩
    rw [H5.out, H6.out]
    obtain ⟨c0, c1, c2, c3, cb, gw⟩ := heldF g2 ⟨c0, c1, c2, c3, cb, gw⟩
    clear g2
    go_wp2_with fail
    refine (left_any u f s l hUu hf hs hl _).mono ?_
    rintro e w3 ⟨rfl, g3⟩
    rw [Hm.out]
    go_wp2
    go_ret
    exact ⟨rfl, gw.trans g3⟩
end Go.Proofs.Ytikipkjanojgaab.Tk
