/-
  TickAdds: Count of n ticks, and of the m behind them, is Count of n + m: the walk, for any tick, frame, window and numbers. No conditions: the numbers are uint64.
-/
import Derived.Test.YtikipkjanojgaabCount
import Derived.Test.YtikipkjanojgaabPlain3
namespace Go.Proofs.Ytikipkjanojgaab.Tk
open Go.RowKit

/-- whatever Count and Add of too much answer: they say so -/
theorem adds_sum (t f s l n m : Int) (ht : U t) (hf : U f) (hs : U s) (hl : U l) (hn : U n) (hm : U m) (h : ¬ n + m ≤ 18446744073709551615) (w : World) :
    Calls Try.prog 3 #[.agg #[.int .u64 t, .int .u64 f, .int .u64 s, .int .u64 l], .int .u64 n, .int .u64 m] w fun e w' => e = .returned (.bool true) ∧ Gr w w' := by
  rcases add_vals n m with ⟨h1, _⟩ | ⟨_, k1, k2⟩
  · exact absurd h1 h
  · have H1 := hid k1
    have H2 := hid k2
    have hz : U 0 := ⟨by omega, by omega⟩
    clear k1 k2 h
    go_enter Try.func3, Try.ntmps3
    go_wp2_with fail
    refine (lives_any _).mono ?_
    rintro e w0 ⟨rfl, rfl⟩
    go_wp2_with fail
    refine (add_any n m hn hm _).mono ?_
    rintro e w0 ⟨rfl, rfl⟩
    rw [H1.out, H2.out]
    go_wp2_with fail
    refine (add_any t n ht hn _).mono ?_
    rintro e w0 ⟨rfl, rfl⟩
    go_wp2_with fail
    refine (count_any t 0 f s l ht hz hf hs hl _).mono ?_
    rintro e w1 ⟨rfl, g1⟩
    obtain ⟨c0, c1, c2, c3, cb, gw⟩ := boxedF g1
    clear g1
    go_wp2
    go_ret
    exact ⟨rfl, gw⟩

theorem adds_on (t f s l n m : Int) (ht : U t) (hf : U f) (hs : U s) (hl : U l) (hn : U n) (hm : U m) (h : n + m ≤ 18446744073709551615) (h' : ¬ t + n ≤ 18446744073709551615) (w : World) :
    Calls Try.prog 3 #[.agg #[.int .u64 t, .int .u64 f, .int .u64 s, .int .u64 l], .int .u64 n, .int .u64 m] w fun e w' => e = .returned (.bool true) ∧ Gr w w' := by
  rcases add_vals n m with ⟨_, k1, k2⟩ | ⟨h1, _⟩
  · rcases add_vals t n with ⟨h1, _⟩ | ⟨_, k3, k4⟩
    · exact absurd h1 h'
    · have H1 := hid k1
      have H2 := hid k2
      have H3 := hid k3
      have H4 := hid k4
      have hU : U (n + m) := ⟨by have := hn.1; have := hm.1; omega, h⟩
      clear k1 k2 k3 k4 h h'
      go_enter Try.func3, Try.ntmps3
      go_wp2_with fail
      refine (lives_any _).mono ?_
      rintro e w0 ⟨rfl, rfl⟩
      go_wp2_with fail
      refine (add_any n m hn hm _).mono ?_
      rintro e w0 ⟨rfl, rfl⟩
      rw [H1.out, H2.out]
      go_wp2_with fail
      refine (add_any t n ht hn _).mono ?_
      rintro e w0 ⟨rfl, rfl⟩
      rw [H3.out, H4.out]
      go_wp2_with fail
      refine (count_any t (n + m) f s l ht hU hf hs hl _).mono ?_
      rintro e w1 ⟨rfl, g1⟩
      obtain ⟨c0, c1, c2, c3, cb, gw⟩ := boxedF g1
      clear g1
      go_wp2
      go_ret
      exact ⟨rfl, gw⟩
  · exact absurd h h1

theorem adds_in (t f s l n m : Int) (ht : U t) (hf : U f) (hs : U s) (hl : U l) (hn : U n) (hm : U m) (h : n + m ≤ 18446744073709551615) (h' : t + n ≤ 18446744073709551615) (w : World) :
    Calls Try.prog 3 #[.agg #[.int .u64 t, .int .u64 f, .int .u64 s, .int .u64 l], .int .u64 n, .int .u64 m] w fun e w' => e = .returned (.bool true) ∧ Gr w w' := by
  rcases add_vals n m with ⟨_, k1, k2⟩ | ⟨h1, _⟩
  · rcases add_vals t n with ⟨_, k3, k4⟩ | ⟨h1, _⟩
    · have H1 := hid k1
      have H2 := hid k2
      have H3 := hid k3
      have H4 := hid k4
      have n0 := hn.1
      have m0 := hm.1
      have t0 := ht.1
      have hU : U (n + m) := ⟨by omega, h⟩
      have hU2 : U (t + n) := ⟨by omega, h'⟩
      clear k1 k2 k3 k4
      rcases co_vals t (n + m) f s l hs.1 (by omega) with ⟨q1, q2, q3⟩ | ⟨q1, q2, q3, q4, q5⟩ | ⟨q1, q2, q3, q4⟩
      · have H6 := hid q3
        have hne : (mayE s l f != 0) = true := by simpa using q1
        clear q1 q2 q3
        go_enter Try.func3, Try.ntmps3
        go_wp2_with fail
        refine (lives_any _).mono ?_
        rintro e w0 ⟨rfl, rfl⟩
        go_wp2_with fail
        refine (add_any n m hn hm _).mono ?_
        rintro e w0 ⟨rfl, rfl⟩
        rw [H1.out, H2.out]
        go_wp2_with fail
        refine (add_any t n ht hn _).mono ?_
        rintro e w0 ⟨rfl, rfl⟩
        rw [H3.out, H4.out]
        go_wp2_with fail
        refine (count_any t (n + m) f s l ht hU hf hs hl _).mono ?_
        rintro e w1 ⟨rfl, g1⟩
        rw [H6.out]
        obtain ⟨c0, c1, c2, c3, cb, gw⟩ := boxedF g1
        clear g1
        go_wp2_with fail
        refine (rmay_any s l f hs hl hf _).mono ?_
        rintro e w2 ⟨rfl, g2⟩
        go_wp2
        go_ret
        exact ⟨rfl, gw.trans g2⟩
      · have H6 := hid q3
        have Hm := hid q1
        clear q1 q2 q3 q4 q5
        go_enter Try.func3, Try.ntmps3
        go_wp2_with fail
        refine (lives_any _).mono ?_
        rintro e w0 ⟨rfl, rfl⟩
        go_wp2_with fail
        refine (add_any n m hn hm _).mono ?_
        rintro e w0 ⟨rfl, rfl⟩
        rw [H1.out, H2.out]
        go_wp2_with fail
        refine (add_any t n ht hn _).mono ?_
        rintro e w0 ⟨rfl, rfl⟩
        rw [H3.out, H4.out]
        go_wp2_with fail
        refine (count_any t (n + m) f s l ht hU hf hs hl _).mono ?_
        rintro e w1 ⟨rfl, g1⟩
        rw [H6.out]
        obtain ⟨c0, c1, c2, c3, cb, gw⟩ := boxedF g1
        clear g1
        go_wp2_with fail
        refine (rmay_any s l f hs hl hf _).mono ?_
        rintro e w2 ⟨rfl, g2⟩
        rw [Hm.out]
        go_wp2
        go_ret
        exact ⟨rfl, gw.trans g2⟩
      · have H6 := hid q3
        obtain ⟨x1, x2, x3, x4⟩ := co_at (t := t) (n := n) q1 hs.1 n0 (by omega)
        obtain ⟨y1, y2, y3, y4⟩ := co_at (t := t + n) (n := m) q1 hs.1 m0 (by omega)
        have z : coN t n f s l + coN (t + n) m f s l = coN t (n + m) f s l := by
          rw [x1, y1, q2, show t + n + m = t + (n + m) by omega]
          omega
        have H7 := hid x2
        have H8 := hid y2
        have z1 : coN t n f s l + coN (t + n) m f s l ≤ 18446744073709551615 := by omega
        have z2 : (coN t n f s l + coN (t + n) m f s l == coN t (n + m) f s l) = true := by simpa using z
        clear q1 q2 q3 q4 x1 x2 y1 y2 z
        go_enter Try.func3, Try.ntmps3
        go_wp2_with fail
        refine (lives_any _).mono ?_
        rintro e w0 ⟨rfl, rfl⟩
        go_wp2_with fail
        refine (add_any n m hn hm _).mono ?_
        rintro e w0 ⟨rfl, rfl⟩
        rw [H1.out, H2.out]
        go_wp2_with fail
        refine (add_any t n ht hn _).mono ?_
        rintro e w0 ⟨rfl, rfl⟩
        rw [H3.out, H4.out]
        go_wp2_with fail
        refine (count_any t (n + m) f s l ht hU hf hs hl _).mono ?_
        rintro e w1 ⟨rfl, g1⟩
        rw [H6.out]
        obtain ⟨c0, c1, c2, c3, cb, gw⟩ := boxedF g1
        clear g1
        go_wp2_with fail
        refine (count_any t n f s l ht hn hf hs hl _).mono ?_
        rintro e w2 ⟨rfl, g2⟩
        rw [H7.out]
        obtain ⟨c0, c1, c2, c3, cb, gw⟩ := heldF g2 ⟨c0, c1, c2, c3, cb, gw⟩
        clear g2
        go_wp2_with fail
        refine (count_any (t + n) m f s l hU2 hm hf hs hl _).mono ?_
        rintro e w3 ⟨rfl, g3⟩
        rw [H8.out]
        go_wp2
        go_ret
        exact ⟨rfl, gw.trans g3⟩
    · exact absurd h' h1
  · exact absurd h h1

theorem adds_any (t f s l n m : Int) (ht : U t) (hf : U f) (hs : U s) (hl : U l) (hn : U n) (hm : U m) (w : World) :
    Calls Try.prog 3 #[.agg #[.int .u64 t, .int .u64 f, .int .u64 s, .int .u64 l], .int .u64 n, .int .u64 m] w fun e w' => e = .returned (.bool true) ∧ Gr w w' := by
  by_cases h : n + m ≤ 18446744073709551615
  · by_cases h' : t + n ≤ 18446744073709551615
    · exact adds_in t f s l n m ht hf hs hl hn hm h h' w
    · exact adds_on t f s l n m ht hf hs hl hn hm h h' w
  · exact adds_sum t f s l n m ht hf hs hl hn hm h w
end Go.Proofs.Ytikipkjanojgaab.Tk
