/-
  TickLefts: what is left of a window is the ticks from t on that are inside without a gap, and behind them there is none: the walk, for any tick, frame and window. No conditions: the numbers are uint64.
-/
import Derived.Test.YtikipkjanojgaabCount
import Derived.Test.YtikipkjanojgaabPlain3
namespace Go.Proofs.Ytikipkjanojgaab.Tk
open Go.RowKit

/-- what Left, Count and Left answer at a tick inside -/
theorem lefts_in (t f s l : Int) (hs : 0 ≤ s) (hm : mayE s l f = 0) (hi : insB (t % f) s l = true) :
    1 ≤ leN t f s l ∧ leN t f s l ≤ l ∧
    ((coE t (leN t f s l) f s l = 0 ∧ coN t (leN t f s l) f s l = leN t f s l) ∨ coE t (leN t f s l) f s l = 10 ∧ ¬ t + leN t f s l ≤ 18446744073709551615) ∧
    (l ≠ f → leN (t + leN t f s l) f s l = 0) := by
  obtain ⟨m1, m2, m3⟩ := may_ok hm
  obtain ⟨k1, k2, k3⟩ := leN_in (t := t) hm hi
  obtain ⟨x1, x2⟩ := left_on t f s l hs m1 m2 k2 k3
  rw [k1]
  refine ⟨by omega, by omega, ?_, fun h => ?_⟩
  · rcases co_vals t (l - (t % f - s)) f s l hs (by omega) with ⟨q1, _⟩ | ⟨_, _, q3, _, q5⟩ | ⟨_, q2, q3, _⟩
    · exact absurd hm q1
    · right
      exact ⟨q3, by omega⟩
    · left
      refine ⟨q3, ?_⟩
      rw [q2, x1]
      omega
  · unfold leN
    rw [if_pos hm, if_neg (x2 h)]

theorem lefts_any (t f s l : Int) (ht : U t) (hf : U f) (hs : U s) (hl : U l) (w : World) :
    Calls Try.prog 5 #[.agg #[.int .u64 t, .int .u64 f, .int .u64 s, .int .u64 l]] w fun e w' => e = .returned (.bool true) ∧ Gr w w' := by
  by_cases hm : mayE s l f = 0
  · have Hm := hid hm
    have t0 := ht.1
    have t1 := ht.2
    have l0 := hl.1
    cases hi : insB (t % f) s l
    · have H1 := hid (leN_out (t := t) hm hi)
      obtain ⟨k1, k2⟩ := co_none (t := t) hm
      have H2 := hid k1
      have H3 := hid k2
      have hz : U 0 := ⟨by omega, by omega⟩
      have k3 : addN t 0 = t + 0 := if_pos (by omega)
      have k4 : addE t 0 = 0 := if_pos (by omega)
      have H4 := hid k3
      have H5 := hid k4
      clear hm hi k1 k2 k3 k4
      go_enter Try.func5, Try.ntmps5
      go_wp2_with fail
      refine (lives_any _).mono ?_
      rintro e w0 ⟨rfl, rfl⟩
      go_wp2_with fail
      refine (left_any t f s l ht hf hs hl _).mono ?_
      rintro e w1 ⟨rfl, g1⟩
      rw [H1.out, Hm.out]
      obtain ⟨c0, c1, c2, c3, cb, gw⟩ := boxedF g1
      clear g1
      go_wp2_with fail
      refine (count_any t 0 f s l ht hz hf hs hl _).mono ?_
      rintro e w2 ⟨rfl, g2⟩
      rw [H2.out, H3.out]
      obtain ⟨c0, c1, c2, c3, cb, gw⟩ := heldF g2 ⟨c0, c1, c2, c3, cb, gw⟩
      clear g2
      go_wp2_with fail
      refine (add_any t 0 ht hz _).mono ?_
      rintro e w3 ⟨rfl, rfl⟩
      rw [H4.out, H5.out]
      go_wp2
      go_ret
      exact ⟨rfl, gw⟩
    · obtain ⟨x1, x2, x3, x4⟩ := lefts_in t f s l hs.1 hm hi
      obtain ⟨L, hL⟩ : ∃ L, L = leN t f s l := ⟨_, rfl⟩
      have HL := hid hL.symm
      rw [← hL] at x1 x2 x3 x4
      have hUL : U L := ⟨by omega, by have := hl.2; omega⟩
      have hL0 : (L == 0) = false := by simp; omega
      clear hm hi hL
      rcases x3 with ⟨y1, y2⟩ | ⟨y1, y2⟩
      · have H2 := hid y2
        have H3 := hid y1
        clear y1 y2
        by_cases ha : t + L ≤ 18446744073709551615
        · have k3 : addN t L = t + L := if_pos ha
          have k4 : addE t L = 0 := if_pos ha
          have H4 := hid k3
          have H5 := hid k4
          have hUa : U (t + L) := ⟨by omega, ha⟩
          clear k3 k4
          by_cases hlf : l = f
          · have hb : (l == f) = true := by simpa using hlf
            clear x4 hlf
            go_enter Try.func5, Try.ntmps5
            go_wp2_with fail
            refine (lives_any _).mono ?_
            rintro e w0 ⟨rfl, rfl⟩
            go_wp2_with fail
            refine (left_any t f s l ht hf hs hl _).mono ?_
            rintro e w1 ⟨rfl, g1⟩
            rw [HL.out, Hm.out]
            obtain ⟨c0, c1, c2, c3, cb, gw⟩ := boxedF g1
            clear g1
            go_wp2_with fail
            refine (count_any t L f s l ht hUL hf hs hl _).mono ?_
            rintro e w2 ⟨rfl, g2⟩
            rw [H2.out, H3.out]
            obtain ⟨c0, c1, c2, c3, cb, gw⟩ := heldF g2 ⟨c0, c1, c2, c3, cb, gw⟩
            clear g2
            go_wp2_with fail
            refine (add_any t L ht hUL _).mono ?_
            rintro e w3 ⟨rfl, rfl⟩
            rw [H4.out, H5.out]
            go_wp2
            go_ret
            exact ⟨rfl, gw⟩
          · have H6 := hid (x4 hlf)
            have hb : (l == f) = false := by simpa using hlf
            clear x4 hlf
            go_enter Try.func5, Try.ntmps5
            go_wp2_with fail
            refine (lives_any _).mono ?_
            rintro e w0 ⟨rfl, rfl⟩
            go_wp2_with fail
            refine (left_any t f s l ht hf hs hl _).mono ?_
            rintro e w1 ⟨rfl, g1⟩
            rw [HL.out, Hm.out]
            obtain ⟨c0, c1, c2, c3, cb, gw⟩ := boxedF g1
            clear g1
            go_wp2_with fail
            refine (count_any t L f s l ht hUL hf hs hl _).mono ?_
            rintro e w2 ⟨rfl, g2⟩
            rw [H2.out, H3.out]
            obtain ⟨c0, c1, c2, c3, cb, gw⟩ := heldF g2 ⟨c0, c1, c2, c3, cb, gw⟩
            clear g2
            go_wp2_with fail
            refine (add_any t L ht hUL _).mono ?_
            rintro e w3 ⟨rfl, rfl⟩
            rw [H4.out, H5.out]
            go_wp2_with fail
            refine (left_any (t + L) f s l hUa hf hs hl _).mono ?_
            rintro e w4 ⟨rfl, g4⟩
            rw [H6.out, Hm.out]
            go_wp2
            go_ret
            exact ⟨rfl, gw.trans g4⟩
        · have k3 : addN t L = 0 := if_neg ha
          have k4 : addE t L = 10 := if_neg ha
          have H4 := hid k3
          have H5 := hid k4
          clear k3 k4 x4
          go_enter Try.func5, Try.ntmps5
          go_wp2_with fail
          refine (lives_any _).mono ?_
          rintro e w0 ⟨rfl, rfl⟩
          go_wp2_with fail
          refine (left_any t f s l ht hf hs hl _).mono ?_
          rintro e w1 ⟨rfl, g1⟩
          rw [HL.out, Hm.out]
          obtain ⟨c0, c1, c2, c3, cb, gw⟩ := boxedF g1
          clear g1
          go_wp2_with fail
          refine (count_any t L f s l ht hUL hf hs hl _).mono ?_
          rintro e w2 ⟨rfl, g2⟩
          rw [H2.out, H3.out]
          obtain ⟨c0, c1, c2, c3, cb, gw⟩ := heldF g2 ⟨c0, c1, c2, c3, cb, gw⟩
          clear g2
          go_wp2_with fail
          refine (add_any t L ht hUL _).mono ?_
          rintro e w3 ⟨rfl, rfl⟩
          rw [H4.out, H5.out]
          go_wp2
          go_ret
          exact ⟨rfl, gw⟩
      · have H3 := hid y1
        have k3 : addN t L = 0 := if_neg y2
        have k4 : addE t L = 10 := if_neg y2
        have H4 := hid k3
        have H5 := hid k4
        clear k3 k4 x4 y1
        go_enter Try.func5, Try.ntmps5
        go_wp2_with fail
        refine (lives_any _).mono ?_
        rintro e w0 ⟨rfl, rfl⟩
        go_wp2_with fail
        refine (left_any t f s l ht hf hs hl _).mono ?_
        rintro e w1 ⟨rfl, g1⟩
        rw [HL.out, Hm.out]
        obtain ⟨c0, c1, c2, c3, cb, gw⟩ := boxedF g1
        clear g1
        go_wp2_with fail
        refine (count_any t L f s l ht hUL hf hs hl _).mono ?_
        rintro e w2 ⟨rfl, g2⟩
        rw [H3.out]
        obtain ⟨c0, c1, c2, c3, cb, gw⟩ := heldF g2 ⟨c0, c1, c2, c3, cb, gw⟩
        clear g2
        go_wp2_with fail
        refine (add_any t L ht hUL _).mono ?_
        rintro e w3 ⟨rfl, rfl⟩
        rw [H4.out, H5.out]
        go_wp2
        go_ret
        exact ⟨rfl, gw⟩
  · have H1 := hid (leN_bad (t := t) hm)
    have hne : (mayE s l f != 0) = true := by simpa using hm
    clear hm
    go_enter Try.func5, Try.ntmps5
    go_wp2_with fail
    refine (lives_any _).mono ?_
    rintro e w0 ⟨rfl, rfl⟩
    go_wp2_with fail
    refine (left_any t f s l ht hf hs hl _).mono ?_
    rintro e w1 ⟨rfl, g1⟩
    rw [H1.out]
    obtain ⟨c0, c1, c2, c3, cb, gw⟩ := boxedF g1
    clear g1
    go_wp2_with fail
    refine (may_any s l f hs hl hf _).mono ?_
    rintro e w2 ⟨rfl, g2⟩
    go_wp2
    go_ret
    exact ⟨rfl, gw.trans g2⟩
end Go.Proofs.Ytikipkjanojgaab.Tk
