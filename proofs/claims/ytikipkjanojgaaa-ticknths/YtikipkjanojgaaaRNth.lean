/-
  What Nth of the document answers, for any tick, number, frame and window. No conditions: the numbers are uint64.
-/
import Derived.Test.YtikipkjanojgaaaNth
import Derived.Test.YtikipkjanojgaaaRCount
namespace Go.Proofs.Ytikipkjanojgaaa.Tk
open Go.RowKit
attribute [local go_sem ↓] Go.wp_at_zero Go.wp_at_succ

set_option maxHeartbeats 400000 in
theorem rnth_any (t k f s l : Int) (ht : U t) (hk : U k) (hf : U f) (hs : U s) (hl : U l) (w : World) :
    Calls Try.prog 25 #[.int .u64 t, .int .u64 k, .int .u64 f, .agg #[.int .u64 s, .int .u64 l]] w fun e w' => e = .returned (.tuple #[.int .u64 (ntN t k f s l), .int .i64 (ntE t k f s l)]) ∧ Gr w w' := by
  by_cases hm : mayE s l f = 0
  · have Hm := hid hm
    obtain ⟨m1, m2, m3⟩ := may_ok hm
    have b3 := bef_bd t f s l ht.1 hs.1 m1 m2
    have hUb : U (bef t f s l) := ⟨b3.1, by have := ht.2; omega⟩
    by_cases hb : bef t f s l + k ≤ 18446744073709551615
    · obtain ⟨a1, a2⟩ := add_some hb
      obtain ⟨m, hM⟩ : ∃ m, m = bef t f s l + k := ⟨_, rfl⟩
      rw [← hM] at a1 hb
      have H1 := hid a1
      have H2 := hid a2
      have s0 := hs.1
      have m0 : 0 ≤ m := by have := hk.1; omega
      have hd := div_bd m l m0 m1
      have hr := mod_bd m l m1
      have hf1 : 1 ≤ f := by omega
      have hl0 : l ≠ 0 := by omega
      have f1 := hf.2
      have l1 := hl.2
      have ti := turn_iff (m / l) f hf1
      by_cases hq : m / l ≤ 18446744073709551615 / f
      · obtain ⟨k1, k2⟩ := nt_at hm hM.symm hb
        have H3 := hid k1
        have H4 := hid k2
        have hx : m / l * f ≤ 18446744073709551615 := ti.1 hq
        have hx0 : 0 ≤ m / l * f := Int.mul_nonneg hd.1 (by omega)
        have hUx : U (m / l * f) := ⟨hx0, hx⟩
        by_cases hy : m / l * f + s ≤ 18446744073709551615
        · obtain ⟨q1, q2⟩ := add_some hy
          have H5 := hid q1
          have H6 := hid q2
          have hUz : U (m / l * f + s) := ⟨by omega, hy⟩
          have hUr : U (m % l) := ⟨hr.1, by omega⟩
          have H7 : Hid (addN (m / l * f) (s + m % l) = addN (m / l * f + s) (m % l)) := by
            show addN _ _ = addN _ _
            unfold addN
            rw [Int.add_assoc]
          have H8 : Hid (addE (m / l * f) (s + m % l) = addE (m / l * f + s) (m % l)) := by
            show addE _ _ = addE _ _
            unfold addE
            rw [Int.add_assoc]
          clear q1 q2
          clear hm hM k1 k2 a1 a2 ti b3
          go_enter Try.func25, Try.ntmps25
          go_wp2_with fail
          refine (rmay_any s l f hs hl hf _).mono ?_
          rintro e w1 ⟨rfl, g1⟩
          rw [Hm.out]
          obtain ⟨c0, c1, cb, gw⟩ := boxed g1
          clear g1
          go_wp2_with fail
          refine (rbef_any t f s l ht hs hl hf Hm.out _).mono ?_
          rintro e w2 ⟨rfl, g2⟩
          obtain ⟨c0, c1, cb, gw⟩ := held g2 ⟨c0, c1, cb, gw⟩
          clear g2
          go_wp2_with fail
          refine (radd_any (bef t f s l) k hUb hk _).mono ?_
          rintro e w3 ⟨rfl, rfl⟩
          rw [H1.out, H2.out]
          go_wp2_with fail
          refine (radd_any (m / l * f) s hUx hs _).mono ?_
          rintro e w4 ⟨rfl, rfl⟩
          rw [H5.out, H6.out]
          go_wp2_with fail
          refine (radd_any (m / l * f + s) (m % l) hUz hUr _).mono ?_
          rintro e w5 ⟨rfl, rfl⟩
          go_wp2
          go_ret2
          exact ⟨ret2 (H3.out.trans H7.out).symm (H4.out.trans H8.out).symm, gw⟩
        · obtain ⟨q1, q2⟩ := add_none hy
          have H5 := hid q1
          have H6 := hid q2
          have hz : ¬ m / l * f + (s + m % l) ≤ 18446744073709551615 := by omega
          have H7 := hid (add_none hz).1
          have H8 := hid (add_none hz).2
          clear q1 q2
          clear hm hM k1 k2 a1 a2 ti b3
          go_enter Try.func25, Try.ntmps25
          go_wp2_with fail
          refine (rmay_any s l f hs hl hf _).mono ?_
          rintro e w1 ⟨rfl, g1⟩
          rw [Hm.out]
          obtain ⟨c0, c1, cb, gw⟩ := boxed g1
          clear g1
          go_wp2_with fail
          refine (rbef_any t f s l ht hs hl hf Hm.out _).mono ?_
          rintro e w2 ⟨rfl, g2⟩
          obtain ⟨c0, c1, cb, gw⟩ := held g2 ⟨c0, c1, cb, gw⟩
          clear g2
          go_wp2_with fail
          refine (radd_any (bef t f s l) k hUb hk _).mono ?_
          rintro e w3 ⟨rfl, rfl⟩
          rw [H1.out, H2.out]
          go_wp2_with fail
          refine (radd_any (m / l * f) s hUx hs _).mono ?_
          rintro e w4 ⟨rfl, rfl⟩
          rw [H6.out]
          go_wp2
          go_ret2
          exact ⟨ret2 (H3.out.trans H7.out).symm (H4.out.trans H8.out).symm, gw⟩
      · obtain ⟨k1, k2⟩ := nt_far hm hs.1 hM.symm hq
        have H3 := hid k1
        have H4 := hid k2
        clear hm hM k1 k2 a1 a2 ti b3
        go_enter Try.func25, Try.ntmps25
        go_wp2_with fail
        refine (rmay_any s l f hs hl hf _).mono ?_
        rintro e w1 ⟨rfl, g1⟩
        rw [Hm.out]
        obtain ⟨c0, c1, cb, gw⟩ := boxed g1
        clear g1
        go_wp2_with fail
        refine (rbef_any t f s l ht hs hl hf Hm.out _).mono ?_
        rintro e w2 ⟨rfl, g2⟩
        obtain ⟨c0, c1, cb, gw⟩ := held g2 ⟨c0, c1, cb, gw⟩
        clear g2
        go_wp2_with fail
        refine (radd_any (bef t f s l) k hUb hk _).mono ?_
        rintro e w3 ⟨rfl, rfl⟩
        rw [H1.out, H2.out]
        go_wp2
        go_ret2
        exact ⟨ret2 H3.out.symm H4.out.symm, gw⟩
    · obtain ⟨k1, k2, k3⟩ := nt_many hm hb
      have H1 := hid k1
      have H2 := hid k2
      have H3 := hid k3
      clear hm k1 k2 k3 b3
      go_enter Try.func25, Try.ntmps25
      go_wp2_with fail
      refine (rmay_any s l f hs hl hf _).mono ?_
      rintro e w1 ⟨rfl, g1⟩
      rw [Hm.out]
      obtain ⟨c0, c1, cb, gw⟩ := boxed g1
      clear g1
      go_wp2_with fail
      refine (rbef_any t f s l ht hs hl hf Hm.out _).mono ?_
      rintro e w2 ⟨rfl, g2⟩
      go_wp2_with fail
      refine (radd_any (bef t f s l) k hUb hk _).mono ?_
      rintro e w3 ⟨rfl, rfl⟩
      rw [H3.out]
      go_wp2
      go_ret2
      exact ⟨ret2 H1.out.symm H2.out.symm, gw.trans g2⟩
  · obtain ⟨k1, k2⟩ := nt_bad (t := t) (k := k) hm
    have H1 := hid k1
    have H2 := hid k2
    have hne : (mayE s l f != 0) = true := by simpa using hm
    clear hm k1 k2
    go_enter Try.func25, Try.ntmps25
    go_wp2_with fail
    refine (rmay_any s l f hs hl hf _).mono ?_
    rintro e w1 ⟨rfl, g1⟩
    go_wp2
    go_ret2
    exact ⟨ret2 H1.out.symm H2.out.symm, (boxed g1).2.2.2⟩
end Go.Proofs.Ytikipkjanojgaaa.Tk
