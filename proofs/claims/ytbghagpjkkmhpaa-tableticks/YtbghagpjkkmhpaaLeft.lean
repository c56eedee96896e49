/-
  What Left of the program answers, for any tick, frame and window. No conditions: the numbers are uint64.
-/
import Derived.Test.YtbghagpjkkmhpaaWindows
namespace Go.Proofs.Ytbghagpjkkmhpaa.Tk
open Go.RowKit

theorem leN_bad {t f s l : Int} (h : mayE s l f ≠ 0) : leN t f s l = 0 := if_neg h
theorem leN_in {t f s l : Int} (h : mayE s l f = 0) (h2 : insB (t % f) s l = true) : leN t f s l = l - (t % f - s) ∧ s ≤ t % f ∧ t % f < s + l := by
  have h3 : s ≤ t % f ∧ t % f < s + l := by simpa [insB] using h2
  unfold leN
  rw [if_pos h, if_pos h3]
  exact ⟨rfl, h3⟩
theorem leN_out {t f s l : Int} (h : mayE s l f = 0) (h2 : insB (t % f) s l = false) : leN t f s l = 0 := by
  have h3 : ¬ (s ≤ t % f ∧ t % f < s + l) := by simpa [insB] using h2
  unfold leN
  rw [if_pos h, if_neg h3]

theorem left_any (t f s l : Int) (ht : U t) (hf : U f) (hs : U s) (hl : U l) (w : World) :
    Calls Try.prog 35 #[.int .u64 t, .int .u64 f, .agg #[.int .u64 s, .int .u64 l]] w fun e w' => e = .returned (.tuple #[.int .u64 (leN t f s l), .int .i64 (mayE s l f)]) ∧ Gr w w' := by
  by_cases hm : mayE s l f = 0
  · obtain ⟨m1, m2, m3⟩ := may_ok hm
    have hf1 : 1 ≤ f := by have := hs.1; omega
    have f1 := hf.2
    have t0 := ht.1
    have t1 := ht.2
    have s0 := hs.1
    have hq := mod_bd t f hf1
    have hUq : U (t % f) := ⟨hq.1, by omega⟩
    have Hm := hid hm
    cases hi : insB (t % f) s l
    · have H1 := hid (leN_out (t := t) hm hi)
      have Hi := hid hi
      clear hm hi
      go_enter Try.func35, Try.ntmps35
      go_wp2_with fail
      refine (may_any s l f hs hl hf _).mono ?_
      rintro e w1 ⟨rfl, g1⟩
      rw [Hm.out]
      obtain ⟨c0, c1, cb, gw⟩ := boxed g1
      go_wp2_with fail
      refine (ins_any (t % f) s l hUq hs hl _).mono ?_
      rintro e w2 ⟨rfl, g2⟩
      rw [Hi.out]
      go_wp2
      go_ret2
      exact ⟨ret2 H1.out.symm Hm.out.symm, gw.trans g2⟩
    · obtain ⟨k1, k2, k3⟩ := leN_in (t := t) hm hi
      have H1 := hid k1
      have Hi := hid hi
      have l1 := hl.2
      clear hm hi k1
      go_enter Try.func35, Try.ntmps35
      go_wp2_with fail
      refine (may_any s l f hs hl hf _).mono ?_
      rintro e w1 ⟨rfl, g1⟩
      rw [Hm.out]
      obtain ⟨c0, c1, cb, gw⟩ := boxed g1
      go_wp2_with fail
      refine (ins_any (t % f) s l hUq hs hl _).mono ?_
      rintro e w2 ⟨rfl, g2⟩
      rw [Hi.out]
      obtain ⟨c0, c1, cb, gw⟩ := held g2 ⟨c0, c1, cb, gw⟩
      go_wp2
      go_ret2
      exact ⟨ret2 H1.out.symm Hm.out.symm, gw⟩
  · have H1 := hid (leN_bad (t := t) hm)
    have hne : (mayE s l f != 0) = true := by simpa using hm
    clear hm
    go_enter Try.func35, Try.ntmps35
    go_wp2_with fail
    refine (may_any s l f hs hl hf _).mono ?_
    rintro e w1 ⟨rfl, g1⟩
    go_wp2
    go_ret2
    exact ⟨ret2 H1.out.symm rfl, (boxed g1).2.2.2⟩
end Go.Proofs.Ytbghagpjkkmhpaa.Tk
