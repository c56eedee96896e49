/-
  What Inside, before and Left of the document answer. Conditions: the numbers are uint64; Inside and before are asked where the window may be one of the frame.
-/
import Derived.Test.YtikipkjanojgaaaLeft
namespace Go.Proofs.Ytikipkjanojgaaa.Tk
open Go.RowKit

theorem rins_any (t f s l : Int) (ht : U t) (hf : U f) (hs : U s) (hl : U l) (hf1 : 1 ≤ f) (w : World) :
    Calls Try.prog 28 #[.int .u64 t, .int .u64 f, .agg #[.int .u64 s, .int .u64 l]] w fun e w' => e = .returned (.bool (insB (t % f) s l)) ∧ Gr w w' := by
  obtain ⟨t0, t1⟩ := ht
  obtain ⟨s0, s1⟩ := hs
  obtain ⟨l0, l1⟩ := hl
  have f1 := hf.2
  have hq := mod_bd t f hf1
  by_cases h : s ≤ t % f
  · by_cases h2 : t % f - s < l
    · have e1 : insB (t % f) s l = true := by unfold insB; simp; omega
      rw [e1]
      clear e1
      go_enter Try.func28, Try.ntmps28
      go_wp2
      go_ret
      exact ⟨rfl, (Gr.refl _).alloc _ _⟩
    · have e1 : insB (t % f) s l = false := by unfold insB; simp; omega
      rw [e1]
      clear e1
      go_enter Try.func28, Try.ntmps28
      go_wp2
      go_ret
      exact ⟨rfl, (Gr.refl _).alloc _ _⟩
  · have e1 : insB (t % f) s l = false := by unfold insB; simp; omega
    rw [e1]
    clear e1
    go_enter Try.func28, Try.ntmps28
    go_wp2
    go_ret
    exact ⟨rfl, (Gr.refl _).alloc _ _⟩

theorem rbef_any (t f s l : Int) (ht : U t) (hs : U s) (hl : U l) (hf : U f) (hm : mayE s l f = 0) (w : World) :
    Calls Try.prog 30 #[.int .u64 t, .int .u64 f, .agg #[.int .u64 s, .int .u64 l]] w fun e w' => e = .returned (.int .u64 (bef t f s l)) ∧ Gr w w' := by
  obtain ⟨m1, m2, m3⟩ := may_ok hm
  obtain ⟨t0, t1⟩ := ht
  have hf1 : 1 ≤ f := by have := hs.1; omega
  have f1 := hf.2
  have s0 := hs.1
  have s1 := hs.2
  have l1 := hl.2
  have hd := div_bd t f t0 hf1
  have hq := mod_bd t f hf1
  have hx := div_mul_le t f l t0 hf1 (by omega) (by omega)
  have hb := bef_bd t f s l t0 hs.1 m1 m2
  have hx1 : t / f * l ≤ 18446744073709551615 := by omega
  clear hm
  by_cases h : t % f ≤ s
  · have e1 : bef t f s l = t / f * l := by unfold bef pas; rw [if_pos h]; omega
    rw [e1]
    rw [e1] at hb
    clear e1
    go_enter Try.func30, Try.ntmps30
    go_wp2
    go_quiet (fail)
    go_wp2
    go_ret
    exact ⟨rfl, ((Gr.refl _).alloc _ _).drewN _⟩
  · by_cases h2 : l ≤ t % f - s
    · have e1 : bef t f s l = t / f * l + l := by
        unfold bef pas
        rw [if_neg h]
        split <;> omega
      rw [e1]
      rw [e1] at hb
      clear e1
      go_enter Try.func30, Try.ntmps30
      go_wp2
      go_quiet (fail)
      go_wp2
      go_ret
      exact ⟨rfl, ((Gr.refl _).alloc _ _).drewN _⟩
    · have e1 : bef t f s l = t / f * l + (t % f - s) := by unfold bef pas; rw [if_neg h, if_pos (by omega)]
      rw [e1]
      rw [e1] at hb
      clear e1
      go_enter Try.func30, Try.ntmps30
      go_wp2
      go_quiet (fail)
      go_wp2
      go_ret
      exact ⟨rfl, ((Gr.refl _).alloc _ _).drewN _⟩

theorem rleft_any (t f s l : Int) (ht : U t) (hf : U f) (hs : U s) (hl : U l) (w : World) :
    Calls Try.prog 19 #[.int .u64 t, .int .u64 f, .agg #[.int .u64 s, .int .u64 l]] w fun e w' => e = .returned (.tuple #[.int .u64 (leN t f s l), .int .i64 (mayE s l f)]) ∧ Gr w w' := by
  by_cases hm : mayE s l f = 0
  · obtain ⟨m1, m2, m3⟩ := may_ok hm
    have hf1 : 1 ≤ f := by have := hs.1; omega
    have f1 := hf.2
    have t0 := ht.1
    have t1 := ht.2
    have s0 := hs.1
    have hq := mod_bd t f hf1
    have Hm := hid hm
    cases hi : insB (t % f) s l
    · have H1 := hid (leN_out (t := t) hm hi)
      have Hi := hid hi
      clear hm hi
      go_enter Try.func19, Try.ntmps19
      go_wp2_with fail
      refine (rmay_any s l f hs hl hf _).mono ?_
      rintro e w1 ⟨rfl, g1⟩
      rw [Hm.out]
      obtain ⟨c0, c1, cb, gw⟩ := boxed g1
      go_wp2_with fail
      refine (rins_any t f s l ht hf hs hl hf1 _).mono ?_
      rintro e w2 ⟨rfl, g2⟩
      rw [Hi.out]
      go_wp2
      go_ret2
      exact ⟨ret2 H1.out.symm Hm.out.symm, gw.trans g2⟩
    · obtain ⟨k1, k2, k3⟩ := leN_in (t := t) hm hi
      have H1 := hid k1
      have Hi := hid hi
      have l1 := hl.2
      clear hm hi k1
      go_enter Try.func19, Try.ntmps19
      go_wp2_with fail
      refine (rmay_any s l f hs hl hf _).mono ?_
      rintro e w1 ⟨rfl, g1⟩
      rw [Hm.out]
      obtain ⟨c0, c1, cb, gw⟩ := boxed g1
      go_wp2_with fail
      refine (rins_any t f s l ht hf hs hl hf1 _).mono ?_
      rintro e w2 ⟨rfl, g2⟩
      rw [Hi.out]
      obtain ⟨c0, c1, cb, gw⟩ := held g2 ⟨c0, c1, cb, gw⟩
      go_wp2
      go_quiet (fail)
      go_wp2
      go_ret2
      exact ⟨ret2 H1.out.symm Hm.out.symm, gw.drewN _⟩
  · have H1 := hid (leN_bad (t := t) hm)
    have hne : (mayE s l f != 0) = true := by simpa using hm
    clear hm
    go_enter Try.func19, Try.ntmps19
    go_wp2_with fail
    refine (rmay_any s l f hs hl hf _).mono ?_
    rintro e w1 ⟨rfl, g1⟩
    go_wp2
    go_ret2
    exact ⟨ret2 H1.out.symm rfl, (boxed g1).2.2.2⟩
end Go.Proofs.Ytikipkjanojgaaa.Tk
