/-
  What Count of the program answers, for any tick, number, frame and window. No conditions: the numbers are uint64.
-/
import Derived.Test.YtbghagpjkkmhpaaAhead
import Derived.Test.YtbghagpjkkmhpaaLeft
import Derived.Test.YtbghagpjkkmhpaaPlain2
namespace Go.Proofs.Ytbghagpjkkmhpaa.Tk
open Go.RowKit
attribute [local go_sem ↓] Go.wp_at_zero Go.wp_at_succ

theorem coE_bad {t n f s l : Int} (h : mayE s l f ≠ 0) : coN t n f s l = 0 ∧ coE t n f s l = mayE s l f := ⟨if_neg h, if_neg h⟩
theorem co_none {t f s l : Int} (h : mayE s l f = 0) : coN t 0 f s l = 0 ∧ coE t 0 f s l = 0 := by
  unfold coN coE
  rw [if_pos h, if_pos rfl, if_pos h, if_pos rfl]
  exact ⟨rfl, rfl⟩
theorem co_end {t n f s l : Int} (h : mayE s l f = 0) (hn : n ≠ 0) (he : ¬ t + (n - 1) ≤ 18446744073709551615) : coN t n f s l = 0 ∧ coE t n f s l = 10 ∧ addE t (n - 1) = 10 := by
  unfold coN coE addE
  rw [if_pos h, if_neg hn, if_neg he, if_pos h, if_neg hn, if_neg he]
  exact ⟨rfl, rfl, rfl⟩
theorem co_some {t n f s l : Int} (h : mayE s l f = 0) (hn : n ≠ 0) (he : t + (n - 1) ≤ 18446744073709551615) :
    coN t n f s l = bef (t + (n - 1)) f s l - bef t f s l + insN ((t + (n - 1)) % f) s l ∧ coE t n f s l = 0 ∧ addN t (n - 1) = t + (n - 1) ∧ addE t (n - 1) = 0 := by
  unfold coN coE addE addN
  rw [if_pos h, if_neg hn, if_pos he, if_pos h, if_neg hn, if_pos he, if_pos he]
  exact ⟨rfl, rfl, rfl, rfl⟩

set_option maxHeartbeats 400000 in
theorem count_any (t n f s l : Int) (ht : U t) (hn : U n) (hf : U f) (hs : U s) (hl : U l) (w : World) :
    Calls Try.prog 45 #[.int .u64 t, .int .u64 n, .int .u64 f, .agg #[.int .u64 s, .int .u64 l]] w fun e w' => e = .returned (.tuple #[.int .u64 (coN t n f s l), .int .i64 (coE t n f s l)]) ∧ Gr w w' := by
  by_cases hm : mayE s l f = 0
  · have Hm := hid hm
    by_cases hn0 : n = 0
    · subst hn0
      obtain ⟨k1, k2⟩ := co_none (t := t) hm
      have H1 := hid k1
      have H2 := hid k2
      clear hm k1 k2
      go_enter Try.func45, Try.ntmps45
      go_wp2_with fail
      refine (may_any s l f hs hl hf _).mono ?_
      rintro e w1 ⟨rfl, g1⟩
      rw [Hm.out]
      go_wp2
      go_ret2
      exact ⟨ret2 H1.out.symm H2.out.symm, (boxed g1).2.2.2⟩
    · have n0 := hn.1
      have n1 := hn.2
      have hne : (n == 0) = false := by simpa using hn0
      have hn' : 1 ≤ n := by omega
      by_cases he : t + (n - 1) ≤ 18446744073709551615
      · obtain ⟨k1, k2, k3, k4⟩ := co_some hm hn0 he
        obtain ⟨m1, m2, m3⟩ := may_ok hm
        have s0 := hs.1
        have t0 := ht.1
        have hf1 : 1 ≤ f := by omega
        have f1 := hf.2
        have b1 := bef_le f s l s0 m1 m2 (t := t) (u := t + (n - 1)) (by omega)
        have b2 := bef_bd (t + (n - 1)) f s l (by omega) s0 m1 m2
        have b3 := bef_bd t f s l t0 s0 m1 m2
        obtain ⟨E, hE⟩ : ∃ E, E = t + (n - 1) := ⟨_, rfl⟩
        rw [← hE] at k1 k3 b1 b2 he
        have e0 : 0 ≤ E := by omega
        have b5 : E - t ≤ n - 1 := by omega
        have hUE : U E := ⟨e0, he⟩
        have hq := mod_bd E f hf1
        have hUq : U (E % f) := ⟨hq.1, by omega⟩
        have r1 : E.tmod f = E % f := Int.tmod_eq_emod_of_nonneg e0
        have r2 : IntKind.u64.wrap (bef E f s l - bef t f s l) = bef E f s l - bef t f s l := wrapU ⟨by omega, by omega⟩
        have b4 : bef E f s l - bef t f s l + 1 ≤ 18446744073709551615 := by omega
        have b6 : 0 ≤ bef E f s l - bef t f s l := by omega
        have H2 := hid k2
        have H3 := hid k3
        have H4 := hid k4
        have hm' := hm
        clear hE k2 k3 k4
        have Hmm : Hid (mayE s l f = 0) := hm
        cases hi : insB (E % f) s l
        · have H1 : Hid (coN t n f s l = bef E f s l - bef t f s l) := by
            have := insN_of (E % f) s l
            rw [hi] at this
            show coN t n f s l = _
            rw [k1, this]
            simp
          have Hi := hid hi
          clear hm hm' hi k1
          go_enter Try.func45, Try.ntmps45
          go_wp2_with fail
          refine (may_any s l f hs hl hf _).mono ?_
          rintro e w1 ⟨rfl, g1⟩
          rw [Hm.out]
          obtain ⟨c0, c1, cb, gw⟩ := boxed g1
          clear g1
          go_wp2_with fail
          refine (add_any t (n - 1) ht ⟨by omega, by omega⟩ _).mono ?_
          rintro e w2 ⟨rfl, rfl⟩
          rw [H3.out, H4.out]
          go_wp2_with fail
          go_region_held3 (fun w' => w'.cell? ⟨w.heap.size, 0, none⟩ = some (.int .u64 s) ∧ w'.cell? ⟨w.heap.size, 1, none⟩ = some (.int .u64 l) ∧ w.heap.size < w'.heap.size ∧ Gr w w')
            (first | (refine held g ?_; assumption) | exact ⟨c0, c1, cb, gw⟩ | exact ⟨c0, c1, cb, gw.drew⟩ | assumption)
            (first | (go_at_call 58; refine (ahead_any _ f s l (by first | exact hUE | exact ht) hs hl hf Hmm.out _).mono ?_; rintro e wm ⟨rfl, g⟩))
          all_goals (rename_i hh; obtain ⟨d0, d1, db, gd⟩ := hh)
          all_goals go_wp2_with fail
          all_goals go_region_held3 (fun w' => w'.cell? ⟨w.heap.size, 0, none⟩ = some (.int .u64 s) ∧ w'.cell? ⟨w.heap.size, 1, none⟩ = some (.int .u64 l) ∧ w.heap.size < w'.heap.size ∧ Gr w w')
            (first | (refine held gi ?_; assumption) | exact ⟨d0, d1, db, gd⟩ | exact ⟨d0, d1, db, gd.drew⟩ | assumption)
            (first | (go_at_call 53; refine (ins_any (E % f) s l hUq hs hl _).mono ?_; rintro e wm ⟨rfl, gi⟩))
          all_goals (rename_i hh; rw [Hi.out])
          all_goals go_wp2
          all_goals go_ret2
          all_goals exact ⟨ret2 H1.out.symm H2.out.symm, hh.2.2.2⟩
        · have H1 : Hid (coN t n f s l = bef E f s l - bef t f s l + 1) := by
            have := insN_of (E % f) s l
            rw [hi] at this
            show coN t n f s l = _
            rw [k1, this]
            simp
          have Hi := hid hi
          clear hm hm' hi k1
          go_enter Try.func45, Try.ntmps45
          go_wp2_with fail
          refine (may_any s l f hs hl hf _).mono ?_
          rintro e w1 ⟨rfl, g1⟩
          rw [Hm.out]
          obtain ⟨c0, c1, cb, gw⟩ := boxed g1
          clear g1
          go_wp2_with fail
          refine (add_any t (n - 1) ht ⟨by omega, by omega⟩ _).mono ?_
          rintro e w2 ⟨rfl, rfl⟩
          rw [H3.out, H4.out]
          go_wp2_with fail
          go_region_held3 (fun w' => w'.cell? ⟨w.heap.size, 0, none⟩ = some (.int .u64 s) ∧ w'.cell? ⟨w.heap.size, 1, none⟩ = some (.int .u64 l) ∧ w.heap.size < w'.heap.size ∧ Gr w w')
            (first | (refine held g ?_; assumption) | exact ⟨c0, c1, cb, gw⟩ | exact ⟨c0, c1, cb, gw.drew⟩ | assumption)
            (first | (go_at_call 58; refine (ahead_any _ f s l (by first | exact hUE | exact ht) hs hl hf Hmm.out _).mono ?_; rintro e wm ⟨rfl, g⟩))
          all_goals (rename_i hh; obtain ⟨d0, d1, db, gd⟩ := hh)
          all_goals go_wp2_with fail
          all_goals go_region_held3 (fun w' => w'.cell? ⟨w.heap.size, 0, none⟩ = some (.int .u64 s) ∧ w'.cell? ⟨w.heap.size, 1, none⟩ = some (.int .u64 l) ∧ w.heap.size < w'.heap.size ∧ Gr w w')
            (first | (refine held gi ?_; assumption) | exact ⟨d0, d1, db, gd⟩ | exact ⟨d0, d1, db, gd.drew⟩ | assumption)
            (first | (go_at_call 53; refine (ins_any (E % f) s l hUq hs hl _).mono ?_; rintro e wm ⟨rfl, gi⟩))
          all_goals (rename_i hh; rw [Hi.out])
          all_goals go_wp2
          all_goals go_ret2
          all_goals exact ⟨ret2 H1.out.symm H2.out.symm, hh.2.2.2⟩
      · obtain ⟨k1, k2, k3⟩ := co_end hm hn0 he
        have H1 := hid k1
        have H2 := hid k2
        have H3 := hid k3
        clear hm k1 k2 k3
        go_enter Try.func45, Try.ntmps45
        go_wp2_with fail
        refine (may_any s l f hs hl hf _).mono ?_
        rintro e w1 ⟨rfl, g1⟩
        rw [Hm.out]
        go_wp2_with fail
        refine (add_any t (n - 1) ht ⟨by omega, by omega⟩ _).mono ?_
        rintro e w2 ⟨rfl, rfl⟩
        rw [H3.out]
        go_wp2
        go_ret2
        exact ⟨ret2 H1.out.symm H2.out.symm, (boxed g1).2.2.2⟩
  · obtain ⟨k1, k2⟩ := coE_bad (t := t) (n := n) hm
    have H1 := hid k1
    have H2 := hid k2
    have hne : (mayE s l f != 0) = true := by simpa using hm
    clear hm k1 k2
    go_enter Try.func45, Try.ntmps45
    go_wp2_with fail
    refine (may_any s l f hs hl hf _).mono ?_
    rintro e w1 ⟨rfl, g1⟩
    go_wp2
    go_ret2
    exact ⟨ret2 H1.out.symm H2.out.symm, (boxed g1).2.2.2⟩
end Go.Proofs.Ytbghagpjkkmhpaa.Tk
