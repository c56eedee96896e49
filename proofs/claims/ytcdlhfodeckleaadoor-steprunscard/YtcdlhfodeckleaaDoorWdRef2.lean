/-
  What the document's Check and Encode answer. No conditions.
-/
import Derived.Test.YtcdlhfodeckleaaDoorWdRef
namespace Go.Proofs.YtcdlhfodeckleaaDoor.Wd
open Go.RowKit

theorem rcheck_no (o a b c m : Int) (h : o < 1 ∨ 58 < o) (w : World) : Calls Tryd.prog 46 #[.agg #[.int .i64 o, .int .i64 a, .int .i64 b, .int .i64 c, .int .i64 m]] w fun e w' => e = .returned (.int .i64 60) ∧ Gr w w' := by
  have H := hid h
  clear h
  go_enter Tryd.func46, Tryd.ntmps46
  go_wp2_with fail
  refine (table_no o H.out _).mono ?_
  rintro e w1 ⟨rfl, g⟩
  have HG := hid (Gr.trans ((Gr.refl _).alloc _ _) g)
  clear g
  go_wp2
  go_ret
  exact ⟨rfl, HG.out.alloc _ _⟩

theorem fit_reg (s : Nat) (hs : s < 7) (a b c m : Int) : fit s a b c m = (regB a (hA s) && regB b (hB s) && regB c (hC s) && decide (fl s ≤ m) && decide (m ≤ fm s)) := by
  have e : ∀ n : Int, regB n false = decide (0 ≤ n ∧ n ≤ 0) := fun n => by unfold regB; apply decide_eq_decide.2; simp; omega
  have e' : ∀ n : Int, regB n true = decide (0 ≤ n ∧ n ≤ 15) := fun n => by unfold regB; apply decide_eq_decide.2; simp; omega
  match s, hs with
  | 0, _ => simp only [fit, fitB, fa, fb, fc, fl, fm, hA, hB, hC, e, Bool.decide_and, Bool.and_assoc]
  | 1, _ => simp only [fit, fitB, fa, fb, fc, fl, fm, hA, hB, hC, e, e', Bool.decide_and, Bool.and_assoc]
  | 2, _ => simp only [fit, fitB, fa, fb, fc, fl, fm, hA, hB, hC, e, e', Bool.decide_and, Bool.and_assoc]
  | 3, _ => simp only [fit, fitB, fa, fb, fc, fl, fm, hA, hB, hC, e', Bool.decide_and, Bool.and_assoc]
  | 4, _ => simp only [fit, fitB, fa, fb, fc, fl, fm, hA, hB, hC, e, Bool.decide_and, Bool.and_assoc]
  | 5, _ => simp only [fit, fitB, fa, fb, fc, fl, fm, hA, hB, hC, e, e', Bool.decide_and, Bool.and_assoc]
  | 6, _ => simp only [fit, fitB, fa, fb, fc, fl, fm, hA, hB, hC, e, e', Bool.decide_and, Bool.and_assoc]

set_option maxRecDepth 20000 in
set_option maxHeartbeats 2000000 in
theorem rcheck_at (k s : Nat) (a b c m x3 x4 : Int) (p1 p2 p3 : Bool) (h1 : 1 ≤ k) (h2 : k < 59) (hs : sh k = s) (y1 : hA s = p1) (y2 : hB s = p2) (y3 : hC s = p3) (y4 : fl s = x3) (y5 : fm s = x4) (w : World) :
    Calls Tryd.prog 46 #[.agg #[.int .i64 (k : Nat), .int .i64 a, .int .i64 b, .int .i64 c, .int .i64 m]] w fun e w' => e = .returned (.int .i64 (if regB a p1 && regB b p2 && regB c p3 && decide (x3 ≤ m) && decide (m ≤ x4) then 0 else 61)) ∧ Gr w w' := by
  have HS := hid hs
  have HH := hid (fun (W : World) => has_all s (by rw [← hs]; exact sh_lt k) W)
  rw [y1, y2, y3, y4, y5] at HH
  clear hs y1 y2 y3 y4 y5
  obtain ⟨r1, q1⟩ : ∃ r, regB a p1 = r := ⟨_, rfl⟩
  obtain ⟨r2, q2⟩ : ∃ r, regB b p2 = r := ⟨_, rfl⟩
  obtain ⟨r3, q3⟩ : ∃ r, regB c p3 = r := ⟨_, rfl⟩
  rw [q1, q2, q3]
  have Q1 := hid q1
  have Q2 := hid q2
  have Q3 := hid q3
  clear q1 q2 q3
  cases r1
  · simp only [Bool.false_and, Bool.false_eq_true, if_false]
    go_enter Tryd.func46, Tryd.ntmps46
    go_wp2_with fail
    refine (table_all k h1 h2 _).mono ?_
    rintro e w1 ⟨rfl, g⟩
    unfold rowV
    rw [HS.out]
    obtain ⟨c0, c1, c2, c3, c4⟩ := boxed5 g
    have l0 : w.heap.size < w1.heap.size := Nat.lt_of_lt_of_le (by simp) g.size
    have HG := hid (Gr.trans ((Gr.refl _).alloc _ _) g)
    clear g
    go_wp2_with (first | (go_at_call 57; refine (HH.out _).mono ?_; rintro e w' ⟨rfl, rfl⟩) | (go_at_call 58; refine (rfits_any _ _ _).mono ?_; rintro e w' ⟨rfl, rfl⟩; first | rw [Q1.out] | rw [Q2.out] | rw [Q3.out]))
    go_ret
    exact ⟨rfl, HG.out.alloc _ _⟩
  · cases r2
    · simp only [Bool.true_and, Bool.false_and, Bool.false_eq_true, if_false]
      go_enter Tryd.func46, Tryd.ntmps46
      go_wp2_with fail
      refine (table_all k h1 h2 _).mono ?_
      rintro e w1 ⟨rfl, g⟩
      unfold rowV
      rw [HS.out]
      obtain ⟨c0, c1, c2, c3, c4⟩ := boxed5 g
      have l0 : w.heap.size < w1.heap.size := Nat.lt_of_lt_of_le (by simp) g.size
      have HG := hid (Gr.trans ((Gr.refl _).alloc _ _) g)
      clear g
      go_wp2_with (first | (go_at_call 57; refine (HH.out _).mono ?_; rintro e w' ⟨rfl, rfl⟩) | (go_at_call 58; refine (rfits_any _ _ _).mono ?_; rintro e w' ⟨rfl, rfl⟩; first | rw [Q1.out] | rw [Q2.out] | rw [Q3.out]))
      go_ret
      exact ⟨rfl, HG.out.alloc _ _⟩
    · cases r3
      · simp only [Bool.true_and, Bool.and_false, Bool.false_and, Bool.false_eq_true, if_false]
        go_enter Tryd.func46, Tryd.ntmps46
        go_wp2_with fail
        refine (table_all k h1 h2 _).mono ?_
        rintro e w1 ⟨rfl, g⟩
        unfold rowV
        rw [HS.out]
        obtain ⟨c0, c1, c2, c3, c4⟩ := boxed5 g
        have l0 : w.heap.size < w1.heap.size := Nat.lt_of_lt_of_le (by simp) g.size
        have HG := hid (Gr.trans ((Gr.refl _).alloc _ _) g)
        clear g
        go_wp2_with (first | (go_at_call 57; refine (HH.out _).mono ?_; rintro e w' ⟨rfl, rfl⟩) | (go_at_call 58; refine (rfits_any _ _ _).mono ?_; rintro e w' ⟨rfl, rfl⟩; first | rw [Q1.out] | rw [Q2.out] | rw [Q3.out]))
        go_ret
        exact ⟨rfl, HG.out.alloc _ _⟩
      · by_cases d4 : x3 ≤ m
        · by_cases d5 : m ≤ x4
          · simp only [d4, d5, decide_true, Bool.and_self, if_true]
            go_enter Tryd.func46, Tryd.ntmps46
            go_wp2_with fail
            refine (table_all k h1 h2 _).mono ?_
            rintro e w1 ⟨rfl, g⟩
            unfold rowV
            rw [HS.out]
            obtain ⟨c0, c1, c2, c3, c4⟩ := boxed5 g
            have l0 : w.heap.size < w1.heap.size := Nat.lt_of_lt_of_le (by simp) g.size
            have HG := hid (Gr.trans ((Gr.refl _).alloc _ _) g)
            clear g
            go_wp2_with (first | (go_at_call 57; refine (HH.out _).mono ?_; rintro e w' ⟨rfl, rfl⟩) | (go_at_call 58; refine (rfits_any _ _ _).mono ?_; rintro e w' ⟨rfl, rfl⟩; first | rw [Q1.out] | rw [Q2.out] | rw [Q3.out]))
            go_ret
            exact ⟨rfl, HG.out.alloc _ _⟩
          · simp only [d4, d5, decide_true, decide_false, Bool.and_self, Bool.true_and, Bool.false_eq_true, if_false]
            go_enter Tryd.func46, Tryd.ntmps46
            go_wp2_with fail
            refine (table_all k h1 h2 _).mono ?_
            rintro e w1 ⟨rfl, g⟩
            unfold rowV
            rw [HS.out]
            obtain ⟨c0, c1, c2, c3, c4⟩ := boxed5 g
            have l0 : w.heap.size < w1.heap.size := Nat.lt_of_lt_of_le (by simp) g.size
            have HG := hid (Gr.trans ((Gr.refl _).alloc _ _) g)
            clear g
            go_wp2_with (first | (go_at_call 57; refine (HH.out _).mono ?_; rintro e w' ⟨rfl, rfl⟩) | (go_at_call 58; refine (rfits_any _ _ _).mono ?_; rintro e w' ⟨rfl, rfl⟩; first | rw [Q1.out] | rw [Q2.out] | rw [Q3.out]))
            go_ret
            exact ⟨rfl, HG.out.alloc _ _⟩
        · simp only [d4, decide_false, Bool.and_self, Bool.and_false, Bool.false_and, Bool.false_eq_true, if_false]
          go_enter Tryd.func46, Tryd.ntmps46
          go_wp2_with fail
          refine (table_all k h1 h2 _).mono ?_
          rintro e w1 ⟨rfl, g⟩
          unfold rowV
          rw [HS.out]
          obtain ⟨c0, c1, c2, c3, c4⟩ := boxed5 g
          have l0 : w.heap.size < w1.heap.size := Nat.lt_of_lt_of_le (by simp) g.size
          have HG := hid (Gr.trans ((Gr.refl _).alloc _ _) g)
          clear g
          go_wp2_with (first | (go_at_call 57; refine (HH.out _).mono ?_; rintro e w' ⟨rfl, rfl⟩) | (go_at_call 58; refine (rfits_any _ _ _).mono ?_; rintro e w' ⟨rfl, rfl⟩; first | rw [Q1.out] | rw [Q2.out] | rw [Q3.out]))
          go_ret
          exact ⟨rfl, HG.out.alloc _ _⟩
theorem rcheck_yes (k : Nat) (a b c m : Int) (h1 : 1 ≤ k) (h2 : k < 59) (w : World) : Calls Tryd.prog 46 #[.agg #[.int .i64 (k : Nat), .int .i64 a, .int .i64 b, .int .i64 c, .int .i64 m]] w fun e w' => e = .returned (.int .i64 (if fit (sh k) a b c m then 0 else 61)) ∧ Gr w w' := by
  rw [fit_reg _ (sh_lt k)]
  exact rcheck_at k _ a b c m _ _ _ _ _ h1 h2 rfl rfl rfl rfl rfl rfl w

theorem rencode_no (o a b c m : Int) (h : o < 1 ∨ 58 < o) (w : World) : Calls Tryd.prog 22 #[.agg #[.int .i64 o, .int .i64 a, .int .i64 b, .int .i64 c, .int .i64 m]] w fun e w' => e = .returned (.tuple #[.int .u32 0, .int .i64 60]) ∧ Gr w w' := by
  have H := hid h
  clear h
  go_enter Tryd.func22, Tryd.ntmps22
  go_wp2_with fail
  refine (rcheck_no o a b c m H.out _).mono ?_
  rintro e w1 ⟨rfl, g⟩
  go_wp2
  go_ret2
  exact ⟨rfl, Gr.trans ((Gr.refl _).alloc _ _) g⟩
theorem rencode_bad (k : Nat) (a b c m : Int) (h1 : 1 ≤ k) (h2 : k < 59) (hq : fit (sh k) a b c m = false) (w : World) :
    Calls Tryd.prog 22 #[.agg #[.int .i64 (k : Nat), .int .i64 a, .int .i64 b, .int .i64 c, .int .i64 m]] w fun e w' => e = .returned (.tuple #[.int .u32 0, .int .i64 61]) ∧ Gr w w' := by
  have HC := hid (fun (W : World) => rcheck_yes k a b c m h1 h2 W)
  rw [hq] at HC
  clear hq
  go_enter Tryd.func22, Tryd.ntmps22
  go_wp2_with fail
  refine (HC.out _).mono ?_
  rintro e w1 ⟨rfl, g⟩
  go_wp2
  go_ret2
  exact ⟨rfl, Gr.trans ((Gr.refl _).alloc _ _) g⟩
theorem rencode_ok (k : Nat) (a b c m : Int) (h1 : 1 ≤ k) (h2 : k < 59) (hq : fit (sh k) a b c m = true) (w : World) :
    Calls Tryd.prog 22 #[.agg #[.int .i64 (k : Nat), .int .i64 a, .int .i64 b, .int .i64 c, .int .i64 m]] w fun e w' => e = .returned (.tuple #[.int .u32 (k * 16777216 + a * 1048576 + b * 65536 + m % 65536 + c), .int .i64 0]) ∧ Gr w w' := by
  have HC := hid (fun (W : World) => rcheck_yes k a b c m h1 h2 W)
  rw [hq] at HC
  obtain ⟨⟨a0, a1⟩, ⟨b0, b1⟩, F⟩ := fit_bd (sh_lt k) hq
  have c0 : 0 ≤ c := by omega
  have c1 : c ≤ 15 := by omega
  have m0 : -32768 ≤ m := by omega
  have m1 : m ≤ 65535 := by omega
  have HF := hid F
  clear hq F
  by_cases hm : m < 0
  · go_enter Tryd.func22, Tryd.ntmps22
    go_wp2_with fail
    refine (HC.out _).mono ?_
    rintro e w1 ⟨rfl, g⟩
    obtain ⟨u0, u1, u2, u3, u4⟩ := boxed5 g
    have HG := hid (Gr.trans ((Gr.refl _).alloc _ _) g)
    clear g
    go_wp2
    go_ret2
    exact ⟨congrArg (fun x => Ending.returned (.tuple #[.int .u32 x, .int .i64 0])) (by omega), HG.out⟩
  · go_enter Tryd.func22, Tryd.ntmps22
    go_wp2_with fail
    refine (HC.out _).mono ?_
    rintro e w1 ⟨rfl, g⟩
    obtain ⟨u0, u1, u2, u3, u4⟩ := boxed5 g
    have HG := hid (Gr.trans ((Gr.refl _).alloc _ _) g)
    clear g
    go_wp2
    go_ret2
    exact ⟨congrArg (fun x => Ending.returned (.tuple #[.int .u32 x, .int .i64 0])) (by omega), HG.out⟩
end Go.Proofs.YtcdlhfodeckleaaDoor.Wd
