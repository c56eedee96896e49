/-
  What the document's Decode answers. No conditions.
-/
import Derived.Test.YtcdlhfodeckleaaDoorWdRef2
namespace Go.Proofs.YtcdlhfodeckleaaDoor.Wd
open Go.RowKit

set_option maxRecDepth 20000 in
set_option maxHeartbeats 4000000 in
theorem sdecode_c (k s : Nat) (n a b l x3 x4 : Int) (p1 p2 : Bool) (h1 : 1 ≤ k) (h2 : k < 59) (h3 : ¬ k < 30) (n0 : 0 ≤ n) (n1 : n < 4294967296) (hk : n / 16777216 = (k : Nat)) (ha : n / 1048576 % 16 = a) (_a0 : 0 ≤ a) (_a1 : a ≤ 15) (hb : n / 65536 % 16 = b) (_b0 : 0 ≤ b) (_b1 : b ≤ 15) (hl : n % 65536 = l) (_l0 : 0 ≤ l) (_l1 : l < 65536) (hs : sh k = s) (y1 : hA s = p1) (y2 : hB s = p2) (y3 : hC s = true) (y4 : fl s = x3) (y5 : fm s = x4) (w : World) :
    Calls Tryd.prog 49 #[.int .u32 n] w fun e w' => e = .returned (if regB a p1 && regB b p2 && regB l true then .tuple #[.agg #[.int .i64 (k : Nat), .int .i64 a, .int .i64 b, .int .i64 l, .int .i64 0], .int .i64 0] else .tuple #[.agg #[.int .i64 0, .int .i64 0, .int .i64 0, .int .i64 0, .int .i64 0], .int .i64 61]) ∧ Gr w w' := by
  have HT := hid (fun (W : World) => table_at k h1 h2 W)
  simp only [tw_hi h3] at HT
  unfold rowV at HT
  rw [hs] at HT
  have HH := hid (fun (W : World) => has_all s (by rw [← hs]; exact sh_lt k) W)
  rw [y1, y2, y3, y4, y5] at HH
  clear hs y1 y2 y3 y4 y5 h3
  obtain ⟨r1, q1⟩ : ∃ r, regB a p1 = r := ⟨_, rfl⟩
  obtain ⟨r2, q2⟩ : ∃ r, regB b p2 = r := ⟨_, rfl⟩
  obtain ⟨r3, q3⟩ : ∃ r, regB l true = r := ⟨_, rfl⟩
  cases r1
  · rw [q1]
    simp only [Bool.false_and, Bool.false_eq_true, if_false]
    have Q1 := hid q1
    have Q2 := hid q2
    have Q3 := hid q3
    clear q1 q2 q3
    go_enter Tryd.func49, Tryd.ntmps49
    go_wp2_with (first | (go_at_call 50; refine (HT.out _).mono ?_; rintro e w1 ⟨rfl, rfl⟩) | (go_at_call 57; refine (HH.out _).mono ?_; rintro e w' ⟨rfl, rfl⟩) | (go_at_call 58; refine (rfits_any _ _ _).mono ?_; rintro e w' ⟨rfl, rfl⟩; first | rw [Q1.out] | rw [Q2.out] | rw [Q3.out]))
    exact bodyPost_ret (v := .tuple #[.agg #[.int .i64 0, .int .i64 0, .int .i64 0, .int .i64 0, .int .i64 0], .int .i64 61]) (by simp [results, Tryd.results49, go_sem]) rfl ⟨rfl, ((((((Gr.refl _).alloc _ _).alloc _ _).alloc _ _).alloc _ _).alloc _ _)⟩
  · cases r2
    · rw [q1, q2]
      simp only [Bool.false_and, Bool.and_false, Bool.false_eq_true, if_false]
      have Q1 := hid q1
      have Q2 := hid q2
      have Q3 := hid q3
      clear q1 q2 q3
      go_enter Tryd.func49, Tryd.ntmps49
      go_wp2_with (first | (go_at_call 50; refine (HT.out _).mono ?_; rintro e w1 ⟨rfl, rfl⟩) | (go_at_call 57; refine (HH.out _).mono ?_; rintro e w' ⟨rfl, rfl⟩) | (go_at_call 58; refine (rfits_any _ _ _).mono ?_; rintro e w' ⟨rfl, rfl⟩; first | rw [Q1.out] | rw [Q2.out] | rw [Q3.out]))
      exact bodyPost_ret (v := .tuple #[.agg #[.int .i64 0, .int .i64 0, .int .i64 0, .int .i64 0, .int .i64 0], .int .i64 61]) (by simp [results, Tryd.results49, go_sem]) rfl ⟨rfl, ((((((Gr.refl _).alloc _ _).alloc _ _).alloc _ _).alloc _ _).alloc _ _)⟩
    · cases r3
      · rw [q1, q2, q3]
        simp only [Bool.and_false, Bool.false_eq_true, if_false]
        have Q1 := hid q1
        have Q2 := hid q2
        have Q3 := hid q3
        clear q1 q2 q3
        go_enter Tryd.func49, Tryd.ntmps49
        go_wp2_with (first | (go_at_call 50; refine (HT.out _).mono ?_; rintro e w1 ⟨rfl, rfl⟩) | (go_at_call 57; refine (HH.out _).mono ?_; rintro e w' ⟨rfl, rfl⟩) | (go_at_call 58; refine (rfits_any _ _ _).mono ?_; rintro e w' ⟨rfl, rfl⟩; first | rw [Q1.out] | rw [Q2.out] | rw [Q3.out]))
        exact bodyPost_ret (v := .tuple #[.agg #[.int .i64 0, .int .i64 0, .int .i64 0, .int .i64 0, .int .i64 0], .int .i64 61]) (by simp [results, Tryd.results49, go_sem]) rfl ⟨rfl, ((((((Gr.refl _).alloc _ _).alloc _ _).alloc _ _).alloc _ _).alloc _ _)⟩
      · rw [q1, q2, q3]
        simp only [Bool.and_self, if_true]
        have Q1 := hid q1
        have Q2 := hid q2
        have Q3 := hid q3
        clear q1 q2 q3
        go_enter Tryd.func49, Tryd.ntmps49
        go_wp2_with (first | (go_at_call 50; refine (HT.out _).mono ?_; rintro e w1 ⟨rfl, rfl⟩) | (go_at_call 57; refine (HH.out _).mono ?_; rintro e w' ⟨rfl, rfl⟩) | (go_at_call 58; refine (rfits_any _ _ _).mono ?_; rintro e w' ⟨rfl, rfl⟩; first | rw [Q1.out] | rw [Q2.out] | rw [Q3.out]))
        exact bodyPost_ret (v := .tuple #[.agg #[.int .i64 (k : Nat), .int .i64 a, .int .i64 b, .int .i64 l, .int .i64 0], .int .i64 0]) (by simp [results, Tryd.results49, go_sem]) rfl ⟨rfl, ((((((Gr.refl _).alloc _ _).alloc _ _).alloc _ _).alloc _ _).alloc _ _)⟩
set_option maxRecDepth 20000 in
set_option maxHeartbeats 4000000 in
theorem sdecode_s (k s : Nat) (n a b l x3 x4 : Int) (p1 p2 : Bool) (h1 : 1 ≤ k) (h2 : k < 59) (h3 : ¬ k < 30) (n0 : 0 ≤ n) (n1 : n < 4294967296) (hk : n / 16777216 = (k : Nat)) (ha : n / 1048576 % 16 = a) (_a0 : 0 ≤ a) (_a1 : a ≤ 15) (hb : n / 65536 % 16 = b) (_b0 : 0 ≤ b) (_b1 : b ≤ 15) (hl : n % 65536 = l) (_l0 : 0 ≤ l) (_l1 : l < 65536) (hs : sh k = s) (y1 : hA s = p1) (y2 : hB s = p2) (y3 : hC s = false) (y4 : fl s = x3) (y5 : fm s = x4) (hx : 0 < x4) (hy : x3 < 0) (hz : x4 < l) (w : World) :
    Calls Tryd.prog 49 #[.int .u32 n] w fun e w' => e = .returned (if regB a p1 && regB b p2 then .tuple #[.agg #[.int .i64 (k : Nat), .int .i64 a, .int .i64 b, .int .i64 0, .int .i64 (l - 65536)], .int .i64 0] else .tuple #[.agg #[.int .i64 0, .int .i64 0, .int .i64 0, .int .i64 0, .int .i64 0], .int .i64 61]) ∧ Gr w w' := by
  have HT := hid (fun (W : World) => table_at k h1 h2 W)
  simp only [tw_hi h3] at HT
  unfold rowV at HT
  rw [hs] at HT
  have HH := hid (fun (W : World) => has_all s (by rw [← hs]; exact sh_lt k) W)
  rw [y1, y2, y3, y4, y5] at HH
  clear hs y1 y2 y3 y4 y5 h3
  obtain ⟨r1, q1⟩ : ∃ r, regB a p1 = r := ⟨_, rfl⟩
  obtain ⟨r2, q2⟩ : ∃ r, regB b p2 = r := ⟨_, rfl⟩
  have q3 : regB 0 false = true := rfl
  cases r1
  · rw [q1]
    simp only [Bool.false_and, Bool.false_eq_true, if_false]
    have Q1 := hid q1
    have Q2 := hid q2
    have Q3 := hid q3
    clear q1 q2 q3
    go_enter Tryd.func49, Tryd.ntmps49
    go_wp2_with (first | (go_at_call 50; refine (HT.out _).mono ?_; rintro e w1 ⟨rfl, rfl⟩) | (go_at_call 57; refine (HH.out _).mono ?_; rintro e w' ⟨rfl, rfl⟩) | (go_at_call 58; refine (rfits_any _ _ _).mono ?_; rintro e w' ⟨rfl, rfl⟩; first | rw [Q1.out] | rw [Q2.out] | rw [Q3.out]))
    exact bodyPost_ret (v := .tuple #[.agg #[.int .i64 0, .int .i64 0, .int .i64 0, .int .i64 0, .int .i64 0], .int .i64 61]) (by simp [results, Tryd.results49, go_sem]) rfl ⟨rfl, ((((((Gr.refl _).alloc _ _).alloc _ _).alloc _ _).alloc _ _).alloc _ _)⟩
  · cases r2
    · rw [q1, q2]
      simp only [Bool.and_false, Bool.false_eq_true, if_false]
      have Q1 := hid q1
      have Q2 := hid q2
      have Q3 := hid q3
      clear q1 q2 q3
      go_enter Tryd.func49, Tryd.ntmps49
      go_wp2_with (first | (go_at_call 50; refine (HT.out _).mono ?_; rintro e w1 ⟨rfl, rfl⟩) | (go_at_call 57; refine (HH.out _).mono ?_; rintro e w' ⟨rfl, rfl⟩) | (go_at_call 58; refine (rfits_any _ _ _).mono ?_; rintro e w' ⟨rfl, rfl⟩; first | rw [Q1.out] | rw [Q2.out] | rw [Q3.out]))
      exact bodyPost_ret (v := .tuple #[.agg #[.int .i64 0, .int .i64 0, .int .i64 0, .int .i64 0, .int .i64 0], .int .i64 61]) (by simp [results, Tryd.results49, go_sem]) rfl ⟨rfl, ((((((Gr.refl _).alloc _ _).alloc _ _).alloc _ _).alloc _ _).alloc _ _)⟩
    · rw [q1, q2]
      simp only [Bool.and_self, if_true]
      have Q1 := hid q1
      have Q2 := hid q2
      have Q3 := hid q3
      clear q1 q2 q3
      go_enter Tryd.func49, Tryd.ntmps49
      go_wp2_with (first | (go_at_call 50; refine (HT.out _).mono ?_; rintro e w1 ⟨rfl, rfl⟩) | (go_at_call 57; refine (HH.out _).mono ?_; rintro e w' ⟨rfl, rfl⟩) | (go_at_call 58; refine (rfits_any _ _ _).mono ?_; rintro e w' ⟨rfl, rfl⟩; first | rw [Q1.out] | rw [Q2.out] | rw [Q3.out]))
      exact bodyPost_ret (v := .tuple #[.agg #[.int .i64 (k : Nat), .int .i64 a, .int .i64 b, .int .i64 0, .int .i64 (l - 65536)], .int .i64 0]) (by simp [results, Tryd.results49, go_sem]) rfl ⟨rfl, ((((((Gr.refl _).alloc _ _).alloc _ _).alloc _ _).alloc _ _).alloc _ _)⟩
set_option maxRecDepth 20000 in
set_option maxHeartbeats 4000000 in
theorem sdecode_p (k s : Nat) (n a b l x3 x4 : Int) (p1 p2 : Bool) (h1 : 1 ≤ k) (h2 : k < 59) (h3 : ¬ k < 30) (n0 : 0 ≤ n) (n1 : n < 4294967296) (hk : n / 16777216 = (k : Nat)) (ha : n / 1048576 % 16 = a) (_a0 : 0 ≤ a) (_a1 : a ≤ 15) (hb : n / 65536 % 16 = b) (_b0 : 0 ≤ b) (_b1 : b ≤ 15) (hl : n % 65536 = l) (_l0 : 0 ≤ l) (_l1 : l < 65536) (hs : sh k = s) (y1 : hA s = p1) (y2 : hB s = p2) (y3 : hC s = false) (y4 : fl s = x3) (y5 : fm s = x4) (hx : 0 < x4) (hy : x3 < 0) (hz : l ≤ x4) (w : World) :
    Calls Tryd.prog 49 #[.int .u32 n] w fun e w' => e = .returned (if regB a p1 && regB b p2 then .tuple #[.agg #[.int .i64 (k : Nat), .int .i64 a, .int .i64 b, .int .i64 0, .int .i64 l], .int .i64 0] else .tuple #[.agg #[.int .i64 0, .int .i64 0, .int .i64 0, .int .i64 0, .int .i64 0], .int .i64 61]) ∧ Gr w w' := by
  have HT := hid (fun (W : World) => table_at k h1 h2 W)
  simp only [tw_hi h3] at HT
  unfold rowV at HT
  rw [hs] at HT
  have HH := hid (fun (W : World) => has_all s (by rw [← hs]; exact sh_lt k) W)
  rw [y1, y2, y3, y4, y5] at HH
  clear hs y1 y2 y3 y4 y5 h3
  obtain ⟨r1, q1⟩ : ∃ r, regB a p1 = r := ⟨_, rfl⟩
  obtain ⟨r2, q2⟩ : ∃ r, regB b p2 = r := ⟨_, rfl⟩
  have q3 : regB 0 false = true := rfl
  cases r1
  · rw [q1]
    simp only [Bool.false_and, Bool.false_eq_true, if_false]
    have Q1 := hid q1
    have Q2 := hid q2
    have Q3 := hid q3
    clear q1 q2 q3
    go_enter Tryd.func49, Tryd.ntmps49
    go_wp2_with (first | (go_at_call 50; refine (HT.out _).mono ?_; rintro e w1 ⟨rfl, rfl⟩) | (go_at_call 57; refine (HH.out _).mono ?_; rintro e w' ⟨rfl, rfl⟩) | (go_at_call 58; refine (rfits_any _ _ _).mono ?_; rintro e w' ⟨rfl, rfl⟩; first | rw [Q1.out] | rw [Q2.out] | rw [Q3.out]))
    exact bodyPost_ret (v := .tuple #[.agg #[.int .i64 0, .int .i64 0, .int .i64 0, .int .i64 0, .int .i64 0], .int .i64 61]) (by simp [results, Tryd.results49, go_sem]) rfl ⟨rfl, ((((((Gr.refl _).alloc _ _).alloc _ _).alloc _ _).alloc _ _).alloc _ _)⟩
  · cases r2
    · rw [q1, q2]
      simp only [Bool.and_false, Bool.false_eq_true, if_false]
      have Q1 := hid q1
      have Q2 := hid q2
      have Q3 := hid q3
      clear q1 q2 q3
      go_enter Tryd.func49, Tryd.ntmps49
      go_wp2_with (first | (go_at_call 50; refine (HT.out _).mono ?_; rintro e w1 ⟨rfl, rfl⟩) | (go_at_call 57; refine (HH.out _).mono ?_; rintro e w' ⟨rfl, rfl⟩) | (go_at_call 58; refine (rfits_any _ _ _).mono ?_; rintro e w' ⟨rfl, rfl⟩; first | rw [Q1.out] | rw [Q2.out] | rw [Q3.out]))
      exact bodyPost_ret (v := .tuple #[.agg #[.int .i64 0, .int .i64 0, .int .i64 0, .int .i64 0, .int .i64 0], .int .i64 61]) (by simp [results, Tryd.results49, go_sem]) rfl ⟨rfl, ((((((Gr.refl _).alloc _ _).alloc _ _).alloc _ _).alloc _ _).alloc _ _)⟩
    · rw [q1, q2]
      simp only [Bool.and_self, if_true]
      have Q1 := hid q1
      have Q2 := hid q2
      have Q3 := hid q3
      clear q1 q2 q3
      go_enter Tryd.func49, Tryd.ntmps49
      go_wp2_with (first | (go_at_call 50; refine (HT.out _).mono ?_; rintro e w1 ⟨rfl, rfl⟩) | (go_at_call 57; refine (HH.out _).mono ?_; rintro e w' ⟨rfl, rfl⟩) | (go_at_call 58; refine (rfits_any _ _ _).mono ?_; rintro e w' ⟨rfl, rfl⟩; first | rw [Q1.out] | rw [Q2.out] | rw [Q3.out]))
      exact bodyPost_ret (v := .tuple #[.agg #[.int .i64 (k : Nat), .int .i64 a, .int .i64 b, .int .i64 0, .int .i64 l], .int .i64 0]) (by simp [results, Tryd.results49, go_sem]) rfl ⟨rfl, ((((((Gr.refl _).alloc _ _).alloc _ _).alloc _ _).alloc _ _).alloc _ _)⟩
set_option maxRecDepth 20000 in
set_option maxHeartbeats 4000000 in
theorem sdecode_i (k s : Nat) (n a b l x3 x4 : Int) (p1 p2 : Bool) (h1 : 1 ≤ k) (h2 : k < 59) (h3 : ¬ k < 30) (n0 : 0 ≤ n) (n1 : n < 4294967296) (hk : n / 16777216 = (k : Nat)) (ha : n / 1048576 % 16 = a) (_a0 : 0 ≤ a) (_a1 : a ≤ 15) (hb : n / 65536 % 16 = b) (_b0 : 0 ≤ b) (_b1 : b ≤ 15) (hl : n % 65536 = l) (_l0 : 0 ≤ l) (_l1 : l < 65536) (hs : sh k = s) (y1 : hA s = p1) (y2 : hB s = p2) (y3 : hC s = false) (y4 : fl s = x3) (y5 : fm s = x4) (hx : 0 < x4) (hy : 0 ≤ x3) (w : World) :
    Calls Tryd.prog 49 #[.int .u32 n] w fun e w' => e = .returned (if regB a p1 && regB b p2 then .tuple #[.agg #[.int .i64 (k : Nat), .int .i64 a, .int .i64 b, .int .i64 0, .int .i64 l], .int .i64 0] else .tuple #[.agg #[.int .i64 0, .int .i64 0, .int .i64 0, .int .i64 0, .int .i64 0], .int .i64 61]) ∧ Gr w w' := by
  have HT := hid (fun (W : World) => table_at k h1 h2 W)
  simp only [tw_hi h3] at HT
  unfold rowV at HT
  rw [hs] at HT
  have HH := hid (fun (W : World) => has_all s (by rw [← hs]; exact sh_lt k) W)
  rw [y1, y2, y3, y4, y5] at HH
  clear hs y1 y2 y3 y4 y5 h3
  obtain ⟨r1, q1⟩ : ∃ r, regB a p1 = r := ⟨_, rfl⟩
  obtain ⟨r2, q2⟩ : ∃ r, regB b p2 = r := ⟨_, rfl⟩
  have q3 : regB 0 false = true := rfl
  cases r1
  · rw [q1]
    simp only [Bool.false_and, Bool.false_eq_true, if_false]
    have Q1 := hid q1
    have Q2 := hid q2
    have Q3 := hid q3
    clear q1 q2 q3
    go_enter Tryd.func49, Tryd.ntmps49
    go_wp2_with (first | (go_at_call 50; refine (HT.out _).mono ?_; rintro e w1 ⟨rfl, rfl⟩) | (go_at_call 57; refine (HH.out _).mono ?_; rintro e w' ⟨rfl, rfl⟩) | (go_at_call 58; refine (rfits_any _ _ _).mono ?_; rintro e w' ⟨rfl, rfl⟩; first | rw [Q1.out] | rw [Q2.out] | rw [Q3.out]))
    exact bodyPost_ret (v := .tuple #[.agg #[.int .i64 0, .int .i64 0, .int .i64 0, .int .i64 0, .int .i64 0], .int .i64 61]) (by simp [results, Tryd.results49, go_sem]) rfl ⟨rfl, ((((((Gr.refl _).alloc _ _).alloc _ _).alloc _ _).alloc _ _).alloc _ _)⟩
  · cases r2
    · rw [q1, q2]
      simp only [Bool.and_false, Bool.false_eq_true, if_false]
      have Q1 := hid q1
      have Q2 := hid q2
      have Q3 := hid q3
      clear q1 q2 q3
      go_enter Tryd.func49, Tryd.ntmps49
      go_wp2_with (first | (go_at_call 50; refine (HT.out _).mono ?_; rintro e w1 ⟨rfl, rfl⟩) | (go_at_call 57; refine (HH.out _).mono ?_; rintro e w' ⟨rfl, rfl⟩) | (go_at_call 58; refine (rfits_any _ _ _).mono ?_; rintro e w' ⟨rfl, rfl⟩; first | rw [Q1.out] | rw [Q2.out] | rw [Q3.out]))
      exact bodyPost_ret (v := .tuple #[.agg #[.int .i64 0, .int .i64 0, .int .i64 0, .int .i64 0, .int .i64 0], .int .i64 61]) (by simp [results, Tryd.results49, go_sem]) rfl ⟨rfl, ((((((Gr.refl _).alloc _ _).alloc _ _).alloc _ _).alloc _ _).alloc _ _)⟩
    · rw [q1, q2]
      simp only [Bool.and_self, if_true]
      have Q1 := hid q1
      have Q2 := hid q2
      have Q3 := hid q3
      clear q1 q2 q3
      go_enter Tryd.func49, Tryd.ntmps49
      go_wp2_with (first | (go_at_call 50; refine (HT.out _).mono ?_; rintro e w1 ⟨rfl, rfl⟩) | (go_at_call 57; refine (HH.out _).mono ?_; rintro e w' ⟨rfl, rfl⟩) | (go_at_call 58; refine (rfits_any _ _ _).mono ?_; rintro e w' ⟨rfl, rfl⟩; first | rw [Q1.out] | rw [Q2.out] | rw [Q3.out]))
      exact bodyPost_ret (v := .tuple #[.agg #[.int .i64 (k : Nat), .int .i64 a, .int .i64 b, .int .i64 0, .int .i64 l], .int .i64 0]) (by simp [results, Tryd.results49, go_sem]) rfl ⟨rfl, ((((((Gr.refl _).alloc _ _).alloc _ _).alloc _ _).alloc _ _).alloc _ _)⟩
set_option maxRecDepth 20000 in
set_option maxHeartbeats 4000000 in
theorem sdecode_z (k s : Nat) (n a b l x3 x4 : Int) (p1 p2 : Bool) (h1 : 1 ≤ k) (h2 : k < 59) (h3 : ¬ k < 30) (n0 : 0 ≤ n) (n1 : n < 4294967296) (hk : n / 16777216 = (k : Nat)) (ha : n / 1048576 % 16 = a) (_a0 : 0 ≤ a) (_a1 : a ≤ 15) (hb : n / 65536 % 16 = b) (_b0 : 0 ≤ b) (_b1 : b ≤ 15) (hl : n % 65536 = l) (_l0 : 0 ≤ l) (_l1 : l < 65536) (hs : sh k = s) (y1 : hA s = p1) (y2 : hB s = p2) (y3 : hC s = false) (y4 : fl s = x3) (y5 : fm s = x4) (hx : x4 ≤ 0) (hz : (l == 0) = true) (w : World) :
    Calls Tryd.prog 49 #[.int .u32 n] w fun e w' => e = .returned (if regB a p1 && regB b p2 then .tuple #[.agg #[.int .i64 (k : Nat), .int .i64 a, .int .i64 b, .int .i64 0, .int .i64 0], .int .i64 0] else .tuple #[.agg #[.int .i64 0, .int .i64 0, .int .i64 0, .int .i64 0, .int .i64 0], .int .i64 61]) ∧ Gr w w' := by
  have HT := hid (fun (W : World) => table_at k h1 h2 W)
  simp only [tw_hi h3] at HT
  unfold rowV at HT
  rw [hs] at HT
  have HH := hid (fun (W : World) => has_all s (by rw [← hs]; exact sh_lt k) W)
  rw [y1, y2, y3, y4, y5] at HH
  clear hs y1 y2 y3 y4 y5 h3
  obtain ⟨r1, q1⟩ : ∃ r, regB a p1 = r := ⟨_, rfl⟩
  obtain ⟨r2, q2⟩ : ∃ r, regB b p2 = r := ⟨_, rfl⟩
  have q3 : regB 0 false = true := rfl
  cases r1
  · rw [q1]
    simp only [Bool.false_and, Bool.false_eq_true, if_false]
    have Q1 := hid q1
    have Q2 := hid q2
    have Q3 := hid q3
    clear q1 q2 q3
    go_enter Tryd.func49, Tryd.ntmps49
    go_wp2_with (first | (go_at_call 50; refine (HT.out _).mono ?_; rintro e w1 ⟨rfl, rfl⟩) | (go_at_call 57; refine (HH.out _).mono ?_; rintro e w' ⟨rfl, rfl⟩) | (go_at_call 58; refine (rfits_any _ _ _).mono ?_; rintro e w' ⟨rfl, rfl⟩; first | rw [Q1.out] | rw [Q2.out] | rw [Q3.out]))
    exact bodyPost_ret (v := .tuple #[.agg #[.int .i64 0, .int .i64 0, .int .i64 0, .int .i64 0, .int .i64 0], .int .i64 61]) (by simp [results, Tryd.results49, go_sem]) rfl ⟨rfl, ((((((Gr.refl _).alloc _ _).alloc _ _).alloc _ _).alloc _ _).alloc _ _)⟩
  · cases r2
    · rw [q1, q2]
      simp only [Bool.and_false, Bool.false_eq_true, if_false]
      have Q1 := hid q1
      have Q2 := hid q2
      have Q3 := hid q3
      clear q1 q2 q3
      go_enter Tryd.func49, Tryd.ntmps49
      go_wp2_with (first | (go_at_call 50; refine (HT.out _).mono ?_; rintro e w1 ⟨rfl, rfl⟩) | (go_at_call 57; refine (HH.out _).mono ?_; rintro e w' ⟨rfl, rfl⟩) | (go_at_call 58; refine (rfits_any _ _ _).mono ?_; rintro e w' ⟨rfl, rfl⟩; first | rw [Q1.out] | rw [Q2.out] | rw [Q3.out]))
      exact bodyPost_ret (v := .tuple #[.agg #[.int .i64 0, .int .i64 0, .int .i64 0, .int .i64 0, .int .i64 0], .int .i64 61]) (by simp [results, Tryd.results49, go_sem]) rfl ⟨rfl, ((((((Gr.refl _).alloc _ _).alloc _ _).alloc _ _).alloc _ _).alloc _ _)⟩
    · rw [q1, q2]
      simp only [Bool.and_self, if_true]
      have Q1 := hid q1
      have Q2 := hid q2
      have Q3 := hid q3
      clear q1 q2 q3
      go_enter Tryd.func49, Tryd.ntmps49
      go_wp2_with (first | (go_at_call 50; refine (HT.out _).mono ?_; rintro e w1 ⟨rfl, rfl⟩) | (go_at_call 57; refine (HH.out _).mono ?_; rintro e w' ⟨rfl, rfl⟩) | (go_at_call 58; refine (rfits_any _ _ _).mono ?_; rintro e w' ⟨rfl, rfl⟩; first | rw [Q1.out] | rw [Q2.out] | rw [Q3.out]))
      exact bodyPost_ret (v := .tuple #[.agg #[.int .i64 (k : Nat), .int .i64 a, .int .i64 b, .int .i64 0, .int .i64 0], .int .i64 0]) (by simp [results, Tryd.results49, go_sem]) rfl ⟨rfl, ((((((Gr.refl _).alloc _ _).alloc _ _).alloc _ _).alloc _ _).alloc _ _)⟩
set_option maxRecDepth 20000 in
set_option maxHeartbeats 4000000 in
theorem sdecode_e (k s : Nat) (n a b l x3 x4 : Int) (p1 p2 : Bool) (h1 : 1 ≤ k) (h2 : k < 59) (h3 : ¬ k < 30) (n0 : 0 ≤ n) (n1 : n < 4294967296) (hk : n / 16777216 = (k : Nat)) (ha : n / 1048576 % 16 = a) (_a0 : 0 ≤ a) (_a1 : a ≤ 15) (hb : n / 65536 % 16 = b) (_b0 : 0 ≤ b) (_b1 : b ≤ 15) (hl : n % 65536 = l) (_l0 : 0 ≤ l) (_l1 : l < 65536) (hs : sh k = s) (y1 : hA s = p1) (y2 : hB s = p2) (y3 : hC s = false) (y4 : fl s = x3) (y5 : fm s = x4) (hx : x4 ≤ 0) (hz : (l == 0) = false) (w : World) :
    Calls Tryd.prog 49 #[.int .u32 n] w fun e w' => e = .returned (.tuple #[.agg #[.int .i64 0, .int .i64 0, .int .i64 0, .int .i64 0, .int .i64 0], .int .i64 61]) ∧ Gr w w' := by
  have HT := hid (fun (W : World) => table_at k h1 h2 W)
  simp only [tw_hi h3] at HT
  unfold rowV at HT
  rw [hs] at HT
  have HH := hid (fun (W : World) => has_all s (by rw [← hs]; exact sh_lt k) W)
  rw [y1, y2, y3, y4, y5] at HH
  clear hs y1 y2 y3 y4 y5 h3
  obtain ⟨r1, q1⟩ : ∃ r, regB a p1 = r := ⟨_, rfl⟩
  obtain ⟨r2, q2⟩ : ∃ r, regB b p2 = r := ⟨_, rfl⟩
  have q3 : regB 0 false = true := rfl
  have Q1 := hid q1
  have Q2 := hid q2
  have Q3 := hid q3
  clear q1 q2 q3
  go_enter Tryd.func49, Tryd.ntmps49
  go_wp2_with (first | (go_at_call 50; refine (HT.out _).mono ?_; rintro e w1 ⟨rfl, rfl⟩) | (go_at_call 57; refine (HH.out _).mono ?_; rintro e w' ⟨rfl, rfl⟩) | (go_at_call 58; refine (rfits_any _ _ _).mono ?_; rintro e w' ⟨rfl, rfl⟩; first | rw [Q1.out] | rw [Q2.out] | rw [Q3.out]))
  exact bodyPost_ret (v := .tuple #[.agg #[.int .i64 0, .int .i64 0, .int .i64 0, .int .i64 0, .int .i64 0], .int .i64 61]) (by simp [results, Tryd.results49, go_sem]) rfl ⟨rfl, ((((((Gr.refl _).alloc _ _).alloc _ _).alloc _ _).alloc _ _).alloc _ _)⟩
end Go.Proofs.YtcdlhfodeckleaaDoor.Wd
