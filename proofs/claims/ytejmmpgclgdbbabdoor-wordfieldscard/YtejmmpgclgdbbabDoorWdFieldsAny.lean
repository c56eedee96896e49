/-
  WordFields' walk, as one. Condition: the tables lie where they lie.
-/
import Derived.Test.YtejmmpgclgdbbabDoorWdFields
namespace Go.Proofs.YtejmmpgclgdbbabDoor.Wd
open Go.RowKit

theorem neq5 (o a b c m a' b' c' m' : Int) (h : a' ≠ a ∨ b' ≠ b ∨ c' ≠ c ∨ m' ≠ m) : ∀ w : World, (binOp .neq 24 (.agg #[.int .i64 o, .int .i64 a', .int .i64 b', .int .i64 c', .int .i64 m']) (.agg #[.int .i64 o, .int .i64 a, .int .i64 b, .int .i64 c, .int .i64 m])).run Tryd.prog w = .ok (.bool true) w := by
  intro w
  go_simp
  omega

set_option maxRecDepth 20000 in
theorem fields_bad (n bit x : Int) (hx : x = 60 ∨ x = 61) (w : World) (hn : Nums w) (hf : Forms w) (hd : Calls Tryd.prog 7 #[.int .u32 n] w fun e w' => e = .returned (.tuple #[.agg #[.int .i64 0, .int .i64 0, .int .i64 0, .int .i64 0, .int .i64 0], .int .i64 x]) ∧ Gr w w') :
    Calls Tryd.prog 6 #[.int .u32 n, .int .u8 bit] w fun e w' => e = .returned (.bool true) ∧ Gr w w' := by
  have HN := hid hn
  have HF := hid hf
  have HD := hid hd
  have hx' : (x == 0) = false := by simp; omega
  clear hn hf hd hx
  go_enter Tryd.func6, Tryd.ntmps6
  go_wp2_with fail
  refine HD.out.mono ?_
  rintro e w1 ⟨rfl, g⟩
  have HG := hid g
  clear g
  go_wp2_with fail
  refine (awake_any _ (HN.out.gr (Ch.alloc HG.out _)) (HF.out.gr (Ch.alloc HG.out _))).mono ?_
  rintro e w2 ⟨rfl, g⟩
  go_wp2
  go_ret
  exact ⟨rfl, Gr.trans (Ch.alloc HG.out _) g⟩

theorem fields_any (x bit : Int) (w : World) (hx : 0 ≤ x ∧ x < 4294967296) (hb : 0 ≤ bit ∧ bit < 256) (hn : Nums w) (hf : Forms w) :
    Calls Tryd.prog 6 #[.int .u32 x, .int .u8 bit] w fun e w' => e = .returned (.bool true) ∧ Gr w w' := by
  obtain ⟨x0, x1⟩ := hx
  rcases kn_cases (x / 16777216) with h | ⟨k, h1, h2, hk⟩
  · exact fields_bad x bit 60 (.inl rfl) w hn hf (decode_no x x0 x1 h w)
  cases hq : fit (sh k) (dA x) (dB x) (dC (sh k) x) (dM (sh k) x) with
  | false =>
    have D := decode_yes k x h1 h2 x0 x1 hk w hn hf
    rw [hq] at D
    exact fields_bad x bit 61 (.inr rfl) w hn hf D
  | true =>
  have D1 := fun (W : World) (p : Nums W) (q : Forms W) => decode_yes k x h1 h2 x0 x1 hk W p q
  obtain ⟨N, hN⟩ : ∃ N : Nat, bit % 24 = (N : Int) := ⟨(bit % 24).toNat, by omega⟩
  have hN24 : N < 24 := by omega
  have t1 : bit.tmod 24 = (N : Nat) := by rw [Int.tmod_eq_emod_of_nonneg (by omega)]; exact hN
  have t2 : bit % 24 = (N : Nat) := hN
  have t3 : IntKind.u8.wrap ((N : Nat) : Int) = (N : Nat) := by rw [IntKind.wrap_u8]; omega
  obtain ⟨y, hxy, T⟩ := turned x N hN24 x0 x1
  have hp : IntKind.u32.wrap (2 ^ ((N : Nat) : Int).toNat) = ((2 ^ N : Nat) : Int) := by
    have h : 2 ^ N < 2 ^ 32 := Nat.pow_lt_pow_right (by omega) (by omega)
    rw [IntKind.wrap_u32, Int.toNat_natCast]
    have e : ((2 : Int) ^ N) = ((2 ^ N : Nat) : Int) := by simp
    rw [e]
    generalize 2 ^ N = M at h
    omega
  have y0 := T.y0
  have y1 := T.y1
  have D2 := fun (W : World) (p : Nums W) (q : Forms W) => decode_yes k y h1 h2 y0 y1 (T.op.trans hk) W p q
  simp only [hq] at D1
  have hs7 := sh_lt k
  obtain ⟨s, hs⟩ : ∃ s, sh k = s := ⟨_, rfl⟩
  rw [hs] at hs7 hq D1 D2
  have ya : 0 ≤ dA y ∧ dA y ≤ 15 := by unfold dA; omega
  have yb : 0 ≤ dB y ∧ dB y ≤ 15 := by unfold dB; omega
  match s, hs7, hs with
  | 0, _, hs =>
    have e1 : ∀ z, dC 0 z = 0 := fun z => by simp [dC, lowC, fc]
    have e2 : ∀ z, dM 0 z = z % 65536 := fun z => by simp [dM, lowM, fc, fl]
    have F := of_decide_eq_true (show fitB (fa 0) (fb 0) (fc 0) (fl 0) (fm 0) (dA x) (dB x) (dC 0 x) (dM 0 x) = true from hq)
    simp only [e1, e2, fa, fb, fc, fl, fm] at F
    have HH := fun (W : World) => has_all 0 (by omega) W
    simp only [e1, e2] at D1 D2
    by_cases r1 : 20 ≤ N
    · obtain ⟨ta, tb, tl⟩ := T.a r1
      have q : fit 0 (dA y) (dB y) (dC 0 y) (dM 0 y) = false := by
        unfold fit fitB
        simp only [e1, e2, fa, fb, fc, fl, fm, decide_eq_false_iff_not]
        omega
      simp only [e1, e2] at q
      rw [q] at D2
      exact fw_af k 0 x y bit (N : Nat) _ _ _ _ _ _ _ _ _ _ h1 h2 t1 t2 t3 (by omega) (by omega) hp hxy hs D1 D2 HH (by omega) rfl w hn hf
    · by_cases r2 : 16 ≤ N
      · obtain ⟨ta, tb, tl⟩ := T.b r2 (by omega)
        have q : fit 0 (dA y) (dB y) (dC 0 y) (dM 0 y) = false := by
          unfold fit fitB
          simp only [e1, e2, fa, fb, fc, fl, fm, decide_eq_false_iff_not]
          omega
        simp only [e1, e2] at q
        rw [q] at D2
        exact fw_bf k 0 x y bit (N : Nat) _ _ _ _ _ _ _ _ _ _ h1 h2 t1 t2 t3 (by omega) (by omega) hp hxy hs D1 D2 HH (by omega) (by omega) rfl w hn hf
      · by_cases r3 : 4 ≤ N
        · obtain ⟨ta, tb, tl, tm⟩ := T.h r3 (by omega)
          have q : fit 0 (dA y) (dB y) (dC 0 y) (dM 0 y) = false := by
            unfold fit fitB
            simp only [e1, e2, fa, fb, fc, fl, fm, decide_eq_false_iff_not]
            omega
          simp only [e1, e2] at q
          rw [q] at D2
          exact fw_hf k 0 x y bit (N : Nat) _ _ _ _ _ _ _ _ _ _ h1 h2 t1 t2 t3 (by omega) (by omega) hp hxy hs D1 D2 HH (by omega) (by omega) (by simp only [fm]; omega) w hn hf
        · obtain ⟨ta, tb, tl, tm⟩ := T.l (by omega)
          have q : fit 0 (dA y) (dB y) (dC 0 y) (dM 0 y) = false := by
            unfold fit fitB
            simp only [e1, e2, fa, fb, fc, fl, fm, decide_eq_false_iff_not]
            omega
          simp only [e1, e2] at q
          rw [q] at D2
          exact fw_lf k 0 x y bit (N : Nat) _ _ _ _ _ _ _ _ _ _ h1 h2 t1 t2 t3 (by omega) (by omega) hp hxy hs D1 D2 HH (by omega) rfl (by simp only [fm]; omega) w hn hf
  | 1, _, hs =>
    have e1 : ∀ z, dC 1 z = 0 := fun z => by simp [dC, lowC, fc]
    have e2 : ∀ z, dM 1 z = z % 65536 := fun z => by simp [dM, lowM, fc, fl]
    have F := of_decide_eq_true (show fitB (fa 1) (fb 1) (fc 1) (fl 1) (fm 1) (dA x) (dB x) (dC 1 x) (dM 1 x) = true from hq)
    simp only [e1, e2, fa, fb, fc, fl, fm] at F
    have HH := fun (W : World) => has_all 1 (by omega) W
    simp only [e1, e2] at D1 D2
    by_cases r1 : 20 ≤ N
    · obtain ⟨ta, tb, tl⟩ := T.a r1
      have q : fit 1 (dA y) (dB y) (dC 1 y) (dM 1 y) = true := by
        unfold fit fitB
        simp only [e1, e2, fa, fb, fc, fl, fm, decide_eq_true_eq]
        omega
      simp only [e1, e2] at q
      rw [q] at D2
      exact fw_at k 1 x y bit (N : Nat) _ _ _ _ _ _ _ _ _ _ _ _ _ _ h1 h2 t1 t2 t3 (by omega) (by omega) hp hxy hs D1 D2 HH (neq5 _ _ _ _ _ _ _ _ _ (by omega)) (by omega) rfl w hn hf
    · by_cases r2 : 16 ≤ N
      · obtain ⟨ta, tb, tl⟩ := T.b r2 (by omega)
        have q : fit 1 (dA y) (dB y) (dC 1 y) (dM 1 y) = false := by
          unfold fit fitB
          simp only [e1, e2, fa, fb, fc, fl, fm, decide_eq_false_iff_not]
          omega
        simp only [e1, e2] at q
        rw [q] at D2
        exact fw_bf k 1 x y bit (N : Nat) _ _ _ _ _ _ _ _ _ _ h1 h2 t1 t2 t3 (by omega) (by omega) hp hxy hs D1 D2 HH (by omega) (by omega) rfl w hn hf
      · by_cases r3 : 4 ≤ N
        · obtain ⟨ta, tb, tl, tm⟩ := T.h r3 (by omega)
          have q : fit 1 (dA y) (dB y) (dC 1 y) (dM 1 y) = false := by
            unfold fit fitB
            simp only [e1, e2, fa, fb, fc, fl, fm, decide_eq_false_iff_not]
            omega
          simp only [e1, e2] at q
          rw [q] at D2
          exact fw_hf k 1 x y bit (N : Nat) _ _ _ _ _ _ _ _ _ _ h1 h2 t1 t2 t3 (by omega) (by omega) hp hxy hs D1 D2 HH (by omega) (by omega) (by simp only [fm]; omega) w hn hf
        · obtain ⟨ta, tb, tl, tm⟩ := T.l (by omega)
          have q : fit 1 (dA y) (dB y) (dC 1 y) (dM 1 y) = false := by
            unfold fit fitB
            simp only [e1, e2, fa, fb, fc, fl, fm, decide_eq_false_iff_not]
            omega
          simp only [e1, e2] at q
          rw [q] at D2
          exact fw_lf k 1 x y bit (N : Nat) _ _ _ _ _ _ _ _ _ _ h1 h2 t1 t2 t3 (by omega) (by omega) hp hxy hs D1 D2 HH (by omega) rfl (by simp only [fm]; omega) w hn hf
  | 2, _, hs =>
    have e1 : ∀ z, dC 2 z = 0 := fun z => by simp [dC, lowC, fc]
    have e2 : ∀ z, dM 2 z = z % 65536 := fun z => by simp [dM, lowM, fc, fl]
    have F := of_decide_eq_true (show fitB (fa 2) (fb 2) (fc 2) (fl 2) (fm 2) (dA x) (dB x) (dC 2 x) (dM 2 x) = true from hq)
    simp only [e1, e2, fa, fb, fc, fl, fm] at F
    have HH := fun (W : World) => has_all 2 (by omega) W
    simp only [e1, e2] at D1 D2
    by_cases r1 : 20 ≤ N
    · obtain ⟨ta, tb, tl⟩ := T.a r1
      have q : fit 2 (dA y) (dB y) (dC 2 y) (dM 2 y) = true := by
        unfold fit fitB
        simp only [e1, e2, fa, fb, fc, fl, fm, decide_eq_true_eq]
        omega
      simp only [e1, e2] at q
      rw [q] at D2
      exact fw_at k 2 x y bit (N : Nat) _ _ _ _ _ _ _ _ _ _ _ _ _ _ h1 h2 t1 t2 t3 (by omega) (by omega) hp hxy hs D1 D2 HH (neq5 _ _ _ _ _ _ _ _ _ (by omega)) (by omega) rfl w hn hf
    · by_cases r2 : 16 ≤ N
      · obtain ⟨ta, tb, tl⟩ := T.b r2 (by omega)
        have q : fit 2 (dA y) (dB y) (dC 2 y) (dM 2 y) = true := by
          unfold fit fitB
          simp only [e1, e2, fa, fb, fc, fl, fm, decide_eq_true_eq]
          omega
        simp only [e1, e2] at q
        rw [q] at D2
        exact fw_bt k 2 x y bit (N : Nat) _ _ _ _ _ _ _ _ _ _ _ _ _ _ h1 h2 t1 t2 t3 (by omega) (by omega) hp hxy hs D1 D2 HH (neq5 _ _ _ _ _ _ _ _ _ (by omega)) (by omega) (by omega) rfl w hn hf
      · by_cases r3 : 4 ≤ N
        · obtain ⟨ta, tb, tl, tm⟩ := T.h r3 (by omega)
          have q : fit 2 (dA y) (dB y) (dC 2 y) (dM 2 y) = false := by
            unfold fit fitB
            simp only [e1, e2, fa, fb, fc, fl, fm, decide_eq_false_iff_not]
            omega
          simp only [e1, e2] at q
          rw [q] at D2
          exact fw_hf k 2 x y bit (N : Nat) _ _ _ _ _ _ _ _ _ _ h1 h2 t1 t2 t3 (by omega) (by omega) hp hxy hs D1 D2 HH (by omega) (by omega) (by simp only [fm]; omega) w hn hf
        · obtain ⟨ta, tb, tl, tm⟩ := T.l (by omega)
          have q : fit 2 (dA y) (dB y) (dC 2 y) (dM 2 y) = false := by
            unfold fit fitB
            simp only [e1, e2, fa, fb, fc, fl, fm, decide_eq_false_iff_not]
            omega
          simp only [e1, e2] at q
          rw [q] at D2
          exact fw_lf k 2 x y bit (N : Nat) _ _ _ _ _ _ _ _ _ _ h1 h2 t1 t2 t3 (by omega) (by omega) hp hxy hs D1 D2 HH (by omega) rfl (by simp only [fm]; omega) w hn hf
  | 3, _, hs =>
    have e1 : ∀ z, dC 3 z = z % 65536 := fun z => by simp [dC, lowC, fc]
    have e2 : ∀ z, dM 3 z = 0 := fun z => by simp [dM, lowM, fc]
    have F := of_decide_eq_true (show fitB (fa 3) (fb 3) (fc 3) (fl 3) (fm 3) (dA x) (dB x) (dC 3 x) (dM 3 x) = true from hq)
    simp only [e1, e2, fa, fb, fc, fl, fm] at F
    have HH := fun (W : World) => has_all 3 (by omega) W
    simp only [e1, e2] at D1 D2
    by_cases r1 : 20 ≤ N
    · obtain ⟨ta, tb, tl⟩ := T.a r1
      have q : fit 3 (dA y) (dB y) (dC 3 y) (dM 3 y) = true := by
        unfold fit fitB
        simp only [e1, e2, fa, fb, fc, fl, fm, decide_eq_true_eq]
        omega
      simp only [e1, e2] at q
      rw [q] at D2
      exact fw_at k 3 x y bit (N : Nat) _ _ _ _ _ _ _ _ _ _ _ _ _ _ h1 h2 t1 t2 t3 (by omega) (by omega) hp hxy hs D1 D2 HH (neq5 _ _ _ _ _ _ _ _ _ (by omega)) (by omega) rfl w hn hf
    · by_cases r2 : 16 ≤ N
      · obtain ⟨ta, tb, tl⟩ := T.b r2 (by omega)
        have q : fit 3 (dA y) (dB y) (dC 3 y) (dM 3 y) = true := by
          unfold fit fitB
          simp only [e1, e2, fa, fb, fc, fl, fm, decide_eq_true_eq]
          omega
        simp only [e1, e2] at q
        rw [q] at D2
        exact fw_bt k 3 x y bit (N : Nat) _ _ _ _ _ _ _ _ _ _ _ _ _ _ h1 h2 t1 t2 t3 (by omega) (by omega) hp hxy hs D1 D2 HH (neq5 _ _ _ _ _ _ _ _ _ (by omega)) (by omega) (by omega) rfl w hn hf
      · by_cases r3 : 4 ≤ N
        · obtain ⟨ta, tb, tl, tm⟩ := T.h r3 (by omega)
          have q : fit 3 (dA y) (dB y) (dC 3 y) (dM 3 y) = false := by
            unfold fit fitB
            simp only [e1, e2, fa, fb, fc, fl, fm, decide_eq_false_iff_not]
            omega
          simp only [e1, e2] at q
          rw [q] at D2
          exact fw_hf k 3 x y bit (N : Nat) _ _ _ _ _ _ _ _ _ _ h1 h2 t1 t2 t3 (by omega) (by omega) hp hxy hs D1 D2 HH (by omega) (by omega) (by simp only [fm]; omega) w hn hf
        · obtain ⟨ta, tb, tl, tm⟩ := T.l (by omega)
          have q : fit 3 (dA y) (dB y) (dC 3 y) (dM 3 y) = true := by
            unfold fit fitB
            simp only [e1, e2, fa, fb, fc, fl, fm, decide_eq_true_eq]
            omega
          simp only [e1, e2] at q
          rw [q] at D2
          exact fw_lc k 3 x y bit (N : Nat) _ _ _ _ _ _ _ _ _ _ _ _ _ _ h1 h2 t1 t2 t3 (by omega) (by omega) hp hxy hs D1 D2 HH (neq5 _ _ _ _ _ _ _ _ _ (by omega)) (by omega) rfl w hn hf
  | 4, _, hs =>
    have e1 : ∀ z, dC 4 z = 0 := fun z => by simp [dC, lowC, fc]
    have e2 : ∀ z, dM 4 z = z % 65536 := fun z => by simp [dM, lowM, fc, fl]
    have F := of_decide_eq_true (show fitB (fa 4) (fb 4) (fc 4) (fl 4) (fm 4) (dA x) (dB x) (dC 4 x) (dM 4 x) = true from hq)
    simp only [e1, e2, fa, fb, fc, fl, fm] at F
    have HH := fun (W : World) => has_all 4 (by omega) W
    simp only [e1, e2] at D1 D2
    by_cases r1 : 20 ≤ N
    · obtain ⟨ta, tb, tl⟩ := T.a r1
      have q : fit 4 (dA y) (dB y) (dC 4 y) (dM 4 y) = false := by
        unfold fit fitB
        simp only [e1, e2, fa, fb, fc, fl, fm, decide_eq_false_iff_not]
        omega
      simp only [e1, e2] at q
      rw [q] at D2
      exact fw_af k 4 x y bit (N : Nat) _ _ _ _ _ _ _ _ _ _ h1 h2 t1 t2 t3 (by omega) (by omega) hp hxy hs D1 D2 HH (by omega) rfl w hn hf
    · by_cases r2 : 16 ≤ N
      · obtain ⟨ta, tb, tl⟩ := T.b r2 (by omega)
        have q : fit 4 (dA y) (dB y) (dC 4 y) (dM 4 y) = false := by
          unfold fit fitB
          simp only [e1, e2, fa, fb, fc, fl, fm, decide_eq_false_iff_not]
          omega
        simp only [e1, e2] at q
        rw [q] at D2
        exact fw_bf k 4 x y bit (N : Nat) _ _ _ _ _ _ _ _ _ _ h1 h2 t1 t2 t3 (by omega) (by omega) hp hxy hs D1 D2 HH (by omega) (by omega) rfl w hn hf
      · by_cases r3 : 4 ≤ N
        · obtain ⟨ta, tb, tl, tm⟩ := T.h r3 (by omega)
          have q : fit 4 (dA y) (dB y) (dC 4 y) (dM 4 y) = true := by
            unfold fit fitB
            simp only [e1, e2, fa, fb, fc, fl, fm, decide_eq_true_eq]
            omega
          simp only [e1, e2] at q
          rw [q] at D2
          exact fw_ht k 4 x y bit (N : Nat) _ _ _ _ _ _ _ _ _ _ _ _ _ _ h1 h2 t1 t2 t3 (by omega) (by omega) hp hxy hs D1 D2 HH (neq5 _ _ _ _ _ _ _ _ _ (by omega)) (by omega) (by omega) (by simp only [fm]; omega) w hn hf
        · obtain ⟨ta, tb, tl, tm⟩ := T.l (by omega)
          have q : fit 4 (dA y) (dB y) (dC 4 y) (dM 4 y) = true := by
            unfold fit fitB
            simp only [e1, e2, fa, fb, fc, fl, fm, decide_eq_true_eq]
            omega
          simp only [e1, e2] at q
          rw [q] at D2
          exact fw_lh k 4 x y bit (N : Nat) _ _ _ _ _ _ _ _ _ _ _ _ _ _ h1 h2 t1 t2 t3 (by omega) (by omega) hp hxy hs D1 D2 HH (neq5 _ _ _ _ _ _ _ _ _ (by omega)) (by omega) rfl (by simp only [fm]; omega) w hn hf
  | 5, _, hs =>
    have e1 : ∀ z, dC 5 z = 0 := fun z => by simp [dC, lowC, fc]
    have e2 : ∀ z, dM 5 z = z % 65536 := fun z => by simp [dM, lowM, fc, fl]
    have F := of_decide_eq_true (show fitB (fa 5) (fb 5) (fc 5) (fl 5) (fm 5) (dA x) (dB x) (dC 5 x) (dM 5 x) = true from hq)
    simp only [e1, e2, fa, fb, fc, fl, fm] at F
    have HH := fun (W : World) => has_all 5 (by omega) W
    simp only [e1, e2] at D1 D2
    by_cases r1 : 20 ≤ N
    · obtain ⟨ta, tb, tl⟩ := T.a r1
      have q : fit 5 (dA y) (dB y) (dC 5 y) (dM 5 y) = true := by
        unfold fit fitB
        simp only [e1, e2, fa, fb, fc, fl, fm, decide_eq_true_eq]
        omega
      simp only [e1, e2] at q
      rw [q] at D2
      exact fw_at k 5 x y bit (N : Nat) _ _ _ _ _ _ _ _ _ _ _ _ _ _ h1 h2 t1 t2 t3 (by omega) (by omega) hp hxy hs D1 D2 HH (neq5 _ _ _ _ _ _ _ _ _ (by omega)) (by omega) rfl w hn hf
    · by_cases r2 : 16 ≤ N
      · obtain ⟨ta, tb, tl⟩ := T.b r2 (by omega)
        have q : fit 5 (dA y) (dB y) (dC 5 y) (dM 5 y) = false := by
          unfold fit fitB
          simp only [e1, e2, fa, fb, fc, fl, fm, decide_eq_false_iff_not]
          omega
        simp only [e1, e2] at q
        rw [q] at D2
        exact fw_bf k 5 x y bit (N : Nat) _ _ _ _ _ _ _ _ _ _ h1 h2 t1 t2 t3 (by omega) (by omega) hp hxy hs D1 D2 HH (by omega) (by omega) rfl w hn hf
      · by_cases r3 : 4 ≤ N
        · obtain ⟨ta, tb, tl, tm⟩ := T.h r3 (by omega)
          have q : fit 5 (dA y) (dB y) (dC 5 y) (dM 5 y) = true := by
            unfold fit fitB
            simp only [e1, e2, fa, fb, fc, fl, fm, decide_eq_true_eq]
            omega
          simp only [e1, e2] at q
          rw [q] at D2
          exact fw_ht k 5 x y bit (N : Nat) _ _ _ _ _ _ _ _ _ _ _ _ _ _ h1 h2 t1 t2 t3 (by omega) (by omega) hp hxy hs D1 D2 HH (neq5 _ _ _ _ _ _ _ _ _ (by omega)) (by omega) (by omega) (by simp only [fm]; omega) w hn hf
        · obtain ⟨ta, tb, tl, tm⟩ := T.l (by omega)
          have q : fit 5 (dA y) (dB y) (dC 5 y) (dM 5 y) = true := by
            unfold fit fitB
            simp only [e1, e2, fa, fb, fc, fl, fm, decide_eq_true_eq]
            omega
          simp only [e1, e2] at q
          rw [q] at D2
          exact fw_lh k 5 x y bit (N : Nat) _ _ _ _ _ _ _ _ _ _ _ _ _ _ h1 h2 t1 t2 t3 (by omega) (by omega) hp hxy hs D1 D2 HH (neq5 _ _ _ _ _ _ _ _ _ (by omega)) (by omega) rfl (by simp only [fm]; omega) w hn hf
  | 6, _, hs =>
    have e1 : ∀ z, dC 6 z = 0 := fun z => by simp [dC, lowC, fc]
    have e2 : ∀ z, dM 6 z = if z % 65536 < 32768 then z % 65536 else z % 65536 - 65536 := fun z => by simp [dM, lowM, fc, fl]
    have F := of_decide_eq_true (show fitB (fa 6) (fb 6) (fc 6) (fl 6) (fm 6) (dA x) (dB x) (dC 6 x) (dM 6 x) = true from hq)
    simp only [e1, e2, fa, fb, fc, fl, fm] at F
    have HH := fun (W : World) => has_all 6 (by omega) W
    simp only [e1, e2] at D1 D2
    by_cases r1 : 20 ≤ N
    · obtain ⟨ta, tb, tl⟩ := T.a r1
      have q : fit 6 (dA y) (dB y) (dC 6 y) (dM 6 y) = true := by
        unfold fit fitB
        simp only [e1, e2, fa, fb, fc, fl, fm, decide_eq_true_eq]
        omega
      simp only [e1, e2] at q
      rw [q] at D2
      exact fw_at k 6 x y bit (N : Nat) _ _ _ _ _ _ _ _ _ _ _ _ _ _ h1 h2 t1 t2 t3 (by omega) (by omega) hp hxy hs D1 D2 HH (neq5 _ _ _ _ _ _ _ _ _ (by omega)) (by omega) rfl w hn hf
    · by_cases r2 : 16 ≤ N
      · obtain ⟨ta, tb, tl⟩ := T.b r2 (by omega)
        have q : fit 6 (dA y) (dB y) (dC 6 y) (dM 6 y) = false := by
          unfold fit fitB
          simp only [e1, e2, fa, fb, fc, fl, fm, decide_eq_false_iff_not]
          omega
        simp only [e1, e2] at q
        rw [q] at D2
        exact fw_bf k 6 x y bit (N : Nat) _ _ _ _ _ _ _ _ _ _ h1 h2 t1 t2 t3 (by omega) (by omega) hp hxy hs D1 D2 HH (by omega) (by omega) rfl w hn hf
      · by_cases r3 : 4 ≤ N
        · obtain ⟨ta, tb, tl, tm⟩ := T.h r3 (by omega)
          have q : fit 6 (dA y) (dB y) (dC 6 y) (dM 6 y) = true := by
            unfold fit fitB
            simp only [e1, e2, fa, fb, fc, fl, fm, decide_eq_true_eq]
            omega
          simp only [e1, e2] at q
          rw [q] at D2
          exact fw_ht k 6 x y bit (N : Nat) _ _ _ _ _ _ _ _ _ _ _ _ _ _ h1 h2 t1 t2 t3 (by omega) (by omega) hp hxy hs D1 D2 HH (neq5 _ _ _ _ _ _ _ _ _ (by omega)) (by omega) (by omega) (by simp only [fm]; omega) w hn hf
        · obtain ⟨ta, tb, tl, tm⟩ := T.l (by omega)
          have q : fit 6 (dA y) (dB y) (dC 6 y) (dM 6 y) = true := by
            unfold fit fitB
            simp only [e1, e2, fa, fb, fc, fl, fm, decide_eq_true_eq]
            omega
          simp only [e1, e2] at q
          rw [q] at D2
          exact fw_lh k 6 x y bit (N : Nat) _ _ _ _ _ _ _ _ _ _ _ _ _ _ h1 h2 t1 t2 t3 (by omega) (by omega) hp hxy hs D1 D2 HH (neq5 _ _ _ _ _ _ _ _ _ (by omega)) (by omega) rfl (by simp only [fm]; omega) w hn hf
end Go.Proofs.YtejmmpgclgdbbabDoor.Wd
