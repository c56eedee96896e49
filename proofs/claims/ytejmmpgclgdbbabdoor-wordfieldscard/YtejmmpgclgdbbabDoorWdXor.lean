/-
  What becomes of a word's fields where one of its lowest 24 bits is turned. No conditions but the ranges.
-/
import Derived.Test.YtejmmpgclgdbbabDoorWdHas
namespace Go.Proofs.YtejmmpgclgdbbabDoor.Wd
open Go.RowKit

theorem xor_u32 (x p : Nat) (hx : x < 4294967296) (hp : p < 4294967296) (hy : x ^^^ p < 4294967296) : bits .xor .u32 (x : Int) (p : Int) = ((x ^^^ p : Nat) : Int) := by
  show IntKind.u32.wrap (((BitVec.ofInt 32 (x : Int) ^^^ BitVec.ofInt 32 (p : Int)).toNat : Nat) : Int) = _
  rw [ofInt_nat, ofInt_nat, BitVec.toNat_xor, BitVec.toNat_ofNat, BitVec.toNat_ofNat, Nat.mod_eq_of_lt (show x < 2 ^ 32 from hx), Nat.mod_eq_of_lt (show p < 2 ^ 32 from hp), IntKind.wrap_u32]
  omega

/-- the fields of a word of which one bit was turned -/
structure Turned (x y : Int) (n : Nat) : Prop where
  y0 : 0 ≤ y
  y1 : y < 4294967296
  op : y / 16777216 = x / 16777216
  a : 20 ≤ n → dA y ≠ dA x ∧ dB y = dB x ∧ y % 65536 = x % 65536
  b : 16 ≤ n → n < 20 → dA y = dA x ∧ dB y ≠ dB x ∧ y % 65536 = x % 65536
  h : 4 ≤ n → n < 16 → dA y = dA x ∧ dB y = dB x ∧ y % 65536 ≠ x % 65536 ∧ (16 ≤ y % 65536 ∨ 16 ≤ x % 65536)
  l : n < 4 → dA y = dA x ∧ dB y = dB x ∧ y % 65536 ≠ x % 65536 ∧ y % 65536 / 16 = x % 65536 / 16
theorem xor_part (X p i j : Nat) : (X ^^^ p) / 2 ^ i % 2 ^ j = (X / 2 ^ i % 2 ^ j) ^^^ (p / 2 ^ i % 2 ^ j) := by
  rw [Nat.xor_div_two_pow, Nat.xor_mod_two_pow]
theorem xor_ne {z q : Nat} (h : q ≠ 0) : z ^^^ q ≠ z := fun e => h (by
  have := congrArg (z ^^^ ·) e
  simpa [← Nat.xor_assoc] using this)
theorem part0 : ∀ n, n < 24 → 2 ^ n / 2 ^ 24 = 0 := by decide +kernel
theorem part1 : ∀ n, n < 24 → 20 ≤ n → 2 ^ n / 2 ^ 20 % 2 ^ 4 ≠ 0 ∧ 2 ^ n / 2 ^ 16 % 2 ^ 4 = 0 ∧ 2 ^ n / 2 ^ 0 % 2 ^ 16 = 0 := by decide +kernel
theorem part2 : ∀ n, n < 20 → 16 ≤ n → 2 ^ n / 2 ^ 20 % 2 ^ 4 = 0 ∧ 2 ^ n / 2 ^ 16 % 2 ^ 4 ≠ 0 ∧ 2 ^ n / 2 ^ 0 % 2 ^ 16 = 0 := by decide +kernel
theorem part3 : ∀ n, n < 16 → 4 ≤ n → 2 ^ n / 2 ^ 20 % 2 ^ 4 = 0 ∧ 2 ^ n / 2 ^ 16 % 2 ^ 4 = 0 ∧ 2 ^ n / 2 ^ 0 % 2 ^ 16 ≠ 0 ∧ 2 ^ n / 2 ^ 4 % 2 ^ 12 ≠ 0 := by decide +kernel
theorem part4 : ∀ n, n < 4 → 2 ^ n / 2 ^ 20 % 2 ^ 4 = 0 ∧ 2 ^ n / 2 ^ 16 % 2 ^ 4 = 0 ∧ 2 ^ n / 2 ^ 0 % 2 ^ 16 ≠ 0 ∧ 2 ^ n / 2 ^ 4 % 2 ^ 12 = 0 := by decide +kernel
theorem turned_of (X n : Nat) (hn : n < 24) (hX : X < 4294967296) : Turned (X : Int) ((X ^^^ 2 ^ n : Nat) : Int) n := by
  have q0 := part0 n hn
  have hp : 2 ^ n < 2 ^ 32 := Nat.pow_lt_pow_right (by omega) (by omega)
  have hY : X ^^^ 2 ^ n < 2 ^ 32 := Nat.xor_lt_two_pow hX hp
  have d24 := Nat.xor_div_two_pow (a := X) (b := 2 ^ n) (n := 24)
  rw [q0, Nat.xor_zero] at d24
  have pa := xor_part X (2 ^ n) 20 4
  have pb := xor_part X (2 ^ n) 16 4
  have pl := xor_part X (2 ^ n) 0 16
  have ph := xor_part X (2 ^ n) 4 12
  have na : ∀ z : Nat, dA (z : Int) = ((z / 2 ^ 20 % 2 ^ 4 : Nat) : Int) := fun z => by unfold dA; omega
  have nb : ∀ z : Nat, dB (z : Int) = ((z / 2 ^ 16 % 2 ^ 4 : Nat) : Int) := fun z => by unfold dB; omega
  have nl : ∀ z : Nat, (z : Int) % 65536 = ((z / 2 ^ 0 % 2 ^ 16 : Nat) : Int) := fun z => by omega
  have nh : ∀ z : Nat, z / 2 ^ 0 % 2 ^ 16 / 16 = z / 2 ^ 4 % 2 ^ 12 := fun z => by omega
  refine ⟨by omega, by omega, by omega, fun h => ?_, fun h h' => ?_, fun h h' => ?_, fun h => ?_⟩
  · obtain ⟨e1, e2, e3⟩ := part1 n hn h
    rw [e2, Nat.xor_zero] at pb
    rw [e3, Nat.xor_zero] at pl
    refine ⟨?_, by rw [nb, nb, pb], by rw [nl, nl, pl]⟩
    rw [na, na, pa]
    have := xor_ne (z := X / 2 ^ 20 % 2 ^ 4) e1
    omega
  · obtain ⟨e1, e2, e3⟩ := part2 n h' h
    rw [e1, Nat.xor_zero] at pa
    rw [e3, Nat.xor_zero] at pl
    refine ⟨by rw [na, na, pa], ?_, by rw [nl, nl, pl]⟩
    rw [nb, nb, pb]
    have := xor_ne (z := X / 2 ^ 16 % 2 ^ 4) e2
    omega
  · obtain ⟨e1, e2, e3, e4⟩ := part3 n h' h
    rw [e1, Nat.xor_zero] at pa
    rw [e2, Nat.xor_zero] at pb
    have h1 := xor_ne (z := X / 2 ^ 0 % 2 ^ 16) e3
    have h2 := xor_ne (z := X / 2 ^ 4 % 2 ^ 12) e4
    rw [← pl] at h1
    rw [← ph, ← nh, ← nh] at h2
    refine ⟨by rw [na, na, pa], by rw [nb, nb, pb], ?_, ?_⟩
    · rw [nl, nl]
      omega
    · rw [nl, nl]
      omega
  · obtain ⟨e1, e2, e3, e4⟩ := part4 n h
    rw [e1, Nat.xor_zero] at pa
    rw [e2, Nat.xor_zero] at pb
    rw [e4, Nat.xor_zero, ← nh, ← nh] at ph
    have h1 := xor_ne (z := X / 2 ^ 0 % 2 ^ 16) e3
    rw [← pl] at h1
    refine ⟨by rw [na, na, pa], by rw [nb, nb, pb], ?_, ?_⟩
    · rw [nl, nl]
      omega
    · rw [nl, nl]
      omega
/-- the word and its turned one -/
theorem turned (x : Int) (n : Nat) (hn : n < 24) (x0 : 0 ≤ x) (x1 : x < 4294967296) : ∃ y : Int, bits .xor .u32 x ((2 ^ n : Nat) : Int) = y ∧ Turned x y n := by
  obtain ⟨X, rfl⟩ : ∃ X : Nat, x = (X : Int) := ⟨x.toNat, by omega⟩
  have T := turned_of X n hn (by omega)
  refine ⟨_, xor_u32 X (2 ^ n) (by omega) ?_ (by have := T.y1; omega), T⟩
  have : 2 ^ n ≤ 2 ^ 23 := Nat.pow_le_pow_right (by omega) (by omega)
  omega
end Go.Proofs.YtejmmpgclgdbbabDoor.Wd
