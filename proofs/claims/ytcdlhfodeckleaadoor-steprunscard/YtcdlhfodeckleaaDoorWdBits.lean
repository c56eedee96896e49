/-
  Bits as numbers: or of what lies apart is a sum, and with ones is a remainder, xor with one bit adds or takes it. No conditions but the numbers' ranges.
-/
import Derived.Test.YtcdlhfodeckleaaDoorWdFits
namespace Go.Proofs.YtcdlhfodeckleaaDoor.Wd
open Go.RowKit

theorem or_nat (x y n : Nat) (hd : x % 2 ^ n = 0) (hy : y < 2 ^ n) : x ||| y = x + y := by
  have h := Nat.div_add_mod x (2 ^ n)
  rw [hd, Nat.add_zero] at h
  rw [← h]
  exact (Nat.two_pow_add_eq_or_of_lt hy _).symm
theorem ofInt_nat (k x : Nat) : BitVec.ofInt k (x : Int) = BitVec.ofNat k x := by simp
theorem or_u32 (x y n : Nat) (hx : x < 4294967296) (hn : 2 ^ n ≤ 4294967296) (hd : x % 2 ^ n = 0) (hy : y < 2 ^ n) (hs : x + y < 4294967296) : bits .or .u32 (x : Int) (y : Int) = (x : Int) + (y : Int) := by
  show IntKind.u32.wrap (((BitVec.ofInt 32 (x : Int) ||| BitVec.ofInt 32 (y : Int)).toNat : Nat) : Int) = _
  rw [ofInt_nat, ofInt_nat, BitVec.toNat_or, BitVec.toNat_ofNat, BitVec.toNat_ofNat, Nat.mod_eq_of_lt (show x < 2 ^ 32 from hx), Nat.mod_eq_of_lt (show y < 2 ^ 32 by omega), or_nat x y n hd hy, IntKind.wrap_u32]
  omega
theorem or_u16 (x y n : Nat) (hx : x < 65536) (hn : 2 ^ n ≤ 65536) (hd : x % 2 ^ n = 0) (hy : y < 2 ^ n) (hs : x + y < 65536) : bits .or .u16 (x : Int) (y : Int) = (x : Int) + (y : Int) := by
  show IntKind.u16.wrap (((BitVec.ofInt 16 (x : Int) ||| BitVec.ofInt 16 (y : Int)).toNat : Nat) : Int) = _
  rw [ofInt_nat, ofInt_nat, BitVec.toNat_or, BitVec.toNat_ofNat, BitVec.toNat_ofNat, Nat.mod_eq_of_lt (show x < 2 ^ 16 from hx), Nat.mod_eq_of_lt (show y < 2 ^ 16 by omega), or_nat x y n hd hy, IntKind.wrap_u16]
  omega
theorem and15_u32 (x : Nat) (hx : x < 4294967296) : bits .and .u32 (x : Int) 15 = ((x % 16 : Nat) : Int) := by
  have e : (15 : Int) = ((15 : Nat) : Int) := rfl
  rw [e]
  show IntKind.u32.wrap (((BitVec.ofInt 32 (x : Int) &&& BitVec.ofInt 32 ((15 : Nat) : Int)).toNat : Nat) : Int) = _
  rw [ofInt_nat, ofInt_nat, BitVec.toNat_and, BitVec.toNat_ofNat, BitVec.toNat_ofNat, Nat.mod_eq_of_lt (show x < 2 ^ 32 from hx), show (15 % 2 ^ 32) = 2 ^ 4 - 1 from rfl, Nat.and_two_pow_sub_one_eq_mod, IntKind.wrap_u32]
  omega

/-- what may be of an instruction's numbers -/
theorem fit_bd {s : Nat} {a b c m : Int} (hs : s < 7) (h : fit s a b c m = true) : (0 ≤ a ∧ a ≤ 15) ∧ (0 ≤ b ∧ b ≤ 15) ∧ ((c = 0 ∧ -32768 ≤ m ∧ m ≤ 65535) ∨ (m = 0 ∧ 0 ≤ c ∧ c ≤ 15)) := by
  have h' := of_decide_eq_true h
  obtain ⟨⟨a0, a1⟩, ⟨b0, b1⟩, ⟨c0, c1⟩, m0, m1⟩ := h'
  match s, hs with
  | 0, _ => simp only [fa, fb, fc, fl, fm] at *; omega
  | 1, _ => simp only [fa, fb, fc, fl, fm] at *; omega
  | 2, _ => simp only [fa, fb, fc, fl, fm] at *; omega
  | 3, _ => simp only [fa, fb, fc, fl, fm] at *; omega
  | 4, _ => simp only [fa, fb, fc, fl, fm] at *; omega
  | 5, _ => simp only [fa, fb, fc, fl, fm] at *; omega
  | 6, _ => simp only [fa, fb, fc, fl, fm] at *; omega

theorem enc_bits {k : Nat} {a b c m : Int} (hk : k < 59) (ha : 0 ≤ a ∧ a ≤ 15) (hb : 0 ≤ b ∧ b ≤ 15) (hc : (c = 0 ∧ -32768 ≤ m ∧ m ≤ 65535) ∨ (m = 0 ∧ 0 ≤ c ∧ c ≤ 15)) :
    bits .or .u32 (bits .or .u32 (bits .or .u32 ((k : Int) * 16777216) (a % 4294967296 * 1048576 % 4294967296)) (b % 4294967296 * 65536 % 4294967296)) (bits .or .u16 (IntKind.u16.wrap c) (IntKind.u16.wrap m) % 4294967296) =
      (k : Int) * 16777216 + a * 1048576 + b * 65536 + m % 65536 + c := by
  obtain ⟨A, hA⟩ : ∃ A : Nat, a = (A : Int) := ⟨a.toNat, by omega⟩
  obtain ⟨B, hB⟩ : ∃ B : Nat, b = (B : Int) := ⟨b.toNat, by omega⟩
  subst hA hB
  have e3 : bits .or .u16 (IntKind.u16.wrap c) (IntKind.u16.wrap m) = m % 65536 + c := by
    rw [IntKind.wrap_u16, IntKind.wrap_u16]
    rcases hc with ⟨rfl, h1, h2⟩ | ⟨rfl, h1, h2⟩
    · obtain ⟨M, hM⟩ : ∃ M : Nat, m % 65536 = (M : Int) := ⟨(m % 65536).toNat, by omega⟩
      rw [hM, show (0 : Int) % 65536 = ((0 : Nat) : Int) from rfl, or_u16 0 M 16 (by omega) (by decide) (by decide) (by omega) (by omega)]
      omega
    · obtain ⟨C, hC⟩ : ∃ C : Nat, c = (C : Int) := ⟨c.toNat, by omega⟩
      rw [hC, show (C : Int) % 65536 = ((C : Nat) : Int) by omega, show (0 : Int) % 65536 = ((0 : Nat) : Int) from rfl, or_u16 C 0 0 (by omega) (by decide) (by omega) (by decide) (by omega)]
      omega
  rw [e3, show (k : Int) * 16777216 = ((k * 16777216 : Nat) : Int) by omega, show (A : Int) % 4294967296 * 1048576 % 4294967296 = ((A * 1048576 : Nat) : Int) by omega, show (B : Int) % 4294967296 * 65536 % 4294967296 = ((B * 65536 : Nat) : Int) by omega]
  rw [or_u32 (k * 16777216) (A * 1048576) 24 (by omega) (by decide) (by omega) (by omega) (by omega)]
  rw [show ((k * 16777216 : Nat) : Int) + ((A * 1048576 : Nat) : Int) = ((k * 16777216 + A * 1048576 : Nat) : Int) by omega]
  rw [or_u32 (k * 16777216 + A * 1048576) (B * 65536) 20 (by omega) (by decide) (by omega) (by omega) (by omega)]
  rw [show ((k * 16777216 + A * 1048576 : Nat) : Int) + ((B * 65536 : Nat) : Int) = ((k * 16777216 + A * 1048576 + B * 65536 : Nat) : Int) by omega]
  obtain ⟨L, hL⟩ : ∃ L : Nat, (m % 65536 + c) % 4294967296 = (L : Int) := ⟨((m % 65536 + c) % 4294967296).toNat, by omega⟩
  have hL2 : (L : Int) = m % 65536 + c := by omega
  rw [hL, or_u32 (k * 16777216 + A * 1048576 + B * 65536) L 16 (by omega) (by decide) (by omega) (by omega) (by omega)]
  omega
end Go.Proofs.YtcdlhfodeckleaaDoor.Wd
