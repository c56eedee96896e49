/-
  WordBack's walk: what Encode wrote Decode brings back; and Reads refuses what Encode refuses. Condition: the tables lie where they lie.
-/
import Derived.Test.YtcdlhfodeckleabDoorWdDec
namespace Go.Proofs.YtcdlhfodeckleabDoor.Wd
open Go.RowKit

/-- the fields of the word that was written -/
theorem enc_dec {k : Nat} {a b c m : Int} (h2 : k < 59) (h : fit (sh k) a b c m = true) (n : Int) (hn : n = k * 16777216 + a * 1048576 + b * 65536 + m % 65536 + c) :
    0 ≤ n ∧ n < 4294967296 ∧ n / 16777216 = (k : Nat) ∧ dA n = a ∧ dB n = b ∧ dC (sh k) n = c ∧ dM (sh k) n = m := by
  obtain ⟨⟨a0, a1⟩, ⟨b0, b1⟩, F⟩ := fit_bd (sh_lt k) h
  have e1 : n % 65536 = m % 65536 + c := by omega
  refine ⟨by omega, by omega, by omega, by unfold dA; omega, by unfold dB; omega, ?_, ?_⟩
  · unfold dC
    rw [e1]
    obtain ⟨_, _, ⟨c0, c1⟩, m0, m1⟩ := of_decide_eq_true h
    have hs := sh_lt k
    generalize sh k = s at *
    match s, hs with
    | 0, _ => simp only [fc, fl, fm, lowC] at *; omega
    | 1, _ => simp only [fc, fl, fm, lowC] at *; omega
    | 2, _ => simp only [fc, fl, fm, lowC] at *; omega
    | 3, _ => simp only [fc, fl, fm, lowC] at *; omega
    | 4, _ => simp only [fc, fl, fm, lowC] at *; omega
    | 5, _ => simp only [fc, fl, fm, lowC] at *; omega
    | 6, _ => simp only [fc, fl, fm, lowC] at *; omega
  · unfold dM
    rw [e1]
    obtain ⟨_, _, ⟨c0, c1⟩, m0, m1⟩ := of_decide_eq_true h
    have hs := sh_lt k
    generalize sh k = s at *
    match s, hs with
    | 0, _ => simp only [fc, fl, fm, lowM] at *; omega
    | 1, _ => simp only [fc, fl, fm, lowM] at *; omega
    | 2, _ => simp only [fc, fl, fm, lowM] at *; omega
    | 3, _ => simp only [fc, fl, fm, lowM] at *; omega
    | 4, _ => simp only [fc, fl, fm, lowM] at *; omega
    | 5, _ => simp only [fc, fl, fm, lowM] at *; omega
    | 6, _ => simp only [fc, fl, fm, lowM] at *; omega

theorem same5 (o a b c m : Int) : ∀ w : World, (binOp .eql 37 (.agg #[.int .i64 o, .int .i64 a, .int .i64 b, .int .i64 c, .int .i64 m]) (.agg #[.int .i64 o, .int .i64 a, .int .i64 b, .int .i64 c, .int .i64 m])).run Tryd.prog w = .ok (.bool true) w := by
  intro w
  go_simp

end Go.Proofs.YtcdlhfodeckleabDoor.Wd
