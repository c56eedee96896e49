/-
  The plain arithmetic of layer 1 (tick), with no Go in sight: what each call answers, as functions of whole numbers, and what follows of them. No conditions but those that each theorem names.
-/
import Derived.WalkKit
namespace Go.Proofs.Ytbghagpjkkmhpaa.Tk

/-- the last tick -/
def top : Int := 18446744073709551615
theorem top_eq : top = 18446744073709551615 := rfl

/-- a uint64 -/
def U (x : Int) : Prop := 0 ≤ x ∧ x ≤ 18446744073709551615

def addN (a b : Int) : Int := if a + b ≤ 18446744073709551615 then a + b else 0
def addE (a b : Int) : Int := if a + b ≤ 18446744073709551615 then 0 else 10
def upN (a b : Int) : Int := if b = 0 then 0 else if a % b = 0 then a / b else a / b + 1
def upE (b : Int) : Int := if b = 0 then 11 else 0
def plP (t f : Int) : Int := if f = 0 then 0 else t % f
def plN (t f : Int) : Int := if f = 0 then 0 else t / f
def plE (f : Int) : Int := if f = 0 then 11 else 0
/-- how far it is from t to the next tick of a place -/
def far (t f p : Int) : Int := if t % f ≤ p then p - t % f else f - (t % f - p)
def neN (t f p : Int) : Int := if f = 0 then 0 else if f ≤ p then 0 else addN t (far t f p)
def neE (t f p : Int) : Int := if f = 0 then 11 else if f ≤ p then 1 else addE t (far t f p)
def mayE (s l f : Int) : Int := if f = 0 then 11 else if 1 ≤ l ∧ s + l ≤ f then 0 else 1
def insB (p s l : Int) : Bool := decide (s ≤ p ∧ p < s + l)
def insN (p s l : Int) : Int := if s ≤ p ∧ p < s + l then 1 else 0
def pas (p s l : Int) : Int := if p ≤ s then 0 else if p - s ≤ l then p - s else l
/-- how many ticks below t are inside -/
def bef (t f s l : Int) : Int := t / f * l + pas (t % f) s l
def leN (t f s l : Int) : Int := if mayE s l f = 0 then (if s ≤ t % f ∧ t % f < s + l then l - (t % f - s) else 0) else 0
def coN (t n f s l : Int) : Int := if mayE s l f = 0 then (if n = 0 then 0 else if t + (n - 1) ≤ 18446744073709551615 then bef (t + (n - 1)) f s l - bef t f s l + insN ((t + (n - 1)) % f) s l else 0) else 0
def coE (t n f s l : Int) : Int := if mayE s l f = 0 then (if n = 0 then 0 else addE t (n - 1)) else mayE s l f
/-- the tick whose number inside is m -/
def tickOf (m f s l : Int) : Int := m / l * f + (s + m % l)
def ntN (t k f s l : Int) : Int := if mayE s l f = 0 then (if bef t f s l + k ≤ 18446744073709551615 ∧ tickOf (bef t f s l + k) f s l ≤ 18446744073709551615 then tickOf (bef t f s l + k) f s l else 0) else 0
def ntE (t k f s l : Int) : Int := if mayE s l f = 0 then (if bef t f s l + k ≤ 18446744073709551615 ∧ tickOf (bef t f s l + k) f s l ≤ 18446744073709551615 then 0 else 10) else mayE s l f

theorem ret1 {a b : Int} (h : a = b) : Ending.returned (.int .u64 a) = .returned (.int .u64 b) := by rw [h]
theorem ret2 {a b c d : Int} (h1 : a = b) (h2 : c = d) : Ending.returned (.tuple #[.int .u64 a, .int .i64 c]) = .returned (.tuple #[.int .u64 b, .int .i64 d]) := by rw [h1, h2]
/-- what the machine's whole numbers do within their bounds -/
theorem wrapU {x : Int} (h : U x) : IntKind.u64.wrap x = x := IntWalk.u64_in x h

/-! ### division and remainder -/
theorem dm (t f : Int) : t / f * f + t % f = t := by
  have h := Int.mul_ediv_add_emod t f
  rw [Int.mul_comm] at h
  exact h
theorem mod_bd (t f : Int) (hf : 1 ≤ f) : 0 ≤ t % f ∧ t % f < f := ⟨Int.emod_nonneg t (by omega), Int.emod_lt_of_pos t (by omega)⟩
theorem div_bd (t f : Int) (ht : 0 ≤ t) (hf : 1 ≤ f) : 0 ≤ t / f ∧ t / f ≤ t := by
  have h0 : 0 ≤ t / f := Int.ediv_nonneg ht (by omega)
  have h1 := dm t f
  have h2 := mod_bd t f hf
  have h3 : t / f * 1 ≤ t / f * f := Int.mul_le_mul_of_nonneg_left hf h0
  omega
theorem div_mul_le (t f l : Int) (ht : 0 ≤ t) (hf : 1 ≤ f) (hl : 0 ≤ l) (hlf : l ≤ f) : 0 ≤ t / f * l ∧ t / f * l ≤ t - t % f := by
  have h0 : 0 ≤ t / f := Int.ediv_nonneg ht (by omega)
  have h1 := dm t f
  have h3 : t / f * l ≤ t / f * f := Int.mul_le_mul_of_nonneg_left hlf h0
  have h4 : 0 ≤ t / f * l := Int.mul_nonneg h0 hl
  omega

theorem may_ok {s l f : Int} (h : mayE s l f = 0) : 1 ≤ l ∧ s + l ≤ f ∧ f ≠ 0 := by
  unfold mayE at h
  split at h
  · omega
  · split at h
    · rename_i h1 h2; exact ⟨h2.1, h2.2, h1⟩
    · omega
theorem may_of {s l f : Int} (hs : 0 ≤ s) (hl : 1 ≤ l) (hf : s + l ≤ f) : mayE s l f = 0 := by
  unfold mayE
  rw [if_neg (by omega), if_pos ⟨hl, hf⟩]
theorem pas_bd (p s l : Int) (hl : 0 ≤ l) (hs : 0 ≤ s) (hp : 0 ≤ p) : 0 ≤ pas p s l ∧ pas p s l ≤ l ∧ pas p s l ≤ p := by
  unfold pas
  split
  · omega
  · split <;> omega
theorem bef_bd (t f s l : Int) (ht : 0 ≤ t) (hs : 0 ≤ s) (hl : 1 ≤ l) (hf : s + l ≤ f) : 0 ≤ bef t f s l ∧ bef t f s l ≤ t := by
  have h1 := div_mul_le t f l ht (by omega) (by omega) (by omega)
  have h2 := mod_bd t f (by omega)
  have h3 := pas_bd (t % f) s l (by omega) hs h2.1
  unfold bef
  omega
end Go.Proofs.Ytbghagpjkkmhpaa.Tk
