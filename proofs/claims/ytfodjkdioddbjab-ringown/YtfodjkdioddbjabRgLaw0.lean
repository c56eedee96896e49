/-
  Load of the program and of the document, where the state may be and where it may not. Condition: the state's list is there.
-/
import Derived.Test.YtfodjkdioddbjabRgAwake
import Derived.Test.YtfodjkdioddbjabRgRef2
namespace Go.Proofs.Ytfodjkdioddbjab.Rg
open Go.RowKit

theorem rload_bad {P : Nat → Prop} {sv : Value} {xs : List W3} {hs : Bool} {y : W3} {w : World} (hx : Lst P w sv xs) (hmax : xs.length ≤ 9223372036854775807) {E : Int} (hE : ldE xs (nxo hs y) = E) (h0 : E ≠ 0) :
    Calls Try.prog 6 #[.agg #[sv, .bool hs, .int .i64 y.s, .int .i64 y.g, .int .u64 y.t]] w fun e w' => e = .returned (.tuple #[.agg #[.slice none 0 0, .bool false, .int .i64 0, .int .i64 0, .int .u64 0], .int .i64 E]) ∧ Ch NoB w w' := by
  refine (rload_any P sv xs hs y w hx hmax).mono ?_
  rw [hE]
  rintro e w1 ⟨g, ⟨_, rfl⟩ | ⟨h, _⟩⟩
  · exact ⟨rfl, g⟩
  · exact absurd h h0
theorem rload_good {P : Nat → Prop} {sv : Value} {xs : List W3} {hs : Bool} {y : W3} {w : World} (hx : Lst P w sv xs) (hmax : xs.length ≤ 9223372036854775807) (hE : ldE xs (nxo hs y) = 0) {z : W3} (hz : (nxo hs y).getD W3.zero = z) :
    Calls Try.prog 6 #[.agg #[sv, .bool hs, .int .i64 y.s, .int .i64 y.g, .int .u64 y.t]] w fun e w' => ∃ v, e = .returned (.tuple #[.agg #[v, .bool hs, .int .i64 z.s, .int .i64 z.g, .int .u64 z.t], .int .i64 0]) ∧ Lst (w.heap.size ≤ ·) w' v xs ∧ Ch NoB w w' := by
  refine (rload_any P sv xs hs y w hx hmax).mono ?_
  rw [hE, ← hz]
  rintro e w1 ⟨g, ⟨h, _⟩ | ⟨_, v, rfl, l⟩⟩
  · exact absurd rfl h
  · exact ⟨v, rfl, l, g⟩
theorem load_bad {P : Nat → Prop} {sv : Value} {xs : List W3} {hs : Bool} {y : W3} {w : World} (hx : Lst P w sv xs) (hmax : xs.length ≤ 9223372036854775807) {E : Int} (hE : ldE xs (nxo hs y) = E) (h0 : E ≠ 0) :
    Calls Try.prog 8 #[.agg #[sv, .bool hs, .int .i64 y.s, .int .i64 y.g, .int .u64 y.t]] w fun e w' => e = .returned (.tuple #[.pointer none, .int .i64 E]) ∧ Ch NoB w w' := by
  refine (load_any P sv xs hs y w hx hmax).mono ?_
  rw [hE]
  rintro e w1 ⟨p, rfl, g, _, h⟩
  rw [h h0]
  exact ⟨rfl, g⟩
theorem load_good {P : Nat → Prop} {sv : Value} {xs : List W3} {hs : Bool} {y : W3} {w : World} (hx : Lst P w sv xs) (hmax : xs.length ≤ 9223372036854775807) {nx : Option W3} (hn : nxo hs y = nx) (hE : ldE xs nx = 0) :
    Calls Try.prog 8 #[.agg #[sv, .bool hs, .int .i64 y.s, .int .i64 y.g, .int .u64 y.t]] w fun e w' => ∃ b, e = .returned (.tuple #[.pointer (some ⟨b, 0, none⟩), .int .i64 0]) ∧ w.heap.size ≤ b ∧ RingAt w' b xs nx ∧ Ch NoB w w' := by
  refine (load_any P sv xs hs y w hx hmax).mono ?_
  rw [hn, hE]
  rintro e w1 ⟨p, rfl, g, h, _⟩
  obtain ⟨b, rfl, hb, r⟩ := h rfl
  exact ⟨b, rfl, hb, r, g⟩

theorem Five.put {w : World} {k : Nat} {a b c d e : Value} (h : Five w k a b c d e) (b' c' d' e' : Value) :
    Five ((((w.setCell ⟨k, 1, none⟩ b').setCell ⟨k, 2, none⟩ c').setCell ⟨k, 3, none⟩ d').setCell ⟨k, 4, none⟩ e') k a b' c' d' e' := setCell_block (setCell_block (setCell_block (setCell_block h 1 _) 2 _) 3 _) 4 _

theorem nxo_getD (hs : Bool) (y : W3) : nxo hs ((nxo hs y).getD W3.zero) = nxo hs y := by cases hs <;> rfl
theorem ldE_zero {xs : List W3} {nx : Option W3} (h : ldE xs nx = 0) : xs.length ≤ 64 ∧ upB (xs ++ nx.toList) = true := by
  unfold ldE at h
  split at h
  · omega
  · split at h
    · exact ⟨by omega, by assumption⟩
    · omega
theorem ldE_none {xs : List W3} {nx : Option W3} (h : ldE xs nx = 0) : ldE xs none = 0 := by
  obtain ⟨h1, h2⟩ := ldE_zero h
  unfold ldE
  rw [if_neg (by omega), if_pos (by simpa using upB_left h2)]
end Go.Proofs.Ytfodjkdioddbjab.Rg
