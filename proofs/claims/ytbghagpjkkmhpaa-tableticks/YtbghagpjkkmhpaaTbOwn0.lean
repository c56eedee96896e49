/-
  What Owner, Left and Ends tell, case by case. No conditions but those that each theorem names.
-/
import Derived.Test.YtbghagpjkkmhpaaTbAt
import Derived.Test.YtbghagpjkkmhpaaTbSlt
import Derived.Test.YtbghagpjkkmhpaaTbSum
namespace Go.Proofs.Ytbghagpjkkmhpaa.Lt
open Go.RowKit Wd

theorem atV_none (e : Int) : atV none e = .returned (.tuple #[.agg #[.int .i64 0, .int .u64 0, .int .u64 0, .int .u64 0], .bool false, .int .i64 e]) := rfl
theorem atV_some (x : Sl) (e : Int) : atV (some x) e = .returned (.tuple #[.agg #[.int .i64 x.d, .int .u64 x.s, .int .u64 x.l, .int .u64 x.p], .bool true, .int .i64 e]) := rfl
theorem slotE_none : slotE none = .returned (.tuple #[.agg #[.int .i64 0, .int .u64 0, .int .u64 0, .int .u64 0], .bool false]) := rfl
theorem slotE_some (x : Sl) : slotE (some x) = .returned (.tuple #[.agg #[.int .i64 x.d, .int .u64 x.s, .int .u64 x.l, .int .u64 x.p], .bool true]) := rfl
theorem own_at {F p t : Int} {L : List (List Sl)} (hx : Rgs L) (h : ownE F L p = 0) : ∃ (P : Nat) (l : List Sl), p = (P : Int) ∧ L[P]? = some l ∧ l ∈ L ∧ Good F L ∧ sat F L t p = slt F l t ∧ ownD F L t p = (slt F l t).elim (-1) Sl.d := by
  obtain ⟨hg, _, h0, h1⟩ := lkE_ok hx h
  obtain ⟨P, rfl⟩ : ∃ P : Nat, p = (P : Int) := ⟨p.toNat, by omega⟩
  have hl : L[P]? = some L[P] := List.getElem?_eq_getElem (by omega)
  refine ⟨P, L[P], rfl, hl, List.getElem_mem _, hg, ?_, ?_⟩
  · unfold sat rowAt
    rw [if_pos h, Int.toNat_natCast, hl]
    rfl
  · unfold ownD rowAt
    rw [if_pos h, Int.toNat_natCast, hl]
    rfl
theorem sat_bad {F p t : Int} {L : List (List Sl)} (h : ownE F L p ≠ 0) : sat F L t p = none ∧ ownD F L t p = 0 ∧ lftN F L t p = 0 ∧ endB F L t p = false := by
  have hs : sat F L t p = none := by unfold sat; rw [if_neg h]
  refine ⟨hs, by unfold ownD; rw [if_neg h], ?_, ?_⟩
  · unfold lftN; rw [hs]; rfl
  · unfold endB; rw [hs]; rfl
theorem sat_none {F p t : Int} {L : List (List Sl)} (h : sat F L t p = none) : lftN F L t p = 0 ∧ endB F L t p = false := by
  refine ⟨?_, ?_⟩
  · unfold lftN; rw [h]; rfl
  · unfold endB; rw [h]; rfl
theorem sat_some {F p t : Int} {L : List (List Sl)} {x : Sl} (hx : Rgs L) (h : sat F L t p = some x) : ownE F L p = 0 ∧ Good F L ∧ (∃ l ∈ L, x ∈ l) ∧ x.rg ∧ wOk F x ∧ 0 ≤ x.s ∧ x.s ≤ t % F ∧ t % F < x.s + x.l ∧ 0 ≤ x.d ∧ x.d < 16 ∧ 0 ≤ x.p ∧ ownD F L t p = x.d ∧ lftN F L t p = Tk.leN t F x.s (x.l - x.p) ∧ endB F L t p = decide (t % F = x.s + x.l - 1) := by
  by_cases h0 : ownE F L p = 0
  · obtain ⟨P, l, rfl, hl, hm, hg, hs, hd⟩ := own_at (t := t) hx h0
    rw [hs] at h
    obtain ⟨k1, k2, k3⟩ := slt_mem h
    have k4 := hg.slot l hm x k1
    have k5 := hg.rg l hm x k1
    refine ⟨h0, hg, ⟨l, hm, k1⟩, k5, k4.1, k4.2.2.2, k2, k3, k4.2.1, k4.2.2.1, k5.2.2.2.1, ?_, ?_, ?_⟩
    · rw [hd, h]; rfl
    · unfold lftN; rw [hs, h]; rfl
    · unfold endB; rw [hs, h]; rfl
  · rw [(sat_bad h0).1] at h
    cases h
/-- what is left of the part in which the domain can run -/
theorem lft_run {F t : Int} {x : Sl} (hw : wOk F x) (h0 : 0 ≤ x.s) (hp : 0 ≤ x.p) (h1 : x.s ≤ t % F) : Tk.mayE x.s (x.l - x.p) F = 0 ∧ Tk.leN t F x.s (x.l - x.p) = if x.s + x.l - x.p ≤ t % F then 0 else x.s + x.l - x.p - t % F := by
  obtain ⟨a, b, c⟩ := hw
  have hm : Tk.mayE x.s (x.l - x.p) F = 0 := Tk.may_of h0 (by omega) (by omega)
  refine ⟨hm, ?_⟩
  unfold Tk.leN
  rw [if_pos hm]
  by_cases h2 : x.s + x.l - x.p ≤ t % F
  · rw [if_pos h2, if_neg (by omega)]
  · rw [if_neg h2, if_pos ⟨h1, by omega⟩]
    omega
theorem end_run {F t : Int} {x : Sl} (hw : wOk F x) (h0 : 0 ≤ x.s) (h1 : x.s ≤ t % F) (h2 : t % F < x.s + x.l) : Tk.mayE x.s x.l F = 0 ∧ decide (t % F = x.s + x.l - 1) = decide (Tk.leN t F x.s x.l = 1) := by
  obtain ⟨a, b, c⟩ := hw
  have hm : Tk.mayE x.s x.l F = 0 := Tk.may_of h0 a b
  refine ⟨hm, ?_⟩
  unfold Tk.leN
  rw [if_pos hm, if_pos ⟨h1, h2⟩]
  by_cases h3 : t % F = x.s + x.l - 1
  · rw [decide_eq_true h3, decide_eq_true (by omega)]
  · rw [decide_eq_false h3, decide_eq_false (by omega)]
end Go.Proofs.Ytbghagpjkkmhpaa.Lt
