/-
  The plain side of layer 16 (table): slots, what Check tells of lists of them, who has what at a tick, as functions of lists and whole numbers. No conditions but those that each theorem names.
-/
import Derived.Test.YtbghagpjkkmhpaaPlain2
namespace Go.Proofs.Ytbghagpjkkmhpaa.Lt
open Tk (insB leN mayE U)

/-- a slot: its domain, its window's start and length, its pad -/
structure Sl where
  d : Int
  s : Int
  l : Int
  p : Int
def eS (x : Sl) : List Value := [.int .i64 x.d, .int .u64 x.s, .int .u64 x.l, .int .u64 x.p]
theorem eS_len (x : Sl) : (eS x).length = 4 := rfl
/-- its numbers are of their types -/
def Sl.rg (x : Sl) : Prop := (-9223372036854775808 ≤ x.d ∧ x.d ≤ 9223372036854775807) ∧ U x.s ∧ U x.l ∧ U x.p
def Rgs (L : List (List Sl)) : Prop := ∀ l ∈ L, ∀ x ∈ l, x.rg
/-- its window may be, and its pad is below its length -/
abbrev wOk (F : Int) (x : Sl) : Prop := 1 ≤ x.l ∧ x.s + x.l ≤ F ∧ x.p < x.l
def slE (F dm en : Int) (x : Sl) : Int := if wOk F x then (if x.d < 0 ∨ dm ≤ x.d then 162 else if x.s < en then 163 else 0) else 161
/-- the first slot that is wrong, and why -/
def chS (F dm : Int) : Int → Nat → List Sl → Nat × Int
  | _, _, [] => (0, 0)
  | en, i, x :: r => if slE F dm en x = 0 then chS F dm (x.s + x.l) (i + 1) r else (i, slE F dm en x)
def chQ (F dm : Int) (l : List Sl) : Nat × Int := if 1024 < l.length then (0, 2) else chS F dm 0 0 l
def chL (F dm : Int) : Nat → List (List Sl) → Nat × Nat × Int
  | _, [] => (0, 0, 0)
  | i, l :: r => if (chQ F dm l).2 = 0 then chL F dm (i + 1) r else (i, (chQ F dm l).1, (chQ F dm l).2)
/-- what Check tells -/
def chk (F : Int) (L : List (List Sl)) (dm : Int) : Nat × Nat × Int :=
  if dm < 1 ∨ 16 < dm then (0, 0, 1) else if F < 1 ∨ 65536 < F ∨ L.length < 1 ∨ 64 < L.length then (0, 0, 160) else chL F dm 0 L
/-- what is refused ahead of all else -/
def lkE (F : Int) (L : List (List Sl)) (n many : Int) : Int := if (chk F L 16).2.2 = 0 then (if n < 0 ∨ many ≤ n then 1 else 0) else (chk F L 16).2.2

theorem slE_ok {F dm en : Int} {x : Sl} (h : slE F dm en x = 0) : wOk F x ∧ 0 ≤ x.d ∧ x.d < dm ∧ en ≤ x.s := by
  unfold slE at h
  split at h
  · rename_i h1
    split at h
    · cases h
    · split at h
      · cases h
      · exact ⟨h1, by omega, by omega, by omega⟩
  · cases h
theorem slE_of {F dm en : Int} {x : Sl} (h1 : wOk F x) (h2 : 0 ≤ x.d) (h3 : x.d < dm) (h4 : en ≤ x.s) : slE F dm en x = 0 := by
  unfold slE
  rw [if_pos h1, if_neg (by omega), if_neg (by omega)]
theorem chS_ok {F dm : Int} : ∀ (l : List Sl) (en : Int) (i : Nat), (chS F dm en i l).2 = 0 → (∀ x ∈ l, wOk F x ∧ 0 ≤ x.d ∧ x.d < dm ∧ en ≤ x.s) ∧ l.Pairwise (fun a b => a.s + a.l ≤ b.s) := by
  intro l
  induction l with
  | nil => intro en i _; exact ⟨fun x hx => (List.not_mem_nil hx).elim, List.Pairwise.nil⟩
  | cons x r ih =>
    intro en i h
    unfold chS at h
    split at h
    · rename_i h1
      obtain ⟨k1, k2⟩ := ih _ _ h
      obtain ⟨j1, j2, j3, j4⟩ := slE_ok h1
      refine ⟨?_, List.Pairwise.cons (fun y hy => (k1 y hy).2.2.2) k2⟩
      intro y hy
      rcases List.mem_cons.1 hy with rfl | hy
      · exact ⟨j1, j2, j3, j4⟩
      · obtain ⟨a, b, c, d⟩ := k1 y hy
        exact ⟨a, b, c, by have := j1.1; omega⟩
    · rename_i h1
      exact absurd h h1
theorem chQ_ok {F dm : Int} {l : List Sl} (h : (chQ F dm l).2 = 0) : l.length ≤ 1024 ∧ (∀ x ∈ l, wOk F x ∧ 0 ≤ x.d ∧ x.d < dm ∧ 0 ≤ x.s) ∧ l.Pairwise (fun a b => a.s + a.l ≤ b.s) := by
  unfold chQ at h
  split at h
  · cases h
  · exact ⟨by omega, chS_ok l 0 0 h⟩
theorem chL_ok {F dm : Int} : ∀ (L : List (List Sl)) (i : Nat), (chL F dm i L).2.2 = 0 → ∀ l ∈ L, (chQ F dm l).2 = 0 := by
  intro L
  induction L with
  | nil => intro i _ l hl; cases hl
  | cons y r ih =>
    intro i h l hl
    unfold chL at h
    split at h
    · rename_i h1
      rcases List.mem_cons.1 hl with rfl | hl
      · exact h1
      · exact ih _ h l hl
    · rename_i h1
      exact absurd h h1
/-- a table that may be -/
structure Good (F : Int) (L : List (List Sl)) : Prop where
  f1 : 1 ≤ F
  f2 : F ≤ 65536
  n1 : 1 ≤ L.length
  n2 : L.length ≤ 64
  len : ∀ l ∈ L, l.length ≤ 1024
  slot : ∀ l ∈ L, ∀ x ∈ l, wOk F x ∧ 0 ≤ x.d ∧ x.d < 16 ∧ 0 ≤ x.s
  apart : ∀ l ∈ L, l.Pairwise (fun a b => a.s + a.l ≤ b.s)
  rg : Rgs L
theorem good_of {F : Int} {L : List (List Sl)} (hr : Rgs L) (h : (chk F L 16).2.2 = 0) : Good F L := by
  unfold chk at h
  rw [if_neg (by omega)] at h
  split at h
  · cases h
  · rename_i h1
    have k := chL_ok L 0 h
    exact ⟨by omega, by omega, by omega, by omega, fun l hl => (chQ_ok (k l hl)).1, fun l hl => (chQ_ok (k l hl)).2.1, fun l hl => (chQ_ok (k l hl)).2.2, hr⟩
theorem lkE_ok {F n many : Int} {L : List (List Sl)} (hr : Rgs L) (h : lkE F L n many = 0) : Good F L ∧ (chk F L 16).2.2 = 0 ∧ 0 ≤ n ∧ n < many := by
  unfold lkE at h
  split at h
  · rename_i h1
    split at h
    · cases h
    · exact ⟨good_of hr h1, h1, by omega, by omega⟩
  · rename_i h1
    exact absurd h h1
/-- the slot of a list that a tick is inside -/
def inT (F t : Int) (x : Sl) : Bool := insB (t % F) x.s x.l
def slt (F : Int) (l : List Sl) (t : Int) : Option Sl := l.find? (inT F t)
def rowAt (L : List (List Sl)) (p : Int) : List Sl := L[p.toNat]?.getD []
def ownE (F : Int) (L : List (List Sl)) (p : Int) : Int := lkE F L p L.length
/-- the slot of a processor that a tick is inside; none beside a refusal -/
def sat (F : Int) (L : List (List Sl)) (t p : Int) : Option Sl := if ownE F L p = 0 then slt F (rowAt L p) t else none
def ownD (F : Int) (L : List (List Sl)) (t p : Int) : Int := if ownE F L p = 0 then (slt F (rowAt L p) t).elim (-1) Sl.d else 0
def lftN (F : Int) (L : List (List Sl)) (t p : Int) : Int := (sat F L t p).elim 0 fun x => leN t F x.s (x.l - x.p)
def endB (F : Int) (L : List (List Sl)) (t p : Int) : Bool := (sat F L t p).elim false fun x => decide (t % F = x.s + x.l - 1)
end Go.Proofs.Ytbghagpjkkmhpaa.Lt
