/-
  Windows in order of their beginnings, made such as have no place twice: what they have, and how many of the first ticks of frames they have. No conditions but those that each theorem names.
-/
import Derived.Test.YtbghagpjkkmhpaaTbSupP
namespace Go.Proofs.Ytbghagpjkkmhpaa.Lt
open Tk (insN pas pas_succ pas_zero pas_end)

/-- what the list's windows leave behind a place: each place once -/
def aprt : Int → List (Int × Int) → List (Int × Int)
  | _, [] => []
  | nx, q :: r => if (if q.1 < nx then nx else q.1) < q.1 + q.2 then ((if q.1 < nx then nx else q.1), q.1 + q.2 - (if q.1 < nx then nx else q.1)) :: aprt (q.1 + q.2) r else aprt nx r
/-- some window has the place -/
def cov (ws : List (Int × Int)) (i : Int) : Bool := ws.any fun q => decide (q.1 ≤ i ∧ i < q.1 + q.2)
theorem cov_cons (q : Int × Int) (r : List (Int × Int)) (i : Int) : cov (q :: r) i = (decide (q.1 ≤ i ∧ i < q.1 + q.2) || cov r i) := rfl
theorem cov_perm {a b : List (Int × Int)} (h : a.Perm b) (i : Int) : cov a i = cov b i := by
  unfold cov
  exact h.any_eq
theorem cov_lo {r : List (Int × Int)} {i s : Int} (h : ∀ q ∈ r, s ≤ q.1) (hi : i < s) : cov r i = false := by
  unfold cov
  rw [List.any_eq_false]
  intro q hq
  have := h q hq
  simp only [decide_eq_true_eq]
  omega
/-- each place of a sorted list's windows, from nx on, is had once -/
theorem aprt_sum : ∀ (ws : List (Int × Int)) (nx : Int), ws.Pairwise (fun a b => a.1 ≤ b.1) → ∀ i, ls (aprt nx ws) (fun q => insN i q.1 q.2) = if nx ≤ i ∧ cov ws i = true then 1 else 0 := by
  intro ws
  induction ws with
  | nil =>
    intro nx _ i
    rw [if_neg (fun h => by cases h.2)]
    rfl
  | cons q r ih =>
    intro nx hp i
    obtain ⟨h1, h2⟩ := List.pairwise_cons.1 hp
    unfold aprt
    obtain ⟨b, hb⟩ : ∃ b, b = (if q.1 < nx then nx else q.1) := ⟨_, rfl⟩
    rw [← hb]
    have hb1 : nx ≤ b ∧ q.1 ≤ b ∧ (b = nx ∨ b = q.1) := by rw [hb]; split <;> omega
    by_cases hlt : b < q.1 + q.2
    · rw [if_pos hlt, ls_cons, ih _ h2 i, cov_cons]
      unfold insN
      show (if b ≤ i ∧ i < b + (q.1 + q.2 - b) then (1 : Int) else 0) + _ = _
      by_cases c : cov r i = true
      · have hq1 : q.1 ≤ i := by
          rcases Int.lt_or_le i q.1 with hh | hh
          · rw [cov_lo h1 hh] at c
            cases c
          · exact hh
        simp only [c, Bool.or_true, and_true]
        by_cases e1 : q.1 + q.2 ≤ i
        · rw [if_pos e1, if_neg (by omega), if_pos (by omega)]; rfl
        · rw [if_neg e1]
          by_cases e2 : nx ≤ i
          · rw [if_pos ⟨by omega, by omega⟩, if_pos e2]; rfl
          · rw [if_neg (by omega), if_neg e2]; rfl
      · have c' : cov r i = false := by simpa using c
        simp only [c', Bool.or_false, decide_eq_true_eq]
        rw [if_neg (c := _ ∧ false = true) (fun h => by cases h.2)]
        by_cases e1 : b ≤ i ∧ i < b + (q.1 + q.2 - b)
        · rw [if_pos e1, if_pos ⟨by omega, by omega, by omega⟩]; rfl
        · rw [if_neg e1, if_neg (by omega)]; rfl
    · rw [if_neg hlt, ih _ h2 i, cov_cons]
      by_cases c : cov r i = true
      · simp [c]
      · have c' : cov r i = false := by simpa using c
        simp only [c', Bool.or_false, decide_eq_true_eq]
        rw [if_neg (c := _ ∧ false = true) (fun h => by cases h.2), if_neg (by omega)]
theorem aprt_mem : ∀ (ws : List (Int × Int)) (nx : Int), ∀ q ∈ aprt nx ws, nx ≤ q.1 ∧ 1 ≤ q.2 ∧ ∃ p ∈ ws, q.1 + q.2 = p.1 + p.2 := by
  intro ws
  induction ws with
  | nil => intro nx q hq; cases hq
  | cons p r ih =>
    intro nx q hq
    unfold aprt at hq
    obtain ⟨b, hb⟩ : ∃ b, b = (if p.1 < nx then nx else p.1) := ⟨_, rfl⟩
    rw [← hb] at hq
    have hb1 : nx ≤ b := by rw [hb]; split <;> omega
    by_cases hlt : b < p.1 + p.2
    · rw [if_pos hlt] at hq
      rcases List.mem_cons.1 hq with rfl | hq
      · exact ⟨hb1, by show 1 ≤ p.1 + p.2 - b; omega, p, by simp, by show b + (p.1 + p.2 - b) = _; omega⟩
      · obtain ⟨h1, h2, y, hy, h3⟩ := ih _ q hq
        exact ⟨by omega, h2, y, by simp [hy], h3⟩
    · rw [if_neg hlt] at hq
      obtain ⟨h1, h2, y, hy, h3⟩ := ih _ q hq
      exact ⟨h1, h2, y, by simp [hy], h3⟩
theorem aprt_len : ∀ (ws : List (Int × Int)) (nx : Int), (aprt nx ws).length ≤ ws.length := by
  intro ws
  induction ws with
  | nil => intro nx; exact Nat.le_refl _
  | cons p r ih =>
    intro nx
    unfold aprt
    have h1 := ih (p.1 + p.2)
    have h2 := ih nx
    rw [List.length_cons]
    generalize (if p.1 < nx then nx else p.1) = b
    by_cases h : b < p.1 + p.2
    · rw [if_pos h, List.length_cons]; omega
    · rw [if_neg h]; omega
def cv1 (ws : List (Int × Int)) (i : Nat) : Int := if cov ws i = true then 1 else 0
/-- how many of the first places windows have that have no place twice -/
theorem aprt_pas {ws : List (Int × Int)} (hp : ws.Pairwise (fun a b => a.1 ≤ b.1)) (n : Nat) : ls (aprt 0 ws) (fun q => pas n q.1 q.2) = sm n (cv1 ws) := by
  have h1 : ls (aprt 0 ws) (fun q => pas n q.1 q.2) = ls (aprt 0 ws) (fun q => sm n (fun i => insN i q.1 q.2)) := ls_congr fun q hq => by
    obtain ⟨a, b, _⟩ := aprt_mem ws 0 q hq
    exact (sm_ins q.1 q.2 a b n).symm
  rw [h1, ← sm_ls]
  refine sm_congr n fun i _ => ?_
  rw [aprt_sum ws 0 hp i]
  unfold cv1
  by_cases c : cov ws i = true
  · rw [if_pos ⟨by omega, c⟩, if_pos c]
  · rw [if_neg (fun h => c h.2), if_neg c]
end Go.Proofs.Ytbghagpjkkmhpaa.Lt
