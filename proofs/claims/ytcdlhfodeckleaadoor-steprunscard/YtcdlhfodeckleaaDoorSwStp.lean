/-
  What Step does, as a plain function; what a word that is read says. No conditions.
-/
import Derived.Test.YtcdlhfodeckleaaDoorSuRk
import Derived.Test.YtcdlhfodeckleaaDoorSuTr
namespace Go.Proofs.YtcdlhfodeckleaaDoor.Lt
open Go.RowKit Wd

/-- a word that is read: an operation, registers, a number -/
theorem nI_some {cs : List Int} {pc : Int} (h : nB cs pc = true) : ∃ (o m : Int) (a b c : Nat), nI cs pc = (o, (a : Int), (b : Int), (c : Int), m) ∧ 1 ≤ o ∧ o ≤ 58 ∧ a < 16 ∧ b < 16 ∧ c < 16 ∧ (o = 20 → 0 ≤ m) := by
  unfold nB at h
  unfold nI
  split at h
  · rename_i q
    rw [if_pos q]
    generalize cs[pc.toNat]?.getD 0 = n at h
    have hd : dE n = 0 := by simpa using h
    have hd' := hd
    unfold dI
    rw [if_pos hd]
    unfold dE at hd'
    split at hd'
    · cases hd'
    · rename_i q1
      split at hd'
      · rename_i q2
        unfold fit fitB at q2
        have q3 := of_decide_eq_true q2
        have hfc : fc (sh (opOf n)) ≤ 15 := by unfold fc; split <;> omega
        have ha : 0 ≤ dA n ∧ dA n < 16 := by unfold dA; omega
        have hb : 0 ≤ dB n ∧ dB n < 16 := by unfold dB; omega
        have ho : ((opOf n : Nat) : Int) = n / 16777216 := by unfold opOf; omega
        refine ⟨((opOf n : Nat) : Int), dM (sh (opOf n)) n, (dA n).toNat, (dB n).toNat, (dC (sh (opOf n)) n).toNat, ?_, by omega, by omega, by omega, by omega, by omega, ?_⟩
        · rw [Int.toNat_of_nonneg ha.1, Int.toNat_of_nonneg hb.1, Int.toNat_of_nonneg q3.2.2.1.1]
        · intro h20
          have h2 : opOf n = 20 := by omega
          have h3 := q3.2.2.2.1
          rw [h2] at h3 ⊢
          exact h3
      · cases hd'
  · cases h
/-- what Step does: where it goes on, the registers, the calls, what is wanted -/
def stp (cs : List Int) (fs : List (Int × Int)) (pc : Int) (r ks : List Int) (ck sl gn : Int) : Int × List Int × List Int × Array Value :=
  if nB cs pc = false then (pc, r, ks, wt 58 0 0 0 0 0 0 0 0 1 0)
  else
    let o := (nI cs pc).1
    let a := (nI cs pc).2.1
    let b := (nI cs pc).2.2.1
    let c := (nI cs pc).2.2.2.1
    let m := (nI cs pc).2.2.2.2
    if o = 58 then (pc, r, ks, wt 58 0 0 0 0 0 0 0 0 16 m)
    else if (o = 8 ∨ o = 9) ∧ gt r c = 0 then (pc, r, ks, wt 58 0 0 0 0 0 0 0 0 2 0)
    else if o = 20 ∧ 64 ≤ ks.length then (pc, r, ks, wt 58 0 0 0 0 0 0 0 0 3 0)
    else if o = 20 ∧ (fs.length : Int) ≤ m then (pc, r, ks, wt 58 0 0 0 0 0 0 0 0 1 0)
    else if o = 1 then (pc + 1, r, ks, (wt 0 0 0 0 0 0 0 0 0 0 0))
    else if 2 ≤ o ∧ o ≤ 16 then (pc + 1, r.set a.toNat (rk o m (gt r a) (gt r b) (gt r c)), ks, (wt 0 0 0 0 0 0 0 0 0 0 0))
    else if o = 17 then (m, r, ks, (wt 0 0 0 0 0 0 0 0 0 0 0))
    else if o = 18 then (if gt r a = 0 then m else pc + 1, r, ks, (wt 0 0 0 0 0 0 0 0 0 0 0))
    else if o = 19 then (if gt r a = 0 then pc + 1 else m, r, ks, (wt 0 0 0 0 0 0 0 0 0 0 0))
    else if o = 20 then ((fs.getD m.toNat (0, 0)).1, r, ks ++ [pc + 1], (wt 0 0 0 0 0 0 0 0 0 0 0))
    else if o = 21 then (if ks = [] then (pc + 1, r, ks, wt 24 0 0 0 0 0 0 0 0 0 0) else (ks.getD (ks.length - 1) 0, r, ks.take (ks.length - 1), (wt 0 0 0 0 0 0 0 0 0 0 0)))
    else if o = 25 then (pc + 1, r.set a.toNat (hd sl gn), ks, (wt 0 0 0 0 0 0 0 0 0 0 0))
    else if o = 26 then (pc + 1, r.set a.toNat (wrap64 ck), ks, (wt 0 0 0 0 0 0 0 0 0 0 0))
    else if o = 23 ∨ o = 24 then (pc + 1, r, ks, wt o 0 0 0 0 0 0 0 0 0 0)
    else (pc + 1, r, ks, wt o o a b c m (gt r a) (gt r b) (gt r c) 0 0)
/-- a context and a want are told, by what Step does -/
def StO (w : World) (s : Int × List Int × List Int × Array Value) (e : Ending) (w' : World) : Prop := StR w s.1 s.2.1 s.2.2.1 s.2.2.2 e w'
end Go.Proofs.YtcdlhfodeckleaaDoor.Lt
