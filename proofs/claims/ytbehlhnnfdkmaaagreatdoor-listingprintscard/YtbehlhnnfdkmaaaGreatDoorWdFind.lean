/-
  What the program's Find answers: the first operation with that name, if there is one. Condition: the names lie where they lie.
-/
import Derived.Test.YtbehlhnnfdkmaaaGreatDoorWdDec
import Derived.Deep.LoopGhost
namespace Go.Proofs.YtbehlhnnfdkmaaaGreatDoor.Wd
open Go.RowKit

/-- the operation of a name, and its error -/
def Found (s : ByteArray) (r e : Int) : Prop := (∃ k : Nat, 1 ≤ k ∧ k < 59 ∧ nm k = s ∧ (∀ j, 1 ≤ j → j < k → nm j ≠ s) ∧ r = (k : Nat) ∧ e = 0) ∨ ((∀ j, 1 ≤ j → j < 59 → nm j ≠ s) ∧ r = 0 ∧ e = 60)
theorem Found.one {s : ByteArray} {r e r' e' : Int} (h : Found s r e) (h' : Found s r' e') : r = r' ∧ e = e' := by
  rcases h with ⟨k, k1, k2, k3, k4, rfl, rfl⟩ | ⟨k1, rfl, rfl⟩ <;> rcases h' with ⟨l, l1, l2, l3, l4, rfl, rfl⟩ | ⟨l1, rfl, rfl⟩
  · have h1 : ¬ k < l := fun x => l4 k k1 x k3
    have h2 : ¬ l < k := fun x => k4 l l1 x l3
    exact ⟨by omega, rfl⟩
  · exact absurd k3 (l1 k k1 k2)
  · exact absurd l3 (k1 l l1 l2)
  · exact ⟨rfl, rfl⟩

theorem str_eq {t s : ByteArray} (h : (t.toList == s.toList) = true) : t = s := by
  have h' : t.toList = s.toList := by simpa using h
  rw [ByteArray.toList_eq, ByteArray.toList_eq] at h'
  exact ByteArray.ext (Array.toList_inj.mp h')
theorem str_ne {t s : ByteArray} (h : (t.toList == s.toList) = false) : t ≠ s := fun e => by
  rw [e] at h
  simp at h

theorem find_any (s : ByteArray) (w : World) (hm : Names w) : Calls Tryz.prog 92 #[.string s] w fun e w' => (∃ r x, e = .returned (.tuple #[.int .i64 r, .int .i64 x]) ∧ Found s r x) ∧ w' = w := by
  have HM := hid hm
  clear hm
  go_enter Tryz.func92, Tryz.ntmps92
  go_wp2_with fail
  go_loopg [4] 58 (fun k i wr => ∃ j : Nat, j + k = 59 ∧ 1 ≤ j ∧ i = .int .i64 (j : Nat) ∧ (∀ l, 1 ≤ l → l < j → nm l ≠ s) ∧ wr = w)
  case atStart => exact ⟨1, by omega, by omega, rfl, fun l a b => by omega, rfl⟩
  case round =>
    obtain ⟨j, hjk, hj1, rfl, hno, rfl⟩ := hrel
    have HNO := hid hno
    clear hno
    by_cases hj : j < 59
    · have c := HM.out.at_ j hj1 hj
      obtain ⟨t, ht⟩ : ∃ t, t = nm j := ⟨_, rfl⟩
      rw [← ht] at c
      have HT := hid ht
      clear ht
      cases hq : (t.toList == s.toList) with
      | true =>
        go_wp2
        go_ret2
        exact ⟨⟨_, _, rfl, .inl ⟨j, hj1, hj, by rw [← HT.out]; exact str_eq hq, HNO.out, rfl, rfl⟩⟩, rfl⟩
      | false =>
        go_wp2
        go_roundg (gk - 1)
        case measure => omega
        case rel => exact ⟨j + 1, by omega, by omega, by simp, fun l a b => by
          by_cases hl : l = j
          · rw [hl, ← HT.out]; exact str_ne hq
          · exact HNO.out l a (by omega), rfl⟩
    · have e : j = 59 := by omega
      subst e
      go_wp2
      go_ret2
      exact ⟨⟨_, _, rfl, .inr ⟨HNO.out, rfl, rfl⟩⟩, rfl⟩
end Go.Proofs.YtbehlhnnfdkmaaaGreatDoor.Wd
