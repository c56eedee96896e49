/-
  What the program's and the document's tests of a byte, of digits and of a name answer. No conditions but that a byte is one.
-/
import Derived.Test.YtbehlhnnfdkmaaaGreatDoorLtShelf
import Derived.Test.YtbehlhnnfdkmaaaGreatDoorWdFind
namespace Go.Proofs.YtbehlhnnfdkmaaaGreatDoor.Lt
open Go.RowKit Wd

/-- a digit -/
def dg (b : Int) : Bool := decide (48 ≤ b) && decide (b ≤ 57)
/-- a letter -/
def ltr (b : Int) : Bool := (decide (97 ≤ b) && decide (b ≤ 122)) || (decide (65 ≤ b) && decide (b ≤ 90)) || decide (b = 95)

theorem isDigit_any (b : Int) (w : World) : Calls Tryz.prog 110 #[.int .u8 b] w fun e w' => e = .returned (.bool (dg b)) ∧ w' = w := by
  by_cases h : 48 ≤ b
  · by_cases h2 : b ≤ 57
    · have e1 : dg b = true := by unfold dg; simp; omega
      rw [e1]
      clear e1
      go_enter Tryz.func110, Tryz.ntmps110
      go_wp2
      go_ret
      exact ⟨rfl, rfl⟩
    · have e1 : dg b = false := by unfold dg; simp; omega
      rw [e1]
      clear e1
      go_enter Tryz.func110, Tryz.ntmps110
      go_wp2
      go_ret
      exact ⟨rfl, rfl⟩
  · have e1 : dg b = false := by unfold dg; simp; omega
    rw [e1]
    clear e1
    go_enter Tryz.func110, Tryz.ntmps110
    go_wp2
    go_ret
    exact ⟨rfl, rfl⟩
theorem isLetter_any (b : Int) (w : World) : Calls Tryz.prog 111 #[.int .u8 b] w fun e w' => e = .returned (.bool (ltr b)) ∧ w' = w := by
  rcases (by omega : (b < 65) ∨ (65 ≤ b ∧ b ≤ 90) ∨ (91 ≤ b ∧ b ≤ 94) ∨ (b = 95) ∨ (b = 96) ∨ (97 ≤ b ∧ b ≤ 122) ∨ (122 < b)) with h0 | ⟨h0, h1⟩ | ⟨h0, h1⟩ | h0 | h0 | ⟨h0, h1⟩ | h0
  · have e1 : ltr b = false := by unfold ltr; simp; omega
    rw [e1]
    clear e1
    go_enter Tryz.func111, Tryz.ntmps111
    go_wp2
    go_ret
    refine ⟨?_, rfl⟩
    first | rfl | (simp; omega)
  · have e1 : ltr b = true := by unfold ltr; simp; omega
    rw [e1]
    clear e1
    go_enter Tryz.func111, Tryz.ntmps111
    go_wp2
    go_ret
    refine ⟨?_, rfl⟩
    first | rfl | (simp; omega)
  · have e1 : ltr b = false := by unfold ltr; simp; omega
    rw [e1]
    clear e1
    go_enter Tryz.func111, Tryz.ntmps111
    go_wp2
    go_ret
    refine ⟨?_, rfl⟩
    first | rfl | (simp; omega)
  · have e1 : ltr b = true := by unfold ltr; simp; omega
    rw [e1]
    clear e1
    go_enter Tryz.func111, Tryz.ntmps111
    go_wp2
    go_ret
    refine ⟨?_, rfl⟩
    first | rfl | (simp; omega)
  · have e1 : ltr b = false := by unfold ltr; simp; omega
    rw [e1]
    clear e1
    go_enter Tryz.func111, Tryz.ntmps111
    go_wp2
    go_ret
    refine ⟨?_, rfl⟩
    first | rfl | (simp; omega)
  · have e1 : ltr b = true := by unfold ltr; simp; omega
    rw [e1]
    clear e1
    go_enter Tryz.func111, Tryz.ntmps111
    go_wp2
    go_ret
    refine ⟨?_, rfl⟩
    first | rfl | (simp; omega)
  · have e1 : ltr b = false := by unfold ltr; simp; omega
    rw [e1]
    clear e1
    go_enter Tryz.func111, Tryz.ntmps111
    go_wp2
    go_ret
    refine ⟨?_, rfl⟩
    first | rfl | (simp; omega)
theorem rletter_any (b : Int) (w : World) : Calls Tryz.prog 100 #[.int .u8 b] w fun e w' => e = .returned (.bool (ltr b)) ∧ w' = w := by
  rcases (by omega : (b < 65) ∨ (65 ≤ b ∧ b ≤ 90) ∨ (91 ≤ b ∧ b ≤ 94) ∨ (b = 95) ∨ (b = 96) ∨ (97 ≤ b ∧ b ≤ 122) ∨ (122 < b)) with h0 | ⟨h0, h1⟩ | ⟨h0, h1⟩ | h0 | h0 | ⟨h0, h1⟩ | h0
  · have e1 : ltr b = false := by unfold ltr; simp; omega
    rw [e1]
    clear e1
    go_enter Tryz.func100, Tryz.ntmps100
    go_wp2
    go_ret
    refine ⟨?_, rfl⟩
    first | rfl | (simp; omega)
  · have e1 : ltr b = true := by unfold ltr; simp; omega
    rw [e1]
    clear e1
    go_enter Tryz.func100, Tryz.ntmps100
    go_wp2
    go_ret
    refine ⟨?_, rfl⟩
    first | rfl | (simp; omega)
  · have e1 : ltr b = false := by unfold ltr; simp; omega
    rw [e1]
    clear e1
    go_enter Tryz.func100, Tryz.ntmps100
    go_wp2
    go_ret
    refine ⟨?_, rfl⟩
    first | rfl | (simp; omega)
  · have e1 : ltr b = true := by unfold ltr; simp; omega
    rw [e1]
    clear e1
    go_enter Tryz.func100, Tryz.ntmps100
    go_wp2
    go_ret
    refine ⟨?_, rfl⟩
    first | rfl | (simp; omega)
  · have e1 : ltr b = false := by unfold ltr; simp; omega
    rw [e1]
    clear e1
    go_enter Tryz.func100, Tryz.ntmps100
    go_wp2
    go_ret
    refine ⟨?_, rfl⟩
    first | rfl | (simp; omega)
  · have e1 : ltr b = true := by unfold ltr; simp; omega
    rw [e1]
    clear e1
    go_enter Tryz.func100, Tryz.ntmps100
    go_wp2
    go_ret
    refine ⟨?_, rfl⟩
    first | rfl | (simp; omega)
  · have e1 : ltr b = false := by unfold ltr; simp; omega
    rw [e1]
    clear e1
    go_enter Tryz.func100, Tryz.ntmps100
    go_wp2
    go_ret
    refine ⟨?_, rfl⟩
    first | rfl | (simp; omega)
theorem rdigit_any (b : Int) (w : World) : Calls Tryz.prog 101 #[.int .u8 b] w fun e w' => e = .returned (.bool (dg b)) ∧ w' = w := by
  rcases (by omega : (b < 48) ∨ (48 ≤ b ∧ b ≤ 57) ∨ (57 < b)) with h0 | ⟨h0, h1⟩ | h0
  · have e1 : dg b = false := by unfold dg; simp; omega
    rw [e1]
    clear e1
    go_enter Tryz.func101, Tryz.ntmps101
    go_wp2
    go_ret
    refine ⟨?_, rfl⟩
    first | rfl | (simp; omega)
  · have e1 : dg b = true := by unfold dg; simp; omega
    rw [e1]
    clear e1
    go_enter Tryz.func101, Tryz.ntmps101
    go_wp2
    go_ret
    refine ⟨?_, rfl⟩
    first | rfl | (simp; omega)
  · have e1 : dg b = false := by unfold dg; simp; omega
    rw [e1]
    clear e1
    go_enter Tryz.func101, Tryz.ntmps101
    go_wp2
    go_ret
    refine ⟨?_, rfl⟩
    first | rfl | (simp; omega)

theorem byte_at {s : ByteArray} {j : Nat} (hj : j < s.size) : s.data.toList[j]? = some s[j] := by
  rw [Array.getElem?_toList]
  exact Array.getElem?_eq_some_iff.2 ⟨hj, rfl⟩
theorem emp (s : ByteArray) : s.toList.isEmpty = !decide (0 < s.size) := by
  have h : s.toList.length = s.size := by rw [ByteArray.toList_eq]; rfl
  cases hl : s.toList with
  | nil => rw [hl] at h; simp at h; simp [← h]
  | cons a b => rw [hl] at h; simp at h; simp; omega
/-- all bytes of a text -/
def alB (f : Int → Bool) (s : ByteArray) : Bool := s.data.toList.all (fun c => f c.toNat)
theorem alB_no {f : Int → Bool} {s : ByteArray} {j : Nat} (hj : j < s.size) (h : f s[j].toNat = false) : alB f s = false := by
  unfold alB
  rw [List.all_eq_false]
  exact ⟨_, List.mem_of_getElem? (byte_at hj), by simp [h]⟩
theorem alB_yes {f : Int → Bool} {s : ByteArray} (h : ∀ l x, l < s.size → s.data.toList[l]? = some x → f x.toNat = true) : alB f s = true := by
  unfold alB
  rw [List.all_eq_true]
  intro x hx
  obtain ⟨l, hl⟩ := List.getElem?_of_mem hx
  exact h l x (by have := (List.getElem?_eq_some_iff.1 hl).1; simpa using this) hl
/-- digits, one or more -/
def dgs (s : ByteArray) : Bool := alB dg s && decide (0 < s.size)

theorem isDigits_any (s : ByteArray) (w : World) (hs : s.size ≤ 9223372036854775807) : Calls Tryz.prog 131 #[.string s] w fun e w' => e = .returned (.bool (dgs s)) ∧ w' = w := by
  obtain ⟨D, hD⟩ : ∃ D, D = dgs s := ⟨_, rfl⟩
  rw [← hD]
  have HD := hid hD
  clear hD
  go_enter Tryz.func131, Tryz.ntmps131
  go_wp2_with fail
  go_loopg [6] s.size (fun k i wr => ∃ j : Nat, j + k = s.size ∧ i = .int .i64 (j : Nat) ∧ (∀ l x, l < j → s.data.toList[l]? = some x → dg x.toNat = true) ∧ wr = w)
  case atStart => exact ⟨0, by omega, rfl, fun l x a => by omega, rfl⟩
  case round =>
    obtain ⟨j, hjk, rfl, hno, rfl⟩ := hrel
    have HNO := hid hno
    clear hno
    by_cases hj : j < s.size
    · cases hq : dg s[j].toNat with
      | true =>
        go_wp2_with (go_at_call 110; refine (isDigit_any _ _).mono ?_; rintro e w1 ⟨rfl, hw⟩; have hw := hw.symm; subst hw; rw [hq])
        go_roundg (gk - 1)
        case measure => omega
        case rel => exact ⟨j + 1, by omega, by simp, fun l x a b => by
          by_cases hl : l = j
          · subst hl
            rw [byte_at hj] at b
            injection b with b
            rw [← b]; exact hq
          · exact HNO.out l x (by omega) b, rfl⟩
      | false =>
        go_wp2_with (go_at_call 110; refine (isDigit_any _ _).mono ?_; rintro e w1 ⟨rfl, hw⟩; have hw := hw.symm; subst hw; rw [hq])
        go_ret
        refine ⟨?_, rfl⟩
        rw [HD.out, dgs, alB_no hj hq]
        rfl
    · have hk : j = s.size := by omega
      have hall : alB dg s = true := alB_yes (fun l x a b => HNO.out l x (by omega) b)
      have HA := hid hall
      clear hall
      go_wp2
      go_ret
      refine ⟨?_, rfl⟩
      rw [HD.out, dgs, HA.out]
      simp [emp]

/-- what a name may have -/
def nmc (b : Int) : Bool := ltr b || dg b
/-- a text's byte at a place -/
def bAt (s : ByteArray) (j : Nat) : Int := ((s.data.toList[j]?.getD 0).toNat : Nat)
theorem bAt_eq {s : ByteArray} {j : Nat} (hj : j < s.size) : bAt s j = (s[j].toNat : Nat) := by unfold bAt; rw [byte_at hj]; rfl
theorem bAt_bd (s : ByteArray) (j : Nat) : 0 ≤ bAt s j ∧ bAt s j < 256 := by
  unfold bAt
  have := (s.data.toList[j]?.getD 0).toNat_lt
  omega
/-- a name -/
def nameOk (s : ByteArray) : Bool := decide (0 < s.size) && decide (s.size ≤ 32) && !dg (bAt s 0) && alB nmc s

set_option maxHeartbeats 1000000 in
theorem isName_any (s : ByteArray) (w : World) (hs : s.size ≤ 9223372036854775807) : Calls Tryz.prog 93 #[.string s] w fun e w' => e = .returned (.bool (nameOk s)) ∧ w' = w := by
  obtain ⟨D, hD⟩ : ∃ D, D = nameOk s := ⟨_, rfl⟩
  rw [← hD]
  have HD := hid hD
  clear hD
  have he := emp s
  by_cases h0 : 0 < s.size
  · have e0 : s.toList.isEmpty = false := by rw [he]; simp [h0]
    have b0 := bAt_eq h0
    have B0 := hid b0
    clear he b0
    by_cases h32 : s.size ≤ 32
    · cases hq : dg s[0].toNat with
      | true =>
        go_enter Tryz.func93, Tryz.ntmps93
        go_wp2_with (go_at_call 110; refine (isDigit_any _ _).mono ?_; rintro e w1 ⟨rfl, hw⟩; have hw := hw.symm; subst hw; rw [hq])
        go_ret
        refine ⟨?_, rfl⟩
        rw [HD.out, nameOk, B0.out, hq]
        simp
      | false =>
        go_enter Tryz.func93, Tryz.ntmps93
        go_wp2_with (go_at_call 110; refine (isDigit_any _ _).mono ?_; rintro e w1 ⟨rfl, hw⟩; have hw := hw.symm; subst hw; rw [hq])
        go_loopg [18] s.size (fun k i wr => ∃ j : Nat, j + k = s.size ∧ i = .int .i64 (j : Nat) ∧ (∀ l x, l < j → s.data.toList[l]? = some x → nmc x.toNat = true) ∧ wr = w)
        case atStart => exact ⟨0, by omega, rfl, fun l x a => by omega, rfl⟩
        case round =>
          obtain ⟨j, hjk, rfl, hno, rfl⟩ := hrel
          have HNO := hid hno
          clear hno
          by_cases hj : j < s.size
          · have next : nmc s[j].toNat = true → ∀ l x, l < j + 1 → s.data.toList[l]? = some x → nmc x.toNat = true := fun hq l x a b => by
              by_cases hl : l = j
              · subst hl
                rw [byte_at hj] at b
                injection b with b
                rw [← b]; exact hq
              · exact HNO.out l x (by omega) b
            have NX := hid next
            clear next
            cases h1 : ltr s[j].toNat with
            | true =>
              go_wp2_with (first | (go_at_call 111; refine (isLetter_any _ _).mono ?_; rintro e w1 ⟨rfl, hw⟩; have hw := hw.symm; subst hw; rw [h1]) | (go_at_call 110; refine (isDigit_any _ _).mono ?_; rintro e w1 ⟨rfl, hw⟩; have hw := hw.symm; subst hw))
              go_roundg (gk - 1)
              case measure => omega
              case rel => exact ⟨j + 1, by omega, by simp, NX.out (by unfold nmc; rw [h1]; rfl), rfl⟩
            | false =>
              cases h2 : dg s[j].toNat with
              | true =>
                go_wp2_with (first | (go_at_call 111; refine (isLetter_any _ _).mono ?_; rintro e w1 ⟨rfl, hw⟩; have hw := hw.symm; subst hw; rw [h1]) | (go_at_call 110; refine (isDigit_any _ _).mono ?_; rintro e w1 ⟨rfl, hw⟩; have hw := hw.symm; subst hw; rw [h2]))
                go_roundg (gk - 1)
                case measure => omega
                case rel => exact ⟨j + 1, by omega, by simp, NX.out (by unfold nmc; rw [h1, h2]; rfl), rfl⟩
              | false =>
                go_wp2_with (first | (go_at_call 111; refine (isLetter_any _ _).mono ?_; rintro e w1 ⟨rfl, hw⟩; have hw := hw.symm; subst hw; rw [h1]) | (go_at_call 110; refine (isDigit_any _ _).mono ?_; rintro e w1 ⟨rfl, hw⟩; have hw := hw.symm; subst hw; rw [h2]))
                go_ret
                refine ⟨?_, rfl⟩
                rw [HD.out, nameOk, alB_no (f := nmc) hj (by unfold nmc; rw [h1, h2]; rfl)]
                simp
          · have hall : alB nmc s = true := alB_yes (fun l x a b => HNO.out l x (by omega) b)
            have HA := hid hall
            clear hall
            go_wp2
            go_ret
            refine ⟨?_, rfl⟩
            rw [HD.out, nameOk, HA.out, B0.out, hq]
            simp
            omega
    · go_enter Tryz.func93, Tryz.ntmps93
      go_wp2
      go_ret
      refine ⟨?_, rfl⟩
      rw [HD.out, nameOk]
      simp [h32]
  · have e0 : s.toList.isEmpty = true := by rw [he]; simp [h0]
    clear he
    go_enter Tryz.func93, Tryz.ntmps93
    go_wp2
    go_ret
    refine ⟨?_, rfl⟩
    rw [HD.out, nameOk]
    simp [h0]
end Go.Proofs.YtbehlhnnfdkmaaaGreatDoor.Lt
