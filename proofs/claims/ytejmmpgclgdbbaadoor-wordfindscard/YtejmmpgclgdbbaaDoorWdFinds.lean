/-
  What the document's Find answers, and WordFinds' walk. Condition: the tables lie where they lie.
-/
import Derived.Test.YtejmmpgclgdbbaaDoorWdFind
import Derived.Test.YtejmmpgclgdbbaaDoorWdRef
namespace Go.Proofs.YtejmmpgclgdbbaaDoor.Wd
open Go.RowKit

theorem rfind_any (s : ByteArray) (w : World) : Calls Tryd.prog 17 #[.string s] w fun e w' => (∃ r x, e = .returned (.tuple #[.int .i64 r, .int .i64 x]) ∧ Found s r x) ∧ Gr w w' := by
  go_enter Tryd.func17, Tryd.ntmps17
  go_wp2_with fail
  go_loopg [4] 58 (fun k i wr => ∃ j : Nat, j + k = 59 ∧ 1 ≤ j ∧ i = .int .i64 (j : Nat) ∧ (∀ l, 1 ≤ l → l < j → nm l ≠ s) ∧ Gr w wr)
  case atStart => exact ⟨1, by omega, by omega, rfl, fun l a b => by omega, Gr.refl _⟩
  case round =>
    obtain ⟨j, hjk, hj1, rfl, hno, hg⟩ := hrel
    have HNO := hid hno
    have HG := hid hg
    clear hno hg
    by_cases hj : j < 59
    · have TB := hid (fun W => table_all j hj1 hj W)
      unfold rowV at TB
      obtain ⟨t, ht⟩ : ∃ t, t = nm j := ⟨_, rfl⟩
      rw [← ht] at TB
      have HT := hid ht
      clear ht
      go_wp2_with fail
      refine (TB.out _).mono ?_
      rintro e w1 ⟨rfl, g⟩
      have HG1 := hid (Gr.trans HG.out g)
      clear g
      cases hq : (t.toList == s.toList) with
      | true =>
        go_wp2
        go_ret2
        exact ⟨⟨_, _, rfl, .inl ⟨j, hj1, hj, by rw [← HT.out]; exact str_eq hq, HNO.out, rfl, rfl⟩⟩, HG1.out.alloc _ _⟩
      | false =>
        go_wp2
        go_roundg (gk - 1)
        case measure => omega
        case rel => exact ⟨j + 1, by omega, by omega, by simp, fun l a b => by
          by_cases hl : l = j
          · rw [hl, ← HT.out]; exact str_ne hq
          · exact HNO.out l a (by omega), HG1.out.alloc _ _⟩
    · have e : j = 59 := by omega
      subst e
      go_wp2
      go_ret2
      exact ⟨⟨_, _, rfl, .inr ⟨HNO.out, rfl, rfl⟩⟩, HG.out⟩

theorem finds_any (s : ByteArray) (w : World) (hn : Nums w) (hf : Forms w) (hm : Names w) :
    Calls Tryd.prog 4 #[.string s] w fun e w' => e = .returned (.bool true) ∧ Gr w w' := by
  have HN := hid hn
  have HF := hid hf
  have HM := hid hm
  clear hn hf hm
  go_enter Tryd.func4, Tryd.ntmps4
  go_wp2_with fail
  refine (find_any s _ HM.out).mono ?_
  rintro e w1 ⟨⟨r, x, rfl, hf1⟩, rfl⟩
  have HF1 := hid hf1
  clear hf1
  go_wp2_with fail
  refine (rfind_any s _).mono ?_
  rintro e w1 ⟨⟨r', x', rfl, hf2⟩, g⟩
  obtain ⟨rfl, rfl⟩ := HF1.out.one hf2
  have HG := hid g
  clear g hf2
  go_wp2_with fail
  refine (awake_any _ (HN.out.gr HG.out) (HF.out.gr HG.out)).mono ?_
  rintro e w2 ⟨rfl, g⟩
  go_wp2
  go_ret
  exact ⟨rfl, Gr.trans HG.out g⟩
end Go.Proofs.YtejmmpgclgdbbaaDoor.Wd
