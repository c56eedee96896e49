/-
  Whether ages are ages, and a number of lost values may be: what the program answers. Condition: the list is there, and has no more than 1048576 elements.
-/
import Derived.Test.YtnpbehcfbceclaaPoFn
namespace Go.Proofs.Ytnpbehcfbceclaa.Lt
open Go.RowKit Wd
attribute [local go_sem ↓] Go.wp_at_zero Go.wp_at_succ
set_option maxRecDepth 20000

/-- ages are ages, none above the one ahead of it -/
def agesB : List Ag → Int → Bool
  | [], _ => true
  | g :: r, above => decide (0 ≤ g.a) && decide (g.a ≤ above) && agesB r g.a
def lostB (q : Bool) (l : Int) : Bool := if q = true then decide (0 ≤ l) && decide (l ≤ 2147483647) else decide (l = 0)
theorem lost_any (q : Bool) (l : Int) (w : World) : Calls Try.prog 32 #[.bool q, .int .i64 l] w fun e w' => e = .returned (.bool (lostB q l)) ∧ w = w' := by
  unfold lostB
  cases q
  · rw [if_neg (by decide)]
    go_enter Try.func32, Try.ntmps32
    go_wp2
    go_ret
    exact ⟨rfl, rfl⟩
  · rw [if_pos rfl]
    by_cases h1 : 0 ≤ l
    · rw [decide_eq_true h1, Bool.true_and]
      go_enter Try.func32, Try.ntmps32
      go_wp2
      go_ret
      exact ⟨rfl, rfl⟩
    · rw [decide_eq_false h1, Bool.false_and]
      go_enter Try.func32, Try.ntmps32
      go_wp2
      go_ret
      exact ⟨rfl, rfl⟩
set_option maxHeartbeats 4000000 in
theorem ages_any {P : Nat → Prop} (w : World) (a : Option Addr) (n c : Nat) (xs : List Ag) (h : Ls eG P w (.slice a n c) xs) (hn : n ≤ 1048576) : Calls Try.prog 31 #[.slice a n c] w fun e w' => e = .returned (.bool (agesB xs 2147483647)) ∧ Gr w w' := by
  have HX := hid (show ∀ W, Gr w W → Ls eG P W (.slice a n c) xs from fun W g => h.gr g)
  have HL := hid h.len.1
  obtain ⟨R, hR⟩ : ∃ R, R = agesB xs 2147483647 := ⟨_, rfl⟩
  rw [← hR]
  have HR := hid hR
  clear h hR
  go_enter Try.func31, Try.ntmps31
  go_wp2_with fail
  go_loopg [3, 8] n (fun k9 ab i wr => ∃ (j : Nat) (above : Int), j + k9 = n ∧ i = .int .i64 (j : Int) ∧ ab = .int .i64 above ∧ R = agesB (xs.drop j) above ∧ Gr w wr)
  case atStart => exact ⟨0, 2147483647, by omega, rfl, rfl, HR.out, Gr.refl _⟩
  case round =>
    obtain ⟨j, above, hjk, rfl, rfl, hr, hg⟩ := hrel
    obtain ⟨V, hV⟩ : ∃ W, W = wr := ⟨_, rfl⟩
    subst hV
    have G := hid hg
    have HH := hid hr
    clear hr
    by_cases hj : j < n
    · have hj' : (j : Int) < (n : Int) := by omega
      have hjl : j < xs.length := by rw [← HL.out]; exact hj
      have hjx : xs[j]? = some xs[j] := List.getElem?_eq_getElem hjl
      have hd : xs.drop j = xs[j] :: xs.drop (j + 1) := List.drop_eq_getElem_cons hjl
      generalize xs[j] = u at hjx hd
      have HD := hid hd
      obtain ⟨g, o, cp, e, _, hgl, _, hc⟩ := (HX.out _ hg).get eG_len hjx
      injection e with e1 e2 e3
      subst e1 e3
      have g0 := hc 0 _ rfl
      have g1 := hc 1 _ rfl
      rw [Nat.add_zero] at g0
      clear hc e2 hjx hd hg
      by_cases h1 : u.a < 0
      · have HF := hid (show R = false by rw [HH.out, HD.out]; unfold agesB; rw [decide_eq_false (show ¬ 0 ≤ u.a by omega)]; rfl)
        go_wp2
        go_ret
        exact ⟨by rw [HF.out]; rfl, Ch.alloc G.out _⟩
      · by_cases h2 : above < u.a
        · have HF := hid (show R = false by rw [HH.out, HD.out]; unfold agesB; rw [decide_eq_false (show ¬ u.a ≤ above by omega), Bool.and_false]; rfl)
          go_wp2
          go_ret
          exact ⟨by rw [HF.out]; rfl, Ch.alloc G.out _⟩
        · have HF := hid (show R = agesB (xs.drop (j + 1)) u.a by rw [HH.out, HD.out]; show (decide (0 ≤ u.a) && decide (u.a ≤ above) && agesB (xs.drop (j + 1)) u.a) = _; rw [decide_eq_true (show 0 ≤ u.a by omega), decide_eq_true (show u.a ≤ above by omega)]; rfl)
          go_wp2
          go_roundg (gk - 1)
          case measure => omega
          case rel =>
            refine ⟨j + 1, u.a, by omega, ?_, rfl, HF.out, Ch.alloc G.out _⟩
            first | with_reducible rfl | simp
    · have hj' : ¬ ((j : Int) < (n : Int)) := by omega
      have HF := hid (show R = true by rw [HH.out, List.drop_of_length_le (by rw [← HL.out]; omega)]; rfl)
      clear hg
      go_wp2
      go_ret
      exact ⟨by rw [HF.out]; rfl, G.out⟩
end Go.Proofs.Ytnpbehcfbceclaa.Lt
