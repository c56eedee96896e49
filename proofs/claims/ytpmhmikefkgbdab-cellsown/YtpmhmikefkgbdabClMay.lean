/-
  Whether an access may be of a cell, by the program and by the document. No conditions.
-/
import Derived.Test.YtpmhmikefkgbdabClRef
import Derived.Test.YtpmhmikefkgbdabGnRegion
namespace Go.Proofs.Ytpmhmikefkgbdab.Lt
open Go.RowKit Wd
attribute [local go_sem ↓] Go.wp_at_zero Go.wp_at_succ

/-- may an access be of a cell that holds t? -/
def mbe (x : Ac) (t : Int) : Bool := decide (x.b = t) && (x.w || decide (x.a = x.b)) && (if x.k = 1 then !x.w else if x.k = 2 then x.w else if x.k = 3 then true else if x.k = 4 then x.w else false)
/-- its error, of these cells -/
def mayE (vs : List Int) (x : Ac) : Int := if isP x.c vs.length = true then (if mbe x (inC vs x.c) = true then 0 else 101) else 100
set_option maxHeartbeats 4000000 in
theorem maybe_any (y : Ac) (t : Int) (w : World) : Calls Try.prog 31 #[y.val, .int .i64 t] w fun e w' => e = .returned (.bool (mbe y t)) ∧ Gr w w' := by
  obtain ⟨c, k, b, a, x⟩ := y
  unfold Ac.val
  simp only
  rcases (by omega : k = 1 ∨ k = 2 ∨ k = 3 ∨ k = 4 ∨ (¬ k = 1 ∧ ¬ k = 2 ∧ ¬ k = 3 ∧ ¬ k = 4)) with rfl | rfl | rfl | rfl | ⟨h1, h2, h3, h4⟩
  · cases x with
    | true =>
      by_cases hb : b = t
      · subst hb
        have e : mbe ⟨c, 1, b, a, true⟩ b = false := by simp [mbe]
        rw [e]
        go_enter Try.func31, Try.ntmps31
        go_wp2
        go_ret
        exact ⟨rfl, Gr.alloc (Gr.refl w) _ _⟩
      · have hb' : (b == t) = false := by simpa using hb
        have e : mbe ⟨c, 1, b, a, true⟩ t = false := by simp [mbe, hb]
        rw [e]
        go_enter Try.func31, Try.ntmps31
        go_wp2
        go_ret
        exact ⟨rfl, Gr.alloc (Gr.refl w) _ _⟩
    | false =>
      by_cases hb : b = t
      · subst hb
        by_cases ha : a = b
        · subst ha
          have e : mbe ⟨c, 1, a, a, false⟩ a = true := by simp [mbe]
          rw [e]
          go_enter Try.func31, Try.ntmps31
          go_wp2
          go_ret
          exact ⟨rfl, Gr.alloc (Gr.refl w) _ _⟩
        · have ha' : (a == b) = false := by simpa using ha
          have e : mbe ⟨c, 1, b, a, false⟩ b = false := by simp [mbe, ha]
          rw [e]
          go_enter Try.func31, Try.ntmps31
          go_wp2
          go_ret
          exact ⟨rfl, Gr.alloc (Gr.refl w) _ _⟩
      · have hb' : (b == t) = false := by simpa using hb
        have e : mbe ⟨c, 1, b, a, false⟩ t = false := by simp [mbe, hb]
        rw [e]
        go_enter Try.func31, Try.ntmps31
        go_wp2
        go_ret
        exact ⟨rfl, Gr.alloc (Gr.refl w) _ _⟩
  · cases x with
    | true =>
      by_cases hb : b = t
      · subst hb
        have e : mbe ⟨c, 2, b, a, true⟩ b = true := by simp [mbe]
        rw [e]
        go_enter Try.func31, Try.ntmps31
        go_wp2
        go_ret
        exact ⟨rfl, Gr.alloc (Gr.refl w) _ _⟩
      · have hb' : (b == t) = false := by simpa using hb
        have e : mbe ⟨c, 2, b, a, true⟩ t = false := by simp [mbe, hb]
        rw [e]
        go_enter Try.func31, Try.ntmps31
        go_wp2
        go_ret
        exact ⟨rfl, Gr.alloc (Gr.refl w) _ _⟩
    | false =>
      by_cases hb : b = t
      · subst hb
        by_cases ha : a = b
        · subst ha
          have e : mbe ⟨c, 2, a, a, false⟩ a = false := by simp [mbe]
          rw [e]
          go_enter Try.func31, Try.ntmps31
          go_wp2
          go_ret
          exact ⟨rfl, Gr.alloc (Gr.refl w) _ _⟩
        · have ha' : (a == b) = false := by simpa using ha
          have e : mbe ⟨c, 2, b, a, false⟩ b = false := by simp [mbe, ha]
          rw [e]
          go_enter Try.func31, Try.ntmps31
          go_wp2
          go_ret
          exact ⟨rfl, Gr.alloc (Gr.refl w) _ _⟩
      · have hb' : (b == t) = false := by simpa using hb
        have e : mbe ⟨c, 2, b, a, false⟩ t = false := by simp [mbe, hb]
        rw [e]
        go_enter Try.func31, Try.ntmps31
        go_wp2
        go_ret
        exact ⟨rfl, Gr.alloc (Gr.refl w) _ _⟩
  · cases x with
    | true =>
      by_cases hb : b = t
      · subst hb
        have e : mbe ⟨c, 3, b, a, true⟩ b = true := by simp [mbe]
        rw [e]
        go_enter Try.func31, Try.ntmps31
        go_wp2
        go_ret
        exact ⟨rfl, Gr.alloc (Gr.refl w) _ _⟩
      · have hb' : (b == t) = false := by simpa using hb
        have e : mbe ⟨c, 3, b, a, true⟩ t = false := by simp [mbe, hb]
        rw [e]
        go_enter Try.func31, Try.ntmps31
        go_wp2
        go_ret
        exact ⟨rfl, Gr.alloc (Gr.refl w) _ _⟩
    | false =>
      by_cases hb : b = t
      · subst hb
        by_cases ha : a = b
        · subst ha
          have e : mbe ⟨c, 3, a, a, false⟩ a = true := by simp [mbe]
          rw [e]
          go_enter Try.func31, Try.ntmps31
          go_wp2
          go_ret
          exact ⟨rfl, Gr.alloc (Gr.refl w) _ _⟩
        · have ha' : (a == b) = false := by simpa using ha
          have e : mbe ⟨c, 3, b, a, false⟩ b = false := by simp [mbe, ha]
          rw [e]
          go_enter Try.func31, Try.ntmps31
          go_wp2
          go_ret
          exact ⟨rfl, Gr.alloc (Gr.refl w) _ _⟩
      · have hb' : (b == t) = false := by simpa using hb
        have e : mbe ⟨c, 3, b, a, false⟩ t = false := by simp [mbe, hb]
        rw [e]
        go_enter Try.func31, Try.ntmps31
        go_wp2
        go_ret
        exact ⟨rfl, Gr.alloc (Gr.refl w) _ _⟩
  · cases x with
    | true =>
      by_cases hb : b = t
      · subst hb
        have e : mbe ⟨c, 4, b, a, true⟩ b = true := by simp [mbe]
        rw [e]
        go_enter Try.func31, Try.ntmps31
        go_wp2
        go_ret
        exact ⟨rfl, Gr.alloc (Gr.refl w) _ _⟩
      · have hb' : (b == t) = false := by simpa using hb
        have e : mbe ⟨c, 4, b, a, true⟩ t = false := by simp [mbe, hb]
        rw [e]
        go_enter Try.func31, Try.ntmps31
        go_wp2
        go_ret
        exact ⟨rfl, Gr.alloc (Gr.refl w) _ _⟩
    | false =>
      by_cases hb : b = t
      · subst hb
        by_cases ha : a = b
        · subst ha
          have e : mbe ⟨c, 4, a, a, false⟩ a = false := by simp [mbe]
          rw [e]
          go_enter Try.func31, Try.ntmps31
          go_wp2
          go_ret
          exact ⟨rfl, Gr.alloc (Gr.refl w) _ _⟩
        · have ha' : (a == b) = false := by simpa using ha
          have e : mbe ⟨c, 4, b, a, false⟩ b = false := by simp [mbe, ha]
          rw [e]
          go_enter Try.func31, Try.ntmps31
          go_wp2
          go_ret
          exact ⟨rfl, Gr.alloc (Gr.refl w) _ _⟩
      · have hb' : (b == t) = false := by simpa using hb
        have e : mbe ⟨c, 4, b, a, false⟩ t = false := by simp [mbe, hb]
        rw [e]
        go_enter Try.func31, Try.ntmps31
        go_wp2
        go_ret
        exact ⟨rfl, Gr.alloc (Gr.refl w) _ _⟩
  · have q1 : (k == 1) = false := by simpa using h1
    have q2 : (k == 2) = false := by simpa using h2
    have q3 : (k == 3) = false := by simpa using h3
    have q4 : (k == 4) = false := by simpa using h4
    cases x with
    | true =>
      by_cases hb : b = t
      · subst hb
        have e : mbe ⟨c, k, b, a, true⟩ b = false := by simp [mbe, h1, h2, h3, h4]
        rw [e]
        go_enter Try.func31, Try.ntmps31
        go_wp2
        go_ret
        exact ⟨rfl, Gr.alloc (Gr.refl w) _ _⟩
      · have hb' : (b == t) = false := by simpa using hb
        have e : mbe ⟨c, k, b, a, true⟩ t = false := by simp [mbe, h1, h2, h3, h4, hb]
        rw [e]
        go_enter Try.func31, Try.ntmps31
        go_wp2
        go_ret
        exact ⟨rfl, Gr.alloc (Gr.refl w) _ _⟩
    | false =>
      by_cases hb : b = t
      · subst hb
        by_cases ha : a = b
        · subst ha
          have e : mbe ⟨c, k, a, a, false⟩ a = false := by simp [mbe, h1, h2, h3, h4]
          rw [e]
          go_enter Try.func31, Try.ntmps31
          go_wp2
          go_ret
          exact ⟨rfl, Gr.alloc (Gr.refl w) _ _⟩
        · have ha' : (a == b) = false := by simpa using ha
          have e : mbe ⟨c, k, b, a, false⟩ b = false := by simp [mbe, h1, h2, h3, h4, ha]
          rw [e]
          go_enter Try.func31, Try.ntmps31
          go_wp2
          go_ret
          exact ⟨rfl, Gr.alloc (Gr.refl w) _ _⟩
      · have hb' : (b == t) = false := by simpa using hb
        have e : mbe ⟨c, k, b, a, false⟩ t = false := by simp [mbe, h1, h2, h3, h4, hb]
        rw [e]
        go_enter Try.func31, Try.ntmps31
        go_wp2
        go_ret
        exact ⟨rfl, Gr.alloc (Gr.refl w) _ _⟩

end Go.Proofs.Ytpmhmikefkgbdab.Lt
