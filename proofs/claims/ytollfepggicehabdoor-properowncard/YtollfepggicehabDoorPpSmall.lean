/-
  What the small functions of layer 8 answer, the program's and the document's. No conditions.
-/
import Derived.Test.YtollfepggicehabDoorPpBase
namespace Go.Proofs.YtollfepggicehabDoor.Lt
open Go.RowKit Wd

/-- is a number a register? -/
def rg (n : Int) : Bool := decide (0 ≤ n ∧ n < 16)
/-- has an operation a target? -/
def hT (o : Int) : Bool := decide (o = 17 ∨ o = 18 ∨ o = 19)
/-- is it ending? -/
def en (o : Int) : Bool := decide (o = 17 ∨ o = 21 ∨ o = 24 ∨ o = 58)
theorem isreg_any (n : Int) (w : World) : Calls Tryd.prog 65 #[.int .i64 n] w fun e w' => e = .returned (.bool (rg n)) ∧ w' = w := by
  unfold rg
  by_cases h0 : 0 ≤ n
  · have d0 : decide (0 ≤ n) = true := decide_eq_true h0
    by_cases h1 : n < 16
    · have d1 : decide (n < 16) = true := decide_eq_true h1
      rw [decide_eq_true (show 0 ≤ n ∧ n < 16 from ⟨h0, h1⟩)]
      go_enter Tryd.func65, Tryd.ntmps65
      go_wp2
      go_ret
      exact ⟨rfl, rfl⟩
    · have d1 : decide (n < 16) = false := decide_eq_false h1
      rw [decide_eq_false (show ¬ (0 ≤ n ∧ n < 16) from fun q => h1 q.2)]
      go_enter Tryd.func65, Tryd.ntmps65
      go_wp2
      go_ret
      exact ⟨rfl, rfl⟩
  · have d0 : decide (0 ≤ n) = false := decide_eq_false h0
    rw [decide_eq_false (show ¬ (0 ≤ n ∧ n < 16) from fun q => h0 q.1)]
    go_enter Tryd.func65, Tryd.ntmps65
    go_wp2
    go_ret
    exact ⟨rfl, rfl⟩
theorem rreg_any (n : Int) (w : World) : Calls Tryd.prog 50 #[.int .i64 n] w fun e w' => e = .returned (.bool (rg n)) ∧ w' = w := by
  unfold rg
  by_cases h0 : 0 ≤ n
  · have d0 : decide (0 ≤ n) = true := decide_eq_true h0
    by_cases h1 : n < 16
    · have d1 : decide (n < 16) = true := decide_eq_true h1
      rw [decide_eq_true (show 0 ≤ n ∧ n < 16 from ⟨h0, h1⟩)]
      go_enter Tryd.func50, Tryd.ntmps50
      go_wp2
      go_ret
      exact ⟨rfl, rfl⟩
    · have d1 : decide (n < 16) = false := decide_eq_false h1
      rw [decide_eq_false (show ¬ (0 ≤ n ∧ n < 16) from fun q => h1 q.2)]
      go_enter Tryd.func50, Tryd.ntmps50
      go_wp2
      go_ret
      exact ⟨rfl, rfl⟩
  · have d0 : decide (0 ≤ n) = false := decide_eq_false h0
    rw [decide_eq_false (show ¬ (0 ≤ n ∧ n < 16) from fun q => h0 q.1)]
    go_enter Tryd.func50, Tryd.ntmps50
    go_wp2
    go_ret
    exact ⟨rfl, rfl⟩
theorem hast_any (o : Int) (w : World) : Calls Tryd.prog 62 #[.int .i64 o] w fun e w' => e = .returned (.bool (hT o)) ∧ w' = w := by
  rcases (by omega : o = 17 ∨ o = 18 ∨ o = 19 ∨ (¬ o = 17 ∧ ¬ o = 18 ∧ ¬ o = 19)) with rfl | rfl | rfl | ⟨h0, h1, h2⟩
  case inr.inr.inr =>
    have e : hT o = false := by unfold hT; simp [h0, h1, h2]
    rw [e]
    have b0 : (o == 17) = false := by simpa using h0
    have b1 : (o == 18) = false := by simpa using h1
    have b2 : (o == 19) = false := by simpa using h2
    go_enter Tryd.func62, Tryd.ntmps62
    go_wp2
    go_ret
    exact ⟨rfl, rfl⟩
  all_goals
    go_enter Tryd.func62, Tryd.ntmps62
    go_wp2
    go_ret
    exact ⟨rfl, rfl⟩
theorem jumps_any (o : Int) (w : World) : Calls Tryd.prog 52 #[.int .i64 o] w fun e w' => e = .returned (.bool (hT o)) ∧ w' = w := by
  rcases (by omega : o = 17 ∨ o = 18 ∨ o = 19 ∨ (¬ o = 17 ∧ ¬ o = 18 ∧ ¬ o = 19)) with rfl | rfl | rfl | ⟨h0, h1, h2⟩
  case inr.inr.inr =>
    have e : hT o = false := by unfold hT; simp [h0, h1, h2]
    rw [e]
    have b0 : (o == 17) = false := by simpa using h0
    have b1 : (o == 18) = false := by simpa using h1
    have b2 : (o == 19) = false := by simpa using h2
    go_enter Tryd.func52, Tryd.ntmps52
    go_wp2
    go_ret
    exact ⟨rfl, rfl⟩
  all_goals
    go_enter Tryd.func52, Tryd.ntmps52
    go_wp2
    go_ret
    exact ⟨rfl, rfl⟩
theorem ending_any (o : Int) (w : World) : Calls Tryd.prog 63 #[.int .i64 o] w fun e w' => e = .returned (.bool (en o)) ∧ w' = w := by
  rcases (by omega : o = 17 ∨ o = 21 ∨ o = 24 ∨ o = 58 ∨ (¬ o = 17 ∧ ¬ o = 21 ∧ ¬ o = 24 ∧ ¬ o = 58)) with rfl | rfl | rfl | rfl | ⟨h0, h1, h2, h3⟩
  case inr.inr.inr.inr =>
    have e : en o = false := by unfold en; simp [h0, h1, h2, h3]
    rw [e]
    have b0 : (o == 17) = false := by simpa using h0
    have b1 : (o == 21) = false := by simpa using h1
    have b2 : (o == 24) = false := by simpa using h2
    have b3 : (o == 58) = false := by simpa using h3
    go_enter Tryd.func63, Tryd.ntmps63
    go_wp2
    go_ret
    exact ⟨rfl, rfl⟩
  all_goals
    go_enter Tryd.func63, Tryd.ntmps63
    go_wp2
    go_ret
    exact ⟨rfl, rfl⟩
theorem ends_any (o : Int) (w : World) : Calls Tryd.prog 53 #[.int .i64 o] w fun e w' => e = .returned (.bool (en o)) ∧ w' = w := by
  rcases (by omega : o = 17 ∨ o = 21 ∨ o = 24 ∨ o = 58 ∨ (¬ o = 17 ∧ ¬ o = 21 ∧ ¬ o = 24 ∧ ¬ o = 58)) with rfl | rfl | rfl | rfl | ⟨h0, h1, h2, h3⟩
  case inr.inr.inr.inr =>
    have e : en o = false := by unfold en; simp [h0, h1, h2, h3]
    rw [e]
    have b0 : (o == 17) = false := by simpa using h0
    have b1 : (o == 21) = false := by simpa using h1
    have b2 : (o == 24) = false := by simpa using h2
    have b3 : (o == 58) = false := by simpa using h3
    go_enter Tryd.func53, Tryd.ntmps53
    go_wp2
    go_ret
    exact ⟨rfl, rfl⟩
  all_goals
    go_enter Tryd.func53, Tryd.ntmps53
    go_wp2
    go_ret
    exact ⟨rfl, rfl⟩
/-- may a case be? -/
def cf (c : Cs) : Bool := rg c.ch && rg c.val && rg c.ok && (!c.send || decide (c.ok = 0))
theorem checkCase_any (c : Cs) (w : World) : Calls Tryd.prog 47 #[.agg #[.bool c.send, .int .i64 c.ch, .int .i64 c.val, .int .i64 c.ok]] w fun e w' => e = .returned (.int .i64 (if cf c = true then 0 else 83)) ∧ Gr w w' := by
  obtain ⟨s, a, b, d⟩ := c
  have HR := hid (fun (n : Int) (W : World) => isreg_any n W)
  have K := hid (Gr.alloc (Gr.refl w) #[.bool s, .int .i64 a, .int .i64 b, .int .i64 d] 81)
  unfold cf
  simp only
  have Z := True.intro
  cases r1 : rg a with
  | false =>
    go_enter Tryd.func47, Tryd.ntmps47
    go_wp2_with (go_at_call 65; refine (HR.out _ _).mono ?_; rintro e w5 ⟨rfl, hw⟩; have hw := hw.symm; subst hw)
    all_goals
      go_ret
      exact ⟨by simp_all, K.out⟩
  | true =>
    cases r2 : rg b with
    | false =>
      go_enter Tryd.func47, Tryd.ntmps47
      go_wp2_with (go_at_call 65; refine (HR.out _ _).mono ?_; rintro e w5 ⟨rfl, hw⟩; have hw := hw.symm; subst hw)
      all_goals
        go_ret
        exact ⟨by simp_all, K.out⟩
    | true =>
      cases r3 : rg d with
      | false =>
        go_enter Tryd.func47, Tryd.ntmps47
        go_wp2_with (go_at_call 65; refine (HR.out _ _).mono ?_; rintro e w5 ⟨rfl, hw⟩; have hw := hw.symm; subst hw)
        all_goals
          go_ret
          exact ⟨by simp_all, K.out⟩
      | true =>
        cases s with
        | false =>
          go_enter Tryd.func47, Tryd.ntmps47
          go_wp2_with (go_at_call 65; refine (HR.out _ _).mono ?_; rintro e w5 ⟨rfl, hw⟩; have hw := hw.symm; subst hw)
          all_goals
            go_ret
            exact ⟨by simp_all, K.out⟩
        | true =>
          by_cases hd : d = 0
          · subst hd
            go_enter Tryd.func47, Tryd.ntmps47
            go_wp2_with (go_at_call 65; refine (HR.out _ _).mono ?_; rintro e w5 ⟨rfl, hw⟩; have hw := hw.symm; subst hw)
            all_goals
              go_ret
              exact ⟨by simp_all, K.out⟩
          · have hd' : (d == 0) = false := by simpa using hd
            go_enter Tryd.func47, Tryd.ntmps47
            go_wp2_with (go_at_call 65; refine (HR.out _ _).mono ?_; rintro e w5 ⟨rfl, hw⟩; have hw := hw.symm; subst hw)
            all_goals
              go_ret
              exact ⟨by simp_all, K.out⟩
/-- the first number from b on, below e, that is refused, and why -/
def fR (ef : Nat → Int) (b e : Nat) : Int × Int := match (List.range' b (e - b)).find? (fun n => decide (ef n ≠ 0)) with
  | some n => ((n : Int), ef n)
  | none => (0, 0)
theorem fR_at {ef : Nat → Int} {b e j : Nat} (hb : b ≤ j) (hj : j < e) (h : ∀ l, b ≤ l → l < j → ef l = 0) (hn : ef j ≠ 0) : fR ef b e = ((j : Int), ef j) := by
  have e1 : List.range' b (e - b) = List.range' b (j - b) ++ (j :: List.range' (j + 1) (e - j - 1)) := by
    rw [show e - b = (j - b) + (1 + (e - j - 1)) by omega, ← List.range'_append_1, ← List.range'_append_1 (s := b + (j - b)), show b + (j - b) = j by omega]
    rfl
  unfold fR
  rw [e1, List.find?_append]
  have e2 : (List.range' b (j - b)).find? (fun n => decide (ef n ≠ 0)) = none := by
    rw [List.find?_eq_none]
    intro x hx
    have := List.mem_range'_1.1 hx
    simp [h x (by omega) (by omega)]
  rw [e2]
  simp [hn]
theorem fR_none {ef : Nat → Int} {b e : Nat} (h : ∀ l, b ≤ l → l < e → ef l = 0) : fR ef b e = (0, 0) := by
  unfold fR
  have e2 : (List.range' b (e - b)).find? (fun n => decide (ef n ≠ 0)) = none := by
    rw [List.find?_eq_none]
    intro x hx
    have := List.mem_range'_1.1 hx
    simp [h x (by omega) (by omega)]
  rw [e2]
set_option maxRecDepth 20000 in
theorem first_funcs (w : World) (X0 : Nat) (b e : Nat) (he : e ≤ 4398046511104) (ef : Nat → Int)
    (HC : ∀ (n : Nat) (W : World), b ≤ n → n < e → Gr w W → Calls Tryd.prog 43 #[.int .i64 (n : Nat), .pointer (some ⟨X0, 0, none⟩)] W fun r w' => r = .returned (.int .i64 (ef n)) ∧ Gr W w') :
    Calls Tryd.prog 42 #[.int .i64 (b : Nat), .int .i64 (e : Nat), .func (.func 43) #[] #[.pointer (some ⟨X0, 0, none⟩)]] w fun r w' => r = .returned (.tuple #[.int .i64 (fR ef b e).1, .int .i64 (fR ef b e).2]) ∧ Gr w w' := by
  have HCL := hid HC
  obtain ⟨A, hA⟩ : ∃ x, x = (fR ef b e).1 := ⟨_, rfl⟩
  obtain ⟨B, hB⟩ : ∃ x, x = (fR ef b e).2 := ⟨_, rfl⟩
  rw [← hA, ← hB]
  have HA := hid hA
  have HB := hid hB
  clear HC hA hB
  by_cases hbe : b ≤ e
  · go_enter Tryd.func42, Tryd.ntmps42
    go_wp2_with fail
    go_loopg [8] (e - b) (fun m i wq => ∃ j : Nat, j + m = e ∧ b ≤ j ∧ i = .int .i64 ((j : Nat) : Int) ∧ (∀ l, b ≤ l → l < j → ef l = 0) ∧ Gr w wq)
    case atStart => exact ⟨b, by omega, Nat.le_refl _, rfl, fun l q1 q2 => by omega, Gr.refl w⟩
    case round =>
      obtain ⟨j, hjk, hbj, rfl, hal, hgr⟩ := hrel
      have HAL := hid hal
      have HG := hid hgr
      clear hal hgr
      by_cases hj : j < e
      · have j1 : (j : Int) < (e : Int) := by omega
        have HJ := hid (fun (W : World) (p : Gr w W) => HCL.out j W hbj hj p)
        have HX := hid (fun (q : ef j ≠ 0) => fR_at hbj hj HAL.out q)
        have HZ := hid (show ef j = 0 → ∀ l, b ≤ l → l < j + 1 → ef l = 0 from fun q l q1 q2 => by
          by_cases e1 : l = j
          · rw [e1]; exact q
          · exact HAL.out l q1 (by omega))
        generalize ef j = V at HJ HX HZ
        by_cases hV : V = 0
        · subst hV
          go_wp2_with (go_at_call 43; refine (HJ.out _ HG.out).mono ?_; rintro r w1 ⟨rfl, g1⟩; have G1 := hid (Gr.trans HG.out g1); clear g1)
          go_roundg (gk - 1)
          case measure => omega
          case rel => exact ⟨j + 1, by omega, by omega, by simp, by first | exact HZ.out rfl | exact HZ.out trivial, G1.out⟩
        · have hV' : (V == 0) = false := by simpa using hV
          have hA : A = (j : Nat) := by rw [HA.out, HX.out hV]
          have hB : B = V := by rw [HB.out, HX.out hV]
          subst hA hB
          go_wp2_with (go_at_call 43; refine (HJ.out _ HG.out).mono ?_; rintro r w1 ⟨rfl, g1⟩; have G1 := hid (Gr.trans HG.out g1); clear g1)
          go_ret2
          exact ⟨rfl, G1.out⟩
      · have jn : ¬ (j : Int) < (e : Int) := by omega
        have hz := fR_none (ef := ef) (b := b) (e := e) (fun l q1 q2 => HAL.out l q1 (by omega))
        have hA : A = 0 := by rw [HA.out, hz]
        have hB : B = 0 := by rw [HB.out, hz]
        subst hA hB
        clear hz
        go_wp2
        go_ret2
        exact ⟨rfl, HG.out⟩
  · have jn : ¬ (b : Int) < (e : Int) := by omega
    have hz := fR_none (ef := ef) (b := b) (e := e) (fun l q1 q2 => by omega)
    have hA : A = 0 := by rw [HA.out, hz]
    have hB : B = 0 := by rw [HB.out, hz]
    subst hA hB
    clear hz
    go_enter Tryd.func42, Tryd.ntmps42
    go_wp2_with fail
    go_loopg [8] 0 (fun m i wq => i = .int .i64 ((b : Nat) : Int) ∧ wq = w)
    case atStart => exact ⟨rfl, rfl⟩
    case round =>
      obtain ⟨rfl, rfl⟩ := hrel
      go_wp2
      go_ret2
      exact ⟨rfl, Gr.refl _⟩
set_option maxRecDepth 20000 in
theorem first_tables (w : World) (X0 : Nat) (b e : Nat) (he : e ≤ 4398046511104) (ef : Nat → Int)
    (HC : ∀ (n : Nat) (W : World), b ≤ n → n < e → Gr w W → Calls Tryd.prog 45 #[.int .i64 (n : Nat), .pointer (some ⟨X0, 0, none⟩)] W fun r w' => r = .returned (.int .i64 (ef n)) ∧ Gr W w') :
    Calls Tryd.prog 42 #[.int .i64 (b : Nat), .int .i64 (e : Nat), .func (.func 45) #[] #[.pointer (some ⟨X0, 0, none⟩)]] w fun r w' => r = .returned (.tuple #[.int .i64 (fR ef b e).1, .int .i64 (fR ef b e).2]) ∧ Gr w w' := by
  have HCL := hid HC
  obtain ⟨A, hA⟩ : ∃ x, x = (fR ef b e).1 := ⟨_, rfl⟩
  obtain ⟨B, hB⟩ : ∃ x, x = (fR ef b e).2 := ⟨_, rfl⟩
  rw [← hA, ← hB]
  have HA := hid hA
  have HB := hid hB
  clear HC hA hB
  by_cases hbe : b ≤ e
  · go_enter Tryd.func42, Tryd.ntmps42
    go_wp2_with fail
    go_loopg [8] (e - b) (fun m i wq => ∃ j : Nat, j + m = e ∧ b ≤ j ∧ i = .int .i64 ((j : Nat) : Int) ∧ (∀ l, b ≤ l → l < j → ef l = 0) ∧ Gr w wq)
    case atStart => exact ⟨b, by omega, Nat.le_refl _, rfl, fun l q1 q2 => by omega, Gr.refl w⟩
    case round =>
      obtain ⟨j, hjk, hbj, rfl, hal, hgr⟩ := hrel
      have HAL := hid hal
      have HG := hid hgr
      clear hal hgr
      by_cases hj : j < e
      · have j1 : (j : Int) < (e : Int) := by omega
        have HJ := hid (fun (W : World) (p : Gr w W) => HCL.out j W hbj hj p)
        have HX := hid (fun (q : ef j ≠ 0) => fR_at hbj hj HAL.out q)
        have HZ := hid (show ef j = 0 → ∀ l, b ≤ l → l < j + 1 → ef l = 0 from fun q l q1 q2 => by
          by_cases e1 : l = j
          · rw [e1]; exact q
          · exact HAL.out l q1 (by omega))
        generalize ef j = V at HJ HX HZ
        by_cases hV : V = 0
        · subst hV
          go_wp2_with (go_at_call 45; refine (HJ.out _ HG.out).mono ?_; rintro r w1 ⟨rfl, g1⟩; have G1 := hid (Gr.trans HG.out g1); clear g1)
          go_roundg (gk - 1)
          case measure => omega
          case rel => exact ⟨j + 1, by omega, by omega, by simp, by first | exact HZ.out rfl | exact HZ.out trivial, G1.out⟩
        · have hV' : (V == 0) = false := by simpa using hV
          have hA : A = (j : Nat) := by rw [HA.out, HX.out hV]
          have hB : B = V := by rw [HB.out, HX.out hV]
          subst hA hB
          go_wp2_with (go_at_call 45; refine (HJ.out _ HG.out).mono ?_; rintro r w1 ⟨rfl, g1⟩; have G1 := hid (Gr.trans HG.out g1); clear g1)
          go_ret2
          exact ⟨rfl, G1.out⟩
      · have jn : ¬ (j : Int) < (e : Int) := by omega
        have hz := fR_none (ef := ef) (b := b) (e := e) (fun l q1 q2 => HAL.out l q1 (by omega))
        have hA : A = 0 := by rw [HA.out, hz]
        have hB : B = 0 := by rw [HB.out, hz]
        subst hA hB
        clear hz
        go_wp2
        go_ret2
        exact ⟨rfl, HG.out⟩
  · have jn : ¬ (b : Int) < (e : Int) := by omega
    have hz := fR_none (ef := ef) (b := b) (e := e) (fun l q1 q2 => by omega)
    have hA : A = 0 := by rw [HA.out, hz]
    have hB : B = 0 := by rw [HB.out, hz]
    subst hA hB
    clear hz
    go_enter Tryd.func42, Tryd.ntmps42
    go_wp2_with fail
    go_loopg [8] 0 (fun m i wq => i = .int .i64 ((b : Nat) : Int) ∧ wq = w)
    case atStart => exact ⟨rfl, rfl⟩
    case round =>
      obtain ⟨rfl, rfl⟩ := hrel
      go_wp2
      go_ret2
      exact ⟨rfl, Gr.refl _⟩
set_option maxRecDepth 20000 in
theorem first_cases (w : World) (X0 : Nat) (b e : Nat) (he : e ≤ 4398046511104) (ef : Nat → Int)
    (HC : ∀ (n : Nat) (W : World), b ≤ n → n < e → Gr w W → Calls Tryd.prog 46 #[.int .i64 (n : Nat), .pointer (some ⟨X0, 0, none⟩)] W fun r w' => r = .returned (.int .i64 (ef n)) ∧ Gr W w') :
    Calls Tryd.prog 42 #[.int .i64 (b : Nat), .int .i64 (e : Nat), .func (.func 46) #[] #[.pointer (some ⟨X0, 0, none⟩)]] w fun r w' => r = .returned (.tuple #[.int .i64 (fR ef b e).1, .int .i64 (fR ef b e).2]) ∧ Gr w w' := by
  have HCL := hid HC
  obtain ⟨A, hA⟩ : ∃ x, x = (fR ef b e).1 := ⟨_, rfl⟩
  obtain ⟨B, hB⟩ : ∃ x, x = (fR ef b e).2 := ⟨_, rfl⟩
  rw [← hA, ← hB]
  have HA := hid hA
  have HB := hid hB
  clear HC hA hB
  by_cases hbe : b ≤ e
  · go_enter Tryd.func42, Tryd.ntmps42
    go_wp2_with fail
    go_loopg [8] (e - b) (fun m i wq => ∃ j : Nat, j + m = e ∧ b ≤ j ∧ i = .int .i64 ((j : Nat) : Int) ∧ (∀ l, b ≤ l → l < j → ef l = 0) ∧ Gr w wq)
    case atStart => exact ⟨b, by omega, Nat.le_refl _, rfl, fun l q1 q2 => by omega, Gr.refl w⟩
    case round =>
      obtain ⟨j, hjk, hbj, rfl, hal, hgr⟩ := hrel
      have HAL := hid hal
      have HG := hid hgr
      clear hal hgr
      by_cases hj : j < e
      · have j1 : (j : Int) < (e : Int) := by omega
        have HJ := hid (fun (W : World) (p : Gr w W) => HCL.out j W hbj hj p)
        have HX := hid (fun (q : ef j ≠ 0) => fR_at hbj hj HAL.out q)
        have HZ := hid (show ef j = 0 → ∀ l, b ≤ l → l < j + 1 → ef l = 0 from fun q l q1 q2 => by
          by_cases e1 : l = j
          · rw [e1]; exact q
          · exact HAL.out l q1 (by omega))
        generalize ef j = V at HJ HX HZ
        by_cases hV : V = 0
        · subst hV
          go_wp2_with (go_at_call 46; refine (HJ.out _ HG.out).mono ?_; rintro r w1 ⟨rfl, g1⟩; have G1 := hid (Gr.trans HG.out g1); clear g1)
          go_roundg (gk - 1)
          case measure => omega
          case rel => exact ⟨j + 1, by omega, by omega, by simp, by first | exact HZ.out rfl | exact HZ.out trivial, G1.out⟩
        · have hV' : (V == 0) = false := by simpa using hV
          have hA : A = (j : Nat) := by rw [HA.out, HX.out hV]
          have hB : B = V := by rw [HB.out, HX.out hV]
          subst hA hB
          go_wp2_with (go_at_call 46; refine (HJ.out _ HG.out).mono ?_; rintro r w1 ⟨rfl, g1⟩; have G1 := hid (Gr.trans HG.out g1); clear g1)
          go_ret2
          exact ⟨rfl, G1.out⟩
      · have jn : ¬ (j : Int) < (e : Int) := by omega
        have hz := fR_none (ef := ef) (b := b) (e := e) (fun l q1 q2 => HAL.out l q1 (by omega))
        have hA : A = 0 := by rw [HA.out, hz]
        have hB : B = 0 := by rw [HB.out, hz]
        subst hA hB
        clear hz
        go_wp2
        go_ret2
        exact ⟨rfl, HG.out⟩
  · have jn : ¬ (b : Int) < (e : Int) := by omega
    have hz := fR_none (ef := ef) (b := b) (e := e) (fun l q1 q2 => by omega)
    have hA : A = 0 := by rw [HA.out, hz]
    have hB : B = 0 := by rw [HB.out, hz]
    subst hA hB
    clear hz
    go_enter Tryd.func42, Tryd.ntmps42
    go_wp2_with fail
    go_loopg [8] 0 (fun m i wq => i = .int .i64 ((b : Nat) : Int) ∧ wq = w)
    case atStart => exact ⟨rfl, rfl⟩
    case round =>
      obtain ⟨rfl, rfl⟩ := hrel
      go_wp2
      go_ret2
      exact ⟨rfl, Gr.refl _⟩
set_option maxRecDepth 20000 in
theorem first_words (w : World) (X0 X1 : Nat) (b e : Nat) (he : e ≤ 4398046511104) (ef : Nat → Int)
    (HC : ∀ (n : Nat) (W : World), b ≤ n → n < e → Gr w W → Calls Tryd.prog 48 #[.int .i64 (n : Nat), .pointer (some ⟨X0, 0, none⟩), .pointer (some ⟨X1, 0, none⟩)] W fun r w' => r = .returned (.int .i64 (ef n)) ∧ Gr W w') :
    Calls Tryd.prog 42 #[.int .i64 (b : Nat), .int .i64 (e : Nat), .func (.func 48) #[] #[.pointer (some ⟨X0, 0, none⟩), .pointer (some ⟨X1, 0, none⟩)]] w fun r w' => r = .returned (.tuple #[.int .i64 (fR ef b e).1, .int .i64 (fR ef b e).2]) ∧ Gr w w' := by
  have HCL := hid HC
  obtain ⟨A, hA⟩ : ∃ x, x = (fR ef b e).1 := ⟨_, rfl⟩
  obtain ⟨B, hB⟩ : ∃ x, x = (fR ef b e).2 := ⟨_, rfl⟩
  rw [← hA, ← hB]
  have HA := hid hA
  have HB := hid hB
  clear HC hA hB
  by_cases hbe : b ≤ e
  · go_enter Tryd.func42, Tryd.ntmps42
    go_wp2_with fail
    go_loopg [8] (e - b) (fun m i wq => ∃ j : Nat, j + m = e ∧ b ≤ j ∧ i = .int .i64 ((j : Nat) : Int) ∧ (∀ l, b ≤ l → l < j → ef l = 0) ∧ Gr w wq)
    case atStart => exact ⟨b, by omega, Nat.le_refl _, rfl, fun l q1 q2 => by omega, Gr.refl w⟩
    case round =>
      obtain ⟨j, hjk, hbj, rfl, hal, hgr⟩ := hrel
      have HAL := hid hal
      have HG := hid hgr
      clear hal hgr
      by_cases hj : j < e
      · have j1 : (j : Int) < (e : Int) := by omega
        have HJ := hid (fun (W : World) (p : Gr w W) => HCL.out j W hbj hj p)
        have HX := hid (fun (q : ef j ≠ 0) => fR_at hbj hj HAL.out q)
        have HZ := hid (show ef j = 0 → ∀ l, b ≤ l → l < j + 1 → ef l = 0 from fun q l q1 q2 => by
          by_cases e1 : l = j
          · rw [e1]; exact q
          · exact HAL.out l q1 (by omega))
        generalize ef j = V at HJ HX HZ
        by_cases hV : V = 0
        · subst hV
          go_wp2_with (go_at_call 48; refine (HJ.out _ HG.out).mono ?_; rintro r w1 ⟨rfl, g1⟩; have G1 := hid (Gr.trans HG.out g1); clear g1)
          go_roundg (gk - 1)
          case measure => omega
          case rel => exact ⟨j + 1, by omega, by omega, by simp, by first | exact HZ.out rfl | exact HZ.out trivial, G1.out⟩
        · have hV' : (V == 0) = false := by simpa using hV
          have hA : A = (j : Nat) := by rw [HA.out, HX.out hV]
          have hB : B = V := by rw [HB.out, HX.out hV]
          subst hA hB
          go_wp2_with (go_at_call 48; refine (HJ.out _ HG.out).mono ?_; rintro r w1 ⟨rfl, g1⟩; have G1 := hid (Gr.trans HG.out g1); clear g1)
          go_ret2
          exact ⟨rfl, G1.out⟩
      · have jn : ¬ (j : Int) < (e : Int) := by omega
        have hz := fR_none (ef := ef) (b := b) (e := e) (fun l q1 q2 => HAL.out l q1 (by omega))
        have hA : A = 0 := by rw [HA.out, hz]
        have hB : B = 0 := by rw [HB.out, hz]
        subst hA hB
        clear hz
        go_wp2
        go_ret2
        exact ⟨rfl, HG.out⟩
  · have jn : ¬ (b : Int) < (e : Int) := by omega
    have hz := fR_none (ef := ef) (b := b) (e := e) (fun l q1 q2 => by omega)
    have hA : A = 0 := by rw [HA.out, hz]
    have hB : B = 0 := by rw [HB.out, hz]
    subst hA hB
    clear hz
    go_enter Tryd.func42, Tryd.ntmps42
    go_wp2_with fail
    go_loopg [8] 0 (fun m i wq => i = .int .i64 ((b : Nat) : Int) ∧ wq = w)
    case atStart => exact ⟨rfl, rfl⟩
    case round =>
      obtain ⟨rfl, rfl⟩ := hrel
      go_wp2
      go_ret2
      exact ⟨rfl, Gr.refl _⟩
end Go.Proofs.YtollfepggicehabDoor.Lt
