/-
  What the document's trap, Len, Cap and Goes of layer 11 answer. Conditions: there is such a channel, or there is none.
-/
import Derived.Test.YtpkbgfneebjnjabCnLeave
namespace Go.Proofs.Ytpkbgfneebjnjab.Lt
open Go.RowKit Wd
attribute [local go_sem ↓] Go.wp_at_zero Go.wp_at_succ

/-- why a handle is none -/
def tC (n : Nat) (ch : Int) : Int := if ch = 0 ∨ (1 ≤ ch ∧ ch ≤ (n : Int)) then 0 else 4
theorem rtrap_any (ao : Option Addr) (n cap : Nat) (ch : Int) (w : World) : Calls Try.prog 52 #[.slice ao n cap, .int .i64 ch] w fun e w' => e = .returned (.int .i64 (tC n ch)) ∧ w' = w := by
  have HI := hid ris_any
  unfold tC
  by_cases h0 : ch = 0
  · rw [if_pos (.inl h0)]
    have e0 : (ch == 0) = true := by rw [h0]; rfl
    clear h0
    go_enter Try.func52, Try.ntmps52
    go_wp2
    go_ret
    exact ⟨rfl, rfl⟩
  · have e0 : (ch == 0) = false := by simpa using h0
    by_cases h1 : 1 ≤ ch ∧ ch ≤ (n : Int)
    · rw [if_pos (.inr h1)]
      have hd : decide (1 ≤ ch ∧ ch ≤ (n : Int)) = true := decide_eq_true h1
      clear h0 h1
      go_enter Try.func52, Try.ntmps52
      go_wp2_with (go_at_call 50; refine (HI.out _ _ _ _ _).mono ?_; rw [hd]; rintro e w1 ⟨rfl, hw⟩; have hw := hw.symm; subst hw)
      go_ret
      exact ⟨rfl, rfl⟩
    · rw [if_neg (fun q => q.elim h0 h1)]
      have hd : decide (1 ≤ ch ∧ ch ≤ (n : Int)) = false := decide_eq_false h1
      clear h0 h1
      go_enter Try.func52, Try.ntmps52
      go_wp2_with (go_at_call 50; refine (HI.out _ _ _ _ _).mono ?_; rw [hd]; rintro e w1 ⟨rfl, hw⟩; have hw := hw.symm; subst hw)
      go_ret
      exact ⟨rfl, rfl⟩
set_option maxHeartbeats 1000000 in
theorem rlen_no (ao : Option Addr) (n cap : Nat) (ch : Int) (w : World) (h : ¬ (1 ≤ ch ∧ ch ≤ (n : Int))) : Calls Try.prog 55 #[.slice ao n cap, .int .i64 ch] w fun e w' => e = .returned (.tuple #[.int .i64 0, .int .i64 (tC n ch)]) ∧ w' = w := by
  have hd : decide (1 ≤ ch ∧ ch ≤ (n : Int)) = false := decide_eq_false h
  have HI := hid ris_any
  have HTR := hid rtrap_any
  clear h
  go_enter Try.func55, Try.ntmps55
  go_wp2_with (first | (go_at_call 50; refine (HI.out _ _ _ _ _).mono ?_; rw [hd]; rintro e w1 ⟨rfl, hw⟩; have hw := hw.symm; subst hw) | (go_at_call 52; refine (HTR.out _ _ _ _ _).mono ?_; rintro e w2 ⟨rfl, hw⟩; have hw := hw.symm; subst hw))
  exact bodyPost_ret (v := .tuple #[.int .i64 0, .int .i64 (tC n ch)]) (by simp [results, Try.results55, go_sem]) rfl ⟨rfl, rfl⟩
set_option maxHeartbeats 1000000 in
theorem rcap_no (ao : Option Addr) (n cap : Nat) (ch : Int) (w : World) (h : ¬ (1 ≤ ch ∧ ch ≤ (n : Int))) : Calls Try.prog 57 #[.slice ao n cap, .int .i64 ch] w fun e w' => e = .returned (.tuple #[.int .i64 0, .int .i64 (tC n ch)]) ∧ w' = w := by
  have hd : decide (1 ≤ ch ∧ ch ≤ (n : Int)) = false := decide_eq_false h
  have HI := hid ris_any
  have HTR := hid rtrap_any
  clear h
  go_enter Try.func57, Try.ntmps57
  go_wp2_with (first | (go_at_call 50; refine (HI.out _ _ _ _ _).mono ?_; rw [hd]; rintro e w1 ⟨rfl, hw⟩; have hw := hw.symm; subst hw) | (go_at_call 52; refine (HTR.out _ _ _ _ _).mono ?_; rintro e w2 ⟨rfl, hw⟩; have hw := hw.symm; subst hw))
  exact bodyPost_ret (v := .tuple #[.int .i64 0, .int .i64 (tC n ch)]) (by simp [results, Try.results57, go_sem]) rfl ⟨rfl, rfl⟩
set_option maxHeartbeats 1000000 in
theorem rgoes_no (ao : Option Addr) (n cap : Nat) (ch : Int) (sd : Bool) (w : World) (h : ¬ (1 ≤ ch ∧ ch ≤ (n : Int))) : Calls Try.prog 33 #[.slice ao n cap, .int .i64 ch, .bool sd] w fun e w' => e = .returned (.tuple #[.bool false, .int .i64 (tC n ch)]) ∧ w' = w := by
  have hd : decide (1 ≤ ch ∧ ch ≤ (n : Int)) = false := decide_eq_false h
  have HI := hid ris_any
  have HTR := hid rtrap_any
  clear h
  go_enter Try.func33, Try.ntmps33
  go_wp2_with (first | (go_at_call 50; refine (HI.out _ _ _ _ _).mono ?_; rw [hd]; rintro e w1 ⟨rfl, hw⟩; have hw := hw.symm; subst hw) | (go_at_call 52; refine (HTR.out _ _ _ _ _).mono ?_; rintro e w2 ⟨rfl, hw⟩; have hw := hw.symm; subst hw))
  exact bodyPost_ret (v := .tuple #[.bool false, .int .i64 (tC n ch)]) (by simp [results, Try.results33, go_sem]) rfl ⟨rfl, rfl⟩
theorem rlen_yes (P : Nat → Prop) (ao : Option Addr) (n cap : Nat) (cs : List Cn) (k : Nat) (c : Cn) (w : World) (h : Rds P w (.slice ao n cap) cs) (hc : cs[k]? = some c) (hb : n ≤ 1599289640400) : Calls Try.prog 55 #[.slice ao n cap, .int .i64 ((k + 1 : Nat) : Int)] w fun e w' => e = .returned (.tuple #[.int .i64 (c.vs.length : Nat), .int .i64 0]) ∧ w' = w := by
  obtain ⟨raws, hl, hn, hf⟩ := h
  obtain ⟨x, hx⟩ : ∃ x, raws[k]? = some x := ⟨_, List.getElem?_eq_getElem (by rw [hn]; exact (List.getElem?_eq_some_iff.1 hc).1)⟩
  have hrd := hf k x c hx hc
  obtain ⟨gg, oo, cap', hv, _, hgl, _, hcs⟩ := hl.get eR_len hx
  injection hv with hv1 hv2 hv3
  subst hv1
  have hkn : k < n := by rw [hv2, hn]; exact (List.getElem?_eq_some_iff.1 hc).1
  have hd : decide (1 ≤ ((k + 1 : Nat) : Int) ∧ ((k + 1 : Nat) : Int) ≤ (n : Int)) = true := decide_eq_true (by omega)
  have HI := hid ris_any
  have hw1 : wrap64 (((k + 1 : Nat) : Int) - 1) = (k : Int) := by unfold wrap64; omega
  have k0 : (0 : Int) ≤ (k : Int) := by omega
  have k1 : (k : Int) < (n : Int) := by omega
  obtain ⟨ch, hch⟩ : ∃ ch : Int, ch = ((k + 1 : Nat) : Int) := ⟨_, rfl⟩
  rw [← hch] at hd hw1 ⊢
  clear hch
  obtain ⟨vo, vk, ev⟩ := hrd.v.form
  have c1 := hcs 1 _ rfl
  rw [ev] at c1
  generalize c.vs.length = m at c1 ⊢
  clear hcs hv2 hv3 hx hrd hf hl hn hc ev
  go_enter Try.func55, Try.ntmps55
  go_wp2_with (go_at_call 50; refine (HI.out _ _ _ _ _).mono ?_; rw [hd]; rintro e w1 ⟨rfl, hw⟩; have hw := hw.symm; subst hw)
  exact bodyPost_ret (v := .tuple #[.int .i64 (m : Nat), .int .i64 0]) (by simp [results, Try.results55, go_sem]) rfl ⟨rfl, rfl⟩
theorem rcap_yes (P : Nat → Prop) (ao : Option Addr) (n cap : Nat) (cs : List Cn) (k : Nat) (c : Cn) (w : World) (h : Rds P w (.slice ao n cap) cs) (hc : cs[k]? = some c) (hb : n ≤ 1599289640400) : Calls Try.prog 57 #[.slice ao n cap, .int .i64 ((k + 1 : Nat) : Int)] w fun e w' => e = .returned (.tuple #[.int .i64 c.cap, .int .i64 0]) ∧ w' = w := by
  obtain ⟨raws, hl, hn, hf⟩ := h
  obtain ⟨x, hx⟩ : ∃ x, raws[k]? = some x := ⟨_, List.getElem?_eq_getElem (by rw [hn]; exact (List.getElem?_eq_some_iff.1 hc).1)⟩
  have hrd := hf k x c hx hc
  obtain ⟨gg, oo, cap', hv, _, hgl, _, hcs⟩ := hl.get eR_len hx
  injection hv with hv1 hv2 hv3
  subst hv1
  have hkn : k < n := by rw [hv2, hn]; exact (List.getElem?_eq_some_iff.1 hc).1
  have hd : decide (1 ≤ ((k + 1 : Nat) : Int) ∧ ((k + 1 : Nat) : Int) ≤ (n : Int)) = true := decide_eq_true (by omega)
  have HI := hid ris_any
  have hw1 : wrap64 (((k + 1 : Nat) : Int) - 1) = (k : Int) := by unfold wrap64; omega
  have k0 : (0 : Int) ≤ (k : Int) := by omega
  have k1 : (k : Int) < (n : Int) := by omega
  obtain ⟨ch, hch⟩ : ∃ ch : Int, ch = ((k + 1 : Nat) : Int) := ⟨_, rfl⟩
  rw [← hch] at hd hw1 ⊢
  clear hch
  have c0 := hcs 0 _ rfl
  rw [hrd.cap] at c0
  simp only [Nat.add_zero] at c0
  generalize c.cap = m at c0 ⊢
  clear hcs hv2 hv3 hx hrd hf hl hn hc
  go_enter Try.func57, Try.ntmps57
  go_wp2_with (go_at_call 50; refine (HI.out _ _ _ _ _).mono ?_; rw [hd]; rintro e w1 ⟨rfl, hw⟩; have hw := hw.symm; subst hw)
  exact bodyPost_ret (v := .tuple #[.int .i64 m, .int .i64 0]) (by simp [results, Try.results57, go_sem]) rfl ⟨rfl, rfl⟩
end Go.Proofs.Ytpkbgfneebjnjab.Lt
