/-
  What the program's register and number answer. No conditions but that a text is no longer than one can be.
-/
import Derived.Test.YtbehlhnnfdkmaaaGreatDoorLtByte
import Derived.Lib.SmallJoins
namespace Go.Proofs.YtbehlhnnfdkmaaaGreatDoor.Lt
open Go.RowKit Wd

/-- what stands behind a text's first byte -/
def tl (s : ByteArray) : ByteArray := s.extract 1 s.size
/-- the number that digits tell -/
def dv (l : List UInt8) : Nat := l.foldl (fun a c => a * 10 + (c.toNat - 48)) 0

theorem decFrom_dv : ∀ (l : List UInt8) (a : Nat), l.all (fun c => dg c.toNat) = true → Lib.decFrom a l = some (l.foldl (fun a c => a * 10 + (c.toNat - 48)) a) := by
  intro l
  induction l with
  | nil => intro a _; rfl
  | cons c r ih =>
    intro a h
    rw [List.all_cons, Bool.and_eq_true] at h
    have hc : 48 ≤ c.toNat ∧ c.toNat ≤ 57 := by
      have := h.1
      unfold dg at this
      simp at this
      omega
    have hd : Lib.digitVal c = some (c.toNat - 48) := by
      unfold Lib.digitVal
      simp [hc.1, hc.2]
    unfold Lib.decFrom
    rw [hd]
    exact ih _ h.2


theorem Gr.of_below {w w' : World} (h : Below w.heap.size w w') : Gr w w' := ⟨h.1, h.2, h.3, h.4, fun k hk _ => h.5 k hk⟩
theorem atoi_dv (s : ByteArray) (n : Int) (hl : s.size ≤ 18) (h : Lib.atoi s.data.toList = some n) (w : World) : Calls Tryz.prog 132 #[.string s] w fun e w' => e = .returned (.tuple #[.int .i64 n, .nilIface]) ∧ Gr w w' := by
  refine (Any.strconv_Atoi Tryz.lays172 s n hl h w).mono ?_
  rintro e w1 ⟨rfl, t, rfl⟩
  exact ⟨rfl, Gr.of_below (Joins.below_bytesWorld _ _ _ _ (Nat.le_refl _))⟩
theorem tl_size {s : ByteArray} (h : 0 < s.size) : (tl s).size = s.size - 1 := by unfold tl; rw [ByteArray.size_extract]; omega
theorem tl_list (s : ByteArray) : (tl s).data.toList = s.data.toList.drop 1 := by
  unfold tl
  rw [Lib.extract_data]
  simp
  exact List.take_of_length_le (by simp)
theorem list_cons {s : ByteArray} (h : 0 < s.size) : s.data.toList = s[0] :: (tl s).data.toList := by
  rw [tl_list]
  have e : s.data.toList[0]? = some s[0] := byte_at h
  cases hl : s.data.toList with
  | nil => rw [hl] at e; simp at e
  | cons a b =>
    rw [hl] at e
    simp at e
    simp [e]
/-- digits, read as a number -/
theorem atoi_dgs {s : ByteArray} (h : dgs s = true) : Lib.atoi s.data.toList = some ((dv s.data.toList : Nat) : Int) := by
  unfold dgs at h
  rw [Bool.and_eq_true, decide_eq_true_eq] at h
  have e := list_cons h.2
  have ha := h.1
  unfold alB at ha
  have hd := decFrom_dv _ 0 ha
  rw [e] at ha hd ⊢
  rw [List.all_cons, Bool.and_eq_true] at ha
  have hc := ha.1
  unfold dg at hc
  simp at hc
  unfold Lib.atoi
  have n45 : (s[0] == 45) = false := by
    rw [beq_eq_false_iff_ne]
    intro x
    rw [x] at hc
    simp at hc
  have n43 : (s[0] == 43) = false := by
    rw [beq_eq_false_iff_ne]
    intro x
    rw [x] at hc
    simp at hc
  dsimp only
  rw [n45, n43]
  simp only [Bool.false_eq_true, if_false]
  unfold Lib.decNat
  simp only [List.isEmpty_cons, Bool.false_eq_true, if_false]
  rw [hd]
  rfl
theorem atoi_minus {s : ByteArray} (h0 : 0 < s.size) (h1 : s[0].toNat = 45) (h : dgs (tl s) = true) : Lib.atoi s.data.toList = some (-((dv (tl s).data.toList : Nat) : Int)) := by
  unfold dgs at h
  rw [Bool.and_eq_true, decide_eq_true_eq] at h
  have ha := h.1
  unfold alB at ha
  have hd := decFrom_dv _ 0 ha
  have e45 : s[0] = 45 := UInt8.toNat_inj.1 h1
  rw [list_cons h0]
  unfold Lib.atoi
  simp only [e45, beq_self_eq_true, if_true]
  have hne : (tl s).data.toList.isEmpty = false := by
    have := list_cons h.2
    rw [this]
    rfl
  unfold Lib.decNat
  rw [hne]
  simp only [Bool.false_eq_true, if_false]
  rw [hd]
  rfl

/-- is a word like a register? -/
def regL (s : ByteArray) : Bool := decide (0 < s.size) && decide (bAt s 0 = 114) && dgs (tl s) && !(decide (1 < (tl s).size) && decide (bAt (tl s) 0 = 48))
/-- its number, sixteen for all that have three digits and more -/
def regV (s : ByteArray) : Int := if 2 < (tl s).size then 16 else ((dv (tl s).data.toList : Nat) : Int)
/-- the two that register answers -/
def regR (s : ByteArray) : Int := if regL s = true then regV s else 0

set_option maxHeartbeats 1000000 in
theorem register_any (s : ByteArray) (w : World) (hs : s.size ≤ 9223372036854775807) : Calls Tryz.prog 122 #[.string s] w fun e w' => e = .returned (.tuple #[.int .i64 (regR s), .bool (regL s)]) ∧ Gr w w' := by
  have he := emp s
  by_cases h0 : 0 < s.size
  · have e0 : s.toList.isEmpty = false := by rw [he]; simp [h0]
    have b0 := bAt_eq h0
    clear he
    have t0 := tl_size h0
    by_cases h1 : s[0].toNat = 114
    · have h1' : ((s[0].toNat : Nat) : Int) = 114 := by omega
      obtain ⟨t, ht⟩ : ∃ t, t = tl s := ⟨_, rfl⟩
      have ht' : s.extract 1 s.size = t := by rw [ht]; rfl
      rw [← ht] at t0
      cases hd : dgs t with
      | false =>
        have e1 : regL s = false := by unfold regL; rw [← ht, hd]; simp
        have e2 : regR s = 0 := by unfold regR; rw [e1]; rfl
        rw [e1, e2]
        clear e1 e2 b0 ht
        go_enter Tryz.func122, Tryz.ntmps122
        go_wp2_with (go_at_call 131; refine (isDigits_any _ _ (by omega)).mono ?_; rintro e w1 ⟨rfl, hw⟩; have hw := hw.symm; subst hw; rw [hd])
        go_ret2
        exact ⟨rfl, Gr.refl _⟩
      | true =>
        have hd0 : 0 < t.size := by
          unfold dgs at hd
          simp at hd
          exact hd.2
        have c0 := bAt_eq hd0
        have at0 := atoi_dgs hd
        by_cases h2 : 1 < t.size ∧ t[0].toNat = 48
        · have e1 : regL s = false := by unfold regL; rw [← ht, c0]; simp [h2]
          have e2 : regR s = 0 := by unfold regR; rw [e1]; rfl
          rw [e1, e2]
          have h3 := h2.1
          have h4 : ((t[0].toNat : Nat) : Int) = 48 := by have := h2.2; omega
          clear e1 e2 b0 ht c0 h2 at0
          go_enter Tryz.func122, Tryz.ntmps122
          go_wp2_with (go_at_call 131; refine (isDigits_any _ _ (by omega)).mono ?_; rintro e w1 ⟨rfl, hw⟩; have hw := hw.symm; subst hw; rw [hd])
          go_ret2
          exact ⟨rfl, Gr.refl _⟩
        · have e1 : regL s = true := by unfold regL; rw [← ht, hd, b0, c0, h1']; simp [h0]; omega
          have e2 : regR s = regV s := by unfold regR; rw [e1]; rfl
          rw [e1, e2]
          unfold regV
          rw [← ht]
          clear e1 e2 b0 ht c0
          by_cases h5 : 2 < t.size
          · rw [if_pos h5]
            have h4 : ¬ ((t[0].toNat : Nat) : Int) = 48 := by omega
            clear at0 h2
            go_enter Tryz.func122, Tryz.ntmps122
            go_wp2_with (go_at_call 131; refine (isDigits_any _ _ (by omega)).mono ?_; rintro e w1 ⟨rfl, hw⟩; have hw := hw.symm; subst hw; rw [hd])
            go_ret2
            exact ⟨rfl, Gr.refl _⟩
          · rw [if_neg h5]
            obtain ⟨V, hV⟩ : ∃ V : Int, V = ((dv t.data.toList : Nat) : Int) := ⟨_, rfl⟩
            rw [← hV] at at0 ⊢
            clear hV
            by_cases h6 : 1 < t.size
            · have h4 : ¬ ((t[0].toNat : Nat) : Int) = 48 := by omega
              clear h2
              go_enter Tryz.func122, Tryz.ntmps122
              go_wp2_with (first | (go_at_call 131; refine (isDigits_any _ _ (by omega)).mono ?_; rintro e w1 ⟨rfl, hw⟩; have hw := hw.symm; subst hw; rw [hd]) | (go_at_call 132; refine (atoi_dv _ _ (by omega) at0 _).mono ?_; rintro e w1 ⟨rfl, hg⟩))
              go_quiet (fail)
              go_wp2
              go_ret2
              exact ⟨rfl, hg.drewN _⟩
            · clear h2
              go_enter Tryz.func122, Tryz.ntmps122
              go_wp2_with (first | (go_at_call 131; refine (isDigits_any _ _ (by omega)).mono ?_; rintro e w1 ⟨rfl, hw⟩; have hw := hw.symm; subst hw; rw [hd]) | (go_at_call 132; refine (atoi_dv _ _ (by omega) at0 _).mono ?_; rintro e w1 ⟨rfl, hg⟩))
              go_quiet (fail)
              go_wp2
              go_ret2
              exact ⟨rfl, hg.drewN _⟩
    · have h1' : ¬ ((s[0].toNat : Nat) : Int) = 114 := by omega
      have e1 : regL s = false := by unfold regL; rw [b0]; simp [h1']
      have e2 : regR s = 0 := by unfold regR; rw [e1]; rfl
      rw [e1, e2]
      clear e1 e2 b0 t0
      go_enter Tryz.func122, Tryz.ntmps122
      go_wp2
      go_ret2
      exact ⟨rfl, Gr.refl _⟩
  · have e0 : s.toList.isEmpty = true := by rw [he]; simp [h0]
    have e1 : regL s = false := by unfold regL; simp [h0]
    have e2 : regR s = 0 := by unfold regR; rw [e1]; rfl
    rw [e1, e2]
    clear he e1 e2
    go_enter Tryz.func122, Tryz.ntmps122
    go_wp2
    go_ret2
    exact ⟨rfl, Gr.refl _⟩

/-- does a number begin with a minus? -/
def mi (s : ByteArray) : Bool := decide (0 < s.size) && decide (bAt s 0 = 45)
/-- a number's digits -/
def nd (s : ByteArray) : ByteArray := if mi s = true then tl s else s
/-- is a word a number? -/
def numL (s : ByteArray) : Bool := dgs (nd s) && decide ((nd s).size ≤ 9)
/-- the number that it is -/
def numV (s : ByteArray) : Int := if mi s = true then -((dv (nd s).data.toList : Nat) : Int) else ((dv (nd s).data.toList : Nat) : Int)
def numR (s : ByteArray) : Int := if numL s = true then numV s else 0
theorem nd_atoi {s : ByteArray} (h : dgs (nd s) = true) : Lib.atoi s.data.toList = some (numV s) := by
  unfold numV
  cases hm : mi s with
  | true =>
    have hm' := hm
    unfold mi at hm'
    simp at hm'
    rw [bAt_eq hm'.1] at hm'
    unfold nd at h ⊢
    rw [hm] at h ⊢
    simp only [if_true] at h ⊢
    exact atoi_minus hm'.1 (by omega) h
  | false =>
    unfold nd at h ⊢
    rw [hm] at h ⊢
    simp only [Bool.false_eq_true, if_false] at h ⊢
    exact atoi_dgs h
theorem nd_size (s : ByteArray) : (nd s).size ≤ s.size ∧ s.size ≤ (nd s).size + 1 := by
  unfold nd
  split
  · rename_i h
    unfold mi at h
    simp at h
    rw [tl_size h.1]
    omega
  · omega

set_option maxHeartbeats 1000000 in
theorem number_any (s : ByteArray) (w : World) (hs : s.size ≤ 9223372036854775807) : Calls Tryz.prog 123 #[.string s] w fun e w' => e = .returned (.tuple #[.int .i64 (numR s), .bool (numL s)]) ∧ Gr w w' := by
  obtain ⟨V, hV⟩ : ∃ V, V = numR s := ⟨_, rfl⟩
  obtain ⟨B, hB⟩ : ∃ B, B = numL s := ⟨_, rfl⟩
  rw [← hV, ← hB]
  have HV := hid hV
  have HB := hid hB
  clear hV hB
  have he := emp s
  have nz := nd_size s
  have fin : ∀ (t : ByteArray), nd s = t → (dgs t = false → V = 0 ∧ B = false) ∧ (9 < t.size → V = 0 ∧ B = false) ∧ (dgs t = true → t.size ≤ 9 → Lib.atoi s.data.toList = some V ∧ B = true) := by
    intro t ht
    rw [HV.out, HB.out]
    refine ⟨fun h => ?_, fun h => ?_, fun h h9 => ?_⟩
    · have e1 : numL s = false := by unfold numL; rw [ht, h]; rfl
      exact ⟨by unfold numR; rw [e1]; rfl, e1⟩
    · have e1 : numL s = false := by unfold numL; rw [ht]; simp; intro _; omega
      exact ⟨by unfold numR; rw [e1]; rfl, e1⟩
    · have e1 : numL s = true := by unfold numL; rw [ht, h]; simp [h9]
      refine ⟨?_, e1⟩
      unfold numR
      rw [e1, nd_atoi (by rw [ht]; exact h)]
      rfl
  have step : ∀ (t : ByteArray), nd s = t → (dgs t = false ∧ V = 0 ∧ B = false) ∨ (dgs t = true ∧ 9 < t.size ∧ V = 0 ∧ B = false) ∨ (dgs t = true ∧ t.size ≤ 9 ∧ Lib.atoi s.data.toList = some V ∧ B = true) := by
    intro t ht
    obtain ⟨f1, f2, f3⟩ := fin t ht
    cases hd : dgs t with
    | false => exact .inl ⟨rfl, f1 hd⟩
    | true =>
      by_cases h9 : t.size ≤ 9
      · exact .inr (.inr ⟨rfl, h9, f3 hd h9⟩)
      · exact .inr (.inl ⟨rfl, by omega, f2 (by omega)⟩)
  clear fin HV HB
  by_cases h0 : 0 < s.size
  · have e0 : s.toList.isEmpty = false := by rw [he]; simp [h0]
    have b0 := bAt_eq h0
    clear he
    by_cases h1 : s[0].toNat = 45
    · have h1' : ((s[0].toNat : Nat) : Int) = 45 := by omega
      have hm : mi s = true := by unfold mi; rw [b0, h1']; simp [h0]
      have hn : nd s = tl s := by unfold nd; rw [hm]; rfl
      rw [hn] at nz
      obtain ⟨t, ht⟩ : ∃ t, t = tl s := ⟨_, rfl⟩
      rw [← ht] at hn nz
      have ht' : s.extract 1 s.size = t := by rw [ht]; rfl
      have st := step t hn
      clear step ht hn hm b0
      rcases st with ⟨hd, rfl, rfl⟩ | ⟨hd, h9, rfl, rfl⟩ | ⟨hd, h9, at0, rfl⟩
      · go_enter Tryz.func123, Tryz.ntmps123
        go_wp2_with (go_at_call 131; refine (isDigits_any _ _ (by omega)).mono ?_; rintro e w1 ⟨rfl, hw⟩; have hw := hw.symm; subst hw; rw [hd])
        go_ret2
        exact ⟨rfl, Gr.refl _⟩
      · go_enter Tryz.func123, Tryz.ntmps123
        go_wp2_with (go_at_call 131; refine (isDigits_any _ _ (by omega)).mono ?_; rintro e w1 ⟨rfl, hw⟩; have hw := hw.symm; subst hw; rw [hd])
        go_ret2
        exact ⟨rfl, Gr.refl _⟩
      · go_enter Tryz.func123, Tryz.ntmps123
        go_wp2_with (first | (go_at_call 131; refine (isDigits_any _ _ (by omega)).mono ?_; rintro e w1 ⟨rfl, hw⟩; have hw := hw.symm; subst hw; rw [hd]) | (go_at_call 132; refine (atoi_dv _ _ (by omega) at0 _).mono ?_; rintro e w1 ⟨rfl, hg⟩))
        go_quiet (fail)
        go_wp2
        go_ret2
        exact ⟨rfl, hg.drewN _⟩
    · have h1' : ¬ ((s[0].toNat : Nat) : Int) = 45 := by omega
      have hm : mi s = false := by unfold mi; rw [b0]; simp [h1']
      have hn : nd s = s := by unfold nd; rw [hm]; rfl
      have st := step s hn
      clear step hn hm b0 nz
      rcases st with ⟨hd, rfl, rfl⟩ | ⟨hd, h9, rfl, rfl⟩ | ⟨hd, h9, at0, rfl⟩
      · go_enter Tryz.func123, Tryz.ntmps123
        go_wp2_with (go_at_call 131; refine (isDigits_any _ _ (by omega)).mono ?_; rintro e w1 ⟨rfl, hw⟩; have hw := hw.symm; subst hw; rw [hd])
        go_ret2
        exact ⟨rfl, Gr.refl _⟩
      · go_enter Tryz.func123, Tryz.ntmps123
        go_wp2_with (go_at_call 131; refine (isDigits_any _ _ (by omega)).mono ?_; rintro e w1 ⟨rfl, hw⟩; have hw := hw.symm; subst hw; rw [hd])
        go_ret2
        exact ⟨rfl, Gr.refl _⟩
      · go_enter Tryz.func123, Tryz.ntmps123
        go_wp2_with (first | (go_at_call 131; refine (isDigits_any _ _ (by omega)).mono ?_; rintro e w1 ⟨rfl, hw⟩; have hw := hw.symm; subst hw; rw [hd]) | (go_at_call 132; refine (atoi_dv _ _ (by omega) at0 _).mono ?_; rintro e w1 ⟨rfl, hg⟩))
        go_quiet (fail)
        go_wp2
        go_ret2
        exact ⟨rfl, hg.drewN _⟩
  · have e0 : s.toList.isEmpty = true := by rw [he]; simp [h0]
    have hm : mi s = false := by unfold mi; simp [h0]
    have hn : nd s = s := by unfold nd; rw [hm]; rfl
    have hd : dgs s = false := by unfold dgs; simp [h0]
    have st := step s hn
    clear step hn hm he nz
    rcases st with ⟨_, rfl, rfl⟩ | ⟨h7, _⟩ | ⟨h7, _⟩
    · go_enter Tryz.func123, Tryz.ntmps123
      go_wp2_with (go_at_call 131; refine (isDigits_any _ _ (by omega)).mono ?_; rintro e w1 ⟨rfl, hw⟩; have hw := hw.symm; subst hw; rw [hd])
      go_ret2
      exact ⟨rfl, Gr.refl _⟩
    · rw [hd] at h7
      cases h7
    · rw [hd] at h7
      cases h7
end Go.Proofs.YtbehlhnnfdkmaaaGreatDoor.Lt
