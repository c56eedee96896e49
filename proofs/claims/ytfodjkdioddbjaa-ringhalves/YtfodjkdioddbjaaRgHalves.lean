/-
  The statement's walk: RingHalves answers true at any state. Condition: the state's list is there.
-/
import Derived.Test.YtfodjkdioddbjaaRgLaw0
namespace Go.Proofs.Ytfodjkdioddbjaa.Rg
open Go.RowKit
attribute [local go_sem ↓] Go.wp_at_zero Go.wp_at_succ

theorem halves_bad (P : Nat → Prop) (sv : Value) (xs : List W3) (hs : Bool) (y : W3) (w : World) (hx : Lst P w sv xs) (hmax : xs.length ≤ 9223372036854775807) (E : Int) (hE : ldE xs (nxo hs y) = E) (h0 : E ≠ 0) :
    Calls Try.prog 8 #[.agg #[sv, .bool hs, .int .i64 y.s, .int .i64 y.g, .int .u64 y.t]] w fun e w' => e = .returned (.bool true) ∧ Ch NoB w w' := by
  obtain ⟨ao, cap, rfl⟩ := hx.form
  have hd : (E != 0) = true := by simpa using h0
  have HX := hid hx
  have HM := hid hmax
  have HE := hid hE
  clear hx hmax hE
  go_enter Try.func8, Try.ntmps8
  go_wp2_with fail
  refine (rload_bad (HX.out.alloc _) HM.out HE.out h0).mono ?_
  rintro e w1 ⟨rfl, g1⟩
  have HG := hid (((Ch.refl NoB w).alloc _).trans' g1)
  clear g1
  go_wp2_with fail
  refine (awake_any _).mono ?_
  rintro e w2 ⟨rfl, g2⟩
  have HG2 := hid ((HG.out.alloc _).trans' g2)
  clear g2
  go_wp2
  go_ret
  exact ⟨rfl, HG2.out⟩

theorem halves_nil (P : Nat → Prop) (sv : Value) (hs : Bool) (y : W3) (w : World) (hx : Lst P w sv []) (hE : ldE [] (nxo hs y) = 0) :
    Calls Try.prog 8 #[.agg #[sv, .bool hs, .int .i64 y.s, .int .i64 y.g, .int .u64 y.t]] w fun e w' => e = .returned (.bool true) ∧ Ch NoB w w' := by
  obtain ⟨ao, cap, rfl⟩ := hx.form
  obtain ⟨z, hz⟩ : ∃ z, (nxo hs y).getD W3.zero = z := ⟨_, rfl⟩
  have HX := hid hx
  have HE := hid hE
  have HZ := hid hz
  clear hx hE hz
  go_enter Try.func8, Try.ntmps8
  go_wp2_with fail
  refine (rload_good (HX.out.alloc _) (by simp) HE.out HZ.out).mono ?_
  rintro e w1 ⟨v, rfl, l1, g1⟩
  obtain ⟨va, vc, rfl⟩ := l1.form
  have HG := hid (((Ch.refl NoB w).alloc _).trans' g1)
  clear g1 l1
  go_wp2_with fail
  refine (awake_any _).mono ?_
  rintro e w2 ⟨rfl, g2⟩
  have HG2 := hid ((HG.out.alloc _).trans' g2)
  clear g2
  go_wp2
  go_ret
  exact ⟨rfl, HG2.out⟩

theorem halves_good (P : Nat → Prop) (sv : Value) (q : W3) (r : List W3) (hs : Bool) (y : W3) (w : World) (hx : Lst P w sv (q :: r)) (hE : ldE (q :: r) (nxo hs y) = 0) :
    Calls Try.prog 8 #[.agg #[sv, .bool hs, .int .i64 y.s, .int .i64 y.g, .int .u64 y.t]] w fun e w' => e = .returned (.bool true) ∧ Ch NoB w w' := by
  obtain ⟨ao, cap, rfl⟩ := hx.form
  obtain ⟨hl64, _⟩ := ldE_zero hE
  obtain ⟨xs, hxs⟩ : ∃ xs, xs = q :: r := ⟨_, rfl⟩
  obtain ⟨n, hn⟩ : ∃ n, n = r.length := ⟨_, rfl⟩
  have hlen : xs.length = n + 1 := by rw [hxs, hn]; simp
  rw [← hxs] at hx hE hl64 ⊢
  rw [hlen] at hx hl64 ⊢
  obtain ⟨z, hz⟩ : ∃ z, (nxo hs y).getD W3.zero = z := ⟨_, rfl⟩
  have hnz : nxo hs z = nxo hs y := by rw [← hz]; exact nxo_getD hs y
  have hm : xs.length ≤ 9223372036854775807 := by omega
  have HX := hid hx
  have HM := hid hm
  have HE := hid hE
  have HZ := hid hz
  have HNZ := hid hnz
  have HXS := hid hxs
  have HN := hid hn
  have HLEN := hid hlen
  clear hx hE hz hnz hxs hn hm hlen
  obtain ⟨i0, hi, hz0, hz1, hz2⟩ := info_parts W_info
  go_enter Try.func8, Try.ntmps8
  go_wp2_with fail
  refine (rload_good (HX.out.alloc _) HM.out HE.out HZ.out).mono ?_
  rintro e w1 ⟨v, rfl, l1, g1⟩
  obtain ⟨va, vc, rfl⟩ := l1.form
  rw [HLEN.out] at l1 ⊢
  have HL1 := hid (l1.mono (Q := (· < w1.heap.size)) (fun g h _ => h))
  have HG := hid (((Ch.refl NoB w).alloc _).trans' g1)
  have hw1 := HG.out.size
  clear g1 l1
  go_wp2_with fail
  refine (load_good (HL1.out.alloc _) HM.out HNZ.out HE.out).mono ?_
  rintro e w2 ⟨a, rfl, ha, r2, g2⟩
  simp only [World.size_alloc] at ha
  have HT2 := hid ((Five.new w1 (.slice va (n + 1) vc) (.bool hs) (.int .i64 z.s) (.int .i64 z.g) (.int .u64 z.t)).ch g2 (noB _))
  have HL2 := hid ((HL1.out.alloc _).ch g2 (fun _ _ _ => noB _))
  have HR2 := hid r2
  have HG2 := hid ((HG.out.alloc _).trans' g2)
  have ha2 := r2.lt
  clear g2 r2
  go_wp2_with fail
  refine (new_ex _).mono ?_
  rintro e w3 ⟨c, rfl, hc, r3, g3⟩
  have HT3 := hid (HT2.out.ch g3 (noB _))
  have HL3 := hid (HL2.out.ch g3 (fun _ _ _ => noB _))
  have HRA3 := hid (HR2.out.ch g3 (noB _))
  have HR3 := hid r3
  have HG3 := hid (HG2.out.trans' g3)
  have hc3 := r3.lt
  clear g3 r3
  go_wp2_with fail
  refine (steal_any a c xs (nxo hs y) [] none _ HRA3.out HR3.out (by omega)).mono ?_
  have e1 : stX xs (nxo hs y) [] none = q := by rw [HXS.out]; rfl
  have e2 : stE xs (nxo hs y) [] none = 0 := by rw [HXS.out]; rfl
  have e3 : stP xs [] none = xs.drop (lv xs) := rfl
  have e4 : stQ xs [] none = (xs.take (lv xs)).tail := rfl
  have e5 : stN xs (nxo hs y) [] none = nxo hs y := by rw [HXS.out]; rfl
  rw [e1, e2, e3, e4, e5]
  clear e1 e2 e3 e4 e5
  rintro e w4 ⟨rfl, r4, q4, g4⟩
  have hnS : ∀ k, k ≤ w1.heap.size → ¬ Two a c k := fun k h1 e => by rcases e with e | e <;> omega
  have HT4 := hid (HT3.out.ch g4 (hnS _ (Nat.le_refl _)))
  have HL4 := hid (HL3.out.ch g4 (fun g _ h => hnS g (by omega)))
  have HR4 := hid r4
  have HQ4 := hid q4
  have HG4 := hid (HG3.out.trans g4 (fun q e => .inr (by rcases e with e | e <;> omega)))
  have hac4 := q4.lt
  have haa4 := r4.lt
  clear g4 r4 q4 hnS
  obtain ⟨m, hm⟩ : ∃ m, m = lv xs := ⟨_, rfl⟩
  rw [← hm] at HR4 HQ4
  have hmv : m = n + 1 - (n + 1) / 2 := by rw [hm]; unfold lv; rw [HLEN.out]
  have hm1 : 1 ≤ m ∧ m ≤ n + 1 := by omega
  obtain ⟨A, hA⟩ : ∃ A, A = (xs.take m).tail := ⟨_, rfl⟩
  obtain ⟨B, hB⟩ : ∃ B, B = xs.drop m := ⟨_, rfl⟩
  have hqA : [q] ++ A = xs.take m := by
    have e : m = (m - 1) + 1 := by omega
    rw [hA, HXS.out, e]
    simp
  have hAl : A.length + 1 = m := by
    have := congrArg List.length hqA
    rw [List.length_append, List.length_take, HLEN.out] at this
    simp at this
    omega
  have hBl : B.length = (n + 1) / 2 := by rw [hB, List.length_drop, HLEN.out]; omega
  have hAB : ([q] ++ A) ++ B = xs := by rw [hqA, hB, List.take_append_drop]
  have his : (nxo hs y).isSome = hs := by cases hs <;> rfl
  rw [← hA] at HQ4
  rw [← hB] at HR4
  have HAB := hid hAB
  have HAL := hid hAl
  have HBL := hid hBl
  have HIS := hid his
  have HMV := hid hmv
  clear hqA hA hB hAB hAl hBl his hm hmv
  go_wp2_with fail
  refine (drain_any c A none _ ((HQ4.out.alloc _).alloc _)).mono ?_
  rintro e w5 ⟨v5, rfl, l5, _, g5⟩
  simp only [Option.toList_none, List.append_nil, World.size_alloc] at l5
  obtain ⟨da, dc, rfl⟩ := l5.form
  have own5 : w5.ownsRow (w4.heap.size + 1) 30 3 (.slice (some ⟨w4.heap.size + 1, 0, none⟩) 1 1) 1 (rowOf [q]) := by
    refine own_ch (w := (w4.alloc (.cells #[.int .i64 q.s, .int .i64 q.g, .int .u64 q.t] 30)).alloc (.cells #[.int .i64 q.s, .int .i64 q.g, .int .u64 q.t] 30)) ?_ g5 (fun g e => by have : g = c := e; omega)
    refine ⟨rfl, .inr ⟨w4.heap.size + 1, 1, #[.int .i64 q.s, .int .i64 q.g, .int .u64 q.t], rfl, Nat.le_refl _, ?_, Nat.le_refl _, by unfold maxLen; omega, rfl, rfl⟩⟩
    have := heap_alloc_new (w4.alloc (.cells #[.int .i64 q.s, .int .i64 q.g, .int .u64 q.t] 30)) (.cells #[.int .i64 q.s, .int .i64 q.g, .int .u64 q.t] 30)
    simpa only [World.size_alloc] using this
  have HO5 := hid own5
  have HL5 := hid l5
  have hs5 := g5.size
  simp only [World.size_alloc] at hs5
  have HT5 := hid (((HT4.out.alloc _).alloc _).ch g5 (fun e => by have : w1.heap.size = c := e; omega))
  have HLT5 := hid (((HL4.out.alloc _).alloc _).ch g5 (fun g _ h e => by have : g = c := e; omega))
  have HR5 := hid (((HR4.out.alloc _).alloc _).ch g5 (fun e => by have : a = c := e; omega))
  have HG5 := hid (((HG4.out.alloc _).alloc _).trans g5 (fun q e => .inr (by have : q = c := e; omega)))
  clear own5 l5 g5
  go_wp2_with (first | (at_builtin; refine wpList_append_lst rfl (.tmp 43) (.tmp 45) rfl (w4.heap.size + 1) _ 1 [q] rfl HO5.out _ _ A rfl HL5.out m (by have := HAL.out; omega) (by omega) (by omega) ?_; intro ao6 cap6 w6 hown6 g6; have HO6 := hid hown6; have HG6 := hid g6; clear hown6 g6))
  have hs6 := HG6.out.size
  have HT6 := hid (HT5.out.ch HG6.out (by omega))
  have HLT6 := hid (HLT5.out.ch HG6.out (fun g _ h => by omega))
  have HR6 := hid (HR5.out.ch HG6.out (by omega))
  have HG06 := hid (HG5.out.trans HG6.out (fun _ h => .inr (by omega)))
  have hS := state_any a B (nxo hs y) w6 HR6.out
  rw [HIS.out, HZ.out] at hS
  have HS := hid hS
  clear hS
  refine HS.out.mono ?_
  rintro e w7 ⟨v7, rfl, l7, g7⟩
  obtain ⟨ba, bc, rfl⟩ := l7.form
  have hBe := HBL.out
  obtain ⟨k, hk⟩ : ∃ k, k = B.length := ⟨_, rfl⟩
  rw [← hk] at l7 hBe ⊢
  have HK := hid hk
  have HL7 := hid l7
  have HO7 := hid (own_ch HO6.out g7 (fun g e => e.elim))
  have T7 := HT6.out.ch g7 (noB _)
  obtain ⟨t0, t1, t2, t3, t4⟩ := T7.cells
  have hlt7 := T7.lt
  have HLT7 := hid (HLT6.out.ch g7 (fun _ _ _ => noB _))
  have HG7 := hid (HG06.out.trans' g7)
  have HG67 := hid g7
  have hs7 := g7.size
  clear l7 g7 T7 hk
  have r1 : ((n : Int) + 1) / 2 = (k : Int) := by omega
  have r2 : (n : Int) + 1 - (k : Int) = (m : Int) := by have := HMV.out; omega
  have hk32 : k ≤ 32 := by omega
  clear hBe
  have hmk : n + 1 = m + B.length := by have := HMV.out; have := HK.out; omega
  have HMK := hid hmk
  clear hmk
  go_wp2_with (first | (at_builtin; refine wpList_append_lst rfl (.tmp 81) (.tmp 83) rfl (w4.heap.size + 1) _ m ([q] ++ A) rfl (HO7.out.alloc _) _ _ B rfl (HL7.out.alloc _) (n + 1) HMK.out (by omega) (by simp; omega) ?_; intro ao8 cap8 w8 hown8 g8; rw [HAB.out] at hown8; have T8 := ((HT6.out.ch HG67.out (noB _)).alloc (.cells #[.slice ba k bc, .bool hs, .int .i64 z.s, .int .i64 z.g, .int .u64 z.t] 32)).ch g8 (by omega); obtain ⟨u0, u1, u2, u3, u4⟩ := T8.cells; have HO8 := hid hown8; have HG8 := hid g8; clear hown8 g8 T8))
  refine (sameList_eq _ _ _ _ xs _ (Lst.of_own HO8.out) ((HLT7.out.alloc _).ch HG8.out (fun g _ h => by omega)) (by rw [HLEN.out]; omega)).mono ?_
  rintro e w9 ⟨rfl, j, rfl⟩
  go_wp2
  go_ret
  exact ⟨rfl, ((HG7.out.alloc _).trans HG8.out (fun _ h => .inr (by omega))).drewN _⟩

theorem halves_law (sv : Value) (xs : List W3) (hs : Bool) (y : W3) (w : World) (hx : Lst (fun _ => True) w sv xs) (hmax : xs.length ≤ 9223372036854775807) :
    Calls Try.prog 8 #[.agg #[sv, .bool hs, .int .i64 y.s, .int .i64 y.g, .int .u64 y.t]] w fun e w' => e = .returned (.bool true) ∧ Ch NoB w w' := by
  by_cases h : ldE xs (nxo hs y) = 0
  · cases xs with
    | nil => exact halves_nil _ sv hs y w hx h
    | cons q r => exact halves_good _ sv q r hs y w hx h
  · exact halves_bad _ sv xs hs y w hx hmax _ rfl h
end Go.Proofs.Ytfodjkdioddbjaa.Rg
