/-
  What TimerTicks of the statements answers: true, at any channel, time, period and length. Condition: they are numbers of their kinds.
-/
import Derived.Test.YtgkapopkjgljjaaTmMade
namespace Go.Proofs.Ytgkapopkjgljjaa.Lt
open Go.RowKit Wd
attribute [local go_sem ↓] Go.wp_at_zero Go.wp_at_succ
set_option maxRecDepth 20000

/-- the ticker, before it is armed -/
def tk0 (ch p : Int) : Tk := ⟨1, 3, 0, 0, ch, 0, false, p⟩
theorem later_later (t : Tk) (a b k l : Int) : laterT (laterT t a k) b l = laterT t b l := by
  unfold laterT
  split <;> split <;> rfl
theorem every_one (ch now p : Int) (hp : 0 < p) : everyF 0 [] ch now p = ⟨1, 0, 1, [laterT (tk0 ch p) now p]⟩ := by
  unfold everyF
  rw [if_neg (by simp; omega)]
  rfl
/-- the last time that has passed ahead of a tick -/
def cI (p : Int) (i : Nat) : Int := if i = 0 then 0 else ((i : Int) - 1) - ((i : Int) - 1) % p
theorem cI_due {p : Int} {i : Nat} (hp : 0 < p) (h0 : 0 < i) (hm : (i : Int) % p = 0) : cI p i + p = (i : Int) ∧ cI p (i + 1) = (i : Int) := by
  have r0 := Int.emod_nonneg ((i : Int) - 1) (by omega : p ≠ 0)
  have r1 := Int.emod_lt_of_pos ((i : Int) - 1) hp
  have e : (i : Int) % p = (((i : Int) - 1) % p + 1) % p := by rw [Int.emod_add_emod]; congr 1; omega
  have hr : ((i : Int) - 1) % p + 1 = p := by
    rcases Int.lt_or_eq_of_le (show ((i : Int) - 1) % p + 1 ≤ p by omega) with h | h
    · rw [Int.emod_eq_of_lt (by omega) h] at e
      omega
    · exact h
  unfold cI
  rw [if_neg (by omega), if_neg (by omega)]
  have e2 : ((i + 1 : Nat) : Int) - 1 = (i : Int) := by omega
  rw [e2, hm]
  omega
theorem cI_not {p : Int} {i : Nat} (hp : 0 < p) (h : ¬ (0 < i ∧ (i : Int) % p = 0)) : (i : Int) < cI p i + p ∧ cI p (i + 1) = cI p i := by
  by_cases h0 : i = 0
  · subst h0
    have e2 : ((0 + 1 : Nat) : Int) - 1 = 0 := by omega
    unfold cI
    rw [if_pos rfl, if_neg (by omega), e2, Int.zero_emod]
    omega
  · have hm : ¬ ((i : Int) % p = 0) := fun e => h ⟨by omega, e⟩
    have r0 := Int.emod_nonneg ((i : Int) - 1) (by omega : p ≠ 0)
    have r1 := Int.emod_lt_of_pos ((i : Int) - 1) hp
    have e : (i : Int) % p = (((i : Int) - 1) % p + 1) % p := by rw [Int.emod_add_emod]; congr 1; omega
    have hr : ((i : Int) - 1) % p + 1 < p ∧ (i : Int) % p = ((i : Int) - 1) % p + 1 := by
      rcases Int.lt_or_eq_of_le (show ((i : Int) - 1) % p + 1 ≤ p by omega) with h | h
      · rw [Int.emod_eq_of_lt (by omega) h] at e
        exact ⟨h, e⟩
      · rw [h, Int.emod_self] at e
        exact (hm e).elim
    unfold cI
    rw [if_neg h0, if_neg (by omega)]
    have e2 : ((i + 1 : Nat) : Int) - 1 = (i : Int) := by omega
    rw [e2, hr.2]
    omega
theorem cI_pos {p : Int} {i : Nat} (hp : 0 < p) : 0 ≤ cI p i := by
  unfold cI
  split
  · omega
  · have r1 : ((i : Int) - 1) % p ≤ (i : Int) - 1 := by
      rw [Int.emod_def]
      have := Int.mul_nonneg (Int.le_of_lt hp) (Int.ediv_nonneg (show 0 ≤ (i : Int) - 1 by omega) (Int.le_of_lt hp))
      omega
    omega
/-- the ticker at a tick -/
def tau (ch now p : Int) (i : Nat) : Tk := laterT (tk0 ch p) (now + cI p i) p
theorem tau_zero (ch now p : Int) : tau ch now p 0 = laterT (tk0 ch p) now p := by
  unfold tau cI
  rw [if_pos rfl, Int.add_zero]
theorem tau_due {ch now p : Int} {i : Nat} (hp : 0 < p) (h0 : 0 < i) (hm : (i : Int) % p = 0) (ho : now + i < 18446744073709551616) : tau ch now p i = { tk0 ch p with wh := now + i } ∧ duesL (now + i) [tau ch now p i] = [tau ch now p i] ∧ dueL (now + i) [tau ch now p i] = [tau ch now p (i + 1)] := by
  obtain ⟨h1, h2⟩ := cI_due hp h0 hm
  have e1 : tau ch now p i = { tk0 ch p with wh := now + i } := by
    unfold tau laterT
    have e : now + cI p i + p = now + i := by omega
    rw [e, if_pos ho]
    rfl
  have hd : isDue (now + i) (tau ch now p i) = true := by rw [e1]; simp [isDue, tk0]
  have e2 : duesL (now + i) [tau ch now p i] = [tau ch now p i] := by unfold duesL; rw [List.takeWhile_cons_of_pos hd]; rfl
  have e3 : leftL (now + i) [tau ch now p i] = [] := by unfold leftL; rw [List.dropWhile_cons_of_pos hd]; rfl
  refine ⟨e1, e2, ?_⟩
  unfold dueL
  rw [e2, e3]
  simp only [List.foldl_cons, List.foldl_nil]
  have e4 : onL (now + i) [] (tau ch now p i) = putL [] (rearm (now + i) (tau ch now p i)) := by
    unfold onL
    rw [if_pos (by unfold tau; rw [laterT_kind]; rfl)]
  rw [e4]
  show [rearm (now + i) (tau ch now p i)] = _
  congr 1
  have ew : (tau ch now p i).wh = now + i := by rw [e1]
  have ep : (tau ch now p i).pd = p := by rw [e1]; rfl
  unfold rearm
  rw [ew, ep, Int.sub_self, Int.zero_emod, Int.sub_zero]
  unfold tau
  rw [later_later, h2]
theorem tau_not {ch now p : Int} {i : Nat} (hp : 0 < p) (h : ¬ (0 < i ∧ (i : Int) % p = 0)) : duesL (now + i) [tau ch now p i] = [] ∧ dueL (now + i) [tau ch now p i] = [tau ch now p (i + 1)] := by
  obtain ⟨h1, h2⟩ := cI_not hp h
  have hd : isDue (now + i) (tau ch now p i) = false := by
    unfold tau laterT
    split
    · simp [isDue]; omega
    · simp [isDue]
  have e2 : duesL (now + i) [tau ch now p i] = [] := by unfold duesL; rw [List.takeWhile_cons_of_neg (by rw [hd]; exact Bool.false_ne_true)]
  have e3 : leftL (now + i) [tau ch now p i] = [tau ch now p i] := by unfold leftL; rw [List.dropWhile_cons_of_neg (by rw [hd]; exact Bool.false_ne_true)]
  refine ⟨e2, ?_⟩
  unfold dueL
  rw [e2, e3]
  unfold tau
  rw [h2]
  rfl
theorem tau_id (ch now p : Int) (i : Nat) : (tau ch now p i).id = 1 := by unfold tau; rw [laterT_id]; rfl
theorem tau_stop (ch now p : Int) (i : Nat) : stopL [tau ch now p i] 1 = true ∧ stoppedL [tau ch now p i] 1 = [] := by
  have h1 : stopL [tau ch now p i] 1 = true := by
    unfold stopL tau
    simp only [List.any_cons, List.any_nil, laterT_id, laterT_kind, Bool.or_false]
    rfl
  refine ⟨h1, ?_⟩
  unfold stoppedL
  rw [if_pos h1]
  have : isId 1 (tau ch now p i) = false := by unfold isId; rw [tau_id]; rfl
  rw [List.filter_cons_of_neg (by rw [this]; exact Bool.false_ne_true)]
  rfl
theorem tau_wf (ch now p : Int) (i : Nat) : Wf 1 [tau ch now p i] := ⟨by omega, by omega, fun t ht => by
  simp only [List.mem_singleton] at ht
  rw [ht, tau_id]
  omega, by simp⟩
set_option maxHeartbeats 16000000 in
theorem ticks_walk (w : World) (ch now p l : Int) (n0 : 0 ≤ now) (n1 : now < 18446744073709551616) (p0 : 0 ≤ p) (p1 : p ≤ 255) (l0 : 0 ≤ l) (l1 : l ≤ 255) : Calls Try.prog 8 #[.agg #[.int .i64 ch, .int .u64 now, .int .u8 p, .int .u8 l]] w fun e w' => e = .returned (.bool true) ∧ Gr w w' := by
  have hpw : IntKind.u64.wrap p = p := by rw [IntKind.wrap_u64]; omega
  have hlw : IntKind.u64.wrap l = l := by rw [IntKind.wrap_u64]; omega
  obtain ⟨ln, rfl⟩ : ∃ n : Nat, l = (n : Int) := ⟨l.toNat, by omega⟩
  have HL := hid l1
  have PB := hid (show 0 ≤ p ∧ p ≤ 255 from ⟨p0, p1⟩)
  have NB := hid (show 0 ≤ now ∧ now < 18446744073709551616 from ⟨n0, n1⟩)
  obtain ⟨V, hV⟩ : ∃ V, V = w.alloc (.cells #[.int .i64 ch, .int .u64 now, .int .u8 p, .int .u8 (ln : Int)] 59) := ⟨_, rfl⟩
  have GV := hid (show Gr w V from by rw [hV]; exact Ch.alloc (Gr.refl w) _)
  have BX : V.heap[w.heap.size]? = some (.cells #[.int .i64 ch, .int .u64 now, .int .u8 p, .int .u8 (ln : Int)] 59 (0, 0)) := by rw [hV]; exact al_at _ rfl
  have x0 := cell_of BX 0
  have x1 := cell_of BX 1
  have x2 := cell_of BX 2
  have x3 := cell_of BX 3
  have xl := lt_of_block BX
  simp at x0 x1 x2 x3
  have HV := hid hV
  obtain ⟨kb, hkb⟩ : ∃ k, k = w.heap.size := ⟨_, rfl⟩
  rw [← hkb] at x0 x1 x2 x3 xl
  have HKB := hid hkb
  clear BX l0 l1 p0 p1 n0 n1 hV hkb
  go_enter Try.func8, Try.ntmps8
  go_wp2_with fail
  rw [← HV.out, ← HKB.out]
  go_quiet (fail)
  by_cases hp : p = 0
  · subst hp
    have HE := hid (fun W T b (h : Tm T W b 0 [] 0) => every_any h Wf.nil ch now 0 (by omega) NB.out.1 NB.out.2 (by omega) (by omega))
    unfold everyF at HE
    rw [if_pos (by simp)] at HE
    clear x0 x1 x2 x3 xl
    go_wp2_with (first
      | (go_at_call 9; refine (new_any _).mono ?_; rintro e w1 ⟨b, T, rfl, h1, g1, n1⟩; have TM1 := hid h1; have G1 := hid (Gr.trans (GV.out.drewN _) g1); have N1 := hid (show ∀ q, T q → w.heap.size ≤ q from fun q e => Nat.le_trans GV.out.size (n1 q e)); clear h1 g1 n1)
      | (go_at_call 21; refine (HE.out _ _ _ TM1.out).mono ?_; rintro e w2 ⟨rfl, tl⟩; obtain ⟨T2, k2, g2, n2⟩ := tl.new G1.out N1.out; have G2 := hid g2; clear tl k2 g2 n2)
      | (refine callG (by kernel_rfl) 12 #[] _ rfl #[] (by kernel_rfl) (awake_any _) ?_; rintro e w3 ⟨rfl, g3⟩; have G3 := hid (Gr.trans G2.out g3); clear g3; refine ⟨_, rfl, ?_⟩; simp only [Act.put, List.setIfInBounds_toArray, List.set_cons_zero, List.set_cons_succ]))
    go_ret
    exact ⟨rfl, G3.out⟩
  · have HP := hid (show 0 < p from by have := PB.out; omega)
    have hpz : (p == 0) = false := beq_eq_false_iff_ne.2 hp
    have hpz2 : p ≠ 0 := hp
    have HE := hid (fun W T b (h : Tm T W b 0 [] 0) => every_any h Wf.nil ch now p (by omega) NB.out.1 NB.out.2 PB.out.1 (by have := PB.out.2; omega))
    rw [every_one ch now p HP.out, ← tau_zero] at HE
    clear x0 x1 x2 x3 xl hp
    go_wp2_with (first
      | (go_at_call 9; refine (new_any _).mono ?_; rintro e w1 ⟨b, T, rfl, h1, g1, n1⟩; have TM1 := hid h1; have G1 := hid (Gr.trans (GV.out.drewN _) g1); have N1 := hid (show ∀ q, T q → w.heap.size ≤ q from fun q e => Nat.le_trans GV.out.size (n1 q e)); clear h1 g1 n1)
      | (go_at_call 21; refine (HE.out _ _ _ TM1.out).mono ?_; rintro e w2 ⟨rfl, tl⟩; obtain ⟨T2, k2, g2, n2⟩ := tl.new G1.out N1.out; have TM2 := hid k2; have G2 := hid g2; have N2 := hid n2; clear tl k2 g2 n2))
    go_loopg [10] (ln + 1) (fun q v wr => ∃ (i : Nat) (T : Nat → Prop), i + q = ln + 1 ∧ v = .int .u64 (i : Int) ∧ Tm T wr b 1 [tau ch now p i] (1024 * (i : Int) + 1) ∧ Gr w wr ∧ ∀ q, T q → w.heap.size ≤ q)
    case atStart => exact ⟨0, T2, by omega, rfl, TM2.out.more (by omega), G2.out, N2.out⟩
    case round =>
      obtain ⟨i, T, hiq, rfl, htm, hg, hn⟩ := hrel
      have TMi := hid htm
      have GI := hid hg
      have NI := hid hn
      have HS1 := hid (fun W (T' : Nat → Prop) (h : Tm T' W b 1 [tau ch now p i] (1024 * (i : Int) + 1)) => stop_any h (by simp) 1)
      rw [(tau_stop ch now p i).1, (tau_stop ch now p i).2] at HS1
      have HS2 := hid (fun W (T' : Nat → Prop) (h : Tm T' W b 1 [] (1024 * (i : Int) + 1)) => stop_any h (by simp) 1)
      have es : stopL [] 1 = false := rfl
      have es2 : stoppedL [] 1 = [] := rfl
      rw [es, es2] at HS2
      clear es es2
      by_cases hil : i ≤ ln
      · have j1 : (i : Int) ≤ (ln : Int) := Int.ofNat_le.2 hil
        by_cases hov : now + (i : Int) < 18446744073709551616
        · have TDUE := due_any TMi.out (by simp) (now + (i : Int)) (by have := NB.out; omega) hov (by have := HL.out; omega)
          have w1 : IntKind.u64.wrap (now + (i : Int)) = now + (i : Int) := by rw [IntKind.wrap_u64]; have := NB.out; omega
          have w2 : ¬ (now + (i : Int) < now) := by omega
          have w3 : IntKind.u64.wrap ((i : Int) + 1) = (i : Int) + 1 := by rw [IntKind.wrap_u64]; have := HL.out; omega
          clear htm hg hn HS1 HS2
          by_cases hi0 : 0 < i
          · by_cases him : (i : Int) % p = 0
            · obtain ⟨e1, e2, e3⟩ := tau_due (ch := ch) (now := now) (p := p) (i := i) HP.out hi0 him hov
              rw [e2, e3] at TDUE
              have HE1 := hid e1
              have m1 : (0 : Int) < (i : Int) := by omega
              have m2 : ((i : Int)).tmod p = 0 := by rw [Int.tmod_eq_emod_of_nonneg (by omega)]; exact him
              clear e1 e2 e3 him hi0
              go_wp2_with (go_at_call 16; refine (TDUE).mono ?_; rintro e w7 hd; obtain ⟨a7, c7, T7, rfl, o7, k7, g7, n7, b7⟩ := hd.new GI.out NI.out; obtain ⟨gq, cq, hsq, _, gql, _, hcq, _⟩ := o7.get (i := 0) eT_len rfl; injection hsq with hs1 hs2 hs3; subst hs1; have z0 := hcq 0 _ rfl; have z4 := hcq 4 _ rfl; have z5 := hcq 5 _ rfl; rw [HE1.out] at z0 z4 z5; simp only [Nat.zero_mul, Nat.zero_add, tk0] at z0 z4 z5; clear hs2 hs3 hcq; have TM7 := hid k7; have G7 := hid g7; have N7 := hid n7; clear TDUE hd o7 k7 g7 n7 b7)
              go_roundg (gk - 1)
              case measure => omega
              case rel => exact ⟨i + 1, T7, by omega, by first | with_reducible rfl | simp, TM7.out.more (by omega), G7.out, N7.out⟩
            · have hno : ¬ (0 < i ∧ (i : Int) % p = 0) := fun h => him h.2
              obtain ⟨r, hr⟩ : ∃ r, r = (i : Int) % p := ⟨_, rfl⟩
              have hrz : r ≠ 0 := by rw [hr]; exact him
              clear him
              obtain ⟨e2, e3⟩ := tau_not (ch := ch) (now := now) (p := p) (i := i) HP.out hno
              rw [e2, e3] at TDUE
              clear e2 e3 hno
              have m1 : (0 : Int) < (i : Int) := by omega
              have m2 : ((i : Int)).tmod p = r := by rw [Int.tmod_eq_emod_of_nonneg (by omega)]; exact hr.symm
              have m3 : IntKind.u64.wrap r = r := by rw [IntKind.wrap_u64]; have h1 := Int.emod_nonneg (i : Int) (by have := HP.out; omega : p ≠ 0); have h2 := Int.emod_lt_of_pos (i : Int) HP.out; have h3 := PB.out; omega
              have m4 : (r == 0) = false := beq_eq_false_iff_ne.2 hrz
              clear hr hrz
              go_wp2_with (go_at_call 16; refine (TDUE).mono ?_; rintro e w7 hd; obtain ⟨a7, c7, T7, rfl, o7, k7, g7, n7, b7⟩ := hd.new GI.out NI.out; have TM7 := hid k7; have G7 := hid g7; have N7 := hid n7; clear TDUE hd o7 k7 g7 n7 b7)
              go_roundg (gk - 1)
              case measure => omega
              case rel => exact ⟨i + 1, T7, by omega, by first | with_reducible rfl | simp, TM7.out.more (by omega), G7.out, N7.out⟩
          · have hno : ¬ (0 < i ∧ (i : Int) % p = 0) := fun h => hi0 h.1
            obtain ⟨e2, e3⟩ := tau_not (ch := ch) (now := now) (p := p) (i := i) HP.out hno
            rw [e2, e3] at TDUE
            clear e2 e3 hno
            have m1 : ¬ ((0 : Int) < (i : Int)) := by omega
            go_wp2_with (go_at_call 16; refine (TDUE).mono ?_; rintro e w7 hd; obtain ⟨a7, c7, T7, rfl, o7, k7, g7, n7, b7⟩ := hd.new GI.out NI.out; have TM7 := hid k7; have G7 := hid g7; have N7 := hid n7; clear TDUE hd o7 k7 g7 n7 b7)
            go_roundg (gk - 1)
            case measure => omega
            case rel => exact ⟨i + 1, T7, by omega, by first | with_reducible rfl | simp, TM7.out.more (by omega), G7.out, N7.out⟩
        · have w1 : IntKind.u64.wrap (now + (i : Int)) = now + (i : Int) - 18446744073709551616 := by rw [IntKind.wrap_u64]; have := NB.out; have := HL.out; omega
          have w2 : now + (i : Int) - 18446744073709551616 < now := by have := HL.out; omega
          clear htm hg hn
          go_wp2_with (first
            | (go_at_call 22; refine (HS1.out _ _ TMi.out).mono ?_; rintro e w5 ⟨rfl, tl⟩; obtain ⟨T5, k5, g5, n5⟩ := tl.new GI.out NI.out; have TM5 := hid k5; have G5 := hid g5; have N5 := hid n5; clear tl k5 g5 n5)
            | (refine callG (by kernel_rfl) 22 #[.tmp 111, .tmp 112] _ rfl #[.pointer (some ⟨b, 0, none⟩), .int .i64 1] (by kernel_rfl) (HS2.out _ _ TM5.out) ?_; rintro e w6 ⟨rfl, tl⟩; obtain ⟨T6, k6, g6, n6⟩ := tl.new G5.out N5.out; have TM6 := hid k6; have G6 := hid g6; clear tl k6 g6 n6; refine ⟨_, rfl, ?_⟩; simp only [Act.put, List.setIfInBounds_toArray, List.set_cons_zero, List.set_cons_succ])
            | (go_at_call 18; refine (next_any TM6.out).mono ?_; rintro e w8 ⟨rfl, g8⟩; have G8 := hid (Gr.trans G6.out g8); unfold nextL; clear g8))
          go_ret
          exact ⟨rfl, G8.out⟩
      · have j1 : ¬ ((i : Int) ≤ (ln : Int)) := by omega
        clear htm hg hn
        go_wp2_with (first
          | (go_at_call 22; refine (HS1.out _ _ TMi.out).mono ?_; rintro e w5 ⟨rfl, tl⟩; obtain ⟨T5, k5, g5, n5⟩ := tl.new GI.out NI.out; have TM5 := hid k5; have G5 := hid g5; have N5 := hid n5; clear tl k5 g5 n5)
          | (refine callG (by kernel_rfl) 22 #[.tmp 111, .tmp 112] _ rfl #[.pointer (some ⟨b, 0, none⟩), .int .i64 1] (by kernel_rfl) (HS2.out _ _ TM5.out) ?_; rintro e w6 ⟨rfl, tl⟩; obtain ⟨T6, k6, g6, n6⟩ := tl.new G5.out N5.out; have TM6 := hid k6; have G6 := hid g6; clear tl k6 g6 n6; refine ⟨_, rfl, ?_⟩; simp only [Act.put, List.setIfInBounds_toArray, List.set_cons_zero, List.set_cons_succ])
          | (go_at_call 18; refine (next_any TM6.out).mono ?_; rintro e w8 ⟨rfl, g8⟩; have G8 := hid (Gr.trans G6.out g8); unfold nextL; clear g8))
        go_ret
        exact ⟨rfl, G8.out⟩
end Go.Proofs.Ytgkapopkjgljjaa.Lt
