/-
  What Put of the document's answer tells. Condition: the list is there, its turns rise, and it has no more than 4096 elements.
-/
import Derived.Test.YtphohfafehjafaaFfRef2
namespace Go.Proofs.Ytphohfafehjafaa.Ff
open Go.RowKit
attribute [local go_sem ↓] Go.wp_at_zero Go.wp_at_succ

theorem Own.base {b b' : Nat} {w : World} {v : Value} {xs : List W3} (h : Own b w v xs) (hb : b' ≤ b) : Own b' w v xs := ⟨h.1, h.2.imp id (fun ⟨g, cap, cur, h1, h2, h3⟩ => ⟨g, cap, cur, h1, Nat.le_trans hb h2, h3⟩)⟩
theorem there_turn {xs : List W3} {x y : W3} {j : Nat} (hu : Up xs) (hy : xs[j]? = some y) (ht : y.t = x.t) : isThere xs x = true := by
  have h1 := (below_at xs x.t j y hu hy).1 (by omega)
  obtain ⟨hj, hj2⟩ := List.getElem?_eq_some_iff.1 hy
  obtain ⟨z, hz⟩ : ∃ z, xs[below x.t xs]? = some z := ⟨_, List.getElem?_eq_getElem (by omega)⟩
  have h2 := (below_at xs x.t _ z hu hz).2 (Nat.le_refl _)
  have h3 : below x.t xs = j := by
    by_cases e : below x.t xs = j
    · exact e
    · have := hu (below x.t xs) j z y (by omega) hz hy
      omega
  unfold isThere
  rw [h3, hy]
  simp [ht]
theorem there_not {xs : List W3} {x : W3} (hh : ¬ 0 ≤ atG x.s x.g xs) (hn : ∀ i y, i < xs.length → xs[i]? = some y → ¬ y.t = x.t) : isThere xs x = false := by
  unfold isThere
  rw [decide_eq_false hh]
  cases h : xs[below x.t xs]? with
  | none => rfl
  | some y =>
    have := hn _ y (List.getElem?_eq_some_iff.1 h).1 h
    simp [this]
theorem below_lt {xs : List W3} {x y : W3} {j : Nat} (hu : Up xs) (hy : xs[j]? = some y) (h : j < below x.t xs) : y.t < x.t := by
  have := (below_at xs x.t j y hu hy)
  omega
theorem below_gt {xs : List W3} {x y : W3} {j : Nat} (hu : Up xs) (hy : xs[j]? = some y) (h : ¬ j < below x.t xs) (hn : ¬ y.t = x.t) : x.t < y.t := by
  have := (below_at xs x.t j y hu hy)
  omega
/-- what is in the new list behind j rounds -/
def insU (xs : List W3) (x : W3) (j : Nat) : List W3 := if below x.t xs < j then xs.take (below x.t xs) ++ x :: (xs.take j).drop (below x.t xs) else xs.take j
theorem insU_zero (xs : List W3) (x : W3) : insU xs x 0 = [] := by unfold insU; simp
theorem insU_lt {xs : List W3} {x z : W3} {j : Nat} (hz : xs[j]? = some z) (h : j < below x.t xs) : insU xs x (j + 1) = insU xs x j ++ [z] := by
  unfold insU
  rw [if_neg (by omega), if_neg (by omega), List.take_add_one, hz]
  rfl
theorem insU_eq {xs : List W3} {x z : W3} {j : Nat} (hz : xs[j]? = some z) (h : j = below x.t xs) : insU xs x (j + 1) = (insU xs x j ++ [x]) ++ [z] := by
  have hj := (List.getElem?_eq_some_iff.1 hz).1
  unfold insU
  rw [if_pos (by omega), if_neg (by omega), List.take_add_one, hz, ← h, List.drop_left' (by rw [List.length_take]; omega)]
  simp
theorem insU_gt {xs : List W3} {x z : W3} {j : Nat} (hz : xs[j]? = some z) (h : below x.t xs < j) : insU xs x (j + 1) = insU xs x j ++ [z] := by
  have hj := (List.getElem?_eq_some_iff.1 hz).1
  unfold insU
  rw [if_pos (by omega), if_pos (by omega), List.take_add_one, hz, List.drop_append_of_le_length (by rw [List.length_take]; omega)]
  simp
theorem insU_end_in {xs : List W3} {x : W3} {j : Nat} (hj : xs.length ≤ j) (h : below x.t xs < j) : insU xs x j = xs.take (below x.t xs) ++ x :: xs.drop (below x.t xs) := by
  unfold insU
  rw [if_pos h, List.take_of_length_le hj]
theorem insU_end_out {xs : List W3} {x : W3} {j : Nat} (hj : j = xs.length) (h : ¬ below x.t xs < j) : insU xs x j ++ [x] = xs.take (below x.t xs) ++ x :: xs.drop (below x.t xs) := by
  have := below_le x.t xs
  have e : below x.t xs = xs.length := by omega
  unfold insU
  rw [if_neg h, hj, e, List.take_length, List.drop_length]
theorem insU_len (xs : List W3) (x : W3) (j : Nat) : (insU xs x j).length ≤ xs.length + 1 := by
  unfold insU
  have := below_le x.t xs
  split
  · rw [List.length_append, List.length_take, List.length_cons, List.length_drop, List.length_take]; omega
  · rw [List.length_take]; omega

theorem rput_has (P : Nat → Prop) (v : Value) (xs : List W3) (x : W3) (w : World) (hx : Lst P w v xs) (hl : xs.length ≤ 4096) (hh : 0 ≤ atG x.s x.g xs) :
    Calls Try.prog 24 #[v, .agg #[.int .i64 x.s, .int .i64 x.g, .int .u64 x.t]] w fun e w' => e = .returned (.tuple #[v, .int .i64 30]) ∧ Ch NoB w w' := by
  have hF := rhas_any P v xs x.s x.g _ (hx.alloc (.cells #[.int .i64 x.s, .int .i64 x.g, .int .u64 x.t] 33)) (by omega)
  rw [decide_eq_true hh] at hF
  obtain ⟨ao, cap, rfl⟩ := hx.form
  have HF := hid hF
  clear hF hx hh hl
  go_enter Try.func24, Try.ntmps24
  go_wp2_with fail
  refine HF.out.mono ?_
  rintro e w1 ⟨rfl, g1⟩
  have HG := hid (((Ch.refl NoB w).alloc _).trans' g1)
  clear g1
  go_wp2
  exact bodyPost_ret (v := .tuple #[.slice ao xs.length cap, .int .i64 30]) (by simp [results, Try.results24, go_sem]) rfl ⟨rfl, HG.out⟩

set_option maxHeartbeats 4000000 in
set_option maxRecDepth 60000 in
theorem rput_rest (P : Nat → Prop) (v : Value) (xs : List W3) (x : W3) (w : World) (hx : Lst P w v xs) (hl : xs.length ≤ 4096) (hu : Up xs) (hh : ¬ 0 ≤ atG x.s x.g xs) :
    Calls Try.prog 24 #[v, .agg #[.int .i64 x.s, .int .i64 x.g, .int .u64 x.t]] w fun e w' => ∃ v', e = .returned (.tuple #[v', .int .i64 (putE xs x)]) ∧ ((putE xs x ≠ 0 ∧ v' = v) ∨ (putE xs x = 0 ∧ Own w.heap.size w' v' (putL xs x))) ∧ Ch NoB w w' := by
  have hF := rhas_any P v xs x.s x.g _ (hx.alloc (.cells #[.int .i64 x.s, .int .i64 x.g, .int .u64 x.t] 33)) (by omega)
  rw [decide_eq_false hh] at hF
  have HT := hid (fun y j (h1 : xs[j]? = some y) (h2 : y.t = x.t) => there_turn hu h1 h2)
  have HNT := hid (fun (hn : ∀ i y, i < xs.length → xs[i]? = some y → ¬ y.t = x.t) => there_not hh hn)
  obtain ⟨ao, cap, rfl⟩ := hx.form
  obtain ⟨n, hn⟩ : ∃ n, n = xs.length := ⟨_, rfl⟩
  rw [← hn] at hF hx hl ⊢
  have HF := hid hF
  have HX := hid hx
  have HU := hid hu
  have HN := hid hn
  clear hF hx hh hu hn
  go_enter Try.func24, Try.ntmps24
  go_wp2_with fail
  refine HF.out.mono ?_
  rintro e w1 ⟨rfl, g1⟩
  have HG1 := hid (((Ch.refl NoB w).alloc _).trans' g1)
  have HX1 := hid (HX.out.ch HG1.out (fun _ _ _ => noB _))
  have T1 := (Three.new w x).ch g1 (noB _)
  obtain ⟨k0, k1, k2⟩ := T1.cells
  have kl := T1.lt
  have HT1 := hid T1
  clear g1 T1
  go_wp2_with fail
  go_loopg [6] n (fun k i wr => ∃ j, j + k = n ∧ i = .int .i64 ((j : Nat) : Int) ∧ (∀ i y, i < j → xs[i]? = some y → ¬ y.t = x.t) ∧ ∃ m, wr = w1.drewN m)
  case atStart => exact ⟨0, by omega, rfl, fun i y h => by omega, 0, rfl⟩
  case round =>
    obtain ⟨j, hjk, rfl, hno, m, rfl⟩ := hrel
    have HNO := hid hno
    clear hno
    by_cases hj : j < n
    · obtain ⟨z, hz⟩ : ∃ z, xs[j]? = some z := ⟨_, List.getElem?_eq_getElem (by rw [← HN.out]; exact hj)⟩
      obtain ⟨gb, o, rfl, _, hgl, a0, a1, a2⟩ := HX1.out.get hz
      have j0 : (0 : Int) ≤ (j : Int) := by omega
      have j1 : (j : Int) < (n : Int) := by omega
      have HZ := hid hz
      clear hz
      by_cases ht : z.t = x.t
      · have ht2 : (z.t == x.t) = true := by simp; exact ht
        have hE : putE xs x = 30 := by unfold putE; rw [if_pos (HT.out z j HZ.out ht)]
        have HE := hid hE
        clear hE
        go_wp2
        go_quiet (fail)
        go_wp2
        refine bodyPost_ret (v := .tuple #[.slice (some ⟨gb, o, none⟩) n cap, .int .i64 30]) (by simp [results, Try.results24, go_sem]) rfl ⟨_, by rw [HE.out], .inl ⟨by rw [HE.out]; decide, rfl⟩, (HG1.out.drewN _).drewN _⟩
      · have ht2 : (z.t == x.t) = false := by simp; exact ht
        go_wp2
        go_quiet (fail)
        go_wp2
        go_roundg (gk - 1)
        case measure => omega
        case rel =>
          refine ⟨j + 1, by omega, by simp, fun i y hi hy => ?_, _, rfl⟩
          by_cases e : i = j
          · subst e
            rw [HZ.out] at hy
            injection hy with hy
            rw [← hy]
            exact ht
          · exact HNO.out i y (by omega) hy
    · have hne : ∀ i y, i < xs.length → xs[i]? = some y → ¬ y.t = x.t := fun i y hi hy => HNO.out i y (by rw [← HN.out] at hi; omega) hy
      have hT := HNT.out hne
      have HNE := hid hne
      clear hne
      by_cases hf : 4096 ≤ n
      · have hE : putE xs x = 2 := by unfold putE; rw [hT, if_neg (by simp), if_pos (by rw [← HN.out]; exact hf)]
        have f0 : (4096 : Int) ≤ (n : Int) := by omega
        have HE := hid hE
        clear hE hT
        go_wp2
        exact bodyPost_ret (v := .tuple #[.slice ao n cap, .int .i64 2]) (by simp [results, Try.results24, go_sem]) rfl ⟨_, by rw [HE.out], .inl ⟨by rw [HE.out]; decide, rfl⟩, HG1.out.drewN _⟩
      · have hE : putE xs x = 0 := by unfold putE; rw [hT, if_neg (by simp), if_neg (by rw [← HN.out]; exact hf)]
        have hPL : putL xs x = xs.take (below x.t xs) ++ x :: xs.drop (below x.t xs) := by unfold putL; rw [if_pos hE]
        have f0 : ¬ ((4096 : Int) ≤ (n : Int)) := by omega
        have HE := hid hE
        have HPL := hid hPL
        obtain ⟨bl, hbl⟩ : ∃ bl, bl = below x.t xs := ⟨_, rfl⟩
        have HBL := hid hbl
        have hws := HG1.out.size
        clear hE hPL hT HNO hbl
        go_wp2_with fail
        go_loopg [7, 8, 9] n (fun k o d i wr => ∃ j l ao' c' db, j + k = n ∧ i = .int .i64 ((j : Nat) : Int) ∧ d = .bool db ∧ db = decide (bl < j) ∧ o = .slice ao' l c' ∧ l ≤ n + 1 ∧ Own w1.heap.size wr (.slice ao' l c') (insU xs x j) ∧ Ch NoB w1 wr)
        case atStart => exact ⟨0, 0, _, _, false, by omega, rfl, rfl, by simp, rfl, by omega, by rw [insU_zero]; exact Own.lit _, ((Ch.refl _ _).drewN _).alloc _⟩
        case round =>
          obtain ⟨j, l, ao', c', db, hjk, rfl, rfl, hd, rfl, hll, ho, hg⟩ := hrel
          have hol : l = (insU xs x j).length := by
            obtain ⟨a1, a2, a3⟩ := ho.form
            injection a3 with a3 a4 a5
          have HO := hid ho
          have HG := hid hg
          have HOL := hid hol
          have hsz := hg.size
          have x0 := (hg.cell kl (noB _)).trans k0
          have x1 := (hg.cell kl (noB _)).trans k1
          have x2 := (hg.cell kl (noB _)).trans k2
          have xl : w.heap.size < wr.heap.size := by omega
          clear ho hol hg
          by_cases hj : j < n
          · obtain ⟨z, hz⟩ : ∃ z, xs[j]? = some z := ⟨_, List.getElem?_eq_getElem (by rw [← HN.out]; exact hj)⟩
            obtain ⟨gb, o, rfl, _, hgl, a0, a1, a2⟩ := HX1.out.get hz
            have y0 := (HG.out.cell hgl (noB _)).trans a0
            have y1 := (HG.out.cell hgl (noB _)).trans a1
            have y2 := (HG.out.cell hgl (noB _)).trans a2
            have yl : gb < wr.heap.size := by omega
            have j0 : (0 : Int) ≤ (j : Int) := by omega
            have j1 : (j : Int) < (n : Int) := by omega
            have HZ := hid hz
            have hlen := insU_len xs x (j + 1)
            rw [← HN.out] at hlen
            clear hz
            by_cases c1 : j < bl
            · have hd' : db = false := by rw [hd, decide_eq_false (by omega)]
              subst hd'
              have hgt := below_lt (x := x) HU.out HZ.out (by rw [← HBL.out]; exact c1)
              have hgt2 : ¬ (x.t < z.t) := by omega
              have hL := insU_lt (x := x) HZ.out (by rw [← HBL.out]; exact c1)
              rw [hL, List.length_append, ← HOL.out] at hlen
              simp only [List.length_cons, List.length_nil] at hlen
              have HL := hid hL
              clear hL hd
              go_wp2_with fail
              refine wp_region_any (by kernel_rfl) ?_
              change wpAny _ _ _ _ _ _ _ (World.drew _)
              refine held_here ?_
              refine takeW_on (i := 0) 41 (v := ?v1) rfl rfl (by kernel_rfl) (by kernel_rfl) (by kernel_rfl) (fun _ _ _ h => h) (by kernel_rfl) ?hy1 ?_
              case hy1 => (go_simp; try (with_reducible rfl))
              simp only [Act.put, List.setIfInBounds_toArray, List.set_cons_zero, List.set_cons_succ]
              refine takeW_on (i := 1) 42 (v := ?v2) rfl rfl (by kernel_rfl) (by kernel_rfl) (by kernel_rfl) (fun _ _ _ h => h) (by kernel_rfl) ?hy2 ?_
              case hy2 => (go_simp; try (with_reducible rfl))
              simp only [Act.put, List.setIfInBounds_toArray, List.set_cons_zero, List.set_cons_succ]
              refine takeW_on (i := 2) 43 (v := ?v3) rfl rfl (by kernel_rfl) (by kernel_rfl) (by kernel_rfl) (fun _ _ _ h => h) (by kernel_rfl) ?hy3 ?_
              case hy3 => (go_simp; try (with_reducible rfl))
              simp only [Act.put, List.setIfInBounds_toArray, List.set_cons_zero, List.set_cons_succ]
              refine takeW_on (i := 3) 44 (v := ?v4) rfl rfl (by kernel_rfl) (by kernel_rfl) (by kernel_rfl) (fun _ _ _ h => h) (by kernel_rfl) ?hy4 ?_
              case hy4 => (go_simp; try (with_reducible rfl))
              simp only [Act.put, List.setIfInBounds_toArray, List.set_cons_zero, List.set_cons_succ]
              refine takeW_on (i := 4) 45 (v := ?v5) rfl rfl (by kernel_rfl) (by kernel_rfl) (by kernel_rfl) (fun _ _ _ h => h) (by kernel_rfl) ?hy5 ?_
              case hy5 => (go_simp; try (with_reducible rfl))
              simp only [Act.put, List.setIfInBounds_toArray, List.set_cons_zero, List.set_cons_succ]
              refine takeW_on (i := 5) 46 (v := ?v6) rfl rfl (by kernel_rfl) (by kernel_rfl) (by kernel_rfl) (fun _ _ _ h => h) (by kernel_rfl) ?hy6 ?_
              case hy6 => (go_simp; try (with_reducible rfl))
              simp only [Act.put, List.setIfInBounds_toArray, List.set_cons_zero, List.set_cons_succ]
              refine takeW_on (i := 6) 47 (v := ?v7) rfl rfl (by kernel_rfl) (by kernel_rfl) (by kernel_rfl) (fun _ _ _ h => h) (by kernel_rfl) ?hy7 ?_
              case hy7 => (go_simp; try (with_reducible rfl))
              simp only [Act.put, List.setIfInBounds_toArray, List.set_cons_zero, List.set_cons_succ]
              refine takeW_on (i := 7) 48 (v := ?v8) rfl rfl (by kernel_rfl) (by kernel_rfl) (by kernel_rfl) (fun _ _ _ h => h) (by kernel_rfl) ?hy8 ?_
              case hy8 => (go_simp; try (with_reducible rfl))
              simp only [Act.put, List.setIfInBounds_toArray, List.set_cons_zero, List.set_cons_succ]
              refine takeW_on (i := 8) 49 (v := ?v9) rfl rfl (by kernel_rfl) (by kernel_rfl) (by kernel_rfl) (fun _ _ _ h => h) (by kernel_rfl) ?hy9 ?_
              case hy9 => (go_simp; try (with_reducible rfl))
              simp only [Act.put, List.setIfInBounds_toArray, List.set_cons_zero, List.set_cons_succ]
              refine takeW_on (i := 9) 50 (v := ?v10) rfl rfl (by kernel_rfl) (by kernel_rfl) (by kernel_rfl) (fun _ _ _ h => h) (by kernel_rfl) ?hy10 ?_
              case hy10 => (go_simp; try (with_reducible rfl))
              simp only [Act.put, List.setIfInBounds_toArray, List.set_cons_zero, List.set_cons_succ]
              refine takeW_on (i := 10) 51 (v := ?v11) rfl rfl (by kernel_rfl) (by kernel_rfl) (by kernel_rfl) (fun _ _ _ h => h) (by kernel_rfl) ?hy11 ?_
              case hy11 => (go_simp; try (with_reducible rfl))
              simp only [Act.put, List.setIfInBounds_toArray, List.set_cons_zero, List.set_cons_succ]
              refine takeW_on (i := 11) 52 (v := ?v12) rfl rfl (by kernel_rfl) (by kernel_rfl) (by kernel_rfl) (fun _ _ _ h => h) (by kernel_rfl) ?hy12 ?_
              case hy12 => (go_simp; try (with_reducible rfl))
              simp only [Act.put, List.setIfInBounds_toArray, List.set_cons_zero, List.set_cons_succ]
              refine wpAnyH_done (by kernel_rfl) ?_ _
              go_wp2_with (first | (at_builtin; refine wpList_append_own2 rfl (.tmp 57) (.tmp 62) rfl w1.heap.size _ _ rfl (Own.alloc HO.out _) _ _ [z] rfl (lst_three (Three.new _ z)) (l + 1) (by rw [← HOL.out]; rfl) (by omega) (by simp <;> omega) _ rfl ?_; intro ao3 cap3 w3 ow3 cw3 bl3; have HO3 := hid ow3; have HG3 := hid ((HG.out.drew.alloc _).trans cw3 (fun q e => .inr (HO.out.blk e).1)); have hsz3 := HG3.out.size; have t03 := (HG3.out.cell hgl (noB _)).trans a0; have t13 := (HG3.out.cell hgl (noB _)).trans a1; have t23 := (HG3.out.cell hgl (noB _)).trans a2; have gl3 : gb < w3.heap.size := Nat.lt_of_lt_of_le hgl hsz3; clear ow3 cw3 bl3))
              go_roundg (gk - 1)
              case measure => omega
              case rel => exact ⟨j + 1, l + 1, _, _, false, by omega, by simp, rfl, by rw [decide_eq_false (by omega)], rfl, hlen, by rw [HL.out]; exact HO3.out, HG3.out⟩
            · by_cases c2 : j = bl
              · have hd' : db = false := by rw [hd, decide_eq_false (by omega)]
                subst hd'
                have hgt := below_gt (x := x) HU.out HZ.out (by rw [← HBL.out]; exact c1) (HNE.out j z (by rw [← HN.out]; exact hj) HZ.out)
                have hL := insU_eq (x := x) HZ.out (by rw [← HBL.out]; exact c2)
                have HC2 := hid c2
                clear c2
                rw [hL, List.length_append, List.length_append, ← HOL.out] at hlen
                simp only [List.length_cons, List.length_nil] at hlen
                have HL := hid hL
                clear hL hd
                go_wp2_with fail
                refine wp_region_any (by kernel_rfl) ?_
                change wpAny _ _ _ _ _ _ _ (World.drew _)
                refine held_here ?_
                refine takeW_on (i := 0) 41 (v := ?v13) rfl rfl (by kernel_rfl) (by kernel_rfl) (by kernel_rfl) (fun _ _ _ h => h) (by kernel_rfl) ?hy13 ?_
                case hy13 => (go_simp; try (with_reducible rfl))
                simp only [Act.put, List.setIfInBounds_toArray, List.set_cons_zero, List.set_cons_succ]
                refine takeW_on (i := 1) 42 (v := ?v14) rfl rfl (by kernel_rfl) (by kernel_rfl) (by kernel_rfl) (fun _ _ _ h => h) (by kernel_rfl) ?hy14 ?_
                case hy14 => (go_simp; try (with_reducible rfl))
                simp only [Act.put, List.setIfInBounds_toArray, List.set_cons_zero, List.set_cons_succ]
                refine takeW_on (i := 2) 43 (v := ?v15) rfl rfl (by kernel_rfl) (by kernel_rfl) (by kernel_rfl) (fun _ _ _ h => h) (by kernel_rfl) ?hy15 ?_
                case hy15 => (go_simp; try (with_reducible rfl))
                simp only [Act.put, List.setIfInBounds_toArray, List.set_cons_zero, List.set_cons_succ]
                refine takeW_on (i := 3) 44 (v := ?v16) rfl rfl (by kernel_rfl) (by kernel_rfl) (by kernel_rfl) (fun _ _ _ h => h) (by kernel_rfl) ?hy16 ?_
                case hy16 => (go_simp; try (with_reducible rfl))
                simp only [Act.put, List.setIfInBounds_toArray, List.set_cons_zero, List.set_cons_succ]
                refine takeW_on (i := 4) 45 (v := ?v17) rfl rfl (by kernel_rfl) (by kernel_rfl) (by kernel_rfl) (fun _ _ _ h => h) (by kernel_rfl) ?hy17 ?_
                case hy17 => (go_simp; try (with_reducible rfl))
                simp only [Act.put, List.setIfInBounds_toArray, List.set_cons_zero, List.set_cons_succ]
                refine takeW_on (i := 5) 46 (v := ?v18) rfl rfl (by kernel_rfl) (by kernel_rfl) (by kernel_rfl) (fun _ _ _ h => h) (by kernel_rfl) ?hy18 ?_
                case hy18 => (go_simp; try (with_reducible rfl))
                simp only [Act.put, List.setIfInBounds_toArray, List.set_cons_zero, List.set_cons_succ]
                refine takeW_on (i := 6) 47 (v := ?v19) rfl rfl (by kernel_rfl) (by kernel_rfl) (by kernel_rfl) (fun _ _ _ h => h) (by kernel_rfl) ?hy19 ?_
                case hy19 => (go_simp; try (with_reducible rfl))
                simp only [Act.put, List.setIfInBounds_toArray, List.set_cons_zero, List.set_cons_succ]
                refine takeW_on (i := 7) 48 (v := ?v20) rfl rfl (by kernel_rfl) (by kernel_rfl) (by kernel_rfl) (fun _ _ _ h => h) (by kernel_rfl) ?hy20 ?_
                case hy20 => (go_simp; try (with_reducible rfl))
                simp only [Act.put, List.setIfInBounds_toArray, List.set_cons_zero, List.set_cons_succ]
                refine takeW_on (i := 8) 49 (v := ?v21) rfl rfl (by kernel_rfl) (by kernel_rfl) (by kernel_rfl) (fun _ _ _ h => h) (by kernel_rfl) ?hy21 ?_
                case hy21 => (go_simp; try (with_reducible rfl))
                simp only [Act.put, List.setIfInBounds_toArray, List.set_cons_zero, List.set_cons_succ]
                refine takeW_on (i := 9) 50 (v := ?v22) rfl rfl (by kernel_rfl) (by kernel_rfl) (by kernel_rfl) (fun _ _ _ h => h) (by kernel_rfl) ?hy22 ?_
                case hy22 => (go_simp; try (with_reducible rfl))
                simp only [Act.put, List.setIfInBounds_toArray, List.set_cons_zero, List.set_cons_succ]
                refine takeW_on (i := 10) 51 (v := ?v23) rfl rfl (by kernel_rfl) (by kernel_rfl) (by kernel_rfl) (fun _ _ _ h => h) (by kernel_rfl) ?hy23 ?_
                case hy23 => (go_simp; try (with_reducible rfl))
                simp only [Act.put, List.setIfInBounds_toArray, List.set_cons_zero, List.set_cons_succ]
                refine takeW_on (i := 11) 52 (v := ?v24) rfl rfl (by kernel_rfl) (by kernel_rfl) (by kernel_rfl) (fun _ _ _ h => h) (by kernel_rfl) ?hy24 ?_
                case hy24 => (go_simp; try (with_reducible rfl))
                simp only [Act.put, List.setIfInBounds_toArray, List.set_cons_zero, List.set_cons_succ]
                refine wpAnyH_done (by kernel_rfl) ?_ _
                go_wp2_with (first | (at_builtin; refine wpList_append_own2 rfl (.tmp 53) (.tmp 55) rfl w1.heap.size _ _ rfl (Own.alloc HO.out _) _ _ [x] rfl (lst_three (Three.new _ x)) (l + 1) (by rw [← HOL.out]; rfl) (by omega) (by simp <;> omega) _ rfl ?_; intro ao3 cap3 w3 ow3 cw3 bl3; have HO3 := hid ow3; have HG3 := hid ((HG.out.drew.alloc _).trans cw3 (fun q e => .inr (HO.out.blk e).1)); have hsz3 := HG3.out.size; have t03 := (HG3.out.cell hgl (noB _)).trans a0; have t13 := (HG3.out.cell hgl (noB _)).trans a1; have t23 := (HG3.out.cell hgl (noB _)).trans a2; have gl3 : gb < w3.heap.size := Nat.lt_of_lt_of_le hgl hsz3; clear ow3 cw3 bl3) | (at_builtin; refine wpList_append_own2 rfl (.tmp 57) (.tmp 62) rfl w1.heap.size _ _ rfl (Own.alloc HO3.out _) _ _ [z] rfl (lst_three (Three.new _ z)) (l + 1 + 1) (by rw [List.length_append, ← HOL.out]; rfl) (by omega) (by simp <;> omega) _ rfl ?_; intro ao4 cap4 w4 ow4 cw4 bl4; have HO4 := hid ow4; have HG4 := hid ((HG3.out.alloc _).trans cw4 (fun q e => .inr (HO3.out.blk e).1)); have hsz4 := HG4.out.size; have t04 := (HG4.out.cell hgl (noB _)).trans a0; have t14 := (HG4.out.cell hgl (noB _)).trans a1; have t24 := (HG4.out.cell hgl (noB _)).trans a2; have gl4 : gb < w4.heap.size := Nat.lt_of_lt_of_le hgl hsz4; clear ow4 cw4 bl4))
                go_roundg (gk - 1)
                case measure => omega
                case rel => exact ⟨j + 1, l + 1 + 1, _, _, true, by omega, by simp, rfl, by rw [decide_eq_true (by have := HC2.out; omega)], rfl, hlen, by rw [HL.out]; exact HO4.out, HG4.out⟩
              · have hd' : db = true := by rw [hd, decide_eq_true (by omega)]
                subst hd'
                have hL := insU_gt (x := x) HZ.out (by rw [← HBL.out]; omega)
                rw [hL, List.length_append, ← HOL.out] at hlen
                simp only [List.length_cons, List.length_nil] at hlen
                have HL := hid hL
                clear hL hd
                go_wp2_with fail
                refine wp_region_any (by kernel_rfl) ?_
                change wpAny _ _ _ _ _ _ _ (World.drew _)
                refine take_on (i := 0) 41 (v := ?v25) rfl rfl (by kernel_rfl) (by kernel_rfl) (by kernel_rfl) (fun _ _ _ h => h) (by kernel_rfl) ?hy25 ?_
                case hy25 => (intro w; go_simp; try (with_reducible rfl))
                simp only [Act.put, List.setIfInBounds_toArray, List.set_cons_zero, List.set_cons_succ]
                refine take_on (i := 1) 42 (v := ?v26) rfl rfl (by kernel_rfl) (by kernel_rfl) (by kernel_rfl) (fun _ _ _ h => h) (by kernel_rfl) ?hy26 ?_
                case hy26 => (intro w; go_simp; try (with_reducible rfl))
                simp only [Act.put, List.setIfInBounds_toArray, List.set_cons_zero, List.set_cons_succ]
                refine take_on (i := 2) 43 (v := ?v27) rfl rfl (by kernel_rfl) (by kernel_rfl) (by kernel_rfl) (fun _ _ _ h => h) (by kernel_rfl) ?hy27 ?_
                case hy27 => (intro w; go_simp; try (with_reducible rfl))
                simp only [Act.put, List.setIfInBounds_toArray, List.set_cons_zero, List.set_cons_succ]
                refine skip_on (i := 3) 44 rfl rfl (by kernel_rfl) (by kernel_rfl) (by kernel_rfl) (fun _ _ _ h => h) (by kernel_rfl) ?_
                simp only [Act.put, List.setIfInBounds_toArray, List.set_cons_zero, List.set_cons_succ]
                refine skip_on (i := 4) 45 rfl rfl (by kernel_rfl) (by kernel_rfl) (by kernel_rfl) (fun _ _ _ h => h) (by kernel_rfl) ?_
                simp only [Act.put, List.setIfInBounds_toArray, List.set_cons_zero, List.set_cons_succ]
                refine skip_on (i := 5) 46 rfl rfl (by kernel_rfl) (by kernel_rfl) (by kernel_rfl) (fun _ _ _ h => h) (by kernel_rfl) ?_
                simp only [Act.put, List.setIfInBounds_toArray, List.set_cons_zero, List.set_cons_succ]
                refine skip_on (i := 6) 47 rfl rfl (by kernel_rfl) (by kernel_rfl) (by kernel_rfl) (fun _ _ _ h => h) (by kernel_rfl) ?_
                simp only [Act.put, List.setIfInBounds_toArray, List.set_cons_zero, List.set_cons_succ]
                refine skip_on (i := 7) 48 rfl rfl (by kernel_rfl) (by kernel_rfl) (by kernel_rfl) (fun _ _ _ h => h) (by kernel_rfl) ?_
                simp only [Act.put, List.setIfInBounds_toArray, List.set_cons_zero, List.set_cons_succ]
                refine skip_on (i := 8) 49 rfl rfl (by kernel_rfl) (by kernel_rfl) (by kernel_rfl) (fun _ _ _ h => h) (by kernel_rfl) ?_
                simp only [Act.put, List.setIfInBounds_toArray, List.set_cons_zero, List.set_cons_succ]
                refine skip_on (i := 9) 50 rfl rfl (by kernel_rfl) (by kernel_rfl) (by kernel_rfl) (fun _ _ _ h => h) (by kernel_rfl) ?_
                simp only [Act.put, List.setIfInBounds_toArray, List.set_cons_zero, List.set_cons_succ]
                refine skip_on (i := 10) 51 rfl rfl (by kernel_rfl) (by kernel_rfl) (by kernel_rfl) (fun _ _ _ h => h) (by kernel_rfl) ?_
                simp only [Act.put, List.setIfInBounds_toArray, List.set_cons_zero, List.set_cons_succ]
                refine take_on (i := 11) 52 (v := ?v36) rfl rfl (by kernel_rfl) (by kernel_rfl) (by kernel_rfl) (fun _ _ _ h => h) (by kernel_rfl) ?hy36 ?_
                case hy36 => (intro w; go_simp; try (with_reducible rfl))
                simp only [Act.put, List.setIfInBounds_toArray, List.set_cons_zero, List.set_cons_succ]
                refine wpAny_done (by kernel_rfl) ?_ _
                go_wp2_with (first | (at_builtin; refine wpList_append_own2 rfl (.tmp 57) (.tmp 62) rfl w1.heap.size _ _ rfl (Own.alloc HO.out _) _ _ [z] rfl (lst_three (Three.new _ z)) (l + 1) (by rw [← HOL.out]; rfl) (by omega) (by simp <;> omega) _ rfl ?_; intro ao3 cap3 w3 ow3 cw3 bl3; have HO3 := hid ow3; have HG3 := hid ((HG.out.drew.alloc _).trans cw3 (fun q e => .inr (HO.out.blk e).1)); have hsz3 := HG3.out.size; have t03 := (HG3.out.cell hgl (noB _)).trans a0; have t13 := (HG3.out.cell hgl (noB _)).trans a1; have t23 := (HG3.out.cell hgl (noB _)).trans a2; have gl3 : gb < w3.heap.size := Nat.lt_of_lt_of_le hgl hsz3; clear ow3 cw3 bl3))
                go_roundg (gk - 1)
                case measure => omega
                case rel => exact ⟨j + 1, l + 1, _, _, true, by omega, by simp, rfl, by rw [decide_eq_true (by omega)], rfl, hlen, by rw [HL.out]; exact HO3.out, HG3.out⟩
          · have hjn : j = n := by omega
            by_cases c1 : bl < j
            · have hd' : db = true := by rw [hd, decide_eq_true c1]
              subst hd'
              have hL := insU_end_in (xs := xs) (x := x) (j := j) (by rw [← HN.out]; omega) (by rw [← HBL.out]; exact c1)
              have HL := hid hL
              clear hL hd
              go_wp2
              exact bodyPost_ret (v := .tuple #[.slice ao' l c', .int .i64 0]) (by simp [results, Try.results24, go_sem]) rfl ⟨_, by rw [HE.out], .inr ⟨HE.out, by rw [HPL.out, ← HL.out]; exact HO.out.base (by omega)⟩, HG1.out.trans' HG.out⟩
            · have hd' : db = false := by rw [hd, decide_eq_false c1]
              subst hd'
              have hL := insU_end_out (xs := xs) (x := x) (j := j) (by rw [← HN.out]; omega) (by rw [← HBL.out]; exact c1)
              have hlen := insU_len xs x j
              have HL := hid hL
              clear hL hd
              go_wp2_with (first | (at_builtin; refine wpList_append_own2 rfl (.tmp 66) (.tmp 68) rfl w1.heap.size _ _ rfl (Own.alloc HO.out _) _ _ [x] rfl (lst_three (Three.new _ x)) (l + 1) (by rw [← HOL.out]; rfl) (by omega) (by simp <;> omega) _ rfl ?_; intro ao3 cap3 w3 ow3 cw3 bl3; have HO3 := hid ow3; have HG3 := hid ((HG.out.alloc _).trans cw3 (fun q e => .inr (HO.out.blk e).1)); clear ow3 cw3 bl3))
              exact bodyPost_ret (v := .tuple #[.slice ao3 (l + 1) cap3, .int .i64 0]) (by simp [results, Try.results24, go_sem]) rfl ⟨_, by rw [HE.out], .inr ⟨HE.out, by rw [HPL.out, ← HL.out]; exact HO3.out.base (by omega)⟩, HG1.out.trans' HG3.out⟩

theorem rput_any (P : Nat → Prop) (v : Value) (xs : List W3) (x : W3) (w : World) (hx : Lst P w v xs) (hl : xs.length ≤ 4096) (hu : Up xs) :
    Calls Try.prog 24 #[v, .agg #[.int .i64 x.s, .int .i64 x.g, .int .u64 x.t]] w fun e w' => ∃ ao' c', e = .returned (.tuple #[.slice ao' (putL xs x).length c', .int .i64 (putE xs x)]) ∧ Lst (fun q => P q ∨ w.heap.size ≤ q) w' (.slice ao' (putL xs x).length c') (putL xs x) ∧ Ch NoB w w' := by
  have hx1 := hx
  obtain ⟨ao, cap, rfl⟩ := hx.form
  by_cases hh : 0 ≤ atG x.s x.g xs
  · have ht : isThere xs x = true := by unfold isThere; rw [decide_eq_true hh]; rfl
    have he : putE xs x = 30 := by unfold putE; rw [if_pos ht]
    have hp : putL xs x = xs := by unfold putL; rw [he]; rfl
    refine (rput_has P _ xs x w hx hl hh).mono ?_
    rintro e w' ⟨rfl, g⟩
    refine ⟨ao, cap, by rw [he, hp], ?_, g⟩
    rw [hp]
    exact (hx1.ch g (fun _ _ _ => noB _)).mono (fun _ _ h => .inl h)
  · refine (rput_rest P _ xs x w hx hl hu hh).mono ?_
    rintro e w' ⟨v', rfl, h, g⟩
    rcases h with ⟨h0, rfl⟩ | ⟨h0, ho⟩
    · have hp : putL xs x = xs := by unfold putL; rw [if_neg h0]
      refine ⟨ao, cap, by rw [hp], ?_, g⟩
      rw [hp]
      exact (hx1.ch g (fun _ _ _ => noB _)).mono (fun _ _ h => .inl h)
    · obtain ⟨ao', c', rfl⟩ := ho.form
      exact ⟨ao', c', rfl, ho.lst.mono (fun _ _ h => .inr h), g⟩
end Go.Proofs.Ytphohfafehjafaa.Ff
