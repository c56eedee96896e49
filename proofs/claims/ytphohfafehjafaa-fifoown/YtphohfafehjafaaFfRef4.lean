/-
  What Batch and Load of the document's answer tell. Condition: the list is there, and has no more than 4096 elements.
-/
import Derived.Test.YtphohfafehjafaaFfRef3
namespace Go.Proofs.Ytphohfafehjafaa.Ff
open Go.RowKit
attribute [local go_sem ↓] Go.wp_at_zero Go.wp_at_succ

theorem rbatch_err (v : Value) (p r : Int) (w : World) (hv : ∃ ao n cap, v = .slice ao n cap) (h : p < 1 ∨ r < 0) :
    Calls Try.prog 23 #[v, .int .i64 p, .int .i64 r] w fun e w' => e = .returned (.tuple #[v, .slice none 0 0, .int .i64 1]) ∧ Ch NoB w w' := by
  obtain ⟨ao, n, cap, rfl⟩ := hv
  by_cases hp : p < 1
  · go_enter Try.func23, Try.ntmps23
    go_wp2
    exact bodyPost_ret (v := .tuple #[.slice ao n cap, .slice none 0 0, .int .i64 1]) (by simp [results, Try.results23, go_sem]) rfl ⟨rfl, Ch.refl _ _⟩
  · have hr : r < 0 := by omega
    go_enter Try.func23, Try.ntmps23
    go_wp2
    exact bodyPost_ret (v := .tuple #[.slice ao n cap, .slice none 0 0, .int .i64 1]) (by simp [results, Try.results23, go_sem]) rfl ⟨rfl, Ch.refl _ _⟩

/-- which of the three is the least: as the walk asks -/
def Least (n : Nat) (d r : Int) (m : Nat) : Prop := ((n : Int) < d ∧ (r < (n : Int) ∧ (m : Int) = r ∨ ¬ r < (n : Int) ∧ m = n)) ∨ (¬ (n : Int) < d ∧ (r < d ∧ (m : Int) = r ∨ ¬ r < d ∧ (m : Int) = d))
theorem least_batchN (p r : Int) (n : Nat) (hp : ¬ p < 1) (hr : ¬ r < 0) : Least n ((n : Int) / p + 1) r (batchN p r n) := by
  have q0 : (0 : Int) ≤ (n : Int) / p := Int.ediv_nonneg (by omega) (by omega)
  unfold batchN Least
  generalize (n : Int) / p = e at *
  simp only [Nat.min_def]
  repeat' split
  all_goals omega

/-- a list that lies apart from the one that is appended to -/
theorem sep_append {P : Nat → Prop} {B : Nat} {w w' : World} {v : Value} {xs : List W3} {o o' : Value} (h : Lst (fun q => P q ∨ (B ≤ q ∧ ¬ Blk o q)) w v xs) (g : Ch (Blk o) w w') (hb : ∀ q, Blk o' q → Blk o q ∨ w.heap.size ≤ q) (ho : ∀ q, Blk o q → B ≤ q) (hP : ∀ q, P q → q < B) :
    Lst (fun q => P q ∨ (B ≤ q ∧ ¬ Blk o' q)) w' v xs := by
  have h1 : Lst (fun q => q < w.heap.size ∧ (P q ∨ (B ≤ q ∧ ¬ Blk o q))) w v xs := h.mono (fun q h1 h2 => ⟨h1, h2⟩)
  refine (h1.ch g (fun q _ h e => ?_)).mono (fun q _ h => ?_)
  · rcases h.2 with a | a
    · have := hP q a; have := ho q e; omega
    · exact a.2 e
  · rcases h.2 with a | a
    · exact .inl a
    · refine .inr ⟨a.1, fun e => ?_⟩
      rcases hb q e with c | c
      · exact a.2 c
      · omega

set_option maxHeartbeats 4000000 in
set_option maxRecDepth 20000 in
theorem rbatch_some (P : Nat → Prop) (v : Value) (p r : Int) (m : Nat) (xs : List W3) (w : World) (hx : Lst P w v xs) (hl : xs.length ≤ 4096) (hp : ¬ p < 1) (hr : ¬ r < 0) (hm : Least xs.length ((xs.length : Int) / p + 1) r m) (hml : m ≤ xs.length) (hpb : ∀ q, P q → q < w.heap.size) :
    Calls Try.prog 23 #[v, .int .i64 p, .int .i64 r] w fun e w' => ∃ ao' c' out, e = .returned (.tuple #[.slice ao' (xs.drop m).length c', out, .int .i64 0]) ∧ Lst (fun q => P q ∨ w.heap.size ≤ q) w' (.slice ao' (xs.drop m).length c') (xs.drop m) ∧ Own w.heap.size w' out (xs.take m) ∧ Ch NoB w w' := by
  obtain ⟨ao, cap, rfl⟩ := hx.form
  obtain ⟨n, hn⟩ : ∃ n, n = xs.length := ⟨_, rfl⟩
  rw [← hn] at hx hl hm hml ⊢
  have p0 : ¬ p = 0 := by omega
  have p1 : ((n : Int).tdiv p) = (n : Int) / p := Int.tdiv_eq_ediv_of_nonneg (by omega)
  have q0 : (0 : Int) ≤ (n : Int) / p := Int.ediv_nonneg (by omega) (by omega)
  have q1 : (n : Int) / p ≤ (n : Int) := Int.ediv_le_self _ (by omega)
  obtain ⟨e, he⟩ : ∃ e, e = (n : Int) / p := ⟨_, rfl⟩
  rw [← he] at p1 q0 q1 hm
  have w1 : IntKind.i64.wrap e = e := by rw [IntKind.wrap_i64]; omega
  have w2 : IntKind.i64.wrap (e + 1) = e + 1 := by rw [IntKind.wrap_i64]; omega
  have HX := hid hx
  have HN := hid hn
  clear hx hn he
  have HPB := hid hpb
  clear hpb
  rcases hm with ⟨h1, ⟨h2, h3⟩ | ⟨h2, h3⟩⟩ | ⟨h1, ⟨h2, h3⟩ | ⟨h2, h3⟩⟩
  · subst h3
    go_enter Try.func23, Try.ntmps23
    go_wp2_with fail
    go_loopg [0, 10, 11] m (fun k qv o i wr => ∃ j l ao' c' ao2 c2, j + k = m ∧ l + j = n ∧ i = .int .i64 ((j : Nat) : Int) ∧ qv = .slice ao2 l c2 ∧ o = .slice ao' j c' ∧ Lst (fun q => P q ∨ (w.heap.size ≤ q ∧ ¬ Blk (.slice ao' j c') q)) wr (.slice ao2 l c2) (xs.drop j) ∧ Own w.heap.size wr (.slice ao' j c') (xs.take j) ∧ Ch NoB w wr)
    case atStart => exact ⟨0, n, _, _, _, _, by omega, by omega, rfl, rfl, rfl, by rw [List.drop_zero]; exact (HX.out.alloc _).mono (fun _ _ h => .inl h), by rw [List.take_zero]; exact Own.lit w, (Ch.refl _ _).alloc _⟩
    case round =>
      obtain ⟨j, l, ao', c', ao2, c2, hjk, hlj, rfl, rfl, rfl, hq, ho, hg⟩ := hrel
      have HQ := hid hq
      have HO := hid ho
      have HG := hid hg
      have hsz := hg.size
      clear hq ho hg
      by_cases hj : j < m
      · obtain ⟨z, hz⟩ : ∃ z, xs[j]? = some z := ⟨_, List.getElem?_eq_getElem (by rw [← HN.out]; omega)⟩
        have hz0 : (xs.drop j)[0]? = some z := by rw [List.getElem?_drop, Nat.add_zero]; exact hz
        obtain ⟨gb, o, rfl, _, hgl, a0, a1, a2⟩ := HQ.out.get hz0
        simp only [Nat.zero_mul, Nat.add_zero] at a0 a1 a2
        have j1 : (j : Int) < (m : Int) := by omega
        have l0 : 0 < l := by omega
        have l1 : (0 : Int) < (l : Int) := by omega
        have ht : xs.take (j + 1) = xs.take j ++ [z] := by rw [List.take_add_one, hz]; rfl
        have hd : (xs.drop j).eraseIdx 0 = xs.drop (j + 1) := by rw [erase_cut]; unfold cutOut; rw [List.take_zero, List.nil_append, List.drop_drop]
        have hdl : (xs.drop (j + 1)).length = l - 1 := by rw [List.length_drop, ← HN.out]; omega
        have hW := fun W PP (h : Lst PP W (.slice (some ⟨gb, o, none⟩) l c2) (xs.drop j)) => without_any PP _ (xs.drop j) 0 W h (by rw [List.length_drop, ← HN.out]; omega)
        rw [hd] at hW
        have HT := hid ht
        have HDL := hid hdl
        have HW := hid hW
        have HTL := hid (show (xs.take j).length = j by rw [List.length_take, ← HN.out]; omega)
        clear hz hz0 ht hd hdl hW
        go_wp2_with (first | (at_builtin; refine wpList_append_own2 rfl (.tmp 40) (.tmp 44) rfl w.heap.size _ _ rfl (Own.alloc HO.out _) _ _ [z] rfl (lst_three (Three.new _ z)) (j + 1) (by rw [HTL.out]; rfl) (by omega) (by simp <;> omega) _ rfl ?_; intro ao3 cap3 w3 ow3 cw3 bl3; have HO3 := hid ow3; have HG3 := hid ((HG.out.alloc _).trans cw3 (fun q e => .inr (HO.out.blk e).1)); have HQ3 := hid (sep_append (HQ.out.alloc _) cw3 bl3 (fun q e => (HO.out.blk e).1) HPB.out); have hsz3 := HG3.out.size; clear ow3 cw3 bl3))
        refine (HW.out _ _ HQ3.out).mono ?_
        rintro e w4 ⟨v4, rfl, o4, g4⟩
        obtain ⟨ao4, c4, rfl⟩ := o4.form
        rw [HDL.out] at o4
        have HO4 := hid (Own.ch HO3.out g4 (fun _ _ => noB _))
        have HG4 := hid (HG3.out.trans' g4)
        have HQ4 := hid (o4.lst.mono (Q := fun q => P q ∨ (w.heap.size ≤ q ∧ ¬ Blk (.slice ao3 (j + 1) cap3) q)) (fun q _ h => .inr ⟨Nat.le_trans hsz3 h, fun e => by have := (HO3.out.blk e).2; omega⟩))
        rw [HDL.out]
        clear o4 g4
        go_wp2
        go_roundg (gk - 1)
        case measure => omega
        case rel => exact ⟨j + 1, l - 1, _, _, _, _, by omega, by omega, by simp, rfl, rfl, HQ4.out, by rw [HT.out]; exact HO4.out, HG4.out⟩
      · have hjm : j = m := by omega
        subst hjm
        have HDL := hid (show (xs.drop j).length = l by rw [List.length_drop, ← HN.out]; omega)
        go_wp2
        exact bodyPost_ret (v := .tuple #[.slice ao2 l c2, .slice ao' j c', .int .i64 0]) (by simp [results, Try.results23, go_sem]) rfl ⟨_, _, _, by rw [HDL.out], by rw [HDL.out]; exact HQ.out.mono (fun q _ h => h.imp id And.left), HO.out, HG.out⟩
  · subst h3
    go_enter Try.func23, Try.ntmps23
    go_wp2_with fail
    go_loopg [0, 10, 11] m (fun k qv o i wr => ∃ j l ao' c' ao2 c2, j + k = m ∧ l + j = m ∧ i = .int .i64 ((j : Nat) : Int) ∧ qv = .slice ao2 l c2 ∧ o = .slice ao' j c' ∧ Lst (fun q => P q ∨ (w.heap.size ≤ q ∧ ¬ Blk (.slice ao' j c') q)) wr (.slice ao2 l c2) (xs.drop j) ∧ Own w.heap.size wr (.slice ao' j c') (xs.take j) ∧ Ch NoB w wr)
    case atStart => exact ⟨0, m, _, _, _, _, by omega, by omega, rfl, rfl, rfl, by rw [List.drop_zero]; exact (HX.out.alloc _).mono (fun _ _ h => .inl h), by rw [List.take_zero]; exact Own.lit w, (Ch.refl _ _).alloc _⟩
    case round =>
      obtain ⟨j, l, ao', c', ao2, c2, hjk, hlj, rfl, rfl, rfl, hq, ho, hg⟩ := hrel
      have HQ := hid hq
      have HO := hid ho
      have HG := hid hg
      have hsz := hg.size
      clear hq ho hg
      by_cases hj : j < m
      · obtain ⟨z, hz⟩ : ∃ z, xs[j]? = some z := ⟨_, List.getElem?_eq_getElem (by rw [← HN.out]; omega)⟩
        have hz0 : (xs.drop j)[0]? = some z := by rw [List.getElem?_drop, Nat.add_zero]; exact hz
        obtain ⟨gb, o, rfl, _, hgl, a0, a1, a2⟩ := HQ.out.get hz0
        simp only [Nat.zero_mul, Nat.add_zero] at a0 a1 a2
        have j1 : (j : Int) < (m : Int) := by omega
        have l0 : 0 < l := by omega
        have l1 : (0 : Int) < (l : Int) := by omega
        have ht : xs.take (j + 1) = xs.take j ++ [z] := by rw [List.take_add_one, hz]; rfl
        have hd : (xs.drop j).eraseIdx 0 = xs.drop (j + 1) := by rw [erase_cut]; unfold cutOut; rw [List.take_zero, List.nil_append, List.drop_drop]
        have hdl : (xs.drop (j + 1)).length = l - 1 := by rw [List.length_drop, ← HN.out]; omega
        have hW := fun W PP (h : Lst PP W (.slice (some ⟨gb, o, none⟩) l c2) (xs.drop j)) => without_any PP _ (xs.drop j) 0 W h (by rw [List.length_drop, ← HN.out]; omega)
        rw [hd] at hW
        have HT := hid ht
        have HDL := hid hdl
        have HW := hid hW
        have HTL := hid (show (xs.take j).length = j by rw [List.length_take, ← HN.out]; omega)
        clear hz hz0 ht hd hdl hW
        go_wp2_with (first | (at_builtin; refine wpList_append_own2 rfl (.tmp 40) (.tmp 44) rfl w.heap.size _ _ rfl (Own.alloc HO.out _) _ _ [z] rfl (lst_three (Three.new _ z)) (j + 1) (by rw [HTL.out]; rfl) (by omega) (by simp <;> omega) _ rfl ?_; intro ao3 cap3 w3 ow3 cw3 bl3; have HO3 := hid ow3; have HG3 := hid ((HG.out.alloc _).trans cw3 (fun q e => .inr (HO.out.blk e).1)); have HQ3 := hid (sep_append (HQ.out.alloc _) cw3 bl3 (fun q e => (HO.out.blk e).1) HPB.out); have hsz3 := HG3.out.size; clear ow3 cw3 bl3))
        refine (HW.out _ _ HQ3.out).mono ?_
        rintro e w4 ⟨v4, rfl, o4, g4⟩
        obtain ⟨ao4, c4, rfl⟩ := o4.form
        rw [HDL.out] at o4
        have HO4 := hid (Own.ch HO3.out g4 (fun _ _ => noB _))
        have HG4 := hid (HG3.out.trans' g4)
        have HQ4 := hid (o4.lst.mono (Q := fun q => P q ∨ (w.heap.size ≤ q ∧ ¬ Blk (.slice ao3 (j + 1) cap3) q)) (fun q _ h => .inr ⟨Nat.le_trans hsz3 h, fun e => by have := (HO3.out.blk e).2; omega⟩))
        rw [HDL.out]
        clear o4 g4
        go_wp2
        go_roundg (gk - 1)
        case measure => omega
        case rel => exact ⟨j + 1, l - 1, _, _, _, _, by omega, by omega, by simp, rfl, rfl, HQ4.out, by rw [HT.out]; exact HO4.out, HG4.out⟩
      · have hjm : j = m := by omega
        subst hjm
        have HDL := hid (show (xs.drop j).length = l by rw [List.length_drop, ← HN.out]; omega)
        go_wp2
        exact bodyPost_ret (v := .tuple #[.slice ao2 l c2, .slice ao' j c', .int .i64 0]) (by simp [results, Try.results23, go_sem]) rfl ⟨_, _, _, by rw [HDL.out], by rw [HDL.out]; exact HQ.out.mono (fun q _ h => h.imp id And.left), HO.out, HG.out⟩
  · subst h3
    go_enter Try.func23, Try.ntmps23
    go_wp2_with fail
    go_loopg [0, 10, 11] m (fun k qv o i wr => ∃ j l ao' c' ao2 c2, j + k = m ∧ l + j = n ∧ i = .int .i64 ((j : Nat) : Int) ∧ qv = .slice ao2 l c2 ∧ o = .slice ao' j c' ∧ Lst (fun q => P q ∨ (w.heap.size ≤ q ∧ ¬ Blk (.slice ao' j c') q)) wr (.slice ao2 l c2) (xs.drop j) ∧ Own w.heap.size wr (.slice ao' j c') (xs.take j) ∧ Ch NoB w wr)
    case atStart => exact ⟨0, n, _, _, _, _, by omega, by omega, rfl, rfl, rfl, by rw [List.drop_zero]; exact (HX.out.alloc _).mono (fun _ _ h => .inl h), by rw [List.take_zero]; exact Own.lit w, (Ch.refl _ _).alloc _⟩
    case round =>
      obtain ⟨j, l, ao', c', ao2, c2, hjk, hlj, rfl, rfl, rfl, hq, ho, hg⟩ := hrel
      have HQ := hid hq
      have HO := hid ho
      have HG := hid hg
      have hsz := hg.size
      clear hq ho hg
      by_cases hj : j < m
      · obtain ⟨z, hz⟩ : ∃ z, xs[j]? = some z := ⟨_, List.getElem?_eq_getElem (by rw [← HN.out]; omega)⟩
        have hz0 : (xs.drop j)[0]? = some z := by rw [List.getElem?_drop, Nat.add_zero]; exact hz
        obtain ⟨gb, o, rfl, _, hgl, a0, a1, a2⟩ := HQ.out.get hz0
        simp only [Nat.zero_mul, Nat.add_zero] at a0 a1 a2
        have j1 : (j : Int) < (m : Int) := by omega
        have l0 : 0 < l := by omega
        have l1 : (0 : Int) < (l : Int) := by omega
        have ht : xs.take (j + 1) = xs.take j ++ [z] := by rw [List.take_add_one, hz]; rfl
        have hd : (xs.drop j).eraseIdx 0 = xs.drop (j + 1) := by rw [erase_cut]; unfold cutOut; rw [List.take_zero, List.nil_append, List.drop_drop]
        have hdl : (xs.drop (j + 1)).length = l - 1 := by rw [List.length_drop, ← HN.out]; omega
        have hW := fun W PP (h : Lst PP W (.slice (some ⟨gb, o, none⟩) l c2) (xs.drop j)) => without_any PP _ (xs.drop j) 0 W h (by rw [List.length_drop, ← HN.out]; omega)
        rw [hd] at hW
        have HT := hid ht
        have HDL := hid hdl
        have HW := hid hW
        have HTL := hid (show (xs.take j).length = j by rw [List.length_take, ← HN.out]; omega)
        clear hz hz0 ht hd hdl hW
        go_wp2_with (first | (at_builtin; refine wpList_append_own2 rfl (.tmp 40) (.tmp 44) rfl w.heap.size _ _ rfl (Own.alloc HO.out _) _ _ [z] rfl (lst_three (Three.new _ z)) (j + 1) (by rw [HTL.out]; rfl) (by omega) (by simp <;> omega) _ rfl ?_; intro ao3 cap3 w3 ow3 cw3 bl3; have HO3 := hid ow3; have HG3 := hid ((HG.out.alloc _).trans cw3 (fun q e => .inr (HO.out.blk e).1)); have HQ3 := hid (sep_append (HQ.out.alloc _) cw3 bl3 (fun q e => (HO.out.blk e).1) HPB.out); have hsz3 := HG3.out.size; clear ow3 cw3 bl3))
        refine (HW.out _ _ HQ3.out).mono ?_
        rintro e w4 ⟨v4, rfl, o4, g4⟩
        obtain ⟨ao4, c4, rfl⟩ := o4.form
        rw [HDL.out] at o4
        have HO4 := hid (Own.ch HO3.out g4 (fun _ _ => noB _))
        have HG4 := hid (HG3.out.trans' g4)
        have HQ4 := hid (o4.lst.mono (Q := fun q => P q ∨ (w.heap.size ≤ q ∧ ¬ Blk (.slice ao3 (j + 1) cap3) q)) (fun q _ h => .inr ⟨Nat.le_trans hsz3 h, fun e => by have := (HO3.out.blk e).2; omega⟩))
        rw [HDL.out]
        clear o4 g4
        go_wp2
        go_roundg (gk - 1)
        case measure => omega
        case rel => exact ⟨j + 1, l - 1, _, _, _, _, by omega, by omega, by simp, rfl, rfl, HQ4.out, by rw [HT.out]; exact HO4.out, HG4.out⟩
      · have hjm : j = m := by omega
        subst hjm
        have HDL := hid (show (xs.drop j).length = l by rw [List.length_drop, ← HN.out]; omega)
        go_wp2
        exact bodyPost_ret (v := .tuple #[.slice ao2 l c2, .slice ao' j c', .int .i64 0]) (by simp [results, Try.results23, go_sem]) rfl ⟨_, _, _, by rw [HDL.out], by rw [HDL.out]; exact HQ.out.mono (fun q _ h => h.imp id And.left), HO.out, HG.out⟩
  · have w3 : IntKind.i64.wrap (e + 1) = (m : Int) := by rw [w2, h3]
    rw [← h3] at h1 h2
    clear h3 w2
    go_enter Try.func23, Try.ntmps23
    go_wp2_with fail
    go_loopg [0, 10, 11] m (fun k qv o i wr => ∃ j l ao' c' ao2 c2, j + k = m ∧ l + j = n ∧ i = .int .i64 ((j : Nat) : Int) ∧ qv = .slice ao2 l c2 ∧ o = .slice ao' j c' ∧ Lst (fun q => P q ∨ (w.heap.size ≤ q ∧ ¬ Blk (.slice ao' j c') q)) wr (.slice ao2 l c2) (xs.drop j) ∧ Own w.heap.size wr (.slice ao' j c') (xs.take j) ∧ Ch NoB w wr)
    case atStart => exact ⟨0, n, _, _, _, _, by omega, by omega, rfl, rfl, rfl, by rw [List.drop_zero]; exact (HX.out.alloc _).mono (fun _ _ h => .inl h), by rw [List.take_zero]; exact Own.lit w, (Ch.refl _ _).alloc _⟩
    case round =>
      obtain ⟨j, l, ao', c', ao2, c2, hjk, hlj, rfl, rfl, rfl, hq, ho, hg⟩ := hrel
      have HQ := hid hq
      have HO := hid ho
      have HG := hid hg
      have hsz := hg.size
      clear hq ho hg
      by_cases hj : j < m
      · obtain ⟨z, hz⟩ : ∃ z, xs[j]? = some z := ⟨_, List.getElem?_eq_getElem (by rw [← HN.out]; omega)⟩
        have hz0 : (xs.drop j)[0]? = some z := by rw [List.getElem?_drop, Nat.add_zero]; exact hz
        obtain ⟨gb, o, rfl, _, hgl, a0, a1, a2⟩ := HQ.out.get hz0
        simp only [Nat.zero_mul, Nat.add_zero] at a0 a1 a2
        have j1 : (j : Int) < (m : Int) := by omega
        have l0 : 0 < l := by omega
        have l1 : (0 : Int) < (l : Int) := by omega
        have ht : xs.take (j + 1) = xs.take j ++ [z] := by rw [List.take_add_one, hz]; rfl
        have hd : (xs.drop j).eraseIdx 0 = xs.drop (j + 1) := by rw [erase_cut]; unfold cutOut; rw [List.take_zero, List.nil_append, List.drop_drop]
        have hdl : (xs.drop (j + 1)).length = l - 1 := by rw [List.length_drop, ← HN.out]; omega
        have hW := fun W PP (h : Lst PP W (.slice (some ⟨gb, o, none⟩) l c2) (xs.drop j)) => without_any PP _ (xs.drop j) 0 W h (by rw [List.length_drop, ← HN.out]; omega)
        rw [hd] at hW
        have HT := hid ht
        have HDL := hid hdl
        have HW := hid hW
        have HTL := hid (show (xs.take j).length = j by rw [List.length_take, ← HN.out]; omega)
        clear hz hz0 ht hd hdl hW
        go_wp2_with (first | (at_builtin; refine wpList_append_own2 rfl (.tmp 40) (.tmp 44) rfl w.heap.size _ _ rfl (Own.alloc HO.out _) _ _ [z] rfl (lst_three (Three.new _ z)) (j + 1) (by rw [HTL.out]; rfl) (by omega) (by simp <;> omega) _ rfl ?_; intro ao3 cap3 w3 ow3 cw3 bl3; have HO3 := hid ow3; have HG3 := hid ((HG.out.alloc _).trans cw3 (fun q e => .inr (HO.out.blk e).1)); have HQ3 := hid (sep_append (HQ.out.alloc _) cw3 bl3 (fun q e => (HO.out.blk e).1) HPB.out); have hsz3 := HG3.out.size; clear ow3 cw3 bl3))
        refine (HW.out _ _ HQ3.out).mono ?_
        rintro e w4 ⟨v4, rfl, o4, g4⟩
        obtain ⟨ao4, c4, rfl⟩ := o4.form
        rw [HDL.out] at o4
        have HO4 := hid (Own.ch HO3.out g4 (fun _ _ => noB _))
        have HG4 := hid (HG3.out.trans' g4)
        have HQ4 := hid (o4.lst.mono (Q := fun q => P q ∨ (w.heap.size ≤ q ∧ ¬ Blk (.slice ao3 (j + 1) cap3) q)) (fun q _ h => .inr ⟨Nat.le_trans hsz3 h, fun e => by have := (HO3.out.blk e).2; omega⟩))
        rw [HDL.out]
        clear o4 g4
        go_wp2
        go_roundg (gk - 1)
        case measure => omega
        case rel => exact ⟨j + 1, l - 1, _, _, _, _, by omega, by omega, by simp, rfl, rfl, HQ4.out, by rw [HT.out]; exact HO4.out, HG4.out⟩
      · have hjm : j = m := by omega
        subst hjm
        have HDL := hid (show (xs.drop j).length = l by rw [List.length_drop, ← HN.out]; omega)
        go_wp2
        exact bodyPost_ret (v := .tuple #[.slice ao2 l c2, .slice ao' j c', .int .i64 0]) (by simp [results, Try.results23, go_sem]) rfl ⟨_, _, _, by rw [HDL.out], by rw [HDL.out]; exact HQ.out.mono (fun q _ h => h.imp id And.left), HO.out, HG.out⟩

theorem rbatch_any (P : Nat → Prop) (v : Value) (p r : Int) (xs : List W3) (w : World) (hx : Lst P w v xs) (hl : xs.length ≤ 4096) (hp : ¬ p < 1) (hr : ¬ r < 0) (hpb : ∀ q, P q → q < w.heap.size) :
    Calls Try.prog 23 #[v, .int .i64 p, .int .i64 r] w fun e w' => ∃ ao' c' out, e = .returned (.tuple #[.slice ao' (xs.drop (batchN p r xs.length)).length c', out, .int .i64 0]) ∧ Lst (fun q => P q ∨ w.heap.size ≤ q) w' (.slice ao' (xs.drop (batchN p r xs.length)).length c') (xs.drop (batchN p r xs.length)) ∧ Own w.heap.size w' out (xs.take (batchN p r xs.length)) ∧ Ch NoB w w' :=
  rbatch_some P v p r _ xs w hx hl hp hr (least_batchN p r xs.length hp hr) (batchN_le _ _ _) hpb
end Go.Proofs.Ytphohfafehjafaa.Ff
