/-
  That the program knows paths; a list of its own of edges; two lists of numbers that are the same. Condition: the list is not too long.
-/
import Derived.Test.YtcoaefojamhloaaPyAsk
namespace Go.Proofs.Ytcoaefojamhloaa.Lt
open Go.RowKit Wd
attribute [local go_sem ↓] Go.wp_at_zero Go.wp_at_succ
set_option maxRecDepth 20000

/-- two edges in a new block -/
theorem le_two (w : World) (x y : Eg) (T : TypeId) (b : Nat) (hb : b = w.heap.size) : Le (w.alloc (.cells #[.int .i64 x.f, .int .i64 x.t, .int .i64 y.f, .int .i64 y.t] T)) (.slice (some ⟨b, 0, none⟩) 2 2) [x, y] := by
  subst hb
  refine ⟨some ⟨w.heap.size, 0, none⟩, 2, rfl, ⟨Nat.le_refl _, fun h => by cases h⟩, .inr ⟨w.heap.size, 0, rfl, trivial, by simp, fun j v hv => ?_⟩⟩
  have := cell_of (al_at (w := w) (.cells #[.int .i64 x.f, .int .i64 x.t, .int .i64 y.f, .int .i64 y.t] T) rfl) (0 + j)
  rw [this, Nat.zero_add, ← hv]
  match j with
  | 0 => rfl
  | 1 => rfl
  | 2 => rfl
  | 3 => rfl
  | j + 4 => simp [eE]
def egs2 : List Eg := [⟨0, 1⟩, ⟨1, 2⟩]
theorem pth_awake : pthE 3 egs2 0 2 = .returned (.tuple #[.bool true, .int .i64 0]) := by
  have h0 : wrgP 3 egs2 [0, 2] = 0 := by decide
  have h1 : pthB 3 egs2 0 2 = true := by
    unfold pthB
    rw [if_pos h0]
    decide
  unfold pthE
  rw [h0, h1]
theorem lives_any (w : World) : Calls Try.prog 12 #[] w fun e w' => e = .returned (.bool true) ∧ Gr w w' := by
  have C := hide (path_any _ 3 _ 2 2 egs2 (le_two w ⟨0, 1⟩ ⟨1, 2⟩ 42 w.heap.size rfl) (by omega) 0 2)
  rw [pth_awake] at C
  go_enter Try.func12, Try.ntmps12
  go_wp2_with fail
  refine C.out.mono ?_
  rintro e w1 ⟨rfl, g1⟩
  have G1 := hide (Gr.trans (Ch.alloc (Gr.refl w) _) g1)
  clear g1
  go_wp2
  go_ret
  exact ⟨rfl, G1.out⟩
set_option maxHeartbeats 4000000 in
theorem edges_any (w : World) (P : Nat → Prop) (a : Option Addr) (m c : Nat) (l : List Eg) (h : Ls eE P w (.slice a m c) l) (hm : m ≤ 8796093022208) :
    Calls Try.prog 10 #[.slice a m c] w fun e w' => ∃ ao cap, e = .returned (.slice ao m cap) ∧ Ow eE 2 42 w.heap.size w' (.slice ao m cap) l ∧ Gr w w' := by
  have HL := hide h
  have HM := hide (show m = l.length from h.len.1)
  clear h
  go_enter Try.func10, Try.ntmps10
  go_wp2_with fail
  go_loopg [3, 4] m (fun k lv i wr => ∃ (j : Nat), j + k = m ∧ i = .int .i64 (j : Int) ∧ Ow eE 2 42 w.heap.size wr lv (l.take j) ∧ Gr w wr)
  case atStart => exact ⟨0, by omega, rfl, by rw [List.take_zero]; exact ow_emptyE _, by first | exact Gr.refl _ | exact Ch.alloc (Gr.refl _) _⟩
  case round =>
    obtain ⟨j, hjk, rfl, ho, hg⟩ := hrel
    obtain ⟨ao, cap, rfl⟩ := ho.form
    have hlen : (l.take j).length = j := by rw [List.length_take, ← HM.out]; omega
    rw [hlen] at ho ⊢
    have G := hide hg
    have HO := hide ho
    clear ho
    by_cases hj : j < m
    · have hj' : (j : Int) < (m : Int) := by omega
      have hj0 : (0 : Int) ≤ (j : Int) := by omega
      have hjm : (j : Int) < 8796093022208 := by omega
      have hjl : j < l.length := by rw [← HM.out]; exact hj
      have hjx : l[j]? = some l[j] := List.getElem?_eq_getElem hjl
      have HT := hide (show l.take j ++ [l[j]] = l.take (j + 1) by rw [List.take_add_one, hjx]; rfl)
      obtain ⟨g, o, rfl, gl, gc, x0, x1⟩ := eg_at (HL.out.gr hg) hjx
      generalize l[j] = x at *
      have HH := hide (show (l.take j).length = j from hlen)
      have HS := hide hg.size
      clear hjx hg hlen hjl
      go_wp2_with (at_builtin; refine wpList_append_ow eE_len rfl (.tmp 12) (.tmp 17) _ 42 16 _ Try.underlying22 edge_info rfl (by omega) rfl w.heap.size _ (l.take j) rfl (HO.out.alloc _) _ _ [x] rfl (Ls.single wr x 42 #[.int .i64 x.f, .int .i64 x.t] rfl) (eE_one _) (j + 1) (by rw [HH.out]; rfl) (by omega) (by unfold maxLen; omega) (by simp; have := HS.out; omega) (l.take (j + 1)) HT.out ?_; intro ao5 cap5 w5 ow5 cw5 bl5; have O5 := hide ow5; have C5 := hide (show Gr w w5 from Ch.trans (Ch.alloc G.out _) cw5 (fun q e => .inr (HO.out.blk e).1)); clear ow5 cw5 bl5)
      go_roundg (m - (j + 1))
      case measure => omega
      case rel =>
        refine ⟨j + 1, by omega, ?_, O5.out, C5.out⟩
        first | with_reducible rfl | simp
    · have hj' : ¬ ((j : Int) < (m : Int)) := by omega
      have hje : j = m := by omega
      subst hje
      have HE := hide (show l.take j = l from List.take_of_length_le (by rw [← HM.out]; omega))
      clear hg hlen
      go_wp2
      go_ret
      exact ⟨ao, cap, rfl, by have := HO.out; rw [HE.out] at this; exact this, G.out⟩
set_option maxHeartbeats 4000000 in
theorem same_any (w : World) (P Q : Nat → Prop) (a b : Option Addr) (m n c d : Nat) (xs ys : List Int) (h1 : Ls eI P w (.slice a m c) xs) (h2 : Ls eI Q w (.slice b n d) ys) (hm : m ≤ 16) :
    Calls Try.prog 21 #[.slice a m c, .slice b n d] w fun e w' => e = .returned (.bool (decide (xs = ys))) ∧ Gr w w' := by
  have HX := hide h1
  have HY := hide h2
  have HM := hide (show m = xs.length from h1.len.1)
  have HN := hide (show n = ys.length from h2.len.1)
  obtain ⟨R, hR⟩ : ∃ R, R = decide (xs = ys) := ⟨_, rfl⟩
  rw [← hR]
  have HR := hide hR
  clear h1 h2 hR
  by_cases hn : m = n
  · subst hn
    go_enter Try.func21, Try.ntmps21
    go_wp2_with fail
    go_loopg [5] m (fun k i wr => ∃ (j : Nat), j + k = m ∧ i = .int .i64 (j : Int) ∧ (∀ q, q < j → xs[q]? = ys[q]?) ∧ Gr w wr)
    case atStart => exact ⟨0, by omega, rfl, fun q h => by omega, Gr.refl _⟩
    case round =>
      obtain ⟨j, hjk, rfl, hs, hg⟩ := hrel
      have HS := hide hs
      have G := hide hg
      by_cases hj : j < m
      · have hj' : (j : Int) < (m : Int) := by omega
        have hj0 : (0 : Int) ≤ (j : Int) := by omega
        have hjm : (j : Int) < 16 := by omega
        have hjx : xs[j]? = some (xs[j]'(by rw [← HM.out]; exact hj)) := List.getElem?_eq_getElem _
        have hjy : ys[j]? = some (ys[j]'(by rw [← HN.out]; exact hj)) := List.getElem?_eq_getElem _
        generalize xs[j]'(by rw [← HM.out]; exact hj) = x at hjx
        generalize ys[j]'(by rw [← HN.out]; exact hj) = y at hjy
        obtain ⟨g, o, rfl, gl, gc, x0⟩ := in_at (HX.out.gr hg) hjx
        obtain ⟨g2, o2, rfl, gl2, gc2, y0⟩ := in_at (HY.out.gr hg) hjy
        by_cases hxy : x = y
        · subst hxy
          have HF := hide (show ∀ q, q < j + 1 → xs[q]? = ys[q]? from fun q h => by
            by_cases e : q = j
            · rw [e, hjx, hjy]
            · exact hs q (by omega))
          clear hjx hjy hg hs
          go_wp2_with (go_big_quiet (fail))
          go_roundg (m - (j + 1))
          case measure => omega
          case rel =>
            refine ⟨j + 1, by omega, ?_, HF.out, Ch.drewN G.out _⟩
            first | with_reducible rfl | simp
        · have e : R = false := by
            rw [HR.out]
            refine decide_eq_false fun e => hxy ?_
            rw [e] at hjx
            rw [hjx] at hjy
            injection hjy
          subst e
          have hne : (x != y) = true := by simpa using hxy
          clear hjx hjy hg hs hxy
          go_wp2_with (go_big_quiet (fail))
          go_ret
          exact ⟨rfl, Ch.drewN G.out _⟩
      · have hj' : ¬ ((j : Int) < (m : Int)) := by omega
        have e : R = true := by
          rw [HR.out]
          refine decide_eq_true (List.ext_getElem? fun q => ?_)
          by_cases h : q < m
          · exact hs q (by omega)
          · rw [List.getElem?_eq_none (by rw [← HM.out]; omega), List.getElem?_eq_none (by rw [← HN.out]; omega)]
        subst e
        go_wp2
        go_ret
        exact ⟨rfl, G.out⟩
  · have e : R = false := by
      rw [HR.out]
      refine decide_eq_false fun e => hn ?_
      rw [HM.out, HN.out, e]
    subst e
    have hne : ((m : Int) != (n : Int)) = true := by simp; omega
    go_enter Try.func21, Try.ntmps21
    go_wp2
    go_ret
    exact ⟨rfl, Gr.refl _⟩
end Go.Proofs.Ytcoaefojamhloaa.Lt
