/-
  What Steal of the document's answer tells. Condition: both states' lists are there, and have no more than 64 places.
-/
import Derived.Test.YtfodjkdioddbjabRgRef6
namespace Go.Proofs.Ytfodjkdioddbjab.Rg
open Go.RowKit
attribute [local go_sem ↓] Go.wp_at_zero Go.wp_at_succ

/-- the five blocks that Steal lays first -/
theorem five_laid (w : World) (a b c d e a' b' c' d' e' : Value) (W : World) (hW : W = ((((w.alloc (.cells #[a, b, c, d, e] 29)).alloc (.cells #[a', b', c', d', e'] 29)).alloc (.cells #[.slice none 0 0, .bool false, .int .i64 0, .int .i64 0, .int .u64 0] 29)).alloc (.cells #[.slice none 0 0, .bool false, .int .i64 0, .int .i64 0, .int .u64 0] 29)).alloc (.cells #[.int .i64 0, .int .i64 0, .int .u64 0] 27)) :
    Five W w.heap.size a b c d e ∧ Five W (w.heap.size + 1) a' b' c' d' e' ∧ Five W (w.heap.size + 1 + 1) (.slice none 0 0) (.bool false) (.int .i64 0) (.int .i64 0) (.int .u64 0) ∧ Five W (w.heap.size + 1 + 1 + 1) (.slice none 0 0) (.bool false) (.int .i64 0) (.int .i64 0) (.int .u64 0) ∧ Three W (w.heap.size + 1 + 1 + 1 + 1) W3.zero ∧ Ch NoB w W ∧ W.heap.size = w.heap.size + 5 := by
  have F2 := (((Five.new (w.alloc (.cells #[a, b, c, d, e] 29)) a' b' c' d' e').alloc (.cells #[.slice none 0 0, .bool false, .int .i64 0, .int .i64 0, .int .u64 0] 29)).alloc (.cells #[.slice none 0 0, .bool false, .int .i64 0, .int .i64 0, .int .u64 0] 29)).alloc (.cells #[.int .i64 0, .int .i64 0, .int .u64 0] 27)
  have F3 := ((Five.new ((w.alloc (.cells #[a, b, c, d, e] 29)).alloc (.cells #[a', b', c', d', e'] 29)) (.slice none 0 0) (.bool false) (.int .i64 0) (.int .i64 0) (.int .u64 0)).alloc (.cells #[.slice none 0 0, .bool false, .int .i64 0, .int .i64 0, .int .u64 0] 29)).alloc (.cells #[.int .i64 0, .int .i64 0, .int .u64 0] 27)
  have F4 := (Five.new (((w.alloc (.cells #[a, b, c, d, e] 29)).alloc (.cells #[a', b', c', d', e'] 29)).alloc (.cells #[.slice none 0 0, .bool false, .int .i64 0, .int .i64 0, .int .u64 0] 29)) (.slice none 0 0) (.bool false) (.int .i64 0) (.int .i64 0) (.int .u64 0)).alloc (.cells #[.int .i64 0, .int .i64 0, .int .u64 0] 27)
  have F5 := Three.new ((((w.alloc (.cells #[a, b, c, d, e] 29)).alloc (.cells #[a', b', c', d', e'] 29)).alloc (.cells #[.slice none 0 0, .bool false, .int .i64 0, .int .i64 0, .int .u64 0] 29)).alloc (.cells #[.slice none 0 0, .bool false, .int .i64 0, .int .i64 0, .int .u64 0] 29)) W3.zero
  simp only [World.size_alloc] at F2 F3 F4 F5
  rw [hW]
  exact ⟨((((Five.new w a b c d e).alloc _).alloc _).alloc _).alloc _, F2, F3, F4, F5, (((((Ch.refl _ _).alloc _).alloc _).alloc _).alloc _).alloc _, by simp⟩

theorem rsteal_busy (P Q : Nat → Prop) (sv tv : Value) (xs zs : List W3) (hs ht : Bool) (y z : W3) (w : World) (hx : Lst P w sv xs) (hz : Lst Q w tv zs) (hl : zs.length ≤ 64) (hb : busy zs (nxo ht z) = true) :
    Calls Try.prog 37 #[.agg #[sv, .bool hs, .int .i64 y.s, .int .i64 y.g, .int .u64 y.t], .agg #[tv, .bool ht, .int .i64 z.s, .int .i64 z.g, .int .u64 z.t]] w fun e w' =>
      e = .returned (.tuple #[.agg #[sv, .bool hs, .int .i64 y.s, .int .i64 y.g, .int .u64 y.t], .agg #[tv, .bool ht, .int .i64 z.s, .int .i64 z.g, .int .u64 z.t], .agg #[.int .i64 0, .int .i64 0, .int .u64 0], .int .i64 22]) ∧ Ch NoB w w' := by
  obtain ⟨ao, cap, rfl⟩ := hx.form
  obtain ⟨bo, cbp, rfl⟩ := hz.form
  have hL := fun w2 (h2 : Lst Q w2 (.slice bo zs.length cbp) zs) => rlen_any Q _ zs ht z w2 h2 hl
  obtain ⟨N, hN⟩ : ∃ N, N = zs.length + (nxo ht z).toList.length := ⟨_, rfl⟩
  have hN1 : 0 < N := by unfold busy at hb; simp only [decide_eq_true_eq] at hb; omega
  rw [← hN] at hL
  have HZ := hid hz
  have HL := hid hL
  clear hx hz hL hN hb
  go_enter Try.func37, Try.ntmps37
  go_wp2_with fail
  refine (HL.out _ (((((HZ.out.alloc _).alloc _).alloc _).alloc _).alloc _)).mono ?_
  rintro e w1 ⟨rfl, g1⟩
  obtain ⟨F1, F2, F3, F4, F5, G, hsz⟩ := five_laid w _ _ _ _ _ _ _ _ _ _ _ rfl
  have A1 := F1.ch g1 (noB _)
  have A2 := F2.ch g1 (noB _)
  have A3 := F3.ch g1 (noB _)
  have A4 := F4.ch g1 (noB _)
  have A5 := F5.ch g1 (noB _)
  obtain ⟨a0, a1, a2, a3, a4⟩ := A1.cells
  obtain ⟨b0, b1, b2, b3, b4⟩ := A2.cells
  obtain ⟨c0, c1, c2, c3, c4⟩ := A3.cells
  obtain ⟨d0, d1, d2, d3, d4⟩ := A4.cells
  obtain ⟨e0, e1, e2⟩ := A5.cells
  obtain ⟨p0, p1, p2, p3, p4⟩ := A3.fz
  obtain ⟨q0, q1, q2, q3, q4⟩ := A4.fz
  obtain ⟨r0, r1, r2⟩ := A5.fz
  have HG := hid (G.trans' g1)
  clear F1 F2 F3 F4 F5 G hsz A1 A2 A3 A4 A5 g1
  go_wp2
  go_region
  all_goals go_wp2
  all_goals refine bodyPost_ret (v := .tuple #[.agg #[.slice ao xs.length cap, .bool hs, .int .i64 y.s, .int .i64 y.g, .int .u64 y.t], .agg #[.slice bo zs.length cbp, .bool ht, .int .i64 z.s, .int .i64 z.g, .int .u64 z.t], .agg #[.int .i64 0, .int .i64 0, .int .u64 0], .int .i64 22]) (by simp [results, Try.results37, go_sem, c0, c1, c2, c3, c4, d0, d1, d2, d3, d4, e0, e1, e2]) rfl ⟨rfl, ?_⟩
  all_goals refine Ch.drew ?_
  all_goals (repeat refine Ch.fresh ?_ (by omega) _ _)
  all_goals exact HG.out

theorem rsteal_none (P Q : Nat → Prop) (sv tv : Value) (hs : Bool) (y z y' x : W3) (E : Int) (w : World) (hx : Lst P w sv []) (hz : Lst Q w tv [])
    (hT : ∀ w2, Lst P w2 sv [] → ∃ B, Calls Try.prog 36 #[.agg #[sv, .bool hs, .int .i64 y.s, .int .i64 y.g, .int .u64 y.t]] w2 fun e w' => e = .returned (.tuple #[.agg #[sv, .bool false, .int .i64 y'.s, .int .i64 y'.g, .int .u64 y'.t], .agg #[.int .i64 x.s, .int .i64 x.g, .int .u64 x.t], .bool B, .int .i64 E]) ∧ Ch NoB w2 w') :
    Calls Try.prog 37 #[.agg #[sv, .bool hs, .int .i64 y.s, .int .i64 y.g, .int .u64 y.t], .agg #[tv, .bool false, .int .i64 z.s, .int .i64 z.g, .int .u64 z.t]] w fun e w' =>
      e = .returned (.tuple #[.agg #[sv, .bool false, .int .i64 y'.s, .int .i64 y'.g, .int .u64 y'.t], .agg #[tv, .bool false, .int .i64 z.s, .int .i64 z.g, .int .u64 z.t], .agg #[.int .i64 x.s, .int .i64 x.g, .int .u64 x.t], .int .i64 E]) ∧ Ch NoB w w' := by
  obtain ⟨ao, cap, rfl⟩ := hx.form
  obtain ⟨bo, cbp, rfl⟩ := hz.form
  simp only [List.length_nil] at hx hz hT ⊢
  have hL := fun w2 (h2 : Lst Q w2 (.slice bo 0 cbp) []) => rlen_any Q _ [] false z w2 h2 (by simp)
  have HX := hid hx
  have HZ := hid hz
  have HL := hid hL
  have HT := hid hT
  clear hx hz hL hT
  go_enter Try.func37, Try.ntmps37
  go_wp2_with fail
  refine (HL.out _ (((((HZ.out.alloc _).alloc _).alloc _).alloc _).alloc _)).mono ?_
  rintro e w1 ⟨rfl, g1⟩
  obtain ⟨F1, F2, F3, F4, F5, G, hsz⟩ := five_laid w _ _ _ _ _ _ _ _ _ _ _ rfl
  obtain ⟨a0, a1, a2, a3, a4⟩ := (F1.ch g1 (noB _)).cells
  have HA2 := hid (F2.ch g1 (noB _))
  have HA3 := hid (F3.ch g1 (noB _))
  have HA4 := hid (F4.ch g1 (noB _))
  have HA5 := hid (F5.ch g1 (noB _))
  have HX1 := hid (HX.out.ch (G.trans' g1) (fun _ _ _ => noB _))
  have HG := hid (G.trans' g1)
  obtain ⟨B, hB⟩ := HT.out w1 HX1.out
  have HB := hid hB
  clear F1 F2 F3 F4 F5 G hsz g1 hB
  go_wp2_with fail
  refine HB.out.mono ?_
  rintro e w2 ⟨rfl, g2⟩
  have A2 := HA2.out.ch g2 (noB _)
  have A3 := HA3.out.ch g2 (noB _)
  have A4 := HA4.out.ch g2 (noB _)
  have A5 := HA5.out.ch g2 (noB _)
  obtain ⟨b0, b1, b2, b3, b4⟩ := A2.cells
  obtain ⟨c0, c1, c2, c3, c4⟩ := A3.cells
  obtain ⟨d0, d1, d2, d3, d4⟩ := A4.cells
  obtain ⟨e0, e1, e2⟩ := A5.cells
  obtain ⟨p0, p1, p2, p3, p4⟩ := A3.fz
  obtain ⟨q0, q1, q2, q3, q4⟩ := A4.fz
  obtain ⟨r0, r1, r2⟩ := A5.fz
  have l2 := A2.lt
  have l1 : w.heap.size < w2.heap.size := by omega
  have l3 := A3.lt
  have l4 := A4.lt
  have l5 := A5.lt
  have HG2 := hid (HG.out.trans' g2)
  clear A2 A3 A4 A5 g2
  go_wp2
  go_region
  all_goals go_wp2
  all_goals refine bodyPost_ret (v := .tuple #[.agg #[.slice ao 0 cap, .bool false, .int .i64 y'.s, .int .i64 y'.g, .int .u64 y'.t], .agg #[.slice bo 0 cbp, .bool false, .int .i64 z.s, .int .i64 z.g, .int .u64 z.t], .agg #[.int .i64 x.s, .int .i64 x.g, .int .u64 x.t], .int .i64 E]) (by simp [results, Try.results37, go_sem, c0, c1, c2, c3, c4, d0, d1, d2, d3, d4, e0, e1, e2, l2, l3, l4, l5]) rfl ⟨rfl, ?_⟩
  all_goals refine Ch.drew (Ch.alloc (Ch.alloc ?_ _) _)
  all_goals (repeat refine Ch.fresh ?_ (by omega) _ _)
  all_goals exact HG2.out
end Go.Proofs.Ytfodjkdioddbjab.Rg
