/-
  What CellsOne of the statements answers: true, at any number and any values. Condition: the list lies where it lies.
-/
import Derived.Test.YtpmhmikefkgbdabClAny
namespace Go.Proofs.Ytpmhmikefkgbdab.Lt
open Go.RowKit Wd
attribute [local go_sem ↓] Go.wp_at_zero Go.wp_at_succ

theorem one_told (x old z : Int) : told ⟨3, 0, old, z⟩ [x] = ⟨0, 3, x, if x = old then z else x, decide (x = old)⟩ ∧ terr ⟨3, 0, old, z⟩ [x] = 0 ∧ left ⟨3, 0, old, z⟩ [x] = [if x = old then z else x] := by
  have hp : isP (0 : Int) [x].length = true := by simp [isP]
  obtain ⟨e1, e2, e3⟩ := told_yes (o := ⟨3, 0, old, z⟩) (vs := [x]) hp
  have ei : inC [x] (0 : Int) = x := rfl
  by_cases h : x = old
  · subst h
    have hq : putOf ⟨3, 0, x, z⟩ x = (z, true) := by simp [putOf]
    simp only [ei, hq] at e1 e2 e3
    refine ⟨by rw [e1]; simp, e2, by rw [e3]; simp⟩
  · have hq : putOf ⟨3, 0, old, z⟩ x = (x, false) := by simp [putOf, h]
    simp only [ei, hq] at e1 e2 e3
    refine ⟨by rw [e1]; simp [h], e2, by rw [e3]; simp [h]⟩
set_option maxHeartbeats 4000000 in
theorem one_law (old : Int) (P : Nat → Prop) (vv : Value) (xs : List Int) (w : World) (h : Ls eI P w vv xs) (hl : xs.length ≤ 17592186044416) : Calls Try.prog 3 #[.int .i64 old, vv] w fun e w' => e = .returned (.bool true) ∧ Gr w w' := by
  obtain ⟨aov, capv, rfl⟩ := h.form
  obtain ⟨M, hM⟩ : ∃ M, M = xs.length := ⟨_, rfl⟩
  rw [← hM] at h hl ⊢
  have HN := hid (show Calls Try.prog 6 #[.int .i64 1] w (NewR w 1) from new_good 1 w (by omega))
  have HS := hid (show ∀ (W : World) (b : Nat) (v : Value), CAt w.heap.size W b v [0] → Calls Try.prog 7 #[.pointer (some ⟨b, 0, none⟩), .int .i64 0, .int .i64 old] W fun e w' => e = .returned (.tuple #[.agg #[.int .i64 0, .int .i64 2, .int .i64 0, .int .i64 old, .bool true], .int .i64 0]) ∧ CAt w.heap.size w' b v [old] ∧ Ch (Blk v) W w' from fun W b v h => store_any w.heap.size W b v [0] ⟨2, 0, 0, old⟩ rfl h)
  have HW1 := hid (show ∀ (W : World) (b : Nat) (v : Value) (z : Int), CAt w.heap.size W b v [old] → Calls Try.prog 8 #[.pointer (some ⟨b, 0, none⟩), .int .i64 0, .int .i64 old, .int .i64 z] W fun e w' => e = .returned (.tuple #[.agg #[.int .i64 0, .int .i64 3, .int .i64 old, .int .i64 z, .bool true], .int .i64 0]) ∧ CAt w.heap.size w' b v [z] ∧ Ch (Blk v) W w' from fun W b v z h => by
    have := swap_any w.heap.size W b v [old] ⟨3, 0, old, z⟩ rfl h
    unfold AcR at this
    obtain ⟨e1, e2, e3⟩ := one_told old old z
    rw [e1, e2, e3] at this
    simpa [Ac.val] using this)
  have HW2 := hid (show ∀ (W : World) (b : Nat) (v : Value) (z y : Int), y ≠ old → CAt w.heap.size W b v [y] → Calls Try.prog 8 #[.pointer (some ⟨b, 0, none⟩), .int .i64 0, .int .i64 old, .int .i64 z] W fun e w' => e = .returned (.tuple #[.agg #[.int .i64 0, .int .i64 3, .int .i64 y, .int .i64 y, .bool false], .int .i64 0]) ∧ CAt w.heap.size w' b v [y] ∧ Ch (Blk v) W w' from fun W b v z y hy h => by
    have := swap_any w.heap.size W b v [y] ⟨3, 0, old, z⟩ rfl h
    unfold AcR at this
    obtain ⟨e1, e2, e3⟩ := one_told y old z
    rw [e1, e2, e3] at this
    simpa [Ac.val, hy] using this)
  have HA := hid (fun (W : World) => awake_any W)
  have HH := hid h
  have HM := hid hM
  clear h hM
  go_enter Try.func3, Try.ntmps3
  go_wp2_with (first
    | (go_at_call 6; refine HN.out.mono ?_; rintro e w1 ⟨b, v, rfl, hb, c1, g1⟩; have C1 := hid (show CAt w.heap.size w1 b v [0] from c1); have G1 := hid g1; clear hb c1 g1)
    | (go_at_call 7; refine (HS.out _ b v C1.out).mono ?_; rintro e w2 ⟨rfl, c2, g2⟩; have C2 := hid c2; have G2 := hid (show Gr w _ from Ch.trans G1.out g2 (fun q e => .inr (C1.out.vo.blk e).1)); clear c2 g2))
  go_loopg [7, 8] M (fun q wv i wr => ∃ (j : Nat) (y : Int) (n : Int), j + q = M ∧ i = .int .i64 (j : Int) ∧ wv = .int .i64 n ∧ ((n = 0 ∧ y = old) ∨ (n = 1 ∧ y ≠ old)) ∧ CAt w.heap.size wr b v [y] ∧ Gr w wr)
  case atStart => exact ⟨0, old, 0, by omega, rfl, rfl, .inl ⟨rfl, rfl⟩, C2.out, G2.out⟩
  case round =>
    obtain ⟨j, y, n, hjk, rfl, rfl, hn, hc, hg⟩ := hrel
    have C5 := hid hc
    have G5 := hid hg
    clear hc hg
    by_cases hj : j < M
    · obtain ⟨z, hz⟩ : ∃ z, xs[j]? = some z := ⟨_, List.getElem?_eq_getElem (by rw [← HM.out]; exact hj)⟩
      obtain ⟨g, oo, cap1, e1, -, hgw, -, d00⟩ := HH.out.get eI_len hz
      have hgl : g < wr.heap.size := Nat.lt_of_lt_of_le hgw G5.out.size
      have d := fun i x hx => (G5.out.cell (o := oo + j * 1 + i) hgw).trans (d00 i x hx)
      clear d00
      injection e1 with e1 h1 h2
      subst e1
      have d0 := d 0 _ rfl
      simp only [Nat.mul_one, Nat.add_zero] at d0
      have j0 : (0 : Int) ≤ (j : Int) := by omega
      have j1 : (j : Int) < (M : Int) := by omega
      clear d h1 h2 hz
      rcases hn with ⟨rfl, rfl⟩ | ⟨rfl, hy⟩
      · by_cases hzo : z = y
        · subst hzo
          go_wp2_with (go_at_call 8; refine (HW1.out _ b v _ C5.out).mono ?_; rintro e w3 ⟨rfl, c3, g3⟩; have x0 := (g3.cell (o := oo + j) hgl (fun e => by have := (C5.out.vo.blk e).1; omega)).trans d0; have hg3 : g < w3.heap.size := Nat.lt_of_lt_of_le hgl g3.size; have C6 := hid (c3.gr ((Gr.refl w3).alloc #[.int .i64 0, .int .i64 3, .int .i64 z, .int .i64 z, .bool true] 28)); have G6 := hid (show Gr w (w3.alloc (.cells #[.int .i64 0, .int .i64 3, .int .i64 z, .int .i64 z, .bool true] 28)) from Ch.alloc (Ch.trans G5.out g3 (fun q e => .inr (C5.out.vo.blk e).1)) _); clear c3 g3)
          go_roundg (gk - 1)
          case measure => omega
          case rel => exact ⟨j + 1, _, _, by omega, by simp, rfl, .inl ⟨rfl, rfl⟩, C6.out, G6.out⟩
        · have hzb : (z == y) = false := by simpa using hzo
          go_wp2_with (go_at_call 8; refine (HW1.out _ b v _ C5.out).mono ?_; rintro e w3 ⟨rfl, c3, g3⟩; have x0 := (g3.cell (o := oo + j) hgl (fun e => by have := (C5.out.vo.blk e).1; omega)).trans d0; have hg3 : g < w3.heap.size := Nat.lt_of_lt_of_le hgl g3.size; have C6 := hid (c3.gr ((Gr.refl w3).alloc #[.int .i64 0, .int .i64 3, .int .i64 y, .int .i64 z, .bool true] 28)); have G6 := hid (show Gr w (w3.alloc (.cells #[.int .i64 0, .int .i64 3, .int .i64 y, .int .i64 z, .bool true] 28)) from Ch.alloc (Ch.trans G5.out g3 (fun q e => .inr (C5.out.vo.blk e).1)) _); clear c3 g3)
          go_roundg (gk - 1)
          case measure => omega
          case rel => exact ⟨j + 1, _, _, by omega, by simp, rfl, .inr ⟨rfl, hzo⟩, C6.out, G6.out⟩
      · have hyb : (y == old) = false := by simpa using hy
        · go_wp2_with (go_at_call 8; refine (HW2.out _ b v _ y hy C5.out).mono ?_; rintro e w3 ⟨rfl, c3, g3⟩; have x0 := (g3.cell (o := oo + j) hgl (fun e => by have := (C5.out.vo.blk e).1; omega)).trans d0; have hg3 : g < w3.heap.size := Nat.lt_of_lt_of_le hgl g3.size; have C6 := hid (c3.gr ((Gr.refl w3).alloc #[.int .i64 0, .int .i64 3, .int .i64 y, .int .i64 y, .bool false] 28)); have G6 := hid (show Gr w (w3.alloc (.cells #[.int .i64 0, .int .i64 3, .int .i64 y, .int .i64 y, .bool false] 28)) from Ch.alloc (Ch.trans G5.out g3 (fun q e => .inr (C5.out.vo.blk e).1)) _); clear c3 g3)
          go_roundg (gk - 1)
          case measure => omega
          case rel => exact ⟨j + 1, _, _, by omega, by simp, rfl, .inr ⟨rfl, hy⟩, C6.out, G6.out⟩
    · have jn : ¬ (j : Int) < (M : Int) := by omega
      rcases hn with ⟨rfl, -⟩ | ⟨rfl, -⟩
      · go_wp2_with (go_at_call 9; refine (HA.out _).mono ?_; rintro e w4 ⟨rfl, g4⟩; have G4 := hid (Gr.trans G5.out g4); clear g4)
        go_ret
        exact ⟨rfl, G4.out⟩
      · go_wp2_with (go_at_call 9; refine (HA.out _).mono ?_; rintro e w4 ⟨rfl, g4⟩; have G4 := hid (Gr.trans G5.out g4); clear g4)
        go_ret
        exact ⟨rfl, G4.out⟩
end Go.Proofs.Ytpmhmikefkgbdab.Lt
