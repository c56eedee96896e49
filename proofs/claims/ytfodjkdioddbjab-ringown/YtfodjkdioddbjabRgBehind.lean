/-
  What behind of the program's ring answers and leaves: one more place, or the older half and the one that was to be put. Condition: the ring is there.
-/
import Derived.Test.YtfodjkdioddbjabRgList
namespace Go.Proofs.Ytfodjkdioddbjab.Rg
open Go.RowKit
attribute [local go_sem ↓] Go.wp_at_zero Go.wp_at_succ

/-- the places behind it -/
def behindP (ps : List W3) (x : W3) : List W3 := if ps.length < 64 then ps ++ [x] else ps.drop 32
/-- those that leave -/
def behindL (ps : List W3) (x : W3) : List W3 := if ps.length < 64 then [] else ps.take 32 ++ [x]

/-- one that waits, in a block of its own -/
def Box (w : World) (k : Nat) (x : W3) : Prop := w.cell? ⟨k, 0, none⟩ = some (.int .i64 x.s) ∧ w.cell? ⟨k, 1, none⟩ = some (.int .i64 x.g) ∧ w.cell? ⟨k, 2, none⟩ = some (.int .u64 x.t) ∧ k < w.heap.size
theorem Box.ch {S : Nat → Prop} {w w' : World} {k : Nat} {x : W3} (h : Box w k x) (g : Ch S w w') (hn : ¬ S k) : Box w' k x := by
  obtain ⟨h0, h1, h2, h3⟩ := h
  exact ⟨(g.cell h3 hn).trans h0, (g.cell h3 hn).trans h1, (g.cell h3 hn).trans h2, Nat.lt_of_lt_of_le h3 g.size⟩
theorem Box.new (w : World) (x : W3) : Box (w.alloc (.cells #[.int .i64 x.s, .int .i64 x.g, .int .u64 x.t] 27)) w.heap.size x := ⟨by simp, by simp, by simp, by simp⟩

theorem behind_room (b : Nat) (x : W3) (ps : List W3) (nx : Option W3) (w : World) (h : RingAt w b ps nx) (hl : ps.length < 64) :
    Calls Try.prog 29 #[.pointer (some ⟨b, 0, none⟩), .agg #[.int .i64 x.s, .int .i64 x.g, .int .u64 x.t]] w fun e w' => e = .returned (.slice none 0 0) ∧ RingAt w' b (ps ++ [x]) nx ∧ Ch (Only b) w w' := by
  have hlt := h.lt
  have h' := h
  obtain ⟨c, f, hb, hc⟩ := h'
  have c3 := (cell_of hb 193).trans hc.count
  have H := hid h
  have HL := hid hl
  clear h hb hc
  go_enter Try.func29, Try.ntmps29
  go_wp2_with fail
  refine (add_any b x ps nx _ (H.out.alloc _) HL.out).mono ?_
  rintro e w1 ⟨rfl, r1, g1⟩
  go_wp2
  go_ret
  exact ⟨rfl, r1, ((Ch.refl _ _).alloc _).trans' g1⟩

theorem behind_full (b : Nat) (x : W3) (ps : List W3) (nx : Option W3) (w : World) (h : RingAt w b ps nx) (hl : ps.length = 64) :
    Calls Try.prog 29 #[.pointer (some ⟨b, 0, none⟩), .agg #[.int .i64 x.s, .int .i64 x.g, .int .u64 x.t]] w fun e w' => ∃ v, e = .returned v ∧ Lst (w.heap.size ≤ ·) w' v (ps.take 32 ++ [x]) ∧ RingAt w' b (ps.drop 32) nx ∧ Ch (Only b) w w' := by
  have hlt := h.lt
  have h' := h
  obtain ⟨c, f, hb, hc⟩ := h'
  have c3 : w.cell? ⟨b, 193, none⟩ = some (.int .i64 64) := by rw [cell_of hb 193, hc.count, hl]; rfl
  have H := hid h
  have HL := hid hl
  clear h hb hc hl
  obtain ⟨i0, hi, hz0, hz1, hz2⟩ := info_parts W_info
  go_enter Try.func29, Try.ntmps29
  go_wp2_with (first | (at_make; refine wpList_make_own _ rfl _ _ 22 rfl (w.heap.size + 1) 27 i0 _ 3 Try.underlying22 hi hz0 hz1 _ _ _ 33 rfl rfl (by omega) (by rw [hz2]; omega) (by unfold maxLen; omega) (by simp) ?_; intro w1 hown hgrow))
  have HO : Hid (w1.ownsRow (w.heap.size + 1) 27 3 (.slice (some ⟨w.heap.size + 1, 0, none⟩) 0 33) 0 (rowOf (ps.take 0))) := by simpa [Hid, rowOf] using hown
  have HG : Hid (Ch NoB (w.alloc (.cells #[.int .i64 x.s, .int .i64 x.g, .int .u64 x.t] 27)) w1) := (Ch.refl _ _).grown hgrow (fun k hk => by cases hk)
  clear hown hgrow
  go_loopg [5, 15] 32 (fun k v i wr => ∃ j, j + k = 32 ∧ i = .int .i64 (j : Int) ∧ wr.ownsRow (w.heap.size + 1) 27 3 v j (rowOf (ps.take j)) ∧ RingAt wr b (ps.drop j) nx ∧ Box wr w.heap.size x ∧ Ch (Only b) w wr)
  case atStart =>
    exact ⟨0, by omega, rfl, HO.out, ((H.out.alloc _).ch HG.out (fun x => x)), (Box.new w x).ch HG.out (fun x => x), ((Ch.refl _ _).alloc _).trans' HG.out.any⟩
  case round =>
    obtain ⟨j, hjk, rfl, ho, hr, hx, hg⟩ := hrel
    by_cases hj : j < 32
    · have HL' := HL.out
      obtain ⟨y, hy⟩ : ∃ y, ps[j]? = some y := ⟨_, List.getElem?_eq_getElem (by omega)⟩
      have hd : ps.drop j = y :: ps.drop (j + 1) := by
        obtain ⟨h1, h2⟩ := List.getElem?_eq_some_iff.1 hy
        rw [List.drop_eq_getElem_cons h1, h2]
      have ht : ps.take (j + 1) = ps.take j ++ [y] := by rw [List.take_add_one, hy]; rfl
      rw [hd] at hr
      have HR := hid hr
      have HO' := hid ho
      have HX := hid hx
      have HG' := hid hg
      have HT := hid ht
      clear hr ho hx hg ht hd hy HL'
      go_wp2_with fail
      refine (takeOldest_any b y _ nx _ HR.out).mono ?_
      rintro e w2 ⟨rfl, r2, g2⟩
      have HR2 := hid r2
      have HG2 := hid g2
      have hs2 : w.heap.size ≤ w2.heap.size := Nat.le_trans HG'.out.size g2.size
      have hs3 : w.heap.size < w2.heap.size := Nat.lt_of_lt_of_le HX.out.2.2.2 g2.size
      have HO2 := hid (own_ch HO'.out g2 (fun g e => by have : g = b := e; omega))
      have HX2 := hid (HX.out.ch g2 (fun e => by have : w.heap.size = b := e; omega))
      clear r2 g2
      go_wp2_with (first | (at_builtin; refine wpList_append_lies _ rfl (.tmp 17) (.tmp 20) 22 rfl (w.heap.size + 1) 27 i0 _ 3 24 Try.underlying22 hi hz0 hz1 hz2 rfl (by omega) _ j _ rfl (HO2.out.alloc _) ⟨w2.heap.size, 0, none⟩ 1 1 [.int .i64 y.s, .int .i64 y.g, .int .u64 y.t] rfl rfl (World.news_of_block (heap_alloc_new w2 _)) (rowOf_one [y]) (by omega) (by unfold maxLen; omega) (by omega) (by simp; omega) (w2.heap.size + 1) (by simp) ?_; intro g cap w3 hown3 hgrow3 hat hlt3))
      have R : w3.ownsRow (w.heap.size + 1) 27 3 (.slice (some ⟨g, 0, none⟩) (j + 1) cap) (j + 1) (rowOf (ps.take (j + 1))) := by
        rw [HT.out, rowOf_append]
        exact hown3
      have C : Ch (w.heap.size + 1 ≤ ·) w2 w3 := ((Ch.refl _ _).alloc _).trans' (grow_ch hgrow3 (HO2.out.alloc _))
      have HRR := hid R
      have HC := hid C
      clear R C hown3 hgrow3 hat
      go_wp2
      go_roundg (gk - 1)
      case measure => omega
      case rel => exact ⟨j + 1, by omega, by simp, HRR.out, HR2.out.ch HC.out (by omega), HX2.out.ch HC.out (by omega), (HG'.out.trans' HG2.out).trans HC.out (fun _ h => .inr (by omega))⟩
    · have e : j = 32 := by omega
      subst e
      have HR := hid hr
      have HO' := hid ho
      have hx' := hx
      obtain ⟨x0, x1, x2, x3⟩ := hx'
      have HG' := hid hg
      clear hr ho hg hx
      go_wp2_with (first | (at_builtin; refine wpList_append_lies _ rfl (.tmp 23) (.tmp 25) 22 rfl (w.heap.size + 1) 27 i0 _ 3 24 Try.underlying22 hi hz0 hz1 hz2 rfl (by omega) _ 32 _ rfl (HO'.out.alloc _) ⟨wr.heap.size, 0, none⟩ 1 1 [.int .i64 x.s, .int .i64 x.g, .int .u64 x.t] rfl rfl (World.news_of_block (heap_alloc_new wr _)) (rowOf_one [x]) (by omega) (by unfold maxLen; omega) (by omega) (by simp; omega) (wr.heap.size + 1) (by simp) ?_; intro g cap w3 hown3 hgrow3 hat hlt3))
      have R : w3.ownsRow (w.heap.size + 1) 27 3 (.slice (some ⟨g, 0, none⟩) (32 + 1) cap) (32 + 1) (rowOf (ps.take 32 ++ [x])) := by
        rw [rowOf_append]
        exact hown3
      have C : Ch (w.heap.size + 1 ≤ ·) wr w3 := ((Ch.refl _ _).alloc _).trans' (grow_ch hgrow3 (HO'.out.alloc _))
      have HRR := hid R
      have HC := hid C
      clear R C hown3 hgrow3 hat
      go_wp2
      go_ret
      exact ⟨_, rfl, (Lst.of_own HRR.out).mono (fun _ _ h => by omega), HR.out.ch HC.out (by omega), HG'.out.trans HC.out (fun _ h => .inr (by omega))⟩

theorem behind_any (b : Nat) (x : W3) (ps : List W3) (nx : Option W3) (w : World) (h : RingAt w b ps nx) :
    Calls Try.prog 29 #[.pointer (some ⟨b, 0, none⟩), .agg #[.int .i64 x.s, .int .i64 x.g, .int .u64 x.t]] w fun e w' => ∃ v, e = .returned v ∧ Lst (w.heap.size ≤ ·) w' v (behindL ps x) ∧ RingAt w' b (behindP ps x) nx ∧ Ch (Only b) w w' := by
  have hl := h.len
  unfold behindL behindP
  by_cases hn : ps.length < 64
  · rw [if_pos hn, if_pos hn]
    refine (behind_room b x ps nx w h hn).mono ?_
    rintro e w1 ⟨rfl, r1, g1⟩
    exact ⟨_, rfl, Lst.nil _ _, r1, g1⟩
  · rw [if_neg hn, if_neg hn]
    exact behind_full b x ps nx w h (by omega)
end Go.Proofs.Ytfodjkdioddbjab.Rg
