/-
  What Drain of the program's ring answers and leaves: all that was in it, in order; nothing is left. Condition: the ring is there.
-/
import Derived.Test.YtfodjkdioddbjabRgState
namespace Go.Proofs.Ytfodjkdioddbjab.Rg
open Go.RowKit
attribute [local go_sem ↓] Go.wp_at_zero Go.wp_at_succ

theorem drain_any (b : Nat) (ps : List W3) (nx : Option W3) (w : World) (h : RingAt w b ps nx) :
    Calls Try.prog 20 #[.pointer (some ⟨b, 0, none⟩)] w fun e w' =>
      ∃ v, e = .returned v ∧ Lst (w.heap.size ≤ ·) w' v (ps ++ nx.toList) ∧ RingAt w' b [] none ∧ Ch (Only b) w w' := by
  have hlt := h.lt
  have hl := h.len
  obtain ⟨N, hN⟩ : ∃ N, N = ps.length + nx.toList.length := ⟨_, rfl⟩
  have hN2 : N ≤ 65 := by cases nx <;> simp at hN <;> omega
  have hLen := len_any b ps nx w h
  rw [← hN] at hLen
  have H := hid h
  have HN := hid hN
  clear h hN
  obtain ⟨i0, hi, hz0, hz1, hz2⟩ := info_parts W_info
  go_enter Try.func20, Try.ntmps20
  go_wp2_with fail
  refine hLen.mono ?_
  rintro e w0 ⟨rfl, rfl⟩
  go_wp2_with (first | (at_make; refine wpList_make_own _ rfl _ _ 22 rfl w0.heap.size 27 i0 _ 3 Try.underlying22 hi hz0 hz1 _ _ _ N rfl rfl (by omega) (by rw [hz2]; omega) (by unfold maxLen; omega) (by omega) ?_; intro w1 hown hgrow))
  have HO : Hid (w1.ownsRow w0.heap.size 27 3 (.slice (some ⟨w0.heap.size, 0, none⟩) 0 N) 0 (rowOf (ps.take 0))) := hown
  have HG : Hid (Ch NoB w0 w1) := (Ch.refl _ _).grown hgrow (fun k hk => by cases hk)
  clear hown hgrow hLen
  go_loopg [3] ps.length (fun k v wr => ∃ j, j + k = ps.length ∧ wr.ownsRow w0.heap.size 27 3 v j (rowOf (ps.take j)) ∧ RingAt wr b (ps.drop j) nx ∧ Ch (Only b) w0 wr)
  case atStart => exact ⟨0, by omega, HO.out, H.out.ch HG.out (noB _), HG.out.any⟩
  case round =>
    obtain ⟨j, hjk, ho, hr, hg⟩ := hrel
    have hr' := hr
    obtain ⟨c, f, hb, hc⟩ := hr'
    have hlt' := hr.lt
    by_cases hj : j < ps.length
    · obtain ⟨y, hy⟩ : ∃ y, ps[j]? = some y := ⟨_, List.getElem?_eq_getElem hj⟩
      have hd : ps.drop j = y :: ps.drop (j + 1) := by
        obtain ⟨h1, h2⟩ := List.getElem?_eq_some_iff.1 hy
        rw [List.drop_eq_getElem_cons h1, h2]
      have ht : ps.take (j + 1) = ps.take j ++ [y] := by rw [List.take_add_one, hy]; rfl
      obtain ⟨m, hm⟩ : ∃ m, m = (ps.drop (j + 1)).length := ⟨_, rfl⟩
      have c3 : wr.cell? ⟨b, 193, none⟩ = some (.int .i64 ((m : Int) + 1)) := by rw [cell_of hb 193, hc.count, hd, hm]; simp
      rw [hd] at hr
      have HR := hid hr
      have HO' := hid ho
      have HG' := hid hg
      have HT := hid ht
      clear hr ho hg ht hd hy hm hb hc
      go_wp2_with fail
      refine (takeOldest_any b y _ nx _ HR.out).mono ?_
      rintro e w2 ⟨rfl, r2, g2⟩
      have HR2 := hid r2
      have HG2 := hid g2
      have hs2 : w0.heap.size ≤ w2.heap.size := Nat.le_trans HG'.out.size g2.size
      have HO2 := hid (own_ch HO'.out g2 (fun g e => by have : g = b := e; omega))
      clear r2 g2
      go_wp2_with (first | (at_builtin; refine wpList_append_lies _ rfl (.tmp 14) (.tmp 17) 22 rfl w0.heap.size 27 i0 _ 3 24 Try.underlying22 hi hz0 hz1 hz2 rfl (by omega) _ j _ rfl (HO2.out.alloc _) ⟨w2.heap.size, 0, none⟩ 1 1 [.int .i64 y.s, .int .i64 y.g, .int .u64 y.t] rfl rfl (World.news_of_block (heap_alloc_new w2 _)) (rowOf_one [y]) (by omega) (by unfold maxLen; omega) (by omega) (by simp; omega) (w2.heap.size + 1) (by simp) ?_; intro g cap w3 hown3 hgrow3 hat hlt3))
      have R : w3.ownsRow w0.heap.size 27 3 (.slice (some ⟨g, 0, none⟩) (j + 1) cap) (j + 1) (rowOf (ps.take (j + 1))) := by
        rw [HT.out, rowOf_append]
        exact hown3
      have C : Ch (w0.heap.size ≤ ·) w2 w3 := ((Ch.refl _ _).alloc _).trans' (grow_ch hgrow3 (HO2.out.alloc _))
      have HRR := hid R
      have HC := hid C
      clear R C hown3 hgrow3 hat
      go_wp2
      go_roundg (gk - 1)
      case measure => omega
      case rel => exact ⟨j + 1, by omega, HRR.out, HR2.out.ch HC.out (by omega), (HG'.out.trans' HG2.out).trans HC.out (fun _ h => .inr (by omega))⟩
    · have e : j = ps.length := by omega
      have hd : ps.drop j = [] := by rw [e]; simp
      have ht : ps.take j = ps := by rw [e]; simp
      rw [hd] at hr hc
      rw [ht] at ho
      have c3 := (cell_of hb 193).trans hc.count
      have c4 := (cell_of hb 194).trans hc.has
      have hjl : j ≤ 64 := by omega
      have HR := hid hr
      have HO' := hid ho
      have HG' := hid hg
      clear hr ho hg hd ht hb hc hj e hjk
      cases nx with
      | none =>
        simp only [Option.isSome_none] at c4
        go_wp2
        go_ret
        refine ⟨_, rfl, ?_, HR.out, HG'.out⟩
        simpa using Lst.of_own HO'.out
      | some x =>
        simp only [Option.isSome_some] at c4
        go_wp2_with fail
        refine (takeNext_any b x _ _ HR.out).mono ?_
        rintro e w2 ⟨rfl, r2, g2⟩
        have HR2 := hid r2
        have HG2 := hid g2
        have hs2 : w0.heap.size ≤ w2.heap.size := Nat.le_trans HG'.out.size g2.size
        have HO2 := hid (own_ch HO'.out g2 (fun g e => by have : g = b := e; omega))
        clear r2 g2
        go_wp2_with (first | (at_builtin; refine wpList_append_lies _ rfl (.tmp 23) (.tmp 26) 22 rfl w0.heap.size 27 i0 _ 3 24 Try.underlying22 hi hz0 hz1 hz2 rfl (by omega) _ j _ rfl (HO2.out.alloc _) ⟨w2.heap.size, 0, none⟩ 1 1 [.int .i64 x.s, .int .i64 x.g, .int .u64 x.t] rfl rfl (World.news_of_block (heap_alloc_new w2 _)) (rowOf_one [x]) (by omega) (by unfold maxLen; omega) (by omega) (by simp; omega) (w2.heap.size + 1) (by simp) ?_; intro g cap w3 hown3 hgrow3 hat hlt3))
        have R : w3.ownsRow w0.heap.size 27 3 (.slice (some ⟨g, 0, none⟩) (j + 1) cap) (j + 1) (rowOf (ps ++ [x])) := by
          rw [rowOf_append]
          exact hown3
        have C : Ch (w0.heap.size ≤ ·) w2 w3 := ((Ch.refl _ _).alloc _).trans' (grow_ch hgrow3 (HO2.out.alloc _))
        have HRR := hid R
        have HC := hid C
        clear R C hown3 hgrow3 hat
        go_wp2
        go_ret
        exact ⟨_, rfl, Lst.of_own HRR.out, HR2.out.ch HC.out (by omega), (HG'.out.trans' HG2.out).trans HC.out (fun _ h => .inr (by omega))⟩
end Go.Proofs.Ytfodjkdioddbjab.Rg
