/-
  What slices.Insert of one ahead of others answers and leaves, where there is no room. Condition: the list is owned, and has fewer than 4096 elements.
-/
import Derived.Test.YtphohfafehjafaaFfShift
import Derived.Lib.AppendZerosOnto
import Derived.Lib.AppendZeros
namespace Go.Proofs.Ytphohfafehjafaa.Ff
open Go.RowKit
attribute [local go_sem ↓] Go.wp_at_zero Go.wp_at_succ

/-- some elements of an owned list are written anew -/
theorem own_put {w : World} {g n cap i base : Nat} {xs : List W3} (ms : List W3) (h : Own base w (.slice (some ⟨g, 0, none⟩) n cap) xs) (hi : i + ms.length ≤ xs.length) :
    Own base (w.setCells g (i * 3) (rowOf ms)) (.slice (some ⟨g, 0, none⟩) n cap) (xs.take i ++ ms ++ xs.drop (i + ms.length)) := by
  have hl : (xs.take i ++ ms ++ xs.drop (i + ms.length)).length = xs.length := by simp only [List.length_append, List.length_take, List.length_drop]; omega
  rcases h.2 with ⟨h1, _⟩ | ⟨g', cap', cur, h1, hb, hg, hc, hm, hs, ht⟩
  · cases h1
  · injection h1 with h1 h2 h3
    injection h1 with h1
    injection h1 with h1
    subst h1 h2 h3
    obtain ⟨c1, k1, k2, k3⟩ := setCells_block (rowOf ms) (i * 3) w cur hg (by rw [rowOf_length]; omega)
    refine ⟨by rw [rowOf_length], .inr ⟨g, cap, c1, by rw [hl], hb, k1, by omega, hm, by omega, ?_⟩⟩
    have e1 : cur.toList.take (i * 3) = rowOf (xs.take i) := by
      rw [← rowOf_take, ← ht, List.take_take, Nat.min_eq_left (by omega)]
    have e2 : (cur.toList.drop (i * 3 + (rowOf ms).length)).take ((xs.length - (i + ms.length)) * 3) = rowOf (xs.drop (i + ms.length)) := by
      have e3 : i * 3 + (rowOf ms).length = (i + ms.length) * 3 := by rw [rowOf_length]; omega
      rw [e3, rowOf_drop, ← ht, List.drop_take]
      congr 1
      omega
    rw [hl, k3, e1]
    have e4 : xs.length * 3 = (rowOf (xs.take i ++ ms)).length + (xs.length - (i + ms.length)) * 3 := by rw [rowOf_length, List.length_append, List.length_take]; omega
    rw [← rowOf_append, e4, List.take_length_add_append, e2, ← rowOf_append]

/-- the row that a growing append lays reads as the list and zeros -/
theorem own_grown {w : World} {base i m G : Nat} {ys : List W3} (hy : ys.length = i) (hb : base ≤ w.heap.size) (hG : i + m ≤ G) (hm : G ≤ maxLen) :
    Own base (w.alloc (.cells ((rowOf ys).toArray ++ Builtin.zeroCells (Value.agg #[.int .i64 0, .int .i64 0, .int .u64 0]).cells m ++ Builtin.zeroCells (Value.agg #[.int .i64 0, .int .i64 0, .int .u64 0]).cells (G - (i + m))) 33)) (.slice (some ⟨w.heap.size, 0, none⟩) (i + m) G) (ys ++ List.replicate m W3.zero) := by
  have hl : (ys ++ List.replicate m W3.zero).length = i + m := by rw [List.length_append, List.length_replicate, hy]
  refine ⟨by rw [rowOf_length], .inr ⟨w.heap.size, G, _, by rw [hl], hb, (MapKept.heap_alloc w _).1, by omega, hm, ?_, ?_⟩⟩
  · have z : ∀ k, (Builtin.zeroCells (Value.agg #[.int .i64 0, .int .i64 0, .int .u64 0]).cells k).size = k * 3 := fun k => by
      rw [← Array.length_toList, rowOf_replicate, rowOf_length, List.length_replicate]
    rw [Array.size_append, Array.size_append, z, z, List.size_toArray, rowOf_length, hy]
    omega
  · rw [Array.toList_append, Array.toList_append, rowOf_replicate, List.toList_toArray, ← rowOf_append, hl, List.take_left' (by rw [rowOf_length, hl])]
end Go.Proofs.Ytphohfafehjafaa.Ff
