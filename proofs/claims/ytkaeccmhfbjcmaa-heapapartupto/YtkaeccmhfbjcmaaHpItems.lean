/-
  The words in which the walks of layer 5 speak of the document's lists: what reads as one, what a call owns. No conditions.
-/
import Derived.Test.YtkaeccmhfbjcmaaHpLives
namespace Go.Proofs.Ytkaeccmhfbjcmaa.Hp
open Go.RowKit
attribute [local go_sem ↓] Go.wp_at_zero Go.wp_at_succ

theorem Lst.of_ownI {w : World} {base : Nat} {v : Value} {n : Nat} {xs : List W3} (h : w.ownsRow base 44 3 v n (rowOf xs)) : Lst (base ≤ ·) w v xs := by
  have hl := h.1
  rw [rowOf_length] at hl
  have hn : xs.length = n := by omega
  rcases h.2 with ⟨rfl, h0⟩ | ⟨g, cap, cur, rfl, hb, hg, hc, _, hs, ht⟩
  · have : xs = [] := List.eq_nil_of_length_eq_zero (by omega)
    subst this
    exact Lst.nil _ _
  · refine ⟨some ⟨g, 0, none⟩, cap, by rw [hn], ⟨by omega, fun h => by cases h⟩, .inr ⟨g, 0, rfl, hb, lt_of_block hg, fun i x hx => ?_⟩⟩
    obtain ⟨k0, k1, k2⟩ := rowOf_get xs i x hx
    have hi : i < xs.length := (List.getElem?_eq_some_iff.1 hx).1
    rw [← ht] at k0 k1 k2
    rw [List.getElem?_take_of_lt (by omega), Array.getElem?_toList] at k0 k1 k2
    rw [Nat.zero_add]
    exact ⟨(cell_of hg _).trans k0, (cell_of hg _).trans k1, (cell_of hg _).trans k2⟩

/-- a value that owns a row is a slice of that length -/
theorem own_formI {w : World} {base : Nat} {v : Value} {n : Nat} {xs : List Value} (h : w.ownsRow base 44 3 v n xs) : ∃ ao cap, v = .slice ao n cap := by
  rcases h.2 with ⟨rfl, rfl⟩ | ⟨g, cap, cur, rfl, _⟩
  · exact ⟨none, 0, rfl⟩
  · exact ⟨_, cap, rfl⟩

theorem I_info : (Try.prog.info? 44).map (fun i => (i.zero, i.size, i.bytes)) = some (some (.agg #[.int .u64 0, .int .i64 0, .int .i64 0]), 3, 24) := by kernel_rfl
/-- a slice value that the call owns reads as a list; its block is none below base -/
def OwnI (base : Nat) (w : World) (v : Value) (xs : List W3) : Prop := w.ownsRow base 44 3 v xs.length (rowOf xs)
theorem OwnI.nil (base : Nat) (w : World) : OwnI base w (.slice none 0 0) [] := World.ownsRow_nil _ _ _ _
theorem OwnI.form {base : Nat} {w : World} {v : Value} {xs : List W3} (h : OwnI base w v xs) : ∃ ao cap, v = .slice ao xs.length cap := own_formI h
theorem OwnI.lst {base : Nat} {w : World} {v : Value} {xs : List W3} (h : OwnI base w v xs) : Lst (base ≤ ·) w v xs := Lst.of_ownI h
theorem OwnI.blk {base : Nat} {w : World} {v : Value} {xs : List W3} (h : OwnI base w v xs) {q : Nat} (hq : Blk v q) : base ≤ q ∧ q < w.heap.size := World.ownsRow.lt h q hq
theorem OwnI.ch {S : Nat → Prop} {base : Nat} {w w' : World} {v : Value} {xs : List W3} (h : OwnI base w v xs) (k : Ch S w w') (hs : ∀ g, Blk v g → ¬ S g) : OwnI base w' v xs := by
  refine ⟨h.1, ?_⟩
  rcases h.2 with h2 | ⟨g, cap, cur, hv, hb, hg, r⟩
  · exact .inl h2
  · exact .inr ⟨g, cap, cur, hv, hb, (k.block g (lt_of_block hg) (hs g (by rw [hv]; rfl))).trans hg, r⟩
theorem OwnI.alloc {base : Nat} {w : World} {v : Value} {xs : List W3} (h : OwnI base w v xs) (o : Obj) : OwnI base (w.alloc o) v xs := World.ownsRow.alloc h o
/-- the list with its own block told -/
theorem OwnI.lstB {base : Nat} {w : World} {v : Value} {xs : List W3} (h : OwnI base w v xs) : Lst (Blk v) w v xs := by
  obtain ⟨ao, cap, e, hc, h2⟩ := h.lst
  refine ⟨ao, cap, e, hc, h2.imp id ?_⟩
  rintro ⟨g, o, h3, _, h5, h6⟩
  exact ⟨g, o, h3, by rw [e, h3]; rfl, h5, h6⟩

theorem wpList_append_ownI {w : World} {ops : Array Oper} {rest : List Oper} {o : Oper} {a : Act} {Q : Exit → Act → World → Prop} (hgd : o.guard = none) (s x : Operand)
    (ho : o.op = .call { callee := .builtin .append, args := #[s, x], argTypes := #[26, 26] })
    (base : Nat) (v : Value) (xs : List W3) (hs : a.eval s = v) (hown : OwnI base w v xs) (P : Nat → Prop) (sv : Value) (ys : List W3) (hx : a.eval x = sv) (hl : Lst P w sv ys)
    (k : Nat) (hk : k = xs.length + ys.length) (hb : k * 24 ≤ 140737488355328) (hbase : base ≤ w.heap.size) (zs : List W3) (hz : xs ++ ys = zs)
    (h : ∀ ao cap w', OwnI base w' (.slice ao k cap) zs → Ch (Blk v) w w' → (∀ q, Blk (.slice ao k cap) q → Blk v q ∨ w.heap.size ≤ q) → wpList Try.prog ops Q rest (a.put o.dst (.slice ao k cap)) w') : wpList Try.prog ops Q (o :: rest) a w := by
  subst hz
  obtain ⟨i0, hi, hz0, hz1, hz2⟩ := info_parts I_info
  have hl' := hl
  obtain ⟨ao, cap, rfl, ⟨hcap, hnone⟩, hcase⟩ := hl'
  cases ao with
  | none =>
    have hys : ys = [] := by
      rcases hcase with h0 | ⟨g, o, h1, _⟩
      · exact h0
      · cases h1
    subst hys
    have hc := hnone rfl
    subst hc
    refine wpList_append_own_none hgd s x _ ho base 44 i0 3 Try.underlying26 hi v xs.length _ hs hown hx ?_
    obtain ⟨ao', cap', rfl⟩ := hown.form
    have hkn : k = xs.length := by simpa using hk
    subst hkn
    rw [List.append_nil] at h
    exact h ao' cap' w hown (Ch.refl _ _) (fun _ q => .inl q)
  | some ad =>
    subst hk
    refine wpList_append_own_at w hgd s x _ ho base 44 i0 _ 3 24 Try.underlying26 hi hz0 hz1 hz2 rfl (by omega) v xs.length _ hs hown ad ys.length cap (rowOf ys) hx (rowOf_length ys) hl.news (rowOf_one ys) (by unfold maxLen; omega) hb hbase ?_
    intro v' w' h2 h3 _ h5
    obtain ⟨ao', cap', rfl⟩ := own_formI h2
    refine h ao' cap' w' ?_ ((Ch.refl _ _).grown h3 (fun k hk => .inl hk)) ?_
    · show World.ownsRow _ _ _ _ _ _ _
      rw [List.length_append, rowOf_append]
      exact h2
    · intro q hq
      rcases h5 with h5 | h5
      · exact .inl (h5.symm.trans hq)
      · right
        have : some q = some w.heap.size := hq.symm.trans h5
        injection this with this
        omega

theorem OwnI.lit (w : World) : OwnI w.heap.size (w.alloc (.cells #[] 44)) (.slice (some ⟨w.heap.size, 0, none⟩) 0 0) [] :=
  ⟨rfl, .inr ⟨w.heap.size, 0, #[], rfl, Nat.le_refl _, (MapKept.heap_alloc w _).1, Nat.le_refl _, Nat.zero_le _, rfl, rfl⟩⟩
/-- a list of one that was just laid down -/
theorem lst_new3 (w : World) (x : W3) (t : TypeId) : Lst (w.heap.size ≤ ·) (w.alloc (.cells #[.int .u64 x.w, .int .i64 x.n, .int .i64 x.v] t)) (.slice (some ⟨w.heap.size, 0, none⟩) 1 1) [x] := by
  have hb := (MapKept.heap_alloc w (.cells #[.int .u64 x.w, .int .i64 x.n, .int .i64 x.v] t)).1
  refine ⟨some ⟨w.heap.size, 0, none⟩, 1, rfl, ⟨Nat.le_refl _, fun h => by cases h⟩, .inr ⟨w.heap.size, 0, rfl, Nat.le_refl _, lt_of_block hb, fun i z hz => ?_⟩⟩
  match i, hz with
  | 0, hz =>
    simp at hz
    subst hz
    exact ⟨cell_of hb 0, cell_of hb 1, cell_of hb 2⟩
  | i + 1, hz => simp at hz
theorem Lst.len {P : Nat → Prop} {w : World} {ao : Option Addr} {n cap : Nat} {xs : List W3} (h : Lst P w (.slice ao n cap) xs) : n = xs.length := by
  obtain ⟨a, c, e⟩ := h.form
  injection e
/-- a state in a block -/
def Tv (w : World) (k : Nat) (v : Value) (nx : Int) : Prop := w.heap[k]? = some (.cells #[v, .int .i64 nx] 28 (0, 0))
theorem Tv.new (w : World) (v : Value) (nx : Int) : Tv (w.alloc (.cells #[v, .int .i64 nx] 28)) w.heap.size v nx := (MapKept.heap_alloc w _).1
theorem Tv.lt {w : World} {k : Nat} {v : Value} {nx : Int} (h : Tv w k v nx) : k < w.heap.size := lt_of_block h
theorem Tv.ch {S : Nat → Prop} {w w' : World} {k : Nat} {v : Value} {nx : Int} (h : Tv w k v nx) (g : Ch S w w') (hn : ¬ S k) : Tv w' k v nx := (g.block k (lt_of_block h) hn).trans h
theorem Tv.alloc {w : World} {k : Nat} {v : Value} {nx : Int} (h : Tv w k v nx) (o : Obj) : Tv (w.alloc o) k v nx := (Below.heap_alloc _ _ _ h.lt).trans h
theorem Tv.cells {w : World} {k : Nat} {v : Value} {nx : Int} (h : Tv w k v nx) : w.cell? ⟨k, 0, none⟩ = some v ∧ w.cell? ⟨k, 1, none⟩ = some (.int .i64 nx) := ⟨cell_of h 0, cell_of h 1⟩
theorem Tv.fz {w : World} {k : Nat} {v : Value} {nx : Int} (h : Tv w k v nx) : w.frozen? ⟨k, 0, none⟩ = false ∧ w.frozen? ⟨k, 1, none⟩ = false := ⟨frozen_of h 0, frozen_of h 1⟩
/-- a list with what was last laid behind it, behind a store to another block -/
theorem Lst.own {k b : Nat} {w w' : World} {v : Value} {xs : List W3} (h : Lst (b ≤ ·) w v xs) (g : Ch (Only k) w w') (hk : k < b) {b' : Nat} (hb : b' ≤ b) : Lst (b' ≤ ·) w' v xs :=
  (h.ch g (fun q _ hq e => by have e1 : q = k := e; have : b ≤ q := hq; omega)).mono (fun q _ hq => Nat.le_trans hb hq)
theorem erase_at {xs : List W3} {j k : Nat} {z : W3} (hz : xs[j]? = some z) (e : j = k) : (xs.take (j + 1)).eraseIdx k = (xs.take j).eraseIdx k := by
  obtain ⟨hj, h2⟩ := List.getElem?_eq_some_iff.1 hz
  have hl : (xs.take j).length = j := by rw [List.length_take]; omega
  rw [List.take_add_one, hz, Option.toList_some, List.eraseIdx_append_of_length_le (by omega), hl, e, Nat.sub_self, List.eraseIdx_of_length_le (l := xs.take k) (by rw [← e, hl]; exact Nat.le_refl _)]
  simp
theorem erase_not {xs : List W3} {j k : Nat} {z : W3} (hz : xs[j]? = some z) (e : ¬ j = k) : (xs.take (j + 1)).eraseIdx k = (xs.take j).eraseIdx k ++ [z] := by
  obtain ⟨hj, h2⟩ := List.getElem?_eq_some_iff.1 hz
  have hl : (xs.take j).length = j := by rw [List.length_take]; omega
  rw [List.take_add_one, hz, Option.toList_some]
  by_cases h : k < j
  · rw [List.eraseIdx_append_of_lt_length (by omega)]
  · rw [List.eraseIdx_append_of_length_le (by omega), hl, List.eraseIdx_of_length_le (l := xs.take j) (by omega), List.eraseIdx_of_length_le (l := [z]) (by simp; omega)]
theorem erase_le (xs : List W3) (j k : Nat) : ((xs.take j).eraseIdx k).length ≤ xs.length := by
  have := List.length_eraseIdx_le (xs.take j) k
  rw [List.length_take] at this
  omega
end Go.Proofs.Ytkaeccmhfbjcmaa.Hp
