/-
  The words in which the walks over 'calls' of the statements speak: two rings, the document's two, and which is meant. No conditions.
-/
import Derived.Test.YtfodjkdioddbjabRgTells
namespace Go.Proofs.Ytfodjkdioddbjab.Rg
open Go.RowKit
attribute [local go_sem ↓] Go.wp_at_zero Go.wp_at_succ

/-- a block that is none of three -/
structure Av (b c pk g : Nat) : Prop where
  one : g ≠ b
  two : g ≠ c
  three : g ≠ pk
/-- what a call leaves: both rings tell what the document's are, and the answer was right -/
def Out (b c pk : Nat) (w : World) (e : Ending) (w' : World) : Prop :=
  ∃ (xs zs : List W3) (nx ny : Option W3) (u v : Value) (n : Int), e = .returned (.tuple #[.agg #[.pointer (some ⟨b, 0, none⟩), .pointer (some ⟨c, 0, none⟩), u, .bool nx.isSome, .int .i64 (nx.getD W3.zero).s, .int .i64 (nx.getD W3.zero).g, .int .u64 (nx.getD W3.zero).t, v, .bool ny.isSome, .int .i64 (ny.getD W3.zero).s, .int .i64 (ny.getD W3.zero).g, .int .u64 (ny.getD W3.zero).t, .int .i64 n], .bool true]) ∧ (n = 0 ∨ n = 1) ∧
    RingAt w' b xs nx ∧ RingAt w' c zs ny ∧ Lst (Av b c pk) w' u xs ∧ Lst (Av b c pk) w' v zs ∧ Ch (Two b c) w w'

/-- an Op in a block of its own -/
def Four (w : World) (k : Nat) (d : Int) (x : W3) : Prop := w.heap[k]? = some (.cells #[.int .i64 d, .int .i64 x.s, .int .i64 x.g, .int .u64 x.t] 63 (0, 0))
theorem Four.new (w : World) (d : Int) (x : W3) : Four (w.alloc (.cells #[.int .i64 d, .int .i64 x.s, .int .i64 x.g, .int .u64 x.t] 63)) w.heap.size d x := (MapKept.heap_alloc w _).1
theorem Four.ch {S : Nat → Prop} {w w' : World} {k : Nat} {d : Int} {x : W3} (h : Four w k d x) (g : Ch S w w') (hn : ¬ S k) : Four w' k d x := (g.block k (lt_of_block h) hn).trans h
theorem Four.lt {w : World} {k : Nat} {d : Int} {x : W3} (h : Four w k d x) : k < w.heap.size := lt_of_block h
theorem Four.alloc {w : World} {k : Nat} {d : Int} {x : W3} (h : Four w k d x) (o : Obj) : Four (w.alloc o) k d x := (Below.heap_alloc _ _ _ h.lt).trans h
theorem Four.cells {w : World} {k : Nat} {d : Int} {x : W3} (h : Four w k d x) : w.cell? ⟨k, 0, none⟩ = some (.int .i64 d) ∧ w.cell? ⟨k, 1, none⟩ = some (.int .i64 x.s) ∧ w.cell? ⟨k, 2, none⟩ = some (.int .i64 x.g) ∧ w.cell? ⟨k, 3, none⟩ = some (.int .u64 x.t) :=
  ⟨(cell_of h 0).trans rfl, (cell_of h 1).trans rfl, (cell_of h 2).trans rfl, (cell_of h 3).trans rfl⟩

/-- the four blocks that 'calls' lays first -/
theorem four_laid (w : World) (A : Array Value) (d : Int) (x : W3) (a1 a2 a3 a4 a5 : Value) (W : World)
    (hW : W = (((w.alloc (.cells A 59)).alloc (.cells #[.int .i64 d, .int .i64 x.s, .int .i64 x.g, .int .u64 x.t] 63)).alloc (.cells #[.pointer none, .pointer none, .slice none 0 0, .bool false, .int .i64 0, .int .i64 0, .int .u64 0, .slice none 0 0, .bool false, .int .i64 0, .int .i64 0, .int .u64 0, .int .i64 0] 59)).alloc (.cells #[a1, a2, a3, a4, a5] 29)) :
    Pair W w.heap.size A ∧ Four W (w.heap.size + 1) d x ∧ Pair W (w.heap.size + 1 + 1) #[.pointer none, .pointer none, .slice none 0 0, .bool false, .int .i64 0, .int .i64 0, .int .u64 0, .slice none 0 0, .bool false, .int .i64 0, .int .i64 0, .int .u64 0, .int .i64 0] ∧ Five W (w.heap.size + 1 + 1 + 1) a1 a2 a3 a4 a5 ∧ Ch NoB w W ∧ W.heap.size = w.heap.size + 4 := by
  have F2 := ((Four.new (w.alloc (.cells A 59)) d x).alloc (.cells #[.pointer none, .pointer none, .slice none 0 0, .bool false, .int .i64 0, .int .i64 0, .int .u64 0, .slice none 0 0, .bool false, .int .i64 0, .int .i64 0, .int .u64 0, .int .i64 0] 59)).alloc (.cells #[a1, a2, a3, a4, a5] 29)
  have F3 := (Pair.new ((w.alloc (.cells A 59)).alloc (.cells #[.int .i64 d, .int .i64 x.s, .int .i64 x.g, .int .u64 x.t] 63)) #[.pointer none, .pointer none, .slice none 0 0, .bool false, .int .i64 0, .int .i64 0, .int .u64 0, .slice none 0 0, .bool false, .int .i64 0, .int .i64 0, .int .u64 0, .int .i64 0]).alloc (.cells #[a1, a2, a3, a4, a5] 29)
  have F4 := Five.new (((w.alloc (.cells A 59)).alloc (.cells #[.int .i64 d, .int .i64 x.s, .int .i64 x.g, .int .u64 x.t] 63)).alloc (.cells #[.pointer none, .pointer none, .slice none 0 0, .bool false, .int .i64 0, .int .i64 0, .int .u64 0, .slice none 0 0, .bool false, .int .i64 0, .int .i64 0, .int .u64 0, .int .i64 0] 59)) a1 a2 a3 a4 a5
  simp only [World.size_alloc] at F2 F3 F4
  rw [hW]
  exact ⟨(((Pair.new w A).alloc _).alloc _).alloc _, F2, F3, F4, ((((Ch.refl _ _).alloc _).alloc _).alloc _).alloc _, by simp⟩
theorem behindL_len (xs : List W3) (x : W3) : (behindL xs x).length ≤ 33 := by
  unfold behindL
  split
  · simp
  · rw [List.length_append, List.length_take]
    simp
    omega
theorem putL_len (xs : List W3) (nx : Option W3) (x : W3) : (putL xs nx x).length ≤ 33 := by
  unfold putL
  split
  · simp
  · exact behindL_len xs x
theorem kickL_len (xs : List W3) (nx : Option W3) : (kickL xs nx).length ≤ 33 := by
  cases nx with
  | none => simp [kickL]
  | some y => exact behindL_len xs y
theorem readyL_len (xs : List W3) (nx : Option W3) (x : W3) : (readyL xs nx x).length ≤ 33 := by
  unfold readyL
  split
  · simp
  · exact kickL_len xs nx
/-- five cells of a pair are written anew -/
theorem Pair.put0 {w : World} {k : Nat} {c0 c1 c2 c3 c4 c5 c6 c7 c8 c9 c10 c11 c12 : Value} (h : Pair w k #[c0, c1, c2, c3, c4, c5, c6, c7, c8, c9, c10, c11, c12]) (d0 d1 d2 d3 d4 : Value) :
    Pair (((((w.setCell ⟨k, 2, none⟩ d0).setCell ⟨k, 3, none⟩ d1).setCell ⟨k, 4, none⟩ d2).setCell ⟨k, 5, none⟩ d3).setCell ⟨k, 6, none⟩ d4) k #[c0, c1, d0, d1, d2, d3, d4, c7, c8, c9, c10, c11, c12] :=
  setCell_block (setCell_block (setCell_block (setCell_block (setCell_block h 2 _) 3 _) 4 _) 5 _) 6 _
theorem Pair.put1 {w : World} {k : Nat} {c0 c1 c2 c3 c4 c5 c6 c7 c8 c9 c10 c11 c12 : Value} (h : Pair w k #[c0, c1, c2, c3, c4, c5, c6, c7, c8, c9, c10, c11, c12]) (d0 d1 d2 d3 d4 : Value) :
    Pair (((((w.setCell ⟨k, 7, none⟩ d0).setCell ⟨k, 8, none⟩ d1).setCell ⟨k, 9, none⟩ d2).setCell ⟨k, 10, none⟩ d3).setCell ⟨k, 11, none⟩ d4) k #[c0, c1, c2, c3, c4, c5, c6, d0, d1, d2, d3, d4, c12] :=
  setCell_block (setCell_block (setCell_block (setCell_block (setCell_block h 7 _) 8 _) 9 _) 10 _) 11 _
end Go.Proofs.Ytfodjkdioddbjab.Rg
