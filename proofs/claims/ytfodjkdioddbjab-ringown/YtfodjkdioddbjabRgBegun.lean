/-
  What begun of the statements answers: two new rings, and the document's two, with nothing in them. No conditions.
-/
import Derived.Test.YtfodjkdioddbjabRgRef9
namespace Go.Proofs.Ytfodjkdioddbjab.Rg
open Go.RowKit
attribute [local go_sem ↓] Go.wp_at_zero Go.wp_at_succ

/-- a block of thirteen cells, none frozen: two rings and the document's two, and which is meant -/
def Pair (w : World) (k : Nat) (a : Array Value) : Prop := w.heap[k]? = some (.cells a 59 (0, 0))
theorem Pair.new (w : World) (a : Array Value) : Pair (w.alloc (.cells a 59)) w.heap.size a := (MapKept.heap_alloc w _).1
theorem Pair.ch {S : Nat → Prop} {w w' : World} {k : Nat} {a : Array Value} (h : Pair w k a) (g : Ch S w w') (hn : ¬ S k) : Pair w' k a := (g.block k (lt_of_block h) hn).trans h
theorem Pair.lt {w : World} {k : Nat} {a : Array Value} (h : Pair w k a) : k < w.heap.size := lt_of_block h
theorem Pair.alloc {w : World} {k : Nat} {a : Array Value} (h : Pair w k a) (o : Obj) : Pair (w.alloc o) k a := (Below.heap_alloc _ _ _ h.lt).trans h
theorem Pair.drewN {w : World} {k : Nat} {a : Array Value} (h : Pair w k a) (n : Nat) : Pair (w.drewN n) k a := h
theorem Pair.cells {w : World} {k : Nat} {c0 c1 c2 c3 c4 c5 c6 c7 c8 c9 c10 c11 c12 : Value} (h : Pair w k #[c0, c1, c2, c3, c4, c5, c6, c7, c8, c9, c10, c11, c12]) : w.cell? ⟨k, 0, none⟩ = some c0 ∧ w.cell? ⟨k, 1, none⟩ = some c1 ∧ w.cell? ⟨k, 2, none⟩ = some c2 ∧ w.cell? ⟨k, 3, none⟩ = some c3 ∧ w.cell? ⟨k, 4, none⟩ = some c4 ∧ w.cell? ⟨k, 5, none⟩ = some c5 ∧ w.cell? ⟨k, 6, none⟩ = some c6 ∧ w.cell? ⟨k, 7, none⟩ = some c7 ∧ w.cell? ⟨k, 8, none⟩ = some c8 ∧ w.cell? ⟨k, 9, none⟩ = some c9 ∧ w.cell? ⟨k, 10, none⟩ = some c10 ∧ w.cell? ⟨k, 11, none⟩ = some c11 ∧ w.cell? ⟨k, 12, none⟩ = some c12 :=
  ⟨(cell_of h 0).trans rfl, (cell_of h 1).trans rfl, (cell_of h 2).trans rfl, (cell_of h 3).trans rfl, (cell_of h 4).trans rfl, (cell_of h 5).trans rfl, (cell_of h 6).trans rfl, (cell_of h 7).trans rfl, (cell_of h 8).trans rfl, (cell_of h 9).trans rfl, (cell_of h 10).trans rfl, (cell_of h 11).trans rfl, (cell_of h 12).trans rfl⟩
theorem Pair.fz {w : World} {k : Nat} {a : Array Value} (h : Pair w k a) : w.frozen? ⟨k, 0, none⟩ = false ∧ w.frozen? ⟨k, 1, none⟩ = false ∧ w.frozen? ⟨k, 2, none⟩ = false ∧ w.frozen? ⟨k, 3, none⟩ = false ∧ w.frozen? ⟨k, 4, none⟩ = false ∧ w.frozen? ⟨k, 5, none⟩ = false ∧ w.frozen? ⟨k, 6, none⟩ = false ∧ w.frozen? ⟨k, 7, none⟩ = false ∧ w.frozen? ⟨k, 8, none⟩ = false ∧ w.frozen? ⟨k, 9, none⟩ = false ∧ w.frozen? ⟨k, 10, none⟩ = false ∧ w.frozen? ⟨k, 11, none⟩ = false ∧ w.frozen? ⟨k, 12, none⟩ = false :=
  ⟨frozen_of h 0, frozen_of h 1, frozen_of h 2, frozen_of h 3, frozen_of h 4, frozen_of h 5, frozen_of h 6, frozen_of h 7, frozen_of h 8, frozen_of h 9, frozen_of h 10, frozen_of h 11, frozen_of h 12⟩

theorem begun_any (w : World) : Calls Try.prog 21 #[] w fun e w' =>
    ∃ b c, e = .returned (.tuple #[.agg #[.pointer (some ⟨b, 0, none⟩), .pointer (some ⟨c, 0, none⟩), .slice none 0 0, .bool false, .int .i64 0, .int .i64 0, .int .u64 0, .slice none 0 0, .bool false, .int .i64 0, .int .i64 0, .int .u64 0, .int .i64 0], .bool true]) ∧
      w.heap.size ≤ b ∧ b < c ∧ RingAt w' b [] none ∧ RingAt w' c [] none ∧ Ch NoB w w' := by
  go_enter Try.func21, Try.ntmps21
  go_wp2_with fail
  refine (new_ex _).mono ?_
  rintro e w1 ⟨b, rfl, hb, r1, g1⟩
  simp only [World.size_alloc] at hb
  have hb1 := r1.lt
  have HG1 := hid (((Ch.refl NoB w).alloc _).trans' g1)
  have HR1 := hid r1
  have HB := hid g1
  clear r1 g1
  go_wp2_with fail
  refine (new_ex _).mono ?_
  rintro e w2 ⟨c, rfl, hc, r2, g2⟩
  have hc2 := r2.lt
  have HR2 := hid (HR1.out.ch g2 (noB _))
  have HQ2 := hid r2
  have HG2 := hid (HG1.out.trans' g2)
  have HV := hid (HB.out.trans' g2)
  clear r2 g2
  have V := (Pair.new w #[.pointer none, .pointer none, .slice none 0 0, .bool false, .int .i64 0, .int .i64 0, .int .u64 0, .slice none 0 0, .bool false, .int .i64 0, .int .i64 0, .int .u64 0, .int .i64 0]).ch HV.out (noB _)
  obtain ⟨p0, p1, p2, p3, p4, p5, p6, p7, p8, p9, p10, p11, p12⟩ := V.cells
  obtain ⟨q0, q1, q2, q3, q4, q5, q6, q7, q8, q9, q10, q11, q12⟩ := V.fz
  have hV := V.lt
  clear V
  go_wp2
  go_region
  all_goals go_wp2
  all_goals refine bodyPost_ret (v := .tuple #[.agg #[.pointer (some ⟨b, 0, none⟩), .pointer (some ⟨c, 0, none⟩), .slice none 0 0, .bool false, .int .i64 0, .int .i64 0, .int .u64 0, .slice none 0 0, .bool false, .int .i64 0, .int .i64 0, .int .u64 0, .int .i64 0], .bool true]) (by simp [results, Try.results21, go_sem, p0, p1, p2, p3, p4, p5, p6, p7, p8, p9, p10, p11, p12, hV]) rfl ⟨b, c, rfl, by omega, by omega, ?_, ?_, ?_⟩
  · refine HR2.out.ch (S := Only w.heap.size) ?_ (fun e => by have : b = w.heap.size := e; omega)
    refine Ch.drew (Ch.alloc ?_ _)
    repeat refine Ch.own ?_ _ _
    exact Ch.refl _ _
  · refine HQ2.out.ch (S := Only w.heap.size) ?_ (fun e => by have : c = w.heap.size := e; omega)
    refine Ch.drew (Ch.alloc ?_ _)
    repeat refine Ch.own ?_ _ _
    exact Ch.refl _ _
  · refine Ch.drew (Ch.alloc ?_ _)
    repeat refine Ch.fresh ?_ (by omega) _ _
    exact HG2.out
end Go.Proofs.Ytfodjkdioddbjab.Rg
