/-
  A table's box and a tick's, that a statement lays ahead of all calls. No conditions.
-/
import Derived.Test.YtbghagpjkkmhpabTbBase
namespace Go.Proofs.Ytbghagpjkkmhpab.Lt
open Go.RowKit Wd

theorem box3 {w w1 : World} {T : TypeId} {a b c : Value} (g : Gr (w.alloc (.cells #[a, b, c] T)) w1) :
    w1.cell? ⟨w.heap.size, 0, none⟩ = some a ∧ w1.cell? ⟨w.heap.size, 1, none⟩ = some b ∧ w1.cell? ⟨w.heap.size, 2, none⟩ = some c ∧ w.heap.size < w1.heap.size ∧ Gr w w1 := by
  have h := gr_blk (al_at (w := w) (.cells #[a, b, c] T) rfl) g
  exact ⟨cell_of h 0, cell_of h 1, cell_of h 2, lt_of_block h, Gr.trans (Ch.alloc (Gr.refl w) _) g⟩
/-- a table's box and, behind it, a tick's: whatever was made since -/
theorem boxTX {w w1 : World} {T T2 : TypeId} {a b x y z : Value} (g : Gr ((w.alloc (.cells #[a, b] T)).alloc (.cells #[x, y, z] T2)) w1) :
    (w1.cell? ⟨w.heap.size, 0, none⟩ = some a ∧ w1.cell? ⟨w.heap.size, 1, none⟩ = some b ∧ w.heap.size < w1.heap.size) ∧ (w1.cell? ⟨w.heap.size + 1, 0, none⟩ = some x ∧ w1.cell? ⟨w.heap.size + 1, 1, none⟩ = some y ∧ w1.cell? ⟨w.heap.size + 1, 2, none⟩ = some z ∧ w.heap.size + 1 < w1.heap.size) ∧ Gr w w1 := by
  obtain ⟨x0, x1, x2, xb, gx⟩ := box3 g
  obtain ⟨t0, t1, tb, gt⟩ := box2 gx
  have e : (w.alloc (.cells #[a, b] T)).heap.size = w.heap.size + 1 := by simp
  rw [e] at x0 x1 x2 xb
  exact ⟨⟨t0, t1, tb⟩, ⟨x0, x1, x2, xb⟩, gt⟩
end Go.Proofs.Ytbghagpjkkmhpab.Lt
