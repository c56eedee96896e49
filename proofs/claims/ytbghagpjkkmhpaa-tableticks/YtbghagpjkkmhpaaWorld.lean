/-
  The words in which the walks of layer 1 speak of memory: behind a call there are at most new blocks, and what was there is as it was. No conditions.
-/
import Derived.Test.YtbghagpjkkmhpaaRows
import Derived.WalkKit
import Derived.WalkSpells
import Derived.WalkSmall
import Derived.RowKit3
namespace Go.Proofs.Ytbghagpjkkmhpaa.Tk
open Go.RowKit

/-- a fact that the walk must not take for a rule -/
theorem hid {p : Prop} (h : p) : Hid p := h

/-- w' is w with new blocks, and nothing that was there has turned -/
def Gr (w w' : World) : Prop := Grown w w' ∧ Below w.heap.size w w'
theorem Gr.refl (w : World) : Gr w w := ⟨Grown.refl _, Below.refl _ _⟩
theorem Gr.drew {w w' : World} (h : Gr w w') : Gr w w'.drew := ⟨h.1.drew, h.2.drew⟩
theorem Gr.drewN {w w' : World} (h : Gr w w') (n : Nat) : Gr w (w'.drewN n) := ⟨h.1, below_drewN h.2 n⟩
theorem Gr.alloc {w w' : World} (h : Gr w w') (c : Array Value) (t : TypeId) : Gr w (w'.alloc (.cells c t)) := ⟨h.1.alloc c t, h.2.alloc h.2.size _⟩
theorem Gr.trans {a b c : World} (h : Gr a b) (k : Gr b c) : Gr a c :=
  ⟨⟨World.keptBut_trans h.1.1 (k.1.frame _) , fun x => (k.1.2.1 x).trans (h.1.2.1 x), Nat.le_trans h.1.2.2 k.1.2.2⟩, h.2.trans (k.2.mono h.2.size)⟩
theorem Gr.cell {w w' : World} (h : Gr w w') {b o : Nat} (hb : b < w.heap.size) : w'.cell? ⟨b, o, none⟩ = w.cell? ⟨b, o, none⟩ := h.2.cell (p := ⟨b, o, none⟩) hb
/-- the window lies at a block, whatever was made behind it -/
theorem held {w wb w1 : World} {b : Nat} {s l : Value} (g : Gr wb w1) (h : wb.cell? ⟨b, 0, none⟩ = some s ∧ wb.cell? ⟨b, 1, none⟩ = some l ∧ b < wb.heap.size ∧ Gr w wb) :
    w1.cell? ⟨b, 0, none⟩ = some s ∧ w1.cell? ⟨b, 1, none⟩ = some l ∧ b < w1.heap.size ∧ Gr w w1 :=
  ⟨(g.cell h.2.2.1).trans h.1, (g.cell h.2.2.1).trans h.2.1, Nat.lt_of_lt_of_le h.2.2.1 g.2.size, h.2.2.2.trans g⟩

/-- a window that has been handed in lies in the next block -/
theorem boxed {w w1 : World} {T : TypeId} {s l : Value} (g : Gr (w.alloc (.cells #[s, l] T)) w1) :
    w1.cell? ⟨w.heap.size, 0, none⟩ = some s ∧ w1.cell? ⟨w.heap.size, 1, none⟩ = some l ∧ w.heap.size < w1.heap.size ∧ Gr w w1 :=
  held g ⟨by simp, by simp, by simp, (Gr.refl _).alloc _ _⟩
/-- a tick, a frame and a window that have been handed in as one -/
theorem heldF {w wb w1 : World} {b : Nat} {t f s l : Value} (g : Gr wb w1) (h : wb.cell? ⟨b, 0, none⟩ = some t ∧ wb.cell? ⟨b, 1, none⟩ = some f ∧ wb.cell? ⟨b, 2, none⟩ = some s ∧ wb.cell? ⟨b, 3, none⟩ = some l ∧ b < wb.heap.size ∧ Gr w wb) :
    w1.cell? ⟨b, 0, none⟩ = some t ∧ w1.cell? ⟨b, 1, none⟩ = some f ∧ w1.cell? ⟨b, 2, none⟩ = some s ∧ w1.cell? ⟨b, 3, none⟩ = some l ∧ b < w1.heap.size ∧ Gr w w1 := by
  obtain ⟨h0, h1, h2, h3, hb, hg⟩ := h
  exact ⟨(g.cell hb).trans h0, (g.cell hb).trans h1, (g.cell hb).trans h2, (g.cell hb).trans h3, Nat.lt_of_lt_of_le hb g.2.size, hg.trans g⟩
theorem boxedF {w w1 : World} {T : TypeId} {t f s l : Value} (g : Gr (w.alloc (.cells #[t, f, s, l] T)) w1) :
    w1.cell? ⟨w.heap.size, 0, none⟩ = some t ∧ w1.cell? ⟨w.heap.size, 1, none⟩ = some f ∧ w1.cell? ⟨w.heap.size, 2, none⟩ = some s ∧ w1.cell? ⟨w.heap.size, 3, none⟩ = some l ∧ w.heap.size < w1.heap.size ∧ Gr w w1 :=
  heldF g ⟨by simp, by simp, by simp, by simp, by simp, (Gr.refl _).alloc _ _⟩
end Go.Proofs.Ytbghagpjkkmhpaa.Tk
