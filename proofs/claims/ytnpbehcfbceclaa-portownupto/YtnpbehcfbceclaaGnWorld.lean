/-
  The words in which the walks speak of memory: behind a call there are at most new blocks, and what was there is as it was. No conditions.
-/
import Derived.Test.YtnpbehcfbceclaaRows
import Derived.WalkKit
import Derived.WalkSpells
import Derived.WalkSmall
import Derived.RowKit3
import Derived.Deep.QuietTactic
import Derived.BigQuiet
import Derived.WalkLawsBesides
import Derived.Deep.DrawnRows
import Derived.Handy
namespace Go.Proofs.Ytnpbehcfbceclaa.Wd
open Go.RowKit

/-- a fact that the walk must not take for a rule -/
theorem hid {p : Prop} (h : p) : Hid p := h

/-- w' is w but for the blocks in S and new ones -/
structure Ch (S : Nat → Prop) (w w' : World) : Prop where
  os : w'.os = w.os
  tape : w'.tape = w.tape
  output : w'.output = w.output
  size : w.heap.size ≤ w'.heap.size
  block : ∀ k, k < w.heap.size → ¬ S k → w'.heap[k]? = w.heap[k]?

section
variable {S T : Nat → Prop} {a w w' w'' : World}
theorem Ch.refl (S : Nat → Prop) (w : World) : Ch S w w := ⟨rfl, rfl, rfl, Nat.le_refl _, fun _ _ _ => rfl⟩
theorem Ch.trans (h : Ch S w w') (k : Ch T w' w'') (hT : ∀ x, T x → S x ∨ w.heap.size ≤ x) : Ch S w w'' :=
  ⟨k.os.trans h.os, k.tape.trans h.tape, k.output.trans h.output, Nat.le_trans h.size k.size, fun i hi hn =>
    (k.block i (Nat.lt_of_lt_of_le hi h.size) (fun ht => (hT i ht).elim hn (fun x => by omega))).trans (h.block i hi hn)⟩
theorem Ch.trans' (h : Ch S w w') (k : Ch S w' w'') : Ch S w w'' := h.trans k (fun _ x => .inl x)
theorem Ch.mono (h : Ch S w w') (hT : ∀ x, S x → T x ∨ w.heap.size ≤ x) : Ch T w w' :=
  ⟨h.os, h.tape, h.output, h.size, fun i hi hn => h.block i hi (fun hs => (hT i hs).elim hn (fun x => by omega))⟩
theorem Ch.drew (h : Ch S a w) : Ch S a w.drew := ⟨h.os, h.tape, h.output, h.size, h.block⟩
theorem Ch.drewN (h : Ch S a w) (n : Nat) : Ch S a (w.drewN n) := ⟨h.os, h.tape, h.output, h.size, h.block⟩
theorem Ch.alloc (h : Ch S a w) (o : Obj) : Ch S a (w.alloc o) :=
  h.trans (T := fun _ => False) ⟨rfl, rfl, rfl, by simp, fun k hk _ => Below.heap_alloc _ _ _ hk⟩ (fun _ x => x.elim)
theorem Ch.setCell (h : Ch S a w) {p : Addr} (hp : S p.block ∨ a.heap.size ≤ p.block) (u : Value) : Ch S a (w.setCell p u) :=
  h.trans (T := fun x => x = p.block) ⟨rfl, rfl, rfl, by simp [World.setCell], fun k _ hn => Below.heap_setCell _ _ _ _ hn⟩ (fun x e => by rw [e]; exact hp)
/-- one block alone -/
def Only (b : Nat) : Nat → Prop := fun x => x = b
theorem Only.self (b : Nat) : Only b b := rfl
theorem Ch.own {b : Nat} (h : Ch (Only b) a w) (o : Nat) (u : Value) : Ch (Only b) a (w.setCell ⟨b, o, none⟩ u) := h.setCell (p := ⟨b, o, none⟩) (.inl rfl) u
theorem Ch.fresh (h : Ch S a w) {k : Nat} (hk : a.heap.size ≤ k) (o : Nat) (u : Value) : Ch S a (w.setCell ⟨k, o, none⟩ u) := h.setCell (p := ⟨k, o, none⟩) (.inr hk) u
theorem Ch.grown (h : Ch S a w) {row : Option Nat} (hg : w.grownBy w' row) (hr : ∀ k, row = some k → S k ∨ a.heap.size ≤ k) : Ch S a w' :=
  h.trans (T := fun x => row = some x) ⟨hg.os, hg.tape, hg.output, hg.size, fun k hk hn => hg.block k hk (fun e => hn e.symm)⟩ (fun x e => hr x e)
theorem Ch.cell (h : Ch S w w') {b o : Nat} (hb : b < w.heap.size) (hn : ¬ S b) : w'.cell? ⟨b, o, none⟩ = w.cell? ⟨b, o, none⟩ :=
  World.cell?_of_block (w := w) (a := ⟨b, o, none⟩) (h.block b hb hn)
theorem Ch.below (h : Ch S w w') {B : Nat} (hB : ∀ x, S x → B ≤ x) (hw : B ≤ w.heap.size) : Below B w w' :=
  ⟨h.os, h.tape, h.output, h.size, fun k hk => h.block k (by omega) (fun hs => by have := hB k hs; omega)⟩
end

theorem lt_of_block {w : World} {b : Nat} {o : Obj} (h : w.heap[b]? = some o) : b < w.heap.size := (Array.getElem?_eq_some_iff.1 h).1
theorem cell_of {w : World} {b : Nat} {c : Array Value} {t : TypeId} {fr : Nat × Nat} (h : w.heap[b]? = some (.cells c t fr)) (o : Nat) : w.cell? ⟨b, o, none⟩ = c[o]? := by
  simp [World.cell?, h]
theorem frozen_of {w : World} {b : Nat} {c : Array Value} {t : TypeId} (h : w.heap[b]? = some (.cells c t (0, 0))) (o : Nat) : w.frozen? ⟨b, o, none⟩ = false := by
  simp [World.frozen?, h]
theorem setCell_block {w : World} {b : Nat} {c : Array Value} {t : TypeId} {fr : Nat × Nat} (h : w.heap[b]? = some (.cells c t fr)) (o : Nat) (v : Value) :
    (w.setCell ⟨b, o, none⟩ v).heap[b]? = some (.cells (c.setIfInBounds o v) t fr) := by
  simp [World.setCell, Array.getElem?_modify, h]

/-- no block -/
def NoB : Nat → Prop := fun _ => False
theorem noB (k : Nat) : ¬ NoB k := fun x => x
theorem Ch.any {S : Nat → Prop} {w w' : World} (h : Ch NoB w w') : Ch S w w' := h.mono (fun _ x => x.elim)
/-- w' is w with new blocks, and nothing that was there has turned -/
abbrev Gr (w w' : World) : Prop := Ch NoB w w'
theorem Gr.refl (w : World) : Gr w w := Ch.refl _ _
theorem Gr.alloc {w w' : World} (h : Gr w w') (c : Array Value) (t : TypeId) : Gr w (w'.alloc (.cells c t)) := Ch.alloc h _
theorem Gr.trans {a b c : World} (h : Gr a b) (k : Gr b c) : Gr a c := Ch.trans h k (fun _ x => x.elim)
theorem Gr.cell {w w' : World} (h : Gr w w') {b o : Nat} (hb : b < w.heap.size) : w'.cell? ⟨b, o, none⟩ = w.cell? ⟨b, o, none⟩ := Ch.cell h hb (noB _)
end Go.Proofs.Ytnpbehcfbceclaa.Wd
