/-
  The words in which the walks of layer 6 speak of memory and of the document's table: behind a call there are at most new blocks, and what was there is as it was. No conditions.
-/
import Derived.Test.YtcdlhfodeckleaaDoorRows
import Derived.WalkKit
import Derived.WalkSpells
import Derived.WalkSmall
import Derived.RowKit3
import Derived.Deep.QuietTactic
import Derived.BigQuiet
import Derived.WalkLawsBesides
import Derived.Deep.DrawnRows
import Derived.Handy
namespace Go.Proofs.YtcdlhfodeckleaaDoor.Wd
open Go.RowKit

/-- a fact that the walk must not take for a rule -/
theorem hid {p : Prop} (h : p) : Hid p := h

/-- w' is w but for the blocks in S and new ones -/
structure Ch (S : Nat → Prop) (w w' : World) : Prop where
  os : w'.os = w.os
  tape : w'.tape = w.tape
  output : w'.output = w.output
  size : w.heap.size ≤ w'.heap.size
  block : ∀ k, k < w.heap.size → ¬ S k → w'.heap[k]? = w.heap[k]?

section
variable {S T : Nat → Prop} {a w w' w'' : World}
theorem Ch.refl (S : Nat → Prop) (w : World) : Ch S w w := ⟨rfl, rfl, rfl, Nat.le_refl _, fun _ _ _ => rfl⟩
theorem Ch.trans (h : Ch S w w') (k : Ch T w' w'') (hT : ∀ x, T x → S x ∨ w.heap.size ≤ x) : Ch S w w'' :=
  ⟨k.os.trans h.os, k.tape.trans h.tape, k.output.trans h.output, Nat.le_trans h.size k.size, fun i hi hn =>
    (k.block i (Nat.lt_of_lt_of_le hi h.size) (fun ht => (hT i ht).elim hn (fun x => by omega))).trans (h.block i hi hn)⟩
theorem Ch.trans' (h : Ch S w w') (k : Ch S w' w'') : Ch S w w'' := h.trans k (fun _ x => .inl x)
theorem Ch.mono (h : Ch S w w') (hT : ∀ x, S x → T x ∨ w.heap.size ≤ x) : Ch T w w' :=
  ⟨h.os, h.tape, h.output, h.size, fun i hi hn => h.block i hi (fun hs => (hT i hs).elim hn (fun x => by omega))⟩
theorem Ch.drew (h : Ch S a w) : Ch S a w.drew := ⟨h.os, h.tape, h.output, h.size, h.block⟩
theorem Ch.drewN (h : Ch S a w) (n : Nat) : Ch S a (w.drewN n) := ⟨h.os, h.tape, h.output, h.size, h.block⟩
theorem Ch.alloc (h : Ch S a w) (o : Obj) : Ch S a (w.alloc o) :=
  h.trans (T := fun _ => False) ⟨rfl, rfl, rfl, by simp, fun k hk _ => Below.heap_alloc _ _ _ hk⟩ (fun _ x => x.elim)
theorem Ch.setCell (h : Ch S a w) {p : Addr} (hp : S p.block ∨ a.heap.size ≤ p.block) (u : Value) : Ch S a (w.setCell p u) :=
  h.trans (T := fun x => x = p.block) ⟨rfl, rfl, rfl, by simp [World.setCell], fun k _ hn => Below.heap_setCell _ _ _ _ hn⟩ (fun x e => by rw [e]; exact hp)
/-- one block alone -/
def Only (b : Nat) : Nat → Prop := fun x => x = b
theorem Only.self (b : Nat) : Only b b := rfl
theorem Ch.own {b : Nat} (h : Ch (Only b) a w) (o : Nat) (u : Value) : Ch (Only b) a (w.setCell ⟨b, o, none⟩ u) := h.setCell (p := ⟨b, o, none⟩) (.inl rfl) u
theorem Ch.fresh (h : Ch S a w) {k : Nat} (hk : a.heap.size ≤ k) (o : Nat) (u : Value) : Ch S a (w.setCell ⟨k, o, none⟩ u) := h.setCell (p := ⟨k, o, none⟩) (.inr hk) u
theorem Ch.grown (h : Ch S a w) {row : Option Nat} (hg : w.grownBy w' row) (hr : ∀ k, row = some k → S k ∨ a.heap.size ≤ k) : Ch S a w' :=
  h.trans (T := fun x => row = some x) ⟨hg.os, hg.tape, hg.output, hg.size, fun k hk hn => hg.block k hk (fun e => hn e.symm)⟩ (fun x e => hr x e)
theorem Ch.cell (h : Ch S w w') {b o : Nat} (hb : b < w.heap.size) (hn : ¬ S b) : w'.cell? ⟨b, o, none⟩ = w.cell? ⟨b, o, none⟩ :=
  World.cell?_of_block (w := w) (a := ⟨b, o, none⟩) (h.block b hb hn)
theorem Ch.below (h : Ch S w w') {B : Nat} (hB : ∀ x, S x → B ≤ x) (hw : B ≤ w.heap.size) : Below B w w' :=
  ⟨h.os, h.tape, h.output, h.size, fun k hk => h.block k (by omega) (fun hs => by have := hB k hs; omega)⟩
end

theorem lt_of_block {w : World} {b : Nat} {o : Obj} (h : w.heap[b]? = some o) : b < w.heap.size := (Array.getElem?_eq_some_iff.1 h).1
theorem cell_of {w : World} {b : Nat} {c : Array Value} {t : TypeId} {fr : Nat × Nat} (h : w.heap[b]? = some (.cells c t fr)) (o : Nat) : w.cell? ⟨b, o, none⟩ = c[o]? := by
  simp [World.cell?, h]
theorem frozen_of {w : World} {b : Nat} {c : Array Value} {t : TypeId} (h : w.heap[b]? = some (.cells c t (0, 0))) (o : Nat) : w.frozen? ⟨b, o, none⟩ = false := by
  simp [World.frozen?, h]
theorem setCell_block {w : World} {b : Nat} {c : Array Value} {t : TypeId} {fr : Nat × Nat} (h : w.heap[b]? = some (.cells c t fr)) (o : Nat) (v : Value) :
    (w.setCell ⟨b, o, none⟩ v).heap[b]? = some (.cells (c.setIfInBounds o v) t fr) := by
  simp [World.setCell, Array.getElem?_modify, h]

/-- no block -/
def NoB : Nat → Prop := fun _ => False
theorem noB (k : Nat) : ¬ NoB k := fun x => x
theorem Ch.any {S : Nat → Prop} {w w' : World} (h : Ch NoB w w') : Ch S w w' := h.mono (fun _ x => x.elim)
/-- w' is w with new blocks, and nothing that was there has turned -/
abbrev Gr (w w' : World) : Prop := Ch NoB w w'
theorem Gr.refl (w : World) : Gr w w := Ch.refl _ _
theorem Gr.alloc {w w' : World} (h : Gr w w') (c : Array Value) (t : TypeId) : Gr w (w'.alloc (.cells c t)) := Ch.alloc h _
theorem Gr.trans {a b c : World} (h : Gr a b) (k : Gr b c) : Gr a c := Ch.trans h k (fun _ x => x.elim)
theorem Gr.cell {w w' : World} (h : Gr w w') {b o : Nat} (hb : b < w.heap.size) : w'.cell? ⟨b, o, none⟩ = w.cell? ⟨b, o, none⟩ := Ch.cell h hb (noB _)

/-- the operations: from 1 to 58 -/
def Op1 (o : Int) : Prop := 1 ≤ o ∧ o ≤ 58
theorem op_of {o : Int} (h : Op1 o) : ∃ k : Nat, 1 ≤ k ∧ k < 59 ∧ o = (k : Int) := ⟨o.toNat, by have := h.1; omega, by have := h.2; omega, by have := h.1; omega⟩

/-- an operation's name -/
def nm : Nat → ByteArray
  | 1 => { data := #[110, 111, 112] }
  | 2 => { data := #[115, 101, 116] }
  | 3 => { data := #[104, 105, 103, 104] }
  | 4 => { data := #[109, 111, 118, 101] }
  | 5 => { data := #[97, 100, 100] }
  | 6 => { data := #[115, 117, 98] }
  | 7 => { data := #[109, 117, 108] }
  | 8 => { data := #[100, 105, 118] }
  | 9 => { data := #[114, 101, 109] }
  | 10 => { data := #[97, 110, 100] }
  | 11 => { data := #[111, 114] }
  | 12 => { data := #[120, 111, 114] }
  | 13 => { data := #[115, 104, 108] }
  | 14 => { data := #[115, 104, 114] }
  | 15 => { data := #[108, 101, 115, 115] }
  | 16 => { data := #[101, 113, 117, 97, 108] }
  | 17 => { data := #[106, 117, 109, 112] }
  | 18 => { data := #[122, 101, 114, 111] }
  | 19 => { data := #[115, 111, 109, 101] }
  | 20 => { data := #[99, 97, 108, 108] }
  | 21 => { data := #[114, 101, 116] }
  | 22 => { data := #[115, 112, 97, 119, 110] }
  | 23 => { data := #[121, 105, 101, 108, 100] }
  | 24 => { data := #[101, 120, 105, 116] }
  | 25 => { data := #[115, 101, 108, 102] }
  | 26 => { data := #[110, 111, 119] }
  | 27 => { data := #[115, 108, 101, 101, 112] }
  | 28 => { data := #[109, 97, 107, 101] }
  | 29 => { data := #[115, 101, 110, 100] }
  | 30 => { data := #[114, 101, 99, 118] }
  | 31 => { data := #[99, 108, 111, 115, 101] }
  | 32 => { data := #[108, 101, 110] }
  | 33 => { data := #[99, 97, 112] }
  | 34 => { data := #[115, 101, 108, 101, 99, 116] }
  | 35 => { data := #[108, 111, 99, 107] }
  | 36 => { data := #[117, 110, 108, 111, 99, 107] }
  | 37 => { data := #[114, 108, 111, 99, 107] }
  | 38 => { data := #[114, 117, 110, 108, 111, 99, 107] }
  | 39 => { data := #[119, 97, 100, 100] }
  | 40 => { data := #[119, 100, 111, 110, 101] }
  | 41 => { data := #[119, 119, 97, 105, 116] }
  | 42 => { data := #[99, 119, 97, 105, 116] }
  | 43 => { data := #[115, 105, 103, 110, 97, 108] }
  | 44 => { data := #[98, 114, 111, 97, 100, 99, 97, 115, 116] }
  | 45 => { data := #[97, 99, 113, 117, 105, 114, 101] }
  | 46 => { data := #[114, 101, 108, 101, 97, 115, 101] }
  | 47 => { data := #[108, 111, 97, 100] }
  | 48 => { data := #[115, 116, 111, 114, 101] }
  | 49 => { data := #[115, 119, 97, 112] }
  | 50 => { data := #[102, 101, 116, 99, 104] }
  | 51 => { data := #[105, 110, 112, 117, 116] }
  | 52 => { data := #[111, 117, 116, 112, 117, 116] }
  | 53 => { data := #[112, 117, 116] }
  | 54 => { data := #[103, 101, 116] }
  | 55 => { data := #[97, 102, 116, 101, 114] }
  | 56 => { data := #[101, 118, 101, 114, 121] }
  | 57 => { data := #[115, 116, 111, 112] }
  | 58 => { data := #[116, 114, 97, 112] }
  | _ => { data := #[] }
/-- its shape -/
def sh : Nat → Nat
  | 1 => 0
  | 2 => 6
  | 3 => 5
  | 4 => 2
  | 5 => 3
  | 6 => 3
  | 7 => 3
  | 8 => 3
  | 9 => 3
  | 10 => 3
  | 11 => 3
  | 12 => 3
  | 13 => 3
  | 14 => 3
  | 15 => 3
  | 16 => 3
  | 17 => 4
  | 18 => 5
  | 19 => 5
  | 20 => 4
  | 21 => 0
  | 22 => 5
  | 23 => 0
  | 24 => 0
  | 25 => 1
  | 26 => 1
  | 27 => 1
  | 28 => 2
  | 29 => 2
  | 30 => 3
  | 31 => 1
  | 32 => 2
  | 33 => 2
  | 34 => 5
  | 35 => 1
  | 36 => 1
  | 37 => 1
  | 38 => 1
  | 39 => 2
  | 40 => 1
  | 41 => 1
  | 42 => 2
  | 43 => 1
  | 44 => 1
  | 45 => 1
  | 46 => 1
  | 47 => 2
  | 48 => 2
  | 49 => 3
  | 50 => 3
  | 51 => 2
  | 52 => 1
  | 53 => 3
  | 54 => 3
  | 55 => 3
  | 56 => 3
  | 57 => 2
  | 58 => 4
  | _ => 0
/-- its cost -/
def co : Nat → Int
  | 1 => 1
  | 2 => 1
  | 3 => 1
  | 4 => 1
  | 5 => 1
  | 6 => 1
  | 7 => 3
  | 8 => 8
  | 9 => 8
  | 10 => 1
  | 11 => 1
  | 12 => 1
  | 13 => 1
  | 14 => 1
  | 15 => 1
  | 16 => 1
  | 17 => 1
  | 18 => 1
  | 19 => 1
  | 20 => 2
  | 21 => 2
  | 22 => 4
  | 23 => 1
  | 24 => 1
  | 25 => 1
  | 26 => 1
  | 27 => 1
  | 28 => 4
  | 29 => 2
  | 30 => 2
  | 31 => 2
  | 32 => 1
  | 33 => 1
  | 34 => 4
  | 35 => 2
  | 36 => 2
  | 37 => 2
  | 38 => 2
  | 39 => 2
  | 40 => 2
  | 41 => 2
  | 42 => 3
  | 43 => 2
  | 44 => 3
  | 45 => 2
  | 46 => 2
  | 47 => 2
  | 48 => 2
  | 49 => 3
  | 50 => 3
  | 51 => 2
  | 52 => 2
  | 53 => 2
  | 54 => 2
  | 55 => 3
  | 56 => 3
  | 57 => 2
  | 58 => 1
  | _ => 0
/-- what it reads -/
def rd : Nat → ByteArray
  | 1 => { data := #[] }
  | 2 => { data := #[] }
  | 3 => { data := #[97] }
  | 4 => { data := #[98] }
  | 5 => { data := #[98, 99] }
  | 6 => { data := #[98, 99] }
  | 7 => { data := #[98, 99] }
  | 8 => { data := #[98, 99] }
  | 9 => { data := #[98, 99] }
  | 10 => { data := #[98, 99] }
  | 11 => { data := #[98, 99] }
  | 12 => { data := #[98, 99] }
  | 13 => { data := #[98, 99] }
  | 14 => { data := #[98, 99] }
  | 15 => { data := #[98, 99] }
  | 16 => { data := #[98, 99] }
  | 17 => { data := #[] }
  | 18 => { data := #[97] }
  | 19 => { data := #[97] }
  | 20 => { data := #[] }
  | 21 => { data := #[] }
  | 22 => { data := #[42] }
  | 23 => { data := #[] }
  | 24 => { data := #[] }
  | 25 => { data := #[] }
  | 26 => { data := #[] }
  | 27 => { data := #[97] }
  | 28 => { data := #[98] }
  | 29 => { data := #[97, 98] }
  | 30 => { data := #[99] }
  | 31 => { data := #[97] }
  | 32 => { data := #[98] }
  | 33 => { data := #[98] }
  | 34 => { data := #[42] }
  | 35 => { data := #[97] }
  | 36 => { data := #[97] }
  | 37 => { data := #[97] }
  | 38 => { data := #[97] }
  | 39 => { data := #[97, 98] }
  | 40 => { data := #[97] }
  | 41 => { data := #[97] }
  | 42 => { data := #[97, 98] }
  | 43 => { data := #[97] }
  | 44 => { data := #[97] }
  | 45 => { data := #[97] }
  | 46 => { data := #[97] }
  | 47 => { data := #[98] }
  | 48 => { data := #[97, 98] }
  | 49 => { data := #[97, 98, 99] }
  | 50 => { data := #[98, 99] }
  | 51 => { data := #[] }
  | 52 => { data := #[97] }
  | 53 => { data := #[97, 98] }
  | 54 => { data := #[99] }
  | 55 => { data := #[98, 99] }
  | 56 => { data := #[98, 99] }
  | 57 => { data := #[98] }
  | 58 => { data := #[] }
  | _ => { data := #[] }
/-- what it writes -/
def wr : Nat → ByteArray
  | 1 => { data := #[] }
  | 2 => { data := #[97] }
  | 3 => { data := #[97] }
  | 4 => { data := #[97] }
  | 5 => { data := #[97] }
  | 6 => { data := #[97] }
  | 7 => { data := #[97] }
  | 8 => { data := #[97] }
  | 9 => { data := #[97] }
  | 10 => { data := #[97] }
  | 11 => { data := #[97] }
  | 12 => { data := #[97] }
  | 13 => { data := #[97] }
  | 14 => { data := #[97] }
  | 15 => { data := #[97] }
  | 16 => { data := #[97] }
  | 17 => { data := #[] }
  | 18 => { data := #[] }
  | 19 => { data := #[] }
  | 20 => { data := #[] }
  | 21 => { data := #[] }
  | 22 => { data := #[97] }
  | 23 => { data := #[] }
  | 24 => { data := #[] }
  | 25 => { data := #[97] }
  | 26 => { data := #[97] }
  | 27 => { data := #[] }
  | 28 => { data := #[97] }
  | 29 => { data := #[] }
  | 30 => { data := #[97, 98] }
  | 31 => { data := #[] }
  | 32 => { data := #[97] }
  | 33 => { data := #[97] }
  | 34 => { data := #[42] }
  | 35 => { data := #[] }
  | 36 => { data := #[] }
  | 37 => { data := #[] }
  | 38 => { data := #[] }
  | 39 => { data := #[] }
  | 40 => { data := #[] }
  | 41 => { data := #[] }
  | 42 => { data := #[] }
  | 43 => { data := #[] }
  | 44 => { data := #[] }
  | 45 => { data := #[] }
  | 46 => { data := #[] }
  | 47 => { data := #[97] }
  | 48 => { data := #[] }
  | 49 => { data := #[97] }
  | 50 => { data := #[97] }
  | 51 => { data := #[97, 98] }
  | 52 => { data := #[] }
  | 53 => { data := #[99] }
  | 54 => { data := #[97, 98] }
  | 55 => { data := #[97] }
  | 56 => { data := #[97] }
  | 57 => { data := #[97] }
  | 58 => { data := #[] }
  | _ => { data := #[] }
/-- the program's number of it -/
def nu : Nat → Int
  | 1 => 8
  | 2 => 2062
  | 3 => 2189
  | 4 => 2314
  | 5 => 2827
  | 6 => 2827
  | 7 => 2843
  | 8 => 2883
  | 9 => 2883
  | 10 => 2827
  | 11 => 2827
  | 12 => 2827
  | 13 => 2827
  | 14 => 2827
  | 15 => 2827
  | 16 => 2827
  | 17 => 12
  | 18 => 141
  | 19 => 141
  | 20 => 20
  | 21 => 16
  | 22 => 3109
  | 23 => 8
  | 24 => 8
  | 25 => 2057
  | 26 => 2057
  | 27 => 137
  | 28 => 2338
  | 29 => 402
  | 30 => 6675
  | 31 => 145
  | 32 => 2314
  | 33 => 2314
  | 34 => 17445
  | 35 => 145
  | 36 => 145
  | 37 => 145
  | 38 => 145
  | 39 => 402
  | 40 => 145
  | 41 => 145
  | 42 => 410
  | 43 => 145
  | 44 => 153
  | 45 => 145
  | 46 => 145
  | 47 => 2322
  | 48 => 402
  | 49 => 2971
  | 50 => 2843
  | 51 => 6162
  | 52 => 145
  | 53 => 8595
  | 54 => 6675
  | 55 => 2843
  | 56 => 2843
  | 57 => 2322
  | 58 => 12
  | _ => 0
/-- a shape's greatest A -/
def fa : Nat → Int
  | 1 => 15
  | 2 => 15
  | 3 => 15
  | 5 => 15
  | 6 => 15
  | _ => 0
/-- a shape's greatest B -/
def fb : Nat → Int
  | 2 => 15
  | 3 => 15
  | _ => 0
/-- a shape's greatest C -/
def fc : Nat → Int
  | 3 => 15
  | _ => 0
/-- a shape's least number -/
def fl : Nat → Int
  | 6 => -32768
  | _ => 0
/-- a shape's greatest number -/
def fm : Nat → Int
  | 4 => 65535
  | 5 => 65535
  | 6 => 32767
  | _ => 0

/-- what holds of 1 to 58 one by one holds of all -/
theorem ops_all {P : Nat → Prop} (h1 : P 1) (h2 : P 2) (h3 : P 3) (h4 : P 4) (h5 : P 5) (h6 : P 6) (h7 : P 7) (h8 : P 8) (h9 : P 9) (h10 : P 10) (h11 : P 11) (h12 : P 12) (h13 : P 13) (h14 : P 14) (h15 : P 15) (h16 : P 16) (h17 : P 17) (h18 : P 18) (h19 : P 19) (h20 : P 20) (h21 : P 21) (h22 : P 22) (h23 : P 23) (h24 : P 24) (h25 : P 25) (h26 : P 26) (h27 : P 27) (h28 : P 28) (h29 : P 29) (h30 : P 30) (h31 : P 31) (h32 : P 32) (h33 : P 33) (h34 : P 34) (h35 : P 35) (h36 : P 36) (h37 : P 37) (h38 : P 38) (h39 : P 39) (h40 : P 40) (h41 : P 41) (h42 : P 42) (h43 : P 43) (h44 : P 44) (h45 : P 45) (h46 : P 46) (h47 : P 47) (h48 : P 48) (h49 : P 49) (h50 : P 50) (h51 : P 51) (h52 : P 52) (h53 : P 53) (h54 : P 54) (h55 : P 55) (h56 : P 56) (h57 : P 57) (h58 : P 58) : ∀ k, 1 ≤ k → k < 59 → P k := by
  intro k a1 a2
  match k, a1, a2 with
  | 1, _, _ => exact h1
  | 2, _, _ => exact h2
  | 3, _, _ => exact h3
  | 4, _, _ => exact h4
  | 5, _, _ => exact h5
  | 6, _, _ => exact h6
  | 7, _, _ => exact h7
  | 8, _, _ => exact h8
  | 9, _, _ => exact h9
  | 10, _, _ => exact h10
  | 11, _, _ => exact h11
  | 12, _, _ => exact h12
  | 13, _, _ => exact h13
  | 14, _, _ => exact h14
  | 15, _, _ => exact h15
  | 16, _, _ => exact h16
  | 17, _, _ => exact h17
  | 18, _, _ => exact h18
  | 19, _, _ => exact h19
  | 20, _, _ => exact h20
  | 21, _, _ => exact h21
  | 22, _, _ => exact h22
  | 23, _, _ => exact h23
  | 24, _, _ => exact h24
  | 25, _, _ => exact h25
  | 26, _, _ => exact h26
  | 27, _, _ => exact h27
  | 28, _, _ => exact h28
  | 29, _, _ => exact h29
  | 30, _, _ => exact h30
  | 31, _, _ => exact h31
  | 32, _, _ => exact h32
  | 33, _, _ => exact h33
  | 34, _, _ => exact h34
  | 35, _, _ => exact h35
  | 36, _, _ => exact h36
  | 37, _, _ => exact h37
  | 38, _, _ => exact h38
  | 39, _, _ => exact h39
  | 40, _, _ => exact h40
  | 41, _, _ => exact h41
  | 42, _, _ => exact h42
  | 43, _, _ => exact h43
  | 44, _, _ => exact h44
  | 45, _, _ => exact h45
  | 46, _, _ => exact h46
  | 47, _, _ => exact h47
  | 48, _, _ => exact h48
  | 49, _, _ => exact h49
  | 50, _, _ => exact h50
  | 51, _, _ => exact h51
  | 52, _, _ => exact h52
  | 53, _, _ => exact h53
  | 54, _, _ => exact h54
  | 55, _, _ => exact h55
  | 56, _, _ => exact h56
  | 57, _, _ => exact h57
  | 58, _, _ => exact h58
  | k + 59, _, a2 => omega
theorem shapes_all {P : Nat → Prop} (h0 : P 0) (h1 : P 1) (h2 : P 2) (h3 : P 3) (h4 : P 4) (h5 : P 5) (h6 : P 6) : ∀ k, k < 7 → P k := by
  intro k a2
  match k, a2 with
  | 0, _ => exact h0
  | 1, _ => exact h1
  | 2, _ => exact h2
  | 3, _ => exact h3
  | 4, _ => exact h4
  | 5, _ => exact h5
  | 6, _ => exact h6
  | k + 7, a2 => omega
theorem sh_lt : ∀ k, sh k < 7 := by
  intro k
  unfold sh
  split <;> omega

/-- the program's tables lie where they lie -/
structure Nums (w : World) : Prop where
  lt : 0 < w.heap.size
  at_ : ∀ k, 1 ≤ k → k < 59 → w.cell? ⟨0, k, none⟩ = some (.int .u16 (nu k))
structure Names (w : World) : Prop where
  lt : 0 < w.heap.size
  at_ : ∀ k, 1 ≤ k → k < 59 → w.cell? ⟨0, k, none⟩ = some (.string (nm k))
structure Forms (w : World) : Prop where
  lt : 1 < w.heap.size
  a0 : ∀ s, s < 7 → w.cell? ⟨1, s * 5, none⟩ = some (.int .i64 (fa s))
  a1 : ∀ s, s < 7 → w.cell? ⟨1, s * 5 + 1, none⟩ = some (.int .i64 (fb s))
  a2 : ∀ s, s < 7 → w.cell? ⟨1, s * 5 + 2, none⟩ = some (.int .i64 (fc s))
  a3 : ∀ s, s < 7 → w.cell? ⟨1, s * 5 + 3, none⟩ = some (.int .i64 (fl s))
  a4 : ∀ s, s < 7 → w.cell? ⟨1, s * 5 + 4, none⟩ = some (.int .i64 (fm s))
theorem Nums.gr {w w' : World} (h : Nums w) (g : Gr w w') : Nums w' := ⟨Nat.lt_of_lt_of_le h.lt g.size, fun k a b => (g.cell h.lt).trans (h.at_ k a b)⟩
theorem Names.gr {w w' : World} (h : Names w) (g : Gr w w') : Names w' := ⟨Nat.lt_of_lt_of_le h.lt g.size, fun k a b => (g.cell h.lt).trans (h.at_ k a b)⟩
theorem Forms.gr {w w' : World} (h : Forms w) (g : Gr w w') : Forms w' := ⟨Nat.lt_of_lt_of_le h.lt g.size, fun k a => (g.cell h.lt).trans (h.a0 k a), fun k a => (g.cell h.lt).trans (h.a1 k a), fun k a => (g.cell h.lt).trans (h.a2 k a), fun k a => (g.cell h.lt).trans (h.a3 k a), fun k a => (g.cell h.lt).trans (h.a4 k a)⟩
end Go.Proofs.YtcdlhfodeckleaaDoor.Wd
