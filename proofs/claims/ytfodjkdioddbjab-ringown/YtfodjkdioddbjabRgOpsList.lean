/-
  The words in which the walks of layer 2 speak of a list of calls that was handed in. No conditions.
-/
import Derived.Test.YtfodjkdioddbjabRgCalls
namespace Go.Proofs.Ytfodjkdioddbjab.Rg
open Go.RowKit

/-- a slice value that reads as a list of calls; where it is not empty its cells lie in a block below B -/
def Ops (B : Nat) (w : World) (v : Value) (os : List (Int × W3)) : Prop :=
  ∃ ao cap, v = .slice ao os.length cap ∧ (os = [] ∨ ∃ g o, ao = some ⟨g, o, none⟩ ∧ g < B ∧
    ∀ i p, os[i]? = some p → w.cell? ⟨g, o + i * 4, none⟩ = some (.int .i64 p.1) ∧ w.cell? ⟨g, o + i * 4 + 1, none⟩ = some (.int .i64 p.2.s) ∧ w.cell? ⟨g, o + i * 4 + 2, none⟩ = some (.int .i64 p.2.g) ∧ w.cell? ⟨g, o + i * 4 + 3, none⟩ = some (.int .u64 p.2.t))

theorem Ops.ch {B : Nat} {S : Nat → Prop} {w w' : World} {v : Value} {os : List (Int × W3)} (h : Ops B w v os) (k : Ch S w w') (hB : B ≤ w.heap.size) (hs : ∀ g, g < B → ¬ S g) : Ops B w' v os := by
  obtain ⟨ao, cap, e, h⟩ := h
  refine ⟨ao, cap, e, h.imp id ?_⟩
  rintro ⟨g, o, h1, h2, h4⟩
  refine ⟨g, o, h1, h2, fun i p hp => ?_⟩
  have hg : g < w.heap.size := Nat.lt_of_lt_of_le h2 hB
  rw [k.cell hg (hs g h2), k.cell hg (hs g h2), k.cell hg (hs g h2), k.cell hg (hs g h2)]
  exact h4 i p hp
theorem Ops.form {B : Nat} {w : World} {v : Value} {os : List (Int × W3)} (h : Ops B w v os) : ∃ ao cap, v = .slice ao os.length cap := by
  obtain ⟨ao, cap, e, _⟩ := h
  exact ⟨ao, cap, e⟩
theorem Ops.get {B : Nat} {w : World} {ao : Option Addr} {n cap : Nat} {os : List (Int × W3)} (h : Ops B w (.slice ao n cap) os) {i : Nat} {p : Int × W3} (hp : os[i]? = some p) :
    ∃ g o, ao = some ⟨g, o, none⟩ ∧ g < B ∧ w.cell? ⟨g, o + i * 4, none⟩ = some (.int .i64 p.1) ∧ w.cell? ⟨g, o + i * 4 + 1, none⟩ = some (.int .i64 p.2.s) ∧ w.cell? ⟨g, o + i * 4 + 2, none⟩ = some (.int .i64 p.2.g) ∧ w.cell? ⟨g, o + i * 4 + 3, none⟩ = some (.int .u64 p.2.t) := by
  obtain ⟨ao', cap', e, h⟩ := h
  injection e with e1 e2 e3
  subst e1 e3
  rcases h with rfl | ⟨g, o, rfl, h2, h4⟩
  · simp at hp
  · exact ⟨g, o, rfl, h2, h4 i p hp⟩
end Go.Proofs.Ytfodjkdioddbjab.Rg
