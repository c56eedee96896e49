/-
  A struct stored whole. No conditions.
-/
import Derived.Test.YtnpbehcfbceclaaPoBase
namespace Go.Proofs.Ytnpbehcfbceclaa.Lt
open Go.RowKit Wd

theorem setRow_blk {w : World} {g : Nat} {t : TypeId} {old c : Array Value} (hg : w.heap[g]? = some (.cells old t (0, 0))) : (w.setRow g c).heap[g]? = some (.cells c t (0, 0)) := by
  simp [World.setRow, Array.getElem?_modify, hg]
theorem setRow_ch (w : World) (g : Nat) (c : Array Value) : Ch (Only g) w (w.setRow g c) := by
  refine ⟨rfl, rfl, rfl, by simp [World.setRow], fun k _ hk => ?_⟩
  have : g ≠ k := fun e => hk e.symm
  simp [World.setRow, Array.getElem?_modify, this]
/-- a struct stored whole: what lies there then, and nothing else has turned -/
theorem st_row {ops : Array Oper} {rest : List Oper} {o : Oper} {a : Act} {w : World} {Q : Exit → Act → World → Prop} (hgd : o.guard = none) (ty : TypeId) (x y : Operand) (ho : o.op = .store ty x y)
    (g : Nat) (cells : Array Value) (hx : a.eval x = .pointer (some ⟨g, 0, none⟩)) (hy : a.eval y = .agg cells)
    (t : TypeId) (old : Array Value) (hg : w.heap[g]? = some (.cells old t (0, 0))) (hi : (Try.prog.info? ty).map (·.size) = some cells.size)
    (hold : old.size = cells.size) (h1 : cells.all (·.oneCell') = true)
    (h : ∀ w', w'.heap[g]? = some (.cells cells t (0, 0)) → Ch (Only g) w w' → wpList Try.prog ops Q rest (a.put o.dst undef) w') : wpList Try.prog ops Q (o :: rest) a w :=
  wpList_store_row hgd ty x y ho g cells hx hy t old hg hi hold h1 (h _ (setRow_blk hg) (setRow_ch w g cells))
end Go.Proofs.Ytnpbehcfbceclaa.Lt
