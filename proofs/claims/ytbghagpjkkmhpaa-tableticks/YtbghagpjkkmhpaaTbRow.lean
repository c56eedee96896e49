/-
  A struct stored whole; results that lie in a cell. No conditions.
-/
import Derived.Test.YtbghagpjkkmhpaaTbBase
import Derived.Test.YtbghagpjkkmhpaaGnHeld
namespace Go.Proofs.Ytbghagpjkkmhpaa.Lt
open Go.RowKit Wd

theorem setRow_blk {w : World} {g : Nat} {t : TypeId} {old c : Array Value} (hg : w.heap[g]? = some (.cells old t (0, 0))) : (w.setRow g c).heap[g]? = some (.cells c t (0, 0)) := by
  simp [World.setRow, Array.getElem?_modify, hg]
theorem setRow_ch (w : World) (g : Nat) (c : Array Value) : Ch (Only g) w (w.setRow g c) := by
  refine ⟨rfl, rfl, rfl, by simp [World.setRow], fun k _ hk => ?_⟩
  have : g ≠ k := fun e => hk e.symm
  simp [World.setRow, Array.getElem?_modify, this]
/-- a struct stored whole: what lies there then, and nothing else has turned -/
theorem st_row {ops : Array Oper} {rest : List Oper} {o : Oper} {a : Act} {w : World} {Q : Exit → Act → World → Prop} (hgd : o.guard = none) (ty : TypeId) (x y : Operand) (ho : o.op = .store ty x y)
    (g : Nat) (cells : Array Value) (hx : a.eval x = .pointer (some ⟨g, 0, none⟩)) (hy : a.eval y = .agg cells)
    (t : TypeId) (old : Array Value) (hg : w.heap[g]? = some (.cells old t (0, 0))) (hi : (Try.prog.info? ty).map (·.size) = some cells.size)
    (hold : old.size = cells.size) (h1 : cells.all (·.oneCell') = true)
    (h : ∀ w', w'.heap[g]? = some (.cells cells t (0, 0)) → Ch (Only g) w w' → wpList Try.prog ops Q rest (a.put o.dst undef) w') : wpList Try.prog ops Q (o :: rest) a w :=
  wpList_store_row hgd ty x y ho g cells hx hy t old hg hi hold h1 (h _ (setRow_blk hg) (setRow_ch w g cells))
theorem results_cell_tmp1 {fn : Func} {p t : Tmp} {ty : TypeId} (h : fn.results = #[.cell p ty, .tmp t]) (tmps : Array Value) (w : World) (g : Nat) (cs : Array Value)
    (hp : tmps.getD p undef = .pointer (some ⟨g, 0, none⟩)) (hl : (loadVar ty ⟨g, 0, none⟩).run Try.prog w = .ok (.agg cs) w) :
    (results fn tmps).run Try.prog w = .ok (.tuple #[.agg cs, tmps.getD t undef]) w := by
  have hp' : tmps[p]?.getD undef = .pointer (some ⟨g, 0, none⟩) := by simpa using hp
  simp [results, h, hp', asAddr, hl]
theorem results_cell_tmp2 {fn : Func} {p t s : Tmp} {ty : TypeId} (h : fn.results = #[.cell p ty, .tmp t, .tmp s]) (tmps : Array Value) (w : World) (g : Nat) (cs : Array Value)
    (hp : tmps.getD p undef = .pointer (some ⟨g, 0, none⟩)) (hl : (loadVar ty ⟨g, 0, none⟩).run Try.prog w = .ok (.agg cs) w) :
    (results fn tmps).run Try.prog w = .ok (.tuple #[.agg cs, tmps.getD t undef, tmps.getD s undef]) w := by
  have hp' : tmps[p]?.getD undef = .pointer (some ⟨g, 0, none⟩) := by simpa using hp
  simp [results, h, hp', asAddr, hl]
theorem slot_size : (Try.prog.info? 54).map (·.size) = some 4 := by kernel_rfl
/-- a world that has turned a block of its own alone -/
theorem gr_own {w w1 w2 : World} {g : Nat} (h : Gr w w1) (k : Ch (Only g) w1 w2) (hg : w.heap.size ≤ g) : Gr w w2 :=
  Ch.trans h k (fun q e => .inr (by have e1 : q = g := e; omega))
/-- a slot, where there is one -/
def slotC (o : Option Sl) : Array Value := o.elim #[.int .i64 0, .int .u64 0, .int .u64 0, .int .u64 0] fun x => #[.int .i64 x.d, .int .u64 x.s, .int .u64 x.l, .int .u64 x.p]
def atV (o : Option Sl) (e : Int) : Ending := .returned (.tuple #[.agg (slotC o), .bool o.isSome, .int .i64 e])
def slotE (o : Option Sl) : Ending := .returned (.tuple #[.agg (slotC o), .bool o.isSome])
end Go.Proofs.Ytbghagpjkkmhpaa.Lt
