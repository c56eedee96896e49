/-
  StepBegins, walked. Condition: the tables lie where they lie.
-/
import Derived.Test.YtcdlhfodeckleabDoorStBegin
namespace Go.Proofs.YtcdlhfodeckleabDoor.Lt
open Go.RowKit Wd

/-- a struct read whole where it is asked for -/
theorem ld_rowG {P : Program} {ops : Array Oper} {rest : List Oper} {o : Oper} {a : Act} {w : World} {Q : Exit → Act → World → Prop} (hgd : Region.wanted o (yielded ops a.tmps) = true) (ty : TypeId) (x : Operand) (ho : o.op = .load ty x)
    (g : Nat) (hx : a.eval x = .pointer (some ⟨g, 0, none⟩)) (t : TypeId) (cs : Array Value) (fr : Nat × Nat) (d : TypeDesc) (hg : w.heap[g]? = some (.cells cs t fr))
    (hu : P.underlying ty = some d) (hd : (match d with | .struct _ | .array _ _ => true | _ => false) = true) (hi : (P.info? ty).map (·.size) = some cs.size)
    (h : wpList P ops Q rest (a.put o.dst (.agg cs)) w) : wpList P ops Q (o :: rest) a w :=
  wpList_step fun K hK => by
    rw [if_pos hgd]
    exact wp_load_row ty x ho g hx t cs fr d hg hu hd hi (hK _ _ h)
/-- a program and registers in variables of their own -/
structure Sg (w : World) (X Y : Array Value) (W : World) : Prop where
  g : Gr w W
  p : W.heap[w.heap.size]? = some (.cells X 26 (0, 0))
  r : W.heap[w.heap.size + 1]? = some (.cells Y 27 (0, 0))
theorem Sg.gr {w : World} {X Y : Array Value} {W W' : World} (h : Sg w X Y W) (g : Gr W W') : Sg w X Y W' := ⟨Gr.trans h.g g, gr_blk h.p g, gr_blk h.r g⟩
theorem Sg.al {w : World} {X Y : Array Value} {W W' : World} {o : Obj} (h : Sg w X Y W) (k : Ch (Only W.heap.size) (W.alloc o) W') : Sg w X Y W' := by
  have l1 := lt_of_block h.p
  have l2 := lt_of_block h.r
  refine ⟨Ch.trans (Ch.alloc h.g o) k (fun q e => .inr (by have e1 : q = W.heap.size := e; omega)), (k.block _ (lt_of_block (al_blk h.p o)) (fun q => by have q1 : w.heap.size = W.heap.size := q; omega)).trans (al_blk h.p o), (k.block _ (lt_of_block (al_blk h.r o)) (fun q => by have q1 : w.heap.size + 1 = W.heap.size := q; omega)).trans (al_blk h.r o)⟩
theorem Sg.new (w : World) (X Y : Array Value) : Sg w X Y ((w.alloc (.cells X 26)).alloc (.cells Y 27)) := by
  refine ⟨Ch.alloc (Ch.alloc (Gr.refl w) _) _, al_blk (MapKept.heap_alloc w _).1 _, ?_⟩
  simpa using (MapKept.heap_alloc (w.alloc (.cells X 26)) (.cells Y 27)).1
end Go.Proofs.YtcdlhfodeckleabDoor.Lt
