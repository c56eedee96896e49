/-
  Blocks behind an alloc and behind a call that changes none. No conditions.
-/
import Derived.Test.YtgkapopkjgljjaaGnList
namespace Go.Proofs.Ytgkapopkjgljjaa.Lt
open Go.RowKit Wd

theorem al_blk {w : World} {x : Nat} {o : Obj} (h : w.heap[x]? = some o) (o' : Obj) : (w.alloc o').heap[x]? = some o := (Below.heap_alloc _ _ _ (lt_of_block h)).trans h
theorem al_at {w : World} {x : Nat} (o : Obj) (h : x = w.heap.size) : (w.alloc o).heap[x]? = some o := by
  subst h
  exact (MapKept.heap_alloc w o).1
theorem gr_blk {w w' : World} {x : Nat} {o : Obj} (h : w.heap[x]? = some o) (g : Gr w w') : w'.heap[x]? = some o := (g.block _ (lt_of_block h) (noB _)).trans h
end Go.Proofs.Ytgkapopkjgljjaa.Lt
