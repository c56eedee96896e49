/-
  StepCosts, walked. Condition: the tables lie where they lie.
-/
import Derived.Test.YtcdlhfodeckleabDoorStLives
import Derived.Deep.RegionHeld3
namespace Go.Proofs.YtcdlhfodeckleabDoor.Lt
open Go.RowKit Wd

theorem takeS_on {P : Program} {md : Region.Mode} {ops : Array Oper} {Q : Exit → Act → World → Prop} {S : World → Prop} {i : Nat} (k : Nat) {oi : Oper} {v : Value} {fuel : Nat} {listed : Array Bool} {a : Act} {w : World} (hi : ops[i]? = some oi) (hd : oi.dst = some k)
    (hs : Region.noSelect ops = true) (hf : Region.free md ops listed i = true) (hr : (Region.ready md ops listed).contains i = true)
    (hQ : ∀ c a w, Q (.panic c) (a.put (some k) v) w → Q (.panic c) a w) (hw : Region.wanted oi (yielded ops a.tmps) = true) (hy : ∀ w', S w' → (execOp a.eval oi).run P w' = .ok (.value v) w') (hS : S w)
    (h : wpAnyH P md ops Q S fuel (listed.setIfInBounds i true) (a.put (some k) v) w) : wpAnyH P md ops Q S (fuel + 1) listed a w :=
  wpAnyH_take hi hs hf hr (by rw [hd]; exact hQ) (Or.inl ⟨hw, hy⟩) hS (by rw [hd]; exact h)
/-- a struct read whole -/
theorem exec_row {P : Program} {o : Oper} {a : Act} {w : World} (ty : TypeId) (x : Operand) (ho : o.op = .load ty x) (g : Nat) (hx : a.eval x = .pointer (some ⟨g, 0, none⟩)) (t : TypeId) (cs : Array Value) (fr : Nat × Nat) (d : TypeDesc) (hg : w.heap[g]? = some (.cells cs t fr))
    (hu : P.underlying ty = some d) (hd : (match d with | .struct _ | .array _ _ => true | _ => false) = true) (hi : (P.info? ty).map (·.size) = some cs.size) : (execOp a.eval o).run P w = .ok (.value (.agg cs)) w := by
  unfold execOp
  simp only [ho, hx, Instr.loadAt, Instr.sureAddr, Sem.run_bind, Sem.run_pure, Result.andThen_ok, run_loadVar_row w g t ty cs fr d hg hu hd hi]
theorem prog_size3 : (Tryd.prog.info? 26).map (·.size) = some 3 := by kernel_rfl
/-- a program and a context in variables of their own -/
structure Sc (w : World) (X Y : Array Value) (W : World) : Prop where
  g : Gr w W
  p : W.heap[w.heap.size]? = some (.cells X 26 (0, 0))
  c : W.heap[w.heap.size + 1]? = some (.cells Y 30 (0, 0))
theorem Sc.gr {w : World} {X Y : Array Value} {W W' : World} (h : Sc w X Y W) (g : Gr W W') : Sc w X Y W' := ⟨Gr.trans h.g g, gr_blk h.p g, gr_blk h.c g⟩
theorem Sc.new (w : World) (X Y : Array Value) : Sc w X Y ((w.alloc (.cells X 26)).alloc (.cells Y 30)).drew := by
  have h := (MapKept.heap_alloc (w.alloc (.cells X 26)) (.cells Y 30)).1
  have h' : ((w.alloc (.cells X 26)).alloc (.cells Y 30)).heap[w.heap.size + 1]? = some (.cells Y 30 (0, 0)) := by simpa using h
  exact ⟨Ch.drew (Ch.alloc (Ch.alloc (Gr.refl w) _) _), al_blk (MapKept.heap_alloc w _).1 _, h'⟩
end Go.Proofs.YtcdlhfodeckleabDoor.Lt
