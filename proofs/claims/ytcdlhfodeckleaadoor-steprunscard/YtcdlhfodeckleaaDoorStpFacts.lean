/-
  What Step does, once more: sixteen registers, few calls, a want. And the variables of a law that takes a step. No conditions.
-/
import Derived.Test.YtcdlhfodeckleaaDoorSwStp
import Derived.Test.YtcdlhfodeckleaaDoorStBegins
namespace Go.Proofs.YtcdlhfodeckleaaDoor.Lt
open Go.RowKit Wd

theorem ite_all {α : Type} {Φ : α → Prop} {c : Prop} [Decidable c] {x y : α} (hx : c → Φ x) (hy : ¬c → Φ y) : Φ (if c then x else y) := by
  by_cases h : c
  · rw [if_pos h]; exact hx h
  · rw [if_neg h]; exact hy h
def SpA (n : Nat) (s : Int × List Int × List Int × Array Value) : Prop := s.2.1.length = n
def SpB (s : Int × List Int × List Int × Array Value) : Prop := s.2.2.1.length ≤ 17592186044416
def SpC (s : Int × List Int × List Int × Array Value) : Prop := ∃ q0 q1 q2 q3 q4 q5 q6 q7 q8 q9 q10 : Int, s.2.2.2 = wt q0 q1 q2 q3 q4 q5 q6 q7 q8 q9 q10
theorem stp_len (cs : List Int) (fs : List (Int × Int)) (pc : Int) (r ks : List Int) (ck sl gn : Int) : (stp cs fs pc r ks ck sl gn).2.1.length = r.length := by
  show SpA _ (stp cs fs pc r ks ck sl gn)
  unfold stp
  dsimp only
  repeat' (refine ite_all (fun _ => ?_) (fun _ => ?_))
  all_goals (first | rfl | exact List.length_set)
theorem stp_ks (cs : List Int) (fs : List (Int × Int)) (pc : Int) (r ks : List Int) (ck sl gn : Int) (h : ks.length ≤ 17592186044416) : (stp cs fs pc r ks ck sl gn).2.2.1.length ≤ 17592186044416 := by
  show SpB (stp cs fs pc r ks ck sl gn)
  unfold stp
  dsimp only
  repeat' (refine ite_all (fun _ => ?_) (fun _ => ?_))
  all_goals (first | exact h | (simp only [SpB, List.length_append, List.length_take, List.length_cons, List.length_nil]; omega))
theorem stp_wt (cs : List Int) (fs : List (Int × Int)) (pc : Int) (r ks : List Int) (ck sl gn : Int) : ∃ q0 q1 q2 q3 q4 q5 q6 q7 q8 q9 q10 : Int, (stp cs fs pc r ks ck sl gn).2.2.2 = wt q0 q1 q2 q3 q4 q5 q6 q7 q8 q9 q10 := by
  show SpC (stp cs fs pc r ks ck sl gn)
  unfold stp
  dsimp only
  repeat' (refine ite_all (fun _ => ?_) (fun _ => ?_))
  all_goals exact ⟨_, _, _, _, _, _, _, _, _, _, _, rfl⟩
theorem env_size : (Tryd.prog.info? 44).map (·.size) = some 3 := by kernel_rfl
/-- a program, a context and surroundings in variables of their own -/
structure Sd (w : World) (X Y E : Array Value) (W : World) : Prop where
  g : Gr w W
  p : W.heap[w.heap.size]? = some (.cells X 26 (0, 0))
  c : W.heap[w.heap.size + 1]? = some (.cells Y 30 (0, 0))
  e : W.heap[w.heap.size + 2]? = some (.cells E 44 (0, 0))
theorem Sd.gr {w : World} {X Y E : Array Value} {W W' : World} (h : Sd w X Y E W) (g : Gr W W') : Sd w X Y E W' := ⟨Gr.trans h.g g, gr_blk h.p g, gr_blk h.c g, gr_blk h.e g⟩
theorem Sd.drew {w : World} {X Y E : Array Value} {W : World} (h : Sd w X Y E W) : Sd w X Y E W.drew := ⟨Ch.drew h.g, h.p, h.c, h.e⟩
theorem Sd.st {w : World} {X Y E : Array Value} {W W' : World} {A : Nat} (h : Sd w X Y E W) (k : Ch (Only A) W W') (hA : w.heap.size + 2 < A) : Sd w X Y E W' :=
  ⟨Ch.trans h.g k (fun q e => .inr (by have e1 : q = A := e; omega)), (k.block _ (lt_of_block h.p) (fun q => by have q1 : w.heap.size = A := q; omega)).trans h.p, (k.block _ (lt_of_block h.c) (fun q => by have q1 : w.heap.size + 1 = A := q; omega)).trans h.c, (k.block _ (lt_of_block h.e) (fun q => by have q1 : w.heap.size + 2 = A := q; omega)).trans h.e⟩
theorem Sd.new (w : World) (X Y E : Array Value) : Sd w X Y E (((w.alloc (.cells X 26)).alloc (.cells Y 30)).alloc (.cells E 44)) := by
  refine ⟨Ch.alloc (Ch.alloc (Ch.alloc (Gr.refl w) _) _) _, al_blk (al_blk (MapKept.heap_alloc w _).1 _) _, al_blk ?_ _, ?_⟩
  · simpa using (MapKept.heap_alloc (w.alloc (.cells X 26)) (.cells Y 30)).1
  · simpa using (MapKept.heap_alloc ((w.alloc (.cells X 26)).alloc (.cells Y 30)) (.cells E 44)).1
/-- and what a step told -/
structure Sx (w : World) (X Y E : Array Value) (A : Nat) (D : Array Value) (B : Nat) (T : Array Value) (v : Value) (ks : List Int) (W : World) : Prop where
  g : Gr w W
  p : W.heap[w.heap.size]? = some (.cells X 26 (0, 0))
  c : W.heap[w.heap.size + 1]? = some (.cells Y 30 (0, 0))
  e : W.heap[w.heap.size + 2]? = some (.cells E 44 (0, 0))
  d : W.heap[A]? = some (.cells D 30 (0, 0))
  t : W.heap[B]? = some (.cells T 49 (0, 0))
  l : ∃ b, Ow eI 1 3 b W v ks
theorem Sx.gr {w : World} {X Y E D T : Array Value} {A B : Nat} {v : Value} {ks : List Int} {W W' : World} (h : Sx w X Y E A D B T v ks W) (g : Gr W W') : Sx w X Y E A D B T v ks W' := ⟨Gr.trans h.g g, gr_blk h.p g, gr_blk h.c g, gr_blk h.e g, gr_blk h.d g, gr_blk h.t g, ⟨_, h.l.choose_spec.gr g⟩⟩
end Go.Proofs.YtcdlhfodeckleaaDoor.Lt
