/-
  The number of a register that there is. No conditions.
-/
import Derived.Test.YtcdlhfodeckleaaDoorStCosts
namespace Go.Proofs.YtcdlhfodeckleaaDoor.Lt
open Go.RowKit Wd

theorem and15_i64 (x : Int) : bits .and .i64 x 15 = x % 16 := by
  have e : (15 : Int) = ((15 : Nat) : Int) := rfl
  rw [e]
  show IntKind.i64.wrap (((BitVec.ofInt 64 x &&& BitVec.ofInt 64 ((15 : Nat) : Int)).toNat : Nat) : Int) = _
  rw [ofInt_nat, BitVec.toNat_and, BitVec.toNat_ofInt, BitVec.toNat_ofNat, show (15 % 2 ^ 64) = 2 ^ 4 - 1 from rfl, Nat.and_two_pow_sub_one_eq_mod, IntKind.wrap_i64]
  have e2 : ((2 ^ 64 : Nat) : Int) = 18446744073709551616 := rfl
  rw [e2]
  omega
theorem register_any (x : Int) (w : World) : Calls Tryd.prog 42 #[.int .i64 x] w fun e w' => e = .returned (.int .i64 (x % 16)) ∧ w' = w := by
  go_enter Tryd.func42, Tryd.ntmps42
  go_wp2
  go_ret
  exact ⟨congrArg (fun y => Ending.returned (.int .i64 y)) (and15_i64 x), rfl⟩
/-- which register a number names -/
def rg (x : Int) : Nat := (x % 16).toNat
theorem rg_lt (x : Int) : rg x < 16 := by unfold rg; omega
theorem rg_is (x : Int) : x % 16 = ((rg x : Nat) : Int) := by unfold rg; omega
/-- operations that are answered in one register, in two -/
abbrev C1 (o : Int) : Prop := o = 22 ∨ o = 28 ∨ o = 32 ∨ o = 33 ∨ o = 34 ∨ o = 47 ∨ o = 49 ∨ o = 50 ∨ o = 55 ∨ o = 56 ∨ o = 57
abbrev C2 (o : Int) : Prop := o = 30 ∨ o = 51 ∨ o = 54
/-- the registers behind an answer -/
def ans (o a b c v k : Int) (r : List Int) : List Int := if C1 o then r.set (rg a) v else if C2 o then (r.set (rg a) v).set (rg b) k else if o = 53 then r.set (rg c) v else r
theorem ans_len (o a b c v k : Int) (r : List Int) : (ans o a b c v k r).length = r.length := by unfold ans; split <;> (try split) <;> (try split) <;> simp
/-- the three variables of Answer -/
structure Va (w : World) (C I T : Array Value) (W : World) : Prop where
  c : W.heap[w.heap.size]? = some (.cells C 30 (0, 0))
  i : W.heap[w.heap.size + 1]? = some (.cells I 46 (0, 0))
  t : W.heap[w.heap.size + 2]? = some (.cells T 30 (0, 0))
  g : Gr w W
theorem Va.gr {w W W' : World} {C I T : Array Value} (h : Va w C I T W) (g : Gr W W') : Va w C I T W' := ⟨gr_blk h.c g, gr_blk h.i g, gr_blk h.t g, Gr.trans h.g g⟩
theorem Va.only {w W W' : World} {C C' I T : Array Value} (h : Va w C I T W) (k : Ch (Only w.heap.size) W W') (hc : W'.heap[w.heap.size]? = some (.cells C' 30 (0, 0))) : Va w C' I T W' :=
  ⟨hc, (k.block _ (lt_of_block h.i) (fun q => by have q1 : w.heap.size + 1 = w.heap.size := q; omega)).trans h.i, (k.block _ (lt_of_block h.t) (fun q => by have q1 : w.heap.size + 2 = w.heap.size := q; omega)).trans h.t, Ch.trans h.g k (fun q e => .inr (by have e1 : q = w.heap.size := e; omega))⟩
theorem Va.new (w : World) (C I T : Array Value) : Va w C I T (((w.alloc (.cells C 30)).alloc (.cells I 46)).alloc (.cells T 30)) := by
  refine ⟨al_blk (al_blk (MapKept.heap_alloc w _).1 _) _, ?_, ?_, Ch.alloc (Ch.alloc (Ch.alloc (Gr.refl w) _) _) _⟩
  · simpa using al_blk (MapKept.heap_alloc (w.alloc (.cells C 30)) (.cells I 46)).1 (.cells T 30)
  · simpa using (MapKept.heap_alloc ((w.alloc (.cells C 30)).alloc (.cells I 46)) (.cells T 30)).1
end Go.Proofs.YtcdlhfodeckleaaDoor.Lt
