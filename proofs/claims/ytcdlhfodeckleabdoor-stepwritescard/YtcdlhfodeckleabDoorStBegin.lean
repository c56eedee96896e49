/-
  What Begin answers, the program's and the document's. No conditions.
-/
import Derived.Test.YtcdlhfodeckleabDoorStCosts
import Derived.Test.YtcdlhfodeckleabDoorStSame
namespace Go.Proofs.YtcdlhfodeckleabDoor.Lt
open Go.RowKit Wd

/-- registers that are handed in -/
def rA (r : List Int) : Array Value := (r.map (Value.int .i64)).toArray
theorem rA_is (r0 r1 r2 r3 r4 r5 r6 r7 r8 r9 r10 r11 r12 r13 r14 r15 : Int) : rA [r0, r1, r2, r3, r4, r5, r6, r7, r8, r9, r10, r11, r12, r13, r14, r15] = #[.int .i64 r0, .int .i64 r1, .int .i64 r2, .int .i64 r3, .int .i64 r4, .int .i64 r5, .int .i64 r6, .int .i64 r7, .int .i64 r8, .int .i64 r9, .int .i64 r10, .int .i64 r11, .int .i64 r12, .int .i64 r13, .int .i64 r14, .int .i64 r15] := rfl
theorem arr_size : (Tryd.prog.info? 27).map (·.size) = some 16 := by kernel_rfl
/-- a program, registers and a context in variables of their own; where a function begins -/
structure Sb (w : World) (X Y : Array Value) (a : Addr) (b : Int) (W : World) : Prop where
  g : Gr w W
  p : W.heap[w.heap.size]? = some (.cells X 26 (0, 0))
  r : W.heap[w.heap.size + 1]? = some (.cells Y 27 (0, 0))
  t : ∃ old, W.heap[w.heap.size + 2]? = some (.cells old 30 (0, 0)) ∧ old.size = 18
  l : a.block < w.heap.size ∧ a.spot = none
  f : W.cell? a = some (.int .i64 b)
theorem Sb.gr {w : World} {X Y : Array Value} {a : Addr} {b : Int} {W W' : World} (h : Sb w X Y a b W) (g : Gr W W') : Sb w X Y a b W' := by
  obtain ⟨old, h1, h2⟩ := h.t
  obtain ⟨l1, l2⟩ := h.l
  obtain ⟨ab, ao, sp⟩ := a
  subst l2
  exact ⟨Gr.trans h.g g, gr_blk h.p g, gr_blk h.r g, ⟨old, gr_blk h1 g, h2⟩, h.l, (g.cell (by have := h.g.size; simp only at l1; omega)).trans h.f⟩
theorem Sb.drew {w : World} {X Y : Array Value} {a : Addr} {b : Int} {W : World} (h : Sb w X Y a b W) : Sb w X Y a b W.drew := ⟨Ch.drew h.g, h.p, h.r, h.t, h.l, h.f⟩
theorem Sb.st {w : World} {X Y : Array Value} {a : Addr} {b : Int} {W W' : World} {c : Array Value} (h : Sb w X Y a b W) (k : Ch (Only (w.heap.size + 2)) W W') (hc : W'.heap[w.heap.size + 2]? = some (.cells c 30 (0, 0))) (hs : c.size = 18) : Sb w X Y a b W' := by
  obtain ⟨l1, l2⟩ := h.l
  obtain ⟨ab, ao, sp⟩ := a
  subst l2
  refine ⟨Ch.trans h.g k (fun q e => .inr (by have e1 : q = w.heap.size + 2 := e; omega)), (k.block _ (lt_of_block h.p) (fun q => by have q1 : w.heap.size = w.heap.size + 2 := q; omega)).trans h.p, (k.block _ (lt_of_block h.r) (fun q => by have q1 : w.heap.size + 1 = w.heap.size + 2 := q; omega)).trans h.r, ⟨c, hc, hs⟩, h.l, (k.cell (by have := h.g.size; simp only at l1; omega) (fun q => by have q1 : ab = w.heap.size + 2 := q; simp only at l1; omega)).trans h.f⟩
theorem Sb.new (w : World) (X Y Zc : Array Value) (hz : Zc.size = 18) (g o : Nat) (b : Int) (hg : g < w.heap.size) (hc : w.cell? ⟨g, o, none⟩ = some (.int .i64 b)) : Sb w X Y ⟨g, o, none⟩ b (((w.alloc (.cells X 26)).alloc (.cells Y 27)).alloc (.cells Zc 30)) := by
  have k : Gr w (((w.alloc (.cells X 26)).alloc (.cells Y 27)).alloc (.cells Zc 30)) := Ch.alloc (Ch.alloc (Ch.alloc (Gr.refl w) _) _) _
  refine ⟨k, al_blk (al_blk (MapKept.heap_alloc w _).1 _) _, ?_, ⟨Zc, ?_, hz⟩, ⟨hg, rfl⟩, (k.cell hg).trans hc⟩
  · simpa using al_blk (MapKept.heap_alloc (w.alloc (.cells X 26)) (.cells Y 27)).1 (.cells Zc 30)
  · simpa using (MapKept.heap_alloc ((w.alloc (.cells X 26)).alloc (.cells Y 27)) (.cells Zc 30)).1
theorem hasf_any (w : World) (aoc aof aot : Option Addr) (nc nf nt cac caf cat : Nat) (f : Int) : Calls Tryd.prog 38 #[.agg #[.slice aoc nc cac, .slice aof nf caf, .slice aot nt cat], .int .i64 f] w fun e w' => e = .returned (.bool (decide (0 ≤ f) && decide (f < (nf : Int)))) ∧ Gr w w' := by
  have K1 := hid (Gr.alloc (Gr.refl w) #[.slice aoc nc cac, .slice aof nf caf, .slice aot nt cat] 26)
  by_cases h0 : 0 ≤ f
  · have d0 : decide (0 ≤ f) = true := decide_eq_true h0
    rw [d0]
    go_enter Tryd.func38, Tryd.ntmps38
    go_wp2
    go_ret
    exact ⟨by simp, K1.out⟩
  · have d0 : decide (0 ≤ f) = false := decide_eq_false h0
    rw [d0]
    go_enter Tryd.func38, Tryd.ntmps38
    go_wp2
    go_ret
    exact ⟨by simp, K1.out⟩
end Go.Proofs.YtcdlhfodeckleabDoor.Lt
