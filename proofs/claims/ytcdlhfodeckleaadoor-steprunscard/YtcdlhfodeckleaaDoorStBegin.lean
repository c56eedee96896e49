/-
  What Begin answers, the program's and the document's. No conditions.
-/
import Derived.Test.YtcdlhfodeckleaaDoorStCosts
import Derived.Test.YtcdlhfodeckleaaDoorStSame
namespace Go.Proofs.YtcdlhfodeckleaaDoor.Lt
open Go.RowKit Wd

/-- registers that are handed in -/
def rA (r : List Int) : Array Value := (r.map (Value.int .i64)).toArray
theorem rA_is (r0 r1 r2 r3 r4 r5 r6 r7 r8 r9 r10 r11 r12 r13 r14 r15 : Int) : rA [r0, r1, r2, r3, r4, r5, r6, r7, r8, r9, r10, r11, r12, r13, r14, r15] = #[.int .i64 r0, .int .i64 r1, .int .i64 r2, .int .i64 r3, .int .i64 r4, .int .i64 r5, .int .i64 r6, .int .i64 r7, .int .i64 r8, .int .i64 r9, .int .i64 r10, .int .i64 r11, .int .i64 r12, .int .i64 r13, .int .i64 r14, .int .i64 r15] := rfl
theorem arr_size : (Tryd.prog.info? 27).map (·.size) = some 16 := by kernel_rfl
/-- a program, registers and a context in variables of their own; where a function begins -/
structure Sb (w : World) (X Y : Array Value) (a : Addr) (b : Int) (W : World) : Prop where
  g : Gr w W
  p : W.heap[w.heap.size]? = some (.cells X 26 (0, 0))
  r : W.heap[w.heap.size + 1]? = some (.cells Y 27 (0, 0))
  t : ∃ old, W.heap[w.heap.size + 2]? = some (.cells old 30 (0, 0)) ∧ old.size = 18
  l : a.block < w.heap.size ∧ a.spot = none
  f : W.cell? a = some (.int .i64 b)
theorem Sb.gr {w : World} {X Y : Array Value} {a : Addr} {b : Int} {W W' : World} (h : Sb w X Y a b W) (g : Gr W W') : Sb w X Y a b W' := by
  obtain ⟨old, h1, h2⟩ := h.t
  obtain ⟨l1, l2⟩ := h.l
  obtain ⟨ab, ao, sp⟩ := a
  subst l2
  exact ⟨Gr.trans h.g g, gr_blk h.p g, gr_blk h.r g, ⟨old, gr_blk h1 g, h2⟩, h.l, (g.cell (by have := h.g.size; simp only at l1; omega)).trans h.f⟩
theorem Sb.drew {w : World} {X Y : Array Value} {a : Addr} {b : Int} {W : World} (h : Sb w X Y a b W) : Sb w X Y a b W.drew := ⟨Ch.drew h.g, h.p, h.r, h.t, h.l, h.f⟩
theorem Sb.st {w : World} {X Y : Array Value} {a : Addr} {b : Int} {W W' : World} {c : Array Value} (h : Sb w X Y a b W) (k : Ch (Only (w.heap.size + 2)) W W') (hc : W'.heap[w.heap.size + 2]? = some (.cells c 30 (0, 0))) (hs : c.size = 18) : Sb w X Y a b W' := by
  obtain ⟨l1, l2⟩ := h.l
  obtain ⟨ab, ao, sp⟩ := a
  subst l2
  refine ⟨Ch.trans h.g k (fun q e => .inr (by have e1 : q = w.heap.size + 2 := e; omega)), (k.block _ (lt_of_block h.p) (fun q => by have q1 : w.heap.size = w.heap.size + 2 := q; omega)).trans h.p, (k.block _ (lt_of_block h.r) (fun q => by have q1 : w.heap.size + 1 = w.heap.size + 2 := q; omega)).trans h.r, ⟨c, hc, hs⟩, h.l, (k.cell (by have := h.g.size; simp only at l1; omega) (fun q => by have q1 : ab = w.heap.size + 2 := q; simp only at l1; omega)).trans h.f⟩
theorem Sb.new (w : World) (X Y Zc : Array Value) (hz : Zc.size = 18) (g o : Nat) (b : Int) (hg : g < w.heap.size) (hc : w.cell? ⟨g, o, none⟩ = some (.int .i64 b)) : Sb w X Y ⟨g, o, none⟩ b (((w.alloc (.cells X 26)).alloc (.cells Y 27)).alloc (.cells Zc 30)) := by
  have k : Gr w (((w.alloc (.cells X 26)).alloc (.cells Y 27)).alloc (.cells Zc 30)) := Ch.alloc (Ch.alloc (Ch.alloc (Gr.refl w) _) _) _
  refine ⟨k, al_blk (al_blk (MapKept.heap_alloc w _).1 _) _, ?_, ⟨Zc, ?_, hz⟩, ⟨hg, rfl⟩, (k.cell hg).trans hc⟩
  · simpa using al_blk (MapKept.heap_alloc (w.alloc (.cells X 26)) (.cells Y 27)).1 (.cells Zc 30)
  · simpa using (MapKept.heap_alloc ((w.alloc (.cells X 26)).alloc (.cells Y 27)) (.cells Zc 30)).1
theorem hasf_any (w : World) (aoc aof aot : Option Addr) (nc nf nt cac caf cat : Nat) (f : Int) : Calls Tryd.prog 21 #[.agg #[.slice aoc nc cac, .slice aof nf caf, .slice aot nt cat], .int .i64 f] w fun e w' => e = .returned (.bool (decide (0 ≤ f) && decide (f < (nf : Int)))) ∧ Gr w w' := by
  have K1 := hid (Gr.alloc (Gr.refl w) #[.slice aoc nc cac, .slice aof nf caf, .slice aot nt cat] 26)
  by_cases h0 : 0 ≤ f
  · have d0 : decide (0 ≤ f) = true := decide_eq_true h0
    rw [d0]
    go_enter Tryd.func21, Tryd.ntmps21
    go_wp2
    go_ret
    exact ⟨by simp, K1.out⟩
  · have d0 : decide (0 ≤ f) = false := decide_eq_false h0
    rw [d0]
    go_enter Tryd.func21, Tryd.ntmps21
    go_wp2
    go_ret
    exact ⟨by simp, K1.out⟩
set_option maxHeartbeats 4000000 in
set_option maxRecDepth 20000 in
theorem pbegin_no (w : World) (aoc aof aot : Option Addr) (nc nf nt cac caf cat : Nat) (f : Int) (hf : ¬ (0 ≤ f ∧ f < (nf : Int))) (r : List Int) (hr : r.length = 16) :
    Calls Tryd.prog 9 #[.agg #[.slice aoc nc cac, .slice aof nf caf, .slice aot nt cat], .int .i64 f, .agg (rA r)] w fun e w' => e = .returned (.tuple #[.agg (cC 0 [0, 0, 0, 0, 0, 0, 0, 0, 0, 0, 0, 0, 0, 0, 0, 0] (.slice none 0 0)), .int .i64 1]) ∧ Gr w w' := by
  obtain ⟨r0, r1, r2, r3, r4, r5, r6, r7, r8, r9, r10, r11, r12, r13, r14, r15, rfl⟩ := regs16 hr
  rw [rA_is, cC_is]
  have K0 := hid (show Gr w (((w.alloc (.cells #[.slice aoc nc cac, .slice aof nf caf, .slice aot nt cat] 26)).alloc (.cells #[.int .i64 r0, .int .i64 r1, .int .i64 r2, .int .i64 r3, .int .i64 r4, .int .i64 r5, .int .i64 r6, .int .i64 r7, .int .i64 r8, .int .i64 r9, .int .i64 r10, .int .i64 r11, .int .i64 r12, .int .i64 r13, .int .i64 r14, .int .i64 r15] 27)).alloc (.cells #[.int .i64 0, .int .i64 0, .int .i64 0, .int .i64 0, .int .i64 0, .int .i64 0, .int .i64 0, .int .i64 0, .int .i64 0, .int .i64 0, .int .i64 0, .int .i64 0, .int .i64 0, .int .i64 0, .int .i64 0, .int .i64 0, .int .i64 0, .slice none 0 0] 30)) from Ch.alloc (Ch.alloc (Ch.alloc (Gr.refl w) _) _) _)
  have B0 := hid (show (((w.alloc (.cells #[.slice aoc nc cac, .slice aof nf caf, .slice aot nt cat] 26)).alloc (.cells #[.int .i64 r0, .int .i64 r1, .int .i64 r2, .int .i64 r3, .int .i64 r4, .int .i64 r5, .int .i64 r6, .int .i64 r7, .int .i64 r8, .int .i64 r9, .int .i64 r10, .int .i64 r11, .int .i64 r12, .int .i64 r13, .int .i64 r14, .int .i64 r15] 27)).alloc (.cells #[.int .i64 0, .int .i64 0, .int .i64 0, .int .i64 0, .int .i64 0, .int .i64 0, .int .i64 0, .int .i64 0, .int .i64 0, .int .i64 0, .int .i64 0, .int .i64 0, .int .i64 0, .int .i64 0, .int .i64 0, .int .i64 0, .int .i64 0, .slice none 0 0] 30)).heap[w.heap.size + 2]? = some (.cells #[.int .i64 0, .int .i64 0, .int .i64 0, .int .i64 0, .int .i64 0, .int .i64 0, .int .i64 0, .int .i64 0, .int .i64 0, .int .i64 0, .int .i64 0, .int .i64 0, .int .i64 0, .int .i64 0, .int .i64 0, .int .i64 0, .int .i64 0, .slice none 0 0] 30 (0, 0)) from by simpa using (MapKept.heap_alloc ((w.alloc (.cells #[.slice aoc nc cac, .slice aof nf caf, .slice aot nt cat] 26)).alloc (.cells #[.int .i64 r0, .int .i64 r1, .int .i64 r2, .int .i64 r3, .int .i64 r4, .int .i64 r5, .int .i64 r6, .int .i64 r7, .int .i64 r8, .int .i64 r9, .int .i64 r10, .int .i64 r11, .int .i64 r12, .int .i64 r13, .int .i64 r14, .int .i64 r15] 27)) (.cells #[.int .i64 0, .int .i64 0, .int .i64 0, .int .i64 0, .int .i64 0, .int .i64 0, .int .i64 0, .int .i64 0, .int .i64 0, .int .i64 0, .int .i64 0, .int .i64 0, .int .i64 0, .int .i64 0, .int .i64 0, .int .i64 0, .int .i64 0, .slice none 0 0] 30)).1)
  have HF := hid (fun (W : World) => hasf_any W aoc aof aot nc nf nt cac caf cat f)
  have hq : (decide (0 ≤ f) && decide (f < (nf : Int))) = false := by rw [Bool.and_eq_false_iff]; by_cases q : 0 ≤ f <;> simp_all
  rw [hq] at HF
  clear hf hq hr
  go_enter Tryd.func9, Tryd.ntmps9
  go_wp2_with (first | (go_at_call 21; refine (HF.out _).mono ?_; rintro e w1 ⟨rfl, g1⟩; have B1 := hid (gr_blk B0.out g1); have K1 := hid (Gr.trans K0.out g1); clear g1) | (refine st_row rfl 30 (.tmp 6) (.tmp 12) rfl (w.heap.size + 2) _ rfl rfl _ _ B1.out ctx_size rfl (one18 _ _ _ _ _ _ _ _ _ _ _ _ _ _ _ _ _ _ _ _) ?_; intro w5 b5 k5; have B5 := hid b5; have K5 := hid k5; clear b5 k5))
  refine bodyPost_ret (results_cell_tmp2 rfl _ _ (w.heap.size + 2) _ rfl (run_loadVar_row _ _ _ _ _ _ _ B5.out Tryd.underlying30 rfl ctx_size)) rfl ?_
  exact ⟨rfl, Ch.trans K1.out K5.out (fun q e => .inr (by have e1 : q = w.heap.size + 2 := e; omega))⟩
set_option maxHeartbeats 4000000 in
set_option maxRecDepth 20000 in
theorem rbegin_no (w : World) (aoc aof aot : Option Addr) (nc nf nt cac caf cat : Nat) (f : Int) (hf : ¬ (0 ≤ f ∧ f < (nf : Int))) (r : List Int) (hr : r.length = 16) :
    Calls Tryd.prog 10 #[.agg #[.slice aoc nc cac, .slice aof nf caf, .slice aot nt cat], .int .i64 f, .agg (rA r)] w fun e w' => e = .returned (.tuple #[.agg (cC 0 [0, 0, 0, 0, 0, 0, 0, 0, 0, 0, 0, 0, 0, 0, 0, 0] (.slice none 0 0)), .int .i64 1]) ∧ Gr w w' := by
  obtain ⟨r0, r1, r2, r3, r4, r5, r6, r7, r8, r9, r10, r11, r12, r13, r14, r15, rfl⟩ := regs16 hr
  rw [rA_is, cC_is]
  have K0 := hid (show Gr w (((w.alloc (.cells #[.slice aoc nc cac, .slice aof nf caf, .slice aot nt cat] 26)).alloc (.cells #[.int .i64 r0, .int .i64 r1, .int .i64 r2, .int .i64 r3, .int .i64 r4, .int .i64 r5, .int .i64 r6, .int .i64 r7, .int .i64 r8, .int .i64 r9, .int .i64 r10, .int .i64 r11, .int .i64 r12, .int .i64 r13, .int .i64 r14, .int .i64 r15] 27)).alloc (.cells #[.int .i64 0, .int .i64 0, .int .i64 0, .int .i64 0, .int .i64 0, .int .i64 0, .int .i64 0, .int .i64 0, .int .i64 0, .int .i64 0, .int .i64 0, .int .i64 0, .int .i64 0, .int .i64 0, .int .i64 0, .int .i64 0, .int .i64 0, .slice none 0 0] 30)) from Ch.alloc (Ch.alloc (Ch.alloc (Gr.refl w) _) _) _)
  have B0 := hid (show (((w.alloc (.cells #[.slice aoc nc cac, .slice aof nf caf, .slice aot nt cat] 26)).alloc (.cells #[.int .i64 r0, .int .i64 r1, .int .i64 r2, .int .i64 r3, .int .i64 r4, .int .i64 r5, .int .i64 r6, .int .i64 r7, .int .i64 r8, .int .i64 r9, .int .i64 r10, .int .i64 r11, .int .i64 r12, .int .i64 r13, .int .i64 r14, .int .i64 r15] 27)).alloc (.cells #[.int .i64 0, .int .i64 0, .int .i64 0, .int .i64 0, .int .i64 0, .int .i64 0, .int .i64 0, .int .i64 0, .int .i64 0, .int .i64 0, .int .i64 0, .int .i64 0, .int .i64 0, .int .i64 0, .int .i64 0, .int .i64 0, .int .i64 0, .slice none 0 0] 30)).heap[w.heap.size + 2]? = some (.cells #[.int .i64 0, .int .i64 0, .int .i64 0, .int .i64 0, .int .i64 0, .int .i64 0, .int .i64 0, .int .i64 0, .int .i64 0, .int .i64 0, .int .i64 0, .int .i64 0, .int .i64 0, .int .i64 0, .int .i64 0, .int .i64 0, .int .i64 0, .slice none 0 0] 30 (0, 0)) from by simpa using (MapKept.heap_alloc ((w.alloc (.cells #[.slice aoc nc cac, .slice aof nf caf, .slice aot nt cat] 26)).alloc (.cells #[.int .i64 r0, .int .i64 r1, .int .i64 r2, .int .i64 r3, .int .i64 r4, .int .i64 r5, .int .i64 r6, .int .i64 r7, .int .i64 r8, .int .i64 r9, .int .i64 r10, .int .i64 r11, .int .i64 r12, .int .i64 r13, .int .i64 r14, .int .i64 r15] 27)) (.cells #[.int .i64 0, .int .i64 0, .int .i64 0, .int .i64 0, .int .i64 0, .int .i64 0, .int .i64 0, .int .i64 0, .int .i64 0, .int .i64 0, .int .i64 0, .int .i64 0, .int .i64 0, .int .i64 0, .int .i64 0, .int .i64 0, .int .i64 0, .slice none 0 0] 30)).1)
  by_cases h0 : f < 0
  · have q1 : decide (f < 0) = true := decide_eq_true h0
    clear hf hr
    go_enter Tryd.func10, Tryd.ntmps10
    go_wp2_with (first | (refine st_row rfl 30 (.tmp 6) (.tmp 17) rfl (w.heap.size + 2) _ rfl rfl _ _ B0.out ctx_size rfl (one18 _ _ _ _ _ _ _ _ _ _ _ _ _ _ _ _ _ _ _ _) ?_; intro w5 b5 k5; have B5 := hid b5; have K5 := hid k5; clear b5 k5))
    refine bodyPost_ret (results_cell_tmp2 rfl _ _ (w.heap.size + 2) _ rfl (run_loadVar_row _ _ _ _ _ _ _ B5.out Tryd.underlying30 rfl ctx_size)) rfl ?_
    exact ⟨rfl, Ch.trans K0.out K5.out (fun q e => .inr (by have e1 : q = w.heap.size + 2 := e; omega))⟩
  · have q1 : decide (f < 0) = false := decide_eq_false h0
    have q2 : decide ((nf : Int) ≤ f) = true := decide_eq_true (by omega)
    clear hf hr h0
    go_enter Tryd.func10, Tryd.ntmps10
    go_wp2_with (first | (refine st_row rfl 30 (.tmp 6) (.tmp 17) rfl (w.heap.size + 2) _ rfl rfl _ _ B0.out ctx_size rfl (one18 _ _ _ _ _ _ _ _ _ _ _ _ _ _ _ _ _ _ _ _) ?_; intro w5 b5 k5; have B5 := hid b5; have K5 := hid k5; clear b5 k5))
    refine bodyPost_ret (results_cell_tmp2 rfl _ _ (w.heap.size + 2) _ rfl (run_loadVar_row _ _ _ _ _ _ _ B5.out Tryd.underlying30 rfl ctx_size)) rfl ?_
    exact ⟨rfl, Ch.trans K0.out K5.out (fun q e => .inr (by have e1 : q = w.heap.size + 2 := e; omega))⟩
set_option maxHeartbeats 4000000 in
set_option maxRecDepth 20000 in
theorem pbegin_yes (P : Nat → Prop) (w : World) (aoc aof aot : Option Addr) (nc nf nt cac caf cat : Nat) (fs : List (Int × Int)) (h : Ls eG P w (.slice aof nf caf) fs) (f : Nat) (b e0 : Int) (hb : fs[f]? = some (b, e0)) (r : List Int) (hr : r.length = 16) :
    Calls Tryd.prog 9 #[.agg #[.slice aoc nc cac, .slice aof nf caf, .slice aot nt cat], .int .i64 (f : Int), .agg (rA r)] w fun e w' => e = .returned (.tuple #[.agg (cC b r (.slice none 0 0)), .int .i64 0]) ∧ Gr w w' := by
  obtain ⟨r0, r1, r2, r3, r4, r5, r6, r7, r8, r9, r10, r11, r12, r13, r14, r15, rfl⟩ := regs16 hr
  rw [rA_is, cC_is]
  have hlen := h.len.1
  have hfl := (List.getElem?_eq_some_iff.1 hb).1
  obtain ⟨g, o, cap', hv, _, hgl, _, hcs⟩ := h.get eG_len hb
  injection hv with hv1 hv2 hv3
  subst hv1
  have c0 := hcs 0 _ rfl
  rw [Nat.add_zero] at c0
  have q0 : (0 : Int) ≤ (f : Int) := by omega
  have q1 : (f : Int) < (nf : Int) := by omega
  have q2 : decide ((f : Int) < 0) = false := decide_eq_false (by omega)
  have q3 : decide ((nf : Int) ≤ (f : Int)) = false := decide_eq_false (by omega)
  have q4 : decide (nf ≤ f) = false := decide_eq_false (by omega)
  have hS0 := Sb.new w #[.slice aoc nc cac, .slice (some ⟨g, o, none⟩) nf caf, .slice aot nt cat] #[.int .i64 r0, .int .i64 r1, .int .i64 r2, .int .i64 r3, .int .i64 r4, .int .i64 r5, .int .i64 r6, .int .i64 r7, .int .i64 r8, .int .i64 r9, .int .i64 r10, .int .i64 r11, .int .i64 r12, .int .i64 r13, .int .i64 r14, .int .i64 r15] #[.int .i64 0, .int .i64 0, .int .i64 0, .int .i64 0, .int .i64 0, .int .i64 0, .int .i64 0, .int .i64 0, .int .i64 0, .int .i64 0, .int .i64 0, .int .i64 0, .int .i64 0, .int .i64 0, .int .i64 0, .int .i64 0, .int .i64 0, .slice none 0 0] rfl g (o + f * 2) b hgl c0
  have HF := hid (fun (W : World) => hasf_any W aoc (some ⟨g, o, none⟩) aot nc nf nt cac caf cat (f : Int))
  have hq : (decide (0 ≤ (f : Int)) && decide ((f : Int) < (nf : Int))) = true := by simp [q0, q1]
  rw [hq] at HF
  clear h hb hr hlen hfl hcs hv2 hv3 hgl c0 hq q2 q3 q4
  go_enter Tryd.func9, Tryd.ntmps9
  go_wp2_with (go_at_call 21; refine (HF.out _).mono ?_; rintro e w1 ⟨rfl, g1⟩; have hS1 := hS0.gr g1; clear g1)
  have hS2 := hS1.drew
  clear hS0 hS1
  refine wp_region_held_drew (S := Sb w #[.slice aoc nc cac, .slice (some ⟨g, o, none⟩) nf caf, .slice aot nt cat] #[.int .i64 r0, .int .i64 r1, .int .i64 r2, .int .i64 r3, .int .i64 r4, .int .i64 r5, .int .i64 r6, .int .i64 r7, .int .i64 r8, .int .i64 r9, .int .i64 r10, .int .i64 r11, .int .i64 r12, .int .i64 r13, .int .i64 r14, .int .i64 r15] ⟨g, o + f * 2, none⟩ b) (by kernel_rfl) (by exact hS2) (fun _ => ?_)
  refine takeS_on (i := 0) 13 (v := ?v1) rfl rfl (by kernel_rfl) (by kernel_rfl) (by kernel_rfl) (fun _ _ _ h => h) (by kernel_rfl) ?hy1 (by exact hS2) ?_
  case hy1 => (intro w' hSw; go_simp; try (with_reducible rfl))
  simp only [Act.put, List.setIfInBounds_toArray, List.set_cons_zero, List.set_cons_succ]
  refine takeS_on (i := 1) 14 (v := ?v2) rfl rfl (by kernel_rfl) (by kernel_rfl) (by kernel_rfl) (fun _ _ _ h => h) (by kernel_rfl) ?hy2 (by exact hS2) ?_
  case hy2 => (intro w' hSw; have c1 := (p3_cells hSw.p).2.1; go_simp; try (with_reducible rfl))
  simp only [Act.put, List.setIfInBounds_toArray, List.set_cons_zero, List.set_cons_succ]
  refine takeS_on (i := 2) 15 (v := ?v3) rfl rfl (by kernel_rfl) (by kernel_rfl) (by kernel_rfl) (fun _ _ _ h => h) (by kernel_rfl) ?hy3 (by exact hS2) ?_
  case hy3 => (intro w' hSw; go_simp; try (with_reducible rfl))
  simp only [Act.put, List.setIfInBounds_toArray, List.set_cons_zero, List.set_cons_succ]
  refine takeS_on (i := 3) 16 (v := ?v4) rfl rfl (by kernel_rfl) (by kernel_rfl) (by kernel_rfl) (fun _ _ _ h => h) (by kernel_rfl) ?hy4 (by exact hS2) ?_
  case hy4 => (intro w' hSw; go_simp; try (with_reducible rfl))
  simp only [Act.put, List.setIfInBounds_toArray, List.set_cons_zero, List.set_cons_succ]
  refine takeS_on (i := 4) 17 (v := ?v5) rfl rfl (by kernel_rfl) (by kernel_rfl) (by kernel_rfl) (fun _ _ _ h => h) (by kernel_rfl) ?hy5 (by exact hS2) ?_
  case hy5 => (intro w' hSw; go_simp; try (with_reducible rfl))
  simp only [Act.put, List.setIfInBounds_toArray, List.set_cons_zero, List.set_cons_succ]
  refine takeS_on (i := 5) 18 (v := ?v6) rfl rfl (by kernel_rfl) (by kernel_rfl) (by kernel_rfl) (fun _ _ _ h => h) (by kernel_rfl) ?hy6 (by exact hS2) ?_
  case hy6 => (intro w' hSw; have c5 := hSw.f; go_simp; try (with_reducible rfl))
  simp only [Act.put, List.setIfInBounds_toArray, List.set_cons_zero, List.set_cons_succ]
  refine takeS_on (i := 6) 19 (v := ?v7) rfl rfl (by kernel_rfl) (by kernel_rfl) (by kernel_rfl) (fun _ _ _ h => h) (by kernel_rfl) ?hy7 (by exact hS2) ?_
  case hy7 => (intro w' hSw; refine Eq.trans (exec_row 27 (.tmp 5) rfl _ rfl _ _ _ _ hSw.r Tryd.underlying27 rfl arr_size) ?_; with_reducible rfl)
  simp only [Act.put, List.setIfInBounds_toArray, List.set_cons_zero, List.set_cons_succ]
  refine takeS_on (i := 7) 20 (v := ?v8) rfl rfl (by kernel_rfl) (by kernel_rfl) (by kernel_rfl) (fun _ _ _ h => h) (by kernel_rfl) ?hy8 (by exact hS2) ?_
  case hy8 => (intro w' hSw; go_simp; try (with_reducible rfl))
  simp only [Act.put, List.setIfInBounds_toArray, List.set_cons_zero, List.set_cons_succ]
  refine wpAnyH_ready (rs := [8]) (by kernel_rfl) (by simp) (AllReadyH.cons rfl (fun K hK => ?_) AllReadyH.nil)
  rw [if_pos (by kernel_rfl)]
  obtain ⟨old, ht, hsz⟩ := hS2.t
  refine wp_store_row 30 (.tmp 6) (.tmp 20) rfl (w.heap.size + 2) #[.int .i64 b, .int .i64 r0, .int .i64 r1, .int .i64 r2, .int .i64 r3, .int .i64 r4, .int .i64 r5, .int .i64 r6, .int .i64 r7, .int .i64 r8, .int .i64 r9, .int .i64 r10, .int .i64 r11, .int .i64 r12, .int .i64 r13, .int .i64 r14, .int .i64 r15, .slice none 0 0] rfl rfl _ _ ht ctx_size hsz (one18 _ _ _ _ _ _ _ _ _ _ _ _ _ _ _ _ _ _ _ _) ?_
  have b3 := setRow_blk (c := #[.int .i64 b, .int .i64 r0, .int .i64 r1, .int .i64 r2, .int .i64 r3, .int .i64 r4, .int .i64 r5, .int .i64 r6, .int .i64 r7, .int .i64 r8, .int .i64 r9, .int .i64 r10, .int .i64 r11, .int .i64 r12, .int .i64 r13, .int .i64 r14, .int .i64 r15, .slice none 0 0]) ht
  have hS3 := hS2.st (setRow_ch _ (w.heap.size + 2) #[.int .i64 b, .int .i64 r0, .int .i64 r1, .int .i64 r2, .int .i64 r3, .int .i64 r4, .int .i64 r5, .int .i64 r6, .int .i64 r7, .int .i64 r8, .int .i64 r9, .int .i64 r10, .int .i64 r11, .int .i64 r12, .int .i64 r13, .int .i64 r14, .int .i64 r15, .slice none 0 0]) b3 rfl
  clear ht hsz
  have B3 := hid b3
  clear b3
  refine hK.out _ _ (by exact hS3) (fun _ => ?_)
  clear hK K
  refine takeS_on (i := 9) 7 (v := ?v9) rfl rfl (by kernel_rfl) (by kernel_rfl) (by kernel_rfl) (fun _ _ _ h => h) (by kernel_rfl) ?hy9 (by exact hS3) ?_
  case hy9 => (intro w' hSw; go_simp; try (with_reducible rfl))
  simp only [Act.put, List.setIfInBounds_toArray]
  refine wpAnyH_done (by kernel_rfl) ?_ _
  go_wp2_with fail
  refine bodyPost_ret (results_cell_tmp2 rfl _ _ (w.heap.size + 2) _ rfl (run_loadVar_row _ _ _ _ _ _ _ B3.out Tryd.underlying30 rfl ctx_size)) rfl ?_
  exact ⟨rfl, hS3.g⟩

set_option maxHeartbeats 4000000 in
set_option maxRecDepth 20000 in
theorem rbegin_yes (P : Nat → Prop) (w : World) (aoc aof aot : Option Addr) (nc nf nt cac caf cat : Nat) (fs : List (Int × Int)) (h : Ls eG P w (.slice aof nf caf) fs) (f : Nat) (b e0 : Int) (hb : fs[f]? = some (b, e0)) (r : List Int) (hr : r.length = 16) :
    Calls Tryd.prog 10 #[.agg #[.slice aoc nc cac, .slice aof nf caf, .slice aot nt cat], .int .i64 (f : Int), .agg (rA r)] w fun e w' => e = .returned (.tuple #[.agg (cC b r (.slice none 0 0)), .int .i64 0]) ∧ Gr w w' := by
  obtain ⟨r0, r1, r2, r3, r4, r5, r6, r7, r8, r9, r10, r11, r12, r13, r14, r15, rfl⟩ := regs16 hr
  rw [rA_is, cC_is]
  have hlen := h.len.1
  have hfl := (List.getElem?_eq_some_iff.1 hb).1
  obtain ⟨g, o, cap', hv, _, hgl, _, hcs⟩ := h.get eG_len hb
  injection hv with hv1 hv2 hv3
  subst hv1
  have c0 := hcs 0 _ rfl
  rw [Nat.add_zero] at c0
  have q0 : (0 : Int) ≤ (f : Int) := by omega
  have q1 : (f : Int) < (nf : Int) := by omega
  have q2 : decide ((f : Int) < 0) = false := decide_eq_false (by omega)
  have q3 : decide ((nf : Int) ≤ (f : Int)) = false := decide_eq_false (by omega)
  have q4 : decide (nf ≤ f) = false := decide_eq_false (by omega)
  have hS0 := Sb.new w #[.slice aoc nc cac, .slice (some ⟨g, o, none⟩) nf caf, .slice aot nt cat] #[.int .i64 r0, .int .i64 r1, .int .i64 r2, .int .i64 r3, .int .i64 r4, .int .i64 r5, .int .i64 r6, .int .i64 r7, .int .i64 r8, .int .i64 r9, .int .i64 r10, .int .i64 r11, .int .i64 r12, .int .i64 r13, .int .i64 r14, .int .i64 r15] #[.int .i64 0, .int .i64 0, .int .i64 0, .int .i64 0, .int .i64 0, .int .i64 0, .int .i64 0, .int .i64 0, .int .i64 0, .int .i64 0, .int .i64 0, .int .i64 0, .int .i64 0, .int .i64 0, .int .i64 0, .int .i64 0, .int .i64 0, .slice none 0 0] rfl g (o + f * 2) b hgl c0
  clear h hb hr hlen hfl hcs hv2 hv3 hgl c0
  go_enter Tryd.func10, Tryd.ntmps10
  go_wp2_with fail
  have hS2 := hS0.drew
  clear hS0
  refine wp_region_held_drew (S := Sb w #[.slice aoc nc cac, .slice (some ⟨g, o, none⟩) nf caf, .slice aot nt cat] #[.int .i64 r0, .int .i64 r1, .int .i64 r2, .int .i64 r3, .int .i64 r4, .int .i64 r5, .int .i64 r6, .int .i64 r7, .int .i64 r8, .int .i64 r9, .int .i64 r10, .int .i64 r11, .int .i64 r12, .int .i64 r13, .int .i64 r14, .int .i64 r15] ⟨g, o + f * 2, none⟩ b) (by kernel_rfl) (by exact hS2) (fun _ => ?_)
  refine takeS_on (i := 0) 18 (v := ?v10) rfl rfl (by kernel_rfl) (by kernel_rfl) (by kernel_rfl) (fun _ _ _ h => h) (by kernel_rfl) ?hy10 (by exact hS2) ?_
  case hy10 => (intro w' hSw; go_simp; try (with_reducible rfl))
  simp only [Act.put, List.setIfInBounds_toArray, List.set_cons_zero, List.set_cons_succ]
  refine takeS_on (i := 1) 19 (v := ?v11) rfl rfl (by kernel_rfl) (by kernel_rfl) (by kernel_rfl) (fun _ _ _ h => h) (by kernel_rfl) ?hy11 (by exact hS2) ?_
  case hy11 => (intro w' hSw; have c1 := (p3_cells hSw.p).2.1; go_simp; try (with_reducible rfl))
  simp only [Act.put, List.setIfInBounds_toArray, List.set_cons_zero, List.set_cons_succ]
  refine takeS_on (i := 2) 20 (v := ?v12) rfl rfl (by kernel_rfl) (by kernel_rfl) (by kernel_rfl) (fun _ _ _ h => h) (by kernel_rfl) ?hy12 (by exact hS2) ?_
  case hy12 => (intro w' hSw; go_simp; try (with_reducible rfl))
  simp only [Act.put, List.setIfInBounds_toArray, List.set_cons_zero, List.set_cons_succ]
  refine takeS_on (i := 3) 21 (v := ?v13) rfl rfl (by kernel_rfl) (by kernel_rfl) (by kernel_rfl) (fun _ _ _ h => h) (by kernel_rfl) ?hy13 (by exact hS2) ?_
  case hy13 => (intro w' hSw; go_simp; try (with_reducible rfl))
  simp only [Act.put, List.setIfInBounds_toArray, List.set_cons_zero, List.set_cons_succ]
  refine takeS_on (i := 4) 22 (v := ?v14) rfl rfl (by kernel_rfl) (by kernel_rfl) (by kernel_rfl) (fun _ _ _ h => h) (by kernel_rfl) ?hy14 (by exact hS2) ?_
  case hy14 => (intro w' hSw; go_simp; try (with_reducible rfl))
  simp only [Act.put, List.setIfInBounds_toArray, List.set_cons_zero, List.set_cons_succ]
  refine takeS_on (i := 5) 23 (v := ?v15) rfl rfl (by kernel_rfl) (by kernel_rfl) (by kernel_rfl) (fun _ _ _ h => h) (by kernel_rfl) ?hy15 (by exact hS2) ?_
  case hy15 => (intro w' hSw; have c5 := hSw.f; go_simp; try (with_reducible rfl))
  simp only [Act.put, List.setIfInBounds_toArray, List.set_cons_zero, List.set_cons_succ]
  refine takeS_on (i := 6) 24 (v := ?v16) rfl rfl (by kernel_rfl) (by kernel_rfl) (by kernel_rfl) (fun _ _ _ h => h) (by kernel_rfl) ?hy16 (by exact hS2) ?_
  case hy16 => (intro w' hSw; refine Eq.trans (exec_row 27 (.tmp 5) rfl _ rfl _ _ _ _ hSw.r Tryd.underlying27 rfl arr_size) ?_; with_reducible rfl)
  simp only [Act.put, List.setIfInBounds_toArray, List.set_cons_zero, List.set_cons_succ]
  refine takeS_on (i := 7) 25 (v := ?v17) rfl rfl (by kernel_rfl) (by kernel_rfl) (by kernel_rfl) (fun _ _ _ h => h) (by kernel_rfl) ?hy17 (by exact hS2) ?_
  case hy17 => (intro w' hSw; go_simp; try (with_reducible rfl))
  simp only [Act.put, List.setIfInBounds_toArray, List.set_cons_zero, List.set_cons_succ]
  refine wpAnyH_ready (rs := [8]) (by kernel_rfl) (by simp) (AllReadyH.cons rfl (fun K hK => ?_) AllReadyH.nil)
  rw [if_pos (by kernel_rfl)]
  obtain ⟨old, ht, hsz⟩ := hS2.t
  refine wp_store_row 30 (.tmp 6) (.tmp 25) rfl (w.heap.size + 2) #[.int .i64 b, .int .i64 r0, .int .i64 r1, .int .i64 r2, .int .i64 r3, .int .i64 r4, .int .i64 r5, .int .i64 r6, .int .i64 r7, .int .i64 r8, .int .i64 r9, .int .i64 r10, .int .i64 r11, .int .i64 r12, .int .i64 r13, .int .i64 r14, .int .i64 r15, .slice none 0 0] rfl rfl _ _ ht ctx_size hsz (one18 _ _ _ _ _ _ _ _ _ _ _ _ _ _ _ _ _ _ _ _) ?_
  have b3 := setRow_blk (c := #[.int .i64 b, .int .i64 r0, .int .i64 r1, .int .i64 r2, .int .i64 r3, .int .i64 r4, .int .i64 r5, .int .i64 r6, .int .i64 r7, .int .i64 r8, .int .i64 r9, .int .i64 r10, .int .i64 r11, .int .i64 r12, .int .i64 r13, .int .i64 r14, .int .i64 r15, .slice none 0 0]) ht
  have hS3 := hS2.st (setRow_ch _ (w.heap.size + 2) #[.int .i64 b, .int .i64 r0, .int .i64 r1, .int .i64 r2, .int .i64 r3, .int .i64 r4, .int .i64 r5, .int .i64 r6, .int .i64 r7, .int .i64 r8, .int .i64 r9, .int .i64 r10, .int .i64 r11, .int .i64 r12, .int .i64 r13, .int .i64 r14, .int .i64 r15, .slice none 0 0]) b3 rfl
  clear ht hsz
  have B3 := hid b3
  clear b3
  refine hK.out _ _ (by exact hS3) (fun _ => ?_)
  clear hK K
  refine takeS_on (i := 9) 7 (v := ?v18) rfl rfl (by kernel_rfl) (by kernel_rfl) (by kernel_rfl) (fun _ _ _ h => h) (by kernel_rfl) ?hy18 (by exact hS3) ?_
  case hy18 => (intro w' hSw; go_simp; try (with_reducible rfl))
  simp only [Act.put, List.setIfInBounds_toArray]
  refine wpAnyH_done (by kernel_rfl) ?_ _
  go_wp2_with fail
  refine bodyPost_ret (results_cell_tmp2 rfl _ _ (w.heap.size + 2) _ rfl (run_loadVar_row _ _ _ _ _ _ _ B3.out Tryd.underlying30 rfl ctx_size)) rfl ?_
  exact ⟨rfl, hS3.g⟩

end Go.Proofs.YtcdlhfodeckleaaDoor.Lt
