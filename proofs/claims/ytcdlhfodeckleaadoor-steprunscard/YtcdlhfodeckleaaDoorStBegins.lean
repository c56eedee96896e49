/-
  StepBegins, walked. Condition: the tables lie where they lie.
-/
import Derived.Test.YtcdlhfodeckleaaDoorStBegin
namespace Go.Proofs.YtcdlhfodeckleaaDoor.Lt
open Go.RowKit Wd

/-- a struct read whole where it is asked for -/
theorem ld_rowG {P : Program} {ops : Array Oper} {rest : List Oper} {o : Oper} {a : Act} {w : World} {Q : Exit → Act → World → Prop} (hgd : Region.wanted o (yielded ops a.tmps) = true) (ty : TypeId) (x : Operand) (ho : o.op = .load ty x)
    (g : Nat) (hx : a.eval x = .pointer (some ⟨g, 0, none⟩)) (t : TypeId) (cs : Array Value) (fr : Nat × Nat) (d : TypeDesc) (hg : w.heap[g]? = some (.cells cs t fr))
    (hu : P.underlying ty = some d) (hd : (match d with | .struct _ | .array _ _ => true | _ => false) = true) (hi : (P.info? ty).map (·.size) = some cs.size)
    (h : wpList P ops Q rest (a.put o.dst (.agg cs)) w) : wpList P ops Q (o :: rest) a w :=
  wpList_step fun K hK => by
    rw [if_pos hgd]
    exact wp_load_row ty x ho g hx t cs fr d hg hu hd hi (hK _ _ h)
/-- a program and registers in variables of their own -/
structure Sg (w : World) (X Y : Array Value) (W : World) : Prop where
  g : Gr w W
  p : W.heap[w.heap.size]? = some (.cells X 26 (0, 0))
  r : W.heap[w.heap.size + 1]? = some (.cells Y 27 (0, 0))
theorem Sg.gr {w : World} {X Y : Array Value} {W W' : World} (h : Sg w X Y W) (g : Gr W W') : Sg w X Y W' := ⟨Gr.trans h.g g, gr_blk h.p g, gr_blk h.r g⟩
theorem Sg.al {w : World} {X Y : Array Value} {W W' : World} {o : Obj} (h : Sg w X Y W) (k : Ch (Only W.heap.size) (W.alloc o) W') : Sg w X Y W' := by
  have l1 := lt_of_block h.p
  have l2 := lt_of_block h.r
  refine ⟨Ch.trans (Ch.alloc h.g o) k (fun q e => .inr (by have e1 : q = W.heap.size := e; omega)), (k.block _ (lt_of_block (al_blk h.p o)) (fun q => by have q1 : w.heap.size = W.heap.size := q; omega)).trans (al_blk h.p o), (k.block _ (lt_of_block (al_blk h.r o)) (fun q => by have q1 : w.heap.size + 1 = W.heap.size := q; omega)).trans (al_blk h.r o)⟩
theorem Sg.new (w : World) (X Y : Array Value) : Sg w X Y ((w.alloc (.cells X 26)).alloc (.cells Y 27)) := by
  refine ⟨Ch.alloc (Ch.alloc (Gr.refl w) _) _, al_blk (MapKept.heap_alloc w _).1 _, ?_⟩
  simpa using (MapKept.heap_alloc (w.alloc (.cells X 26)) (.cells Y 27)).1
set_option maxHeartbeats 4000000 in
set_option maxRecDepth 20000 in
theorem begins_walk (w : World) (hg : Glb w) (aoc aof aot : Option Addr) (nc nf nt cac caf cat : Nat) (f : Int) (r : List Int) (hr : r.length = 16) (pc : Int) (s : List Int) (hs : s.length = 16) (E : Int)
    (hP : ∀ W, Gr w W → Calls Tryd.prog 9 #[.agg #[.slice aoc nc cac, .slice aof nf caf, .slice aot nt cat], .int .i64 f, .agg (rA r)] W fun e w' => e = .returned (.tuple #[.agg (cC pc s (.slice none 0 0)), .int .i64 E]) ∧ Gr W w')
    (hR : ∀ W, Gr w W → Calls Tryd.prog 10 #[.agg #[.slice aoc nc cac, .slice aof nf caf, .slice aot nt cat], .int .i64 f, .agg (rA r)] W fun e w' => e = .returned (.tuple #[.agg (cC pc s (.slice none 0 0)), .int .i64 E]) ∧ Gr W w') :
    Calls Tryd.prog 3 #[.agg #[.slice aoc nc cac, .slice aof nf caf, .slice aot nt cat], .int .i64 f, .agg (rA r)] w fun e w' => e = .returned (.bool true) ∧ Gr w w' := by
  obtain ⟨r0, r1, r2, r3, r4, r5, r6, r7, r8, r9, r10, r11, r12, r13, r14, r15, rfl⟩ := regs16 hr
  obtain ⟨s0, s1, s2, s3, s4, s5, s6, s7, s8, s9, s10, s11, s12, s13, s14, s15, rfl⟩ := regs16 hs
  have HLV := hid (fun (W : World) (p : Gr w W) => lives9_any W (hg.gr p))
  have HSM := hid (fun (W : World) => same9_any (fun _ => True) (fun _ => True) W pc [s0, s1, s2, s3, s4, s5, s6, s7, s8, s9, s10, s11, s12, s13, s14, s15] rfl none none 0 0 0 [] (Ls.nil _ _ _) (Ls.nil _ _ _) (by omega))
  rw [rA_is, cC_is] at hP hR
  rw [cC_is] at HSM
  have HP := hid hP
  have HR := hid hR
  rw [rA_is]
  have S0 := hid (Sg.new w #[.slice aoc nc cac, .slice aof nf caf, .slice aot nt cat] #[.int .i64 r0, .int .i64 r1, .int .i64 r2, .int .i64 r3, .int .i64 r4, .int .i64 r5, .int .i64 r6, .int .i64 r7, .int .i64 r8, .int .i64 r9, .int .i64 r10, .int .i64 r11, .int .i64 r12, .int .i64 r13, .int .i64 r14, .int .i64 r15])
  clear hP hR hg hr hs
  go_enter Tryd.func3, Tryd.ntmps3
  go_wp2_with (first
    | (go_at_call 9; refine (HP.out _ S0.out.g).mono ?_; rintro e w1 ⟨rfl, g1⟩; have S1 := hid (S0.out.gr g1); have B1 := hid (MapKept.heap_alloc w1 (.cells #[.int .i64 0, .int .i64 0, .int .i64 0, .int .i64 0, .int .i64 0, .int .i64 0, .int .i64 0, .int .i64 0, .int .i64 0, .int .i64 0, .int .i64 0, .int .i64 0, .int .i64 0, .int .i64 0, .int .i64 0, .int .i64 0, .int .i64 0, .slice none 0 0] 30)).1; clear g1)
    | (go_at_call 10; refine (HR.out _ S2.out.g).mono ?_; rintro e w3 ⟨rfl, g3⟩; have S3 := hid (S2.out.gr g3); have D3 := hid (gr_blk D2.out g3); have B3 := hid (MapKept.heap_alloc w3 (.cells #[.int .i64 0, .int .i64 0, .int .i64 0, .int .i64 0, .int .i64 0, .int .i64 0, .int .i64 0, .int .i64 0, .int .i64 0, .int .i64 0, .int .i64 0, .int .i64 0, .int .i64 0, .int .i64 0, .int .i64 0, .int .i64 0, .int .i64 0, .slice none 0 0] 30)).1; clear g3)
    | (go_at_call 11; refine (HLV.out _ S4.out.g).mono ?_; rintro e w5 ⟨rfl, g5⟩; have S5 := hid (S4.out.gr g5); have D5 := hid (gr_blk D4.out g5); have E5 := hid (gr_blk E4.out g5); clear g5)
    | (go_at_call 12; refine (HSM.out _).mono ?_; rintro e w6 ⟨rfl, g6⟩; have G6 := hid (Gr.trans S5.out.g g6); clear g6)
    | (refine st_row rfl 30 (.tmp 7) (.tmp 16) rfl w1.heap.size _ rfl rfl _ _ B1.out ctx_size rfl (one18 _ _ _ _ _ _ _ _ _ _ _ _ _ _ _ _ _ _ _ _) ?_; intro w2 b2 k2; have S2 := hid (S1.out.al k2); have D2 := hid b2; clear b2 k2)
    | (refine st_row rfl 30 (.tmp 9) (.tmp 23) rfl w3.heap.size _ rfl rfl _ _ B3.out ctx_size rfl (one18 _ _ _ _ _ _ _ _ _ _ _ _ _ _ _ _ _ _ _ _) ?_; intro w4 b4 k4; have S4 := hid (S3.out.al k4); have D4 := hid ((k4.block _ (lt_of_block (al_blk D3.out _)) (fun q => by have q1 : w1.heap.size = w3.heap.size := q; have := lt_of_block D3.out; omega)).trans (al_blk D3.out _)); have E4 := hid b4; clear b4 k4)
    | (refine wpList_load_row rfl 26 (.tmp 3) rfl w.heap.size rfl _ _ _ _ S0.out.p Tryd.underlying26 rfl prog_size3 ?_)
    | (refine wpList_load_row rfl 27 (.tmp 5) rfl (w.heap.size + 1) rfl _ _ _ _ S0.out.r Tryd.underlying27 rfl arr_size ?_)
    | (refine wpList_load_row rfl 26 (.tmp 3) rfl w.heap.size rfl _ _ _ _ S2.out.p Tryd.underlying26 rfl prog_size3 ?_)
    | (refine wpList_load_row rfl 27 (.tmp 5) rfl (w.heap.size + 1) rfl _ _ _ _ S2.out.r Tryd.underlying27 rfl arr_size ?_)
    | (refine ld_rowG (by kernel_rfl) 30 (.tmp 7) rfl w1.heap.size rfl _ _ _ _ D5.out Tryd.underlying30 rfl ctx_size ?_)
    | (refine ld_rowG (by kernel_rfl) 30 (.tmp 9) rfl w3.heap.size rfl _ _ _ _ E5.out Tryd.underlying30 rfl ctx_size ?_))
  go_ret
  exact ⟨rfl, G6.out⟩
theorem begins_any9 (P : Nat → Prop) (w : World) (ia ib ic : Value) (cs : List Int) (fs : List (Int × Int)) (tb : List Tb) (f : Int) (r : List Int) (h : Pin P w ia ib ic cs fs tb) (_hc : cs.length ≤ 35184372088832) (_hf : fs.length ≤ 8796093022208) (_ht : tb.length ≤ 4398046511104) (_hq : ∀ t ∈ tb, t.cs.length ≤ 4398046511104) (_hu : U32s cs) (hr : r.length = 16) (hg : Glb w) :
    Calls Tryd.prog 3 #[.agg #[ia, ib, ic], .int .i64 f, .agg (rA r)] w fun e w' => e = .returned (.bool true) ∧ Gr w w' := by
  obtain ⟨aoc, cac, rfl⟩ := h.c.form
  obtain ⟨aof, caf, rfl⟩ := h.f.form
  obtain ⟨aot, cat, rfl⟩ := h.t.form
  by_cases hin : 0 ≤ f ∧ f < (fs.length : Int)
  · obtain ⟨p0, p1⟩ := hin
    obtain ⟨k, rfl⟩ : ∃ k : Nat, f = (k : Int) := ⟨f.toNat, by omega⟩
    obtain ⟨⟨b, e0⟩, hb⟩ : ∃ x, fs[k]? = some x := ⟨_, List.getElem?_eq_getElem (by omega)⟩
    exact begins_walk w hg aoc aof aot _ _ _ cac caf cat k r hr b r hr 0 (fun W p => pbegin_yes P W aoc aof aot _ _ _ cac caf cat fs (h.f.gr p) k b e0 hb r hr) (fun W p => rbegin_yes P W aoc aof aot _ _ _ cac caf cat fs (h.f.gr p) k b e0 hb r hr)
  · exact begins_walk w hg aoc aof aot _ _ _ cac caf cat f r hr 0 [0, 0, 0, 0, 0, 0, 0, 0, 0, 0, 0, 0, 0, 0, 0, 0] rfl 1 (fun W _ => pbegin_no W aoc aof aot _ _ _ cac caf cat f hin r hr) (fun W _ => rbegin_no W aoc aof aot _ _ _ cac caf cat f hin r hr)
end Go.Proofs.YtcdlhfodeckleaaDoor.Lt
