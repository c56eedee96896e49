/-
  StepWrites, walked. Condition: the tables lie where they lie.
-/
import Derived.Test.YtcdlhfodeckleabDoorStWrP
import Derived.Test.YtcdlhfodeckleabDoorStLives
import Derived.Test.YtcdlhfodeckleabDoorLtRegion
namespace Go.Proofs.YtcdlhfodeckleabDoor.Lt
open Go.RowKit Wd

theorem want_cells9 {w : World} {X : Nat} {a0 a1 a2 a3 a4 a5 a6 a7 a8 a9 a10 : Value} {T : TypeId} (h : w.heap[X]? = some (.cells #[a0, a1, a2, a3, a4, a5, a6, a7, a8, a9, a10] T (0, 0))) : w.cell? ⟨X, 0, none⟩ = some a0 ∧ w.cell? ⟨X, 9, none⟩ = some a9 :=
  ⟨(cell_of h 0).trans rfl, (cell_of h 9).trans rfl⟩
theorem ins_size5 : (Tryd.prog.info? 37).map (·.size) = some 5 := by kernel_rfl
theorem exec_sub {P : Program} {o : Oper} {a : Act} {w : World} (ty : TypeId) (x : Operand) (ho : o.op = .load ty x) (g k : Nat) (hx : a.eval x = .pointer (some ⟨g, k, none⟩)) (cs : List Value) (d : TypeDesc) (hc : ∀ j v, cs[j]? = some v → w.cell? ⟨g, k + j, none⟩ = some v)
    (hu : P.underlying ty = some d) (hd : (match d with | .struct _ | .array _ _ => true | _ => false) = true) (hi : (P.info? ty).map (·.size) = some cs.length) : (execOp a.eval o).run P w = .ok (.value (.agg cs.toArray)) w := by
  have hl : (loadCells ⟨g, k, none⟩ cs.length).run P w = .ok cs.toArray w :=
    run_loadCells_list (P := P) w ⟨g, k, none⟩ cs (fun j v hv => by rw [add_none]; exact hc j v hv)
  have hr : (loadVar ty ⟨g, k, none⟩).run P w = .ok (.agg cs.toArray) w := by
    cases hq : P.info? ty with
    | none => simp [hq] at hi
    | some i =>
      have hs : i.size = cs.length := by simpa [hq] using hi
      have hagg : (isAgg ty).run P w = .ok true w := by
        unfold isAgg
        rw [Sem.run_bind, run_underlying hu w]
        cases d <;> simp_all
      simp [loadVar, Sem.run_bind, hagg, sizeOf, typeInfo, hq, hs, hl]
  unfold execOp
  simp only [ho, hx, Instr.loadAt, Instr.sureAddr, Sem.run_bind, Sem.run_pure, Result.andThen_ok, hr]
theorem exec_neq_want {ev : Operand → Value} {o : Oper} {w : World} (x y : Operand) (q0 q1 q2 q3 q4 q5 q6 q7 q8 q9 q10 : Int) (ho : o.op = .binOp .neq 40 x y 40) (hx : ev x = .agg #[.int .i64 q0, .int .i64 q1, .int .i64 q2, .int .i64 q3, .int .i64 q4, .int .i64 q5, .int .i64 q6, .int .i64 q7, .int .i64 q8, .int .i64 q9, .int .i64 q10]) (hy : ev y = .agg #[.int .i64 q0, .int .i64 q1, .int .i64 q2, .int .i64 q3, .int .i64 q4, .int .i64 q5, .int .i64 q6, .int .i64 q7, .int .i64 q8, .int .i64 q9, .int .i64 q10]) : (execOp ev o).run Tryd.prog w = .ok (.value (.bool false)) w := by
  unfold execOp
  simp only [ho, hx, hy]
  go_simp
theorem wpList_neq_want {ops : Array Oper} {rest : List Oper} {o : Oper} {a : Act} {w : World} {Q : Exit → Act → World → Prop} (hgd : o.guard = none) (x y : Operand) {q0 q1 q2 q3 q4 q5 q6 q7 q8 q9 q10 : Int} (ho : o.op = .binOp .neq 40 x y 40) (hx : a.eval x = .agg #[.int .i64 q0, .int .i64 q1, .int .i64 q2, .int .i64 q3, .int .i64 q4, .int .i64 q5, .int .i64 q6, .int .i64 q7, .int .i64 q8, .int .i64 q9, .int .i64 q10]) (hy : a.eval y = .agg #[.int .i64 q0, .int .i64 q1, .int .i64 q2, .int .i64 q3, .int .i64 q4, .int .i64 q5, .int .i64 q6, .int .i64 q7, .int .i64 q8, .int .i64 q9, .int .i64 q10]) (h : wpList Tryd.prog ops Q rest (a.put o.dst (.bool false)) w) : wpList Tryd.prog ops Q (o :: rest) a w :=
  wpList_plain hgd fun _ hK => by
    unfold Oper.wp
    rw [exec_neq_want x y q0 q1 q2 q3 q4 q5 q6 q7 q8 q9 q10 ho hx hy]
    exact hK _ _ h
theorem wt_sub {w : World} {X : Nat} {a0 a1 a2 a3 a4 a5 a6 a7 a8 a9 a10 : Value} {T : TypeId} (h : w.heap[X]? = some (.cells #[a0, a1, a2, a3, a4, a5, a6, a7, a8, a9, a10] T (0, 0))) : ∀ (j : Nat) (v : Value), [a1, a2, a3, a4, a5][j]? = some v → w.cell? ⟨X, 1 + j, none⟩ = some v := by
  intro j v hv
  rw [cell_of h]
  match j, hv with
  | 0, hv => exact hv
  | 1, hv => exact hv
  | 2, hv => exact hv
  | 3, hv => exact hv
  | 4, hv => exact hv
  | n + 5, hv => simp at hv
theorem ctx_pc {w : World} {g : Nat} {t : TypeId} {fr : Nat × Nat} {pc : Int} {r : List Int} {v : Value} (h : w.heap[g]? = some (.cells (cC pc r v) t fr)) : w.cell? ⟨g, 0, none⟩ = some (.int .i64 pc) := (cell_of h 0).trans (by unfold cC; rfl)
theorem cC_at {w : World} {g : Nat} {t : TypeId} {fr : Nat × Nat} {pc : Int} {r : List Int} {v : Value} (h : w.heap[g]? = some (.cells (cC pc r v) t fr)) {j : Nat} {y : Int} (hy : r[j]? = some y) : w.cell? ⟨g, 1 + j, none⟩ = some (.int .i64 y) := (cell_of h (1 + j)).trans (cC_get hy)
theorem one_i5 (a b c d e : Int) : (#[.int .i64 a, .int .i64 b, .int .i64 c, .int .i64 d, .int .i64 e] : Array Value).all (·.oneCell') = true := by simp [Value.oneCell']
theorem gr_alst9 {W x : World} {o : Obj} (k : Ch (Only W.heap.size) (W.alloc o) x) : Gr W x := Ch.trans (Ch.alloc (Gr.refl W) o) k (fun q e => .inr (by have e1 : q = W.heap.size := e; omega))
theorem wpList_exec9 {ops : Array Oper} {rest : List Oper} {o : Oper} {a : Act} {w : World} {Q : Exit → Act → World → Prop} {v : Value} (hgd : o.guard = none) (hr : (execOp a.eval o).run Tryd.prog w = .ok (.value v) w) (h : wpList Tryd.prog ops Q rest (a.put o.dst v) w) : wpList Tryd.prog ops Q (o :: rest) a w :=
  wpList_plain hgd fun _ hK => by
    unfold Oper.wp
    rw [hr]
    exact hK _ _ h
/-- behind the step -/
def MidWr (w : World) (X Y E : Array Value) (pc1 : Int) (rr ks1 : List Int) (T : Array Value) : Exit → Act → World → Prop := fun e a W => e = Exit.normal ∧ ∃ (A B : Nat) (ao3 : Option Addr) (cap3 : Nat) (x0 x1 x2 x6 x9 x10 x11 x12 x13 x14 x15 x16 x17 x18 x19 x20 x21 x22 x23 x24 x25 x26 x27 x28 x29 x30 x31 x32 x33 x34 x35 x36 x37 x38 x39 x40 x41 x42 x43 x44 x45 x46 x47 x48 x49 x50 x51 x52 x53 x54 x55 x56 x57 x58 x59 x60 x61 x62 x63 x64 x65 x66 x67 x68 x69 x70 x71 x72 x73 x74 x75 x76 x77 x78 x79 x80 x81 x82 x83 x84 x85 x86 x87 x88 x89 x90 x91 x92 x93 x94 x95 x96 x97 x98 : Value), a = Act.mk #[x0, x1, x2, .pointer (some ⟨w.heap.size, 0, none⟩), .pointer (some ⟨w.heap.size + 1, 0, none⟩), .pointer (some ⟨w.heap.size + 2, 0, none⟩), x6, .pointer (some ⟨A, 0, none⟩), .pointer (some ⟨B, 0, none⟩), x9, x10, x11, x12, x13, x14, x15, x16, x17, x18, x19, x20, x21, x22, x23, x24, x25, x26, x27, x28, x29, x30, x31, x32, x33, x34, x35, x36, x37, x38, x39, x40, x41, x42, x43, x44, x45, x46, x47, x48, x49, x50, x51, x52, x53, x54, x55, x56, x57, x58, x59, x60, x61, x62, x63, x64, x65, x66, x67, x68, x69, x70, x71, x72, x73, x74, x75, x76, x77, x78, x79, x80, x81, x82, x83, x84, x85, x86, x87, x88, x89, x90, x91, x92, x93, x94, x95, x96, x97, x98] [] ∧ Sx w X Y E A (cC pc1 rr (.slice ao3 ks1.length cap3)) B T (.slice ao3 ks1.length cap3) ks1 W
/-- the three contexts that are held against one another -/
structure Sv3 (w : World) (A F : Nat) (C D E : Array Value) (W : World) : Prop where
  g : Gr w W
  c : W.heap[w.heap.size + 1]? = some (.cells C 30 (0, 0))
  d : W.heap[A]? = some (.cells D 30 (0, 0))
  a : W.heap[F]? = some (.cells E 30 (0, 0))
theorem Sv3.drew {w : World} {A F : Nat} {C D E : Array Value} {W : World} (h : Sv3 w A F C D E W) : Sv3 w A F C D E W.drew := ⟨Ch.drew h.g, h.c, h.d, h.a⟩
set_option maxHeartbeats 40000000 in
set_option maxRecDepth 100000 in
theorem writes_walk (P : Nat → Prop) (w : World) (hg : Glb w) (aoc aof aot : Option Addr) (nc nf nt cac caf cat : Nat) (pc : Int) (r : List Int) (hr : r.length = 16) (ao : Option Addr) (n cap : Nat) (ks : List Int) (ck sl gn : Int) (pc1 : Int) (rr : List Int) (hrr : rr.length = 16) (ks1 : List Int) (q0 q1 q2 q3 q4 q5 q6 q7 q8 q9 q10 : Int)
    (hT : ∀ W, Gr w W → Calls Tryd.prog 6 #[.agg (cC pc r (.slice ao n cap))] W (CxR W pc r ks))
    (hP : ∀ W, Gr w W → ∀ ao2 n2 cap2 B, Ow eI 1 3 B W (.slice ao2 n2 cap2) ks → Calls Tryd.prog 5 #[.agg #[.slice aoc nc cac, .slice aof nf caf, .slice aot nt cat], .agg (cC pc r (.slice ao2 n2 cap2)), .agg #[.int .u64 ck, .int .i64 sl, .int .i64 gn]] W (StR W pc1 rr ks1 #[.int .i64 q0, .int .i64 q1, .int .i64 q2, .int .i64 q3, .int .i64 q4, .int .i64 q5, .int .i64 q6, .int .i64 q7, .int .i64 q8, .int .i64 q9, .int .i64 q10]))
    (he : q0 = 58 → pc1 = pc ∧ rr = r ∧ ks1 = ks) (hk : Ls eI P w (.slice ao n cap) ks) (hn : n ≤ 17592186044416) (gc oc : Nat) (k a b c : Nat) (im M x : Int) (kp : Nat) (hcx : q0 ≠ 58 → pc = (kp : Int) ∧ kp < nc ∧ aoc = some ⟨gc, oc, none⟩ ∧ gc < w.heap.size ∧ w.cell? ⟨gc, oc + kp, none⟩ = some (.int .u32 x))
    (hD : q0 ≠ 58 → ∀ W, Gr w W → Calls Tryd.prog 9 #[.int .u32 x] W fun e w' => e = .returned (.tuple #[.agg #[.int .i64 (k : Int), .int .i64 (a : Int), .int .i64 (b : Int), .int .i64 (c : Int), .int .i64 im], .int .i64 0]) ∧ Gr W w')
    (hW : q0 ≠ 58 → ∀ W, Gr w W → Calls Tryd.prog 10 #[.agg #[.int .i64 (k : Int), .int .i64 (a : Int), .int .i64 (b : Int), .int .i64 (c : Int), .int .i64 im]] W fun e w' => e = .returned (.tuple #[.int .u16 M, .int .i64 0]) ∧ Gr W w')
    (hA : ∀ W, Gr w W → ∀ ao n cap B, Ow eI 1 3 B W (.slice ao n cap) ks1 → Calls Tryd.prog 11 #[.agg (cC pc1 rr (.slice ao n cap)), .agg #[.int .i64 q1, .int .i64 q2, .int .i64 q3, .int .i64 q4, .int .i64 q5], .int .i64 11, .int .i64 12] W (CxR W pc1 (ans q1 q2 q3 q4 11 12 rr) ks1))
    (hN : q0 ≠ 58 → ∀ j, j < 16 → Bz M j → rr[j]? = r[j]? ∧ (ans q1 q2 q3 q4 11 12 rr)[j]? = r[j]?) :
    Calls Tryd.prog 3 #[.agg #[.slice aoc nc cac, .slice aof nf caf, .slice aot nt cat], .agg (cC pc r (.slice ao n cap)), .agg #[.int .u64 ck, .int .i64 sl, .int .i64 gn]] w fun e w' => e = .returned (.bool true) ∧ Gr w w' := by
  have HSM := hid (fun (W : World) (p : Gr w W) (bo : Option Addr) (m cb b2 : Nat) (h2 : Ow eI 1 3 b2 W (.slice bo m cb) ks) => show Calls Tryd.prog 8 #[.agg (cC pc r (.slice ao n cap)), .agg (cC pc r (.slice bo m cb))] W fun e w' => e = .returned (.bool true) ∧ Gr W w' from by
    have e1 := hk.len.1
    have e2 := h2.len.1
    have hk' := hk.gr p
    have h2' := h2.lst
    subst e2
    rw [e1] at hk' ⊢
    exact same9_any P (b2 ≤ ·) W pc r hr ao bo ks.length cap cb ks hk' h2' (by omega))
  have HE := hid he
  have HCX := hid hcx
  have HD := hid hD
  have HW := hid hW
  have HA := hid hA
  have HN := hid hN
  have HRL := hid hr
  have HRR := hid hrr
  have HAL := hid ((ans_len q1 q2 q3 q4 11 12 rr).trans hrr)
  have HSX := hid (fun (pc : Int) (v : Value) => cC_size (pc := pc) (v := v) HAL.out)
  have HLV := hid (fun (W : World) (p : Gr w W) => lives9_any W (hg.gr p))
  have HT := hid hT
  have HP := hid hP
  have HSZ := hid (fun (pc : Int) (v : Value) => cC_size (pc := pc) (v := v) hr)
  have HSY := hid (fun (pc : Int) (v : Value) => cC_size (pc := pc) (v := v) hrr)
  have hB := Sd.new w #[.slice aoc nc cac, .slice aof nf caf, .slice aot nt cat] (cC pc r (.slice ao n cap)) #[.int .u64 ck, .int .i64 sl, .int .i64 gn]
  clear hT hP hg
  clear hr hrr he hk hn hcx hD hW hA hN
  go_enter Tryd.func3, Tryd.ntmps3
  go_wp2_with fail
  generalize ((w.alloc (.cells #[.slice aoc nc cac, .slice aof nf caf, .slice aot nt cat] 26)).alloc (.cells (cC pc r (.slice ao n cap)) 30)).alloc (.cells #[.int .u64 ck, .int .i64 sl, .int .i64 gn] 35) = W0 at hB ⊢
  have hS0 := hB.drew
  clear hB
  refine Code.wp_mono (Q := MidWr w #[.slice aoc nc cac, .slice aof nf caf, .slice aot nt cat] (cC pc r (.slice ao n cap)) #[.int .u64 ck, .int .i64 sl, .int .i64 gn] pc1 rr ks1 #[.int .i64 q0, .int .i64 q1, .int .i64 q2, .int .i64 q3, .int .i64 q4, .int .i64 q5, .int .i64 q6, .int .i64 q7, .int .i64 q8, .int .i64 q9, .int .i64 q10]) ?_ ?_
  · clear hS0 HT HP
    intro e a W hM; unfold MidWr at hM; obtain ⟨rfl, A, B, ao3, cap3, x0, x1, x2, x6, x9, x10, x11, x12, x13, x14, x15, x16, x17, x18, x19, x20, x21, x22, x23, x24, x25, x26, x27, x28, x29, x30, x31, x32, x33, x34, x35, x36, x37, x38, x39, x40, x41, x42, x43, x44, x45, x46, x47, x48, x49, x50, x51, x52, x53, x54, x55, x56, x57, x58, x59, x60, x61, x62, x63, x64, x65, x66, x67, x68, x69, x70, x71, x72, x73, x74, x75, x76, x77, x78, x79, x80, x81, x82, x83, x84, x85, x86, x87, x88, x89, x90, x91, x92, x93, x94, x95, x96, x97, x98, rfl, hX⟩ := hM
    have X0 := hid hX
    clear hX
    go_upto_region 4 with (go_at_call 7; refine (HLV.out _ X0.out.g).mono ?_; rintro e w1 ⟨rfl, g1⟩; have X1 := hid (X0.out.gr g1); obtain ⟨i0, -⟩ := want_cells9 X1.out.t; clear g1)
    by_cases h58 : q0 = 58
    · obtain ⟨rfl, rfl, rfl⟩ := HE.out h58
      have e58 : (q0 == 58) = true := by rw [h58]; rfl
      clear h58 HD HW HA HN HCX
      go_wp2_with (first
        | (refine wpList_load_row rfl 30 (.tmp 4) rfl (w.heap.size + 1) rfl _ _ _ _ X1.out.c Tryd.underlying30 rfl (ctx_size' (HSZ.out _ _)) ?_)
        | (refine wpList_load_row rfl 30 (.tmp 7) rfl A rfl _ _ _ _ X1.out.d Tryd.underlying30 rfl (ctx_size' (HSY.out _ _)) ?_)
        | (go_at_call 8; refine (HSM.out _ X1.out.g _ _ _ _ X1.out.l.choose_spec).mono ?_; rintro e w7 ⟨rfl, g7⟩; have G7 := hid (Gr.trans X1.out.g g7); clear g7))
      go_ret
      exact ⟨rfl, G7.out⟩
    · obtain ⟨rfl, hkn, rfl, hgl, hcc⟩ := HCX.out h58
      have HD := hid (HD.out h58)
      have HW := hid (HW.out h58)
      have HN := hid (HN.out h58)
      have e58 : (q0 == 58) = false := by simpa using h58
      have p0 : ¬ (kp : Int) < 0 := by omega
      have p1 : ¬ (nc : Int) ≤ (kp : Int) := by omega
      have p2 : (0 : Int) ≤ (kp : Int) := by omega
      have p3 : (kp : Int) < (nc : Int) := by omega
      have c0 := ctx_pc X1.out.c
      have d0 : w1.cell? ⟨w.heap.size, 0, none⟩ = some (.slice (some ⟨gc, oc, none⟩) nc cac) := (cell_of X1.out.p 0).trans rfl
      have x0 : w1.cell? ⟨gc, oc + kp, none⟩ = some (.int .u32 x) := (X1.out.g.cell hgl).trans hcc
      clear h58 hgl hcc HCX HE HSM
      go_upto_region 9 with (first
        | (go_at_call 9; refine (HD.out _ X1.out.g).mono ?_; rintro e w2 ⟨rfl, g2⟩; have X2 := hid (X1.out.gr g2); clear g2 c0 d0 x0 i0)
        | (refine st_row rfl 37 (.tmp 9) (.tmp 50) rfl w2.heap.size _ rfl rfl _ _ (MapKept.heap_alloc w2 _).1 ins_size5 rfl (one_i5 _ _ _ _ _) ?_; intro w3 b3 k3; have X3 := hid (X2.out.gr (gr_alst9 k3)); have I3 := hid b3; clear b3 k3))
      go_upto_region 12 with (first
        | (refine wpList_load_row rfl 37 (.tmp 9) rfl w2.heap.size rfl _ _ _ _ I3.out Tryd.underlying37 rfl ins_size5 ?_)
        | (go_at_call 10; refine (HW.out _ X3.out.g).mono ?_; rintro e w4 ⟨rfl, g4⟩; have X4 := hid (X3.out.gr g4); clear g4))
      go_upto_region 13 with (first
        | (refine wpList_load_row rfl 30 (.tmp 7) rfl A rfl _ _ _ _ X4.out.d Tryd.underlying30 rfl (ctx_size' (HSY.out _ _)) ?_)
        | (refine wpList_exec9 rfl (exec_sub 37 (.tmp 64) rfl B 1 rfl _ _ (wt_sub X4.out.t) Tryd.underlying37 rfl ins_size5) ?_)
        | (go_at_call 11; refine (HA.out _ X4.out.g _ _ _ _ X4.out.l.choose_spec).mono ?_; rintro e w5 ⟨ao8, n8, cap8, rfl, o8, g5⟩; have X5 := hid (X4.out.gr g5); clear o8 g5)
        | (refine st_row rfl 30 (.tmp 13) (.tmp 66) rfl w5.heap.size _ rfl rfl _ _ (MapKept.heap_alloc w5 _).1 (ctx_size' (HSX.out _ _)) (HSX.out _ _).symm cC_one ?_; intro w6 b6 k6; have X6 := hid (X5.out.gr (gr_alst9 k6)); have F6 := hid b6; clear b6 k6))
      have SV0 := hid (show Sv3 w A w5.heap.size (cC (kp : Int) r (.slice ao n cap)) (cC pc1 rr (.slice ao3 ks1.length cap3)) (cC pc1 (ans q1 q2 q3 q4 11 12 rr) (.slice ao8 n8 cap8)) w6 from ⟨X6.out.g, X6.out.c, X6.out.d, F6.out⟩)
      clear X0 X1 X2 X3 X4 X5 X6 I3 F6 p0 p1 p2 p3 e58 HD HW HA HSX HSY HSZ
      generalize w5.heap.size = F at SV0 ⊢
      go_wp2_with fail
      go_loopg [14] 16 (fun q i9 wq => ∃ j : Nat, j + q = 16 ∧ i9 = .int .i64 (j : Int) ∧ Sv3 w A F (cC (kp : Int) r (.slice ao n cap)) (cC pc1 rr (.slice ao3 ks1.length cap3)) (cC pc1 (ans q1 q2 q3 q4 11 12 rr) (.slice ao8 n8 cap8)) wq)
      case atStart => exact ⟨0, by omega, rfl, SV0.out⟩
      case round =>
        obtain ⟨j, hjq, rfl, sv⟩ := hrel
        have SV := hid sv
        by_cases hj : j < 16
        · obtain ⟨y, hy⟩ : ∃ y, r[j]? = some y := ⟨_, List.getElem?_eq_getElem (by rw [HRL.out]; exact hj)⟩
          have j0 : (0 : Int) ≤ (j : Int) := by omega
          have j1 : (j : Int) < 16 := by omega
          have hmj : min (IntKind.u64.wrap (j : Int)).toNat 16 = j := by simp [IntKind.wrap, IntKind.bits, IntKind.signed]; omega
          by_cases hbz : Bz M j
          · obtain ⟨h1, h2⟩ := HN.out j hj hbz
            have y1 := cC_at sv.c hy
            have y2 := cC_at sv.d (h1.trans hy)
            have y3 := cC_at sv.a (h2.trans hy)
            have HBZ := hid (show bits BinOp.and IntKind.u16 (M / 2 ^ j) 1 = 0 from hbz)
            clear h1 h2 hbz hy sv
            go_wp2_with fail
            refine wp_region_any (by kernel_rfl) ?_
            change wpAny _ _ _ _ _ _ _ (World.drew _)
            refine held_here ?_
            refine takeW_on (i := 0) 71 (v := ?s1) rfl rfl (by kernel_rfl) (by kernel_rfl) (by kernel_rfl) (fun _ _ _ h => h) (by kernel_rfl) ?hs1 ?_
            case hs1 => (go_simp; try (with_reducible rfl))
            simp only [Act.put, List.setIfInBounds_toArray, List.set_cons_zero, List.set_cons_succ]
            refine takeW_on (i := 1) 72 (v := ?s2) rfl rfl (by kernel_rfl) (by kernel_rfl) (by kernel_rfl) (fun _ _ _ h => h) (by kernel_rfl) ?hs2 ?_
            case hs2 => (go_simp; try (with_reducible rfl))
            simp only [Act.put, List.setIfInBounds_toArray, List.set_cons_zero, List.set_cons_succ]
            refine takeW_on (i := 2) 73 (v := ?s3) rfl rfl (by kernel_rfl) (by kernel_rfl) (by kernel_rfl) (fun _ _ _ h => h) (by kernel_rfl) ?hs3 ?_
            case hs3 => (go_simp; try (with_reducible rfl))
            simp only [Act.put, List.setIfInBounds_toArray, List.set_cons_zero, List.set_cons_succ]
            refine takeW_on (i := 3) 74 (v := ?s4) rfl rfl (by kernel_rfl) (by kernel_rfl) (by kernel_rfl) (fun _ _ _ h => h) (by kernel_rfl) ?hs4 ?_
            case hs4 => (go_simp; try (with_reducible rfl))
            simp only [Act.put, List.setIfInBounds_toArray, List.set_cons_zero, List.set_cons_succ]
            refine takeW_on (i := 4) 75 (v := ?s5) rfl rfl (by kernel_rfl) (by kernel_rfl) (by kernel_rfl) (fun _ _ _ h => h) (by kernel_rfl) ?hs5 ?_
            case hs5 => (go_simp; try (with_reducible rfl))
            simp only [Act.put, List.setIfInBounds_toArray, List.set_cons_zero, List.set_cons_succ]
            refine takeW_on (i := 5) 76 (v := .bool true) rfl rfl (by kernel_rfl) (by kernel_rfl) (by kernel_rfl) (fun _ _ _ h => h) (by kernel_rfl) ?hs6 ?_
            case hs6 => (have hbz := HBZ.out; go_simp; try exact hbz)
            simp only [Act.put, List.setIfInBounds_toArray, List.set_cons_zero, List.set_cons_succ]
            refine takeW_on (i := 6) 77 (v := ?s7) rfl rfl (by kernel_rfl) (by kernel_rfl) (by kernel_rfl) (fun _ _ _ h => h) (by kernel_rfl) ?hs7 ?_
            case hs7 => (go_simp; try (with_reducible rfl))
            simp only [Act.put, List.setIfInBounds_toArray, List.set_cons_zero, List.set_cons_succ]
            refine takeW_on (i := 7) 78 (v := ?s8) rfl rfl (by kernel_rfl) (by kernel_rfl) (by kernel_rfl) (fun _ _ _ h => h) (by kernel_rfl) ?hs8 ?_
            case hs8 => (go_simp; try (with_reducible rfl))
            simp only [Act.put, List.setIfInBounds_toArray, List.set_cons_zero, List.set_cons_succ]
            refine takeW_on (i := 8) 79 (v := ?s9) rfl rfl (by kernel_rfl) (by kernel_rfl) (by kernel_rfl) (fun _ _ _ h => h) (by kernel_rfl) ?hs9 ?_
            case hs9 => (go_simp; try (with_reducible rfl))
            simp only [Act.put, List.setIfInBounds_toArray, List.set_cons_zero, List.set_cons_succ]
            refine takeW_on (i := 9) 80 (v := ?s10) rfl rfl (by kernel_rfl) (by kernel_rfl) (by kernel_rfl) (fun _ _ _ h => h) (by kernel_rfl) ?hs10 ?_
            case hs10 => (go_simp; try (with_reducible rfl))
            simp only [Act.put, List.setIfInBounds_toArray, List.set_cons_zero, List.set_cons_succ]
            refine takeW_on (i := 10) 81 (v := ?s11) rfl rfl (by kernel_rfl) (by kernel_rfl) (by kernel_rfl) (fun _ _ _ h => h) (by kernel_rfl) ?hs11 ?_
            case hs11 => (go_simp; try (with_reducible rfl))
            simp only [Act.put, List.setIfInBounds_toArray, List.set_cons_zero, List.set_cons_succ]
            refine takeW_on (i := 11) 82 (v := ?s12) rfl rfl (by kernel_rfl) (by kernel_rfl) (by kernel_rfl) (fun _ _ _ h => h) (by kernel_rfl) ?hs12 ?_
            case hs12 => (go_simp; try (with_reducible rfl))
            simp only [Act.put, List.setIfInBounds_toArray, List.set_cons_zero, List.set_cons_succ]
            refine takeW_on (i := 12) 83 (v := ?s13) rfl rfl (by kernel_rfl) (by kernel_rfl) (by kernel_rfl) (fun _ _ _ h => h) (by kernel_rfl) ?hs13 ?_
            case hs13 => (go_simp; try (with_reducible rfl))
            simp only [Act.put, List.setIfInBounds_toArray, List.set_cons_zero, List.set_cons_succ]
            refine takeW_on (i := 13) 84 (v := ?s14) rfl rfl (by kernel_rfl) (by kernel_rfl) (by kernel_rfl) (fun _ _ _ h => h) (by kernel_rfl) ?hs14 ?_
            case hs14 => (go_simp; try (with_reducible rfl))
            simp only [Act.put, List.setIfInBounds_toArray, List.set_cons_zero, List.set_cons_succ]
            refine takeW_on (i := 14) 85 (v := ?s15) rfl rfl (by kernel_rfl) (by kernel_rfl) (by kernel_rfl) (fun _ _ _ h => h) (by kernel_rfl) ?hs15 ?_
            case hs15 => (go_simp; try (with_reducible rfl))
            simp only [Act.put, List.setIfInBounds_toArray, List.set_cons_zero, List.set_cons_succ]
            refine takeW_on (i := 15) 86 (v := ?s16) rfl rfl (by kernel_rfl) (by kernel_rfl) (by kernel_rfl) (fun _ _ _ h => h) (by kernel_rfl) ?hs16 ?_
            case hs16 => (go_simp; try (with_reducible rfl))
            simp only [Act.put, List.setIfInBounds_toArray, List.set_cons_zero, List.set_cons_succ]
            refine takeW_on (i := 16) 87 (v := ?s17) rfl rfl (by kernel_rfl) (by kernel_rfl) (by kernel_rfl) (fun _ _ _ h => h) (by kernel_rfl) ?hs17 ?_
            case hs17 => (go_simp; try (with_reducible rfl))
            simp only [Act.put, List.setIfInBounds_toArray, List.set_cons_zero, List.set_cons_succ]
            refine takeW_on (i := 17) 88 (v := ?s18) rfl rfl (by kernel_rfl) (by kernel_rfl) (by kernel_rfl) (fun _ _ _ h => h) (by kernel_rfl) ?hs18 ?_
            case hs18 => (go_simp; try (with_reducible rfl))
            simp only [Act.put, List.setIfInBounds_toArray, List.set_cons_zero, List.set_cons_succ]
            refine takeW_on (i := 18) 89 (v := ?s19) rfl rfl (by kernel_rfl) (by kernel_rfl) (by kernel_rfl) (fun _ _ _ h => h) (by kernel_rfl) ?hs19 ?_
            case hs19 => (go_simp; try (with_reducible rfl))
            simp only [Act.put, List.setIfInBounds_toArray, List.set_cons_zero, List.set_cons_succ]
            refine takeW_on (i := 19) 90 (v := ?s20) rfl rfl (by kernel_rfl) (by kernel_rfl) (by kernel_rfl) (fun _ _ _ h => h) (by kernel_rfl) ?hs20 ?_
            case hs20 => (go_simp; try (with_reducible rfl))
            simp only [Act.put, List.setIfInBounds_toArray, List.set_cons_zero, List.set_cons_succ]
            refine takeW_on (i := 20) 91 (v := ?s21) rfl rfl (by kernel_rfl) (by kernel_rfl) (by kernel_rfl) (fun _ _ _ h => h) (by kernel_rfl) ?hs21 ?_
            case hs21 => (go_simp; try (with_reducible rfl))
            simp only [Act.put, List.setIfInBounds_toArray, List.set_cons_zero, List.set_cons_succ]
            refine takeW_on (i := 21) 92 (v := ?s22) rfl rfl (by kernel_rfl) (by kernel_rfl) (by kernel_rfl) (fun _ _ _ h => h) (by kernel_rfl) ?hs22 ?_
            case hs22 => (go_simp; try (with_reducible rfl))
            simp only [Act.put, List.setIfInBounds_toArray, List.set_cons_zero, List.set_cons_succ]
            refine takeW_on (i := 22) 93 (v := ?s23) rfl rfl (by kernel_rfl) (by kernel_rfl) (by kernel_rfl) (fun _ _ _ h => h) (by kernel_rfl) ?hs23 ?_
            case hs23 => (go_simp; try (with_reducible rfl))
            simp only [Act.put, List.setIfInBounds_toArray, List.set_cons_zero, List.set_cons_succ]
            refine takeW_on (i := 23) 94 (v := ?s24) rfl rfl (by kernel_rfl) (by kernel_rfl) (by kernel_rfl) (fun _ _ _ h => h) (by kernel_rfl) ?hs24 ?_
            case hs24 => (go_simp; try (with_reducible rfl))
            simp only [Act.put, List.setIfInBounds_toArray, List.set_cons_zero, List.set_cons_succ]
            refine takeW_on (i := 24) 95 (v := ?s25) rfl rfl (by kernel_rfl) (by kernel_rfl) (by kernel_rfl) (fun _ _ _ h => h) (by kernel_rfl) ?hs25 ?_
            case hs25 => (go_simp; try (with_reducible rfl))
            simp only [Act.put, List.setIfInBounds_toArray, List.set_cons_zero, List.set_cons_succ]
            refine takeW_on (i := 25) 96 (v := ?s26) rfl rfl (by kernel_rfl) (by kernel_rfl) (by kernel_rfl) (fun _ _ _ h => h) (by kernel_rfl) ?hs26 ?_
            case hs26 => (go_simp; try (with_reducible rfl))
            simp only [Act.put, List.setIfInBounds_toArray, List.set_cons_zero, List.set_cons_succ]
            refine takeW_on (i := 26) 97 (v := ?s27) rfl rfl (by kernel_rfl) (by kernel_rfl) (by kernel_rfl) (fun _ _ _ h => h) (by kernel_rfl) ?hs27 ?_
            case hs27 => (go_simp; try (with_reducible rfl))
            simp only [Act.put, List.setIfInBounds_toArray, List.set_cons_zero, List.set_cons_succ]
            refine takeW_on (i := 27) 98 (v := ?s28) rfl rfl (by kernel_rfl) (by kernel_rfl) (by kernel_rfl) (fun _ _ _ h => h) (by kernel_rfl) ?hs28 ?_
            case hs28 => (go_simp; try (with_reducible rfl))
            simp only [Act.put, List.setIfInBounds_toArray, List.set_cons_zero, List.set_cons_succ]
            refine wpAnyH_done (by kernel_rfl) ?_ _
            go_wp2_with fail
            go_roundg (gk - 1)
            case measure => omega
            case rel => exact ⟨j + 1, by omega, by simp, SV.out.drew⟩

          · have HBZ := hid (show ¬ bits BinOp.and IntKind.u16 (M / 2 ^ j) 1 = 0 from hbz)
            clear hbz hy sv
            go_wp2_with fail
            refine wp_region_any (by kernel_rfl) ?_
            change wpAny _ _ _ _ _ _ _ (World.drew _)
            refine take_on (i := 0) 71 (v := ?s29) rfl rfl (by kernel_rfl) (by kernel_rfl) (by kernel_rfl) (fun _ _ _ h => h) (by kernel_rfl) ?hs29 ?_
            case hs29 => (intro w; go_simp; try (with_reducible rfl))
            simp only [Act.put, List.setIfInBounds_toArray, List.set_cons_zero, List.set_cons_succ]
            refine take_on (i := 1) 72 (v := ?s30) rfl rfl (by kernel_rfl) (by kernel_rfl) (by kernel_rfl) (fun _ _ _ h => h) (by kernel_rfl) ?hs30 ?_
            case hs30 => (intro w; go_simp; try (with_reducible rfl))
            simp only [Act.put, List.setIfInBounds_toArray, List.set_cons_zero, List.set_cons_succ]
            refine take_on (i := 2) 73 (v := ?s31) rfl rfl (by kernel_rfl) (by kernel_rfl) (by kernel_rfl) (fun _ _ _ h => h) (by kernel_rfl) ?hs31 ?_
            case hs31 => (intro w; go_simp; try (with_reducible rfl))
            simp only [Act.put, List.setIfInBounds_toArray, List.set_cons_zero, List.set_cons_succ]
            refine take_on (i := 3) 74 (v := ?s32) rfl rfl (by kernel_rfl) (by kernel_rfl) (by kernel_rfl) (fun _ _ _ h => h) (by kernel_rfl) ?hs32 ?_
            case hs32 => (intro w; go_simp; try (with_reducible rfl))
            simp only [Act.put, List.setIfInBounds_toArray, List.set_cons_zero, List.set_cons_succ]
            refine take_on (i := 4) 75 (v := ?s33) rfl rfl (by kernel_rfl) (by kernel_rfl) (by kernel_rfl) (fun _ _ _ h => h) (by kernel_rfl) ?hs33 ?_
            case hs33 => (intro w; go_simp; try (with_reducible rfl))
            simp only [Act.put, List.setIfInBounds_toArray, List.set_cons_zero, List.set_cons_succ]
            refine take_on (i := 5) 76 (v := .bool false) rfl rfl (by kernel_rfl) (by kernel_rfl) (by kernel_rfl) (fun _ _ _ h => h) (by kernel_rfl) ?hs34 ?_
            case hs34 => (intro w; have hbz := HBZ.out; go_simp; try exact hbz)
            simp only [Act.put, List.setIfInBounds_toArray, List.set_cons_zero, List.set_cons_succ]
            refine take_on (i := 6) 77 (v := ?s35) rfl rfl (by kernel_rfl) (by kernel_rfl) (by kernel_rfl) (fun _ _ _ h => h) (by kernel_rfl) ?hs35 ?_
            case hs35 => (intro w; go_simp; try (with_reducible rfl))
            simp only [Act.put, List.setIfInBounds_toArray, List.set_cons_zero, List.set_cons_succ]
            refine skip_on (i := 7) 78 rfl rfl (by kernel_rfl) (by kernel_rfl) (by kernel_rfl) (fun _ _ _ h => h) (by kernel_rfl) ?_
            simp only [Act.put, List.setIfInBounds_toArray, List.set_cons_zero, List.set_cons_succ]
            refine skip_on (i := 8) 79 rfl rfl (by kernel_rfl) (by kernel_rfl) (by kernel_rfl) (fun _ _ _ h => h) (by kernel_rfl) ?_
            simp only [Act.put, List.setIfInBounds_toArray, List.set_cons_zero, List.set_cons_succ]
            refine skip_on (i := 9) 80 rfl rfl (by kernel_rfl) (by kernel_rfl) (by kernel_rfl) (fun _ _ _ h => h) (by kernel_rfl) ?_
            simp only [Act.put, List.setIfInBounds_toArray, List.set_cons_zero, List.set_cons_succ]
            refine skip_on (i := 10) 81 rfl rfl (by kernel_rfl) (by kernel_rfl) (by kernel_rfl) (fun _ _ _ h => h) (by kernel_rfl) ?_
            simp only [Act.put, List.setIfInBounds_toArray, List.set_cons_zero, List.set_cons_succ]
            refine skip_on (i := 11) 82 rfl rfl (by kernel_rfl) (by kernel_rfl) (by kernel_rfl) (fun _ _ _ h => h) (by kernel_rfl) ?_
            simp only [Act.put, List.setIfInBounds_toArray, List.set_cons_zero, List.set_cons_succ]
            refine skip_on (i := 12) 83 rfl rfl (by kernel_rfl) (by kernel_rfl) (by kernel_rfl) (fun _ _ _ h => h) (by kernel_rfl) ?_
            simp only [Act.put, List.setIfInBounds_toArray, List.set_cons_zero, List.set_cons_succ]
            refine skip_on (i := 13) 84 rfl rfl (by kernel_rfl) (by kernel_rfl) (by kernel_rfl) (fun _ _ _ h => h) (by kernel_rfl) ?_
            simp only [Act.put, List.setIfInBounds_toArray, List.set_cons_zero, List.set_cons_succ]
            refine skip_on (i := 14) 85 rfl rfl (by kernel_rfl) (by kernel_rfl) (by kernel_rfl) (fun _ _ _ h => h) (by kernel_rfl) ?_
            simp only [Act.put, List.setIfInBounds_toArray, List.set_cons_zero, List.set_cons_succ]
            refine skip_on (i := 15) 86 rfl rfl (by kernel_rfl) (by kernel_rfl) (by kernel_rfl) (fun _ _ _ h => h) (by kernel_rfl) ?_
            simp only [Act.put, List.setIfInBounds_toArray, List.set_cons_zero, List.set_cons_succ]
            refine skip_on (i := 16) 87 rfl rfl (by kernel_rfl) (by kernel_rfl) (by kernel_rfl) (fun _ _ _ h => h) (by kernel_rfl) ?_
            simp only [Act.put, List.setIfInBounds_toArray, List.set_cons_zero, List.set_cons_succ]
            refine skip_on (i := 17) 88 rfl rfl (by kernel_rfl) (by kernel_rfl) (by kernel_rfl) (fun _ _ _ h => h) (by kernel_rfl) ?_
            simp only [Act.put, List.setIfInBounds_toArray, List.set_cons_zero, List.set_cons_succ]
            refine skip_on (i := 18) 89 rfl rfl (by kernel_rfl) (by kernel_rfl) (by kernel_rfl) (fun _ _ _ h => h) (by kernel_rfl) ?_
            simp only [Act.put, List.setIfInBounds_toArray, List.set_cons_zero, List.set_cons_succ]
            refine skip_on (i := 19) 90 rfl rfl (by kernel_rfl) (by kernel_rfl) (by kernel_rfl) (fun _ _ _ h => h) (by kernel_rfl) ?_
            simp only [Act.put, List.setIfInBounds_toArray, List.set_cons_zero, List.set_cons_succ]
            refine skip_on (i := 20) 91 rfl rfl (by kernel_rfl) (by kernel_rfl) (by kernel_rfl) (fun _ _ _ h => h) (by kernel_rfl) ?_
            simp only [Act.put, List.setIfInBounds_toArray, List.set_cons_zero, List.set_cons_succ]
            refine skip_on (i := 21) 92 rfl rfl (by kernel_rfl) (by kernel_rfl) (by kernel_rfl) (fun _ _ _ h => h) (by kernel_rfl) ?_
            simp only [Act.put, List.setIfInBounds_toArray, List.set_cons_zero, List.set_cons_succ]
            refine skip_on (i := 22) 93 rfl rfl (by kernel_rfl) (by kernel_rfl) (by kernel_rfl) (fun _ _ _ h => h) (by kernel_rfl) ?_
            simp only [Act.put, List.setIfInBounds_toArray, List.set_cons_zero, List.set_cons_succ]
            refine skip_on (i := 23) 94 rfl rfl (by kernel_rfl) (by kernel_rfl) (by kernel_rfl) (fun _ _ _ h => h) (by kernel_rfl) ?_
            simp only [Act.put, List.setIfInBounds_toArray, List.set_cons_zero, List.set_cons_succ]
            refine skip_on (i := 24) 95 rfl rfl (by kernel_rfl) (by kernel_rfl) (by kernel_rfl) (fun _ _ _ h => h) (by kernel_rfl) ?_
            simp only [Act.put, List.setIfInBounds_toArray, List.set_cons_zero, List.set_cons_succ]
            refine skip_on (i := 25) 96 rfl rfl (by kernel_rfl) (by kernel_rfl) (by kernel_rfl) (fun _ _ _ h => h) (by kernel_rfl) ?_
            simp only [Act.put, List.setIfInBounds_toArray, List.set_cons_zero, List.set_cons_succ]
            refine skip_on (i := 26) 97 rfl rfl (by kernel_rfl) (by kernel_rfl) (by kernel_rfl) (fun _ _ _ h => h) (by kernel_rfl) ?_
            simp only [Act.put, List.setIfInBounds_toArray, List.set_cons_zero, List.set_cons_succ]
            refine take_on (i := 27) 98 (v := ?s56) rfl rfl (by kernel_rfl) (by kernel_rfl) (by kernel_rfl) (fun _ _ _ h => h) (by kernel_rfl) ?hs56 ?_
            case hs56 => (intro w; go_simp; try (with_reducible rfl))
            simp only [Act.put, List.setIfInBounds_toArray, List.set_cons_zero, List.set_cons_succ]
            refine wpAny_done (by kernel_rfl) ?_ _
            go_wp2_with fail
            go_roundg (gk - 1)
            case measure => omega
            case rel => exact ⟨j + 1, by omega, by simp, SV.out.drew⟩

        · have jn : ¬ (j : Int) < 16 := by omega
          clear sv
          go_wp2_with fail
          go_ret
          exact ⟨rfl, SV.out.g⟩
  · clear HD HW HA HN HLV HCX HE HSM
    refine wp_region_held_drew (S := Sd w #[.slice aoc nc cac, .slice aof nf caf, .slice aot nt cat] (cC pc r (.slice ao n cap)) #[.int .u64 ck, .int .i64 sl, .int .i64 gn]) (by kernel_rfl) (by exact hS0) (fun _ => ?_)
    generalize World.drew W0 = V0 at hS0 ⊢
    refine takeS_on (i := 0) 16 (v := ?v1) rfl rfl (by kernel_rfl) (by kernel_rfl) (by kernel_rfl) (fun _ _ _ h => nomatch h.1) (by kernel_rfl) ?hy1 (by exact hS0) ?_
    case hy1 => (intro w' hSw; refine Eq.trans (exec_row 26 (.tmp 3) rfl _ rfl _ _ _ _ hSw.p Tryd.underlying26 rfl prog_size3) ?_; with_reducible rfl)
    simp only [Act.put, List.setIfInBounds_toArray, List.set_cons_zero, List.set_cons_succ]
    refine takeS_on (i := 1) 17 (v := ?v2) rfl rfl (by kernel_rfl) (by kernel_rfl) (by kernel_rfl) (fun _ _ _ h => nomatch h.1) (by kernel_rfl) ?hy2 (by exact hS0) ?_
    case hy2 => (intro w' hSw; refine Eq.trans (exec_row 30 (.tmp 4) rfl _ rfl _ _ _ _ hSw.c Tryd.underlying30 rfl (ctx_size' (HSZ.out _ _))) ?_; with_reducible rfl)
    simp only [Act.put, List.setIfInBounds_toArray, List.set_cons_zero, List.set_cons_succ]
    refine takeS_on (i := 3) 19 (v := ?v3) rfl rfl (by kernel_rfl) (by kernel_rfl) (by kernel_rfl) (fun _ _ _ h => nomatch h.1) (by kernel_rfl) ?hy3 (by exact hS0) ?_
    case hy3 => (intro w' hSw; refine Eq.trans (exec_row 35 (.tmp 5) rfl _ rfl _ _ _ _ hSw.e Tryd.underlying35 rfl env_size) ?_; with_reducible rfl)
    simp only [Act.put, List.setIfInBounds_toArray, List.set_cons_zero, List.set_cons_succ]
    refine wpAnyH_ready (rs := [2, 8, 9]) (by kernel_rfl) (by simp) (AllReadyH.cons rfl (fun K hK => ?_) (AllReadyH.cons rfl (fun K hK => ?_) (AllReadyH.cons rfl (fun K hK => ?_) AllReadyH.nil)))
    · go_simp
      refine (HT.out _ hS0.g).mono ?_
      rintro e w1 ⟨ao2, n2, cap2, rfl, o2, g1⟩
      have hS1 := hS0.gr g1
      have OT := hid o2
      clear o2 g1
      refine hK.out _ _ (by exact hS1) (fun _ => ?_)
      clear hK K
      refine wpAnyH_ready (rs := [4, 8, 9]) (by kernel_rfl) (by simp) (AllReadyH.cons rfl (fun K hK => ?_) (AllReadyH.cons rfl (fun K hK => ?_) (AllReadyH.cons rfl (fun K hK => ?_) AllReadyH.nil)))
      · go_simp
        refine (HP.out _ hS1.g _ _ _ _ OT.out).mono ?_
        rintro e w2 ⟨ao3, n3, cap3, rfl, o3, g2⟩
        obtain rfl : n3 = ks1.length := o3.len.1
        have hS2 := hS1.gr g2
        have OD := hid o3
        clear o3 OT g2
        refine hK.out _ _ (by exact hS2) (fun _ => ?_)
        clear hK K
        refine takeS_on (i := 5) 15 (v := ?v4) rfl rfl (by kernel_rfl) (by kernel_rfl) (by kernel_rfl) (fun _ _ _ h => nomatch h.1) (by kernel_rfl) ?hy4 (by exact hS2) ?_
        case hy4 => (intro w' hSw; go_simp; try (with_reducible rfl))
        simp only [Act.put, List.setIfInBounds_toArray, List.set_cons_zero, List.set_cons_succ]
        refine takeS_on (i := 6) 21 (v := ?v5) rfl rfl (by kernel_rfl) (by kernel_rfl) (by kernel_rfl) (fun _ _ _ h => nomatch h.1) (by kernel_rfl) ?hy5 (by exact hS2) ?_
        case hy5 => (intro w' hSw; go_simp; try (with_reducible rfl))
        simp only [Act.put, List.setIfInBounds_toArray, List.set_cons_zero, List.set_cons_succ]
        refine takeS_on (i := 7) 22 (v := ?v6) rfl rfl (by kernel_rfl) (by kernel_rfl) (by kernel_rfl) (fun _ _ _ h => nomatch h.1) (by kernel_rfl) ?hy6 (by exact hS2) ?_
        case hy6 => (intro w' hSw; go_simp; try (with_reducible rfl))
        simp only [Act.put, List.setIfInBounds_toArray, List.set_cons_zero, List.set_cons_succ]
        refine wpAnyH_ready (rs := [8, 9]) (by kernel_rfl) (by simp) (AllReadyH.cons rfl (fun K hK => ?_) (AllReadyH.cons rfl (fun K hK => ?_) AllReadyH.nil))
        · go_simp
          have g3 : Gr w2 (w2.alloc (.cells #[.int .i64 0, .int .i64 0, .int .i64 0, .int .i64 0, .int .i64 0, .int .i64 0, .int .i64 0, .int .i64 0, .int .i64 0, .int .i64 0, .int .i64 0, .int .i64 0, .int .i64 0, .int .i64 0, .int .i64 0, .int .i64 0, .int .i64 0, .slice none 0 0] 30)) := Ch.alloc (Gr.refl _) _
          have LA := hid (show w.heap.size + 2 < w2.heap.size from lt_of_block hS2.e)
          have NA := hid (fun (q : Nat) (hq : Blk (.slice ao3 ks1.length cap3) q) => show q ≠ w2.heap.size from by have l2 := (OD.out.blk hq).2; omega)
          have hS3 := hS2.gr g3
          have OD := hid (OD.out.gr g3)
          have AA := hid (show (w2.alloc (.cells #[.int .i64 0, .int .i64 0, .int .i64 0, .int .i64 0, .int .i64 0, .int .i64 0, .int .i64 0, .int .i64 0, .int .i64 0, .int .i64 0, .int .i64 0, .int .i64 0, .int .i64 0, .int .i64 0, .int .i64 0, .int .i64 0, .int .i64 0, .slice none 0 0] 30)).heap[w2.heap.size]? = some (.cells #[.int .i64 0, .int .i64 0, .int .i64 0, .int .i64 0, .int .i64 0, .int .i64 0, .int .i64 0, .int .i64 0, .int .i64 0, .int .i64 0, .int .i64 0, .int .i64 0, .int .i64 0, .int .i64 0, .int .i64 0, .int .i64 0, .int .i64 0, .slice none 0 0] 30 (0, 0)) from (MapKept.heap_alloc w2 (.cells #[.int .i64 0, .int .i64 0, .int .i64 0, .int .i64 0, .int .i64 0, .int .i64 0, .int .i64 0, .int .i64 0, .int .i64 0, .int .i64 0, .int .i64 0, .int .i64 0, .int .i64 0, .int .i64 0, .int .i64 0, .int .i64 0, .int .i64 0, .slice none 0 0] 30)).1)
          clear g3
          generalize w2.alloc (.cells #[.int .i64 0, .int .i64 0, .int .i64 0, .int .i64 0, .int .i64 0, .int .i64 0, .int .i64 0, .int .i64 0, .int .i64 0, .int .i64 0, .int .i64 0, .int .i64 0, .int .i64 0, .int .i64 0, .int .i64 0, .int .i64 0, .int .i64 0, .slice none 0 0] 30) = w3 at hS3 OD AA ⊢
          refine hK.out _ _ (by exact hS3) (fun _ => ?_)
          clear hK K
          refine wpAnyH_ready (rs := [9]) (by kernel_rfl) (by simp) (AllReadyH.cons rfl (fun K hK => ?_) AllReadyH.nil)
          go_simp
          have g4 : Gr w3 (w3.alloc (.cells #[.int .i64 0, .int .i64 0, .int .i64 0, .int .i64 0, .int .i64 0, .int .i64 0, .int .i64 0, .int .i64 0, .int .i64 0, .int .i64 0, .int .i64 0] 40)) := Ch.alloc (Gr.refl _) _
          have LB := hid (show w.heap.size + 2 < w3.heap.size from lt_of_block hS3.e)
          have NB := hid (fun (q : Nat) (hq : Blk (.slice ao3 ks1.length cap3) q) => show q ≠ w3.heap.size from by have l2 := (OD.out.blk hq).2; omega)
          have NAB := hid (show w3.heap.size ≠ w2.heap.size from by have := lt_of_block AA.out; omega)
          have hS4 := hS3.gr g4
          have OD := hid (OD.out.gr g4)
          have AA := hid (gr_blk AA.out g4)
          have BB := hid (show (w3.alloc (.cells #[.int .i64 0, .int .i64 0, .int .i64 0, .int .i64 0, .int .i64 0, .int .i64 0, .int .i64 0, .int .i64 0, .int .i64 0, .int .i64 0, .int .i64 0] 40)).heap[w3.heap.size]? = some (.cells #[.int .i64 0, .int .i64 0, .int .i64 0, .int .i64 0, .int .i64 0, .int .i64 0, .int .i64 0, .int .i64 0, .int .i64 0, .int .i64 0, .int .i64 0] 40 (0, 0)) from (MapKept.heap_alloc w3 (.cells #[.int .i64 0, .int .i64 0, .int .i64 0, .int .i64 0, .int .i64 0, .int .i64 0, .int .i64 0, .int .i64 0, .int .i64 0, .int .i64 0, .int .i64 0] 40)).1)
          clear g4
          generalize w3.alloc (.cells #[.int .i64 0, .int .i64 0, .int .i64 0, .int .i64 0, .int .i64 0, .int .i64 0, .int .i64 0, .int .i64 0, .int .i64 0, .int .i64 0, .int .i64 0] 40) = w4 at hS4 OD AA BB ⊢
          refine hK.out _ _ (by exact hS4) (fun _ => ?_)
          clear hK K
          refine wpAnyH_ready (rs := [10]) (by kernel_rfl) (by simp) (AllReadyH.cons rfl (fun K hK => ?_) AllReadyH.nil)
          rw [if_pos (by kernel_rfl)]
          refine wp_store_row 30 (.tmp 7) (.tmp 21) rfl w2.heap.size (cC pc1 rr (.slice ao3 ks1.length cap3)) rfl rfl _ _ AA.out (ctx_size' (HSY.out _ _)) (HSY.out _ _).symm cC_one ?_
          have k9 := setRow_ch w4 w2.heap.size (cC pc1 rr (.slice ao3 ks1.length cap3))
          have hS5 := hS4.st k9 LA.out
          have OD := hid (OD.out.ch k9 (fun q hq e => NA.out q hq e))
          have BB := hid ((k9.block _ (lt_of_block BB.out) (fun e => NAB.out e)).trans BB.out)
          have AA := hid (setRow_blk (c := (cC pc1 rr (.slice ao3 ks1.length cap3))) AA.out)
          clear k9
          generalize w4.setRow w2.heap.size (cC pc1 rr (.slice ao3 ks1.length cap3)) = w5 at hS5 AA BB OD ⊢
          refine hK.out _ _ (by exact hS5) (fun _ => ?_)
          clear hK K
          refine wpAnyH_ready (rs := [11]) (by kernel_rfl) (by simp) (AllReadyH.cons rfl (fun K hK => ?_) AllReadyH.nil)
          rw [if_pos (by kernel_rfl)]
          refine wp_store_row 40 (.tmp 8) (.tmp 22) rfl w3.heap.size #[.int .i64 q0, .int .i64 q1, .int .i64 q2, .int .i64 q3, .int .i64 q4, .int .i64 q5, .int .i64 q6, .int .i64 q7, .int .i64 q8, .int .i64 q9, .int .i64 q10] rfl rfl _ _ BB.out want_size rfl (wt_one _ _ _ _ _ _ _ _ _ _ _) ?_
          have k9 := setRow_ch w5 w3.heap.size #[.int .i64 q0, .int .i64 q1, .int .i64 q2, .int .i64 q3, .int .i64 q4, .int .i64 q5, .int .i64 q6, .int .i64 q7, .int .i64 q8, .int .i64 q9, .int .i64 q10]
          have hS6 := hS5.st k9 LB.out
          have OD := hid (OD.out.ch k9 (fun q hq e => NB.out q hq e))
          have AA := hid ((k9.block _ (lt_of_block AA.out) (fun e => NAB.out e.symm)).trans AA.out)
          have BB := hid (setRow_blk (c := #[.int .i64 q0, .int .i64 q1, .int .i64 q2, .int .i64 q3, .int .i64 q4, .int .i64 q5, .int .i64 q6, .int .i64 q7, .int .i64 q8, .int .i64 q9, .int .i64 q10]) BB.out)
          clear k9
          generalize w5.setRow w3.heap.size #[.int .i64 q0, .int .i64 q1, .int .i64 q2, .int .i64 q3, .int .i64 q4, .int .i64 q5, .int .i64 q6, .int .i64 q7, .int .i64 q8, .int .i64 q9, .int .i64 q10] = w6 at hS6 AA BB OD ⊢
          refine hK.out _ _ (by exact hS6) (fun _ => ?_)
          clear hK K
          refine wpAnyH_done (by kernel_rfl) ?_ _
          unfold MidWr
          exact ⟨rfl, w2.heap.size, w3.heap.size, ao3, cap3, _, _, _, _, _, _, _, _, _, _, _, _, _, _, _, _, _, _, _, _, _, _, _, _, _, _, _, _, _, _, _, _, _, _, _, _, _, _, _, _, _, _, _, _, _, _, _, _, _, _, _, _, _, _, _, _, _, _, _, _, _, _, _, _, _, _, _, _, _, _, _, _, _, _, _, _, _, _, _, _, _, _, _, _, _, _, _, _, _, _, _, _, _, _, rfl, ⟨hS6.g, hS6.p, hS6.c, hS6.e, AA.out, BB.out, ⟨_, OD.out⟩⟩⟩
        · go_simp
          have g3 : Gr w2 (w2.alloc (.cells #[.int .i64 0, .int .i64 0, .int .i64 0, .int .i64 0, .int .i64 0, .int .i64 0, .int .i64 0, .int .i64 0, .int .i64 0, .int .i64 0, .int .i64 0] 40)) := Ch.alloc (Gr.refl _) _
          have LB := hid (show w.heap.size + 2 < w2.heap.size from lt_of_block hS2.e)
          have NB := hid (fun (q : Nat) (hq : Blk (.slice ao3 ks1.length cap3) q) => show q ≠ w2.heap.size from by have l2 := (OD.out.blk hq).2; omega)
          have hS3 := hS2.gr g3
          have OD := hid (OD.out.gr g3)
          have BB := hid (show (w2.alloc (.cells #[.int .i64 0, .int .i64 0, .int .i64 0, .int .i64 0, .int .i64 0, .int .i64 0, .int .i64 0, .int .i64 0, .int .i64 0, .int .i64 0, .int .i64 0] 40)).heap[w2.heap.size]? = some (.cells #[.int .i64 0, .int .i64 0, .int .i64 0, .int .i64 0, .int .i64 0, .int .i64 0, .int .i64 0, .int .i64 0, .int .i64 0, .int .i64 0, .int .i64 0] 40 (0, 0)) from (MapKept.heap_alloc w2 (.cells #[.int .i64 0, .int .i64 0, .int .i64 0, .int .i64 0, .int .i64 0, .int .i64 0, .int .i64 0, .int .i64 0, .int .i64 0, .int .i64 0, .int .i64 0] 40)).1)
          clear g3
          generalize w2.alloc (.cells #[.int .i64 0, .int .i64 0, .int .i64 0, .int .i64 0, .int .i64 0, .int .i64 0, .int .i64 0, .int .i64 0, .int .i64 0, .int .i64 0, .int .i64 0] 40) = w3 at hS3 OD BB ⊢
          refine hK.out _ _ (by exact hS3) (fun _ => ?_)
          clear hK K
          refine wpAnyH_ready (rs := [8]) (by kernel_rfl) (by simp) (AllReadyH.cons rfl (fun K hK => ?_) AllReadyH.nil)
          go_simp
          have g4 : Gr w3 (w3.alloc (.cells #[.int .i64 0, .int .i64 0, .int .i64 0, .int .i64 0, .int .i64 0, .int .i64 0, .int .i64 0, .int .i64 0, .int .i64 0, .int .i64 0, .int .i64 0, .int .i64 0, .int .i64 0, .int .i64 0, .int .i64 0, .int .i64 0, .int .i64 0, .slice none 0 0] 30)) := Ch.alloc (Gr.refl _) _
          have LA := hid (show w.heap.size + 2 < w3.heap.size from lt_of_block hS3.e)
          have NA := hid (fun (q : Nat) (hq : Blk (.slice ao3 ks1.length cap3) q) => show q ≠ w3.heap.size from by have l2 := (OD.out.blk hq).2; omega)
          have NAB := hid (show w2.heap.size ≠ w3.heap.size from by have := lt_of_block BB.out; omega)
          have hS4 := hS3.gr g4
          have OD := hid (OD.out.gr g4)
          have BB := hid (gr_blk BB.out g4)
          have AA := hid (show (w3.alloc (.cells #[.int .i64 0, .int .i64 0, .int .i64 0, .int .i64 0, .int .i64 0, .int .i64 0, .int .i64 0, .int .i64 0, .int .i64 0, .int .i64 0, .int .i64 0, .int .i64 0, .int .i64 0, .int .i64 0, .int .i64 0, .int .i64 0, .int .i64 0, .slice none 0 0] 30)).heap[w3.heap.size]? = some (.cells #[.int .i64 0, .int .i64 0, .int .i64 0, .int .i64 0, .int .i64 0, .int .i64 0, .int .i64 0, .int .i64 0, .int .i64 0, .int .i64 0, .int .i64 0, .int .i64 0, .int .i64 0, .int .i64 0, .int .i64 0, .int .i64 0, .int .i64 0, .slice none 0 0] 30 (0, 0)) from (MapKept.heap_alloc w3 (.cells #[.int .i64 0, .int .i64 0, .int .i64 0, .int .i64 0, .int .i64 0, .int .i64 0, .int .i64 0, .int .i64 0, .int .i64 0, .int .i64 0, .int .i64 0, .int .i64 0, .int .i64 0, .int .i64 0, .int .i64 0, .int .i64 0, .int .i64 0, .slice none 0 0] 30)).1)
          clear g4
          generalize w3.alloc (.cells #[.int .i64 0, .int .i64 0, .int .i64 0, .int .i64 0, .int .i64 0, .int .i64 0, .int .i64 0, .int .i64 0, .int .i64 0, .int .i64 0, .int .i64 0, .int .i64 0, .int .i64 0, .int .i64 0, .int .i64 0, .int .i64 0, .int .i64 0, .slice none 0 0] 30) = w4 at hS4 OD AA BB ⊢
          refine hK.out _ _ (by exact hS4) (fun _ => ?_)
          clear hK K
          refine wpAnyH_ready (rs := [10]) (by kernel_rfl) (by simp) (AllReadyH.cons rfl (fun K hK => ?_) AllReadyH.nil)
          rw [if_pos (by kernel_rfl)]
          refine wp_store_row 30 (.tmp 7) (.tmp 21) rfl w3.heap.size (cC pc1 rr (.slice ao3 ks1.length cap3)) rfl rfl _ _ AA.out (ctx_size' (HSY.out _ _)) (HSY.out _ _).symm cC_one ?_
          have k9 := setRow_ch w4 w3.heap.size (cC pc1 rr (.slice ao3 ks1.length cap3))
          have hS5 := hS4.st k9 LA.out
          have OD := hid (OD.out.ch k9 (fun q hq e => NA.out q hq e))
          have BB := hid ((k9.block _ (lt_of_block BB.out) (fun e => NAB.out e)).trans BB.out)
          have AA := hid (setRow_blk (c := (cC pc1 rr (.slice ao3 ks1.length cap3))) AA.out)
          clear k9
          generalize w4.setRow w3.heap.size (cC pc1 rr (.slice ao3 ks1.length cap3)) = w5 at hS5 AA BB OD ⊢
          refine hK.out _ _ (by exact hS5) (fun _ => ?_)
          clear hK K
          refine wpAnyH_ready (rs := [11]) (by kernel_rfl) (by simp) (AllReadyH.cons rfl (fun K hK => ?_) AllReadyH.nil)
          rw [if_pos (by kernel_rfl)]
          refine wp_store_row 40 (.tmp 8) (.tmp 22) rfl w2.heap.size #[.int .i64 q0, .int .i64 q1, .int .i64 q2, .int .i64 q3, .int .i64 q4, .int .i64 q5, .int .i64 q6, .int .i64 q7, .int .i64 q8, .int .i64 q9, .int .i64 q10] rfl rfl _ _ BB.out want_size rfl (wt_one _ _ _ _ _ _ _ _ _ _ _) ?_
          have k9 := setRow_ch w5 w2.heap.size #[.int .i64 q0, .int .i64 q1, .int .i64 q2, .int .i64 q3, .int .i64 q4, .int .i64 q5, .int .i64 q6, .int .i64 q7, .int .i64 q8, .int .i64 q9, .int .i64 q10]
          have hS6 := hS5.st k9 LB.out
          have OD := hid (OD.out.ch k9 (fun q hq e => NB.out q hq e))
          have AA := hid ((k9.block _ (lt_of_block AA.out) (fun e => NAB.out e.symm)).trans AA.out)
          have BB := hid (setRow_blk (c := #[.int .i64 q0, .int .i64 q1, .int .i64 q2, .int .i64 q3, .int .i64 q4, .int .i64 q5, .int .i64 q6, .int .i64 q7, .int .i64 q8, .int .i64 q9, .int .i64 q10]) BB.out)
          clear k9
          generalize w5.setRow w2.heap.size #[.int .i64 q0, .int .i64 q1, .int .i64 q2, .int .i64 q3, .int .i64 q4, .int .i64 q5, .int .i64 q6, .int .i64 q7, .int .i64 q8, .int .i64 q9, .int .i64 q10] = w6 at hS6 AA BB OD ⊢
          refine hK.out _ _ (by exact hS6) (fun _ => ?_)
          clear hK K
          refine wpAnyH_done (by kernel_rfl) ?_ _
          unfold MidWr
          exact ⟨rfl, w3.heap.size, w2.heap.size, ao3, cap3, _, _, _, _, _, _, _, _, _, _, _, _, _, _, _, _, _, _, _, _, _, _, _, _, _, _, _, _, _, _, _, _, _, _, _, _, _, _, _, _, _, _, _, _, _, _, _, _, _, _, _, _, _, _, _, _, _, _, _, _, _, _, _, _, _, _, _, _, _, _, _, _, _, _, _, _, _, _, _, _, _, _, _, _, _, _, _, _, _, _, _, _, _, _, rfl, ⟨hS6.g, hS6.p, hS6.c, hS6.e, AA.out, BB.out, ⟨_, OD.out⟩⟩⟩
      · go_simp
        have g2 : Gr w1 (w1.alloc (.cells #[.int .i64 0, .int .i64 0, .int .i64 0, .int .i64 0, .int .i64 0, .int .i64 0, .int .i64 0, .int .i64 0, .int .i64 0, .int .i64 0, .int .i64 0, .int .i64 0, .int .i64 0, .int .i64 0, .int .i64 0, .int .i64 0, .int .i64 0, .slice none 0 0] 30)) := Ch.alloc (Gr.refl _) _
        have LA := hid (show w.heap.size + 2 < w1.heap.size from lt_of_block hS1.e)
        have hS2 := hS1.gr g2
        have OT := hid (OT.out.gr g2)
        have AA := hid (show (w1.alloc (.cells #[.int .i64 0, .int .i64 0, .int .i64 0, .int .i64 0, .int .i64 0, .int .i64 0, .int .i64 0, .int .i64 0, .int .i64 0, .int .i64 0, .int .i64 0, .int .i64 0, .int .i64 0, .int .i64 0, .int .i64 0, .int .i64 0, .int .i64 0, .slice none 0 0] 30)).heap[w1.heap.size]? = some (.cells #[.int .i64 0, .int .i64 0, .int .i64 0, .int .i64 0, .int .i64 0, .int .i64 0, .int .i64 0, .int .i64 0, .int .i64 0, .int .i64 0, .int .i64 0, .int .i64 0, .int .i64 0, .int .i64 0, .int .i64 0, .int .i64 0, .int .i64 0, .slice none 0 0] 30 (0, 0)) from (MapKept.heap_alloc w1 (.cells #[.int .i64 0, .int .i64 0, .int .i64 0, .int .i64 0, .int .i64 0, .int .i64 0, .int .i64 0, .int .i64 0, .int .i64 0, .int .i64 0, .int .i64 0, .int .i64 0, .int .i64 0, .int .i64 0, .int .i64 0, .int .i64 0, .int .i64 0, .slice none 0 0] 30)).1)
        clear g2
        generalize w1.alloc (.cells #[.int .i64 0, .int .i64 0, .int .i64 0, .int .i64 0, .int .i64 0, .int .i64 0, .int .i64 0, .int .i64 0, .int .i64 0, .int .i64 0, .int .i64 0, .int .i64 0, .int .i64 0, .int .i64 0, .int .i64 0, .int .i64 0, .int .i64 0, .slice none 0 0] 30) = w2 at hS2 OT AA ⊢
        refine hK.out _ _ (by exact hS2) (fun _ => ?_)
        clear hK K
        refine wpAnyH_ready (rs := [4, 9]) (by kernel_rfl) (by simp) (AllReadyH.cons rfl (fun K hK => ?_) (AllReadyH.cons rfl (fun K hK => ?_) AllReadyH.nil))
        · go_simp
          refine (HP.out _ hS2.g _ _ _ _ OT.out).mono ?_
          rintro e w3 ⟨ao3, n3, cap3, rfl, o3, g3⟩
          obtain rfl : n3 = ks1.length := o3.len.1
          have NA := hid (fun (q : Nat) (hq : Blk (.slice ao3 ks1.length cap3) q) => show q ≠ w1.heap.size from by have l1 := lt_of_block AA.out; have l2 := (o3.blk hq).1; omega)
          have hS3 := hS2.gr g3
          have AA := hid (gr_blk AA.out g3)
          have OD := hid o3
          clear o3 OT g3
          refine hK.out _ _ (by exact hS3) (fun _ => ?_)
          clear hK K
          refine takeS_on (i := 5) 15 (v := ?v7) rfl rfl (by kernel_rfl) (by kernel_rfl) (by kernel_rfl) (fun _ _ _ h => nomatch h.1) (by kernel_rfl) ?hy7 (by exact hS3) ?_
          case hy7 => (intro w' hSw; go_simp; try (with_reducible rfl))
          simp only [Act.put, List.setIfInBounds_toArray, List.set_cons_zero, List.set_cons_succ]
          refine takeS_on (i := 6) 21 (v := ?v8) rfl rfl (by kernel_rfl) (by kernel_rfl) (by kernel_rfl) (fun _ _ _ h => nomatch h.1) (by kernel_rfl) ?hy8 (by exact hS3) ?_
          case hy8 => (intro w' hSw; go_simp; try (with_reducible rfl))
          simp only [Act.put, List.setIfInBounds_toArray, List.set_cons_zero, List.set_cons_succ]
          refine takeS_on (i := 7) 22 (v := ?v9) rfl rfl (by kernel_rfl) (by kernel_rfl) (by kernel_rfl) (fun _ _ _ h => nomatch h.1) (by kernel_rfl) ?hy9 (by exact hS3) ?_
          case hy9 => (intro w' hSw; go_simp; try (with_reducible rfl))
          simp only [Act.put, List.setIfInBounds_toArray, List.set_cons_zero, List.set_cons_succ]
          refine wpAnyH_ready (rs := [9]) (by kernel_rfl) (by simp) (AllReadyH.cons rfl (fun K hK => ?_) AllReadyH.nil)
          go_simp
          have g4 : Gr w3 (w3.alloc (.cells #[.int .i64 0, .int .i64 0, .int .i64 0, .int .i64 0, .int .i64 0, .int .i64 0, .int .i64 0, .int .i64 0, .int .i64 0, .int .i64 0, .int .i64 0] 40)) := Ch.alloc (Gr.refl _) _
          have LB := hid (show w.heap.size + 2 < w3.heap.size from lt_of_block hS3.e)
          have NB := hid (fun (q : Nat) (hq : Blk (.slice ao3 ks1.length cap3) q) => show q ≠ w3.heap.size from by have l2 := (OD.out.blk hq).2; omega)
          have NAB := hid (show w3.heap.size ≠ w1.heap.size from by have := lt_of_block AA.out; omega)
          have hS4 := hS3.gr g4
          have OD := hid (OD.out.gr g4)
          have AA := hid (gr_blk AA.out g4)
          have BB := hid (show (w3.alloc (.cells #[.int .i64 0, .int .i64 0, .int .i64 0, .int .i64 0, .int .i64 0, .int .i64 0, .int .i64 0, .int .i64 0, .int .i64 0, .int .i64 0, .int .i64 0] 40)).heap[w3.heap.size]? = some (.cells #[.int .i64 0, .int .i64 0, .int .i64 0, .int .i64 0, .int .i64 0, .int .i64 0, .int .i64 0, .int .i64 0, .int .i64 0, .int .i64 0, .int .i64 0] 40 (0, 0)) from (MapKept.heap_alloc w3 (.cells #[.int .i64 0, .int .i64 0, .int .i64 0, .int .i64 0, .int .i64 0, .int .i64 0, .int .i64 0, .int .i64 0, .int .i64 0, .int .i64 0, .int .i64 0] 40)).1)
          clear g4
          generalize w3.alloc (.cells #[.int .i64 0, .int .i64 0, .int .i64 0, .int .i64 0, .int .i64 0, .int .i64 0, .int .i64 0, .int .i64 0, .int .i64 0, .int .i64 0, .int .i64 0] 40) = w4 at hS4 OD AA BB ⊢
          refine hK.out _ _ (by exact hS4) (fun _ => ?_)
          clear hK K
          refine wpAnyH_ready (rs := [10]) (by kernel_rfl) (by simp) (AllReadyH.cons rfl (fun K hK => ?_) AllReadyH.nil)
          rw [if_pos (by kernel_rfl)]
          refine wp_store_row 30 (.tmp 7) (.tmp 21) rfl w1.heap.size (cC pc1 rr (.slice ao3 ks1.length cap3)) rfl rfl _ _ AA.out (ctx_size' (HSY.out _ _)) (HSY.out _ _).symm cC_one ?_
          have k9 := setRow_ch w4 w1.heap.size (cC pc1 rr (.slice ao3 ks1.length cap3))
          have hS5 := hS4.st k9 LA.out
          have OD := hid (OD.out.ch k9 (fun q hq e => NA.out q hq e))
          have BB := hid ((k9.block _ (lt_of_block BB.out) (fun e => NAB.out e)).trans BB.out)
          have AA := hid (setRow_blk (c := (cC pc1 rr (.slice ao3 ks1.length cap3))) AA.out)
          clear k9
          generalize w4.setRow w1.heap.size (cC pc1 rr (.slice ao3 ks1.length cap3)) = w5 at hS5 AA BB OD ⊢
          refine hK.out _ _ (by exact hS5) (fun _ => ?_)
          clear hK K
          refine wpAnyH_ready (rs := [11]) (by kernel_rfl) (by simp) (AllReadyH.cons rfl (fun K hK => ?_) AllReadyH.nil)
          rw [if_pos (by kernel_rfl)]
          refine wp_store_row 40 (.tmp 8) (.tmp 22) rfl w3.heap.size #[.int .i64 q0, .int .i64 q1, .int .i64 q2, .int .i64 q3, .int .i64 q4, .int .i64 q5, .int .i64 q6, .int .i64 q7, .int .i64 q8, .int .i64 q9, .int .i64 q10] rfl rfl _ _ BB.out want_size rfl (wt_one _ _ _ _ _ _ _ _ _ _ _) ?_
          have k9 := setRow_ch w5 w3.heap.size #[.int .i64 q0, .int .i64 q1, .int .i64 q2, .int .i64 q3, .int .i64 q4, .int .i64 q5, .int .i64 q6, .int .i64 q7, .int .i64 q8, .int .i64 q9, .int .i64 q10]
          have hS6 := hS5.st k9 LB.out
          have OD := hid (OD.out.ch k9 (fun q hq e => NB.out q hq e))
          have AA := hid ((k9.block _ (lt_of_block AA.out) (fun e => NAB.out e.symm)).trans AA.out)
          have BB := hid (setRow_blk (c := #[.int .i64 q0, .int .i64 q1, .int .i64 q2, .int .i64 q3, .int .i64 q4, .int .i64 q5, .int .i64 q6, .int .i64 q7, .int .i64 q8, .int .i64 q9, .int .i64 q10]) BB.out)
          clear k9
          generalize w5.setRow w3.heap.size #[.int .i64 q0, .int .i64 q1, .int .i64 q2, .int .i64 q3, .int .i64 q4, .int .i64 q5, .int .i64 q6, .int .i64 q7, .int .i64 q8, .int .i64 q9, .int .i64 q10] = w6 at hS6 AA BB OD ⊢
          refine hK.out _ _ (by exact hS6) (fun _ => ?_)
          clear hK K
          refine wpAnyH_done (by kernel_rfl) ?_ _
          unfold MidWr
          exact ⟨rfl, w1.heap.size, w3.heap.size, ao3, cap3, _, _, _, _, _, _, _, _, _, _, _, _, _, _, _, _, _, _, _, _, _, _, _, _, _, _, _, _, _, _, _, _, _, _, _, _, _, _, _, _, _, _, _, _, _, _, _, _, _, _, _, _, _, _, _, _, _, _, _, _, _, _, _, _, _, _, _, _, _, _, _, _, _, _, _, _, _, _, _, _, _, _, _, _, _, _, _, _, _, _, _, _, _, _, rfl, ⟨hS6.g, hS6.p, hS6.c, hS6.e, AA.out, BB.out, ⟨_, OD.out⟩⟩⟩
        · go_simp
          have g3 : Gr w2 (w2.alloc (.cells #[.int .i64 0, .int .i64 0, .int .i64 0, .int .i64 0, .int .i64 0, .int .i64 0, .int .i64 0, .int .i64 0, .int .i64 0, .int .i64 0, .int .i64 0] 40)) := Ch.alloc (Gr.refl _) _
          have LB := hid (show w.heap.size + 2 < w2.heap.size from lt_of_block hS2.e)
          have NAB := hid (show w2.heap.size ≠ w1.heap.size from by have := lt_of_block AA.out; omega)
          have hS3 := hS2.gr g3
          have OT := hid (OT.out.gr g3)
          have AA := hid (gr_blk AA.out g3)
          have BB := hid (show (w2.alloc (.cells #[.int .i64 0, .int .i64 0, .int .i64 0, .int .i64 0, .int .i64 0, .int .i64 0, .int .i64 0, .int .i64 0, .int .i64 0, .int .i64 0, .int .i64 0] 40)).heap[w2.heap.size]? = some (.cells #[.int .i64 0, .int .i64 0, .int .i64 0, .int .i64 0, .int .i64 0, .int .i64 0, .int .i64 0, .int .i64 0, .int .i64 0, .int .i64 0, .int .i64 0] 40 (0, 0)) from (MapKept.heap_alloc w2 (.cells #[.int .i64 0, .int .i64 0, .int .i64 0, .int .i64 0, .int .i64 0, .int .i64 0, .int .i64 0, .int .i64 0, .int .i64 0, .int .i64 0, .int .i64 0] 40)).1)
          clear g3
          generalize w2.alloc (.cells #[.int .i64 0, .int .i64 0, .int .i64 0, .int .i64 0, .int .i64 0, .int .i64 0, .int .i64 0, .int .i64 0, .int .i64 0, .int .i64 0, .int .i64 0] 40) = w3 at hS3 OT AA BB ⊢
          refine hK.out _ _ (by exact hS3) (fun _ => ?_)
          clear hK K
          refine wpAnyH_ready (rs := [4]) (by kernel_rfl) (by simp) (AllReadyH.cons rfl (fun K hK => ?_) AllReadyH.nil)
          go_simp
          refine (HP.out _ hS3.g _ _ _ _ OT.out).mono ?_
          rintro e w4 ⟨ao3, n3, cap3, rfl, o3, g4⟩
          obtain rfl : n3 = ks1.length := o3.len.1
          have NA := hid (fun (q : Nat) (hq : Blk (.slice ao3 ks1.length cap3) q) => show q ≠ w1.heap.size from by have l1 := lt_of_block AA.out; have l2 := (o3.blk hq).1; omega)
          have NB := hid (fun (q : Nat) (hq : Blk (.slice ao3 ks1.length cap3) q) => show q ≠ w2.heap.size from by have l1 := lt_of_block BB.out; have l2 := (o3.blk hq).1; omega)
          have hS4 := hS3.gr g4
          have AA := hid (gr_blk AA.out g4)
          have BB := hid (gr_blk BB.out g4)
          have OD := hid o3
          clear o3 OT g4
          refine hK.out _ _ (by exact hS4) (fun _ => ?_)
          clear hK K
          refine takeS_on (i := 5) 15 (v := ?v10) rfl rfl (by kernel_rfl) (by kernel_rfl) (by kernel_rfl) (fun _ _ _ h => nomatch h.1) (by kernel_rfl) ?hy10 (by exact hS4) ?_
          case hy10 => (intro w' hSw; go_simp; try (with_reducible rfl))
          simp only [Act.put, List.setIfInBounds_toArray, List.set_cons_zero, List.set_cons_succ]
          refine takeS_on (i := 6) 21 (v := ?v11) rfl rfl (by kernel_rfl) (by kernel_rfl) (by kernel_rfl) (fun _ _ _ h => nomatch h.1) (by kernel_rfl) ?hy11 (by exact hS4) ?_
          case hy11 => (intro w' hSw; go_simp; try (with_reducible rfl))
          simp only [Act.put, List.setIfInBounds_toArray, List.set_cons_zero, List.set_cons_succ]
          refine takeS_on (i := 7) 22 (v := ?v12) rfl rfl (by kernel_rfl) (by kernel_rfl) (by kernel_rfl) (fun _ _ _ h => nomatch h.1) (by kernel_rfl) ?hy12 (by exact hS4) ?_
          case hy12 => (intro w' hSw; go_simp; try (with_reducible rfl))
          simp only [Act.put, List.setIfInBounds_toArray, List.set_cons_zero, List.set_cons_succ]
          refine wpAnyH_ready (rs := [10]) (by kernel_rfl) (by simp) (AllReadyH.cons rfl (fun K hK => ?_) AllReadyH.nil)
          rw [if_pos (by kernel_rfl)]
          refine wp_store_row 30 (.tmp 7) (.tmp 21) rfl w1.heap.size (cC pc1 rr (.slice ao3 ks1.length cap3)) rfl rfl _ _ AA.out (ctx_size' (HSY.out _ _)) (HSY.out _ _).symm cC_one ?_
          have k9 := setRow_ch w4 w1.heap.size (cC pc1 rr (.slice ao3 ks1.length cap3))
          have hS5 := hS4.st k9 LA.out
          have OD := hid (OD.out.ch k9 (fun q hq e => NA.out q hq e))
          have BB := hid ((k9.block _ (lt_of_block BB.out) (fun e => NAB.out e)).trans BB.out)
          have AA := hid (setRow_blk (c := (cC pc1 rr (.slice ao3 ks1.length cap3))) AA.out)
          clear k9
          generalize w4.setRow w1.heap.size (cC pc1 rr (.slice ao3 ks1.length cap3)) = w5 at hS5 AA BB OD ⊢
          refine hK.out _ _ (by exact hS5) (fun _ => ?_)
          clear hK K
          refine wpAnyH_ready (rs := [11]) (by kernel_rfl) (by simp) (AllReadyH.cons rfl (fun K hK => ?_) AllReadyH.nil)
          rw [if_pos (by kernel_rfl)]
          refine wp_store_row 40 (.tmp 8) (.tmp 22) rfl w2.heap.size #[.int .i64 q0, .int .i64 q1, .int .i64 q2, .int .i64 q3, .int .i64 q4, .int .i64 q5, .int .i64 q6, .int .i64 q7, .int .i64 q8, .int .i64 q9, .int .i64 q10] rfl rfl _ _ BB.out want_size rfl (wt_one _ _ _ _ _ _ _ _ _ _ _) ?_
          have k9 := setRow_ch w5 w2.heap.size #[.int .i64 q0, .int .i64 q1, .int .i64 q2, .int .i64 q3, .int .i64 q4, .int .i64 q5, .int .i64 q6, .int .i64 q7, .int .i64 q8, .int .i64 q9, .int .i64 q10]
          have hS6 := hS5.st k9 LB.out
          have OD := hid (OD.out.ch k9 (fun q hq e => NB.out q hq e))
          have AA := hid ((k9.block _ (lt_of_block AA.out) (fun e => NAB.out e.symm)).trans AA.out)
          have BB := hid (setRow_blk (c := #[.int .i64 q0, .int .i64 q1, .int .i64 q2, .int .i64 q3, .int .i64 q4, .int .i64 q5, .int .i64 q6, .int .i64 q7, .int .i64 q8, .int .i64 q9, .int .i64 q10]) BB.out)
          clear k9
          generalize w5.setRow w2.heap.size #[.int .i64 q0, .int .i64 q1, .int .i64 q2, .int .i64 q3, .int .i64 q4, .int .i64 q5, .int .i64 q6, .int .i64 q7, .int .i64 q8, .int .i64 q9, .int .i64 q10] = w6 at hS6 AA BB OD ⊢
          refine hK.out _ _ (by exact hS6) (fun _ => ?_)
          clear hK K
          refine wpAnyH_done (by kernel_rfl) ?_ _
          unfold MidWr
          exact ⟨rfl, w1.heap.size, w2.heap.size, ao3, cap3, _, _, _, _, _, _, _, _, _, _, _, _, _, _, _, _, _, _, _, _, _, _, _, _, _, _, _, _, _, _, _, _, _, _, _, _, _, _, _, _, _, _, _, _, _, _, _, _, _, _, _, _, _, _, _, _, _, _, _, _, _, _, _, _, _, _, _, _, _, _, _, _, _, _, _, _, _, _, _, _, _, _, _, _, _, _, _, _, _, _, _, _, _, _, rfl, ⟨hS6.g, hS6.p, hS6.c, hS6.e, AA.out, BB.out, ⟨_, OD.out⟩⟩⟩
      · go_simp
        have g2 : Gr w1 (w1.alloc (.cells #[.int .i64 0, .int .i64 0, .int .i64 0, .int .i64 0, .int .i64 0, .int .i64 0, .int .i64 0, .int .i64 0, .int .i64 0, .int .i64 0, .int .i64 0] 40)) := Ch.alloc (Gr.refl _) _
        have LB := hid (show w.heap.size + 2 < w1.heap.size from lt_of_block hS1.e)
        have hS2 := hS1.gr g2
        have OT := hid (OT.out.gr g2)
        have BB := hid (show (w1.alloc (.cells #[.int .i64 0, .int .i64 0, .int .i64 0, .int .i64 0, .int .i64 0, .int .i64 0, .int .i64 0, .int .i64 0, .int .i64 0, .int .i64 0, .int .i64 0] 40)).heap[w1.heap.size]? = some (.cells #[.int .i64 0, .int .i64 0, .int .i64 0, .int .i64 0, .int .i64 0, .int .i64 0, .int .i64 0, .int .i64 0, .int .i64 0, .int .i64 0, .int .i64 0] 40 (0, 0)) from (MapKept.heap_alloc w1 (.cells #[.int .i64 0, .int .i64 0, .int .i64 0, .int .i64 0, .int .i64 0, .int .i64 0, .int .i64 0, .int .i64 0, .int .i64 0, .int .i64 0, .int .i64 0] 40)).1)
        clear g2
        generalize w1.alloc (.cells #[.int .i64 0, .int .i64 0, .int .i64 0, .int .i64 0, .int .i64 0, .int .i64 0, .int .i64 0, .int .i64 0, .int .i64 0, .int .i64 0, .int .i64 0] 40) = w2 at hS2 OT BB ⊢
        refine hK.out _ _ (by exact hS2) (fun _ => ?_)
        clear hK K
        refine wpAnyH_ready (rs := [4, 8]) (by kernel_rfl) (by simp) (AllReadyH.cons rfl (fun K hK => ?_) (AllReadyH.cons rfl (fun K hK => ?_) AllReadyH.nil))
        · go_simp
          refine (HP.out _ hS2.g _ _ _ _ OT.out).mono ?_
          rintro e w3 ⟨ao3, n3, cap3, rfl, o3, g3⟩
          obtain rfl : n3 = ks1.length := o3.len.1
          have NB := hid (fun (q : Nat) (hq : Blk (.slice ao3 ks1.length cap3) q) => show q ≠ w1.heap.size from by have l1 := lt_of_block BB.out; have l2 := (o3.blk hq).1; omega)
          have hS3 := hS2.gr g3
          have BB := hid (gr_blk BB.out g3)
          have OD := hid o3
          clear o3 OT g3
          refine hK.out _ _ (by exact hS3) (fun _ => ?_)
          clear hK K
          refine takeS_on (i := 5) 15 (v := ?v13) rfl rfl (by kernel_rfl) (by kernel_rfl) (by kernel_rfl) (fun _ _ _ h => nomatch h.1) (by kernel_rfl) ?hy13 (by exact hS3) ?_
          case hy13 => (intro w' hSw; go_simp; try (with_reducible rfl))
          simp only [Act.put, List.setIfInBounds_toArray, List.set_cons_zero, List.set_cons_succ]
          refine takeS_on (i := 6) 21 (v := ?v14) rfl rfl (by kernel_rfl) (by kernel_rfl) (by kernel_rfl) (fun _ _ _ h => nomatch h.1) (by kernel_rfl) ?hy14 (by exact hS3) ?_
          case hy14 => (intro w' hSw; go_simp; try (with_reducible rfl))
          simp only [Act.put, List.setIfInBounds_toArray, List.set_cons_zero, List.set_cons_succ]
          refine takeS_on (i := 7) 22 (v := ?v15) rfl rfl (by kernel_rfl) (by kernel_rfl) (by kernel_rfl) (fun _ _ _ h => nomatch h.1) (by kernel_rfl) ?hy15 (by exact hS3) ?_
          case hy15 => (intro w' hSw; go_simp; try (with_reducible rfl))
          simp only [Act.put, List.setIfInBounds_toArray, List.set_cons_zero, List.set_cons_succ]
          refine wpAnyH_ready (rs := [8]) (by kernel_rfl) (by simp) (AllReadyH.cons rfl (fun K hK => ?_) AllReadyH.nil)
          go_simp
          have g4 : Gr w3 (w3.alloc (.cells #[.int .i64 0, .int .i64 0, .int .i64 0, .int .i64 0, .int .i64 0, .int .i64 0, .int .i64 0, .int .i64 0, .int .i64 0, .int .i64 0, .int .i64 0, .int .i64 0, .int .i64 0, .int .i64 0, .int .i64 0, .int .i64 0, .int .i64 0, .slice none 0 0] 30)) := Ch.alloc (Gr.refl _) _
          have LA := hid (show w.heap.size + 2 < w3.heap.size from lt_of_block hS3.e)
          have NA := hid (fun (q : Nat) (hq : Blk (.slice ao3 ks1.length cap3) q) => show q ≠ w3.heap.size from by have l2 := (OD.out.blk hq).2; omega)
          have NAB := hid (show w1.heap.size ≠ w3.heap.size from by have := lt_of_block BB.out; omega)
          have hS4 := hS3.gr g4
          have OD := hid (OD.out.gr g4)
          have BB := hid (gr_blk BB.out g4)
          have AA := hid (show (w3.alloc (.cells #[.int .i64 0, .int .i64 0, .int .i64 0, .int .i64 0, .int .i64 0, .int .i64 0, .int .i64 0, .int .i64 0, .int .i64 0, .int .i64 0, .int .i64 0, .int .i64 0, .int .i64 0, .int .i64 0, .int .i64 0, .int .i64 0, .int .i64 0, .slice none 0 0] 30)).heap[w3.heap.size]? = some (.cells #[.int .i64 0, .int .i64 0, .int .i64 0, .int .i64 0, .int .i64 0, .int .i64 0, .int .i64 0, .int .i64 0, .int .i64 0, .int .i64 0, .int .i64 0, .int .i64 0, .int .i64 0, .int .i64 0, .int .i64 0, .int .i64 0, .int .i64 0, .slice none 0 0] 30 (0, 0)) from (MapKept.heap_alloc w3 (.cells #[.int .i64 0, .int .i64 0, .int .i64 0, .int .i64 0, .int .i64 0, .int .i64 0, .int .i64 0, .int .i64 0, .int .i64 0, .int .i64 0, .int .i64 0, .int .i64 0, .int .i64 0, .int .i64 0, .int .i64 0, .int .i64 0, .int .i64 0, .slice none 0 0] 30)).1)
          clear g4
          generalize w3.alloc (.cells #[.int .i64 0, .int .i64 0, .int .i64 0, .int .i64 0, .int .i64 0, .int .i64 0, .int .i64 0, .int .i64 0, .int .i64 0, .int .i64 0, .int .i64 0, .int .i64 0, .int .i64 0, .int .i64 0, .int .i64 0, .int .i64 0, .int .i64 0, .slice none 0 0] 30) = w4 at hS4 OD AA BB ⊢
          refine hK.out _ _ (by exact hS4) (fun _ => ?_)
          clear hK K
          refine wpAnyH_ready (rs := [10]) (by kernel_rfl) (by simp) (AllReadyH.cons rfl (fun K hK => ?_) AllReadyH.nil)
          rw [if_pos (by kernel_rfl)]
          refine wp_store_row 30 (.tmp 7) (.tmp 21) rfl w3.heap.size (cC pc1 rr (.slice ao3 ks1.length cap3)) rfl rfl _ _ AA.out (ctx_size' (HSY.out _ _)) (HSY.out _ _).symm cC_one ?_
          have k9 := setRow_ch w4 w3.heap.size (cC pc1 rr (.slice ao3 ks1.length cap3))
          have hS5 := hS4.st k9 LA.out
          have OD := hid (OD.out.ch k9 (fun q hq e => NA.out q hq e))
          have BB := hid ((k9.block _ (lt_of_block BB.out) (fun e => NAB.out e)).trans BB.out)
          have AA := hid (setRow_blk (c := (cC pc1 rr (.slice ao3 ks1.length cap3))) AA.out)
          clear k9
          generalize w4.setRow w3.heap.size (cC pc1 rr (.slice ao3 ks1.length cap3)) = w5 at hS5 AA BB OD ⊢
          refine hK.out _ _ (by exact hS5) (fun _ => ?_)
          clear hK K
          refine wpAnyH_ready (rs := [11]) (by kernel_rfl) (by simp) (AllReadyH.cons rfl (fun K hK => ?_) AllReadyH.nil)
          rw [if_pos (by kernel_rfl)]
          refine wp_store_row 40 (.tmp 8) (.tmp 22) rfl w1.heap.size #[.int .i64 q0, .int .i64 q1, .int .i64 q2, .int .i64 q3, .int .i64 q4, .int .i64 q5, .int .i64 q6, .int .i64 q7, .int .i64 q8, .int .i64 q9, .int .i64 q10] rfl rfl _ _ BB.out want_size rfl (wt_one _ _ _ _ _ _ _ _ _ _ _) ?_
          have k9 := setRow_ch w5 w1.heap.size #[.int .i64 q0, .int .i64 q1, .int .i64 q2, .int .i64 q3, .int .i64 q4, .int .i64 q5, .int .i64 q6, .int .i64 q7, .int .i64 q8, .int .i64 q9, .int .i64 q10]
          have hS6 := hS5.st k9 LB.out
          have OD := hid (OD.out.ch k9 (fun q hq e => NB.out q hq e))
          have AA := hid ((k9.block _ (lt_of_block AA.out) (fun e => NAB.out e.symm)).trans AA.out)
          have BB := hid (setRow_blk (c := #[.int .i64 q0, .int .i64 q1, .int .i64 q2, .int .i64 q3, .int .i64 q4, .int .i64 q5, .int .i64 q6, .int .i64 q7, .int .i64 q8, .int .i64 q9, .int .i64 q10]) BB.out)
          clear k9
          generalize w5.setRow w1.heap.size #[.int .i64 q0, .int .i64 q1, .int .i64 q2, .int .i64 q3, .int .i64 q4, .int .i64 q5, .int .i64 q6, .int .i64 q7, .int .i64 q8, .int .i64 q9, .int .i64 q10] = w6 at hS6 AA BB OD ⊢
          refine hK.out _ _ (by exact hS6) (fun _ => ?_)
          clear hK K
          refine wpAnyH_done (by kernel_rfl) ?_ _
          unfold MidWr
          exact ⟨rfl, w3.heap.size, w1.heap.size, ao3, cap3, _, _, _, _, _, _, _, _, _, _, _, _, _, _, _, _, _, _, _, _, _, _, _, _, _, _, _, _, _, _, _, _, _, _, _, _, _, _, _, _, _, _, _, _, _, _, _, _, _, _, _, _, _, _, _, _, _, _, _, _, _, _, _, _, _, _, _, _, _, _, _, _, _, _, _, _, _, _, _, _, _, _, _, _, _, _, _, _, _, _, _, _, _, _, rfl, ⟨hS6.g, hS6.p, hS6.c, hS6.e, AA.out, BB.out, ⟨_, OD.out⟩⟩⟩
        · go_simp
          have g3 : Gr w2 (w2.alloc (.cells #[.int .i64 0, .int .i64 0, .int .i64 0, .int .i64 0, .int .i64 0, .int .i64 0, .int .i64 0, .int .i64 0, .int .i64 0, .int .i64 0, .int .i64 0, .int .i64 0, .int .i64 0, .int .i64 0, .int .i64 0, .int .i64 0, .int .i64 0, .slice none 0 0] 30)) := Ch.alloc (Gr.refl _) _
          have LA := hid (show w.heap.size + 2 < w2.heap.size from lt_of_block hS2.e)
          have NAB := hid (show w1.heap.size ≠ w2.heap.size from by have := lt_of_block BB.out; omega)
          have hS3 := hS2.gr g3
          have OT := hid (OT.out.gr g3)
          have BB := hid (gr_blk BB.out g3)
          have AA := hid (show (w2.alloc (.cells #[.int .i64 0, .int .i64 0, .int .i64 0, .int .i64 0, .int .i64 0, .int .i64 0, .int .i64 0, .int .i64 0, .int .i64 0, .int .i64 0, .int .i64 0, .int .i64 0, .int .i64 0, .int .i64 0, .int .i64 0, .int .i64 0, .int .i64 0, .slice none 0 0] 30)).heap[w2.heap.size]? = some (.cells #[.int .i64 0, .int .i64 0, .int .i64 0, .int .i64 0, .int .i64 0, .int .i64 0, .int .i64 0, .int .i64 0, .int .i64 0, .int .i64 0, .int .i64 0, .int .i64 0, .int .i64 0, .int .i64 0, .int .i64 0, .int .i64 0, .int .i64 0, .slice none 0 0] 30 (0, 0)) from (MapKept.heap_alloc w2 (.cells #[.int .i64 0, .int .i64 0, .int .i64 0, .int .i64 0, .int .i64 0, .int .i64 0, .int .i64 0, .int .i64 0, .int .i64 0, .int .i64 0, .int .i64 0, .int .i64 0, .int .i64 0, .int .i64 0, .int .i64 0, .int .i64 0, .int .i64 0, .slice none 0 0] 30)).1)
          clear g3
          generalize w2.alloc (.cells #[.int .i64 0, .int .i64 0, .int .i64 0, .int .i64 0, .int .i64 0, .int .i64 0, .int .i64 0, .int .i64 0, .int .i64 0, .int .i64 0, .int .i64 0, .int .i64 0, .int .i64 0, .int .i64 0, .int .i64 0, .int .i64 0, .int .i64 0, .slice none 0 0] 30) = w3 at hS3 OT AA BB ⊢
          refine hK.out _ _ (by exact hS3) (fun _ => ?_)
          clear hK K
          refine wpAnyH_ready (rs := [4]) (by kernel_rfl) (by simp) (AllReadyH.cons rfl (fun K hK => ?_) AllReadyH.nil)
          go_simp
          refine (HP.out _ hS3.g _ _ _ _ OT.out).mono ?_
          rintro e w4 ⟨ao3, n3, cap3, rfl, o3, g4⟩
          obtain rfl : n3 = ks1.length := o3.len.1
          have NA := hid (fun (q : Nat) (hq : Blk (.slice ao3 ks1.length cap3) q) => show q ≠ w2.heap.size from by have l1 := lt_of_block AA.out; have l2 := (o3.blk hq).1; omega)
          have NB := hid (fun (q : Nat) (hq : Blk (.slice ao3 ks1.length cap3) q) => show q ≠ w1.heap.size from by have l1 := lt_of_block BB.out; have l2 := (o3.blk hq).1; omega)
          have hS4 := hS3.gr g4
          have AA := hid (gr_blk AA.out g4)
          have BB := hid (gr_blk BB.out g4)
          have OD := hid o3
          clear o3 OT g4
          refine hK.out _ _ (by exact hS4) (fun _ => ?_)
          clear hK K
          refine takeS_on (i := 5) 15 (v := ?v16) rfl rfl (by kernel_rfl) (by kernel_rfl) (by kernel_rfl) (fun _ _ _ h => nomatch h.1) (by kernel_rfl) ?hy16 (by exact hS4) ?_
          case hy16 => (intro w' hSw; go_simp; try (with_reducible rfl))
          simp only [Act.put, List.setIfInBounds_toArray, List.set_cons_zero, List.set_cons_succ]
          refine takeS_on (i := 6) 21 (v := ?v17) rfl rfl (by kernel_rfl) (by kernel_rfl) (by kernel_rfl) (fun _ _ _ h => nomatch h.1) (by kernel_rfl) ?hy17 (by exact hS4) ?_
          case hy17 => (intro w' hSw; go_simp; try (with_reducible rfl))
          simp only [Act.put, List.setIfInBounds_toArray, List.set_cons_zero, List.set_cons_succ]
          refine takeS_on (i := 7) 22 (v := ?v18) rfl rfl (by kernel_rfl) (by kernel_rfl) (by kernel_rfl) (fun _ _ _ h => nomatch h.1) (by kernel_rfl) ?hy18 (by exact hS4) ?_
          case hy18 => (intro w' hSw; go_simp; try (with_reducible rfl))
          simp only [Act.put, List.setIfInBounds_toArray, List.set_cons_zero, List.set_cons_succ]
          refine wpAnyH_ready (rs := [10]) (by kernel_rfl) (by simp) (AllReadyH.cons rfl (fun K hK => ?_) AllReadyH.nil)
          rw [if_pos (by kernel_rfl)]
          refine wp_store_row 30 (.tmp 7) (.tmp 21) rfl w2.heap.size (cC pc1 rr (.slice ao3 ks1.length cap3)) rfl rfl _ _ AA.out (ctx_size' (HSY.out _ _)) (HSY.out _ _).symm cC_one ?_
          have k9 := setRow_ch w4 w2.heap.size (cC pc1 rr (.slice ao3 ks1.length cap3))
          have hS5 := hS4.st k9 LA.out
          have OD := hid (OD.out.ch k9 (fun q hq e => NA.out q hq e))
          have BB := hid ((k9.block _ (lt_of_block BB.out) (fun e => NAB.out e)).trans BB.out)
          have AA := hid (setRow_blk (c := (cC pc1 rr (.slice ao3 ks1.length cap3))) AA.out)
          clear k9
          generalize w4.setRow w2.heap.size (cC pc1 rr (.slice ao3 ks1.length cap3)) = w5 at hS5 AA BB OD ⊢
          refine hK.out _ _ (by exact hS5) (fun _ => ?_)
          clear hK K
          refine wpAnyH_ready (rs := [11]) (by kernel_rfl) (by simp) (AllReadyH.cons rfl (fun K hK => ?_) AllReadyH.nil)
          rw [if_pos (by kernel_rfl)]
          refine wp_store_row 40 (.tmp 8) (.tmp 22) rfl w1.heap.size #[.int .i64 q0, .int .i64 q1, .int .i64 q2, .int .i64 q3, .int .i64 q4, .int .i64 q5, .int .i64 q6, .int .i64 q7, .int .i64 q8, .int .i64 q9, .int .i64 q10] rfl rfl _ _ BB.out want_size rfl (wt_one _ _ _ _ _ _ _ _ _ _ _) ?_
          have k9 := setRow_ch w5 w1.heap.size #[.int .i64 q0, .int .i64 q1, .int .i64 q2, .int .i64 q3, .int .i64 q4, .int .i64 q5, .int .i64 q6, .int .i64 q7, .int .i64 q8, .int .i64 q9, .int .i64 q10]
          have hS6 := hS5.st k9 LB.out
          have OD := hid (OD.out.ch k9 (fun q hq e => NB.out q hq e))
          have AA := hid ((k9.block _ (lt_of_block AA.out) (fun e => NAB.out e.symm)).trans AA.out)
          have BB := hid (setRow_blk (c := #[.int .i64 q0, .int .i64 q1, .int .i64 q2, .int .i64 q3, .int .i64 q4, .int .i64 q5, .int .i64 q6, .int .i64 q7, .int .i64 q8, .int .i64 q9, .int .i64 q10]) BB.out)
          clear k9
          generalize w5.setRow w1.heap.size #[.int .i64 q0, .int .i64 q1, .int .i64 q2, .int .i64 q3, .int .i64 q4, .int .i64 q5, .int .i64 q6, .int .i64 q7, .int .i64 q8, .int .i64 q9, .int .i64 q10] = w6 at hS6 AA BB OD ⊢
          refine hK.out _ _ (by exact hS6) (fun _ => ?_)
          clear hK K
          refine wpAnyH_done (by kernel_rfl) ?_ _
          unfold MidWr
          exact ⟨rfl, w2.heap.size, w1.heap.size, ao3, cap3, _, _, _, _, _, _, _, _, _, _, _, _, _, _, _, _, _, _, _, _, _, _, _, _, _, _, _, _, _, _, _, _, _, _, _, _, _, _, _, _, _, _, _, _, _, _, _, _, _, _, _, _, _, _, _, _, _, _, _, _, _, _, _, _, _, _, _, _, _, _, _, _, _, _, _, _, _, _, _, _, _, _, _, _, _, _, _, _, _, _, _, _, _, _, rfl, ⟨hS6.g, hS6.p, hS6.c, hS6.e, AA.out, BB.out, ⟨_, OD.out⟩⟩⟩
    · go_simp
      have g1 : Gr V0 (V0.alloc (.cells #[.int .i64 0, .int .i64 0, .int .i64 0, .int .i64 0, .int .i64 0, .int .i64 0, .int .i64 0, .int .i64 0, .int .i64 0, .int .i64 0, .int .i64 0, .int .i64 0, .int .i64 0, .int .i64 0, .int .i64 0, .int .i64 0, .int .i64 0, .slice none 0 0] 30)) := Ch.alloc (Gr.refl _) _
      have LA := hid (show w.heap.size + 2 < V0.heap.size from lt_of_block hS0.e)
      have hS1 := hS0.gr g1
      have AA := hid (show (V0.alloc (.cells #[.int .i64 0, .int .i64 0, .int .i64 0, .int .i64 0, .int .i64 0, .int .i64 0, .int .i64 0, .int .i64 0, .int .i64 0, .int .i64 0, .int .i64 0, .int .i64 0, .int .i64 0, .int .i64 0, .int .i64 0, .int .i64 0, .int .i64 0, .slice none 0 0] 30)).heap[V0.heap.size]? = some (.cells #[.int .i64 0, .int .i64 0, .int .i64 0, .int .i64 0, .int .i64 0, .int .i64 0, .int .i64 0, .int .i64 0, .int .i64 0, .int .i64 0, .int .i64 0, .int .i64 0, .int .i64 0, .int .i64 0, .int .i64 0, .int .i64 0, .int .i64 0, .slice none 0 0] 30 (0, 0)) from (MapKept.heap_alloc V0 (.cells #[.int .i64 0, .int .i64 0, .int .i64 0, .int .i64 0, .int .i64 0, .int .i64 0, .int .i64 0, .int .i64 0, .int .i64 0, .int .i64 0, .int .i64 0, .int .i64 0, .int .i64 0, .int .i64 0, .int .i64 0, .int .i64 0, .int .i64 0, .slice none 0 0] 30)).1)
      clear g1
      generalize V0.alloc (.cells #[.int .i64 0, .int .i64 0, .int .i64 0, .int .i64 0, .int .i64 0, .int .i64 0, .int .i64 0, .int .i64 0, .int .i64 0, .int .i64 0, .int .i64 0, .int .i64 0, .int .i64 0, .int .i64 0, .int .i64 0, .int .i64 0, .int .i64 0, .slice none 0 0] 30) = w1 at hS1 AA ⊢
      refine hK.out _ _ (by exact hS1) (fun _ => ?_)
      clear hK K
      refine wpAnyH_ready (rs := [2, 9]) (by kernel_rfl) (by simp) (AllReadyH.cons rfl (fun K hK => ?_) (AllReadyH.cons rfl (fun K hK => ?_) AllReadyH.nil))
      · go_simp
        refine (HT.out _ hS1.g).mono ?_
        rintro e w2 ⟨ao2, n2, cap2, rfl, o2, g2⟩
        have hS2 := hS1.gr g2
        have AA := hid (gr_blk AA.out g2)
        have OT := hid o2
        clear o2 g2
        refine hK.out _ _ (by exact hS2) (fun _ => ?_)
        clear hK K
        refine wpAnyH_ready (rs := [4, 9]) (by kernel_rfl) (by simp) (AllReadyH.cons rfl (fun K hK => ?_) (AllReadyH.cons rfl (fun K hK => ?_) AllReadyH.nil))
        · go_simp
          refine (HP.out _ hS2.g _ _ _ _ OT.out).mono ?_
          rintro e w3 ⟨ao3, n3, cap3, rfl, o3, g3⟩
          obtain rfl : n3 = ks1.length := o3.len.1
          have NA := hid (fun (q : Nat) (hq : Blk (.slice ao3 ks1.length cap3) q) => show q ≠ V0.heap.size from by have l1 := lt_of_block AA.out; have l2 := (o3.blk hq).1; omega)
          have hS3 := hS2.gr g3
          have AA := hid (gr_blk AA.out g3)
          have OD := hid o3
          clear o3 OT g3
          refine hK.out _ _ (by exact hS3) (fun _ => ?_)
          clear hK K
          refine takeS_on (i := 5) 15 (v := ?v19) rfl rfl (by kernel_rfl) (by kernel_rfl) (by kernel_rfl) (fun _ _ _ h => nomatch h.1) (by kernel_rfl) ?hy19 (by exact hS3) ?_
          case hy19 => (intro w' hSw; go_simp; try (with_reducible rfl))
          simp only [Act.put, List.setIfInBounds_toArray, List.set_cons_zero, List.set_cons_succ]
          refine takeS_on (i := 6) 21 (v := ?v20) rfl rfl (by kernel_rfl) (by kernel_rfl) (by kernel_rfl) (fun _ _ _ h => nomatch h.1) (by kernel_rfl) ?hy20 (by exact hS3) ?_
          case hy20 => (intro w' hSw; go_simp; try (with_reducible rfl))
          simp only [Act.put, List.setIfInBounds_toArray, List.set_cons_zero, List.set_cons_succ]
          refine takeS_on (i := 7) 22 (v := ?v21) rfl rfl (by kernel_rfl) (by kernel_rfl) (by kernel_rfl) (fun _ _ _ h => nomatch h.1) (by kernel_rfl) ?hy21 (by exact hS3) ?_
          case hy21 => (intro w' hSw; go_simp; try (with_reducible rfl))
          simp only [Act.put, List.setIfInBounds_toArray, List.set_cons_zero, List.set_cons_succ]
          refine wpAnyH_ready (rs := [9]) (by kernel_rfl) (by simp) (AllReadyH.cons rfl (fun K hK => ?_) AllReadyH.nil)
          go_simp
          have g4 : Gr w3 (w3.alloc (.cells #[.int .i64 0, .int .i64 0, .int .i64 0, .int .i64 0, .int .i64 0, .int .i64 0, .int .i64 0, .int .i64 0, .int .i64 0, .int .i64 0, .int .i64 0] 40)) := Ch.alloc (Gr.refl _) _
          have LB := hid (show w.heap.size + 2 < w3.heap.size from lt_of_block hS3.e)
          have NB := hid (fun (q : Nat) (hq : Blk (.slice ao3 ks1.length cap3) q) => show q ≠ w3.heap.size from by have l2 := (OD.out.blk hq).2; omega)
          have NAB := hid (show w3.heap.size ≠ V0.heap.size from by have := lt_of_block AA.out; omega)
          have hS4 := hS3.gr g4
          have OD := hid (OD.out.gr g4)
          have AA := hid (gr_blk AA.out g4)
          have BB := hid (show (w3.alloc (.cells #[.int .i64 0, .int .i64 0, .int .i64 0, .int .i64 0, .int .i64 0, .int .i64 0, .int .i64 0, .int .i64 0, .int .i64 0, .int .i64 0, .int .i64 0] 40)).heap[w3.heap.size]? = some (.cells #[.int .i64 0, .int .i64 0, .int .i64 0, .int .i64 0, .int .i64 0, .int .i64 0, .int .i64 0, .int .i64 0, .int .i64 0, .int .i64 0, .int .i64 0] 40 (0, 0)) from (MapKept.heap_alloc w3 (.cells #[.int .i64 0, .int .i64 0, .int .i64 0, .int .i64 0, .int .i64 0, .int .i64 0, .int .i64 0, .int .i64 0, .int .i64 0, .int .i64 0, .int .i64 0] 40)).1)
          clear g4
          generalize w3.alloc (.cells #[.int .i64 0, .int .i64 0, .int .i64 0, .int .i64 0, .int .i64 0, .int .i64 0, .int .i64 0, .int .i64 0, .int .i64 0, .int .i64 0, .int .i64 0] 40) = w4 at hS4 OD AA BB ⊢
          refine hK.out _ _ (by exact hS4) (fun _ => ?_)
          clear hK K
          refine wpAnyH_ready (rs := [10]) (by kernel_rfl) (by simp) (AllReadyH.cons rfl (fun K hK => ?_) AllReadyH.nil)
          rw [if_pos (by kernel_rfl)]
          refine wp_store_row 30 (.tmp 7) (.tmp 21) rfl V0.heap.size (cC pc1 rr (.slice ao3 ks1.length cap3)) rfl rfl _ _ AA.out (ctx_size' (HSY.out _ _)) (HSY.out _ _).symm cC_one ?_
          have k9 := setRow_ch w4 V0.heap.size (cC pc1 rr (.slice ao3 ks1.length cap3))
          have hS5 := hS4.st k9 LA.out
          have OD := hid (OD.out.ch k9 (fun q hq e => NA.out q hq e))
          have BB := hid ((k9.block _ (lt_of_block BB.out) (fun e => NAB.out e)).trans BB.out)
          have AA := hid (setRow_blk (c := (cC pc1 rr (.slice ao3 ks1.length cap3))) AA.out)
          clear k9
          generalize w4.setRow V0.heap.size (cC pc1 rr (.slice ao3 ks1.length cap3)) = w5 at hS5 AA BB OD ⊢
          refine hK.out _ _ (by exact hS5) (fun _ => ?_)
          clear hK K
          refine wpAnyH_ready (rs := [11]) (by kernel_rfl) (by simp) (AllReadyH.cons rfl (fun K hK => ?_) AllReadyH.nil)
          rw [if_pos (by kernel_rfl)]
          refine wp_store_row 40 (.tmp 8) (.tmp 22) rfl w3.heap.size #[.int .i64 q0, .int .i64 q1, .int .i64 q2, .int .i64 q3, .int .i64 q4, .int .i64 q5, .int .i64 q6, .int .i64 q7, .int .i64 q8, .int .i64 q9, .int .i64 q10] rfl rfl _ _ BB.out want_size rfl (wt_one _ _ _ _ _ _ _ _ _ _ _) ?_
          have k9 := setRow_ch w5 w3.heap.size #[.int .i64 q0, .int .i64 q1, .int .i64 q2, .int .i64 q3, .int .i64 q4, .int .i64 q5, .int .i64 q6, .int .i64 q7, .int .i64 q8, .int .i64 q9, .int .i64 q10]
          have hS6 := hS5.st k9 LB.out
          have OD := hid (OD.out.ch k9 (fun q hq e => NB.out q hq e))
          have AA := hid ((k9.block _ (lt_of_block AA.out) (fun e => NAB.out e.symm)).trans AA.out)
          have BB := hid (setRow_blk (c := #[.int .i64 q0, .int .i64 q1, .int .i64 q2, .int .i64 q3, .int .i64 q4, .int .i64 q5, .int .i64 q6, .int .i64 q7, .int .i64 q8, .int .i64 q9, .int .i64 q10]) BB.out)
          clear k9
          generalize w5.setRow w3.heap.size #[.int .i64 q0, .int .i64 q1, .int .i64 q2, .int .i64 q3, .int .i64 q4, .int .i64 q5, .int .i64 q6, .int .i64 q7, .int .i64 q8, .int .i64 q9, .int .i64 q10] = w6 at hS6 AA BB OD ⊢
          refine hK.out _ _ (by exact hS6) (fun _ => ?_)
          clear hK K
          refine wpAnyH_done (by kernel_rfl) ?_ _
          unfold MidWr
          exact ⟨rfl, V0.heap.size, w3.heap.size, ao3, cap3, _, _, _, _, _, _, _, _, _, _, _, _, _, _, _, _, _, _, _, _, _, _, _, _, _, _, _, _, _, _, _, _, _, _, _, _, _, _, _, _, _, _, _, _, _, _, _, _, _, _, _, _, _, _, _, _, _, _, _, _, _, _, _, _, _, _, _, _, _, _, _, _, _, _, _, _, _, _, _, _, _, _, _, _, _, _, _, _, _, _, _, _, _, _, rfl, ⟨hS6.g, hS6.p, hS6.c, hS6.e, AA.out, BB.out, ⟨_, OD.out⟩⟩⟩
        · go_simp
          have g3 : Gr w2 (w2.alloc (.cells #[.int .i64 0, .int .i64 0, .int .i64 0, .int .i64 0, .int .i64 0, .int .i64 0, .int .i64 0, .int .i64 0, .int .i64 0, .int .i64 0, .int .i64 0] 40)) := Ch.alloc (Gr.refl _) _
          have LB := hid (show w.heap.size + 2 < w2.heap.size from lt_of_block hS2.e)
          have NAB := hid (show w2.heap.size ≠ V0.heap.size from by have := lt_of_block AA.out; omega)
          have hS3 := hS2.gr g3
          have OT := hid (OT.out.gr g3)
          have AA := hid (gr_blk AA.out g3)
          have BB := hid (show (w2.alloc (.cells #[.int .i64 0, .int .i64 0, .int .i64 0, .int .i64 0, .int .i64 0, .int .i64 0, .int .i64 0, .int .i64 0, .int .i64 0, .int .i64 0, .int .i64 0] 40)).heap[w2.heap.size]? = some (.cells #[.int .i64 0, .int .i64 0, .int .i64 0, .int .i64 0, .int .i64 0, .int .i64 0, .int .i64 0, .int .i64 0, .int .i64 0, .int .i64 0, .int .i64 0] 40 (0, 0)) from (MapKept.heap_alloc w2 (.cells #[.int .i64 0, .int .i64 0, .int .i64 0, .int .i64 0, .int .i64 0, .int .i64 0, .int .i64 0, .int .i64 0, .int .i64 0, .int .i64 0, .int .i64 0] 40)).1)
          clear g3
          generalize w2.alloc (.cells #[.int .i64 0, .int .i64 0, .int .i64 0, .int .i64 0, .int .i64 0, .int .i64 0, .int .i64 0, .int .i64 0, .int .i64 0, .int .i64 0, .int .i64 0] 40) = w3 at hS3 OT AA BB ⊢
          refine hK.out _ _ (by exact hS3) (fun _ => ?_)
          clear hK K
          refine wpAnyH_ready (rs := [4]) (by kernel_rfl) (by simp) (AllReadyH.cons rfl (fun K hK => ?_) AllReadyH.nil)
          go_simp
          refine (HP.out _ hS3.g _ _ _ _ OT.out).mono ?_
          rintro e w4 ⟨ao3, n3, cap3, rfl, o3, g4⟩
          obtain rfl : n3 = ks1.length := o3.len.1
          have NA := hid (fun (q : Nat) (hq : Blk (.slice ao3 ks1.length cap3) q) => show q ≠ V0.heap.size from by have l1 := lt_of_block AA.out; have l2 := (o3.blk hq).1; omega)
          have NB := hid (fun (q : Nat) (hq : Blk (.slice ao3 ks1.length cap3) q) => show q ≠ w2.heap.size from by have l1 := lt_of_block BB.out; have l2 := (o3.blk hq).1; omega)
          have hS4 := hS3.gr g4
          have AA := hid (gr_blk AA.out g4)
          have BB := hid (gr_blk BB.out g4)
          have OD := hid o3
          clear o3 OT g4
          refine hK.out _ _ (by exact hS4) (fun _ => ?_)
          clear hK K
          refine takeS_on (i := 5) 15 (v := ?v22) rfl rfl (by kernel_rfl) (by kernel_rfl) (by kernel_rfl) (fun _ _ _ h => nomatch h.1) (by kernel_rfl) ?hy22 (by exact hS4) ?_
          case hy22 => (intro w' hSw; go_simp; try (with_reducible rfl))
          simp only [Act.put, List.setIfInBounds_toArray, List.set_cons_zero, List.set_cons_succ]
          refine takeS_on (i := 6) 21 (v := ?v23) rfl rfl (by kernel_rfl) (by kernel_rfl) (by kernel_rfl) (fun _ _ _ h => nomatch h.1) (by kernel_rfl) ?hy23 (by exact hS4) ?_
          case hy23 => (intro w' hSw; go_simp; try (with_reducible rfl))
          simp only [Act.put, List.setIfInBounds_toArray, List.set_cons_zero, List.set_cons_succ]
          refine takeS_on (i := 7) 22 (v := ?v24) rfl rfl (by kernel_rfl) (by kernel_rfl) (by kernel_rfl) (fun _ _ _ h => nomatch h.1) (by kernel_rfl) ?hy24 (by exact hS4) ?_
          case hy24 => (intro w' hSw; go_simp; try (with_reducible rfl))
          simp only [Act.put, List.setIfInBounds_toArray, List.set_cons_zero, List.set_cons_succ]
          refine wpAnyH_ready (rs := [10]) (by kernel_rfl) (by simp) (AllReadyH.cons rfl (fun K hK => ?_) AllReadyH.nil)
          rw [if_pos (by kernel_rfl)]
          refine wp_store_row 30 (.tmp 7) (.tmp 21) rfl V0.heap.size (cC pc1 rr (.slice ao3 ks1.length cap3)) rfl rfl _ _ AA.out (ctx_size' (HSY.out _ _)) (HSY.out _ _).symm cC_one ?_
          have k9 := setRow_ch w4 V0.heap.size (cC pc1 rr (.slice ao3 ks1.length cap3))
          have hS5 := hS4.st k9 LA.out
          have OD := hid (OD.out.ch k9 (fun q hq e => NA.out q hq e))
          have BB := hid ((k9.block _ (lt_of_block BB.out) (fun e => NAB.out e)).trans BB.out)
          have AA := hid (setRow_blk (c := (cC pc1 rr (.slice ao3 ks1.length cap3))) AA.out)
          clear k9
          generalize w4.setRow V0.heap.size (cC pc1 rr (.slice ao3 ks1.length cap3)) = w5 at hS5 AA BB OD ⊢
          refine hK.out _ _ (by exact hS5) (fun _ => ?_)
          clear hK K
          refine wpAnyH_ready (rs := [11]) (by kernel_rfl) (by simp) (AllReadyH.cons rfl (fun K hK => ?_) AllReadyH.nil)
          rw [if_pos (by kernel_rfl)]
          refine wp_store_row 40 (.tmp 8) (.tmp 22) rfl w2.heap.size #[.int .i64 q0, .int .i64 q1, .int .i64 q2, .int .i64 q3, .int .i64 q4, .int .i64 q5, .int .i64 q6, .int .i64 q7, .int .i64 q8, .int .i64 q9, .int .i64 q10] rfl rfl _ _ BB.out want_size rfl (wt_one _ _ _ _ _ _ _ _ _ _ _) ?_
          have k9 := setRow_ch w5 w2.heap.size #[.int .i64 q0, .int .i64 q1, .int .i64 q2, .int .i64 q3, .int .i64 q4, .int .i64 q5, .int .i64 q6, .int .i64 q7, .int .i64 q8, .int .i64 q9, .int .i64 q10]
          have hS6 := hS5.st k9 LB.out
          have OD := hid (OD.out.ch k9 (fun q hq e => NB.out q hq e))
          have AA := hid ((k9.block _ (lt_of_block AA.out) (fun e => NAB.out e.symm)).trans AA.out)
          have BB := hid (setRow_blk (c := #[.int .i64 q0, .int .i64 q1, .int .i64 q2, .int .i64 q3, .int .i64 q4, .int .i64 q5, .int .i64 q6, .int .i64 q7, .int .i64 q8, .int .i64 q9, .int .i64 q10]) BB.out)
          clear k9
          generalize w5.setRow w2.heap.size #[.int .i64 q0, .int .i64 q1, .int .i64 q2, .int .i64 q3, .int .i64 q4, .int .i64 q5, .int .i64 q6, .int .i64 q7, .int .i64 q8, .int .i64 q9, .int .i64 q10] = w6 at hS6 AA BB OD ⊢
          refine hK.out _ _ (by exact hS6) (fun _ => ?_)
          clear hK K
          refine wpAnyH_done (by kernel_rfl) ?_ _
          unfold MidWr
          exact ⟨rfl, V0.heap.size, w2.heap.size, ao3, cap3, _, _, _, _, _, _, _, _, _, _, _, _, _, _, _, _, _, _, _, _, _, _, _, _, _, _, _, _, _, _, _, _, _, _, _, _, _, _, _, _, _, _, _, _, _, _, _, _, _, _, _, _, _, _, _, _, _, _, _, _, _, _, _, _, _, _, _, _, _, _, _, _, _, _, _, _, _, _, _, _, _, _, _, _, _, _, _, _, _, _, _, _, _, _, rfl, ⟨hS6.g, hS6.p, hS6.c, hS6.e, AA.out, BB.out, ⟨_, OD.out⟩⟩⟩
      · go_simp
        have g2 : Gr w1 (w1.alloc (.cells #[.int .i64 0, .int .i64 0, .int .i64 0, .int .i64 0, .int .i64 0, .int .i64 0, .int .i64 0, .int .i64 0, .int .i64 0, .int .i64 0, .int .i64 0] 40)) := Ch.alloc (Gr.refl _) _
        have LB := hid (show w.heap.size + 2 < w1.heap.size from lt_of_block hS1.e)
        have NAB := hid (show w1.heap.size ≠ V0.heap.size from by have := lt_of_block AA.out; omega)
        have hS2 := hS1.gr g2
        have AA := hid (gr_blk AA.out g2)
        have BB := hid (show (w1.alloc (.cells #[.int .i64 0, .int .i64 0, .int .i64 0, .int .i64 0, .int .i64 0, .int .i64 0, .int .i64 0, .int .i64 0, .int .i64 0, .int .i64 0, .int .i64 0] 40)).heap[w1.heap.size]? = some (.cells #[.int .i64 0, .int .i64 0, .int .i64 0, .int .i64 0, .int .i64 0, .int .i64 0, .int .i64 0, .int .i64 0, .int .i64 0, .int .i64 0, .int .i64 0] 40 (0, 0)) from (MapKept.heap_alloc w1 (.cells #[.int .i64 0, .int .i64 0, .int .i64 0, .int .i64 0, .int .i64 0, .int .i64 0, .int .i64 0, .int .i64 0, .int .i64 0, .int .i64 0, .int .i64 0] 40)).1)
        clear g2
        generalize w1.alloc (.cells #[.int .i64 0, .int .i64 0, .int .i64 0, .int .i64 0, .int .i64 0, .int .i64 0, .int .i64 0, .int .i64 0, .int .i64 0, .int .i64 0, .int .i64 0] 40) = w2 at hS2 AA BB ⊢
        refine hK.out _ _ (by exact hS2) (fun _ => ?_)
        clear hK K
        refine wpAnyH_ready (rs := [2]) (by kernel_rfl) (by simp) (AllReadyH.cons rfl (fun K hK => ?_) AllReadyH.nil)
        go_simp
        refine (HT.out _ hS2.g).mono ?_
        rintro e w3 ⟨ao2, n2, cap2, rfl, o2, g3⟩
        have hS3 := hS2.gr g3
        have AA := hid (gr_blk AA.out g3)
        have BB := hid (gr_blk BB.out g3)
        have OT := hid o2
        clear o2 g3
        refine hK.out _ _ (by exact hS3) (fun _ => ?_)
        clear hK K
        refine wpAnyH_ready (rs := [4]) (by kernel_rfl) (by simp) (AllReadyH.cons rfl (fun K hK => ?_) AllReadyH.nil)
        go_simp
        refine (HP.out _ hS3.g _ _ _ _ OT.out).mono ?_
        rintro e w4 ⟨ao3, n3, cap3, rfl, o3, g4⟩
        obtain rfl : n3 = ks1.length := o3.len.1
        have NA := hid (fun (q : Nat) (hq : Blk (.slice ao3 ks1.length cap3) q) => show q ≠ V0.heap.size from by have l1 := lt_of_block AA.out; have l2 := (o3.blk hq).1; omega)
        have NB := hid (fun (q : Nat) (hq : Blk (.slice ao3 ks1.length cap3) q) => show q ≠ w1.heap.size from by have l1 := lt_of_block BB.out; have l2 := (o3.blk hq).1; omega)
        have hS4 := hS3.gr g4
        have AA := hid (gr_blk AA.out g4)
        have BB := hid (gr_blk BB.out g4)
        have OD := hid o3
        clear o3 OT g4
        refine hK.out _ _ (by exact hS4) (fun _ => ?_)
        clear hK K
        refine takeS_on (i := 5) 15 (v := ?v25) rfl rfl (by kernel_rfl) (by kernel_rfl) (by kernel_rfl) (fun _ _ _ h => nomatch h.1) (by kernel_rfl) ?hy25 (by exact hS4) ?_
        case hy25 => (intro w' hSw; go_simp; try (with_reducible rfl))
        simp only [Act.put, List.setIfInBounds_toArray, List.set_cons_zero, List.set_cons_succ]
        refine takeS_on (i := 6) 21 (v := ?v26) rfl rfl (by kernel_rfl) (by kernel_rfl) (by kernel_rfl) (fun _ _ _ h => nomatch h.1) (by kernel_rfl) ?hy26 (by exact hS4) ?_
        case hy26 => (intro w' hSw; go_simp; try (with_reducible rfl))
        simp only [Act.put, List.setIfInBounds_toArray, List.set_cons_zero, List.set_cons_succ]
        refine takeS_on (i := 7) 22 (v := ?v27) rfl rfl (by kernel_rfl) (by kernel_rfl) (by kernel_rfl) (fun _ _ _ h => nomatch h.1) (by kernel_rfl) ?hy27 (by exact hS4) ?_
        case hy27 => (intro w' hSw; go_simp; try (with_reducible rfl))
        simp only [Act.put, List.setIfInBounds_toArray, List.set_cons_zero, List.set_cons_succ]
        refine wpAnyH_ready (rs := [10]) (by kernel_rfl) (by simp) (AllReadyH.cons rfl (fun K hK => ?_) AllReadyH.nil)
        rw [if_pos (by kernel_rfl)]
        refine wp_store_row 30 (.tmp 7) (.tmp 21) rfl V0.heap.size (cC pc1 rr (.slice ao3 ks1.length cap3)) rfl rfl _ _ AA.out (ctx_size' (HSY.out _ _)) (HSY.out _ _).symm cC_one ?_
        have k9 := setRow_ch w4 V0.heap.size (cC pc1 rr (.slice ao3 ks1.length cap3))
        have hS5 := hS4.st k9 LA.out
        have OD := hid (OD.out.ch k9 (fun q hq e => NA.out q hq e))
        have BB := hid ((k9.block _ (lt_of_block BB.out) (fun e => NAB.out e)).trans BB.out)
        have AA := hid (setRow_blk (c := (cC pc1 rr (.slice ao3 ks1.length cap3))) AA.out)
        clear k9
        generalize w4.setRow V0.heap.size (cC pc1 rr (.slice ao3 ks1.length cap3)) = w5 at hS5 AA BB OD ⊢
        refine hK.out _ _ (by exact hS5) (fun _ => ?_)
        clear hK K
        refine wpAnyH_ready (rs := [11]) (by kernel_rfl) (by simp) (AllReadyH.cons rfl (fun K hK => ?_) AllReadyH.nil)
        rw [if_pos (by kernel_rfl)]
        refine wp_store_row 40 (.tmp 8) (.tmp 22) rfl w1.heap.size #[.int .i64 q0, .int .i64 q1, .int .i64 q2, .int .i64 q3, .int .i64 q4, .int .i64 q5, .int .i64 q6, .int .i64 q7, .int .i64 q8, .int .i64 q9, .int .i64 q10] rfl rfl _ _ BB.out want_size rfl (wt_one _ _ _ _ _ _ _ _ _ _ _) ?_
        have k9 := setRow_ch w5 w1.heap.size #[.int .i64 q0, .int .i64 q1, .int .i64 q2, .int .i64 q3, .int .i64 q4, .int .i64 q5, .int .i64 q6, .int .i64 q7, .int .i64 q8, .int .i64 q9, .int .i64 q10]
        have hS6 := hS5.st k9 LB.out
        have OD := hid (OD.out.ch k9 (fun q hq e => NB.out q hq e))
        have AA := hid ((k9.block _ (lt_of_block AA.out) (fun e => NAB.out e.symm)).trans AA.out)
        have BB := hid (setRow_blk (c := #[.int .i64 q0, .int .i64 q1, .int .i64 q2, .int .i64 q3, .int .i64 q4, .int .i64 q5, .int .i64 q6, .int .i64 q7, .int .i64 q8, .int .i64 q9, .int .i64 q10]) BB.out)
        clear k9
        generalize w5.setRow w1.heap.size #[.int .i64 q0, .int .i64 q1, .int .i64 q2, .int .i64 q3, .int .i64 q4, .int .i64 q5, .int .i64 q6, .int .i64 q7, .int .i64 q8, .int .i64 q9, .int .i64 q10] = w6 at hS6 AA BB OD ⊢
        refine hK.out _ _ (by exact hS6) (fun _ => ?_)
        clear hK K
        refine wpAnyH_done (by kernel_rfl) ?_ _
        unfold MidWr
        exact ⟨rfl, V0.heap.size, w1.heap.size, ao3, cap3, _, _, _, _, _, _, _, _, _, _, _, _, _, _, _, _, _, _, _, _, _, _, _, _, _, _, _, _, _, _, _, _, _, _, _, _, _, _, _, _, _, _, _, _, _, _, _, _, _, _, _, _, _, _, _, _, _, _, _, _, _, _, _, _, _, _, _, _, _, _, _, _, _, _, _, _, _, _, _, _, _, _, _, _, _, _, _, _, _, _, _, _, _, _, rfl, ⟨hS6.g, hS6.p, hS6.c, hS6.e, AA.out, BB.out, ⟨_, OD.out⟩⟩⟩
    · go_simp
      have g1 : Gr V0 (V0.alloc (.cells #[.int .i64 0, .int .i64 0, .int .i64 0, .int .i64 0, .int .i64 0, .int .i64 0, .int .i64 0, .int .i64 0, .int .i64 0, .int .i64 0, .int .i64 0] 40)) := Ch.alloc (Gr.refl _) _
      have LB := hid (show w.heap.size + 2 < V0.heap.size from lt_of_block hS0.e)
      have hS1 := hS0.gr g1
      have BB := hid (show (V0.alloc (.cells #[.int .i64 0, .int .i64 0, .int .i64 0, .int .i64 0, .int .i64 0, .int .i64 0, .int .i64 0, .int .i64 0, .int .i64 0, .int .i64 0, .int .i64 0] 40)).heap[V0.heap.size]? = some (.cells #[.int .i64 0, .int .i64 0, .int .i64 0, .int .i64 0, .int .i64 0, .int .i64 0, .int .i64 0, .int .i64 0, .int .i64 0, .int .i64 0, .int .i64 0] 40 (0, 0)) from (MapKept.heap_alloc V0 (.cells #[.int .i64 0, .int .i64 0, .int .i64 0, .int .i64 0, .int .i64 0, .int .i64 0, .int .i64 0, .int .i64 0, .int .i64 0, .int .i64 0, .int .i64 0] 40)).1)
      clear g1
      generalize V0.alloc (.cells #[.int .i64 0, .int .i64 0, .int .i64 0, .int .i64 0, .int .i64 0, .int .i64 0, .int .i64 0, .int .i64 0, .int .i64 0, .int .i64 0, .int .i64 0] 40) = w1 at hS1 BB ⊢
      refine hK.out _ _ (by exact hS1) (fun _ => ?_)
      clear hK K
      refine wpAnyH_ready (rs := [2, 8]) (by kernel_rfl) (by simp) (AllReadyH.cons rfl (fun K hK => ?_) (AllReadyH.cons rfl (fun K hK => ?_) AllReadyH.nil))
      · go_simp
        refine (HT.out _ hS1.g).mono ?_
        rintro e w2 ⟨ao2, n2, cap2, rfl, o2, g2⟩
        have hS2 := hS1.gr g2
        have BB := hid (gr_blk BB.out g2)
        have OT := hid o2
        clear o2 g2
        refine hK.out _ _ (by exact hS2) (fun _ => ?_)
        clear hK K
        refine wpAnyH_ready (rs := [4, 8]) (by kernel_rfl) (by simp) (AllReadyH.cons rfl (fun K hK => ?_) (AllReadyH.cons rfl (fun K hK => ?_) AllReadyH.nil))
        · go_simp
          refine (HP.out _ hS2.g _ _ _ _ OT.out).mono ?_
          rintro e w3 ⟨ao3, n3, cap3, rfl, o3, g3⟩
          obtain rfl : n3 = ks1.length := o3.len.1
          have NB := hid (fun (q : Nat) (hq : Blk (.slice ao3 ks1.length cap3) q) => show q ≠ V0.heap.size from by have l1 := lt_of_block BB.out; have l2 := (o3.blk hq).1; omega)
          have hS3 := hS2.gr g3
          have BB := hid (gr_blk BB.out g3)
          have OD := hid o3
          clear o3 OT g3
          refine hK.out _ _ (by exact hS3) (fun _ => ?_)
          clear hK K
          refine takeS_on (i := 5) 15 (v := ?v28) rfl rfl (by kernel_rfl) (by kernel_rfl) (by kernel_rfl) (fun _ _ _ h => nomatch h.1) (by kernel_rfl) ?hy28 (by exact hS3) ?_
          case hy28 => (intro w' hSw; go_simp; try (with_reducible rfl))
          simp only [Act.put, List.setIfInBounds_toArray, List.set_cons_zero, List.set_cons_succ]
          refine takeS_on (i := 6) 21 (v := ?v29) rfl rfl (by kernel_rfl) (by kernel_rfl) (by kernel_rfl) (fun _ _ _ h => nomatch h.1) (by kernel_rfl) ?hy29 (by exact hS3) ?_
          case hy29 => (intro w' hSw; go_simp; try (with_reducible rfl))
          simp only [Act.put, List.setIfInBounds_toArray, List.set_cons_zero, List.set_cons_succ]
          refine takeS_on (i := 7) 22 (v := ?v30) rfl rfl (by kernel_rfl) (by kernel_rfl) (by kernel_rfl) (fun _ _ _ h => nomatch h.1) (by kernel_rfl) ?hy30 (by exact hS3) ?_
          case hy30 => (intro w' hSw; go_simp; try (with_reducible rfl))
          simp only [Act.put, List.setIfInBounds_toArray, List.set_cons_zero, List.set_cons_succ]
          refine wpAnyH_ready (rs := [8]) (by kernel_rfl) (by simp) (AllReadyH.cons rfl (fun K hK => ?_) AllReadyH.nil)
          go_simp
          have g4 : Gr w3 (w3.alloc (.cells #[.int .i64 0, .int .i64 0, .int .i64 0, .int .i64 0, .int .i64 0, .int .i64 0, .int .i64 0, .int .i64 0, .int .i64 0, .int .i64 0, .int .i64 0, .int .i64 0, .int .i64 0, .int .i64 0, .int .i64 0, .int .i64 0, .int .i64 0, .slice none 0 0] 30)) := Ch.alloc (Gr.refl _) _
          have LA := hid (show w.heap.size + 2 < w3.heap.size from lt_of_block hS3.e)
          have NA := hid (fun (q : Nat) (hq : Blk (.slice ao3 ks1.length cap3) q) => show q ≠ w3.heap.size from by have l2 := (OD.out.blk hq).2; omega)
          have NAB := hid (show V0.heap.size ≠ w3.heap.size from by have := lt_of_block BB.out; omega)
          have hS4 := hS3.gr g4
          have OD := hid (OD.out.gr g4)
          have BB := hid (gr_blk BB.out g4)
          have AA := hid (show (w3.alloc (.cells #[.int .i64 0, .int .i64 0, .int .i64 0, .int .i64 0, .int .i64 0, .int .i64 0, .int .i64 0, .int .i64 0, .int .i64 0, .int .i64 0, .int .i64 0, .int .i64 0, .int .i64 0, .int .i64 0, .int .i64 0, .int .i64 0, .int .i64 0, .slice none 0 0] 30)).heap[w3.heap.size]? = some (.cells #[.int .i64 0, .int .i64 0, .int .i64 0, .int .i64 0, .int .i64 0, .int .i64 0, .int .i64 0, .int .i64 0, .int .i64 0, .int .i64 0, .int .i64 0, .int .i64 0, .int .i64 0, .int .i64 0, .int .i64 0, .int .i64 0, .int .i64 0, .slice none 0 0] 30 (0, 0)) from (MapKept.heap_alloc w3 (.cells #[.int .i64 0, .int .i64 0, .int .i64 0, .int .i64 0, .int .i64 0, .int .i64 0, .int .i64 0, .int .i64 0, .int .i64 0, .int .i64 0, .int .i64 0, .int .i64 0, .int .i64 0, .int .i64 0, .int .i64 0, .int .i64 0, .int .i64 0, .slice none 0 0] 30)).1)
          clear g4
          generalize w3.alloc (.cells #[.int .i64 0, .int .i64 0, .int .i64 0, .int .i64 0, .int .i64 0, .int .i64 0, .int .i64 0, .int .i64 0, .int .i64 0, .int .i64 0, .int .i64 0, .int .i64 0, .int .i64 0, .int .i64 0, .int .i64 0, .int .i64 0, .int .i64 0, .slice none 0 0] 30) = w4 at hS4 OD AA BB ⊢
          refine hK.out _ _ (by exact hS4) (fun _ => ?_)
          clear hK K
          refine wpAnyH_ready (rs := [10]) (by kernel_rfl) (by simp) (AllReadyH.cons rfl (fun K hK => ?_) AllReadyH.nil)
          rw [if_pos (by kernel_rfl)]
          refine wp_store_row 30 (.tmp 7) (.tmp 21) rfl w3.heap.size (cC pc1 rr (.slice ao3 ks1.length cap3)) rfl rfl _ _ AA.out (ctx_size' (HSY.out _ _)) (HSY.out _ _).symm cC_one ?_
          have k9 := setRow_ch w4 w3.heap.size (cC pc1 rr (.slice ao3 ks1.length cap3))
          have hS5 := hS4.st k9 LA.out
          have OD := hid (OD.out.ch k9 (fun q hq e => NA.out q hq e))
          have BB := hid ((k9.block _ (lt_of_block BB.out) (fun e => NAB.out e)).trans BB.out)
          have AA := hid (setRow_blk (c := (cC pc1 rr (.slice ao3 ks1.length cap3))) AA.out)
          clear k9
          generalize w4.setRow w3.heap.size (cC pc1 rr (.slice ao3 ks1.length cap3)) = w5 at hS5 AA BB OD ⊢
          refine hK.out _ _ (by exact hS5) (fun _ => ?_)
          clear hK K
          refine wpAnyH_ready (rs := [11]) (by kernel_rfl) (by simp) (AllReadyH.cons rfl (fun K hK => ?_) AllReadyH.nil)
          rw [if_pos (by kernel_rfl)]
          refine wp_store_row 40 (.tmp 8) (.tmp 22) rfl V0.heap.size #[.int .i64 q0, .int .i64 q1, .int .i64 q2, .int .i64 q3, .int .i64 q4, .int .i64 q5, .int .i64 q6, .int .i64 q7, .int .i64 q8, .int .i64 q9, .int .i64 q10] rfl rfl _ _ BB.out want_size rfl (wt_one _ _ _ _ _ _ _ _ _ _ _) ?_
          have k9 := setRow_ch w5 V0.heap.size #[.int .i64 q0, .int .i64 q1, .int .i64 q2, .int .i64 q3, .int .i64 q4, .int .i64 q5, .int .i64 q6, .int .i64 q7, .int .i64 q8, .int .i64 q9, .int .i64 q10]
          have hS6 := hS5.st k9 LB.out
          have OD := hid (OD.out.ch k9 (fun q hq e => NB.out q hq e))
          have AA := hid ((k9.block _ (lt_of_block AA.out) (fun e => NAB.out e.symm)).trans AA.out)
          have BB := hid (setRow_blk (c := #[.int .i64 q0, .int .i64 q1, .int .i64 q2, .int .i64 q3, .int .i64 q4, .int .i64 q5, .int .i64 q6, .int .i64 q7, .int .i64 q8, .int .i64 q9, .int .i64 q10]) BB.out)
          clear k9
          generalize w5.setRow V0.heap.size #[.int .i64 q0, .int .i64 q1, .int .i64 q2, .int .i64 q3, .int .i64 q4, .int .i64 q5, .int .i64 q6, .int .i64 q7, .int .i64 q8, .int .i64 q9, .int .i64 q10] = w6 at hS6 AA BB OD ⊢
          refine hK.out _ _ (by exact hS6) (fun _ => ?_)
          clear hK K
          refine wpAnyH_done (by kernel_rfl) ?_ _
          unfold MidWr
          exact ⟨rfl, w3.heap.size, V0.heap.size, ao3, cap3, _, _, _, _, _, _, _, _, _, _, _, _, _, _, _, _, _, _, _, _, _, _, _, _, _, _, _, _, _, _, _, _, _, _, _, _, _, _, _, _, _, _, _, _, _, _, _, _, _, _, _, _, _, _, _, _, _, _, _, _, _, _, _, _, _, _, _, _, _, _, _, _, _, _, _, _, _, _, _, _, _, _, _, _, _, _, _, _, _, _, _, _, _, _, rfl, ⟨hS6.g, hS6.p, hS6.c, hS6.e, AA.out, BB.out, ⟨_, OD.out⟩⟩⟩
        · go_simp
          have g3 : Gr w2 (w2.alloc (.cells #[.int .i64 0, .int .i64 0, .int .i64 0, .int .i64 0, .int .i64 0, .int .i64 0, .int .i64 0, .int .i64 0, .int .i64 0, .int .i64 0, .int .i64 0, .int .i64 0, .int .i64 0, .int .i64 0, .int .i64 0, .int .i64 0, .int .i64 0, .slice none 0 0] 30)) := Ch.alloc (Gr.refl _) _
          have LA := hid (show w.heap.size + 2 < w2.heap.size from lt_of_block hS2.e)
          have NAB := hid (show V0.heap.size ≠ w2.heap.size from by have := lt_of_block BB.out; omega)
          have hS3 := hS2.gr g3
          have OT := hid (OT.out.gr g3)
          have BB := hid (gr_blk BB.out g3)
          have AA := hid (show (w2.alloc (.cells #[.int .i64 0, .int .i64 0, .int .i64 0, .int .i64 0, .int .i64 0, .int .i64 0, .int .i64 0, .int .i64 0, .int .i64 0, .int .i64 0, .int .i64 0, .int .i64 0, .int .i64 0, .int .i64 0, .int .i64 0, .int .i64 0, .int .i64 0, .slice none 0 0] 30)).heap[w2.heap.size]? = some (.cells #[.int .i64 0, .int .i64 0, .int .i64 0, .int .i64 0, .int .i64 0, .int .i64 0, .int .i64 0, .int .i64 0, .int .i64 0, .int .i64 0, .int .i64 0, .int .i64 0, .int .i64 0, .int .i64 0, .int .i64 0, .int .i64 0, .int .i64 0, .slice none 0 0] 30 (0, 0)) from (MapKept.heap_alloc w2 (.cells #[.int .i64 0, .int .i64 0, .int .i64 0, .int .i64 0, .int .i64 0, .int .i64 0, .int .i64 0, .int .i64 0, .int .i64 0, .int .i64 0, .int .i64 0, .int .i64 0, .int .i64 0, .int .i64 0, .int .i64 0, .int .i64 0, .int .i64 0, .slice none 0 0] 30)).1)
          clear g3
          generalize w2.alloc (.cells #[.int .i64 0, .int .i64 0, .int .i64 0, .int .i64 0, .int .i64 0, .int .i64 0, .int .i64 0, .int .i64 0, .int .i64 0, .int .i64 0, .int .i64 0, .int .i64 0, .int .i64 0, .int .i64 0, .int .i64 0, .int .i64 0, .int .i64 0, .slice none 0 0] 30) = w3 at hS3 OT AA BB ⊢
          refine hK.out _ _ (by exact hS3) (fun _ => ?_)
          clear hK K
          refine wpAnyH_ready (rs := [4]) (by kernel_rfl) (by simp) (AllReadyH.cons rfl (fun K hK => ?_) AllReadyH.nil)
          go_simp
          refine (HP.out _ hS3.g _ _ _ _ OT.out).mono ?_
          rintro e w4 ⟨ao3, n3, cap3, rfl, o3, g4⟩
          obtain rfl : n3 = ks1.length := o3.len.1
          have NA := hid (fun (q : Nat) (hq : Blk (.slice ao3 ks1.length cap3) q) => show q ≠ w2.heap.size from by have l1 := lt_of_block AA.out; have l2 := (o3.blk hq).1; omega)
          have NB := hid (fun (q : Nat) (hq : Blk (.slice ao3 ks1.length cap3) q) => show q ≠ V0.heap.size from by have l1 := lt_of_block BB.out; have l2 := (o3.blk hq).1; omega)
          have hS4 := hS3.gr g4
          have AA := hid (gr_blk AA.out g4)
          have BB := hid (gr_blk BB.out g4)
          have OD := hid o3
          clear o3 OT g4
          refine hK.out _ _ (by exact hS4) (fun _ => ?_)
          clear hK K
          refine takeS_on (i := 5) 15 (v := ?v31) rfl rfl (by kernel_rfl) (by kernel_rfl) (by kernel_rfl) (fun _ _ _ h => nomatch h.1) (by kernel_rfl) ?hy31 (by exact hS4) ?_
          case hy31 => (intro w' hSw; go_simp; try (with_reducible rfl))
          simp only [Act.put, List.setIfInBounds_toArray, List.set_cons_zero, List.set_cons_succ]
          refine takeS_on (i := 6) 21 (v := ?v32) rfl rfl (by kernel_rfl) (by kernel_rfl) (by kernel_rfl) (fun _ _ _ h => nomatch h.1) (by kernel_rfl) ?hy32 (by exact hS4) ?_
          case hy32 => (intro w' hSw; go_simp; try (with_reducible rfl))
          simp only [Act.put, List.setIfInBounds_toArray, List.set_cons_zero, List.set_cons_succ]
          refine takeS_on (i := 7) 22 (v := ?v33) rfl rfl (by kernel_rfl) (by kernel_rfl) (by kernel_rfl) (fun _ _ _ h => nomatch h.1) (by kernel_rfl) ?hy33 (by exact hS4) ?_
          case hy33 => (intro w' hSw; go_simp; try (with_reducible rfl))
          simp only [Act.put, List.setIfInBounds_toArray, List.set_cons_zero, List.set_cons_succ]
          refine wpAnyH_ready (rs := [10]) (by kernel_rfl) (by simp) (AllReadyH.cons rfl (fun K hK => ?_) AllReadyH.nil)
          rw [if_pos (by kernel_rfl)]
          refine wp_store_row 30 (.tmp 7) (.tmp 21) rfl w2.heap.size (cC pc1 rr (.slice ao3 ks1.length cap3)) rfl rfl _ _ AA.out (ctx_size' (HSY.out _ _)) (HSY.out _ _).symm cC_one ?_
          have k9 := setRow_ch w4 w2.heap.size (cC pc1 rr (.slice ao3 ks1.length cap3))
          have hS5 := hS4.st k9 LA.out
          have OD := hid (OD.out.ch k9 (fun q hq e => NA.out q hq e))
          have BB := hid ((k9.block _ (lt_of_block BB.out) (fun e => NAB.out e)).trans BB.out)
          have AA := hid (setRow_blk (c := (cC pc1 rr (.slice ao3 ks1.length cap3))) AA.out)
          clear k9
          generalize w4.setRow w2.heap.size (cC pc1 rr (.slice ao3 ks1.length cap3)) = w5 at hS5 AA BB OD ⊢
          refine hK.out _ _ (by exact hS5) (fun _ => ?_)
          clear hK K
          refine wpAnyH_ready (rs := [11]) (by kernel_rfl) (by simp) (AllReadyH.cons rfl (fun K hK => ?_) AllReadyH.nil)
          rw [if_pos (by kernel_rfl)]
          refine wp_store_row 40 (.tmp 8) (.tmp 22) rfl V0.heap.size #[.int .i64 q0, .int .i64 q1, .int .i64 q2, .int .i64 q3, .int .i64 q4, .int .i64 q5, .int .i64 q6, .int .i64 q7, .int .i64 q8, .int .i64 q9, .int .i64 q10] rfl rfl _ _ BB.out want_size rfl (wt_one _ _ _ _ _ _ _ _ _ _ _) ?_
          have k9 := setRow_ch w5 V0.heap.size #[.int .i64 q0, .int .i64 q1, .int .i64 q2, .int .i64 q3, .int .i64 q4, .int .i64 q5, .int .i64 q6, .int .i64 q7, .int .i64 q8, .int .i64 q9, .int .i64 q10]
          have hS6 := hS5.st k9 LB.out
          have OD := hid (OD.out.ch k9 (fun q hq e => NB.out q hq e))
          have AA := hid ((k9.block _ (lt_of_block AA.out) (fun e => NAB.out e.symm)).trans AA.out)
          have BB := hid (setRow_blk (c := #[.int .i64 q0, .int .i64 q1, .int .i64 q2, .int .i64 q3, .int .i64 q4, .int .i64 q5, .int .i64 q6, .int .i64 q7, .int .i64 q8, .int .i64 q9, .int .i64 q10]) BB.out)
          clear k9
          generalize w5.setRow V0.heap.size #[.int .i64 q0, .int .i64 q1, .int .i64 q2, .int .i64 q3, .int .i64 q4, .int .i64 q5, .int .i64 q6, .int .i64 q7, .int .i64 q8, .int .i64 q9, .int .i64 q10] = w6 at hS6 AA BB OD ⊢
          refine hK.out _ _ (by exact hS6) (fun _ => ?_)
          clear hK K
          refine wpAnyH_done (by kernel_rfl) ?_ _
          unfold MidWr
          exact ⟨rfl, w2.heap.size, V0.heap.size, ao3, cap3, _, _, _, _, _, _, _, _, _, _, _, _, _, _, _, _, _, _, _, _, _, _, _, _, _, _, _, _, _, _, _, _, _, _, _, _, _, _, _, _, _, _, _, _, _, _, _, _, _, _, _, _, _, _, _, _, _, _, _, _, _, _, _, _, _, _, _, _, _, _, _, _, _, _, _, _, _, _, _, _, _, _, _, _, _, _, _, _, _, _, _, _, _, _, rfl, ⟨hS6.g, hS6.p, hS6.c, hS6.e, AA.out, BB.out, ⟨_, OD.out⟩⟩⟩
      · go_simp
        have g2 : Gr w1 (w1.alloc (.cells #[.int .i64 0, .int .i64 0, .int .i64 0, .int .i64 0, .int .i64 0, .int .i64 0, .int .i64 0, .int .i64 0, .int .i64 0, .int .i64 0, .int .i64 0, .int .i64 0, .int .i64 0, .int .i64 0, .int .i64 0, .int .i64 0, .int .i64 0, .slice none 0 0] 30)) := Ch.alloc (Gr.refl _) _
        have LA := hid (show w.heap.size + 2 < w1.heap.size from lt_of_block hS1.e)
        have NAB := hid (show V0.heap.size ≠ w1.heap.size from by have := lt_of_block BB.out; omega)
        have hS2 := hS1.gr g2
        have BB := hid (gr_blk BB.out g2)
        have AA := hid (show (w1.alloc (.cells #[.int .i64 0, .int .i64 0, .int .i64 0, .int .i64 0, .int .i64 0, .int .i64 0, .int .i64 0, .int .i64 0, .int .i64 0, .int .i64 0, .int .i64 0, .int .i64 0, .int .i64 0, .int .i64 0, .int .i64 0, .int .i64 0, .int .i64 0, .slice none 0 0] 30)).heap[w1.heap.size]? = some (.cells #[.int .i64 0, .int .i64 0, .int .i64 0, .int .i64 0, .int .i64 0, .int .i64 0, .int .i64 0, .int .i64 0, .int .i64 0, .int .i64 0, .int .i64 0, .int .i64 0, .int .i64 0, .int .i64 0, .int .i64 0, .int .i64 0, .int .i64 0, .slice none 0 0] 30 (0, 0)) from (MapKept.heap_alloc w1 (.cells #[.int .i64 0, .int .i64 0, .int .i64 0, .int .i64 0, .int .i64 0, .int .i64 0, .int .i64 0, .int .i64 0, .int .i64 0, .int .i64 0, .int .i64 0, .int .i64 0, .int .i64 0, .int .i64 0, .int .i64 0, .int .i64 0, .int .i64 0, .slice none 0 0] 30)).1)
        clear g2
        generalize w1.alloc (.cells #[.int .i64 0, .int .i64 0, .int .i64 0, .int .i64 0, .int .i64 0, .int .i64 0, .int .i64 0, .int .i64 0, .int .i64 0, .int .i64 0, .int .i64 0, .int .i64 0, .int .i64 0, .int .i64 0, .int .i64 0, .int .i64 0, .int .i64 0, .slice none 0 0] 30) = w2 at hS2 AA BB ⊢
        refine hK.out _ _ (by exact hS2) (fun _ => ?_)
        clear hK K
        refine wpAnyH_ready (rs := [2]) (by kernel_rfl) (by simp) (AllReadyH.cons rfl (fun K hK => ?_) AllReadyH.nil)
        go_simp
        refine (HT.out _ hS2.g).mono ?_
        rintro e w3 ⟨ao2, n2, cap2, rfl, o2, g3⟩
        have hS3 := hS2.gr g3
        have AA := hid (gr_blk AA.out g3)
        have BB := hid (gr_blk BB.out g3)
        have OT := hid o2
        clear o2 g3
        refine hK.out _ _ (by exact hS3) (fun _ => ?_)
        clear hK K
        refine wpAnyH_ready (rs := [4]) (by kernel_rfl) (by simp) (AllReadyH.cons rfl (fun K hK => ?_) AllReadyH.nil)
        go_simp
        refine (HP.out _ hS3.g _ _ _ _ OT.out).mono ?_
        rintro e w4 ⟨ao3, n3, cap3, rfl, o3, g4⟩
        obtain rfl : n3 = ks1.length := o3.len.1
        have NA := hid (fun (q : Nat) (hq : Blk (.slice ao3 ks1.length cap3) q) => show q ≠ w1.heap.size from by have l1 := lt_of_block AA.out; have l2 := (o3.blk hq).1; omega)
        have NB := hid (fun (q : Nat) (hq : Blk (.slice ao3 ks1.length cap3) q) => show q ≠ V0.heap.size from by have l1 := lt_of_block BB.out; have l2 := (o3.blk hq).1; omega)
        have hS4 := hS3.gr g4
        have AA := hid (gr_blk AA.out g4)
        have BB := hid (gr_blk BB.out g4)
        have OD := hid o3
        clear o3 OT g4
        refine hK.out _ _ (by exact hS4) (fun _ => ?_)
        clear hK K
        refine takeS_on (i := 5) 15 (v := ?v34) rfl rfl (by kernel_rfl) (by kernel_rfl) (by kernel_rfl) (fun _ _ _ h => nomatch h.1) (by kernel_rfl) ?hy34 (by exact hS4) ?_
        case hy34 => (intro w' hSw; go_simp; try (with_reducible rfl))
        simp only [Act.put, List.setIfInBounds_toArray, List.set_cons_zero, List.set_cons_succ]
        refine takeS_on (i := 6) 21 (v := ?v35) rfl rfl (by kernel_rfl) (by kernel_rfl) (by kernel_rfl) (fun _ _ _ h => nomatch h.1) (by kernel_rfl) ?hy35 (by exact hS4) ?_
        case hy35 => (intro w' hSw; go_simp; try (with_reducible rfl))
        simp only [Act.put, List.setIfInBounds_toArray, List.set_cons_zero, List.set_cons_succ]
        refine takeS_on (i := 7) 22 (v := ?v36) rfl rfl (by kernel_rfl) (by kernel_rfl) (by kernel_rfl) (fun _ _ _ h => nomatch h.1) (by kernel_rfl) ?hy36 (by exact hS4) ?_
        case hy36 => (intro w' hSw; go_simp; try (with_reducible rfl))
        simp only [Act.put, List.setIfInBounds_toArray, List.set_cons_zero, List.set_cons_succ]
        refine wpAnyH_ready (rs := [10]) (by kernel_rfl) (by simp) (AllReadyH.cons rfl (fun K hK => ?_) AllReadyH.nil)
        rw [if_pos (by kernel_rfl)]
        refine wp_store_row 30 (.tmp 7) (.tmp 21) rfl w1.heap.size (cC pc1 rr (.slice ao3 ks1.length cap3)) rfl rfl _ _ AA.out (ctx_size' (HSY.out _ _)) (HSY.out _ _).symm cC_one ?_
        have k9 := setRow_ch w4 w1.heap.size (cC pc1 rr (.slice ao3 ks1.length cap3))
        have hS5 := hS4.st k9 LA.out
        have OD := hid (OD.out.ch k9 (fun q hq e => NA.out q hq e))
        have BB := hid ((k9.block _ (lt_of_block BB.out) (fun e => NAB.out e)).trans BB.out)
        have AA := hid (setRow_blk (c := (cC pc1 rr (.slice ao3 ks1.length cap3))) AA.out)
        clear k9
        generalize w4.setRow w1.heap.size (cC pc1 rr (.slice ao3 ks1.length cap3)) = w5 at hS5 AA BB OD ⊢
        refine hK.out _ _ (by exact hS5) (fun _ => ?_)
        clear hK K
        refine wpAnyH_ready (rs := [11]) (by kernel_rfl) (by simp) (AllReadyH.cons rfl (fun K hK => ?_) AllReadyH.nil)
        rw [if_pos (by kernel_rfl)]
        refine wp_store_row 40 (.tmp 8) (.tmp 22) rfl V0.heap.size #[.int .i64 q0, .int .i64 q1, .int .i64 q2, .int .i64 q3, .int .i64 q4, .int .i64 q5, .int .i64 q6, .int .i64 q7, .int .i64 q8, .int .i64 q9, .int .i64 q10] rfl rfl _ _ BB.out want_size rfl (wt_one _ _ _ _ _ _ _ _ _ _ _) ?_
        have k9 := setRow_ch w5 V0.heap.size #[.int .i64 q0, .int .i64 q1, .int .i64 q2, .int .i64 q3, .int .i64 q4, .int .i64 q5, .int .i64 q6, .int .i64 q7, .int .i64 q8, .int .i64 q9, .int .i64 q10]
        have hS6 := hS5.st k9 LB.out
        have OD := hid (OD.out.ch k9 (fun q hq e => NB.out q hq e))
        have AA := hid ((k9.block _ (lt_of_block AA.out) (fun e => NAB.out e.symm)).trans AA.out)
        have BB := hid (setRow_blk (c := #[.int .i64 q0, .int .i64 q1, .int .i64 q2, .int .i64 q3, .int .i64 q4, .int .i64 q5, .int .i64 q6, .int .i64 q7, .int .i64 q8, .int .i64 q9, .int .i64 q10]) BB.out)
        clear k9
        generalize w5.setRow V0.heap.size #[.int .i64 q0, .int .i64 q1, .int .i64 q2, .int .i64 q3, .int .i64 q4, .int .i64 q5, .int .i64 q6, .int .i64 q7, .int .i64 q8, .int .i64 q9, .int .i64 q10] = w6 at hS6 AA BB OD ⊢
        refine hK.out _ _ (by exact hS6) (fun _ => ?_)
        clear hK K
        refine wpAnyH_done (by kernel_rfl) ?_ _
        unfold MidWr
        exact ⟨rfl, w1.heap.size, V0.heap.size, ao3, cap3, _, _, _, _, _, _, _, _, _, _, _, _, _, _, _, _, _, _, _, _, _, _, _, _, _, _, _, _, _, _, _, _, _, _, _, _, _, _, _, _, _, _, _, _, _, _, _, _, _, _, _, _, _, _, _, _, _, _, _, _, _, _, _, _, _, _, _, _, _, _, _, _, _, _, _, _, _, _, _, _, _, _, _, _, _, _, _, _, _, _, _, _, _, _, rfl, ⟨hS6.g, hS6.p, hS6.c, hS6.e, AA.out, BB.out, ⟨_, OD.out⟩⟩⟩

end Go.Proofs.YtcdlhfodeckleabDoor.Lt
