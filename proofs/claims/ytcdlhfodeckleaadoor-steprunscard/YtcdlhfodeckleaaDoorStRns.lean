/-
  StepRuns, walked. Condition: the tables lie where they lie.
-/
import Derived.Test.YtcdlhfodeckleaaDoorStRnM
import Derived.Test.YtcdlhfodeckleaaDoorStGrd
namespace Go.Proofs.YtcdlhfodeckleaaDoor.Lt
open Go.RowKit Wd

theorem ins_size5 : (Tryd.prog.info? 46).map (·.size) = some 5 := by kernel_rfl
theorem exec_sub {P : Program} {o : Oper} {a : Act} {w : World} (ty : TypeId) (x : Operand) (ho : o.op = .load ty x) (g k : Nat) (hx : a.eval x = .pointer (some ⟨g, k, none⟩)) (cs : List Value) (d : TypeDesc) (hc : ∀ j v, cs[j]? = some v → w.cell? ⟨g, k + j, none⟩ = some v)
    (hu : P.underlying ty = some d) (hd : (match d with | .struct _ | .array _ _ => true | _ => false) = true) (hi : (P.info? ty).map (·.size) = some cs.length) : (execOp a.eval o).run P w = .ok (.value (.agg cs.toArray)) w := by
  have hl : (loadCells ⟨g, k, none⟩ cs.length).run P w = .ok cs.toArray w :=
    run_loadCells_list (P := P) w ⟨g, k, none⟩ cs (fun j v hv => by rw [add_none]; exact hc j v hv)
  have hr : (loadVar ty ⟨g, k, none⟩).run P w = .ok (.agg cs.toArray) w := by
    cases hq : P.info? ty with
    | none => simp [hq] at hi
    | some i =>
      have hs : i.size = cs.length := by simpa [hq] using hi
      have hagg : (isAgg ty).run P w = .ok true w := by
        unfold isAgg
        rw [Sem.run_bind, run_underlying hu w]
        cases d <;> simp_all
      simp [loadVar, Sem.run_bind, hagg, sizeOf, typeInfo, hq, hs, hl]
  unfold execOp
  simp only [ho, hx, Instr.loadAt, Instr.sureAddr, Sem.run_bind, Sem.run_pure, Result.andThen_ok, hr]
theorem exec_neq_want {ev : Operand → Value} {o : Oper} {w : World} (x y : Operand) (q0 q1 q2 q3 q4 q5 q6 q7 q8 q9 q10 : Int) (ho : o.op = .binOp .neq 49 x y 49) (hx : ev x = .agg #[.int .i64 q0, .int .i64 q1, .int .i64 q2, .int .i64 q3, .int .i64 q4, .int .i64 q5, .int .i64 q6, .int .i64 q7, .int .i64 q8, .int .i64 q9, .int .i64 q10]) (hy : ev y = .agg #[.int .i64 q0, .int .i64 q1, .int .i64 q2, .int .i64 q3, .int .i64 q4, .int .i64 q5, .int .i64 q6, .int .i64 q7, .int .i64 q8, .int .i64 q9, .int .i64 q10]) : (execOp ev o).run Tryd.prog w = .ok (.value (.bool false)) w := by
  unfold execOp
  simp only [ho, hx, hy]
  go_simp
theorem wpList_neq_want {ops : Array Oper} {rest : List Oper} {o : Oper} {a : Act} {w : World} {Q : Exit → Act → World → Prop} (hgd : o.guard = none) (x y : Operand) {q0 q1 q2 q3 q4 q5 q6 q7 q8 q9 q10 : Int} (ho : o.op = .binOp .neq 49 x y 49) (hx : a.eval x = .agg #[.int .i64 q0, .int .i64 q1, .int .i64 q2, .int .i64 q3, .int .i64 q4, .int .i64 q5, .int .i64 q6, .int .i64 q7, .int .i64 q8, .int .i64 q9, .int .i64 q10]) (hy : a.eval y = .agg #[.int .i64 q0, .int .i64 q1, .int .i64 q2, .int .i64 q3, .int .i64 q4, .int .i64 q5, .int .i64 q6, .int .i64 q7, .int .i64 q8, .int .i64 q9, .int .i64 q10]) (h : wpList Tryd.prog ops Q rest (a.put o.dst (.bool false)) w) : wpList Tryd.prog ops Q (o :: rest) a w :=
  wpList_plain hgd fun _ hK => by
    unfold Oper.wp
    rw [exec_neq_want x y q0 q1 q2 q3 q4 q5 q6 q7 q8 q9 q10 ho hx hy]
    exact hK _ _ h
theorem wt_sub {w : World} {X : Nat} {a0 a1 a2 a3 a4 a5 a6 a7 a8 a9 a10 : Value} {T : TypeId} (h : w.heap[X]? = some (.cells #[a0, a1, a2, a3, a4, a5, a6, a7, a8, a9, a10] T (0, 0))) : ∀ (j : Nat) (v : Value), [a1, a2, a3, a4, a5][j]? = some v → w.cell? ⟨X, 1 + j, none⟩ = some v := by
  intro j v hv
  rw [cell_of h]
  match j, hv with
  | 0, hv => exact hv
  | 1, hv => exact hv
  | 2, hv => exact hv
  | 3, hv => exact hv
  | 4, hv => exact hv
  | n + 5, hv => simp at hv
/-- behind the two twins -/
def MidRuns (w : World) (X : Array Value) (pc : Int) (r ks : List Int) (yo : Option Addr) (ny yc : Nat) : Exit → Act → World → Prop := fun e a W => e = Exit.normal ∧ ∃ (A : Nat) (ao2 : Option Addr) (n2 c2 : Nat) (bo2 : Option Addr) (m2 d2 : Nat) (x0 x1 x5 x6 x8 x9 x10 x11 x12 x13 x14 x15 x16 x17 x18 x19 x20 x21 x22 x23 x24 x25 x26 x27 x28 x29 x30 x31 x32 x33 x34 x35 x36 x37 x38 x39 x40 x41 x42 x43 x44 x45 x46 x47 x48 x49 x50 x51 x52 x53 x54 x55 x56 x57 x58 x59 x60 x61 x62 x63 x64 x65 x66 x67 x68 x69 x70 x71 x72 x73 x74 x75 x76 x77 x78 x79 x80 x81 x82 x83 x84 x85 x86 : Value), a = Act.mk #[x0, x1, .slice yo ny yc, .pointer (some ⟨w.heap.size, 0, none⟩), .pointer (some ⟨w.heap.size + 1, 0, none⟩), x5, x6, .pointer (some ⟨A, 0, none⟩), x8, x9, x10, x11, x12, x13, x14, x15, x16, x17, x18, x19, x20, x21, x22, x23, x24, x25, x26, x27, x28, x29, x30, x31, x32, x33, x34, x35, x36, x37, x38, x39, x40, x41, x42, x43, x44, x45, x46, x47, x48, x49, x50, x51, x52, x53, x54, x55, x56, x57, x58, x59, x60, x61, x62, x63, x64, x65, x66, x67, x68, x69, x70, x71, x72, x73, x74, x75, x76, x77, x78, x79, x80, x81, x82, x83, x84, x85, x86] [] ∧ Rn w X A pc r ks (.slice ao2 n2 c2) (.slice bo2 m2 d2) W
set_option maxHeartbeats 40000000 in
set_option maxRecDepth 100000 in
theorem runs_walk (P : Nat → Prop) (w : World) (hg : Glb w) (aoc aof aot : Option Addr) (nc nf nt cac caf cat : Nat) (pc : Int) (r : List Int) (hr : r.length = 16) (ao : Option Addr) (n cap : Nat) (ks : List Int) (hks : ks.length ≤ 17592186044416) (yo : Option Addr) (ny yc : Nat) (ys : List Int) (hy : Ls eI P w (.slice yo ny yc) ys) (hny : ny ≤ 17592186044416)
    (hT : ∀ W, Gr w W → Calls Tryd.prog 14 #[.agg (cC pc r (.slice ao n cap))] W (CxR W pc r ks)) (hS : RdS w #[.slice aoc nc cac, .slice aof nf caf, .slice aot nt cat])
    (hA : ∀ W, Gr w W → ∀ pc r ks ao n cap N (o a b c m v k : Int), r.length = 16 → ks.length ≤ 17592186044416 → Fr N W (.slice ao n cap) ks → Calls Tryd.prog 18 #[.agg (cC pc r (.slice ao n cap)), .agg #[.int .i64 o, .int .i64 a, .int .i64 b, .int .i64 c, .int .i64 m], .int .i64 v, .int .i64 k] W (CxR W pc (ans o a b c v k r) ks))
    (hB : ∀ W, Gr w W → ∀ pc r ks ao n cap N (o a b c m v k : Int), r.length = 16 → ks.length ≤ 17592186044416 → Fr N W (.slice ao n cap) ks → Calls Tryd.prog 19 #[.agg (cC pc r (.slice ao n cap)), .agg #[.int .i64 o, .int .i64 a, .int .i64 b, .int .i64 c, .int .i64 m], .int .i64 v, .int .i64 k] W (CxR W pc (ans o a b c v k r) ks)) :
    Calls Tryd.prog 7 #[.agg #[.slice aoc nc cac, .slice aof nf caf, .slice aot nt cat], .agg (cC pc r (.slice ao n cap)), .slice yo ny yc] w fun e w' => e = .returned (.bool true) ∧ Gr w w' := by
  have HLV := hid (fun (W : World) (p : Gr w W) => lives9_any W (hg.gr p))
  have HSM := hid same_fr
  have HT := hid hT
  have HS := hid hS
  have HA := hid hA
  have HB := hid hB
  have HSZ0 := hid (fun (pc : Int) (v : Value) => cC_size (pc := pc) (v := v) hr)
  have hB0 := Sc.new' w #[.slice aoc nc cac, .slice aof nf caf, .slice aot nt cat] (cC pc r (.slice ao n cap))
  have HR0 := hid hr
  have HK0 := hid hks
  have HY := hid hy
  have HYL := hid hy.len.1
  clear hT hS hA hB hg hr hks hy
  go_enter Tryd.func7, Tryd.ntmps7
  go_wp2_with (first
    | (go_at_call 11; refine (HLV.out _ hB0.g).mono ?_; rintro e W0 ⟨rfl, g0⟩; have hB1 := hid (hB0.gr g0); clear g0))
  refine Code.wp_mono (Q := MidRuns w #[.slice aoc nc cac, .slice aof nf caf, .slice aot nt cat] pc r ks yo ny yc) ?_ ?_
  · clear hB1 HT HLV hB0 HSZ0
    intro e a W hM; unfold MidRuns at hM; obtain ⟨rfl, A, ao2, n2, c2, bo2, m2, d2, x0, x1, x5, x6, x8, x9, x10, x11, x12, x13, x14, x15, x16, x17, x18, x19, x20, x21, x22, x23, x24, x25, x26, x27, x28, x29, x30, x31, x32, x33, x34, x35, x36, x37, x38, x39, x40, x41, x42, x43, x44, x45, x46, x47, x48, x49, x50, x51, x52, x53, x54, x55, x56, x57, x58, x59, x60, x61, x62, x63, x64, x65, x66, x67, x68, x69, x70, x71, x72, x73, x74, x75, x76, x77, x78, x79, x80, x81, x82, x83, x84, x85, x86, rfl, hX⟩ := hM
    have RN0 := hid hX
    clear hX
    go_wp2_with fail
    go_loopg [8] ny (fun q i9 wr => ∃ (j : Nat) (pc : Int) (r ks : List Int) (ao : Option Addr) (n cap : Nat) (bo : Option Addr) (k cb : Nat), j + q = ny ∧ i9 = .int .i64 (j : Int) ∧ r.length = 16 ∧ ks.length ≤ 17592186044416 ∧ Rn w #[.slice aoc nc cac, .slice aof nf caf, .slice aot nt cat] A pc r ks (.slice ao n cap) (.slice bo k cb) wr)
    case atStart => exact ⟨0, pc, r, ks, _, _, _, _, _, _, by omega, rfl, HR0.out, HK0.out, RN0.out⟩
    case round =>
      obtain ⟨j, pc, r, ks, ao, n, cap, bo, k, cb, hjk, rfl, hr, hks, rn⟩ := hrel
      have RN := hid rn
      have HSZ := hid (fun (pc : Int) (v : Value) => cC_size (pc := pc) (v := v) hr)
      have HRj := hid hr
      have HKj := hid hks
      clear rn hr hks
      by_cases hj : j < ny
      · obtain ⟨y, hyj⟩ : ∃ y, ys[j]? = some y := ⟨_, List.getElem?_eq_getElem (by have := HYL.out; omega)⟩
        have HYJ := hid hyj
        have j0 : (0 : Int) ≤ (j : Int) := by omega
        have j1 : (j : Int) < (ny : Int) := by omega
        clear hyj
        obtain ⟨gy, oy, cy, ey, -, -, -, -⟩ := HY.out.get eI_len HYJ.out
        injection ey with ey ey1 ey2
        subst ey
        clear ey1 ey2
        go_upto_region 9 with (first
          | (refine st_row rfl 44 (.tmp 9) (.tmp 27) rfl _ _ rfl rfl _ _ (MapKept.heap_alloc _ _).1 env_size rfl (one3 _ _ _) ?_; intro x1 b1 k1; obtain ⟨ck, b1⟩ := env_ck b1; have EB := hid b1; have G1 := hid (gr_alst k1); have T1 := hid (show ((x1.alloc (.cells #[.int .i64 0, .int .i64 0, .int .i64 0, .int .i64 0, .int .i64 0, .int .i64 0, .int .i64 0, .int .i64 0, .int .i64 0, .int .i64 0, .int .i64 0] 49)).alloc (.cells #[.int .i64 0, .int .i64 0, .int .i64 0, .int .i64 0, .int .i64 0, .int .i64 0, .int .i64 0, .int .i64 0, .int .i64 0, .int .i64 0, .int .i64 0] 49)).heap[x1.heap.size + 1]? = some (.cells #[.int .i64 0, .int .i64 0, .int .i64 0, .int .i64 0, .int .i64 0, .int .i64 0, .int .i64 0, .int .i64 0, .int .i64 0, .int .i64 0, .int .i64 0] 49 (0, 0)) from by simpa using (MapKept.heap_alloc (x1.alloc (.cells #[.int .i64 0, .int .i64 0, .int .i64 0, .int .i64 0, .int .i64 0, .int .i64 0, .int .i64 0, .int .i64 0, .int .i64 0, .int .i64 0, .int .i64 0] 49)) (.cells #[.int .i64 0, .int .i64 0, .int .i64 0, .int .i64 0, .int .i64 0, .int .i64 0, .int .i64 0, .int .i64 0, .int .i64 0, .int .i64 0, .int .i64 0] 49)).1); clear b1 k1)
          | (refine st_row rfl 49 (.tmp 10) (.tmp 28) rfl x1.heap.size _ rfl rfl _ _ (al_blk (MapKept.heap_alloc x1 _).1 _) want_size rfl (wt_one _ _ _ _ _ _ _ _ _ _ _) ?_; intro x2 b2 k2; have G2 := hid (show Gr x1 x2 from Ch.trans (Ch.alloc (Ch.alloc (Gr.refl x1) _) _) k2 (fun q e => .inr (by have e1 : q = x1.heap.size := e; omega))); have T2 := hid (keepB k2 T1.out (by omega)); have B2 := hid b2; clear b2 k2)
          | (refine st_row rfl 49 (.tmp 11) (.tmp 29) rfl (x1.heap.size + 1) _ rfl rfl _ _ T2.out want_size rfl (wt_one _ _ _ _ _ _ _ _ _ _ _) ?_; intro x3 b3 k3; have G3 := hid (show Gr x1 x3 from Ch.trans G2.out k3 (fun q e => .inr (by have e1 : q = x1.heap.size + 1 := e; omega))); have R3 := hid (RN.out.begin (Gr.trans G1.out G3.out) (gr_blk EB.out G3.out) (keepB k3 B2.out (by omega)) b3 (Nat.le_refl _) (lt_of_block EB.out) (Nat.lt_succ_self _)); clear b3 k3))
        obtain ⟨pc1, r1, ks1, q0, q1, q2, q3, q4, q5, q6, q7, q8, q9, q10, hr1, hk1, hp1, hq1⟩ := HS.out pc r ks ck 3 2 HRj.out HKj.out
        have HP1 := hid hp1
        have HR1 := hid hq1
        have HR16 := hid hr1
        have HK16 := hid hk1
        have HSY := hid (fun (pc : Int) (v : Value) => cC_size (pc := pc) (v := v) hr1)
        have HSX := hid (fun (pc : Int) (v : Value) (o a b c y k : Int) => cC_size (pc := pc) (v := v) ((ans_len o a b c y k r1).trans hr1))
        clear hp1 hq1 hr1 hk1 RN G1 G2 G3 EB T1 T2 B2
        go_upto_region 10 with (first
          | (refine wpList_load_row rfl 26 (.tmp 3) rfl w.heap.size rfl _ _ _ _ R3.out.p Tryd.underlying26 rfl prog_size3 ?_)
          | (refine wpList_load_row rfl 30 (.tmp 4) rfl (w.heap.size + 1) rfl _ _ _ _ R3.out.c Tryd.underlying30 rfl (ctx_size' (HSZ.out _ _)) ?_)
          | (refine wpList_load_row rfl 44 (.tmp 9) rfl _ rfl _ _ _ _ R3.out.e Tryd.underlying44 rfl env_size ?_)
          | (go_at_call 16; refine (HP1.out _ R3.out.g _ _ _ _ R3.out.v).mono ?_; rintro e w4 ⟨ao4, n4, cap4, rfl, o4, g4⟩; have F4 := hid (Rw.new R3.out o4); have R4 := hid (R3.out.gr g4); clear o4 g4)
          | (refine st_row rfl 30 (.tmp 4) (.tmp 35) rfl (w.heap.size + 1) _ rfl rfl _ _ R4.out.c (ctx_size' (HSY.out _ _)) ((HSZ.out _ _).trans (HSY.out _ _).symm) cC_one ?_; intro w5 b5 k5; have R5 := hid (R4.out.stc k5 b5 F4.out); clear b5 k5)
          | (refine st_row rfl 49 (.tmp 10) (.tmp 36) rfl _ _ rfl rfl _ _ R5.out.t want_size rfl (wt_one _ _ _ _ _ _ _ _ _ _ _) ?_; intro w6 b6 k6; have R6 := hid (R5.out.stt k6 b6); clear b6 k6))
        go_upto_region 11 with (first
          | (refine wpList_load_row rfl 26 (.tmp 3) rfl w.heap.size rfl _ _ _ _ R6.out.p Tryd.underlying26 rfl prog_size3 ?_)
          | (refine wpList_load_row rfl 30 (.tmp 7) rfl A rfl _ _ _ _ R6.out.d Tryd.underlying30 rfl (ctx_size' (HSZ.out _ _)) ?_)
          | (refine wpList_load_row rfl 44 (.tmp 9) rfl _ rfl _ _ _ _ R6.out.e Tryd.underlying44 rfl env_size ?_)
          | (go_at_call 17; refine (HR1.out _ R6.out.g _ _ _ _ R6.out.u).mono ?_; rintro e w7 ⟨ao7, n7, cap7, rfl, o7, g7⟩; have F7 := hid (Rw.new R6.out o7); have R7 := hid (R6.out.gr g7); clear o7 g7)
          | (refine st_row rfl 30 (.tmp 7) (.tmp 42) rfl A _ rfl rfl _ _ R7.out.d (ctx_size' (HSY.out _ _)) ((HSZ.out _ _).trans (HSY.out _ _).symm) cC_one ?_; intro w8 b8 k8; have R8 := hid (R7.out.std k8 b8 F7.out); clear b8 k8)
          | (refine st_row rfl 49 (.tmp 11) (.tmp 43) rfl _ _ rfl rfl _ _ R8.out.s want_size rfl (wt_one _ _ _ _ _ _ _ _ _ _ _) ?_; intro w9 b9 k9; have R9 := hid (R8.out.sts k9 b9); clear b9 k9))
        go_upto_region 13 with (first
          | (refine wpList_neq_want rfl (.tmp 44) (.tmp 45) rfl rfl rfl ?_)
          | (refine wpList_load_row rfl 49 (.tmp 10) rfl _ rfl _ _ _ _ R9.out.t Tryd.underlying49 rfl want_size ?_)
          | (refine wpList_load_row rfl 49 (.tmp 11) rfl _ rfl _ _ _ _ R9.out.s Tryd.underlying49 rfl want_size ?_)
          | (refine ld_rowG (by kernel_rfl) 30 (.tmp 4) rfl (w.heap.size + 1) rfl _ _ _ _ R9.out.c Tryd.underlying30 rfl (ctx_size' (HSY.out _ _)) ?_)
          | (refine ld_rowG (by kernel_rfl) 30 (.tmp 7) rfl A rfl _ _ _ _ R9.out.d Tryd.underlying30 rfl (ctx_size' (HSY.out _ _)) ?_)
          | (refine notG (by kernel_rfl) (.tmp 50) true rfl rfl ?_; simp only [Act.put, List.setIfInBounds_toArray, List.set_cons_zero, List.set_cons_succ]; simp only [Bool.not_true])
          | (refine callG (by kernel_rfl) 12 #[.tmp 48, .tmp 49] #[30, 30] rfl #[.agg (cC pc1 r1 (.slice ao4 n4 cap4)), .agg (cC pc1 r1 (.slice ao7 n7 cap7))] (by kernel_rfl) (HSM.out _ _ _ _ _ _ _ _ _ _ _ _ HR16.out HK16.out R9.out.v R9.out.u) ?_; rintro e w10 ⟨rfl, g10⟩; refine ⟨_, rfl, ?_⟩; simp only [Act.put, List.setIfInBounds_toArray, List.set_cons_zero, List.set_cons_succ]; have R10 := hid (R9.out.gr g10); obtain ⟨i0, i1, i2, i3, i4, i5, il⟩ := y6_cells R10.out.t; clear i1 i2 i3 i4 i5 g10))
        by_cases h58 : q0 = 58
        · have e58 : (q0 == 58) = true := by rw [h58]; rfl
          clear h58
          go_wp2_with fail
          go_ret
          exact ⟨rfl, R10.out.g⟩
        have e58 : (q0 == 58) = false := by simpa using h58
        by_cases h24 : q0 = 24
        · have e24 : (q0 == 24) = true := by rw [h24]; rfl
          clear h24 h58
          go_wp2_with fail
          go_ret
          exact ⟨rfl, R10.out.g⟩
        have e24 : (q0 == 24) = false := by simpa using h24
        by_cases h0 : q0 = 0
        · have e0 : (q0 == 0) = true := by rw [h0]; rfl
          clear h0 h24 h58
          go_wp2_with fail
          go_roundg (gk - 1)
          case measure => omega
          case rel => exact ⟨j + 1, pc1, r1, ks1, _, _, _, _, _, _, by omega, by simp, HR16.out, HK16.out, R10.out.end_⟩
        have e0 : (q0 == 0) = false := by simpa using h0
        clear h0 h24 h58
        go_wp2_with fail
        clear i0 il e58 e24 e0 HS HP1 HR1 HSM HSZ HRj HKj RN0 HR0 HK0
        generalize x1.heap.size + 1 = sb at R10 ⊢
        generalize x1.heap.size = tb at R10 ⊢
        have Q0 := hid (R10.out.gr (Ch.drew (Gr.refl _)))
        refine wp_region_held_drew (S := Rs w tb #[.int .i64 q0, .int .i64 q1, .int .i64 q2, .int .i64 q3, .int .i64 q4, .int .i64 q5, .int .i64 q6, .int .i64 q7, .int .i64 q8, .int .i64 q9, .int .i64 q10]) (by kernel_rfl) (by exact (Rs.of16 Q0.out)) (fun _ => ?_)
        generalize World.drew w10 = U0 at Q0 ⊢
        refine takeS_on (i := 1) 65 (v := ?v1) rfl rfl (by kernel_rfl) (by kernel_rfl) (by kernel_rfl) (fun _ _ _ h => h) (by kernel_rfl) ?hy1 (by exact (Rs.of16 Q0.out)) ?_
        case hy1 => (intro w' hSw; go_simp; try (with_reducible rfl))
        simp only [Act.put, List.setIfInBounds_toArray, List.set_cons_zero, List.set_cons_succ]
        refine takeS_on (i := 2) 66 (v := ?v2) rfl rfl (by kernel_rfl) (by kernel_rfl) (by kernel_rfl) (fun _ _ _ h => h) (by kernel_rfl) ?hy2 (by exact (Rs.of16 Q0.out)) ?_
        case hy2 => (intro w' hSw; refine Eq.trans (exec_sub 46 (.tmp 65) rfl _ 1 rfl _ _ (wt_sub hSw.t) Tryd.underlying46 rfl ins_size5) ?_; with_reducible rfl)
        simp only [Act.put, List.setIfInBounds_toArray, List.set_cons_zero, List.set_cons_succ]
        refine takeS_on (i := 3) 67 (v := ?v3) rfl rfl (by kernel_rfl) (by kernel_rfl) (by kernel_rfl) (fun _ _ _ h => h) (by kernel_rfl) ?hy3 (by exact (Rs.of16 Q0.out)) ?_
        case hy3 => (intro w' hSw; go_simp; try (with_reducible rfl))
        simp only [Act.put, List.setIfInBounds_toArray, List.set_cons_zero, List.set_cons_succ]
        refine takeS_on (i := 4) 68 (v := ?v4) rfl rfl (by kernel_rfl) (by kernel_rfl) (by kernel_rfl) (fun _ _ _ h => h) (by kernel_rfl) ?hy4 (by exact (Rs.of16 Q0.out)) ?_
        case hy4 => (intro w' hSw; go_simp; try (with_reducible rfl))
        simp only [Act.put, List.setIfInBounds_toArray, List.set_cons_zero, List.set_cons_succ]
        refine takeS_on (i := 5) 69 (v := ?v5) rfl rfl (by kernel_rfl) (by kernel_rfl) (by kernel_rfl) (fun _ _ _ h => h) (by kernel_rfl) ?hy5 (by exact (Rs.of16 Q0.out)) ?_
        case hy5 => (intro w' hSw; go_simp; try (with_reducible rfl))
        simp only [Act.put, List.setIfInBounds_toArray, List.set_cons_zero, List.set_cons_succ]
        refine takeS_on (i := 6) 70 (v := ?v6) rfl rfl (by kernel_rfl) (by kernel_rfl) (by kernel_rfl) (fun _ _ _ h => h) (by kernel_rfl) ?hy6 (by exact (Rs.of16 Q0.out)) ?_
        case hy6 => (intro w' hSw; have jy := (HY.out.gr hSw.g).get1 HYJ.out; go_simp; try (with_reducible rfl))
        simp only [Act.put, List.setIfInBounds_toArray, List.set_cons_zero, List.set_cons_succ]
        refine takeS_on (i := 7) 71 (v := ?v7) rfl rfl (by kernel_rfl) (by kernel_rfl) (by kernel_rfl) (fun _ _ _ h => h) (by kernel_rfl) ?hy7 (by exact (Rs.of16 Q0.out)) ?_
        case hy7 => (intro w' hSw; go_simp; try (with_reducible rfl))
        simp only [Act.put, List.setIfInBounds_toArray, List.set_cons_zero, List.set_cons_succ]
        refine takeS_on (i := 8) 72 (v := ?v8) rfl rfl (by kernel_rfl) (by kernel_rfl) (by kernel_rfl) (fun _ _ _ h => h) (by kernel_rfl) ?hy8 (by exact (Rs.of16 Q0.out)) ?_
        case hy8 => (intro w' hSw; go_simp; try (with_reducible rfl))
        simp only [Act.put, List.setIfInBounds_toArray, List.set_cons_zero, List.set_cons_succ]
        refine wpAnyH_ready (rs := [0]) (by kernel_rfl) (by simp) (AllReadyH.cons (o := { dst := some 64, op := Op.load 30 (Operand.tmp 4), type := 30, pos := "law.go:82", after := #[], guard := none }) (by kernel_rfl) (fun K hK => ?_) AllReadyH.nil)
        rw [if_pos (by kernel_rfl)]
        refine wp_load_row 30 (.tmp 4) rfl (w.heap.size + 1) rfl _ _ _ _ Q0.out.c Tryd.underlying30 rfl (ctx_size' (HSY.out _ _)) ?_
        refine hK.out _ _ (by exact (Rs.of16 Q0.out)) (fun _ => ?_)
        change wpAnyH _ _ _ _ _ _ _ (Act.put _ (some 64) _) _
        simp only [Act.put, List.setIfInBounds_toArray, List.set_cons_zero, List.set_cons_succ]
        clear hK K
        refine wpAnyH_ready (rs := [9]) (by kernel_rfl) (by simp) (AllReadyH.cons (o := { dst := some 73, op := Op.call { callee := Callee.value (Operand.func 18), args := #[Operand.tmp 64, Operand.tmp 66, Operand.tmp 70, Operand.tmp 72], argTypes := #[30, 46, 2, 2] }, type := 30, pos := "law.go:82", after := #[{ on := 0, ground := Ground.data }, { on := 2, ground := Ground.data }, { on := 6, ground := Ground.data }, { on := 8, ground := Ground.data }], guard := none }) (by kernel_rfl) (fun K hK => ?_) AllReadyH.nil)
        go_simp
        refine (HA.out _ Q0.out.g _ _ _ _ _ _ _ _ _ _ _ _ _ _ HR16.out HK16.out Q0.out.v).mono ?_
        rintro e U1 ⟨ao8, n8, cap8, rfl, o8, g8⟩
        have F8 := hid (Rw.new Q0.out o8)
        have Q1 := hid (Q0.out.gr g8)
        clear Q0 o8 g8
        refine hK.out _ _ (by exact (Rs.of16 Q1.out)) (fun _ => ?_)
        clear hK K
        refine wpAnyH_ready (rs := [10]) (by kernel_rfl) (by simp) (AllReadyH.cons (o := { dst := none, op := Op.store 30 (Operand.tmp 4) (Operand.tmp 73), type := 0, pos := "law.go:82", after := #[{ on := 9, ground := Ground.data }, { on := 9, ground := Ground.chain }, { on := 0, ground := Ground.phase }, { on := 1, ground := Ground.phase }, { on := 2, ground := Ground.phase }, { on := 3, ground := Ground.phase }, { on := 4, ground := Ground.phase }, { on := 5, ground := Ground.phase }, { on := 6, ground := Ground.phase }, { on := 7, ground := Ground.phase }, { on := 8, ground := Ground.phase }, { on := 9, ground := Ground.phase }], guard := none }) (by kernel_rfl) (fun K hK => ?_) AllReadyH.nil)
        rw [if_pos (by kernel_rfl)]
        refine op_row 30 (.tmp 4) (.tmp 73) rfl (w.heap.size + 1) _ rfl rfl _ _ Q1.out.c (ctx_size' (HSX.out _ _ _ _ _ _ _ _)) ((HSY.out _ _).trans (HSX.out _ _ _ _ _ _ _ _).symm) cC_one ?_
        intro U3 b9 k9
        have RC := hid (Q1.out.stc k9 b9 F8.out)
        clear Q1 b9 k9
        refine hK.out _ _ (by exact (Rs.of16 RC.out)) (fun _ => ?_)
        clear hK K
        refine wpAnyH_done (by kernel_rfl) ?_ _
        go_wp2_with fail
        have Q0 := hid (RC.out.gr (Ch.drew (Gr.refl _)))
        refine wp_region_held_drew (S := Rs w sb #[.int .i64 q0, .int .i64 q1, .int .i64 q2, .int .i64 q3, .int .i64 q4, .int .i64 q5, .int .i64 q6, .int .i64 q7, .int .i64 q8, .int .i64 q9, .int .i64 q10]) (by kernel_rfl) (by exact (Rs.of17 Q0.out)) (fun _ => ?_)
        generalize World.drew U3 = V0 at Q0 ⊢
        refine takeS_on (i := 1) 75 (v := ?v9) rfl rfl (by kernel_rfl) (by kernel_rfl) (by kernel_rfl) (fun _ _ _ h => h) (by kernel_rfl) ?hy9 (by exact (Rs.of17 Q0.out)) ?_
        case hy9 => (intro w' hSw; go_simp; try (with_reducible rfl))
        simp only [Act.put, List.setIfInBounds_toArray, List.set_cons_zero, List.set_cons_succ]
        refine takeS_on (i := 2) 76 (v := ?v10) rfl rfl (by kernel_rfl) (by kernel_rfl) (by kernel_rfl) (fun _ _ _ h => h) (by kernel_rfl) ?hy10 (by exact (Rs.of17 Q0.out)) ?_
        case hy10 => (intro w' hSw; refine Eq.trans (exec_sub 46 (.tmp 75) rfl _ 1 rfl _ _ (wt_sub hSw.t) Tryd.underlying46 rfl ins_size5) ?_; with_reducible rfl)
        simp only [Act.put, List.setIfInBounds_toArray, List.set_cons_zero, List.set_cons_succ]
        refine takeS_on (i := 3) 77 (v := ?v11) rfl rfl (by kernel_rfl) (by kernel_rfl) (by kernel_rfl) (fun _ _ _ h => h) (by kernel_rfl) ?hy11 (by exact (Rs.of17 Q0.out)) ?_
        case hy11 => (intro w' hSw; go_simp; try (with_reducible rfl))
        simp only [Act.put, List.setIfInBounds_toArray, List.set_cons_zero, List.set_cons_succ]
        refine takeS_on (i := 4) 78 (v := ?v12) rfl rfl (by kernel_rfl) (by kernel_rfl) (by kernel_rfl) (fun _ _ _ h => h) (by kernel_rfl) ?hy12 (by exact (Rs.of17 Q0.out)) ?_
        case hy12 => (intro w' hSw; go_simp; try (with_reducible rfl))
        simp only [Act.put, List.setIfInBounds_toArray, List.set_cons_zero, List.set_cons_succ]
        refine takeS_on (i := 5) 79 (v := ?v13) rfl rfl (by kernel_rfl) (by kernel_rfl) (by kernel_rfl) (fun _ _ _ h => h) (by kernel_rfl) ?hy13 (by exact (Rs.of17 Q0.out)) ?_
        case hy13 => (intro w' hSw; go_simp; try (with_reducible rfl))
        simp only [Act.put, List.setIfInBounds_toArray, List.set_cons_zero, List.set_cons_succ]
        refine takeS_on (i := 6) 80 (v := ?v14) rfl rfl (by kernel_rfl) (by kernel_rfl) (by kernel_rfl) (fun _ _ _ h => h) (by kernel_rfl) ?hy14 (by exact (Rs.of17 Q0.out)) ?_
        case hy14 => (intro w' hSw; have jy := (HY.out.gr hSw.g).get1 HYJ.out; go_simp; try (with_reducible rfl))
        simp only [Act.put, List.setIfInBounds_toArray, List.set_cons_zero, List.set_cons_succ]
        refine takeS_on (i := 7) 81 (v := ?v15) rfl rfl (by kernel_rfl) (by kernel_rfl) (by kernel_rfl) (fun _ _ _ h => h) (by kernel_rfl) ?hy15 (by exact (Rs.of17 Q0.out)) ?_
        case hy15 => (intro w' hSw; go_simp; try (with_reducible rfl))
        simp only [Act.put, List.setIfInBounds_toArray, List.set_cons_zero, List.set_cons_succ]
        refine takeS_on (i := 8) 82 (v := ?v16) rfl rfl (by kernel_rfl) (by kernel_rfl) (by kernel_rfl) (fun _ _ _ h => h) (by kernel_rfl) ?hy16 (by exact (Rs.of17 Q0.out)) ?_
        case hy16 => (intro w' hSw; go_simp; try (with_reducible rfl))
        simp only [Act.put, List.setIfInBounds_toArray, List.set_cons_zero, List.set_cons_succ]
        refine wpAnyH_ready (rs := [0]) (by kernel_rfl) (by simp) (AllReadyH.cons (o := { dst := some 74, op := Op.load 30 (Operand.tmp 7), type := 30, pos := "law.go:83", after := #[], guard := none }) (by kernel_rfl) (fun K hK => ?_) AllReadyH.nil)
        rw [if_pos (by kernel_rfl)]
        refine wp_load_row 30 (.tmp 7) rfl A rfl _ _ _ _ Q0.out.d Tryd.underlying30 rfl (ctx_size' (HSY.out _ _)) ?_
        refine hK.out _ _ (by exact (Rs.of17 Q0.out)) (fun _ => ?_)
        change wpAnyH _ _ _ _ _ _ _ (Act.put _ (some 74) _) _
        simp only [Act.put, List.setIfInBounds_toArray, List.set_cons_zero, List.set_cons_succ]
        clear hK K
        refine wpAnyH_ready (rs := [9]) (by kernel_rfl) (by simp) (AllReadyH.cons (o := { dst := some 83, op := Op.call { callee := Callee.value (Operand.func 19), args := #[Operand.tmp 74, Operand.tmp 76, Operand.tmp 80, Operand.tmp 82], argTypes := #[30, 46, 2, 2] }, type := 30, pos := "law.go:83", after := #[{ on := 0, ground := Ground.data }, { on := 2, ground := Ground.data }, { on := 6, ground := Ground.data }, { on := 8, ground := Ground.data }], guard := none }) (by kernel_rfl) (fun K hK => ?_) AllReadyH.nil)
        go_simp
        refine (HB.out _ Q0.out.g _ _ _ _ _ _ _ _ _ _ _ _ _ _ HR16.out HK16.out Q0.out.u).mono ?_
        rintro e V1 ⟨ao9, n9, cap9, rfl, o9, g9⟩
        have F9 := hid (Rw.new Q0.out o9)
        have Q1 := hid (Q0.out.gr g9)
        clear Q0 o9 g9
        refine hK.out _ _ (by exact (Rs.of17 Q1.out)) (fun _ => ?_)
        clear hK K
        refine wpAnyH_ready (rs := [10]) (by kernel_rfl) (by simp) (AllReadyH.cons (o := { dst := none, op := Op.store 30 (Operand.tmp 7) (Operand.tmp 83), type := 0, pos := "law.go:83", after := #[{ on := 9, ground := Ground.data }, { on := 9, ground := Ground.chain }, { on := 0, ground := Ground.phase }, { on := 1, ground := Ground.phase }, { on := 2, ground := Ground.phase }, { on := 3, ground := Ground.phase }, { on := 4, ground := Ground.phase }, { on := 5, ground := Ground.phase }, { on := 6, ground := Ground.phase }, { on := 7, ground := Ground.phase }, { on := 8, ground := Ground.phase }, { on := 9, ground := Ground.phase }], guard := none }) (by kernel_rfl) (fun K hK => ?_) AllReadyH.nil)
        rw [if_pos (by kernel_rfl)]
        refine op_row 30 (.tmp 7) (.tmp 83) rfl A _ rfl rfl _ _ Q1.out.d (ctx_size' (HSX.out _ _ _ _ _ _ _ _)) ((HSY.out _ _).trans (HSX.out _ _ _ _ _ _ _ _).symm) cC_one ?_
        intro V3 b9 k9
        have RD := hid (Q1.out.std k9 b9 F9.out)
        clear Q1 b9 k9
        refine hK.out _ _ (by exact (Rs.of17 RD.out)) (fun _ => ?_)
        clear hK K
        refine wpAnyH_done (by kernel_rfl) ?_ _
        go_wp2_with fail
        go_roundg (gk - 1)
        case measure => omega
        case rel => exact ⟨j + 1, pc1, _, ks1, _, _, _, _, _, _, by omega, by simp, (ans_len _ _ _ _ _ _ r1).trans HR16.out, HK16.out, RD.out.end_⟩
      · have jn : ¬ (j : Int) < (ny : Int) := by omega
        go_wp2_with (first
          | (refine wpList_load_row rfl 30 (.tmp 4) rfl (w.heap.size + 1) rfl _ _ _ _ RN.out.c Tryd.underlying30 rfl (ctx_size' (HSZ.out _ _)) ?_)
          | (refine wpList_load_row rfl 30 (.tmp 7) rfl A rfl _ _ _ _ RN.out.d Tryd.underlying30 rfl (ctx_size' (HSZ.out _ _)) ?_)
          | (go_at_call 12; refine (HSM.out _ _ _ _ _ _ _ _ _ _ _ _ HRj.out HKj.out RN.out.v RN.out.u).mono ?_; rintro e w9 ⟨rfl, g9⟩; have G9 := hid (Gr.trans RN.out.g g9); clear g9))
        go_ret
        exact ⟨rfl, G9.out⟩
  · have hS0 : Sqr w #[.slice aoc nc cac, .slice aof nf caf, .slice aot nt cat] W0.drew := ⟨Ch.drew hB1.out.g, hB1.out.p⟩
    have CB := hid (show W0.drew.heap[w.heap.size + 1]? = some (.cells (cC pc r (.slice ao n cap)) 30 (0, 0)) from hB1.out.c)
    clear hB1 HSM HS HA HB HLV hB0
    refine wp_region_held_drew (S := Sqr w #[.slice aoc nc cac, .slice aof nf caf, .slice aot nt cat]) (by kernel_rfl) (by exact hS0) (fun _ => ?_)
    generalize World.drew W0 = V0 at hS0 CB ⊢
    refine wpAnyH_ready (rs := [0, 2, 4]) (by kernel_rfl) (by simp) (AllReadyH.cons rfl (fun K hK => ?_) (AllReadyH.cons rfl (fun K hK => ?_) (AllReadyH.cons rfl (fun K hK => ?_) AllReadyH.nil)))
    · rw [if_pos (by kernel_rfl)]
      refine wp_load_row 30 (.tmp 4) rfl _ rfl _ _ _ _ CB.out Tryd.underlying30 rfl (ctx_size' (HSZ0.out _ _)) ?_
      refine hK.out _ _ (by exact hS0) (fun _ => ?_)
      change wpAnyH _ _ _ _ _ _ _ (Act.put _ (some 14) _) _
      simp only [Act.put, List.setIfInBounds_toArray, List.set_cons_zero, List.set_cons_succ]
      clear hK K
      refine wpAnyH_ready (rs := [1, 2, 4]) (by kernel_rfl) (by simp) (AllReadyH.cons rfl (fun K hK => ?_) (AllReadyH.cons rfl (fun K hK => ?_) (AllReadyH.cons rfl (fun K hK => ?_) AllReadyH.nil)))
      · go_simp
        refine (HT.out _ hS0.g).mono ?_
        rintro e w1 ⟨a1, n1, c1, rfl, o1, g1⟩
        have F1 := hid (Fr.new (N := (· ≤ w.heap.size + 1)) o1 (fun q hq => by have l1 := lt_of_block CB.out; have l2 : q ≤ w.heap.size + 1 := hq; omega))
        have hS1 := hS0.gr g1
        have CB := hid (gr_blk CB.out g1)
        clear o1 g1
        refine hK.out _ _ (by exact hS1) (fun _ => ?_)
        clear hK K
        refine wpAnyH_ready (rs := [2, 4]) (by kernel_rfl) (by simp) (AllReadyH.cons rfl (fun K hK => ?_) (AllReadyH.cons rfl (fun K hK => ?_) AllReadyH.nil))
        · rw [if_pos (by kernel_rfl)]
          refine wp_load_row 30 (.tmp 4) rfl _ rfl _ _ _ _ CB.out Tryd.underlying30 rfl (ctx_size' (HSZ0.out _ _)) ?_
          refine hK.out _ _ (by exact hS1) (fun _ => ?_)
          change wpAnyH _ _ _ _ _ _ _ (Act.put _ (some 16) _) _
          simp only [Act.put, List.setIfInBounds_toArray, List.set_cons_zero, List.set_cons_succ]
          clear hK K
          refine wpAnyH_ready (rs := [3, 4]) (by kernel_rfl) (by simp) (AllReadyH.cons rfl (fun K hK => ?_) (AllReadyH.cons rfl (fun K hK => ?_) AllReadyH.nil))
          · go_simp
            refine (HT.out _ hS1.g).mono ?_
            rintro e w2 ⟨a3, n3, c3, rfl, o3, g2⟩
            have F2 := hid (Fr.new (N := (· ≤ w.heap.size + 1)) o3 (fun q hq => by have l1 := lt_of_block CB.out; have l2 : q ≤ w.heap.size + 1 := hq; omega))
            have hS2 := hS1.gr g2
            have CB := hid (gr_blk CB.out g2)
            have F1 := hid (F1.out.gr g2)
            clear o3 g2
            refine hK.out _ _ (by exact hS2) (fun _ => ?_)
            clear hK K
            refine wpAnyH_ready (rs := [4]) (by kernel_rfl) (by simp) (AllReadyH.cons rfl (fun K hK => ?_) AllReadyH.nil)
            go_simp
            have g3 : Gr w2 (w2.alloc (.cells #[.int .i64 0, .int .i64 0, .int .i64 0, .int .i64 0, .int .i64 0, .int .i64 0, .int .i64 0, .int .i64 0, .int .i64 0, .int .i64 0, .int .i64 0, .int .i64 0, .int .i64 0, .int .i64 0, .int .i64 0, .int .i64 0, .int .i64 0, .slice none 0 0] 30)) := Ch.alloc (Gr.refl _) _
            have LA := hid (show w.heap.size + 1 < w2.heap.size from lt_of_block CB.out)
            have F1 := hid (F1.out.old (M := Nn w w2.heap.size) (fun q hq => hq.elim .inl (fun x => .inr (by omega))))
            have F2 := hid (F2.out.old (M := Nn w w2.heap.size) (fun q hq => hq.elim .inl (fun x => .inr (by omega))))
            have hS3 := hS2.gr g3
            have CB := hid (gr_blk CB.out g3)
            have F1 := hid (F1.out.gr g3)
            have F2 := hid (F2.out.gr g3)
            have AA := hid (show (w2.alloc (.cells #[.int .i64 0, .int .i64 0, .int .i64 0, .int .i64 0, .int .i64 0, .int .i64 0, .int .i64 0, .int .i64 0, .int .i64 0, .int .i64 0, .int .i64 0, .int .i64 0, .int .i64 0, .int .i64 0, .int .i64 0, .int .i64 0, .int .i64 0, .slice none 0 0] 30)).heap[w2.heap.size]? = some (.cells #[.int .i64 0, .int .i64 0, .int .i64 0, .int .i64 0, .int .i64 0, .int .i64 0, .int .i64 0, .int .i64 0, .int .i64 0, .int .i64 0, .int .i64 0, .int .i64 0, .int .i64 0, .int .i64 0, .int .i64 0, .int .i64 0, .int .i64 0, .slice none 0 0] 30 (0, 0)) from (MapKept.heap_alloc w2 (.cells #[.int .i64 0, .int .i64 0, .int .i64 0, .int .i64 0, .int .i64 0, .int .i64 0, .int .i64 0, .int .i64 0, .int .i64 0, .int .i64 0, .int .i64 0, .int .i64 0, .int .i64 0, .int .i64 0, .int .i64 0, .int .i64 0, .int .i64 0, .slice none 0 0] 30)).1)
            clear g3
            generalize w2.alloc (.cells #[.int .i64 0, .int .i64 0, .int .i64 0, .int .i64 0, .int .i64 0, .int .i64 0, .int .i64 0, .int .i64 0, .int .i64 0, .int .i64 0, .int .i64 0, .int .i64 0, .int .i64 0, .int .i64 0, .int .i64 0, .int .i64 0, .int .i64 0, .slice none 0 0] 30) = w3 at hS3 CB F1 F2 AA ⊢
            refine hK.out _ _ (by exact hS3) (fun _ => ?_)
            clear hK K
            refine wpAnyH_ready (rs := [5]) (by kernel_rfl) (by simp) (AllReadyH.cons rfl (fun K hK => ?_) AllReadyH.nil)
            rw [if_pos (by kernel_rfl)]
            refine op_row 30 (.tmp 4) (.tmp 15) rfl (w.heap.size + 1) _ rfl rfl _ _ CB.out (ctx_size' (HSZ0.out _ _)) ((HSZ0.out _ _).trans (HSZ0.out _ _).symm) cC_one ?_
            intro w4 b9 k9
            have hS4 : Sqr w #[.slice aoc nc cac, .slice aof nf caf, .slice aot nt cat] w4 := ⟨Ch.trans hS3.g k9 (fun q e => .inr (by have e1 : q = w.heap.size + 1 := e; omega)), keepB k9 hS3.p (by omega)⟩
            have F1 := hid (F1.out.st k9 (.inl (Nat.le_refl _)))
            have F2 := hid (F2.out.st k9 (.inl (Nat.le_refl _)))
            have AA := hid (keepB k9 AA.out (by have := LA.out; omega))
            have CB := hid b9
            clear b9 k9
            refine hK.out _ _ (by exact hS4) (fun _ => ?_)
            clear hK K
            refine wpAnyH_ready (rs := [6]) (by kernel_rfl) (by simp) (AllReadyH.cons rfl (fun K hK => ?_) AllReadyH.nil)
            rw [if_pos (by kernel_rfl)]
            refine op_row 30 (.tmp 7) (.tmp 17) rfl w2.heap.size _ rfl rfl _ _ AA.out (ctx_size' (HSZ0.out _ _)) (HSZ0.out _ _).symm cC_one ?_
            intro w5 b9 k9
            have hS5 : Sqr w #[.slice aoc nc cac, .slice aof nf caf, .slice aot nt cat] w5 := ⟨Ch.trans hS4.g k9 (fun q e => .inr (by have e1 : q = w2.heap.size := e; have := LA.out; omega)), keepB k9 hS4.p (by have := LA.out; omega)⟩
            have F1 := hid (F1.out.st k9 (.inr rfl))
            have F2 := hid (F2.out.st k9 (.inr rfl))
            have CB := hid (keepB k9 CB.out (by have := LA.out; omega))
            have AA := hid b9
            clear b9 k9
            refine hK.out _ _ (by exact hS5) (fun _ => ?_)
            clear hK K
            refine wpAnyH_done (by kernel_rfl) ?_ _
            unfold MidRuns
            exact ⟨rfl, w2.heap.size, a1, n1, c1, a3, n3, c3, _, _, _, _, _, _, _, _, _, _, _, _, _, _, _, _, _, _, _, _, _, _, _, _, _, _, _, _, _, _, _, _, _, _, _, _, _, _, _, _, _, _, _, _, _, _, _, _, _, _, _, _, _, _, _, _, _, _, _, _, _, _, _, _, _, _, _, _, _, _, _, _, _, _, _, _, _, _, _, _, _, _, _, rfl, ⟨hS5.g, hS5.p, CB.out, AA.out, LA.out, F1.out, F2.out⟩⟩
          · go_simp
            have g2 : Gr w1 (w1.alloc (.cells #[.int .i64 0, .int .i64 0, .int .i64 0, .int .i64 0, .int .i64 0, .int .i64 0, .int .i64 0, .int .i64 0, .int .i64 0, .int .i64 0, .int .i64 0, .int .i64 0, .int .i64 0, .int .i64 0, .int .i64 0, .int .i64 0, .int .i64 0, .slice none 0 0] 30)) := Ch.alloc (Gr.refl _) _
            have LA := hid (show w.heap.size + 1 < w1.heap.size from lt_of_block CB.out)
            have F1 := hid (F1.out.old (M := Nn w w1.heap.size) (fun q hq => hq.elim .inl (fun x => .inr (by omega))))
            have hS2 := hS1.gr g2
            have CB := hid (gr_blk CB.out g2)
            have F1 := hid (F1.out.gr g2)
            have AA := hid (show (w1.alloc (.cells #[.int .i64 0, .int .i64 0, .int .i64 0, .int .i64 0, .int .i64 0, .int .i64 0, .int .i64 0, .int .i64 0, .int .i64 0, .int .i64 0, .int .i64 0, .int .i64 0, .int .i64 0, .int .i64 0, .int .i64 0, .int .i64 0, .int .i64 0, .slice none 0 0] 30)).heap[w1.heap.size]? = some (.cells #[.int .i64 0, .int .i64 0, .int .i64 0, .int .i64 0, .int .i64 0, .int .i64 0, .int .i64 0, .int .i64 0, .int .i64 0, .int .i64 0, .int .i64 0, .int .i64 0, .int .i64 0, .int .i64 0, .int .i64 0, .int .i64 0, .int .i64 0, .slice none 0 0] 30 (0, 0)) from (MapKept.heap_alloc w1 (.cells #[.int .i64 0, .int .i64 0, .int .i64 0, .int .i64 0, .int .i64 0, .int .i64 0, .int .i64 0, .int .i64 0, .int .i64 0, .int .i64 0, .int .i64 0, .int .i64 0, .int .i64 0, .int .i64 0, .int .i64 0, .int .i64 0, .int .i64 0, .slice none 0 0] 30)).1)
            clear g2
            generalize w1.alloc (.cells #[.int .i64 0, .int .i64 0, .int .i64 0, .int .i64 0, .int .i64 0, .int .i64 0, .int .i64 0, .int .i64 0, .int .i64 0, .int .i64 0, .int .i64 0, .int .i64 0, .int .i64 0, .int .i64 0, .int .i64 0, .int .i64 0, .int .i64 0, .slice none 0 0] 30) = w2 at hS2 CB F1 AA ⊢
            refine hK.out _ _ (by exact hS2) (fun _ => ?_)
            clear hK K
            refine wpAnyH_ready (rs := [3]) (by kernel_rfl) (by simp) (AllReadyH.cons rfl (fun K hK => ?_) AllReadyH.nil)
            go_simp
            refine (HT.out _ hS2.g).mono ?_
            rintro e w3 ⟨a3, n3, c3, rfl, o3, g3⟩
            have F2 := hid (Fr.new (N := Nn w w1.heap.size) o3 (fun q hq => by have l1 := lt_of_block CB.out; have l2 := lt_of_block AA.out; rcases hq with x | x <;> omega))
            have hS3 := hS2.gr g3
            have CB := hid (gr_blk CB.out g3)
            have F1 := hid (F1.out.gr g3)
            have AA := hid (gr_blk AA.out g3)
            clear o3 g3
            refine hK.out _ _ (by exact hS3) (fun _ => ?_)
            clear hK K
            refine wpAnyH_ready (rs := [5]) (by kernel_rfl) (by simp) (AllReadyH.cons rfl (fun K hK => ?_) AllReadyH.nil)
            rw [if_pos (by kernel_rfl)]
            refine op_row 30 (.tmp 4) (.tmp 15) rfl (w.heap.size + 1) _ rfl rfl _ _ CB.out (ctx_size' (HSZ0.out _ _)) ((HSZ0.out _ _).trans (HSZ0.out _ _).symm) cC_one ?_
            intro w4 b9 k9
            have hS4 : Sqr w #[.slice aoc nc cac, .slice aof nf caf, .slice aot nt cat] w4 := ⟨Ch.trans hS3.g k9 (fun q e => .inr (by have e1 : q = w.heap.size + 1 := e; omega)), keepB k9 hS3.p (by omega)⟩
            have F1 := hid (F1.out.st k9 (.inl (Nat.le_refl _)))
            have F2 := hid (F2.out.st k9 (.inl (Nat.le_refl _)))
            have AA := hid (keepB k9 AA.out (by have := LA.out; omega))
            have CB := hid b9
            clear b9 k9
            refine hK.out _ _ (by exact hS4) (fun _ => ?_)
            clear hK K
            refine wpAnyH_ready (rs := [6]) (by kernel_rfl) (by simp) (AllReadyH.cons rfl (fun K hK => ?_) AllReadyH.nil)
            rw [if_pos (by kernel_rfl)]
            refine op_row 30 (.tmp 7) (.tmp 17) rfl w1.heap.size _ rfl rfl _ _ AA.out (ctx_size' (HSZ0.out _ _)) (HSZ0.out _ _).symm cC_one ?_
            intro w5 b9 k9
            have hS5 : Sqr w #[.slice aoc nc cac, .slice aof nf caf, .slice aot nt cat] w5 := ⟨Ch.trans hS4.g k9 (fun q e => .inr (by have e1 : q = w1.heap.size := e; have := LA.out; omega)), keepB k9 hS4.p (by have := LA.out; omega)⟩
            have F1 := hid (F1.out.st k9 (.inr rfl))
            have F2 := hid (F2.out.st k9 (.inr rfl))
            have CB := hid (keepB k9 CB.out (by have := LA.out; omega))
            have AA := hid b9
            clear b9 k9
            refine hK.out _ _ (by exact hS5) (fun _ => ?_)
            clear hK K
            refine wpAnyH_done (by kernel_rfl) ?_ _
            unfold MidRuns
            exact ⟨rfl, w1.heap.size, a1, n1, c1, a3, n3, c3, _, _, _, _, _, _, _, _, _, _, _, _, _, _, _, _, _, _, _, _, _, _, _, _, _, _, _, _, _, _, _, _, _, _, _, _, _, _, _, _, _, _, _, _, _, _, _, _, _, _, _, _, _, _, _, _, _, _, _, _, _, _, _, _, _, _, _, _, _, _, _, _, _, _, _, _, _, _, _, _, _, _, _, rfl, ⟨hS5.g, hS5.p, CB.out, AA.out, LA.out, F1.out, F2.out⟩⟩
        · go_simp
          have g2 : Gr w1 (w1.alloc (.cells #[.int .i64 0, .int .i64 0, .int .i64 0, .int .i64 0, .int .i64 0, .int .i64 0, .int .i64 0, .int .i64 0, .int .i64 0, .int .i64 0, .int .i64 0, .int .i64 0, .int .i64 0, .int .i64 0, .int .i64 0, .int .i64 0, .int .i64 0, .slice none 0 0] 30)) := Ch.alloc (Gr.refl _) _
          have LA := hid (show w.heap.size + 1 < w1.heap.size from lt_of_block CB.out)
          have F1 := hid (F1.out.old (M := Nn w w1.heap.size) (fun q hq => hq.elim .inl (fun x => .inr (by omega))))
          have hS2 := hS1.gr g2
          have CB := hid (gr_blk CB.out g2)
          have F1 := hid (F1.out.gr g2)
          have AA := hid (show (w1.alloc (.cells #[.int .i64 0, .int .i64 0, .int .i64 0, .int .i64 0, .int .i64 0, .int .i64 0, .int .i64 0, .int .i64 0, .int .i64 0, .int .i64 0, .int .i64 0, .int .i64 0, .int .i64 0, .int .i64 0, .int .i64 0, .int .i64 0, .int .i64 0, .slice none 0 0] 30)).heap[w1.heap.size]? = some (.cells #[.int .i64 0, .int .i64 0, .int .i64 0, .int .i64 0, .int .i64 0, .int .i64 0, .int .i64 0, .int .i64 0, .int .i64 0, .int .i64 0, .int .i64 0, .int .i64 0, .int .i64 0, .int .i64 0, .int .i64 0, .int .i64 0, .int .i64 0, .slice none 0 0] 30 (0, 0)) from (MapKept.heap_alloc w1 (.cells #[.int .i64 0, .int .i64 0, .int .i64 0, .int .i64 0, .int .i64 0, .int .i64 0, .int .i64 0, .int .i64 0, .int .i64 0, .int .i64 0, .int .i64 0, .int .i64 0, .int .i64 0, .int .i64 0, .int .i64 0, .int .i64 0, .int .i64 0, .slice none 0 0] 30)).1)
          clear g2
          generalize w1.alloc (.cells #[.int .i64 0, .int .i64 0, .int .i64 0, .int .i64 0, .int .i64 0, .int .i64 0, .int .i64 0, .int .i64 0, .int .i64 0, .int .i64 0, .int .i64 0, .int .i64 0, .int .i64 0, .int .i64 0, .int .i64 0, .int .i64 0, .int .i64 0, .slice none 0 0] 30) = w2 at hS2 CB F1 AA ⊢
          refine hK.out _ _ (by exact hS2) (fun _ => ?_)
          clear hK K
          refine wpAnyH_ready (rs := [2]) (by kernel_rfl) (by simp) (AllReadyH.cons rfl (fun K hK => ?_) AllReadyH.nil)
          rw [if_pos (by kernel_rfl)]
          refine wp_load_row 30 (.tmp 4) rfl _ rfl _ _ _ _ CB.out Tryd.underlying30 rfl (ctx_size' (HSZ0.out _ _)) ?_
          refine hK.out _ _ (by exact hS2) (fun _ => ?_)
          change wpAnyH _ _ _ _ _ _ _ (Act.put _ (some 16) _) _
          simp only [Act.put, List.setIfInBounds_toArray, List.set_cons_zero, List.set_cons_succ]
          clear hK K
          refine wpAnyH_ready (rs := [3]) (by kernel_rfl) (by simp) (AllReadyH.cons rfl (fun K hK => ?_) AllReadyH.nil)
          go_simp
          refine (HT.out _ hS2.g).mono ?_
          rintro e w3 ⟨a3, n3, c3, rfl, o3, g3⟩
          have F2 := hid (Fr.new (N := Nn w w1.heap.size) o3 (fun q hq => by have l1 := lt_of_block CB.out; have l2 := lt_of_block AA.out; rcases hq with x | x <;> omega))
          have hS3 := hS2.gr g3
          have CB := hid (gr_blk CB.out g3)
          have F1 := hid (F1.out.gr g3)
          have AA := hid (gr_blk AA.out g3)
          clear o3 g3
          refine hK.out _ _ (by exact hS3) (fun _ => ?_)
          clear hK K
          refine wpAnyH_ready (rs := [5]) (by kernel_rfl) (by simp) (AllReadyH.cons rfl (fun K hK => ?_) AllReadyH.nil)
          rw [if_pos (by kernel_rfl)]
          refine op_row 30 (.tmp 4) (.tmp 15) rfl (w.heap.size + 1) _ rfl rfl _ _ CB.out (ctx_size' (HSZ0.out _ _)) ((HSZ0.out _ _).trans (HSZ0.out _ _).symm) cC_one ?_
          intro w4 b9 k9
          have hS4 : Sqr w #[.slice aoc nc cac, .slice aof nf caf, .slice aot nt cat] w4 := ⟨Ch.trans hS3.g k9 (fun q e => .inr (by have e1 : q = w.heap.size + 1 := e; omega)), keepB k9 hS3.p (by omega)⟩
          have F1 := hid (F1.out.st k9 (.inl (Nat.le_refl _)))
          have F2 := hid (F2.out.st k9 (.inl (Nat.le_refl _)))
          have AA := hid (keepB k9 AA.out (by have := LA.out; omega))
          have CB := hid b9
          clear b9 k9
          refine hK.out _ _ (by exact hS4) (fun _ => ?_)
          clear hK K
          refine wpAnyH_ready (rs := [6]) (by kernel_rfl) (by simp) (AllReadyH.cons rfl (fun K hK => ?_) AllReadyH.nil)
          rw [if_pos (by kernel_rfl)]
          refine op_row 30 (.tmp 7) (.tmp 17) rfl w1.heap.size _ rfl rfl _ _ AA.out (ctx_size' (HSZ0.out _ _)) (HSZ0.out _ _).symm cC_one ?_
          intro w5 b9 k9
          have hS5 : Sqr w #[.slice aoc nc cac, .slice aof nf caf, .slice aot nt cat] w5 := ⟨Ch.trans hS4.g k9 (fun q e => .inr (by have e1 : q = w1.heap.size := e; have := LA.out; omega)), keepB k9 hS4.p (by have := LA.out; omega)⟩
          have F1 := hid (F1.out.st k9 (.inr rfl))
          have F2 := hid (F2.out.st k9 (.inr rfl))
          have CB := hid (keepB k9 CB.out (by have := LA.out; omega))
          have AA := hid b9
          clear b9 k9
          refine hK.out _ _ (by exact hS5) (fun _ => ?_)
          clear hK K
          refine wpAnyH_done (by kernel_rfl) ?_ _
          unfold MidRuns
          exact ⟨rfl, w1.heap.size, a1, n1, c1, a3, n3, c3, _, _, _, _, _, _, _, _, _, _, _, _, _, _, _, _, _, _, _, _, _, _, _, _, _, _, _, _, _, _, _, _, _, _, _, _, _, _, _, _, _, _, _, _, _, _, _, _, _, _, _, _, _, _, _, _, _, _, _, _, _, _, _, _, _, _, _, _, _, _, _, _, _, _, _, _, _, _, _, _, _, _, _, rfl, ⟨hS5.g, hS5.p, CB.out, AA.out, LA.out, F1.out, F2.out⟩⟩
      · rw [if_pos (by kernel_rfl)]
        refine wp_load_row 30 (.tmp 4) rfl _ rfl _ _ _ _ CB.out Tryd.underlying30 rfl (ctx_size' (HSZ0.out _ _)) ?_
        refine hK.out _ _ (by exact hS0) (fun _ => ?_)
        change wpAnyH _ _ _ _ _ _ _ (Act.put _ (some 16) _) _
        simp only [Act.put, List.setIfInBounds_toArray, List.set_cons_zero, List.set_cons_succ]
        clear hK K
        refine wpAnyH_ready (rs := [1, 4]) (by kernel_rfl) (by simp) (AllReadyH.cons rfl (fun K hK => ?_) (AllReadyH.cons rfl (fun K hK => ?_) AllReadyH.nil))
        · go_simp
          refine (HT.out _ hS0.g).mono ?_
          rintro e w1 ⟨a1, n1, c1, rfl, o1, g1⟩
          have F1 := hid (Fr.new (N := (· ≤ w.heap.size + 1)) o1 (fun q hq => by have l1 := lt_of_block CB.out; have l2 : q ≤ w.heap.size + 1 := hq; omega))
          have hS1 := hS0.gr g1
          have CB := hid (gr_blk CB.out g1)
          clear o1 g1
          refine hK.out _ _ (by exact hS1) (fun _ => ?_)
          clear hK K
          refine wpAnyH_ready (rs := [3, 4]) (by kernel_rfl) (by simp) (AllReadyH.cons rfl (fun K hK => ?_) (AllReadyH.cons rfl (fun K hK => ?_) AllReadyH.nil))
          · go_simp
            refine (HT.out _ hS1.g).mono ?_
            rintro e w2 ⟨a3, n3, c3, rfl, o3, g2⟩
            have F2 := hid (Fr.new (N := (· ≤ w.heap.size + 1)) o3 (fun q hq => by have l1 := lt_of_block CB.out; have l2 : q ≤ w.heap.size + 1 := hq; omega))
            have hS2 := hS1.gr g2
            have CB := hid (gr_blk CB.out g2)
            have F1 := hid (F1.out.gr g2)
            clear o3 g2
            refine hK.out _ _ (by exact hS2) (fun _ => ?_)
            clear hK K
            refine wpAnyH_ready (rs := [4]) (by kernel_rfl) (by simp) (AllReadyH.cons rfl (fun K hK => ?_) AllReadyH.nil)
            go_simp
            have g3 : Gr w2 (w2.alloc (.cells #[.int .i64 0, .int .i64 0, .int .i64 0, .int .i64 0, .int .i64 0, .int .i64 0, .int .i64 0, .int .i64 0, .int .i64 0, .int .i64 0, .int .i64 0, .int .i64 0, .int .i64 0, .int .i64 0, .int .i64 0, .int .i64 0, .int .i64 0, .slice none 0 0] 30)) := Ch.alloc (Gr.refl _) _
            have LA := hid (show w.heap.size + 1 < w2.heap.size from lt_of_block CB.out)
            have F1 := hid (F1.out.old (M := Nn w w2.heap.size) (fun q hq => hq.elim .inl (fun x => .inr (by omega))))
            have F2 := hid (F2.out.old (M := Nn w w2.heap.size) (fun q hq => hq.elim .inl (fun x => .inr (by omega))))
            have hS3 := hS2.gr g3
            have CB := hid (gr_blk CB.out g3)
            have F1 := hid (F1.out.gr g3)
            have F2 := hid (F2.out.gr g3)
            have AA := hid (show (w2.alloc (.cells #[.int .i64 0, .int .i64 0, .int .i64 0, .int .i64 0, .int .i64 0, .int .i64 0, .int .i64 0, .int .i64 0, .int .i64 0, .int .i64 0, .int .i64 0, .int .i64 0, .int .i64 0, .int .i64 0, .int .i64 0, .int .i64 0, .int .i64 0, .slice none 0 0] 30)).heap[w2.heap.size]? = some (.cells #[.int .i64 0, .int .i64 0, .int .i64 0, .int .i64 0, .int .i64 0, .int .i64 0, .int .i64 0, .int .i64 0, .int .i64 0, .int .i64 0, .int .i64 0, .int .i64 0, .int .i64 0, .int .i64 0, .int .i64 0, .int .i64 0, .int .i64 0, .slice none 0 0] 30 (0, 0)) from (MapKept.heap_alloc w2 (.cells #[.int .i64 0, .int .i64 0, .int .i64 0, .int .i64 0, .int .i64 0, .int .i64 0, .int .i64 0, .int .i64 0, .int .i64 0, .int .i64 0, .int .i64 0, .int .i64 0, .int .i64 0, .int .i64 0, .int .i64 0, .int .i64 0, .int .i64 0, .slice none 0 0] 30)).1)
            clear g3
            generalize w2.alloc (.cells #[.int .i64 0, .int .i64 0, .int .i64 0, .int .i64 0, .int .i64 0, .int .i64 0, .int .i64 0, .int .i64 0, .int .i64 0, .int .i64 0, .int .i64 0, .int .i64 0, .int .i64 0, .int .i64 0, .int .i64 0, .int .i64 0, .int .i64 0, .slice none 0 0] 30) = w3 at hS3 CB F1 F2 AA ⊢
            refine hK.out _ _ (by exact hS3) (fun _ => ?_)
            clear hK K
            refine wpAnyH_ready (rs := [5]) (by kernel_rfl) (by simp) (AllReadyH.cons rfl (fun K hK => ?_) AllReadyH.nil)
            rw [if_pos (by kernel_rfl)]
            refine op_row 30 (.tmp 4) (.tmp 15) rfl (w.heap.size + 1) _ rfl rfl _ _ CB.out (ctx_size' (HSZ0.out _ _)) ((HSZ0.out _ _).trans (HSZ0.out _ _).symm) cC_one ?_
            intro w4 b9 k9
            have hS4 : Sqr w #[.slice aoc nc cac, .slice aof nf caf, .slice aot nt cat] w4 := ⟨Ch.trans hS3.g k9 (fun q e => .inr (by have e1 : q = w.heap.size + 1 := e; omega)), keepB k9 hS3.p (by omega)⟩
            have F1 := hid (F1.out.st k9 (.inl (Nat.le_refl _)))
            have F2 := hid (F2.out.st k9 (.inl (Nat.le_refl _)))
            have AA := hid (keepB k9 AA.out (by have := LA.out; omega))
            have CB := hid b9
            clear b9 k9
            refine hK.out _ _ (by exact hS4) (fun _ => ?_)
            clear hK K
            refine wpAnyH_ready (rs := [6]) (by kernel_rfl) (by simp) (AllReadyH.cons rfl (fun K hK => ?_) AllReadyH.nil)
            rw [if_pos (by kernel_rfl)]
            refine op_row 30 (.tmp 7) (.tmp 17) rfl w2.heap.size _ rfl rfl _ _ AA.out (ctx_size' (HSZ0.out _ _)) (HSZ0.out _ _).symm cC_one ?_
            intro w5 b9 k9
            have hS5 : Sqr w #[.slice aoc nc cac, .slice aof nf caf, .slice aot nt cat] w5 := ⟨Ch.trans hS4.g k9 (fun q e => .inr (by have e1 : q = w2.heap.size := e; have := LA.out; omega)), keepB k9 hS4.p (by have := LA.out; omega)⟩
            have F1 := hid (F1.out.st k9 (.inr rfl))
            have F2 := hid (F2.out.st k9 (.inr rfl))
            have CB := hid (keepB k9 CB.out (by have := LA.out; omega))
            have AA := hid b9
            clear b9 k9
            refine hK.out _ _ (by exact hS5) (fun _ => ?_)
            clear hK K
            refine wpAnyH_done (by kernel_rfl) ?_ _
            unfold MidRuns
            exact ⟨rfl, w2.heap.size, a1, n1, c1, a3, n3, c3, _, _, _, _, _, _, _, _, _, _, _, _, _, _, _, _, _, _, _, _, _, _, _, _, _, _, _, _, _, _, _, _, _, _, _, _, _, _, _, _, _, _, _, _, _, _, _, _, _, _, _, _, _, _, _, _, _, _, _, _, _, _, _, _, _, _, _, _, _, _, _, _, _, _, _, _, _, _, _, _, _, _, _, rfl, ⟨hS5.g, hS5.p, CB.out, AA.out, LA.out, F1.out, F2.out⟩⟩
          · go_simp
            have g2 : Gr w1 (w1.alloc (.cells #[.int .i64 0, .int .i64 0, .int .i64 0, .int .i64 0, .int .i64 0, .int .i64 0, .int .i64 0, .int .i64 0, .int .i64 0, .int .i64 0, .int .i64 0, .int .i64 0, .int .i64 0, .int .i64 0, .int .i64 0, .int .i64 0, .int .i64 0, .slice none 0 0] 30)) := Ch.alloc (Gr.refl _) _
            have LA := hid (show w.heap.size + 1 < w1.heap.size from lt_of_block CB.out)
            have F1 := hid (F1.out.old (M := Nn w w1.heap.size) (fun q hq => hq.elim .inl (fun x => .inr (by omega))))
            have hS2 := hS1.gr g2
            have CB := hid (gr_blk CB.out g2)
            have F1 := hid (F1.out.gr g2)
            have AA := hid (show (w1.alloc (.cells #[.int .i64 0, .int .i64 0, .int .i64 0, .int .i64 0, .int .i64 0, .int .i64 0, .int .i64 0, .int .i64 0, .int .i64 0, .int .i64 0, .int .i64 0, .int .i64 0, .int .i64 0, .int .i64 0, .int .i64 0, .int .i64 0, .int .i64 0, .slice none 0 0] 30)).heap[w1.heap.size]? = some (.cells #[.int .i64 0, .int .i64 0, .int .i64 0, .int .i64 0, .int .i64 0, .int .i64 0, .int .i64 0, .int .i64 0, .int .i64 0, .int .i64 0, .int .i64 0, .int .i64 0, .int .i64 0, .int .i64 0, .int .i64 0, .int .i64 0, .int .i64 0, .slice none 0 0] 30 (0, 0)) from (MapKept.heap_alloc w1 (.cells #[.int .i64 0, .int .i64 0, .int .i64 0, .int .i64 0, .int .i64 0, .int .i64 0, .int .i64 0, .int .i64 0, .int .i64 0, .int .i64 0, .int .i64 0, .int .i64 0, .int .i64 0, .int .i64 0, .int .i64 0, .int .i64 0, .int .i64 0, .slice none 0 0] 30)).1)
            clear g2
            generalize w1.alloc (.cells #[.int .i64 0, .int .i64 0, .int .i64 0, .int .i64 0, .int .i64 0, .int .i64 0, .int .i64 0, .int .i64 0, .int .i64 0, .int .i64 0, .int .i64 0, .int .i64 0, .int .i64 0, .int .i64 0, .int .i64 0, .int .i64 0, .int .i64 0, .slice none 0 0] 30) = w2 at hS2 CB F1 AA ⊢
            refine hK.out _ _ (by exact hS2) (fun _ => ?_)
            clear hK K
            refine wpAnyH_ready (rs := [3]) (by kernel_rfl) (by simp) (AllReadyH.cons rfl (fun K hK => ?_) AllReadyH.nil)
            go_simp
            refine (HT.out _ hS2.g).mono ?_
            rintro e w3 ⟨a3, n3, c3, rfl, o3, g3⟩
            have F2 := hid (Fr.new (N := Nn w w1.heap.size) o3 (fun q hq => by have l1 := lt_of_block CB.out; have l2 := lt_of_block AA.out; rcases hq with x | x <;> omega))
            have hS3 := hS2.gr g3
            have CB := hid (gr_blk CB.out g3)
            have F1 := hid (F1.out.gr g3)
            have AA := hid (gr_blk AA.out g3)
            clear o3 g3
            refine hK.out _ _ (by exact hS3) (fun _ => ?_)
            clear hK K
            refine wpAnyH_ready (rs := [5]) (by kernel_rfl) (by simp) (AllReadyH.cons rfl (fun K hK => ?_) AllReadyH.nil)
            rw [if_pos (by kernel_rfl)]
            refine op_row 30 (.tmp 4) (.tmp 15) rfl (w.heap.size + 1) _ rfl rfl _ _ CB.out (ctx_size' (HSZ0.out _ _)) ((HSZ0.out _ _).trans (HSZ0.out _ _).symm) cC_one ?_
            intro w4 b9 k9
            have hS4 : Sqr w #[.slice aoc nc cac, .slice aof nf caf, .slice aot nt cat] w4 := ⟨Ch.trans hS3.g k9 (fun q e => .inr (by have e1 : q = w.heap.size + 1 := e; omega)), keepB k9 hS3.p (by omega)⟩
            have F1 := hid (F1.out.st k9 (.inl (Nat.le_refl _)))
            have F2 := hid (F2.out.st k9 (.inl (Nat.le_refl _)))
            have AA := hid (keepB k9 AA.out (by have := LA.out; omega))
            have CB := hid b9
            clear b9 k9
            refine hK.out _ _ (by exact hS4) (fun _ => ?_)
            clear hK K
            refine wpAnyH_ready (rs := [6]) (by kernel_rfl) (by simp) (AllReadyH.cons rfl (fun K hK => ?_) AllReadyH.nil)
            rw [if_pos (by kernel_rfl)]
            refine op_row 30 (.tmp 7) (.tmp 17) rfl w1.heap.size _ rfl rfl _ _ AA.out (ctx_size' (HSZ0.out _ _)) (HSZ0.out _ _).symm cC_one ?_
            intro w5 b9 k9
            have hS5 : Sqr w #[.slice aoc nc cac, .slice aof nf caf, .slice aot nt cat] w5 := ⟨Ch.trans hS4.g k9 (fun q e => .inr (by have e1 : q = w1.heap.size := e; have := LA.out; omega)), keepB k9 hS4.p (by have := LA.out; omega)⟩
            have F1 := hid (F1.out.st k9 (.inr rfl))
            have F2 := hid (F2.out.st k9 (.inr rfl))
            have CB := hid (keepB k9 CB.out (by have := LA.out; omega))
            have AA := hid b9
            clear b9 k9
            refine hK.out _ _ (by exact hS5) (fun _ => ?_)
            clear hK K
            refine wpAnyH_done (by kernel_rfl) ?_ _
            unfold MidRuns
            exact ⟨rfl, w1.heap.size, a1, n1, c1, a3, n3, c3, _, _, _, _, _, _, _, _, _, _, _, _, _, _, _, _, _, _, _, _, _, _, _, _, _, _, _, _, _, _, _, _, _, _, _, _, _, _, _, _, _, _, _, _, _, _, _, _, _, _, _, _, _, _, _, _, _, _, _, _, _, _, _, _, _, _, _, _, _, _, _, _, _, _, _, _, _, _, _, _, _, _, _, rfl, ⟨hS5.g, hS5.p, CB.out, AA.out, LA.out, F1.out, F2.out⟩⟩
        · go_simp
          have g1 : Gr V0 (V0.alloc (.cells #[.int .i64 0, .int .i64 0, .int .i64 0, .int .i64 0, .int .i64 0, .int .i64 0, .int .i64 0, .int .i64 0, .int .i64 0, .int .i64 0, .int .i64 0, .int .i64 0, .int .i64 0, .int .i64 0, .int .i64 0, .int .i64 0, .int .i64 0, .slice none 0 0] 30)) := Ch.alloc (Gr.refl _) _
          have LA := hid (show w.heap.size + 1 < V0.heap.size from lt_of_block CB.out)
          have hS1 := hS0.gr g1
          have CB := hid (gr_blk CB.out g1)
          have AA := hid (show (V0.alloc (.cells #[.int .i64 0, .int .i64 0, .int .i64 0, .int .i64 0, .int .i64 0, .int .i64 0, .int .i64 0, .int .i64 0, .int .i64 0, .int .i64 0, .int .i64 0, .int .i64 0, .int .i64 0, .int .i64 0, .int .i64 0, .int .i64 0, .int .i64 0, .slice none 0 0] 30)).heap[V0.heap.size]? = some (.cells #[.int .i64 0, .int .i64 0, .int .i64 0, .int .i64 0, .int .i64 0, .int .i64 0, .int .i64 0, .int .i64 0, .int .i64 0, .int .i64 0, .int .i64 0, .int .i64 0, .int .i64 0, .int .i64 0, .int .i64 0, .int .i64 0, .int .i64 0, .slice none 0 0] 30 (0, 0)) from (MapKept.heap_alloc V0 (.cells #[.int .i64 0, .int .i64 0, .int .i64 0, .int .i64 0, .int .i64 0, .int .i64 0, .int .i64 0, .int .i64 0, .int .i64 0, .int .i64 0, .int .i64 0, .int .i64 0, .int .i64 0, .int .i64 0, .int .i64 0, .int .i64 0, .int .i64 0, .slice none 0 0] 30)).1)
          clear g1
          generalize V0.alloc (.cells #[.int .i64 0, .int .i64 0, .int .i64 0, .int .i64 0, .int .i64 0, .int .i64 0, .int .i64 0, .int .i64 0, .int .i64 0, .int .i64 0, .int .i64 0, .int .i64 0, .int .i64 0, .int .i64 0, .int .i64 0, .int .i64 0, .int .i64 0, .slice none 0 0] 30) = w1 at hS1 CB AA ⊢
          refine hK.out _ _ (by exact hS1) (fun _ => ?_)
          clear hK K
          refine wpAnyH_ready (rs := [1]) (by kernel_rfl) (by simp) (AllReadyH.cons rfl (fun K hK => ?_) AllReadyH.nil)
          go_simp
          refine (HT.out _ hS1.g).mono ?_
          rintro e w2 ⟨a1, n1, c1, rfl, o1, g2⟩
          have F1 := hid (Fr.new (N := Nn w V0.heap.size) o1 (fun q hq => by have l1 := lt_of_block CB.out; have l2 := lt_of_block AA.out; rcases hq with x | x <;> omega))
          have hS2 := hS1.gr g2
          have CB := hid (gr_blk CB.out g2)
          have AA := hid (gr_blk AA.out g2)
          clear o1 g2
          refine hK.out _ _ (by exact hS2) (fun _ => ?_)
          clear hK K
          refine wpAnyH_ready (rs := [3]) (by kernel_rfl) (by simp) (AllReadyH.cons rfl (fun K hK => ?_) AllReadyH.nil)
          go_simp
          refine (HT.out _ hS2.g).mono ?_
          rintro e w3 ⟨a3, n3, c3, rfl, o3, g3⟩
          have F2 := hid (Fr.new (N := Nn w V0.heap.size) o3 (fun q hq => by have l1 := lt_of_block CB.out; have l2 := lt_of_block AA.out; rcases hq with x | x <;> omega))
          have hS3 := hS2.gr g3
          have CB := hid (gr_blk CB.out g3)
          have F1 := hid (F1.out.gr g3)
          have AA := hid (gr_blk AA.out g3)
          clear o3 g3
          refine hK.out _ _ (by exact hS3) (fun _ => ?_)
          clear hK K
          refine wpAnyH_ready (rs := [5]) (by kernel_rfl) (by simp) (AllReadyH.cons rfl (fun K hK => ?_) AllReadyH.nil)
          rw [if_pos (by kernel_rfl)]
          refine op_row 30 (.tmp 4) (.tmp 15) rfl (w.heap.size + 1) _ rfl rfl _ _ CB.out (ctx_size' (HSZ0.out _ _)) ((HSZ0.out _ _).trans (HSZ0.out _ _).symm) cC_one ?_
          intro w4 b9 k9
          have hS4 : Sqr w #[.slice aoc nc cac, .slice aof nf caf, .slice aot nt cat] w4 := ⟨Ch.trans hS3.g k9 (fun q e => .inr (by have e1 : q = w.heap.size + 1 := e; omega)), keepB k9 hS3.p (by omega)⟩
          have F1 := hid (F1.out.st k9 (.inl (Nat.le_refl _)))
          have F2 := hid (F2.out.st k9 (.inl (Nat.le_refl _)))
          have AA := hid (keepB k9 AA.out (by have := LA.out; omega))
          have CB := hid b9
          clear b9 k9
          refine hK.out _ _ (by exact hS4) (fun _ => ?_)
          clear hK K
          refine wpAnyH_ready (rs := [6]) (by kernel_rfl) (by simp) (AllReadyH.cons rfl (fun K hK => ?_) AllReadyH.nil)
          rw [if_pos (by kernel_rfl)]
          refine op_row 30 (.tmp 7) (.tmp 17) rfl V0.heap.size _ rfl rfl _ _ AA.out (ctx_size' (HSZ0.out _ _)) (HSZ0.out _ _).symm cC_one ?_
          intro w5 b9 k9
          have hS5 : Sqr w #[.slice aoc nc cac, .slice aof nf caf, .slice aot nt cat] w5 := ⟨Ch.trans hS4.g k9 (fun q e => .inr (by have e1 : q = V0.heap.size := e; have := LA.out; omega)), keepB k9 hS4.p (by have := LA.out; omega)⟩
          have F1 := hid (F1.out.st k9 (.inr rfl))
          have F2 := hid (F2.out.st k9 (.inr rfl))
          have CB := hid (keepB k9 CB.out (by have := LA.out; omega))
          have AA := hid b9
          clear b9 k9
          refine hK.out _ _ (by exact hS5) (fun _ => ?_)
          clear hK K
          refine wpAnyH_done (by kernel_rfl) ?_ _
          unfold MidRuns
          exact ⟨rfl, V0.heap.size, a1, n1, c1, a3, n3, c3, _, _, _, _, _, _, _, _, _, _, _, _, _, _, _, _, _, _, _, _, _, _, _, _, _, _, _, _, _, _, _, _, _, _, _, _, _, _, _, _, _, _, _, _, _, _, _, _, _, _, _, _, _, _, _, _, _, _, _, _, _, _, _, _, _, _, _, _, _, _, _, _, _, _, _, _, _, _, _, _, _, _, _, rfl, ⟨hS5.g, hS5.p, CB.out, AA.out, LA.out, F1.out, F2.out⟩⟩
      · go_simp
        have g1 : Gr V0 (V0.alloc (.cells #[.int .i64 0, .int .i64 0, .int .i64 0, .int .i64 0, .int .i64 0, .int .i64 0, .int .i64 0, .int .i64 0, .int .i64 0, .int .i64 0, .int .i64 0, .int .i64 0, .int .i64 0, .int .i64 0, .int .i64 0, .int .i64 0, .int .i64 0, .slice none 0 0] 30)) := Ch.alloc (Gr.refl _) _
        have LA := hid (show w.heap.size + 1 < V0.heap.size from lt_of_block CB.out)
        have hS1 := hS0.gr g1
        have CB := hid (gr_blk CB.out g1)
        have AA := hid (show (V0.alloc (.cells #[.int .i64 0, .int .i64 0, .int .i64 0, .int .i64 0, .int .i64 0, .int .i64 0, .int .i64 0, .int .i64 0, .int .i64 0, .int .i64 0, .int .i64 0, .int .i64 0, .int .i64 0, .int .i64 0, .int .i64 0, .int .i64 0, .int .i64 0, .slice none 0 0] 30)).heap[V0.heap.size]? = some (.cells #[.int .i64 0, .int .i64 0, .int .i64 0, .int .i64 0, .int .i64 0, .int .i64 0, .int .i64 0, .int .i64 0, .int .i64 0, .int .i64 0, .int .i64 0, .int .i64 0, .int .i64 0, .int .i64 0, .int .i64 0, .int .i64 0, .int .i64 0, .slice none 0 0] 30 (0, 0)) from (MapKept.heap_alloc V0 (.cells #[.int .i64 0, .int .i64 0, .int .i64 0, .int .i64 0, .int .i64 0, .int .i64 0, .int .i64 0, .int .i64 0, .int .i64 0, .int .i64 0, .int .i64 0, .int .i64 0, .int .i64 0, .int .i64 0, .int .i64 0, .int .i64 0, .int .i64 0, .slice none 0 0] 30)).1)
        clear g1
        generalize V0.alloc (.cells #[.int .i64 0, .int .i64 0, .int .i64 0, .int .i64 0, .int .i64 0, .int .i64 0, .int .i64 0, .int .i64 0, .int .i64 0, .int .i64 0, .int .i64 0, .int .i64 0, .int .i64 0, .int .i64 0, .int .i64 0, .int .i64 0, .int .i64 0, .slice none 0 0] 30) = w1 at hS1 CB AA ⊢
        refine hK.out _ _ (by exact hS1) (fun _ => ?_)
        clear hK K
        refine wpAnyH_ready (rs := [1, 2]) (by kernel_rfl) (by simp) (AllReadyH.cons rfl (fun K hK => ?_) (AllReadyH.cons rfl (fun K hK => ?_) AllReadyH.nil))
        · go_simp
          refine (HT.out _ hS1.g).mono ?_
          rintro e w2 ⟨a1, n1, c1, rfl, o1, g2⟩
          have F1 := hid (Fr.new (N := Nn w V0.heap.size) o1 (fun q hq => by have l1 := lt_of_block CB.out; have l2 := lt_of_block AA.out; rcases hq with x | x <;> omega))
          have hS2 := hS1.gr g2
          have CB := hid (gr_blk CB.out g2)
          have AA := hid (gr_blk AA.out g2)
          clear o1 g2
          refine hK.out _ _ (by exact hS2) (fun _ => ?_)
          clear hK K
          refine wpAnyH_ready (rs := [2]) (by kernel_rfl) (by simp) (AllReadyH.cons rfl (fun K hK => ?_) AllReadyH.nil)
          rw [if_pos (by kernel_rfl)]
          refine wp_load_row 30 (.tmp 4) rfl _ rfl _ _ _ _ CB.out Tryd.underlying30 rfl (ctx_size' (HSZ0.out _ _)) ?_
          refine hK.out _ _ (by exact hS2) (fun _ => ?_)
          change wpAnyH _ _ _ _ _ _ _ (Act.put _ (some 16) _) _
          simp only [Act.put, List.setIfInBounds_toArray, List.set_cons_zero, List.set_cons_succ]
          clear hK K
          refine wpAnyH_ready (rs := [3]) (by kernel_rfl) (by simp) (AllReadyH.cons rfl (fun K hK => ?_) AllReadyH.nil)
          go_simp
          refine (HT.out _ hS2.g).mono ?_
          rintro e w3 ⟨a3, n3, c3, rfl, o3, g3⟩
          have F2 := hid (Fr.new (N := Nn w V0.heap.size) o3 (fun q hq => by have l1 := lt_of_block CB.out; have l2 := lt_of_block AA.out; rcases hq with x | x <;> omega))
          have hS3 := hS2.gr g3
          have CB := hid (gr_blk CB.out g3)
          have F1 := hid (F1.out.gr g3)
          have AA := hid (gr_blk AA.out g3)
          clear o3 g3
          refine hK.out _ _ (by exact hS3) (fun _ => ?_)
          clear hK K
          refine wpAnyH_ready (rs := [5]) (by kernel_rfl) (by simp) (AllReadyH.cons rfl (fun K hK => ?_) AllReadyH.nil)
          rw [if_pos (by kernel_rfl)]
          refine op_row 30 (.tmp 4) (.tmp 15) rfl (w.heap.size + 1) _ rfl rfl _ _ CB.out (ctx_size' (HSZ0.out _ _)) ((HSZ0.out _ _).trans (HSZ0.out _ _).symm) cC_one ?_
          intro w4 b9 k9
          have hS4 : Sqr w #[.slice aoc nc cac, .slice aof nf caf, .slice aot nt cat] w4 := ⟨Ch.trans hS3.g k9 (fun q e => .inr (by have e1 : q = w.heap.size + 1 := e; omega)), keepB k9 hS3.p (by omega)⟩
          have F1 := hid (F1.out.st k9 (.inl (Nat.le_refl _)))
          have F2 := hid (F2.out.st k9 (.inl (Nat.le_refl _)))
          have AA := hid (keepB k9 AA.out (by have := LA.out; omega))
          have CB := hid b9
          clear b9 k9
          refine hK.out _ _ (by exact hS4) (fun _ => ?_)
          clear hK K
          refine wpAnyH_ready (rs := [6]) (by kernel_rfl) (by simp) (AllReadyH.cons rfl (fun K hK => ?_) AllReadyH.nil)
          rw [if_pos (by kernel_rfl)]
          refine op_row 30 (.tmp 7) (.tmp 17) rfl V0.heap.size _ rfl rfl _ _ AA.out (ctx_size' (HSZ0.out _ _)) (HSZ0.out _ _).symm cC_one ?_
          intro w5 b9 k9
          have hS5 : Sqr w #[.slice aoc nc cac, .slice aof nf caf, .slice aot nt cat] w5 := ⟨Ch.trans hS4.g k9 (fun q e => .inr (by have e1 : q = V0.heap.size := e; have := LA.out; omega)), keepB k9 hS4.p (by have := LA.out; omega)⟩
          have F1 := hid (F1.out.st k9 (.inr rfl))
          have F2 := hid (F2.out.st k9 (.inr rfl))
          have CB := hid (keepB k9 CB.out (by have := LA.out; omega))
          have AA := hid b9
          clear b9 k9
          refine hK.out _ _ (by exact hS5) (fun _ => ?_)
          clear hK K
          refine wpAnyH_done (by kernel_rfl) ?_ _
          unfold MidRuns
          exact ⟨rfl, V0.heap.size, a1, n1, c1, a3, n3, c3, _, _, _, _, _, _, _, _, _, _, _, _, _, _, _, _, _, _, _, _, _, _, _, _, _, _, _, _, _, _, _, _, _, _, _, _, _, _, _, _, _, _, _, _, _, _, _, _, _, _, _, _, _, _, _, _, _, _, _, _, _, _, _, _, _, _, _, _, _, _, _, _, _, _, _, _, _, _, _, _, _, _, _, rfl, ⟨hS5.g, hS5.p, CB.out, AA.out, LA.out, F1.out, F2.out⟩⟩
        · rw [if_pos (by kernel_rfl)]
          refine wp_load_row 30 (.tmp 4) rfl _ rfl _ _ _ _ CB.out Tryd.underlying30 rfl (ctx_size' (HSZ0.out _ _)) ?_
          refine hK.out _ _ (by exact hS1) (fun _ => ?_)
          change wpAnyH _ _ _ _ _ _ _ (Act.put _ (some 16) _) _
          simp only [Act.put, List.setIfInBounds_toArray, List.set_cons_zero, List.set_cons_succ]
          clear hK K
          refine wpAnyH_ready (rs := [1]) (by kernel_rfl) (by simp) (AllReadyH.cons rfl (fun K hK => ?_) AllReadyH.nil)
          go_simp
          refine (HT.out _ hS1.g).mono ?_
          rintro e w2 ⟨a1, n1, c1, rfl, o1, g2⟩
          have F1 := hid (Fr.new (N := Nn w V0.heap.size) o1 (fun q hq => by have l1 := lt_of_block CB.out; have l2 := lt_of_block AA.out; rcases hq with x | x <;> omega))
          have hS2 := hS1.gr g2
          have CB := hid (gr_blk CB.out g2)
          have AA := hid (gr_blk AA.out g2)
          clear o1 g2
          refine hK.out _ _ (by exact hS2) (fun _ => ?_)
          clear hK K
          refine wpAnyH_ready (rs := [3]) (by kernel_rfl) (by simp) (AllReadyH.cons rfl (fun K hK => ?_) AllReadyH.nil)
          go_simp
          refine (HT.out _ hS2.g).mono ?_
          rintro e w3 ⟨a3, n3, c3, rfl, o3, g3⟩
          have F2 := hid (Fr.new (N := Nn w V0.heap.size) o3 (fun q hq => by have l1 := lt_of_block CB.out; have l2 := lt_of_block AA.out; rcases hq with x | x <;> omega))
          have hS3 := hS2.gr g3
          have CB := hid (gr_blk CB.out g3)
          have F1 := hid (F1.out.gr g3)
          have AA := hid (gr_blk AA.out g3)
          clear o3 g3
          refine hK.out _ _ (by exact hS3) (fun _ => ?_)
          clear hK K
          refine wpAnyH_ready (rs := [5]) (by kernel_rfl) (by simp) (AllReadyH.cons rfl (fun K hK => ?_) AllReadyH.nil)
          rw [if_pos (by kernel_rfl)]
          refine op_row 30 (.tmp 4) (.tmp 15) rfl (w.heap.size + 1) _ rfl rfl _ _ CB.out (ctx_size' (HSZ0.out _ _)) ((HSZ0.out _ _).trans (HSZ0.out _ _).symm) cC_one ?_
          intro w4 b9 k9
          have hS4 : Sqr w #[.slice aoc nc cac, .slice aof nf caf, .slice aot nt cat] w4 := ⟨Ch.trans hS3.g k9 (fun q e => .inr (by have e1 : q = w.heap.size + 1 := e; omega)), keepB k9 hS3.p (by omega)⟩
          have F1 := hid (F1.out.st k9 (.inl (Nat.le_refl _)))
          have F2 := hid (F2.out.st k9 (.inl (Nat.le_refl _)))
          have AA := hid (keepB k9 AA.out (by have := LA.out; omega))
          have CB := hid b9
          clear b9 k9
          refine hK.out _ _ (by exact hS4) (fun _ => ?_)
          clear hK K
          refine wpAnyH_ready (rs := [6]) (by kernel_rfl) (by simp) (AllReadyH.cons rfl (fun K hK => ?_) AllReadyH.nil)
          rw [if_pos (by kernel_rfl)]
          refine op_row 30 (.tmp 7) (.tmp 17) rfl V0.heap.size _ rfl rfl _ _ AA.out (ctx_size' (HSZ0.out _ _)) (HSZ0.out _ _).symm cC_one ?_
          intro w5 b9 k9
          have hS5 : Sqr w #[.slice aoc nc cac, .slice aof nf caf, .slice aot nt cat] w5 := ⟨Ch.trans hS4.g k9 (fun q e => .inr (by have e1 : q = V0.heap.size := e; have := LA.out; omega)), keepB k9 hS4.p (by have := LA.out; omega)⟩
          have F1 := hid (F1.out.st k9 (.inr rfl))
          have F2 := hid (F2.out.st k9 (.inr rfl))
          have CB := hid (keepB k9 CB.out (by have := LA.out; omega))
          have AA := hid b9
          clear b9 k9
          refine hK.out _ _ (by exact hS5) (fun _ => ?_)
          clear hK K
          refine wpAnyH_done (by kernel_rfl) ?_ _
          unfold MidRuns
          exact ⟨rfl, V0.heap.size, a1, n1, c1, a3, n3, c3, _, _, _, _, _, _, _, _, _, _, _, _, _, _, _, _, _, _, _, _, _, _, _, _, _, _, _, _, _, _, _, _, _, _, _, _, _, _, _, _, _, _, _, _, _, _, _, _, _, _, _, _, _, _, _, _, _, _, _, _, _, _, _, _, _, _, _, _, _, _, _, _, _, _, _, _, _, _, _, _, _, _, _, rfl, ⟨hS5.g, hS5.p, CB.out, AA.out, LA.out, F1.out, F2.out⟩⟩
    · rw [if_pos (by kernel_rfl)]
      refine wp_load_row 30 (.tmp 4) rfl _ rfl _ _ _ _ CB.out Tryd.underlying30 rfl (ctx_size' (HSZ0.out _ _)) ?_
      refine hK.out _ _ (by exact hS0) (fun _ => ?_)
      change wpAnyH _ _ _ _ _ _ _ (Act.put _ (some 16) _) _
      simp only [Act.put, List.setIfInBounds_toArray, List.set_cons_zero, List.set_cons_succ]
      clear hK K
      refine wpAnyH_ready (rs := [0, 4]) (by kernel_rfl) (by simp) (AllReadyH.cons rfl (fun K hK => ?_) (AllReadyH.cons rfl (fun K hK => ?_) AllReadyH.nil))
      · rw [if_pos (by kernel_rfl)]
        refine wp_load_row 30 (.tmp 4) rfl _ rfl _ _ _ _ CB.out Tryd.underlying30 rfl (ctx_size' (HSZ0.out _ _)) ?_
        refine hK.out _ _ (by exact hS0) (fun _ => ?_)
        change wpAnyH _ _ _ _ _ _ _ (Act.put _ (some 14) _) _
        simp only [Act.put, List.setIfInBounds_toArray, List.set_cons_zero, List.set_cons_succ]
        clear hK K
        refine wpAnyH_ready (rs := [1, 4]) (by kernel_rfl) (by simp) (AllReadyH.cons rfl (fun K hK => ?_) (AllReadyH.cons rfl (fun K hK => ?_) AllReadyH.nil))
        · go_simp
          refine (HT.out _ hS0.g).mono ?_
          rintro e w1 ⟨a1, n1, c1, rfl, o1, g1⟩
          have F1 := hid (Fr.new (N := (· ≤ w.heap.size + 1)) o1 (fun q hq => by have l1 := lt_of_block CB.out; have l2 : q ≤ w.heap.size + 1 := hq; omega))
          have hS1 := hS0.gr g1
          have CB := hid (gr_blk CB.out g1)
          clear o1 g1
          refine hK.out _ _ (by exact hS1) (fun _ => ?_)
          clear hK K
          refine wpAnyH_ready (rs := [3, 4]) (by kernel_rfl) (by simp) (AllReadyH.cons rfl (fun K hK => ?_) (AllReadyH.cons rfl (fun K hK => ?_) AllReadyH.nil))
          · go_simp
            refine (HT.out _ hS1.g).mono ?_
            rintro e w2 ⟨a3, n3, c3, rfl, o3, g2⟩
            have F2 := hid (Fr.new (N := (· ≤ w.heap.size + 1)) o3 (fun q hq => by have l1 := lt_of_block CB.out; have l2 : q ≤ w.heap.size + 1 := hq; omega))
            have hS2 := hS1.gr g2
            have CB := hid (gr_blk CB.out g2)
            have F1 := hid (F1.out.gr g2)
            clear o3 g2
            refine hK.out _ _ (by exact hS2) (fun _ => ?_)
            clear hK K
            refine wpAnyH_ready (rs := [4]) (by kernel_rfl) (by simp) (AllReadyH.cons rfl (fun K hK => ?_) AllReadyH.nil)
            go_simp
            have g3 : Gr w2 (w2.alloc (.cells #[.int .i64 0, .int .i64 0, .int .i64 0, .int .i64 0, .int .i64 0, .int .i64 0, .int .i64 0, .int .i64 0, .int .i64 0, .int .i64 0, .int .i64 0, .int .i64 0, .int .i64 0, .int .i64 0, .int .i64 0, .int .i64 0, .int .i64 0, .slice none 0 0] 30)) := Ch.alloc (Gr.refl _) _
            have LA := hid (show w.heap.size + 1 < w2.heap.size from lt_of_block CB.out)
            have F1 := hid (F1.out.old (M := Nn w w2.heap.size) (fun q hq => hq.elim .inl (fun x => .inr (by omega))))
            have F2 := hid (F2.out.old (M := Nn w w2.heap.size) (fun q hq => hq.elim .inl (fun x => .inr (by omega))))
            have hS3 := hS2.gr g3
            have CB := hid (gr_blk CB.out g3)
            have F1 := hid (F1.out.gr g3)
            have F2 := hid (F2.out.gr g3)
            have AA := hid (show (w2.alloc (.cells #[.int .i64 0, .int .i64 0, .int .i64 0, .int .i64 0, .int .i64 0, .int .i64 0, .int .i64 0, .int .i64 0, .int .i64 0, .int .i64 0, .int .i64 0, .int .i64 0, .int .i64 0, .int .i64 0, .int .i64 0, .int .i64 0, .int .i64 0, .slice none 0 0] 30)).heap[w2.heap.size]? = some (.cells #[.int .i64 0, .int .i64 0, .int .i64 0, .int .i64 0, .int .i64 0, .int .i64 0, .int .i64 0, .int .i64 0, .int .i64 0, .int .i64 0, .int .i64 0, .int .i64 0, .int .i64 0, .int .i64 0, .int .i64 0, .int .i64 0, .int .i64 0, .slice none 0 0] 30 (0, 0)) from (MapKept.heap_alloc w2 (.cells #[.int .i64 0, .int .i64 0, .int .i64 0, .int .i64 0, .int .i64 0, .int .i64 0, .int .i64 0, .int .i64 0, .int .i64 0, .int .i64 0, .int .i64 0, .int .i64 0, .int .i64 0, .int .i64 0, .int .i64 0, .int .i64 0, .int .i64 0, .slice none 0 0] 30)).1)
            clear g3
            generalize w2.alloc (.cells #[.int .i64 0, .int .i64 0, .int .i64 0, .int .i64 0, .int .i64 0, .int .i64 0, .int .i64 0, .int .i64 0, .int .i64 0, .int .i64 0, .int .i64 0, .int .i64 0, .int .i64 0, .int .i64 0, .int .i64 0, .int .i64 0, .int .i64 0, .slice none 0 0] 30) = w3 at hS3 CB F1 F2 AA ⊢
            refine hK.out _ _ (by exact hS3) (fun _ => ?_)
            clear hK K
            refine wpAnyH_ready (rs := [5]) (by kernel_rfl) (by simp) (AllReadyH.cons rfl (fun K hK => ?_) AllReadyH.nil)
            rw [if_pos (by kernel_rfl)]
            refine op_row 30 (.tmp 4) (.tmp 15) rfl (w.heap.size + 1) _ rfl rfl _ _ CB.out (ctx_size' (HSZ0.out _ _)) ((HSZ0.out _ _).trans (HSZ0.out _ _).symm) cC_one ?_
            intro w4 b9 k9
            have hS4 : Sqr w #[.slice aoc nc cac, .slice aof nf caf, .slice aot nt cat] w4 := ⟨Ch.trans hS3.g k9 (fun q e => .inr (by have e1 : q = w.heap.size + 1 := e; omega)), keepB k9 hS3.p (by omega)⟩
            have F1 := hid (F1.out.st k9 (.inl (Nat.le_refl _)))
            have F2 := hid (F2.out.st k9 (.inl (Nat.le_refl _)))
            have AA := hid (keepB k9 AA.out (by have := LA.out; omega))
            have CB := hid b9
            clear b9 k9
            refine hK.out _ _ (by exact hS4) (fun _ => ?_)
            clear hK K
            refine wpAnyH_ready (rs := [6]) (by kernel_rfl) (by simp) (AllReadyH.cons rfl (fun K hK => ?_) AllReadyH.nil)
            rw [if_pos (by kernel_rfl)]
            refine op_row 30 (.tmp 7) (.tmp 17) rfl w2.heap.size _ rfl rfl _ _ AA.out (ctx_size' (HSZ0.out _ _)) (HSZ0.out _ _).symm cC_one ?_
            intro w5 b9 k9
            have hS5 : Sqr w #[.slice aoc nc cac, .slice aof nf caf, .slice aot nt cat] w5 := ⟨Ch.trans hS4.g k9 (fun q e => .inr (by have e1 : q = w2.heap.size := e; have := LA.out; omega)), keepB k9 hS4.p (by have := LA.out; omega)⟩
            have F1 := hid (F1.out.st k9 (.inr rfl))
            have F2 := hid (F2.out.st k9 (.inr rfl))
            have CB := hid (keepB k9 CB.out (by have := LA.out; omega))
            have AA := hid b9
            clear b9 k9
            refine hK.out _ _ (by exact hS5) (fun _ => ?_)
            clear hK K
            refine wpAnyH_done (by kernel_rfl) ?_ _
            unfold MidRuns
            exact ⟨rfl, w2.heap.size, a1, n1, c1, a3, n3, c3, _, _, _, _, _, _, _, _, _, _, _, _, _, _, _, _, _, _, _, _, _, _, _, _, _, _, _, _, _, _, _, _, _, _, _, _, _, _, _, _, _, _, _, _, _, _, _, _, _, _, _, _, _, _, _, _, _, _, _, _, _, _, _, _, _, _, _, _, _, _, _, _, _, _, _, _, _, _, _, _, _, _, _, rfl, ⟨hS5.g, hS5.p, CB.out, AA.out, LA.out, F1.out, F2.out⟩⟩
          · go_simp
            have g2 : Gr w1 (w1.alloc (.cells #[.int .i64 0, .int .i64 0, .int .i64 0, .int .i64 0, .int .i64 0, .int .i64 0, .int .i64 0, .int .i64 0, .int .i64 0, .int .i64 0, .int .i64 0, .int .i64 0, .int .i64 0, .int .i64 0, .int .i64 0, .int .i64 0, .int .i64 0, .slice none 0 0] 30)) := Ch.alloc (Gr.refl _) _
            have LA := hid (show w.heap.size + 1 < w1.heap.size from lt_of_block CB.out)
            have F1 := hid (F1.out.old (M := Nn w w1.heap.size) (fun q hq => hq.elim .inl (fun x => .inr (by omega))))
            have hS2 := hS1.gr g2
            have CB := hid (gr_blk CB.out g2)
            have F1 := hid (F1.out.gr g2)
            have AA := hid (show (w1.alloc (.cells #[.int .i64 0, .int .i64 0, .int .i64 0, .int .i64 0, .int .i64 0, .int .i64 0, .int .i64 0, .int .i64 0, .int .i64 0, .int .i64 0, .int .i64 0, .int .i64 0, .int .i64 0, .int .i64 0, .int .i64 0, .int .i64 0, .int .i64 0, .slice none 0 0] 30)).heap[w1.heap.size]? = some (.cells #[.int .i64 0, .int .i64 0, .int .i64 0, .int .i64 0, .int .i64 0, .int .i64 0, .int .i64 0, .int .i64 0, .int .i64 0, .int .i64 0, .int .i64 0, .int .i64 0, .int .i64 0, .int .i64 0, .int .i64 0, .int .i64 0, .int .i64 0, .slice none 0 0] 30 (0, 0)) from (MapKept.heap_alloc w1 (.cells #[.int .i64 0, .int .i64 0, .int .i64 0, .int .i64 0, .int .i64 0, .int .i64 0, .int .i64 0, .int .i64 0, .int .i64 0, .int .i64 0, .int .i64 0, .int .i64 0, .int .i64 0, .int .i64 0, .int .i64 0, .int .i64 0, .int .i64 0, .slice none 0 0] 30)).1)
            clear g2
            generalize w1.alloc (.cells #[.int .i64 0, .int .i64 0, .int .i64 0, .int .i64 0, .int .i64 0, .int .i64 0, .int .i64 0, .int .i64 0, .int .i64 0, .int .i64 0, .int .i64 0, .int .i64 0, .int .i64 0, .int .i64 0, .int .i64 0, .int .i64 0, .int .i64 0, .slice none 0 0] 30) = w2 at hS2 CB F1 AA ⊢
            refine hK.out _ _ (by exact hS2) (fun _ => ?_)
            clear hK K
            refine wpAnyH_ready (rs := [3]) (by kernel_rfl) (by simp) (AllReadyH.cons rfl (fun K hK => ?_) AllReadyH.nil)
            go_simp
            refine (HT.out _ hS2.g).mono ?_
            rintro e w3 ⟨a3, n3, c3, rfl, o3, g3⟩
            have F2 := hid (Fr.new (N := Nn w w1.heap.size) o3 (fun q hq => by have l1 := lt_of_block CB.out; have l2 := lt_of_block AA.out; rcases hq with x | x <;> omega))
            have hS3 := hS2.gr g3
            have CB := hid (gr_blk CB.out g3)
            have F1 := hid (F1.out.gr g3)
            have AA := hid (gr_blk AA.out g3)
            clear o3 g3
            refine hK.out _ _ (by exact hS3) (fun _ => ?_)
            clear hK K
            refine wpAnyH_ready (rs := [5]) (by kernel_rfl) (by simp) (AllReadyH.cons rfl (fun K hK => ?_) AllReadyH.nil)
            rw [if_pos (by kernel_rfl)]
            refine op_row 30 (.tmp 4) (.tmp 15) rfl (w.heap.size + 1) _ rfl rfl _ _ CB.out (ctx_size' (HSZ0.out _ _)) ((HSZ0.out _ _).trans (HSZ0.out _ _).symm) cC_one ?_
            intro w4 b9 k9
            have hS4 : Sqr w #[.slice aoc nc cac, .slice aof nf caf, .slice aot nt cat] w4 := ⟨Ch.trans hS3.g k9 (fun q e => .inr (by have e1 : q = w.heap.size + 1 := e; omega)), keepB k9 hS3.p (by omega)⟩
            have F1 := hid (F1.out.st k9 (.inl (Nat.le_refl _)))
            have F2 := hid (F2.out.st k9 (.inl (Nat.le_refl _)))
            have AA := hid (keepB k9 AA.out (by have := LA.out; omega))
            have CB := hid b9
            clear b9 k9
            refine hK.out _ _ (by exact hS4) (fun _ => ?_)
            clear hK K
            refine wpAnyH_ready (rs := [6]) (by kernel_rfl) (by simp) (AllReadyH.cons rfl (fun K hK => ?_) AllReadyH.nil)
            rw [if_pos (by kernel_rfl)]
            refine op_row 30 (.tmp 7) (.tmp 17) rfl w1.heap.size _ rfl rfl _ _ AA.out (ctx_size' (HSZ0.out _ _)) (HSZ0.out _ _).symm cC_one ?_
            intro w5 b9 k9
            have hS5 : Sqr w #[.slice aoc nc cac, .slice aof nf caf, .slice aot nt cat] w5 := ⟨Ch.trans hS4.g k9 (fun q e => .inr (by have e1 : q = w1.heap.size := e; have := LA.out; omega)), keepB k9 hS4.p (by have := LA.out; omega)⟩
            have F1 := hid (F1.out.st k9 (.inr rfl))
            have F2 := hid (F2.out.st k9 (.inr rfl))
            have CB := hid (keepB k9 CB.out (by have := LA.out; omega))
            have AA := hid b9
            clear b9 k9
            refine hK.out _ _ (by exact hS5) (fun _ => ?_)
            clear hK K
            refine wpAnyH_done (by kernel_rfl) ?_ _
            unfold MidRuns
            exact ⟨rfl, w1.heap.size, a1, n1, c1, a3, n3, c3, _, _, _, _, _, _, _, _, _, _, _, _, _, _, _, _, _, _, _, _, _, _, _, _, _, _, _, _, _, _, _, _, _, _, _, _, _, _, _, _, _, _, _, _, _, _, _, _, _, _, _, _, _, _, _, _, _, _, _, _, _, _, _, _, _, _, _, _, _, _, _, _, _, _, _, _, _, _, _, _, _, _, _, rfl, ⟨hS5.g, hS5.p, CB.out, AA.out, LA.out, F1.out, F2.out⟩⟩
        · go_simp
          have g1 : Gr V0 (V0.alloc (.cells #[.int .i64 0, .int .i64 0, .int .i64 0, .int .i64 0, .int .i64 0, .int .i64 0, .int .i64 0, .int .i64 0, .int .i64 0, .int .i64 0, .int .i64 0, .int .i64 0, .int .i64 0, .int .i64 0, .int .i64 0, .int .i64 0, .int .i64 0, .slice none 0 0] 30)) := Ch.alloc (Gr.refl _) _
          have LA := hid (show w.heap.size + 1 < V0.heap.size from lt_of_block CB.out)
          have hS1 := hS0.gr g1
          have CB := hid (gr_blk CB.out g1)
          have AA := hid (show (V0.alloc (.cells #[.int .i64 0, .int .i64 0, .int .i64 0, .int .i64 0, .int .i64 0, .int .i64 0, .int .i64 0, .int .i64 0, .int .i64 0, .int .i64 0, .int .i64 0, .int .i64 0, .int .i64 0, .int .i64 0, .int .i64 0, .int .i64 0, .int .i64 0, .slice none 0 0] 30)).heap[V0.heap.size]? = some (.cells #[.int .i64 0, .int .i64 0, .int .i64 0, .int .i64 0, .int .i64 0, .int .i64 0, .int .i64 0, .int .i64 0, .int .i64 0, .int .i64 0, .int .i64 0, .int .i64 0, .int .i64 0, .int .i64 0, .int .i64 0, .int .i64 0, .int .i64 0, .slice none 0 0] 30 (0, 0)) from (MapKept.heap_alloc V0 (.cells #[.int .i64 0, .int .i64 0, .int .i64 0, .int .i64 0, .int .i64 0, .int .i64 0, .int .i64 0, .int .i64 0, .int .i64 0, .int .i64 0, .int .i64 0, .int .i64 0, .int .i64 0, .int .i64 0, .int .i64 0, .int .i64 0, .int .i64 0, .slice none 0 0] 30)).1)
          clear g1
          generalize V0.alloc (.cells #[.int .i64 0, .int .i64 0, .int .i64 0, .int .i64 0, .int .i64 0, .int .i64 0, .int .i64 0, .int .i64 0, .int .i64 0, .int .i64 0, .int .i64 0, .int .i64 0, .int .i64 0, .int .i64 0, .int .i64 0, .int .i64 0, .int .i64 0, .slice none 0 0] 30) = w1 at hS1 CB AA ⊢
          refine hK.out _ _ (by exact hS1) (fun _ => ?_)
          clear hK K
          refine wpAnyH_ready (rs := [1]) (by kernel_rfl) (by simp) (AllReadyH.cons rfl (fun K hK => ?_) AllReadyH.nil)
          go_simp
          refine (HT.out _ hS1.g).mono ?_
          rintro e w2 ⟨a1, n1, c1, rfl, o1, g2⟩
          have F1 := hid (Fr.new (N := Nn w V0.heap.size) o1 (fun q hq => by have l1 := lt_of_block CB.out; have l2 := lt_of_block AA.out; rcases hq with x | x <;> omega))
          have hS2 := hS1.gr g2
          have CB := hid (gr_blk CB.out g2)
          have AA := hid (gr_blk AA.out g2)
          clear o1 g2
          refine hK.out _ _ (by exact hS2) (fun _ => ?_)
          clear hK K
          refine wpAnyH_ready (rs := [3]) (by kernel_rfl) (by simp) (AllReadyH.cons rfl (fun K hK => ?_) AllReadyH.nil)
          go_simp
          refine (HT.out _ hS2.g).mono ?_
          rintro e w3 ⟨a3, n3, c3, rfl, o3, g3⟩
          have F2 := hid (Fr.new (N := Nn w V0.heap.size) o3 (fun q hq => by have l1 := lt_of_block CB.out; have l2 := lt_of_block AA.out; rcases hq with x | x <;> omega))
          have hS3 := hS2.gr g3
          have CB := hid (gr_blk CB.out g3)
          have F1 := hid (F1.out.gr g3)
          have AA := hid (gr_blk AA.out g3)
          clear o3 g3
          refine hK.out _ _ (by exact hS3) (fun _ => ?_)
          clear hK K
          refine wpAnyH_ready (rs := [5]) (by kernel_rfl) (by simp) (AllReadyH.cons rfl (fun K hK => ?_) AllReadyH.nil)
          rw [if_pos (by kernel_rfl)]
          refine op_row 30 (.tmp 4) (.tmp 15) rfl (w.heap.size + 1) _ rfl rfl _ _ CB.out (ctx_size' (HSZ0.out _ _)) ((HSZ0.out _ _).trans (HSZ0.out _ _).symm) cC_one ?_
          intro w4 b9 k9
          have hS4 : Sqr w #[.slice aoc nc cac, .slice aof nf caf, .slice aot nt cat] w4 := ⟨Ch.trans hS3.g k9 (fun q e => .inr (by have e1 : q = w.heap.size + 1 := e; omega)), keepB k9 hS3.p (by omega)⟩
          have F1 := hid (F1.out.st k9 (.inl (Nat.le_refl _)))
          have F2 := hid (F2.out.st k9 (.inl (Nat.le_refl _)))
          have AA := hid (keepB k9 AA.out (by have := LA.out; omega))
          have CB := hid b9
          clear b9 k9
          refine hK.out _ _ (by exact hS4) (fun _ => ?_)
          clear hK K
          refine wpAnyH_ready (rs := [6]) (by kernel_rfl) (by simp) (AllReadyH.cons rfl (fun K hK => ?_) AllReadyH.nil)
          rw [if_pos (by kernel_rfl)]
          refine op_row 30 (.tmp 7) (.tmp 17) rfl V0.heap.size _ rfl rfl _ _ AA.out (ctx_size' (HSZ0.out _ _)) (HSZ0.out _ _).symm cC_one ?_
          intro w5 b9 k9
          have hS5 : Sqr w #[.slice aoc nc cac, .slice aof nf caf, .slice aot nt cat] w5 := ⟨Ch.trans hS4.g k9 (fun q e => .inr (by have e1 : q = V0.heap.size := e; have := LA.out; omega)), keepB k9 hS4.p (by have := LA.out; omega)⟩
          have F1 := hid (F1.out.st k9 (.inr rfl))
          have F2 := hid (F2.out.st k9 (.inr rfl))
          have CB := hid (keepB k9 CB.out (by have := LA.out; omega))
          have AA := hid b9
          clear b9 k9
          refine hK.out _ _ (by exact hS5) (fun _ => ?_)
          clear hK K
          refine wpAnyH_done (by kernel_rfl) ?_ _
          unfold MidRuns
          exact ⟨rfl, V0.heap.size, a1, n1, c1, a3, n3, c3, _, _, _, _, _, _, _, _, _, _, _, _, _, _, _, _, _, _, _, _, _, _, _, _, _, _, _, _, _, _, _, _, _, _, _, _, _, _, _, _, _, _, _, _, _, _, _, _, _, _, _, _, _, _, _, _, _, _, _, _, _, _, _, _, _, _, _, _, _, _, _, _, _, _, _, _, _, _, _, _, _, _, _, rfl, ⟨hS5.g, hS5.p, CB.out, AA.out, LA.out, F1.out, F2.out⟩⟩
      · go_simp
        have g1 : Gr V0 (V0.alloc (.cells #[.int .i64 0, .int .i64 0, .int .i64 0, .int .i64 0, .int .i64 0, .int .i64 0, .int .i64 0, .int .i64 0, .int .i64 0, .int .i64 0, .int .i64 0, .int .i64 0, .int .i64 0, .int .i64 0, .int .i64 0, .int .i64 0, .int .i64 0, .slice none 0 0] 30)) := Ch.alloc (Gr.refl _) _
        have LA := hid (show w.heap.size + 1 < V0.heap.size from lt_of_block CB.out)
        have hS1 := hS0.gr g1
        have CB := hid (gr_blk CB.out g1)
        have AA := hid (show (V0.alloc (.cells #[.int .i64 0, .int .i64 0, .int .i64 0, .int .i64 0, .int .i64 0, .int .i64 0, .int .i64 0, .int .i64 0, .int .i64 0, .int .i64 0, .int .i64 0, .int .i64 0, .int .i64 0, .int .i64 0, .int .i64 0, .int .i64 0, .int .i64 0, .slice none 0 0] 30)).heap[V0.heap.size]? = some (.cells #[.int .i64 0, .int .i64 0, .int .i64 0, .int .i64 0, .int .i64 0, .int .i64 0, .int .i64 0, .int .i64 0, .int .i64 0, .int .i64 0, .int .i64 0, .int .i64 0, .int .i64 0, .int .i64 0, .int .i64 0, .int .i64 0, .int .i64 0, .slice none 0 0] 30 (0, 0)) from (MapKept.heap_alloc V0 (.cells #[.int .i64 0, .int .i64 0, .int .i64 0, .int .i64 0, .int .i64 0, .int .i64 0, .int .i64 0, .int .i64 0, .int .i64 0, .int .i64 0, .int .i64 0, .int .i64 0, .int .i64 0, .int .i64 0, .int .i64 0, .int .i64 0, .int .i64 0, .slice none 0 0] 30)).1)
        clear g1
        generalize V0.alloc (.cells #[.int .i64 0, .int .i64 0, .int .i64 0, .int .i64 0, .int .i64 0, .int .i64 0, .int .i64 0, .int .i64 0, .int .i64 0, .int .i64 0, .int .i64 0, .int .i64 0, .int .i64 0, .int .i64 0, .int .i64 0, .int .i64 0, .int .i64 0, .slice none 0 0] 30) = w1 at hS1 CB AA ⊢
        refine hK.out _ _ (by exact hS1) (fun _ => ?_)
        clear hK K
        refine wpAnyH_ready (rs := [0]) (by kernel_rfl) (by simp) (AllReadyH.cons rfl (fun K hK => ?_) AllReadyH.nil)
        rw [if_pos (by kernel_rfl)]
        refine wp_load_row 30 (.tmp 4) rfl _ rfl _ _ _ _ CB.out Tryd.underlying30 rfl (ctx_size' (HSZ0.out _ _)) ?_
        refine hK.out _ _ (by exact hS1) (fun _ => ?_)
        change wpAnyH _ _ _ _ _ _ _ (Act.put _ (some 14) _) _
        simp only [Act.put, List.setIfInBounds_toArray, List.set_cons_zero, List.set_cons_succ]
        clear hK K
        refine wpAnyH_ready (rs := [1]) (by kernel_rfl) (by simp) (AllReadyH.cons rfl (fun K hK => ?_) AllReadyH.nil)
        go_simp
        refine (HT.out _ hS1.g).mono ?_
        rintro e w2 ⟨a1, n1, c1, rfl, o1, g2⟩
        have F1 := hid (Fr.new (N := Nn w V0.heap.size) o1 (fun q hq => by have l1 := lt_of_block CB.out; have l2 := lt_of_block AA.out; rcases hq with x | x <;> omega))
        have hS2 := hS1.gr g2
        have CB := hid (gr_blk CB.out g2)
        have AA := hid (gr_blk AA.out g2)
        clear o1 g2
        refine hK.out _ _ (by exact hS2) (fun _ => ?_)
        clear hK K
        refine wpAnyH_ready (rs := [3]) (by kernel_rfl) (by simp) (AllReadyH.cons rfl (fun K hK => ?_) AllReadyH.nil)
        go_simp
        refine (HT.out _ hS2.g).mono ?_
        rintro e w3 ⟨a3, n3, c3, rfl, o3, g3⟩
        have F2 := hid (Fr.new (N := Nn w V0.heap.size) o3 (fun q hq => by have l1 := lt_of_block CB.out; have l2 := lt_of_block AA.out; rcases hq with x | x <;> omega))
        have hS3 := hS2.gr g3
        have CB := hid (gr_blk CB.out g3)
        have F1 := hid (F1.out.gr g3)
        have AA := hid (gr_blk AA.out g3)
        clear o3 g3
        refine hK.out _ _ (by exact hS3) (fun _ => ?_)
        clear hK K
        refine wpAnyH_ready (rs := [5]) (by kernel_rfl) (by simp) (AllReadyH.cons rfl (fun K hK => ?_) AllReadyH.nil)
        rw [if_pos (by kernel_rfl)]
        refine op_row 30 (.tmp 4) (.tmp 15) rfl (w.heap.size + 1) _ rfl rfl _ _ CB.out (ctx_size' (HSZ0.out _ _)) ((HSZ0.out _ _).trans (HSZ0.out _ _).symm) cC_one ?_
        intro w4 b9 k9
        have hS4 : Sqr w #[.slice aoc nc cac, .slice aof nf caf, .slice aot nt cat] w4 := ⟨Ch.trans hS3.g k9 (fun q e => .inr (by have e1 : q = w.heap.size + 1 := e; omega)), keepB k9 hS3.p (by omega)⟩
        have F1 := hid (F1.out.st k9 (.inl (Nat.le_refl _)))
        have F2 := hid (F2.out.st k9 (.inl (Nat.le_refl _)))
        have AA := hid (keepB k9 AA.out (by have := LA.out; omega))
        have CB := hid b9
        clear b9 k9
        refine hK.out _ _ (by exact hS4) (fun _ => ?_)
        clear hK K
        refine wpAnyH_ready (rs := [6]) (by kernel_rfl) (by simp) (AllReadyH.cons rfl (fun K hK => ?_) AllReadyH.nil)
        rw [if_pos (by kernel_rfl)]
        refine op_row 30 (.tmp 7) (.tmp 17) rfl V0.heap.size _ rfl rfl _ _ AA.out (ctx_size' (HSZ0.out _ _)) (HSZ0.out _ _).symm cC_one ?_
        intro w5 b9 k9
        have hS5 : Sqr w #[.slice aoc nc cac, .slice aof nf caf, .slice aot nt cat] w5 := ⟨Ch.trans hS4.g k9 (fun q e => .inr (by have e1 : q = V0.heap.size := e; have := LA.out; omega)), keepB k9 hS4.p (by have := LA.out; omega)⟩
        have F1 := hid (F1.out.st k9 (.inr rfl))
        have F2 := hid (F2.out.st k9 (.inr rfl))
        have CB := hid (keepB k9 CB.out (by have := LA.out; omega))
        have AA := hid b9
        clear b9 k9
        refine hK.out _ _ (by exact hS5) (fun _ => ?_)
        clear hK K
        refine wpAnyH_done (by kernel_rfl) ?_ _
        unfold MidRuns
        exact ⟨rfl, V0.heap.size, a1, n1, c1, a3, n3, c3, _, _, _, _, _, _, _, _, _, _, _, _, _, _, _, _, _, _, _, _, _, _, _, _, _, _, _, _, _, _, _, _, _, _, _, _, _, _, _, _, _, _, _, _, _, _, _, _, _, _, _, _, _, _, _, _, _, _, _, _, _, _, _, _, _, _, _, _, _, _, _, _, _, _, _, _, _, _, _, _, _, _, _, rfl, ⟨hS5.g, hS5.p, CB.out, AA.out, LA.out, F1.out, F2.out⟩⟩
    · go_simp
      have g1 : Gr V0 (V0.alloc (.cells #[.int .i64 0, .int .i64 0, .int .i64 0, .int .i64 0, .int .i64 0, .int .i64 0, .int .i64 0, .int .i64 0, .int .i64 0, .int .i64 0, .int .i64 0, .int .i64 0, .int .i64 0, .int .i64 0, .int .i64 0, .int .i64 0, .int .i64 0, .slice none 0 0] 30)) := Ch.alloc (Gr.refl _) _
      have LA := hid (show w.heap.size + 1 < V0.heap.size from lt_of_block CB.out)
      have hS1 := hS0.gr g1
      have CB := hid (gr_blk CB.out g1)
      have AA := hid (show (V0.alloc (.cells #[.int .i64 0, .int .i64 0, .int .i64 0, .int .i64 0, .int .i64 0, .int .i64 0, .int .i64 0, .int .i64 0, .int .i64 0, .int .i64 0, .int .i64 0, .int .i64 0, .int .i64 0, .int .i64 0, .int .i64 0, .int .i64 0, .int .i64 0, .slice none 0 0] 30)).heap[V0.heap.size]? = some (.cells #[.int .i64 0, .int .i64 0, .int .i64 0, .int .i64 0, .int .i64 0, .int .i64 0, .int .i64 0, .int .i64 0, .int .i64 0, .int .i64 0, .int .i64 0, .int .i64 0, .int .i64 0, .int .i64 0, .int .i64 0, .int .i64 0, .int .i64 0, .slice none 0 0] 30 (0, 0)) from (MapKept.heap_alloc V0 (.cells #[.int .i64 0, .int .i64 0, .int .i64 0, .int .i64 0, .int .i64 0, .int .i64 0, .int .i64 0, .int .i64 0, .int .i64 0, .int .i64 0, .int .i64 0, .int .i64 0, .int .i64 0, .int .i64 0, .int .i64 0, .int .i64 0, .int .i64 0, .slice none 0 0] 30)).1)
      clear g1
      generalize V0.alloc (.cells #[.int .i64 0, .int .i64 0, .int .i64 0, .int .i64 0, .int .i64 0, .int .i64 0, .int .i64 0, .int .i64 0, .int .i64 0, .int .i64 0, .int .i64 0, .int .i64 0, .int .i64 0, .int .i64 0, .int .i64 0, .int .i64 0, .int .i64 0, .slice none 0 0] 30) = w1 at hS1 CB AA ⊢
      refine hK.out _ _ (by exact hS1) (fun _ => ?_)
      clear hK K
      refine wpAnyH_ready (rs := [0, 2]) (by kernel_rfl) (by simp) (AllReadyH.cons rfl (fun K hK => ?_) (AllReadyH.cons rfl (fun K hK => ?_) AllReadyH.nil))
      · rw [if_pos (by kernel_rfl)]
        refine wp_load_row 30 (.tmp 4) rfl _ rfl _ _ _ _ CB.out Tryd.underlying30 rfl (ctx_size' (HSZ0.out _ _)) ?_
        refine hK.out _ _ (by exact hS1) (fun _ => ?_)
        change wpAnyH _ _ _ _ _ _ _ (Act.put _ (some 14) _) _
        simp only [Act.put, List.setIfInBounds_toArray, List.set_cons_zero, List.set_cons_succ]
        clear hK K
        refine wpAnyH_ready (rs := [1, 2]) (by kernel_rfl) (by simp) (AllReadyH.cons rfl (fun K hK => ?_) (AllReadyH.cons rfl (fun K hK => ?_) AllReadyH.nil))
        · go_simp
          refine (HT.out _ hS1.g).mono ?_
          rintro e w2 ⟨a1, n1, c1, rfl, o1, g2⟩
          have F1 := hid (Fr.new (N := Nn w V0.heap.size) o1 (fun q hq => by have l1 := lt_of_block CB.out; have l2 := lt_of_block AA.out; rcases hq with x | x <;> omega))
          have hS2 := hS1.gr g2
          have CB := hid (gr_blk CB.out g2)
          have AA := hid (gr_blk AA.out g2)
          clear o1 g2
          refine hK.out _ _ (by exact hS2) (fun _ => ?_)
          clear hK K
          refine wpAnyH_ready (rs := [2]) (by kernel_rfl) (by simp) (AllReadyH.cons rfl (fun K hK => ?_) AllReadyH.nil)
          rw [if_pos (by kernel_rfl)]
          refine wp_load_row 30 (.tmp 4) rfl _ rfl _ _ _ _ CB.out Tryd.underlying30 rfl (ctx_size' (HSZ0.out _ _)) ?_
          refine hK.out _ _ (by exact hS2) (fun _ => ?_)
          change wpAnyH _ _ _ _ _ _ _ (Act.put _ (some 16) _) _
          simp only [Act.put, List.setIfInBounds_toArray, List.set_cons_zero, List.set_cons_succ]
          clear hK K
          refine wpAnyH_ready (rs := [3]) (by kernel_rfl) (by simp) (AllReadyH.cons rfl (fun K hK => ?_) AllReadyH.nil)
          go_simp
          refine (HT.out _ hS2.g).mono ?_
          rintro e w3 ⟨a3, n3, c3, rfl, o3, g3⟩
          have F2 := hid (Fr.new (N := Nn w V0.heap.size) o3 (fun q hq => by have l1 := lt_of_block CB.out; have l2 := lt_of_block AA.out; rcases hq with x | x <;> omega))
          have hS3 := hS2.gr g3
          have CB := hid (gr_blk CB.out g3)
          have F1 := hid (F1.out.gr g3)
          have AA := hid (gr_blk AA.out g3)
          clear o3 g3
          refine hK.out _ _ (by exact hS3) (fun _ => ?_)
          clear hK K
          refine wpAnyH_ready (rs := [5]) (by kernel_rfl) (by simp) (AllReadyH.cons rfl (fun K hK => ?_) AllReadyH.nil)
          rw [if_pos (by kernel_rfl)]
          refine op_row 30 (.tmp 4) (.tmp 15) rfl (w.heap.size + 1) _ rfl rfl _ _ CB.out (ctx_size' (HSZ0.out _ _)) ((HSZ0.out _ _).trans (HSZ0.out _ _).symm) cC_one ?_
          intro w4 b9 k9
          have hS4 : Sqr w #[.slice aoc nc cac, .slice aof nf caf, .slice aot nt cat] w4 := ⟨Ch.trans hS3.g k9 (fun q e => .inr (by have e1 : q = w.heap.size + 1 := e; omega)), keepB k9 hS3.p (by omega)⟩
          have F1 := hid (F1.out.st k9 (.inl (Nat.le_refl _)))
          have F2 := hid (F2.out.st k9 (.inl (Nat.le_refl _)))
          have AA := hid (keepB k9 AA.out (by have := LA.out; omega))
          have CB := hid b9
          clear b9 k9
          refine hK.out _ _ (by exact hS4) (fun _ => ?_)
          clear hK K
          refine wpAnyH_ready (rs := [6]) (by kernel_rfl) (by simp) (AllReadyH.cons rfl (fun K hK => ?_) AllReadyH.nil)
          rw [if_pos (by kernel_rfl)]
          refine op_row 30 (.tmp 7) (.tmp 17) rfl V0.heap.size _ rfl rfl _ _ AA.out (ctx_size' (HSZ0.out _ _)) (HSZ0.out _ _).symm cC_one ?_
          intro w5 b9 k9
          have hS5 : Sqr w #[.slice aoc nc cac, .slice aof nf caf, .slice aot nt cat] w5 := ⟨Ch.trans hS4.g k9 (fun q e => .inr (by have e1 : q = V0.heap.size := e; have := LA.out; omega)), keepB k9 hS4.p (by have := LA.out; omega)⟩
          have F1 := hid (F1.out.st k9 (.inr rfl))
          have F2 := hid (F2.out.st k9 (.inr rfl))
          have CB := hid (keepB k9 CB.out (by have := LA.out; omega))
          have AA := hid b9
          clear b9 k9
          refine hK.out _ _ (by exact hS5) (fun _ => ?_)
          clear hK K
          refine wpAnyH_done (by kernel_rfl) ?_ _
          unfold MidRuns
          exact ⟨rfl, V0.heap.size, a1, n1, c1, a3, n3, c3, _, _, _, _, _, _, _, _, _, _, _, _, _, _, _, _, _, _, _, _, _, _, _, _, _, _, _, _, _, _, _, _, _, _, _, _, _, _, _, _, _, _, _, _, _, _, _, _, _, _, _, _, _, _, _, _, _, _, _, _, _, _, _, _, _, _, _, _, _, _, _, _, _, _, _, _, _, _, _, _, _, _, _, rfl, ⟨hS5.g, hS5.p, CB.out, AA.out, LA.out, F1.out, F2.out⟩⟩
        · rw [if_pos (by kernel_rfl)]
          refine wp_load_row 30 (.tmp 4) rfl _ rfl _ _ _ _ CB.out Tryd.underlying30 rfl (ctx_size' (HSZ0.out _ _)) ?_
          refine hK.out _ _ (by exact hS1) (fun _ => ?_)
          change wpAnyH _ _ _ _ _ _ _ (Act.put _ (some 16) _) _
          simp only [Act.put, List.setIfInBounds_toArray, List.set_cons_zero, List.set_cons_succ]
          clear hK K
          refine wpAnyH_ready (rs := [1]) (by kernel_rfl) (by simp) (AllReadyH.cons rfl (fun K hK => ?_) AllReadyH.nil)
          go_simp
          refine (HT.out _ hS1.g).mono ?_
          rintro e w2 ⟨a1, n1, c1, rfl, o1, g2⟩
          have F1 := hid (Fr.new (N := Nn w V0.heap.size) o1 (fun q hq => by have l1 := lt_of_block CB.out; have l2 := lt_of_block AA.out; rcases hq with x | x <;> omega))
          have hS2 := hS1.gr g2
          have CB := hid (gr_blk CB.out g2)
          have AA := hid (gr_blk AA.out g2)
          clear o1 g2
          refine hK.out _ _ (by exact hS2) (fun _ => ?_)
          clear hK K
          refine wpAnyH_ready (rs := [3]) (by kernel_rfl) (by simp) (AllReadyH.cons rfl (fun K hK => ?_) AllReadyH.nil)
          go_simp
          refine (HT.out _ hS2.g).mono ?_
          rintro e w3 ⟨a3, n3, c3, rfl, o3, g3⟩
          have F2 := hid (Fr.new (N := Nn w V0.heap.size) o3 (fun q hq => by have l1 := lt_of_block CB.out; have l2 := lt_of_block AA.out; rcases hq with x | x <;> omega))
          have hS3 := hS2.gr g3
          have CB := hid (gr_blk CB.out g3)
          have F1 := hid (F1.out.gr g3)
          have AA := hid (gr_blk AA.out g3)
          clear o3 g3
          refine hK.out _ _ (by exact hS3) (fun _ => ?_)
          clear hK K
          refine wpAnyH_ready (rs := [5]) (by kernel_rfl) (by simp) (AllReadyH.cons rfl (fun K hK => ?_) AllReadyH.nil)
          rw [if_pos (by kernel_rfl)]
          refine op_row 30 (.tmp 4) (.tmp 15) rfl (w.heap.size + 1) _ rfl rfl _ _ CB.out (ctx_size' (HSZ0.out _ _)) ((HSZ0.out _ _).trans (HSZ0.out _ _).symm) cC_one ?_
          intro w4 b9 k9
          have hS4 : Sqr w #[.slice aoc nc cac, .slice aof nf caf, .slice aot nt cat] w4 := ⟨Ch.trans hS3.g k9 (fun q e => .inr (by have e1 : q = w.heap.size + 1 := e; omega)), keepB k9 hS3.p (by omega)⟩
          have F1 := hid (F1.out.st k9 (.inl (Nat.le_refl _)))
          have F2 := hid (F2.out.st k9 (.inl (Nat.le_refl _)))
          have AA := hid (keepB k9 AA.out (by have := LA.out; omega))
          have CB := hid b9
          clear b9 k9
          refine hK.out _ _ (by exact hS4) (fun _ => ?_)
          clear hK K
          refine wpAnyH_ready (rs := [6]) (by kernel_rfl) (by simp) (AllReadyH.cons rfl (fun K hK => ?_) AllReadyH.nil)
          rw [if_pos (by kernel_rfl)]
          refine op_row 30 (.tmp 7) (.tmp 17) rfl V0.heap.size _ rfl rfl _ _ AA.out (ctx_size' (HSZ0.out _ _)) (HSZ0.out _ _).symm cC_one ?_
          intro w5 b9 k9
          have hS5 : Sqr w #[.slice aoc nc cac, .slice aof nf caf, .slice aot nt cat] w5 := ⟨Ch.trans hS4.g k9 (fun q e => .inr (by have e1 : q = V0.heap.size := e; have := LA.out; omega)), keepB k9 hS4.p (by have := LA.out; omega)⟩
          have F1 := hid (F1.out.st k9 (.inr rfl))
          have F2 := hid (F2.out.st k9 (.inr rfl))
          have CB := hid (keepB k9 CB.out (by have := LA.out; omega))
          have AA := hid b9
          clear b9 k9
          refine hK.out _ _ (by exact hS5) (fun _ => ?_)
          clear hK K
          refine wpAnyH_done (by kernel_rfl) ?_ _
          unfold MidRuns
          exact ⟨rfl, V0.heap.size, a1, n1, c1, a3, n3, c3, _, _, _, _, _, _, _, _, _, _, _, _, _, _, _, _, _, _, _, _, _, _, _, _, _, _, _, _, _, _, _, _, _, _, _, _, _, _, _, _, _, _, _, _, _, _, _, _, _, _, _, _, _, _, _, _, _, _, _, _, _, _, _, _, _, _, _, _, _, _, _, _, _, _, _, _, _, _, _, _, _, _, _, rfl, ⟨hS5.g, hS5.p, CB.out, AA.out, LA.out, F1.out, F2.out⟩⟩
      · rw [if_pos (by kernel_rfl)]
        refine wp_load_row 30 (.tmp 4) rfl _ rfl _ _ _ _ CB.out Tryd.underlying30 rfl (ctx_size' (HSZ0.out _ _)) ?_
        refine hK.out _ _ (by exact hS1) (fun _ => ?_)
        change wpAnyH _ _ _ _ _ _ _ (Act.put _ (some 16) _) _
        simp only [Act.put, List.setIfInBounds_toArray, List.set_cons_zero, List.set_cons_succ]
        clear hK K
        refine wpAnyH_ready (rs := [0]) (by kernel_rfl) (by simp) (AllReadyH.cons rfl (fun K hK => ?_) AllReadyH.nil)
        rw [if_pos (by kernel_rfl)]
        refine wp_load_row 30 (.tmp 4) rfl _ rfl _ _ _ _ CB.out Tryd.underlying30 rfl (ctx_size' (HSZ0.out _ _)) ?_
        refine hK.out _ _ (by exact hS1) (fun _ => ?_)
        change wpAnyH _ _ _ _ _ _ _ (Act.put _ (some 14) _) _
        simp only [Act.put, List.setIfInBounds_toArray, List.set_cons_zero, List.set_cons_succ]
        clear hK K
        refine wpAnyH_ready (rs := [1]) (by kernel_rfl) (by simp) (AllReadyH.cons rfl (fun K hK => ?_) AllReadyH.nil)
        go_simp
        refine (HT.out _ hS1.g).mono ?_
        rintro e w2 ⟨a1, n1, c1, rfl, o1, g2⟩
        have F1 := hid (Fr.new (N := Nn w V0.heap.size) o1 (fun q hq => by have l1 := lt_of_block CB.out; have l2 := lt_of_block AA.out; rcases hq with x | x <;> omega))
        have hS2 := hS1.gr g2
        have CB := hid (gr_blk CB.out g2)
        have AA := hid (gr_blk AA.out g2)
        clear o1 g2
        refine hK.out _ _ (by exact hS2) (fun _ => ?_)
        clear hK K
        refine wpAnyH_ready (rs := [3]) (by kernel_rfl) (by simp) (AllReadyH.cons rfl (fun K hK => ?_) AllReadyH.nil)
        go_simp
        refine (HT.out _ hS2.g).mono ?_
        rintro e w3 ⟨a3, n3, c3, rfl, o3, g3⟩
        have F2 := hid (Fr.new (N := Nn w V0.heap.size) o3 (fun q hq => by have l1 := lt_of_block CB.out; have l2 := lt_of_block AA.out; rcases hq with x | x <;> omega))
        have hS3 := hS2.gr g3
        have CB := hid (gr_blk CB.out g3)
        have F1 := hid (F1.out.gr g3)
        have AA := hid (gr_blk AA.out g3)
        clear o3 g3
        refine hK.out _ _ (by exact hS3) (fun _ => ?_)
        clear hK K
        refine wpAnyH_ready (rs := [5]) (by kernel_rfl) (by simp) (AllReadyH.cons rfl (fun K hK => ?_) AllReadyH.nil)
        rw [if_pos (by kernel_rfl)]
        refine op_row 30 (.tmp 4) (.tmp 15) rfl (w.heap.size + 1) _ rfl rfl _ _ CB.out (ctx_size' (HSZ0.out _ _)) ((HSZ0.out _ _).trans (HSZ0.out _ _).symm) cC_one ?_
        intro w4 b9 k9
        have hS4 : Sqr w #[.slice aoc nc cac, .slice aof nf caf, .slice aot nt cat] w4 := ⟨Ch.trans hS3.g k9 (fun q e => .inr (by have e1 : q = w.heap.size + 1 := e; omega)), keepB k9 hS3.p (by omega)⟩
        have F1 := hid (F1.out.st k9 (.inl (Nat.le_refl _)))
        have F2 := hid (F2.out.st k9 (.inl (Nat.le_refl _)))
        have AA := hid (keepB k9 AA.out (by have := LA.out; omega))
        have CB := hid b9
        clear b9 k9
        refine hK.out _ _ (by exact hS4) (fun _ => ?_)
        clear hK K
        refine wpAnyH_ready (rs := [6]) (by kernel_rfl) (by simp) (AllReadyH.cons rfl (fun K hK => ?_) AllReadyH.nil)
        rw [if_pos (by kernel_rfl)]
        refine op_row 30 (.tmp 7) (.tmp 17) rfl V0.heap.size _ rfl rfl _ _ AA.out (ctx_size' (HSZ0.out _ _)) (HSZ0.out _ _).symm cC_one ?_
        intro w5 b9 k9
        have hS5 : Sqr w #[.slice aoc nc cac, .slice aof nf caf, .slice aot nt cat] w5 := ⟨Ch.trans hS4.g k9 (fun q e => .inr (by have e1 : q = V0.heap.size := e; have := LA.out; omega)), keepB k9 hS4.p (by have := LA.out; omega)⟩
        have F1 := hid (F1.out.st k9 (.inr rfl))
        have F2 := hid (F2.out.st k9 (.inr rfl))
        have CB := hid (keepB k9 CB.out (by have := LA.out; omega))
        have AA := hid b9
        clear b9 k9
        refine hK.out _ _ (by exact hS5) (fun _ => ?_)
        clear hK K
        refine wpAnyH_done (by kernel_rfl) ?_ _
        unfold MidRuns
        exact ⟨rfl, V0.heap.size, a1, n1, c1, a3, n3, c3, _, _, _, _, _, _, _, _, _, _, _, _, _, _, _, _, _, _, _, _, _, _, _, _, _, _, _, _, _, _, _, _, _, _, _, _, _, _, _, _, _, _, _, _, _, _, _, _, _, _, _, _, _, _, _, _, _, _, _, _, _, _, _, _, _, _, _, _, _, _, _, _, _, _, _, _, _, _, _, _, _, _, _, rfl, ⟨hS5.g, hS5.p, CB.out, AA.out, LA.out, F1.out, F2.out⟩⟩

end Go.Proofs.YtcdlhfodeckleaaDoor.Lt
