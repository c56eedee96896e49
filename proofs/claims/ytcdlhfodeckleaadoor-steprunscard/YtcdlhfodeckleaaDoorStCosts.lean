/-
  StepCosts, walked. Condition: the tables lie where they lie.
-/
import Derived.Test.YtcdlhfodeckleaaDoorStLives
import Derived.Deep.RegionHeld3
namespace Go.Proofs.YtcdlhfodeckleaaDoor.Lt
open Go.RowKit Wd

theorem takeS_on {P : Program} {md : Region.Mode} {ops : Array Oper} {Q : Exit → Act → World → Prop} {S : World → Prop} {i : Nat} (k : Nat) {oi : Oper} {v : Value} {fuel : Nat} {listed : Array Bool} {a : Act} {w : World} (hi : ops[i]? = some oi) (hd : oi.dst = some k)
    (hs : Region.noSelect ops = true) (hf : Region.free md ops listed i = true) (hr : (Region.ready md ops listed).contains i = true)
    (hQ : ∀ c a w, Q (.panic c) (a.put (some k) v) w → Q (.panic c) a w) (hw : Region.wanted oi (yielded ops a.tmps) = true) (hy : ∀ w', S w' → (execOp a.eval oi).run P w' = .ok (.value v) w') (hS : S w)
    (h : wpAnyH P md ops Q S fuel (listed.setIfInBounds i true) (a.put (some k) v) w) : wpAnyH P md ops Q S (fuel + 1) listed a w :=
  wpAnyH_take hi hs hf hr (by rw [hd]; exact hQ) (Or.inl ⟨hw, hy⟩) hS (by rw [hd]; exact h)
/-- a struct read whole -/
theorem exec_row {P : Program} {o : Oper} {a : Act} {w : World} (ty : TypeId) (x : Operand) (ho : o.op = .load ty x) (g : Nat) (hx : a.eval x = .pointer (some ⟨g, 0, none⟩)) (t : TypeId) (cs : Array Value) (fr : Nat × Nat) (d : TypeDesc) (hg : w.heap[g]? = some (.cells cs t fr))
    (hu : P.underlying ty = some d) (hd : (match d with | .struct _ | .array _ _ => true | _ => false) = true) (hi : (P.info? ty).map (·.size) = some cs.size) : (execOp a.eval o).run P w = .ok (.value (.agg cs)) w := by
  unfold execOp
  simp only [ho, hx, Instr.loadAt, Instr.sureAddr, Sem.run_bind, Sem.run_pure, Result.andThen_ok, run_loadVar_row w g t ty cs fr d hg hu hd hi]
theorem prog_size3 : (Tryd.prog.info? 26).map (·.size) = some 3 := by kernel_rfl
/-- a program and a context in variables of their own -/
structure Sc (w : World) (X Y : Array Value) (W : World) : Prop where
  g : Gr w W
  p : W.heap[w.heap.size]? = some (.cells X 26 (0, 0))
  c : W.heap[w.heap.size + 1]? = some (.cells Y 30 (0, 0))
theorem Sc.gr {w : World} {X Y : Array Value} {W W' : World} (h : Sc w X Y W) (g : Gr W W') : Sc w X Y W' := ⟨Gr.trans h.g g, gr_blk h.p g, gr_blk h.c g⟩
theorem Sc.new (w : World) (X Y : Array Value) : Sc w X Y ((w.alloc (.cells X 26)).alloc (.cells Y 30)).drew := by
  have h := (MapKept.heap_alloc (w.alloc (.cells X 26)) (.cells Y 30)).1
  have h' : ((w.alloc (.cells X 26)).alloc (.cells Y 30)).heap[w.heap.size + 1]? = some (.cells Y 30 (0, 0)) := by simpa using h
  exact ⟨Ch.drew (Ch.alloc (Ch.alloc (Gr.refl w) _) _), al_blk (MapKept.heap_alloc w _).1 _, h'⟩
set_option maxHeartbeats 4000000 in
set_option maxRecDepth 20000 in
theorem costs_any (P : Nat → Prop) (w : World) (aoc aof aot : Option Addr) (nc nf nt cac caf cat : Nat) (cs : List Int) (h : Ls eU P w (.slice aoc nc cac) cs) (hu : U32s cs) (hg : Glb w) (pc : Int) (r : List Int) (hr : r.length = 16) (ao : Option Addr) (n cap : Nat) (ks : List Int) (hk : Ls eI P w (.slice ao n cap) ks) (hn : n ≤ 17592186044416) :
    Calls Tryd.prog 4 #[.agg #[.slice aoc nc cac, .slice aof nf caf, .slice aot nt cat], .agg (cC pc r (.slice ao n cap))] w fun e w' => e = .returned (.bool true) ∧ Gr w w' := by
  obtain ⟨r0, r1, r2, r3, r4, r5, r6, r7, r8, r9, r10, r11, r12, r13, r14, r15, rfl⟩ := regs16 hr
  have HLV := hid (fun (W : World) (p : Gr w W) => lives9_any W (hg.gr p))
  have HT := hid (fun (W : World) (p : Gr w W) => twin_any P W pc [r0, r1, r2, r3, r4, r5, r6, r7, r8, r9, r10, r11, r12, r13, r14, r15] rfl ao n cap ks (hk.gr p) hn)
  have HC := hid (fun (W : World) (p : Gr w W) (ao : Option Addr) (n cap : Nat) => pcost_any P W aoc aof aot nc nf nt cac caf cat cs (h.gr p) hu (hg.gr p) pc [r0, r1, r2, r3, r4, r5, r6, r7, r8, r9, r10, r11, r12, r13, r14, r15] rfl ao n cap)
  have HR := hid (fun (W : World) (p : Gr w W) => rcost9_any P W aoc aof aot nc nf nt cac caf cat cs (h.gr p) hu pc [r0, r1, r2, r3, r4, r5, r6, r7, r8, r9, r10, r11, r12, r13, r14, r15] rfl ao n cap)
  rw [cC_is] at HT HR ⊢
  generalize cst cs pc = cv at HC HR
  have hS0 := Sc.new w #[.slice aoc nc cac, .slice aof nf caf, .slice aot nt cat] #[.int .i64 pc, .int .i64 r0, .int .i64 r1, .int .i64 r2, .int .i64 r3, .int .i64 r4, .int .i64 r5, .int .i64 r6, .int .i64 r7, .int .i64 r8, .int .i64 r9, .int .i64 r10, .int .i64 r11, .int .i64 r12, .int .i64 r13, .int .i64 r14, .int .i64 r15, .slice ao n cap]
  clear h hu hg hk hr
  go_enter Tryd.func4, Tryd.ntmps4
  go_wp2_with fail
  refine wp_region_held_drew (S := Sc w #[.slice aoc nc cac, .slice aof nf caf, .slice aot nt cat] #[.int .i64 pc, .int .i64 r0, .int .i64 r1, .int .i64 r2, .int .i64 r3, .int .i64 r4, .int .i64 r5, .int .i64 r6, .int .i64 r7, .int .i64 r8, .int .i64 r9, .int .i64 r10, .int .i64 r11, .int .i64 r12, .int .i64 r13, .int .i64 r14, .int .i64 r15, .slice ao n cap]) (by kernel_rfl) (by exact hS0) (fun _ => ?_)
  refine wpAnyH_ready (rs := [0]) (by kernel_rfl) (by simp) (AllReadyH.cons rfl (fun K hK => ?_) AllReadyH.nil)
  go_simp
  refine (HLV.out _ hS0.g).mono ?_
  rintro e w1 ⟨rfl, g1⟩
  have hS1 : Sc w #[.slice aoc nc cac, .slice aof nf caf, .slice aot nt cat] #[.int .i64 pc, .int .i64 r0, .int .i64 r1, .int .i64 r2, .int .i64 r3, .int .i64 r4, .int .i64 r5, .int .i64 r6, .int .i64 r7, .int .i64 r8, .int .i64 r9, .int .i64 r10, .int .i64 r11, .int .i64 r12, .int .i64 r13, .int .i64 r14, .int .i64 r15, .slice ao n cap] w1 := hS0.gr g1
  clear g1
  refine hK.out _ _ (by exact hS1) (fun _ => ?_)
  clear hK K
  refine takeS_on (i := 1) 6 (v := ?v1) rfl rfl (by kernel_rfl) (by kernel_rfl) (by kernel_rfl) (fun _ _ _ h => h) (by kernel_rfl) ?hy1 (by exact hS1) ?_
  case hy1 => (intro w' hSw; go_simp; try (with_reducible rfl))
  simp only [Act.put, List.setIfInBounds_toArray, List.set_cons_zero, List.set_cons_succ]
  refine takeS_on (i := 2) 7 (v := ?v2) rfl rfl (by kernel_rfl) (by kernel_rfl) (by kernel_rfl) (fun _ _ _ h => h) (by kernel_rfl) ?hy2 (by exact hS1) ?_
  case hy2 => (intro w' hSw; refine Eq.trans (exec_row 26 (.tmp 2) rfl _ rfl _ _ _ _ hSw.p Tryd.underlying26 rfl prog_size3) ?_; with_reducible rfl)
  simp only [Act.put, List.setIfInBounds_toArray, List.set_cons_zero, List.set_cons_succ]
  refine takeS_on (i := 3) 8 (v := ?v3) rfl rfl (by kernel_rfl) (by kernel_rfl) (by kernel_rfl) (fun _ _ _ h => h) (by kernel_rfl) ?hy3 (by exact hS1) ?_
  case hy3 => (intro w' hSw; refine Eq.trans (exec_row 30 (.tmp 3) rfl _ rfl _ _ _ _ hSw.c Tryd.underlying30 rfl ctx_size) ?_; with_reducible rfl)
  simp only [Act.put, List.setIfInBounds_toArray, List.set_cons_zero, List.set_cons_succ]
  refine takeS_on (i := 6) 11 (v := ?v4) rfl rfl (by kernel_rfl) (by kernel_rfl) (by kernel_rfl) (fun _ _ _ h => h) (by kernel_rfl) ?hy4 (by exact hS1) ?_
  case hy4 => (intro w' hSw; refine Eq.trans (exec_row 26 (.tmp 2) rfl _ rfl _ _ _ _ hSw.p Tryd.underlying26 rfl prog_size3) ?_; with_reducible rfl)
  simp only [Act.put, List.setIfInBounds_toArray, List.set_cons_zero, List.set_cons_succ]
  refine takeS_on (i := 7) 12 (v := ?v5) rfl rfl (by kernel_rfl) (by kernel_rfl) (by kernel_rfl) (fun _ _ _ h => h) (by kernel_rfl) ?hy5 (by exact hS1) ?_
  case hy5 => (intro w' hSw; refine Eq.trans (exec_row 30 (.tmp 3) rfl _ rfl _ _ _ _ hSw.c Tryd.underlying30 rfl ctx_size) ?_; with_reducible rfl)
  simp only [Act.put, List.setIfInBounds_toArray, List.set_cons_zero, List.set_cons_succ]
  refine wpAnyH_ready (rs := [4]) (by kernel_rfl) (by simp) (AllReadyH.cons rfl (fun K hK => ?_) AllReadyH.nil)
  go_simp
  refine (HT.out _ hS1.g).mono ?_
  rintro e w2 ⟨ao2, n2, cap2, rfl, o2, g2⟩
  have hS2 : Sc w #[.slice aoc nc cac, .slice aof nf caf, .slice aot nt cat] #[.int .i64 pc, .int .i64 r0, .int .i64 r1, .int .i64 r2, .int .i64 r3, .int .i64 r4, .int .i64 r5, .int .i64 r6, .int .i64 r7, .int .i64 r8, .int .i64 r9, .int .i64 r10, .int .i64 r11, .int .i64 r12, .int .i64 r13, .int .i64 r14, .int .i64 r15, .slice ao n cap] w2 := hS1.gr g2
  clear g2 o2
  refine hK.out _ _ (by exact hS2) (fun _ => ?_)
  clear hK K
  refine wpAnyH_ready (rs := [5]) (by kernel_rfl) (by simp) (AllReadyH.cons rfl (fun K hK => ?_) AllReadyH.nil)
  go_simp
  refine (HC.out _ hS2.g ao2 n2 cap2).mono ?_
  rintro e w3 ⟨rfl, g3⟩
  have hS3 : Sc w #[.slice aoc nc cac, .slice aof nf caf, .slice aot nt cat] #[.int .i64 pc, .int .i64 r0, .int .i64 r1, .int .i64 r2, .int .i64 r3, .int .i64 r4, .int .i64 r5, .int .i64 r6, .int .i64 r7, .int .i64 r8, .int .i64 r9, .int .i64 r10, .int .i64 r11, .int .i64 r12, .int .i64 r13, .int .i64 r14, .int .i64 r15, .slice ao n cap] w3 := hS2.gr g3
  clear g3
  refine hK.out _ _ (by exact hS3) (fun _ => ?_)
  clear hK K
  refine wpAnyH_ready (rs := [8]) (by kernel_rfl) (by simp) (AllReadyH.cons rfl (fun K hK => ?_) AllReadyH.nil)
  go_simp
  refine (HR.out _ hS3.g).mono ?_
  rintro e w4 ⟨rfl, g4⟩
  have hS4 : Sc w #[.slice aoc nc cac, .slice aof nf caf, .slice aot nt cat] #[.int .i64 pc, .int .i64 r0, .int .i64 r1, .int .i64 r2, .int .i64 r3, .int .i64 r4, .int .i64 r5, .int .i64 r6, .int .i64 r7, .int .i64 r8, .int .i64 r9, .int .i64 r10, .int .i64 r11, .int .i64 r12, .int .i64 r13, .int .i64 r14, .int .i64 r15, .slice ao n cap] w4 := hS3.gr g4
  clear g4
  refine hK.out _ _ (by exact hS4) (fun _ => ?_)
  clear hK K
  refine takeS_on (i := 9) 14 (v := ?v6) rfl rfl (by kernel_rfl) (by kernel_rfl) (by kernel_rfl) (fun _ _ _ h => h) (by kernel_rfl) ?hy6 (by exact hS4) ?_
  case hy6 => (intro w' hSw; go_simp; try (with_reducible rfl))
  simp only [Act.put, List.setIfInBounds_toArray, List.set_cons_zero, List.set_cons_succ]
  refine takeS_on (i := 10) 15 (v := ?v7) rfl rfl (by kernel_rfl) (by kernel_rfl) (by kernel_rfl) (fun _ _ _ h => h) (by kernel_rfl) ?hy7 (by exact hS4) ?_
  case hy7 => (intro w' hSw; go_simp; try (with_reducible rfl))
  simp only [Act.put, List.setIfInBounds_toArray, List.set_cons_zero, List.set_cons_succ]
  refine takeS_on (i := 11) 4 (v := ?v8) rfl rfl (by kernel_rfl) (by kernel_rfl) (by kernel_rfl) (fun _ _ _ h => h) (by kernel_rfl) ?hy8 (by exact hS4) ?_
  case hy8 => (intro w' hSw; go_simp; try (with_reducible rfl))
  simp only [Act.put, List.setIfInBounds_toArray, List.set_cons_zero, List.set_cons_succ]
  refine wpAnyH_done (by kernel_rfl) ?_ _
  go_wp2_with fail
  go_ret
  exact ⟨rfl, hS4.g⟩

theorem costs_any9 (P : Nat → Prop) (w : World) (ia ib ic : Value) (cs : List Int) (fs : List (Int × Int)) (tb : List Tb) (pc : Int) (r : List Int) (ao : Option Addr) (n cap : Nat) (ks : List Int) (h : Pin P w ia ib ic cs fs tb) (_hc : cs.length ≤ 35184372088832) (_hf : fs.length ≤ 8796093022208) (_ht : tb.length ≤ 4398046511104) (_hq : ∀ t ∈ tb, t.cs.length ≤ 4398046511104) (hu : U32s cs) (hr : r.length = 16) (hk : Ls eI P w (.slice ao n cap) ks) (hn : n ≤ 17592186044416) (hg : Glb w) :
    Calls Tryd.prog 4 #[.agg #[ia, ib, ic], .agg (cC pc r (.slice ao n cap))] w fun e w' => e = .returned (.bool true) ∧ Gr w w' := by
  obtain ⟨aoc, cac, rfl⟩ := h.c.form
  obtain ⟨aof, caf, rfl⟩ := h.f.form
  obtain ⟨aot, cat, rfl⟩ := h.t.form
  exact costs_any P w aoc aof aot _ _ _ cac caf cat cs h.c hu hg pc r hr ao n cap ks hk hn
end Go.Proofs.YtcdlhfodeckleaaDoor.Lt
