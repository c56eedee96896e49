/-
  A program that may be stays within its functions, step by step. Plain words without memory. No conditions.
  The variables of StepSafe, and of one round of it. No conditions.
  StepSafe, walked. Condition: the tables lie where they lie.
  StepSafe, walked, for a program that is handed in. Condition: the tables lie where they lie.
-/
import Derived.Test.YtcdlhfodeckleaaDoorStpFacts
import Derived.Test.YtcdlhfodeckleaaDoorPpMm
import Derived.Test.YtcdlhfodeckleaaDoorStRnM
import Derived.Test.YtcdlhfodeckleaaDoorSwP9
namespace Go.Proofs.YtcdlhfodeckleaaDoor.Lt
open Go.RowKit Wd

/-- within a function -/
def InF (fs : List (Int × Int)) (a : Int) : Prop := ∃ (j : Nat) (f : Int × Int), fs[j]? = some f ∧ f.1 ≤ a ∧ a < f.2
/-- a place, and all to which calls return, within functions -/
structure Sfe (fs : List (Int × Int)) (pc : Int) (ks : List Int) : Prop where
  p : InF fs pc
  k : ∀ x ∈ ks, InF fs x
theorem InF.code {cs : List Int} {fs : List (Int × Int)} {nt : Nat} {a : Int} (h : May cs fs nt) (p : InF fs a) : 0 ≤ a ∧ a < (cs.length : Int) := by
  obtain ⟨j, f, hf, h1, h2⟩ := p
  have hi := h.p.i f (List.mem_of_getElem? hf)
  omega
/-- what is known of a word within a function -/
theorem May.word {cs : List Int} {fs : List (Int × Int)} {nt : Nat} (h : May cs fs nt) {pc : Int} (p : InF fs pc) :
    nB cs pc = true ∧ (hT (nI cs pc).1 = true → InF fs (nI cs pc).2.2.2.2) ∧ ((nI cs pc).1 = 20 → (nI cs pc).2.2.2.2 < (fs.length : Int)) ∧ (en (nI cs pc).1 = false → InF fs (pc + 1)) := by
  have hc := InF.code h p
  obtain ⟨j, f, hf, h1, h2⟩ := p
  obtain ⟨b, rfl⟩ : ∃ b : Nat, pc = (b : Int) := ⟨pc.toNat, by omega⟩
  have hb : b < cs.length := by omega
  have hx := List.getElem?_eq_getElem hb
  have hw := h.w j f b _ hf h1 h2 hx
  have e1 : nI cs (b : Int) = dI cs[b] := by unfold nI; rw [if_pos hc, Int.toNat_natCast, hx]; rfl
  have e2 : nB cs (b : Int) = (dE cs[b] == 0) := by unfold nB; rw [if_pos hc, Int.toNat_natCast, hx]; rfl
  rw [e1, e2]
  generalize cs[b] = x at hw
  unfold wE at hw
  split at hw
  · cases hw
  · rename_i q0
    split at hw
    · cases hw
    · rename_i q1
      split at hw
      · cases hw
      · rename_i q2
        split at hw
        · cases hw
        · split at hw
          · cases hw
          · rename_i q4
            refine ⟨by simpa using q0, fun e => ⟨j, f, hf, Classical.byContradiction fun z => q1 ⟨e, .inl (by omega)⟩, Classical.byContradiction fun z => q1 ⟨e, .inr (by omega)⟩⟩, fun e => Classical.byContradiction fun z => q2 ⟨.inl e, by omega⟩, fun e => ⟨j, f, hf, by omega, ?_⟩⟩
            have : ¬ (b : Int) = f.2 - 1 := fun z => q4 ⟨z, e⟩
            omega
/-- a step of a program that may be -/
def SpS (cs : List Int) (fs : List (Int × Int)) (s : Int × List Int × List Int × Array Value) : Prop := ∃ q0 q1 q2 q3 q4 q5 q6 q7 q8 q9 q10 : Int, s.2.2.2 = wt q0 q1 q2 q3 q4 q5 q6 q7 q8 q9 q10 ∧ q9 ≠ 1 ∧ (q0 = 58 → q9 ≠ 0) ∧ (q0 ≠ 58 → q0 ≠ 24 → Sfe fs s.1 s.2.2.1 ∧ 0 ≤ s.1 ∧ s.1 < (cs.length : Int))
theorem SpS.go {cs : List Int} {fs : List (Int × Int)} {nt : Nat} (h : May cs fs nt) {pc : Int} {r ks : List Int} (hs : Sfe fs pc ks) : SpS cs fs (pc, r, ks, wt 0 0 0 0 0 0 0 0 0 0 0) :=
  ⟨_, _, _, _, _, _, _, _, _, _, _, rfl, by omega, (fun e => by cases e), fun _ _ => ⟨hs, InF.code h hs.p⟩⟩
theorem SpS.trap (cs : List Int) (fs : List (Int × Int)) (s : Int × List Int × List Int) {t m : Int} (h1 : t ≠ 1) (h0 : t ≠ 0) : SpS cs fs (s.1, s.2.1, s.2.2, wt 58 0 0 0 0 0 0 0 0 t m) :=
  ⟨_, _, _, _, _, _, _, _, _, _, _, rfl, h1, fun _ => h0, fun e => absurd rfl e⟩
theorem safe_step {cs : List Int} {fs : List (Int × Int)} {nt : Nat} (h : May cs fs nt) {pc : Int} (r : List Int) {ks : List Int} (hs : Sfe fs pc ks) (ck sl gn : Int) : SpS cs fs (stp cs fs pc r ks ck sl gn) := by
  obtain ⟨w1, w2, w3, w4⟩ := h.word hs.p
  unfold stp
  rw [if_neg (by rw [w1]; simp)]
  obtain ⟨o, m, a, b, c, hI, ho1, ho2, -, -, -, hm⟩ := nI_some w1
  rw [hI] at w2 w3 w4 ⊢
  dsimp only at w2 w3 w4 ⊢
  refine ite_all (fun _ => SpS.trap cs fs (_, _, _) (by omega) (by omega)) (fun n58 => ?_)
  refine ite_all (fun _ => SpS.trap cs fs (_, _, _) (by omega) (by omega)) (fun _ => ?_)
  refine ite_all (fun _ => SpS.trap cs fs (_, _, _) (by omega) (by omega)) (fun _ => ?_)
  refine ite_all (fun e => absurd (w3 e.1) (by omega)) (fun _ => ?_)
  have goon : en o = false → Sfe fs (pc + 1) ks := fun e => ⟨w4 e, hs.k⟩
  have hen : ∀ {x : Int}, o = x → x ≠ 17 → x ≠ 21 → x ≠ 24 → x ≠ 58 → en o = false := fun e h1 h2 h3 h4 => by rw [e]; unfold en; exact decide_eq_false (by omega)
  refine ite_all (fun e => SpS.go h (goon (hen e (by omega) (by omega) (by omega) (by omega)))) (fun _ => ?_)
  refine ite_all (fun e => SpS.go h (goon (by unfold en; exact decide_eq_false (by omega)))) (fun _ => ?_)
  refine ite_all (fun e => SpS.go h ⟨w2 (by unfold hT; exact decide_eq_true (by omega)), hs.k⟩) (fun n17 => ?_)
  refine ite_all (fun e => ?_) (fun n18 => ?_)
  · by_cases h0 : gt r (a : Int) = 0
    · rw [if_pos h0]
      exact SpS.go h ⟨w2 (by unfold hT; exact decide_eq_true (by omega)), hs.k⟩
    · rw [if_neg h0]
      exact SpS.go h (goon (by unfold en; exact decide_eq_false (by omega)))
  refine ite_all (fun e => ?_) (fun n19 => ?_)
  · by_cases h0 : gt r (a : Int) = 0
    · rw [if_pos h0]
      exact SpS.go h (goon (by unfold en; exact decide_eq_false (by omega)))
    · rw [if_neg h0]
      exact SpS.go h ⟨w2 (by unfold hT; exact decide_eq_true (by omega)), hs.k⟩
  refine ite_all (fun e => ?_) (fun n20 => ?_)
  · have hml := w3 e
    have hm0 := hm e
    obtain ⟨k, rfl⟩ : ∃ k : Nat, m = (k : Int) := ⟨m.toNat, by omega⟩
    have hk : k < fs.length := by omega
    have hx := List.getElem?_eq_getElem hk
    have e1 : fs.getD (k : Int).toNat (0, 0) = fs[k] := by rw [Int.toNat_natCast, List.getD_eq_getElem?_getD, hx]; rfl
    rw [e1]
    have hi := h.p.i _ (List.mem_of_getElem? hx)
    refine SpS.go h ⟨⟨k, fs[k], hx, by omega, by omega⟩, fun y hy => ?_⟩
    rcases List.mem_append.1 hy with hy | hy
    · exact hs.k y hy
    · rw [List.mem_singleton.1 hy]
      exact w4 (by unfold en; exact decide_eq_false (by omega))
  refine ite_all (fun e => ?_) (fun n21 => ?_)
  · refine ite_all (fun _ => ⟨_, _, _, _, _, _, _, _, _, _, _, rfl, by omega, (fun e => by cases e), fun _ e => absurd rfl e⟩) (fun n0 => ?_)
    have hl : ks.length - 1 < ks.length := by
      have : ks.length ≠ 0 := fun e => n0 (List.eq_nil_of_length_eq_zero e)
      omega
    have hx := List.getElem?_eq_getElem hl
    have e1 : ks.getD (ks.length - 1) 0 = ks[ks.length - 1] := by rw [List.getD_eq_getElem?_getD, hx]; rfl
    rw [e1]
    exact SpS.go h ⟨hs.k _ (List.mem_of_getElem? hx), fun y hy => hs.k y (List.mem_of_mem_take hy)⟩
  refine ite_all (fun e => SpS.go h (goon (hen e (by omega) (by omega) (by omega) (by omega)))) (fun _ => ?_)
  refine ite_all (fun e => SpS.go h (goon (hen e (by omega) (by omega) (by omega) (by omega)))) (fun _ => ?_)
  refine ite_all (fun e => ⟨_, _, _, _, _, _, _, _, _, _, _, rfl, by omega, fun e => absurd e n58, fun _ e2 => ?_⟩) (fun n24 => ⟨_, _, _, _, _, _, _, _, _, _, _, rfl, by omega, fun e => absurd e n58, fun _ e2 => ?_⟩)
  · have hg := goon (by unfold en; exact decide_eq_false (by omega))
    exact ⟨hg, InF.code h hg.p⟩
  · have hg := goon (by unfold en; exact decide_eq_false (by omega))
    exact ⟨hg, InF.code h hg.p⟩
end Go.Proofs.YtcdlhfodeckleaaDoor.Lt

namespace Go.Proofs.YtcdlhfodeckleaaDoor.Lt
open Go.RowKit Wd

/-- between two rounds: the program, the context -/
structure Sn (w : World) (X : Array Value) (A : Nat) (pc : Int) (r ks : List Int) (v : Value) (W : World) : Prop where
  g : Gr w W
  p : W.heap[w.heap.size]? = some (.cells X 26 (0, 0))
  c : W.heap[A]? = some (.cells (cC pc r v) 30 (0, 0))
  lA : w.heap.size < A
  v : Fr (fun q => q ≤ w.heap.size ∨ q = A) W v ks
/-- in a round: what is wanted besides -/
structure Sm (w : World) (X : Array Value) (A B : Nat) (pc : Int) (r ks : List Int) (v : Value) (T : Array Value) (W : World) : Prop where
  g : Gr w W
  p : W.heap[w.heap.size]? = some (.cells X 26 (0, 0))
  c : W.heap[A]? = some (.cells (cC pc r v) 30 (0, 0))
  t : W.heap[B]? = some (.cells T 49 (0, 0))
  lA : w.heap.size < A
  lB : A < B
  v : Fr (fun q => q ≤ w.heap.size ∨ q = A ∨ q = B) W v ks
section
variable {w : World} {X T T1 : Array Value} {A B : Nat} {pc pc1 : Int} {r r1 ks ks1 : List Int} {v v1 : Value} {W W' : World}
theorem Sm.gr (h : Sm w X A B pc r ks v T W) (g : Gr W W') : Sm w X A B pc r ks v T W' := ⟨Gr.trans h.g g, gr_blk h.p g, gr_blk h.c g, gr_blk h.t g, h.lA, h.lB, h.v.gr g⟩
theorem Sn.begin (h : Sn w X A pc r ks v W) (g : Gr W W') (ht : W'.heap[B]? = some (.cells T 49 (0, 0))) (hB : W.heap.size ≤ B) : Sm w X A B pc r ks v T W' :=
  ⟨Gr.trans h.g g, gr_blk h.p g, gr_blk h.c g, ht, h.lA, by have := lt_of_block h.c; omega, (h.v.old (fun q hq => hq.elim (fun a => .inl (.inl a)) (fun a => a.elim (fun a => .inl (.inr a)) (fun a => .inr (by omega))))).gr g⟩
theorem Sm.end_ (h : Sm w X A B pc r ks v T W) : Sn w X A pc r ks v W := ⟨h.g, h.p, h.c, h.lA, h.v.old (fun _ hq => .inl (hq.elim .inl (fun a => .inr (.inl a))))⟩
theorem Sm.stc (h : Sm w X A B pc r ks v T W) (k : Ch (Only A) W W') (b : W'.heap[A]? = some (.cells (cC pc1 r1 v1) 30 (0, 0))) (f : Fr (fun q => q ≤ w.heap.size ∨ q = A ∨ q = B) W v1 ks1) : Sm w X A B pc1 r1 ks1 v1 T W' :=
  ⟨Ch.trans h.g k (fun q e => .inr (by have e1 : q = A := e; have := h.lA; omega)), keepB k h.p (by have := h.lA; omega), b, keepB k h.t (by have := h.lB; omega), h.lA, h.lB, f.st k (.inr (.inl rfl))⟩
theorem Sm.stt (h : Sm w X A B pc r ks v T W) (k : Ch (Only B) W W') (b : W'.heap[B]? = some (.cells T1 49 (0, 0))) : Sm w X A B pc r ks v T1 W' :=
  ⟨Ch.trans h.g k (fun q e => .inr (by have e1 : q = B := e; have := h.lA; have := h.lB; omega)), keepB k h.p (by have := h.lA; have := h.lB; omega), keepB k h.c (by have := h.lB; omega), b, h.lA, h.lB, h.v.st k (.inr (.inr rfl))⟩
theorem Sm.new {W0 : World} {ao : Option Addr} {n cap : Nat} (h : Sm w X A B pc r ks v T W0) (o : Ow eI 1 3 W0.heap.size W (.slice ao n cap) ks1) : Fr (fun q => q ≤ w.heap.size ∨ q = A ∨ q = B) W (.slice ao n cap) ks1 :=
  Fr.new o (fun q hq => by
    have l1 := lt_of_block h.p; have l2 := lt_of_block h.c; have l3 := lt_of_block h.t
    rcases hq with a | a | a <;> omega)
theorem Rs.of21 (h : Sm w X A B pc r ks v T W) : Rs w B T W := ⟨h.g, h.t⟩
end
/-- what a step of a program that may be leaves -/
def SfR (nc : Nat) (fs : List (Int × Int)) (W : World) (e : Ending) (w' : World) : Prop := ∃ (pc1 : Int) (r1 ks1 : List Int) (ao : Option Addr) (n cap : Nat) (q0 q1 q2 q3 q4 q5 q6 q7 q8 q9 q10 : Int), e = .returned (.tuple #[.agg (cC pc1 r1 (.slice ao n cap)), .agg #[.int .i64 q0, .int .i64 q1, .int .i64 q2, .int .i64 q3, .int .i64 q4, .int .i64 q5, .int .i64 q6, .int .i64 q7, .int .i64 q8, .int .i64 q9, .int .i64 q10]]) ∧ r1.length = 16 ∧ ks1.length ≤ 17592186044416 ∧ q9 ≠ 1 ∧ (q0 = 58 → q9 ≠ 0) ∧ (q0 ≠ 58 → q0 ≠ 24 → Sfe fs pc1 ks1 ∧ 0 ≤ pc1 ∧ pc1 < (nc : Int)) ∧ Ow eI 1 3 W.heap.size w' (.slice ao n cap) ks1 ∧ Gr W w'
theorem want_cells {w : World} {X : Nat} {a0 a1 a2 a3 a4 a5 a6 a7 a8 a9 a10 : Value} {T : TypeId} (h : w.heap[X]? = some (.cells #[a0, a1, a2, a3, a4, a5, a6, a7, a8, a9, a10] T (0, 0))) : w.cell? ⟨X, 0, none⟩ = some a0 ∧ w.cell? ⟨X, 9, none⟩ = some a9 :=
  ⟨(cell_of h 0).trans rfl, (cell_of h 9).trans rfl⟩
end Go.Proofs.YtcdlhfodeckleaaDoor.Lt

namespace Go.Proofs.YtcdlhfodeckleaaDoor.Lt
open Go.RowKit Wd

theorem ins_size5 : (Tryd.prog.info? 46).map (·.size) = some 5 := by kernel_rfl
theorem exec_sub {P : Program} {o : Oper} {a : Act} {w : World} (ty : TypeId) (x : Operand) (ho : o.op = .load ty x) (g k : Nat) (hx : a.eval x = .pointer (some ⟨g, k, none⟩)) (cs : List Value) (d : TypeDesc) (hc : ∀ j v, cs[j]? = some v → w.cell? ⟨g, k + j, none⟩ = some v)
    (hu : P.underlying ty = some d) (hd : (match d with | .struct _ | .array _ _ => true | _ => false) = true) (hi : (P.info? ty).map (·.size) = some cs.length) : (execOp a.eval o).run P w = .ok (.value (.agg cs.toArray)) w := by
  have hl : (loadCells ⟨g, k, none⟩ cs.length).run P w = .ok cs.toArray w :=
    run_loadCells_list (P := P) w ⟨g, k, none⟩ cs (fun j v hv => by rw [add_none]; exact hc j v hv)
  have hr : (loadVar ty ⟨g, k, none⟩).run P w = .ok (.agg cs.toArray) w := by
    cases hq : P.info? ty with
    | none => simp [hq] at hi
    | some i =>
      have hs : i.size = cs.length := by simpa [hq] using hi
      have hagg : (isAgg ty).run P w = .ok true w := by
        unfold isAgg
        rw [Sem.run_bind, run_underlying hu w]
        cases d <;> simp_all
      simp [loadVar, Sem.run_bind, hagg, sizeOf, typeInfo, hq, hs, hl]
  unfold execOp
  simp only [ho, hx, Instr.loadAt, Instr.sureAddr, Sem.run_bind, Sem.run_pure, Result.andThen_ok, hr]
theorem wt_sub {w : World} {X : Nat} {a0 a1 a2 a3 a4 a5 a6 a7 a8 a9 a10 : Value} {T : TypeId} (h : w.heap[X]? = some (.cells #[a0, a1, a2, a3, a4, a5, a6, a7, a8, a9, a10] T (0, 0))) : ∀ (j : Nat) (v : Value), [a1, a2, a3, a4, a5][j]? = some v → w.cell? ⟨X, 1 + j, none⟩ = some v := by
  intro j v hv
  rw [cell_of h]
  match j, hv with
  | 0, hv => exact hv
  | 1, hv => exact hv
  | 2, hv => exact hv
  | 3, hv => exact hv
  | 4, hv => exact hv
  | n + 5, hv => simp at hv
theorem ctx_pc {w : World} {g : Nat} {t : TypeId} {fr : Nat × Nat} {pc : Int} {r : List Int} {v : Value} (h : w.heap[g]? = some (.cells (cC pc r v) t fr)) : w.cell? ⟨g, 0, none⟩ = some (.int .i64 pc) := (cell_of h 0).trans (by unfold cC; rfl)
set_option maxHeartbeats 4000000 in
set_option maxRecDepth 100000 in
theorem safe_bad (w : World) (hg : Glb w) (aoc aof aot : Option Addr) (nc nf nt cac caf cat : Nat) (f : Int) (yo : Option Addr) (ny yc : Nat) (z E : Int) (hE : E ≠ 0)
    (hC : ∀ W, Gr w W → Calls Tryd.prog 20 #[.agg #[.slice aoc nc cac, .slice aof nf caf, .slice aot nt cat]] W fun e w' => e = .returned (.tuple #[.int .i64 z, .int .i64 E]) ∧ Gr W w')
    (hS : ∀ W, Gr w W → Calls Tryd.prog 16 #[.agg #[.slice aoc nc cac, .slice aof nf caf, .slice aot nt cat], .agg #[.int .i64 (-1), .int .i64 0, .int .i64 0, .int .i64 0, .int .i64 0, .int .i64 0, .int .i64 0, .int .i64 0, .int .i64 0, .int .i64 0, .int .i64 0, .int .i64 0, .int .i64 0, .int .i64 0, .int .i64 0, .int .i64 0, .int .i64 0, .slice none 0 0], .agg #[.int .u64 0, .int .i64 0, .int .i64 0]] W (StR W (-1) [0, 0, 0, 0, 0, 0, 0, 0, 0, 0, 0, 0, 0, 0, 0, 0] [] #[.int .i64 58, .int .i64 0, .int .i64 0, .int .i64 0, .int .i64 0, .int .i64 0, .int .i64 0, .int .i64 0, .int .i64 0, .int .i64 1, .int .i64 0])) :
    Calls Tryd.prog 8 #[.agg #[.slice aoc nc cac, .slice aof nf caf, .slice aot nt cat], .int .i64 f, .slice yo ny yc] w fun e w' => e = .returned (.bool true) ∧ Gr w w' := by
  have HLV := hid (fun (W : World) (p : Gr w W) => lives9_any W (hg.gr p))
  have HC := hid hC
  have HS := hid hS
  have eE : (E == 0) = false := by simpa using hE
  have hB0 : Sqr w #[.slice aoc nc cac, .slice aof nf caf, .slice aot nt cat] (w.alloc (.cells #[.slice aoc nc cac, .slice aof nf caf, .slice aot nt cat] 26)) := ⟨Ch.alloc (Gr.refl w) _, (MapKept.heap_alloc w _).1⟩
  clear hC hS hg hE
  go_enter Tryd.func8, Tryd.ntmps8
  go_wp2_with (first
    | (go_at_call 11; refine (HLV.out _ hB0.g).mono ?_; rintro e W0 ⟨rfl, g0⟩; have B1 := hid (hB0.gr g0); clear g0)
    | (refine wpList_load_row rfl 26 (.tmp 3) rfl w.heap.size rfl _ _ _ _ B1.out.p Tryd.underlying26 rfl prog_size3 ?_)
    | (go_at_call 20; refine (HC.out _ B1.out.g).mono ?_; rintro e W1 ⟨rfl, g1⟩; have B2 := hid (B1.out.gr g1); clear g1)
    | (refine wpList_load_row rfl 26 (.tmp 3) rfl w.heap.size rfl _ _ _ _ B2.out.p Tryd.underlying26 rfl prog_size3 ?_)
    | (go_at_call 16; refine (HS.out _ B2.out.g).mono ?_; rintro e W2 ⟨ao3, n3, cap3, rfl, o3, g3⟩; have G3 := hid (Gr.trans B2.out.g g3); clear o3 g3; simp only [cC_is])
    | (refine st_row rfl 30 (.tmp 9) (.tmp 29) rfl W2.heap.size _ rfl rfl _ _ (al_blk (MapKept.heap_alloc W2 _).1 _) ctx_size rfl (one18 _ _ _ _ _ _ _ _ _ _ _ _ _ _ _ _ _ _ _ _) ?_; intro W3 b3 k3; have K3 := hid k3; have B3 := hid (keepB k3 (show ((W2.alloc (.cells #[.int .i64 0, .int .i64 0, .int .i64 0, .int .i64 0, .int .i64 0, .int .i64 0, .int .i64 0, .int .i64 0, .int .i64 0, .int .i64 0, .int .i64 0, .int .i64 0, .int .i64 0, .int .i64 0, .int .i64 0, .int .i64 0, .int .i64 0, .slice none 0 0] 30)).alloc (.cells #[.int .i64 0, .int .i64 0, .int .i64 0, .int .i64 0, .int .i64 0, .int .i64 0, .int .i64 0, .int .i64 0, .int .i64 0, .int .i64 0, .int .i64 0] 49)).heap[W2.heap.size + 1]? = some (.cells #[.int .i64 0, .int .i64 0, .int .i64 0, .int .i64 0, .int .i64 0, .int .i64 0, .int .i64 0, .int .i64 0, .int .i64 0, .int .i64 0, .int .i64 0] 49 (0, 0)) from by simpa using (MapKept.heap_alloc (W2.alloc (.cells #[.int .i64 0, .int .i64 0, .int .i64 0, .int .i64 0, .int .i64 0, .int .i64 0, .int .i64 0, .int .i64 0, .int .i64 0, .int .i64 0, .int .i64 0, .int .i64 0, .int .i64 0, .int .i64 0, .int .i64 0, .int .i64 0, .int .i64 0, .slice none 0 0] 30)) (.cells #[.int .i64 0, .int .i64 0, .int .i64 0, .int .i64 0, .int .i64 0, .int .i64 0, .int .i64 0, .int .i64 0, .int .i64 0, .int .i64 0, .int .i64 0] 49)).1) (by omega)); clear b3 k3)
    | (refine st_row rfl 49 (.tmp 10) (.tmp 30) rfl (W2.heap.size + 1) _ rfl rfl _ _ B3.out want_size rfl (wt_one _ _ _ _ _ _ _ _ _ _ _) ?_; intro W4 b4 k4; have G4 := hid (show Gr w W4 from Ch.trans (Ch.trans (Ch.alloc (Ch.alloc G3.out _) _) K3.out (fun q e => .inr (by have e1 : q = W2.heap.size := e; have := G3.out.size; omega))) k4 (fun q e => .inr (by have e1 : q = W2.heap.size + 1 := e; have := G3.out.size; omega))); have c9 := (want_cells b4).2; clear b4 k4))
  go_ret
  exact ⟨rfl, G4.out⟩
set_option maxHeartbeats 4000000 in
set_option maxRecDepth 100000 in
theorem safe_no (w : World) (hg : Glb w) (aoc aof aot : Option Addr) (nc nf nt cac caf cat : Nat) (f : Int) (yo : Option Addr) (ny yc : Nat) (z : Int) (hf : ¬ (0 ≤ f ∧ f < (nf : Int)))
    (hC : ∀ W, Gr w W → Calls Tryd.prog 20 #[.agg #[.slice aoc nc cac, .slice aof nf caf, .slice aot nt cat]] W fun e w' => e = .returned (.tuple #[.int .i64 z, .int .i64 0]) ∧ Gr W w')
    (hBg : ∀ W, Gr w W → Calls Tryd.prog 9 #[.agg #[.slice aoc nc cac, .slice aof nf caf, .slice aot nt cat], .int .i64 f, .agg #[.int .i64 1, .int .i64 2, .int .i64 3, .int .i64 0, .int .i64 0, .int .i64 0, .int .i64 0, .int .i64 0, .int .i64 0, .int .i64 0, .int .i64 0, .int .i64 0, .int .i64 0, .int .i64 0, .int .i64 0, .int .i64 0]] W fun e w' => e = .returned (.tuple #[.agg (cC 0 [0, 0, 0, 0, 0, 0, 0, 0, 0, 0, 0, 0, 0, 0, 0, 0] (.slice none 0 0)), .int .i64 1]) ∧ Gr W w') :
    Calls Tryd.prog 8 #[.agg #[.slice aoc nc cac, .slice aof nf caf, .slice aot nt cat], .int .i64 f, .slice yo ny yc] w fun e w' => e = .returned (.bool true) ∧ Gr w w' := by
  have HLV := hid (fun (W : World) (p : Gr w W) => lives9_any W (hg.gr p))
  have HC := hid hC
  have HBG := hid hBg
  have hB0 : Sqr w #[.slice aoc nc cac, .slice aof nf caf, .slice aot nt cat] (w.alloc (.cells #[.slice aoc nc cac, .slice aof nf caf, .slice aot nt cat] 26)) := ⟨Ch.alloc (Gr.refl w) _, (MapKept.heap_alloc w _).1⟩
  have HSZ0 := hid (cC_size (pc := 0) (r := [0, 0, 0, 0, 0, 0, 0, 0, 0, 0, 0, 0, 0, 0, 0, 0]) (v := .slice none 0 0) rfl)
  clear hC hBg hg
  by_cases f0 : f < 0
  all_goals first
    | (have f1 : (nf : Int) ≤ f := by omega)
    | skip
  all_goals clear hf
  all_goals go_enter Tryd.func8, Tryd.ntmps8
  all_goals go_wp2_with (first
    | (go_at_call 11; refine (HLV.out _ hB0.g).mono ?_; rintro e W0 ⟨rfl, g0⟩; have B1 := hid (hB0.gr g0); clear g0)
    | (refine wpList_load_row rfl 26 (.tmp 3) rfl w.heap.size rfl _ _ _ _ B1.out.p Tryd.underlying26 rfl prog_size3 ?_)
    | (go_at_call 20; refine (HC.out _ B1.out.g).mono ?_; rintro e W1 ⟨rfl, g1⟩; have B2 := hid (B1.out.gr g1); clear g1)
    | (refine wpList_load_row rfl 26 (.tmp 3) rfl w.heap.size rfl _ _ _ _ B2.out.p Tryd.underlying26 rfl prog_size3 ?_)
    | (go_at_call 9; refine (HBG.out _ B2.out.g).mono ?_; rintro e W2 ⟨rfl, g2⟩; have B3 := hid (B2.out.gr g2); clear g2)
    | (refine st_row rfl 30 (.tmp 11) (.tmp 39) rfl W2.heap.size _ rfl rfl _ _ (MapKept.heap_alloc W2 _).1 (ctx_size' HSZ0.out) HSZ0.out.symm cC_one ?_; intro W3 b3 k3; have G4 := hid (show Gr w W3 from Ch.trans (Ch.alloc B3.out.g _) k3 (fun q e => .inr (by have e1 : q = W2.heap.size := e; have := B3.out.g.size; omega))); have c9 : W3.cell? ⟨w.heap.size, 1, none⟩ = some (.slice aof nf caf) := (cell_of (keepB k3 (al_blk B3.out.p _) (by have := lt_of_block B3.out.p; omega)) 1).trans rfl; clear b3 k3))
  all_goals go_ret
  all_goals exact ⟨rfl, G4.out⟩
set_option maxHeartbeats 40000000 in
set_option maxRecDepth 100000 in
theorem safe_good (P : Nat → Prop) (w : World) (hg : Glb w) (aoc aof aot : Option Addr) (nc nf nt cac caf cat : Nat) (f : Int) (yo : Option Addr) (ny yc : Nat) (ys : List Int) (hy : Ls eI P w (.slice yo ny yc) ys) (hny : ny ≤ 17592186044416) (z : Int) (fs : List (Int × Int)) (b0 : Int)
    (hC : ∀ W, Gr w W → Calls Tryd.prog 20 #[.agg #[.slice aoc nc cac, .slice aof nf caf, .slice aot nt cat]] W fun e w' => e = .returned (.tuple #[.int .i64 z, .int .i64 0]) ∧ Gr W w')
    (hBg : ∀ W, Gr w W → Calls Tryd.prog 9 #[.agg #[.slice aoc nc cac, .slice aof nf caf, .slice aot nt cat], .int .i64 f, .agg #[.int .i64 1, .int .i64 2, .int .i64 3, .int .i64 0, .int .i64 0, .int .i64 0, .int .i64 0, .int .i64 0, .int .i64 0, .int .i64 0, .int .i64 0, .int .i64 0, .int .i64 0, .int .i64 0, .int .i64 0, .int .i64 0]] W fun e w' => e = .returned (.tuple #[.agg (cC b0 [1, 2, 3, 0, 0, 0, 0, 0, 0, 0, 0, 0, 0, 0, 0, 0] (.slice none 0 0)), .int .i64 0]) ∧ Gr W w') (hB0 : Sfe fs b0 [])
    (hS : ∀ W, Gr w W → ∀ pc r ks ao n cap (ck sl gn : Int) N, r.length = 16 → ks.length ≤ 17592186044416 → Sfe fs pc ks → Fr N W (.slice ao n cap) ks → Calls Tryd.prog 16 #[.agg #[.slice aoc nc cac, .slice aof nf caf, .slice aot nt cat], .agg (cC pc r (.slice ao n cap)), .agg #[.int .u64 ck, .int .i64 sl, .int .i64 gn]] W (SfR nc fs W))
    (hA : ∀ W, Gr w W → ∀ pc r ks ao n cap N (o a b c m v k : Int), r.length = 16 → ks.length ≤ 17592186044416 → Fr N W (.slice ao n cap) ks → Calls Tryd.prog 18 #[.agg (cC pc r (.slice ao n cap)), .agg #[.int .i64 o, .int .i64 a, .int .i64 b, .int .i64 c, .int .i64 m], .int .i64 v, .int .i64 k] W (CxR W pc (ans o a b c v k r) ks)) :
    Calls Tryd.prog 8 #[.agg #[.slice aoc nc cac, .slice aof nf caf, .slice aot nt cat], .int .i64 f, .slice yo ny yc] w fun e w' => e = .returned (.bool true) ∧ Gr w w' := by
  have HLV := hid (fun (W : World) (p : Gr w W) => lives9_any W (hg.gr p))
  have HC := hid hC
  have HBG := hid hBg
  have HB0 := hid hB0
  have HS := hid hS
  have HA := hid hA
  have HY := hid hy
  have HYL := hid hy.len.1
  have hA0 : Sqr w #[.slice aoc nc cac, .slice aof nf caf, .slice aot nt cat] (w.alloc (.cells #[.slice aoc nc cac, .slice aof nf caf, .slice aot nt cat] 26)) := ⟨Ch.alloc (Gr.refl w) _, (MapKept.heap_alloc w _).1⟩
  have HSZ0 := hid (cC_size (pc := b0) (r := [1, 2, 3, 0, 0, 0, 0, 0, 0, 0, 0, 0, 0, 0, 0, 0]) (v := .slice none 0 0) rfl)
  clear hC hBg hB0 hS hA hg hy
  go_enter Tryd.func8, Tryd.ntmps8
  go_wp2_with (first
    | (go_at_call 11; refine (HLV.out _ hA0.g).mono ?_; rintro e W0 ⟨rfl, g0⟩; have B1 := hid (hA0.gr g0); clear g0)
    | (refine wpList_load_row rfl 26 (.tmp 3) rfl w.heap.size rfl _ _ _ _ B1.out.p Tryd.underlying26 rfl prog_size3 ?_)
    | (go_at_call 20; refine (HC.out _ B1.out.g).mono ?_; rintro e W1 ⟨rfl, g1⟩; have B2 := hid (B1.out.gr g1); clear g1)
    | (refine wpList_load_row rfl 26 (.tmp 3) rfl w.heap.size rfl _ _ _ _ B2.out.p Tryd.underlying26 rfl prog_size3 ?_)
    | (go_at_call 9; refine (HBG.out _ B2.out.g).mono ?_; rintro e W2 ⟨rfl, g2⟩; have B3 := hid (B2.out.gr g2); clear g2)
    | (refine st_row rfl 30 (.tmp 11) (.tmp 39) rfl W2.heap.size _ rfl rfl _ _ (MapKept.heap_alloc W2 _).1 (ctx_size' HSZ0.out) HSZ0.out.symm cC_one ?_; intro W3 b3 k3; have SN0 := hid (show Sn w #[.slice aoc nc cac, .slice aof nf caf, .slice aot nt cat] W2.heap.size b0 [1, 2, 3, 0, 0, 0, 0, 0, 0, 0, 0, 0, 0, 0, 0, 0] [] (.slice none 0 0) W3 from ⟨Ch.trans (Ch.alloc B3.out.g _) k3 (fun q e => .inr (by have e1 : q = W2.heap.size := e; have := B3.out.g.size; omega)), keepB k3 (al_blk B3.out.p _) (by have := lt_of_block B3.out.p; omega), b3, lt_of_block B3.out.p, ⟨⟨0, Ow.nil _ _ _ _ _⟩, fun q hq => by cases hq⟩⟩); clear b3 k3))
  clear HLV HC HBG B1 B2 B3 HSZ0
  generalize hAA : W2.heap.size = A at SN0 ⊢
  go_loopg [13] ny (fun q i9 wr => ∃ (j : Nat) (pc : Int) (r ks : List Int) (ao : Option Addr) (n cap : Nat), j + q = ny ∧ i9 = .int .i64 (j : Int) ∧ r.length = 16 ∧ ks.length ≤ 17592186044416 ∧ Sfe fs pc ks ∧ Sn w #[.slice aoc nc cac, .slice aof nf caf, .slice aot nt cat] A pc r ks (.slice ao n cap) wr)
  case atStart => exact ⟨0, b0, _, [], _, _, _, by omega, rfl, rfl, by simp, HB0.out, SN0.out⟩
  case round =>
    obtain ⟨j, pc, r, ks, ao, n, cap, hjk, rfl, hr, hks, hsf, sn⟩ := hrel
    have RN := hid sn
    have HSZ := hid (fun (pc : Int) (v : Value) => cC_size (pc := pc) (v := v) hr)
    have HRj := hid hr
    have HKj := hid hks
    have HSF := hid hsf
    clear sn hr hks hsf
    by_cases hj : j < ny
    · obtain ⟨y, hyj⟩ : ∃ y, ys[j]? = some y := ⟨_, List.getElem?_eq_getElem (by have := HYL.out; omega)⟩
      have HYJ := hid hyj
      have j0 : (0 : Int) ≤ (j : Int) := by omega
      have j1 : (j : Int) < (ny : Int) := by omega
      clear hyj
      obtain ⟨gy, oy, cy, ey, -, -, -, -⟩ := HY.out.get eI_len HYJ.out
      injection ey with ey ey1 ey2
      subst ey
      clear ey1 ey2
      go_upto_region 15 with (first
        | (refine st_row rfl 49 (.tmp 14) (.tmp 58) rfl wr.heap.size _ rfl rfl _ _ (MapKept.heap_alloc wr _).1 want_size rfl (wt_one _ _ _ _ _ _ _ _ _ _ _) ?_; intro w1 b1 k1; have R1 := hid (RN.out.begin (gr_alst k1) b1 (Nat.le_refl _)); clear b1 k1)
        | (refine wpList_load_row rfl 26 (.tmp 3) rfl w.heap.size rfl _ _ _ _ R1.out.p Tryd.underlying26 rfl prog_size3 ?_)
        | (refine wpList_load_row rfl 30 (.tmp 11) rfl A rfl _ _ _ _ R1.out.c Tryd.underlying30 rfl (ctx_size' (HSZ.out _ _)) ?_)
        | (go_at_call 16; refine (HS.out _ R1.out.g _ _ _ _ _ _ _ _ _ _ HRj.out HKj.out HSF.out R1.out.v).mono ?_; rintro e w3 ⟨pc1, r1, ks1, ao4, n4, cap4, q0, q1, q2, q3, q4, q5, q6, q7, q8, q9, q10, rfl, hr1, hk1, t1, t0, tg, o4, g4⟩; have F4 := hid (Sm.new R1.out o4); have R3 := hid (R1.out.gr g4); have HR16 := hid hr1; have HK16 := hid hk1; have HT1 := hid t1; have HT0 := hid t0; have HTG := hid tg; have HSY := hid (fun (pc : Int) (v : Value) => cC_size (pc := pc) (v := v) hr1); have HSX := hid (fun (pc : Int) (v : Value) (o a b c y k : Int) => cC_size (pc := pc) (v := v) ((ans_len o a b c y k r1).trans hr1)); clear hr1 hk1 t1 t0 tg o4 g4)
        | (refine st_row rfl 30 (.tmp 11) (.tmp 66) rfl A _ rfl rfl _ _ R3.out.c (ctx_size' (HSY.out _ _)) ((HSZ.out _ _).trans (HSY.out _ _).symm) cC_one ?_; intro w4 b4 k4; have R4 := hid (R3.out.stc k4 b4 F4.out); clear b4 k4)
        | (refine st_row rfl 49 (.tmp 14) (.tmp 67) rfl wr.heap.size _ rfl rfl _ _ R4.out.t want_size rfl (wt_one _ _ _ _ _ _ _ _ _ _ _) ?_; intro w5 b5 k5; have R5 := hid (R4.out.stt k5 b5); clear b5 k5))
      clear RN R1 R3 R4
      generalize hBB : wr.heap.size = B at R5 ⊢
      obtain ⟨i0, i9⟩ := want_cells R5.out.t
      have e1 : (q9 == 1) = false := by simpa using HT1.out
      by_cases h58 : q0 = 58
      · have e58 : (q0 == 58) = true := by rw [h58]; rfl
        have e0 : (q9 == 0) = false := by simpa using HT0.out h58
        clear h58
        go_wp2_with fail
        go_ret
        exact ⟨rfl, R5.out.g⟩
      have e58 : (q0 == 58) = false := by simpa using h58
      by_cases h24 : q0 = 24
      · have e24 : (q0 == 24) = true := by rw [h24]; rfl
        clear h24 h58
        go_wp2_with fail
        go_ret
        exact ⟨rfl, R5.out.g⟩
      have e24 : (q0 == 24) = false := by simpa using h24
      obtain ⟨hsf1, p0, p1⟩ := HTG.out h58 h24
      have HSF1 := hid hsf1
      clear hsf1 h24 h58
      have p0' : ¬ pc1 < 0 := by omega
      have p1' : ¬ (nc : Int) ≤ pc1 := by omega
      have c0 := ctx_pc R5.out.c
      have d0 : w5.cell? ⟨w.heap.size, 0, none⟩ = some (.slice aoc nc cac) := (cell_of R5.out.p 0).trans rfl
      go_wp2_with fail
      clear i0 i9 e1 e58 e24 p0 p1 p0' p1' c0 d0
      have Q0 := hid (R5.out.gr (Ch.drew (Gr.refl _)))
      refine wp_region_held_drew (S := Rs w B #[.int .i64 q0, .int .i64 q1, .int .i64 q2, .int .i64 q3, .int .i64 q4, .int .i64 q5, .int .i64 q6, .int .i64 q7, .int .i64 q8, .int .i64 q9, .int .i64 q10]) (by kernel_rfl) (by exact (Rs.of21 Q0.out)) (fun _ => ?_)
      generalize World.drew w5 = U0 at Q0 ⊢
      refine takeS_on (i := 1) 101 (v := ?v1) rfl rfl (by kernel_rfl) (by kernel_rfl) (by kernel_rfl) (fun _ _ _ h => h) (by kernel_rfl) ?hy1 (by exact (Rs.of21 Q0.out)) ?_
      case hy1 => (intro w' hSw; go_simp; try (with_reducible rfl))
      simp only [Act.put, List.setIfInBounds_toArray, List.set_cons_zero, List.set_cons_succ]
      refine takeS_on (i := 2) 102 (v := ?v2) rfl rfl (by kernel_rfl) (by kernel_rfl) (by kernel_rfl) (fun _ _ _ h => h) (by kernel_rfl) ?hy2 (by exact (Rs.of21 Q0.out)) ?_
      case hy2 => (intro w' hSw; refine Eq.trans (exec_sub 46 (.tmp 101) rfl _ 1 rfl _ _ (wt_sub hSw.t) Tryd.underlying46 rfl ins_size5) ?_; with_reducible rfl)
      simp only [Act.put, List.setIfInBounds_toArray, List.set_cons_zero, List.set_cons_succ]
      refine takeS_on (i := 3) 103 (v := ?v3) rfl rfl (by kernel_rfl) (by kernel_rfl) (by kernel_rfl) (fun _ _ _ h => h) (by kernel_rfl) ?hy3 (by exact (Rs.of21 Q0.out)) ?_
      case hy3 => (intro w' hSw; go_simp; try (with_reducible rfl))
      simp only [Act.put, List.setIfInBounds_toArray, List.set_cons_zero, List.set_cons_succ]
      refine takeS_on (i := 4) 104 (v := ?v4) rfl rfl (by kernel_rfl) (by kernel_rfl) (by kernel_rfl) (fun _ _ _ h => h) (by kernel_rfl) ?hy4 (by exact (Rs.of21 Q0.out)) ?_
      case hy4 => (intro w' hSw; go_simp; try (with_reducible rfl))
      simp only [Act.put, List.setIfInBounds_toArray, List.set_cons_zero, List.set_cons_succ]
      refine takeS_on (i := 5) 105 (v := ?v5) rfl rfl (by kernel_rfl) (by kernel_rfl) (by kernel_rfl) (fun _ _ _ h => h) (by kernel_rfl) ?hy5 (by exact (Rs.of21 Q0.out)) ?_
      case hy5 => (intro w' hSw; go_simp; try (with_reducible rfl))
      simp only [Act.put, List.setIfInBounds_toArray, List.set_cons_zero, List.set_cons_succ]
      refine takeS_on (i := 6) 106 (v := ?v6) rfl rfl (by kernel_rfl) (by kernel_rfl) (by kernel_rfl) (fun _ _ _ h => h) (by kernel_rfl) ?hy6 (by exact (Rs.of21 Q0.out)) ?_
      case hy6 => (intro w' hSw; have jy := (HY.out.gr hSw.g).get1 HYJ.out; go_simp; try (with_reducible rfl))
      simp only [Act.put, List.setIfInBounds_toArray, List.set_cons_zero, List.set_cons_succ]
      refine takeS_on (i := 7) 107 (v := ?v7) rfl rfl (by kernel_rfl) (by kernel_rfl) (by kernel_rfl) (fun _ _ _ h => h) (by kernel_rfl) ?hy7 (by exact (Rs.of21 Q0.out)) ?_
      case hy7 => (intro w' hSw; go_simp; try (with_reducible rfl))
      simp only [Act.put, List.setIfInBounds_toArray, List.set_cons_zero, List.set_cons_succ]
      refine takeS_on (i := 8) 108 (v := ?v8) rfl rfl (by kernel_rfl) (by kernel_rfl) (by kernel_rfl) (fun _ _ _ h => h) (by kernel_rfl) ?hy8 (by exact (Rs.of21 Q0.out)) ?_
      case hy8 => (intro w' hSw; go_simp; try (with_reducible rfl))
      simp only [Act.put, List.setIfInBounds_toArray, List.set_cons_zero, List.set_cons_succ]
      refine takeS_on (i := 9) 109 (v := ?v9) rfl rfl (by kernel_rfl) (by kernel_rfl) (by kernel_rfl) (fun _ _ _ h => h) (by kernel_rfl) ?hy9 (by exact (Rs.of21 Q0.out)) ?_
      case hy9 => (intro w' hSw; go_simp; try (with_reducible rfl))
      simp only [Act.put, List.setIfInBounds_toArray, List.set_cons_zero, List.set_cons_succ]
      refine takeS_on (i := 10) 110 (v := ?v10) rfl rfl (by kernel_rfl) (by kernel_rfl) (by kernel_rfl) (fun _ _ _ h => h) (by kernel_rfl) ?hy10 (by exact (Rs.of21 Q0.out)) ?_
      case hy10 => (intro w' hSw; have jy := (HY.out.gr hSw.g).get1 HYJ.out; go_simp; try (with_reducible rfl))
      simp only [Act.put, List.setIfInBounds_toArray, List.set_cons_zero, List.set_cons_succ]
      refine wpAnyH_ready (rs := [0]) (by kernel_rfl) (by simp) (AllReadyH.cons rfl (fun K hK => ?_) AllReadyH.nil)
      rw [if_pos (by kernel_rfl)]
      refine wp_load_row 30 (.tmp 11) rfl _ rfl _ _ _ _ Q0.out.c Tryd.underlying30 rfl (ctx_size' (HSY.out _ _)) ?_
      refine hK.out _ _ (by exact (Rs.of21 Q0.out)) (fun _ => ?_)
      change wpAnyH _ _ _ _ _ _ _ (Act.put _ (some 100) _) _
      simp only [Act.put, List.setIfInBounds_toArray, List.set_cons_zero, List.set_cons_succ]
      clear hK K
      refine wpAnyH_ready (rs := [11]) (by kernel_rfl) (by simp) (AllReadyH.cons rfl (fun K hK => ?_) AllReadyH.nil)
      go_simp
      refine (HA.out _ Q0.out.g _ _ _ _ _ _ _ _ _ _ _ _ _ _ HR16.out HK16.out Q0.out.v).mono ?_
      rintro e U1 ⟨ao8, n8, cap8, rfl, o8, g8⟩
      have F8 := hid (Sm.new Q0.out o8)
      have Q1 := hid (Q0.out.gr g8)
      clear Q0 o8 g8
      refine hK.out _ _ (by exact (Rs.of21 Q1.out)) (fun _ => ?_)
      clear hK K
      refine wpAnyH_ready (rs := [12]) (by kernel_rfl) (by simp) (AllReadyH.cons rfl (fun K hK => ?_) AllReadyH.nil)
      rw [if_pos (by kernel_rfl)]
      refine op_row 30 (.tmp 11) (.tmp 111) rfl A _ rfl rfl _ _ Q1.out.c (ctx_size' (HSX.out _ _ _ _ _ _ _ _)) ((HSY.out _ _).trans (HSX.out _ _ _ _ _ _ _ _).symm) cC_one ?_
      intro U3 b9 k9
      have RC := hid (Q1.out.stc k9 b9 F8.out)
      clear Q1 b9 k9
      refine hK.out _ _ (by exact (Rs.of21 RC.out)) (fun _ => ?_)
      clear hK K
      refine wpAnyH_done (by kernel_rfl) ?_ _
      go_wp2_with fail
      go_roundg (gk - 1)
      case measure => omega
      case rel => exact ⟨j + 1, pc1, _, ks1, _, _, _, by omega, by simp, (ans_len _ _ _ _ _ _ r1).trans HR16.out, HK16.out, HSF1.out, RC.out.end_⟩
    · have jn : ¬ (j : Int) < (ny : Int) := by omega
      go_wp2_with fail
      go_ret
      exact ⟨rfl, RN.out.g⟩
end Go.Proofs.YtcdlhfodeckleaaDoor.Lt

namespace Go.Proofs.YtcdlhfodeckleaaDoor.Lt
open Go.RowKit Wd

theorem safe_any9 (P : Nat → Prop) (w : World) (ia ib ic : Value) (cs : List Int) (fs : List (Int × Int)) (tb : List Tb) (f : Int) (yo : Option Addr) (ny yc : Nat) (ys : List Int) (h : Pin P w ia ib ic cs fs tb) (hc : cs.length ≤ 35184372088832) (_hf : fs.length ≤ 8796093022208) (_ht : tb.length ≤ 4398046511104) (_hq : ∀ t ∈ tb, t.cs.length ≤ 4398046511104) (hu : U32s cs) (hy : Ls eI P w (.slice yo ny yc) ys) (hny : ny ≤ 17592186044416) (hg : Glb w) :
    Calls Tryd.prog 8 #[.agg #[ia, ib, ic], .int .i64 f, .slice yo ny yc] w fun e w' => e = .returned (.bool true) ∧ Gr w w' := by
  have hC := fun (W : World) (p : Gr w W) => rcheck_any P W ia ib ic cs fs tb (h.gr p) hu
  obtain ⟨aoc, cac, rfl⟩ := h.c.form
  obtain ⟨aof, caf, rfl⟩ := h.f.form
  obtain ⟨aot, cat, rfl⟩ := h.t.form
  by_cases hE : (chk cs fs tb).2 = 0
  · rw [hE] at hC
    have hm := may_of hE
    by_cases hin : 0 ≤ f ∧ f < (fs.length : Int)
    · obtain ⟨k, rfl⟩ : ∃ k : Nat, f = (k : Int) := ⟨f.toNat, by omega⟩
      have hk : k < fs.length := by omega
      have hx := List.getElem?_eq_getElem hk
      have hi := hm.p.i _ (List.mem_of_getElem? hx)
      refine safe_good P w hg aoc aof aot _ _ _ cac caf cat _ yo ny yc ys hy hny _ fs fs[k].1 hC (fun W p => pbegin_yes P W aoc aof aot _ _ _ cac caf cat fs (h.f.gr p) k fs[k].1 fs[k].2 hx [1, 2, 3, 0, 0, 0, 0, 0, 0, 0, 0, 0, 0, 0, 0, 0] rfl) ⟨⟨k, fs[k], hx, by omega, by omega⟩, fun x hx => by cases hx⟩ ?_ ?_
      · intro W p pc r ks ao n cap ck sl gn N hr hk2 hs fr
        obtain ⟨b, l⟩ := fr.lst
        refine (pstep_any (fun q => P q ∨ b ≤ q) W aoc aof aot cs.length fs.length tb.length cac caf cat cs ((h.c.gr p).mono (fun _ _ q => .inl q)) hu (hg.gr p) hc fs ((h.f.gr p).mono (fun _ _ q => .inl q)) pc r hr ao n cap ks (l.mono (fun _ _ q => .inr q)) (by have := fr.len; omega) ck sl gn).mono ?_
        intro e w' hst
        obtain ⟨q0, q1, q2, q3, q4, q5, q6, q7, q8, q9, q10, hw, t1, t0, tg⟩ := safe_step hm r hs ck sl gn
        unfold StO at hst
        rw [hw] at hst
        obtain ⟨ao3, n3, cap3, rfl, o3, g3⟩ := hst
        exact ⟨_, _, _, ao3, n3, cap3, q0, q1, q2, q3, q4, q5, q6, q7, q8, q9, q10, rfl, (stp_len cs fs pc r ks ck sl gn).trans hr, stp_ks cs fs pc r ks ck sl gn hk2, t1, t0, tg, o3, g3⟩
      · intro W _p pc r ks ao n cap N o a b c m v k hr hk2 fr
        exact pans_any _ W pc r hr ao n cap ks fr.lst.choose_spec (by have := fr.len; omega) o a b c m v k
    · exact safe_no w hg aoc aof aot _ _ _ cac caf cat f yo ny yc _ hin hC (fun W _p => pbegin_no W aoc aof aot _ _ _ cac caf cat f hin [1, 2, 3, 0, 0, 0, 0, 0, 0, 0, 0, 0, 0, 0, 0, 0] rfl)
  · refine safe_bad w hg aoc aof aot _ _ _ cac caf cat f yo ny yc _ _ hE hC (fun W p => ?_)
    have h1 := pstep_any P W aoc aof aot cs.length fs.length tb.length cac caf cat cs (h.c.gr p) hu (hg.gr p) hc fs (h.f.gr p) (-1) [0, 0, 0, 0, 0, 0, 0, 0, 0, 0, 0, 0, 0, 0, 0, 0] rfl none 0 0 [] (Ls.nil _ _ _) (by omega) 0 0 0
    have hn : nB cs (-1) = false := by unfold nB; rw [if_neg (by omega)]
    unfold StO stp at h1
    rw [if_pos hn] at h1
    exact h1
end Go.Proofs.YtcdlhfodeckleaaDoor.Lt
