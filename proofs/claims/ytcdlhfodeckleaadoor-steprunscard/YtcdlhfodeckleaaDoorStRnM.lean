/-
  The variables of StepRuns, and of one round of it. No conditions.
  Towards StepRuns: what its rounds look at. Condition: the tables lie where they lie.
-/
import Derived.Test.YtcdlhfodeckleaaDoorStpFacts
import Derived.Test.YtcdlhfodeckleaaDoorStAnswers
namespace Go.Proofs.YtcdlhfodeckleaaDoor.Lt
open Go.RowKit Wd

theorem keepB {W W' : World} {x z : Nat} {o : Obj} (k : Ch (Only z) W W') (h : W.heap[x]? = some o) (n : x ≠ z) : W'.heap[x]? = some o := (k.block _ (lt_of_block h) (fun q => n q)).trans h
/-- a list of calls that lies in none of N -/
def Fr (N : Nat → Prop) (W : World) (v : Value) (ks : List Int) : Prop := (∃ b, Ow eI 1 3 b W v ks) ∧ ∀ q, Blk v q → ¬ N q
theorem Fr.gr {N : Nat → Prop} {W W' : World} {v : Value} {ks : List Int} (h : Fr N W v ks) (g : Gr W W') : Fr N W' v ks := ⟨⟨_, h.1.choose_spec.gr g⟩, h.2⟩
theorem Fr.st {N : Nat → Prop} {W W' : World} {v : Value} {ks : List Int} {A : Nat} (h : Fr N W v ks) (k : Ch (Only A) W W') (hA : N A) : Fr N W' v ks :=
  ⟨⟨_, h.1.choose_spec.ch k (fun q hq e => h.2 q hq (by have e1 : q = A := e; rw [e1]; exact hA))⟩, h.2⟩
theorem Fr.new {N : Nat → Prop} {W : World} {v : Value} {ks : List Int} {b : Nat} (o : Ow eI 1 3 b W v ks) (hN : ∀ q, N q → q < b) : Fr N W v ks :=
  ⟨⟨b, o⟩, fun q hq hn => by have l1 := (o.blk hq).1; have l2 := hN q hn; omega⟩
theorem Fr.old {N M : Nat → Prop} {W : World} {v : Value} {ks : List Int} (h : Fr N W v ks) (hM : ∀ q, M q → N q ∨ W.heap.size ≤ q) : Fr M W v ks :=
  ⟨h.1, fun q hq hm => by
    rcases hM q hm with a | a
    · exact h.2 q hq a
    · have := (h.1.choose_spec.blk hq).2; omega⟩
theorem Fr.lst {N : Nat → Prop} {W : World} {v : Value} {ks : List Int} (h : Fr N W v ks) : ∃ b : Nat, Ls eI (b ≤ ·) W v ks := ⟨_, h.1.choose_spec.lst⟩
theorem Fr.len {N : Nat → Prop} {W : World} {ao : Option Addr} {n cap : Nat} {ks : List Int} (h : Fr N W (.slice ao n cap) ks) : n = ks.length := h.1.choose_spec.len.1
def Nw (w : World) (A eb tb sb : Nat) (q : Nat) : Prop := q ≤ w.heap.size + 1 ∨ q = A ∨ q = eb ∨ q = tb ∨ q = sb
def Nn (w : World) (A : Nat) (q : Nat) : Prop := q ≤ w.heap.size + 1 ∨ q = A
/-- between two rounds: the program, the two contexts -/
structure Rn (w : World) (X : Array Value) (A : Nat) (pc : Int) (r ks : List Int) (v u : Value) (W : World) : Prop where
  g : Gr w W
  p : W.heap[w.heap.size]? = some (.cells X 26 (0, 0))
  c : W.heap[w.heap.size + 1]? = some (.cells (cC pc r v) 30 (0, 0))
  d : W.heap[A]? = some (.cells (cC pc r u) 30 (0, 0))
  lA : w.heap.size + 1 < A
  v : Fr (Nn w A) W v ks
  u : Fr (Nn w A) W u ks
theorem Rn.gr {w : World} {X : Array Value} {A : Nat} {pc : Int} {r ks : List Int} {v u : Value} {W W' : World} (h : Rn w X A pc r ks v u W) (g : Gr W W') : Rn w X A pc r ks v u W' :=
  ⟨Gr.trans h.g g, gr_blk h.p g, gr_blk h.c g, gr_blk h.d g, h.lA, h.v.gr g, h.u.gr g⟩
/-- in a round: the surroundings and the two wants besides -/
structure Rw (w : World) (X : Array Value) (A eb tb sb : Nat) (pc : Int) (r ks : List Int) (v : Value) (pc2 : Int) (r2 ks2 : List Int) (u : Value) (E T S : Array Value) (W : World) : Prop where
  g : Gr w W
  p : W.heap[w.heap.size]? = some (.cells X 26 (0, 0))
  c : W.heap[w.heap.size + 1]? = some (.cells (cC pc r v) 30 (0, 0))
  d : W.heap[A]? = some (.cells (cC pc2 r2 u) 30 (0, 0))
  e : W.heap[eb]? = some (.cells E 44 (0, 0))
  t : W.heap[tb]? = some (.cells T 49 (0, 0))
  s : W.heap[sb]? = some (.cells S 49 (0, 0))
  lA : w.heap.size + 1 < A
  l1 : A < eb
  l2 : eb < tb
  l3 : tb < sb
  v : Fr (Nw w A eb tb sb) W v ks
  u : Fr (Nw w A eb tb sb) W u ks2
theorem Rw.gr {w : World} {X : Array Value} {A eb tb sb : Nat} {pc pc2 : Int} {r r2 ks ks2 : List Int} {v u : Value} {E T S : Array Value} {W W' : World} (h : Rw w X A eb tb sb pc r ks v pc2 r2 ks2 u E T S W) (g : Gr W W') : Rw w X A eb tb sb pc r ks v pc2 r2 ks2 u E T S W' :=
  ⟨Gr.trans h.g g, gr_blk h.p g, gr_blk h.c g, gr_blk h.d g, gr_blk h.e g, gr_blk h.t g, gr_blk h.s g, h.lA, h.l1, h.l2, h.l3, h.v.gr g, h.u.gr g⟩
theorem Rw.stc {w : World} {X : Array Value} {A eb tb sb : Nat} {pc pc2 : Int} {r r2 ks ks2 : List Int} {v u : Value} {E T S : Array Value} {W W' : World} {pc1 : Int} {r1 ks1 : List Int} {v1 : Value} (h : Rw w X A eb tb sb pc r ks v pc2 r2 ks2 u E T S W) (k : Ch (Only (w.heap.size + 1)) W W') (b : W'.heap[w.heap.size + 1]? = some (.cells (cC pc1 r1 v1) 30 (0, 0))) (f : Fr (Nw w A eb tb sb) W v1 ks1) : Rw w X A eb tb sb pc1 r1 ks1 v1 pc2 r2 ks2 u E T S W' :=
  ⟨Ch.trans h.g k (fun q e => .inr (by have e1 : q = (w.heap.size + 1) := e; have := h.lA; have := h.l1; have := h.l2; have := h.l3; omega)), keepB k h.p (by have := h.lA; have := h.l1; have := h.l2; have := h.l3; omega), b, keepB k h.d (by have := h.lA; have := h.l1; have := h.l2; have := h.l3; omega), keepB k h.e (by have := h.lA; have := h.l1; have := h.l2; have := h.l3; omega), keepB k h.t (by have := h.lA; have := h.l1; have := h.l2; have := h.l3; omega), keepB k h.s (by have := h.lA; have := h.l1; have := h.l2; have := h.l3; omega), h.lA, h.l1, h.l2, h.l3, f.st k (.inl (by omega)), h.u.st k (.inl (by omega))⟩
theorem Rw.std {w : World} {X : Array Value} {A eb tb sb : Nat} {pc pc2 : Int} {r r2 ks ks2 : List Int} {v u : Value} {E T S : Array Value} {W W' : World} {pc1 : Int} {r1 ks1 : List Int} {v1 : Value} (h : Rw w X A eb tb sb pc r ks v pc2 r2 ks2 u E T S W) (k : Ch (Only A) W W') (b : W'.heap[A]? = some (.cells (cC pc1 r1 v1) 30 (0, 0))) (f : Fr (Nw w A eb tb sb) W v1 ks1) : Rw w X A eb tb sb pc r ks v pc1 r1 ks1 v1 E T S W' :=
  ⟨Ch.trans h.g k (fun q e => .inr (by have e1 : q = A := e; have := h.lA; have := h.l1; have := h.l2; have := h.l3; omega)), keepB k h.p (by have := h.lA; have := h.l1; have := h.l2; have := h.l3; omega), keepB k h.c (by have := h.lA; have := h.l1; have := h.l2; have := h.l3; omega), b, keepB k h.e (by have := h.lA; have := h.l1; have := h.l2; have := h.l3; omega), keepB k h.t (by have := h.lA; have := h.l1; have := h.l2; have := h.l3; omega), keepB k h.s (by have := h.lA; have := h.l1; have := h.l2; have := h.l3; omega), h.lA, h.l1, h.l2, h.l3, h.v.st k (.inr (.inl rfl)), f.st k (.inr (.inl rfl))⟩
theorem Rw.stt {w : World} {X : Array Value} {A eb tb sb : Nat} {pc pc2 : Int} {r r2 ks ks2 : List Int} {v u : Value} {E T S : Array Value} {W W' : World} {T1 : Array Value} (h : Rw w X A eb tb sb pc r ks v pc2 r2 ks2 u E T S W) (k : Ch (Only tb) W W') (b : W'.heap[tb]? = some (.cells T1 49 (0, 0))) : Rw w X A eb tb sb pc r ks v pc2 r2 ks2 u E T1 S W' :=
  ⟨Ch.trans h.g k (fun q e => .inr (by have e1 : q = tb := e; have := h.lA; have := h.l1; have := h.l2; have := h.l3; omega)), keepB k h.p (by have := h.lA; have := h.l1; have := h.l2; have := h.l3; omega), keepB k h.c (by have := h.lA; have := h.l1; have := h.l2; have := h.l3; omega), keepB k h.d (by have := h.lA; have := h.l1; have := h.l2; have := h.l3; omega), keepB k h.e (by have := h.lA; have := h.l1; have := h.l2; have := h.l3; omega), b, keepB k h.s (by have := h.lA; have := h.l1; have := h.l2; have := h.l3; omega), h.lA, h.l1, h.l2, h.l3, h.v.st k (.inr (.inr (.inr (.inl rfl)))), h.u.st k (.inr (.inr (.inr (.inl rfl))))⟩
theorem Rw.sts {w : World} {X : Array Value} {A eb tb sb : Nat} {pc pc2 : Int} {r r2 ks ks2 : List Int} {v u : Value} {E T S : Array Value} {W W' : World} {T1 : Array Value} (h : Rw w X A eb tb sb pc r ks v pc2 r2 ks2 u E T S W) (k : Ch (Only sb) W W') (b : W'.heap[sb]? = some (.cells T1 49 (0, 0))) : Rw w X A eb tb sb pc r ks v pc2 r2 ks2 u E T T1 W' :=
  ⟨Ch.trans h.g k (fun q e => .inr (by have e1 : q = sb := e; have := h.lA; have := h.l1; have := h.l2; have := h.l3; omega)), keepB k h.p (by have := h.lA; have := h.l1; have := h.l2; have := h.l3; omega), keepB k h.c (by have := h.lA; have := h.l1; have := h.l2; have := h.l3; omega), keepB k h.d (by have := h.lA; have := h.l1; have := h.l2; have := h.l3; omega), keepB k h.e (by have := h.lA; have := h.l1; have := h.l2; have := h.l3; omega), keepB k h.t (by have := h.lA; have := h.l1; have := h.l2; have := h.l3; omega), b, h.lA, h.l1, h.l2, h.l3, h.v.st k (.inr (.inr (.inr (.inr rfl)))), h.u.st k (.inr (.inr (.inr (.inr rfl))))⟩

theorem Rw.new {w : World} {X : Array Value} {A eb tb sb : Nat} {pc pc2 : Int} {r r2 ks ks2 : List Int} {v u : Value} {E T S : Array Value} {W : World} {ao : Option Addr} {n cap : Nat} {W0 : World} (h : Rw w X A eb tb sb pc r ks v pc2 r2 ks2 u E T S W0) {ks1 : List Int} (o : Ow eI 1 3 W0.heap.size W (.slice ao n cap) ks1) : Fr (Nw w A eb tb sb) W (.slice ao n cap) ks1 :=
  Fr.new o (fun q hq => by
    have l1 := lt_of_block h.c; have l2 := lt_of_block h.d; have l3 := lt_of_block h.e; have l4 := lt_of_block h.t; have l5 := lt_of_block h.s
    rcases hq with a | a | a | a | a <;> omega)
theorem Rw.end_ {w : World} {X : Array Value} {A eb tb sb : Nat} {pc : Int} {r ks : List Int} {v u : Value} {E T S : Array Value} {W : World} (h : Rw w X A eb tb sb pc r ks v pc r ks u E T S W) : Rn w X A pc r ks v u W :=
  ⟨h.g, h.p, h.c, h.d, h.lA, h.v.old (fun _ hq => .inl (hq.imp id .inl)), h.u.old (fun _ hq => .inl (hq.imp id .inl))⟩
/-- a round begins: three new variables -/
theorem Rn.begin {w : World} {X : Array Value} {A eb tb sb : Nat} {pc : Int} {r ks : List Int} {v u : Value} {E T S : Array Value} {W W' : World} (h : Rn w X A pc r ks v u W) (g : Gr W W') (he : W'.heap[eb]? = some (.cells E 44 (0, 0))) (ht : W'.heap[tb]? = some (.cells T 49 (0, 0))) (hs : W'.heap[sb]? = some (.cells S 49 (0, 0))) (k0 : W.heap.size ≤ eb) (k1 : eb < tb) (k2 : tb < sb) : Rw w X A eb tb sb pc r ks v pc r ks u E T S W' :=
  ⟨Gr.trans h.g g, gr_blk h.p g, gr_blk h.c g, gr_blk h.d g, he, ht, hs, h.lA, by have := lt_of_block h.d; omega, k1, k2,
    (h.v.old (M := Nw w A eb tb sb) (fun q hq => hq.elim (fun a => .inl (.inl a)) (fun a => a.elim (fun a => .inl (.inr a)) (fun a => .inr (by rcases a with a | a | a <;> omega))))).gr g,
    (h.u.old (M := Nw w A eb tb sb) (fun q hq => hq.elim (fun a => .inl (.inl a)) (fun a => a.elim (fun a => .inl (.inr a)) (fun a => .inr (by rcases a with a | a | a <;> omega))))).gr g⟩
end Go.Proofs.YtcdlhfodeckleaaDoor.Lt

namespace Go.Proofs.YtcdlhfodeckleaaDoor.Lt
open Go.RowKit Wd

theorem op_row {o : Oper} {a : Act} {w : World} {K : Act → World → Prop} {Q : Exit → Act → World → Prop} (ty : TypeId) (x y : Operand) (ho : o.op = .store ty x y)
    (g : Nat) (cells : Array Value) (hx : a.eval x = .pointer (some ⟨g, 0, none⟩)) (hy : a.eval y = .agg cells)
    (t : TypeId) (old : Array Value) (hg : w.heap[g]? = some (.cells old t (0, 0))) (hi : (Tryd.prog.info? ty).map (·.size) = some cells.size)
    (hold : old.size = cells.size) (h1 : cells.all (·.oneCell') = true)
    (h : ∀ w', w'.heap[g]? = some (.cells cells t (0, 0)) → Ch (Only g) w w' → K (a.put o.dst undef) w') : o.wp Tryd.prog a w K Q :=
  wp_store_row ty x y ho g cells hx hy t old hg hi hold h1 (h _ (setRow_blk hg) (setRow_ch w g cells))
theorem one3 (a b c : Int) : (#[.int .u64 a, .int .i64 b, .int .i64 c] : Array Value).all (·.oneCell') = true := by simp [Value.oneCell']
theorem Sc.new' (w : World) (X Y : Array Value) : Sc w X Y ((w.alloc (.cells X 26)).alloc (.cells Y 30)) := by
  refine ⟨Ch.alloc (Ch.alloc (Gr.refl w) _) _, al_blk (MapKept.heap_alloc w _).1 _, ?_⟩
  simpa using (MapKept.heap_alloc (w.alloc (.cells X 26)) (.cells Y 30)).1
theorem gr_alst {W x : World} {o : Obj} (k : Ch (Only W.heap.size) (W.alloc o) x) : Gr W x := Ch.trans (Ch.alloc (Gr.refl W) o) k (fun q e => .inr (by have e1 : q = W.heap.size := e; omega))
theorem env_ck {x : World} {n : Nat} {c : Int} (b : x.heap[n]? = some (.cells #[.int .u64 c, .int .i64 3, .int .i64 2] 44 (0, 0))) : ∃ ck : Int, x.heap[n]? = some (.cells #[.int .u64 ck, .int .i64 3, .int .i64 2] 44 (0, 0)) := ⟨_, b⟩
structure Sqr (w : World) (X : Array Value) (W : World) : Prop where
  g : Gr w W
  p : W.heap[w.heap.size]? = some (.cells X 26 (0, 0))
theorem Sqr.gr {w : World} {X : Array Value} {W W' : World} (h : Sqr w X W) (g : Gr W W') : Sqr w X W' := ⟨Gr.trans h.g g, gr_blk h.p g⟩
structure Rs (w : World) (tb : Nat) (T : Array Value) (W : World) : Prop where
  g : Gr w W
  t : W.heap[tb]? = some (.cells T 49 (0, 0))
theorem Rs.of16 {w : World} {X : Array Value} {A eb tb sb : Nat} {pc pc2 : Int} {r r2 ks ks2 : List Int} {v u : Value} {E T S : Array Value} {W : World} (h : Rw w X A eb tb sb pc r ks v pc2 r2 ks2 u E T S W) : Rs w tb T W := ⟨h.g, h.t⟩
theorem Rs.of17 {w : World} {X : Array Value} {A eb tb sb : Nat} {pc pc2 : Int} {r r2 ks ks2 : List Int} {v u : Value} {E T S : Array Value} {W : World} (h : Rw w X A eb tb sb pc r ks v pc2 r2 ks2 u E T S W) : Rs w sb S W := ⟨h.g, h.s⟩
theorem y6_cells {w : World} {X : Nat} {a0 a1 a2 a3 a4 a5 a6 a7 a8 a9 a10 : Value} {T : TypeId} (h : w.heap[X]? = some (.cells #[a0, a1, a2, a3, a4, a5, a6, a7, a8, a9, a10] T (0, 0))) : w.cell? ⟨X, 0, none⟩ = some a0 ∧ w.cell? ⟨X, 1, none⟩ = some a1 ∧ w.cell? ⟨X, 2, none⟩ = some a2 ∧ w.cell? ⟨X, 3, none⟩ = some a3 ∧ w.cell? ⟨X, 4, none⟩ = some a4 ∧ w.cell? ⟨X, 5, none⟩ = some a5 ∧ X < w.heap.size :=
  ⟨(cell_of h 0).trans rfl, (cell_of h 1).trans rfl, (cell_of h 2).trans rfl, (cell_of h 3).trans rfl, (cell_of h 4).trans rfl, (cell_of h 5).trans rfl, lt_of_block h⟩
theorem Ls.get1 {P : Nat → Prop} {w : World} {g o n cap : Nat} {ys : List Int} (h : Ls eI P w (.slice (some ⟨g, o, none⟩) n cap) ys) {j : Nat} {y : Int} (hj : ys[j]? = some y) : w.cell? ⟨g, o + j, none⟩ = some (.int .i64 y) := by
  obtain ⟨g', o', cap1, e1, -, -, -, d2⟩ := h.get eI_len hj
  injection e1 with e1 _ _
  injection e1 with e1
  injection e1 with e1 e2 _
  subst e1 e2
  simpa using d2 0 _ rfl
/-- a step, on both sides, from one place -/
def RdS (w : World) (X : Array Value) : Prop := ∀ (pc : Int) (r ks : List Int) (ck sl gn : Int), r.length = 16 → ks.length ≤ 17592186044416 → ∃ (pc1 : Int) (r1 ks1 : List Int) (q0 q1 q2 q3 q4 q5 q6 q7 q8 q9 q10 : Int), r1.length = 16 ∧ ks1.length ≤ 17592186044416 ∧
  (∀ W, Gr w W → ∀ ao n cap N, Fr N W (.slice ao n cap) ks → Calls Tryd.prog 16 #[.agg X, .agg (cC pc r (.slice ao n cap)), .agg #[.int .u64 ck, .int .i64 sl, .int .i64 gn]] W (StR W pc1 r1 ks1 #[.int .i64 q0, .int .i64 q1, .int .i64 q2, .int .i64 q3, .int .i64 q4, .int .i64 q5, .int .i64 q6, .int .i64 q7, .int .i64 q8, .int .i64 q9, .int .i64 q10])) ∧
  (∀ W, Gr w W → ∀ ao n cap N, Fr N W (.slice ao n cap) ks → Calls Tryd.prog 17 #[.agg X, .agg (cC pc r (.slice ao n cap)), .agg #[.int .u64 ck, .int .i64 sl, .int .i64 gn]] W (StR W pc1 r1 ks1 #[.int .i64 q0, .int .i64 q1, .int .i64 q2, .int .i64 q3, .int .i64 q4, .int .i64 q5, .int .i64 q6, .int .i64 q7, .int .i64 q8, .int .i64 q9, .int .i64 q10]))
theorem same_fr (W : World) (pc : Int) (r ks : List Int) (ao : Option Addr) (n ca : Nat) (bo : Option Addr) (k cb : Nat) (N M : Nat → Prop) (hr : r.length = 16) (hk : ks.length ≤ 17592186044416) (f1 : Fr N W (.slice ao n ca) ks) (f2 : Fr M W (.slice bo k cb) ks) :
    Calls Tryd.prog 12 #[.agg (cC pc r (.slice ao n ca)), .agg (cC pc r (.slice bo k cb))] W fun e w' => e = .returned (.bool true) ∧ Gr W w' := by
  obtain rfl := f1.len
  obtain rfl := f2.len
  exact same9_any _ _ W pc r hr ao bo ks.length ca cb ks f1.lst.choose_spec f2.lst.choose_spec hk
end Go.Proofs.YtcdlhfodeckleaaDoor.Lt
