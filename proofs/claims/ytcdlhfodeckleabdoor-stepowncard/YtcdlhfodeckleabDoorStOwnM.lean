/-
  The variables of StepOwn. No conditions.
  StepOwn, walked. Condition: the tables lie where they lie.
  StepOwn, walked, for a program that is handed in. Condition: the tables lie where they lie.
-/
import Derived.Test.YtcdlhfodeckleabDoorStpFacts
import Derived.Test.YtcdlhfodeckleabDoorStLives
import Derived.Test.YtcdlhfodeckleabDoorStSame
import Derived.Test.YtcdlhfodeckleabDoorStReg
import Derived.Test.YtcdlhfodeckleabDoorStGrd
import Derived.Test.YtcdlhfodeckleabDoorStAns9
import Derived.Test.YtcdlhfodeckleabDoorSwPR
namespace Go.Proofs.YtcdlhfodeckleabDoor.Lt
open Go.RowKit Wd

theorem keepO {W W' : World} {x z : Nat} {o : Obj} (k : Ch (Only z) W W') (h : W.heap[x]? = some o) (n : x ≠ z) : W'.heap[x]? = some o := (k.block _ (lt_of_block h) (fun q => n q)).trans h
theorem Ls.many {α : Type} {enc : α → List Value} (w : World) (xs : List α) (T : TypeId) (c : Array Value) (hc : c.toList = xs.flatMap enc) (n : Nat) (hn : n = xs.length) : Ls enc (· = w.heap.size) (w.alloc (.cells c T)) (.slice (some ⟨w.heap.size, 0, none⟩) n n) xs := by
  subst hn
  refine ⟨_, xs.length, rfl, ⟨Nat.le_refl _, fun h => by cases h⟩, .inr ⟨w.heap.size, 0, rfl, rfl, by simp, ?_⟩⟩
  intro i y hy
  rw [← hc, Array.getElem?_toList] at hy
  rw [cell_of (MapKept.heap_alloc w _).1, Nat.zero_add]
  exact hy
theorem setv_block {w : World} {g : Nat} {t : TypeId} {pc : Int} {r : List Int} (hr : r.length = 16) {v : Value} (h : w.heap[g]? = some (.cells (cC pc r v) t (0, 0))) (u : Value) : (w.setCell ⟨g, 17, none⟩ u).heap[g]? = some (.cells (cC pc r u) t (0, 0)) := by
  have := setCell_block h 17 u
  rw [cC_setv hr] at this
  exact this
theorem cell17 {w : World} {g : Nat} {t : TypeId} {pc : Int} {r : List Int} (hr : r.length = 16) {v : Value} (h : w.heap[g]? = some (.cells (cC pc r v) t (0, 0))) : w.cell? ⟨g, 17, none⟩ = some v := (cell_of h 17).trans (cC_v hr pc v)
/-- the context of one's own, its list under way -/
structure Oa (w : World) (X Y E : Array Value) (IN : Nat) (pc : Int) (r : List Int) (v : Value) (zs : List Int) (W : World) : Prop where
  s : Sd w X Y E W
  i : W.heap[IN]? = some (.cells (cC pc r v) 30 (0, 0))
  o : Ow eI 1 3 (w.heap.size + 3) W v zs
  n : ¬ Blk v IN
  l : w.heap.size + 2 < IN
theorem Sd.ch {w : World} {X Y E : Array Value} {W W' : World} {S : Nat → Prop} (h : Sd w X Y E W) (k : Ch S W W') (hS : ∀ q, S q → w.heap.size + 2 < q) : Sd w X Y E W' :=
  ⟨Ch.trans h.g k (fun q e => .inr (by have := hS q e; omega)), (k.block _ (lt_of_block h.p) (fun q => by have := hS _ q; omega)).trans h.p, (k.block _ (lt_of_block h.c) (fun q => by have := hS _ q; omega)).trans h.c, (k.block _ (lt_of_block h.e) (fun q => by have := hS _ q; omega)).trans h.e⟩
section
variable {w : World} {X Y E : Array Value} {IN : Nat} {pc : Int} {r : List Int} {v v' : Value} {zs zs' : List Int} {W w5 : World}
theorem Oa.next (hr : r.length = 16) {o : Obj} (h : Oa w X Y E IN pc r v zs W) (k : Ch (Blk v) (W.alloc o) w5) (o5 : Ow eI 1 3 (w.heap.size + 3) w5 v' zs') (bl : ∀ q, Blk v' q → Blk v q ∨ (W.alloc o).heap.size ≤ q) :
    w5.cell? ⟨IN, 17, none⟩ = some v ∧ w5.frozen? ⟨IN, 17, none⟩ = false ∧ IN < w5.heap.size ∧ Oa w X Y E IN pc r v' zs' (w5.setCell ⟨IN, 17, none⟩ v') := by
  have b5 : w5.heap[IN]? = some (.cells (cC pc r v) 30 (0, 0)) := (k.block _ (lt_of_block (al_blk h.i _)) h.n).trans (al_blk h.i _)
  have nn : ¬ Blk v' IN := fun q => (bl _ q).elim h.n (fun z => by have := lt_of_block h.i; simp at z; omega)
  refine ⟨cell17 hr b5, frozen_of b5 17, lt_of_block b5, ?_, setv_block hr b5 v', o5.ch ((Ch.refl (Only IN) w5).own 17 v') (fun q hq e => by have e1 : q = IN := e; rw [e1] at hq; exact nn hq), nn, h.l⟩
  exact ((h.s.gr (Ch.alloc (Gr.refl W) _)).ch k (fun q hq => by have := (h.o.blk hq).1; omega)).ch ((Ch.refl (Only IN) w5).own 17 v') (fun q e => by have e1 : q = IN := e; have := h.l; omega)
/-- it is cut: its list is the calls, with eight numbers behind -/
structure On (w : World) (X Y E : Array Value) (IN : Nat) (pc : Int) (r ks : List Int) (a : Option Addr) (n c : Nat) (W : World) : Prop where
  s : Sd w X Y E W
  i : W.heap[IN]? = some (.cells (cC pc r (.slice a n c)) 30 (0, 0))
  o : Ow eI 1 3 (w.heap.size + 3) W (.slice a (n + 8) c) (ks ++ List.replicate 8 7)
theorem On.gr {ks : List Int} {a : Option Addr} {n c : Nat} {W' : World} (h : On w X Y E IN pc r ks a n c W) (g : Gr W W') : On w X Y E IN pc r ks a n c W' := ⟨h.s.gr g, gr_blk h.i g, h.o.gr g⟩
theorem Oa.cut (hr : r.length = 16) {ks : List Int} {a : Option Addr} {n c : Nat} (h : Oa w X Y E IN pc r (.slice a (n + 8) c) (ks ++ List.replicate 8 7) W) :
    W.cell? ⟨IN, 17, none⟩ = some (.slice a (n + 8) c) ∧ W.frozen? ⟨IN, 17, none⟩ = false ∧ IN < W.heap.size ∧ On w X Y E IN pc r ks a n c (W.setCell ⟨IN, 17, none⟩ (.slice a n c)) :=
  ⟨cell17 hr h.i, frozen_of h.i 17, lt_of_block h.i, h.s.ch ((Ch.refl (Only IN) W).own 17 _) (fun q e => by have e1 : q = IN := e; have := h.l; omega), setv_block hr h.i _, h.o.ch ((Ch.refl (Only IN) W).own 17 _) (fun q hq e => by have e1 : q = IN := e; rw [e1] at hq; exact h.n hq)⟩
theorem On.ls {ks : List Int} {a : Option Addr} {n c : Nat} (h : On w X Y E IN pc r ks a n c W) (hn : n = ks.length) : Ls eI (w.heap.size + 3 ≤ ·) W (.slice a n c) ks := by
  have := (h.o.take eI_len (n := n) (by omega)).lst
  rw [hn, List.take_left] at this
  rw [hn]
  exact this
theorem On.lo {ks : List Int} {a : Option Addr} {n c : Nat} (h : On w X Y E IN pc r ks a n c W) : n + 8 ≤ c := h.o.len.2
end
/-- and what the document's step told -/
structure Op9 (w : World) (X Y E : Array Value) (IN WN : Nat) (pc : Int) (r ks : List Int) (a : Option Addr) (n c : Nat) (pc1 : Int) (rr ks1 : List Int) (vo : Value) (W : World) : Prop where
  n : On w X Y E IN pc r ks a n c W
  b : W.heap[WN]? = some (.cells (cC pc1 rr vo) 30 (0, 0))
  o : ∃ base, Ow eI 1 3 base W vo ks1
section
variable {w : World} {X Y E : Array Value} {IN WN : Nat} {pc pc1 : Int} {r rr ra ks ks1 ds : List Int} {a : Option Addr} {n c : Nat} {vo vd va vb : Value} {W W' w0 : World} {D A B : Nat}
theorem Op9.gr (h : Op9 w X Y E IN WN pc r ks a n c pc1 rr ks1 vo W) (g : Gr W W') : Op9 w X Y E IN WN pc r ks a n c pc1 rr ks1 vo W' := ⟨h.n.gr g, gr_blk h.b g, ⟨_, h.o.choose_spec.gr g⟩⟩
/-- within a round: the step's context, the answered one and its twin, and their lists; w0 is the world ahead of the round -/
structure Oq (w0 : World) (D A B : Nat) (pc1 : Int) (rr ra ks1 : List Int) (vd va vb : Value) (ds : List Int) (W : World) : Prop where
  g : Gr w0 W
  d : W.heap[D]? = some (.cells (cC pc1 rr vd) 30 (0, 0))
  a : W.heap[A]? = some (.cells (cC pc1 ra va) 30 (0, 0))
  b : W.heap[B]? = some (.cells (cC pc1 ra vb) 30 (0, 0))
  od : Ow eI 1 3 w0.heap.size W vd ds
  oa : ∃ base, Ow eI 1 3 base W va ks1
  ob : ∃ base, Ow eI 1 3 base W vb ks1
  kd : ∀ q, Blk vd q → q ≠ D ∧ q ≠ A ∧ q ≠ B ∧ ¬ Blk va q ∧ ¬ Blk vb q
  zd : w0.heap.size ≤ D
  nA : D ≠ A
  nB : D ≠ B
  na : ¬ Blk va D
  nb : ¬ Blk vb D
theorem Oq.put (h : Oq w0 D A B pc1 rr ra ks1 vd va vb ds W) {j : Nat} {x : Int} (hj : ds[j]? = some x) (y : Int) : ∃ g cap, vd = .slice (some ⟨g, 0, none⟩) ds.length cap ∧ W.cell? ⟨g, j, none⟩ = some (.int .i64 x) ∧ W.frozen? ⟨g, j, none⟩ = false ∧ g < W.heap.size ∧ Oq w0 D A B pc1 rr ra ks1 vd va vb (ds.set j y) (W.setCell ⟨g, j, none⟩ (.int .i64 y)) := by
  obtain ⟨g, cap, e, hb, hg, hl, hc, hf, hs⟩ := h.od.get eI_len hj
  have c0 := hc 0 _ rfl
  have s0 := hs 0 (.int .i64 y) y (by omega) rfl
  rw [Nat.mul_one, Nat.add_zero] at c0 s0
  have bg : Blk vd g := by rw [e]; rfl
  obtain ⟨k1, k2, k3, k4, k5⟩ := h.kd g bg
  have k : Ch (Only g) W (W.setCell ⟨g, j, none⟩ (.int .i64 y)) := (Ch.refl _ _).own _ _
  refine ⟨g, cap, e, c0, hf j, hg, Ch.trans h.g k (fun q e => .inr (by have e1 : q = g := e; omega)), keepO k h.d (fun e => k1 e.symm), keepO k h.a (fun e => k2 e.symm), keepO k h.b (fun e => k3 e.symm), s0, ⟨_, h.oa.choose_spec.ch k (fun q hq e => ?_)⟩, ⟨_, h.ob.choose_spec.ch k (fun q hq e => ?_)⟩, h.kd, h.zd, h.nA, h.nB, h.na, h.nb⟩
  · have e1 : q = g := e; rw [e1] at hq; exact k4 hq
  · have e1 : q = g := e; rw [e1] at hq; exact k5 hq
/-- behind the round's last writes: the answered context and its twin -/
structure Or9 (w0 : World) (A B : Nat) (pc1 : Int) (ra ks1 : List Int) (va vb : Value) (W : World) : Prop where
  g : Gr w0 W
  a : W.heap[A]? = some (.cells (cC pc1 ra va) 30 (0, 0))
  b : W.heap[B]? = some (.cells (cC pc1 ra vb) 30 (0, 0))
  oa : ∃ base, Ow eI 1 3 base W va ks1
  ob : ∃ base, Ow eI 1 3 base W vb ks1
theorem Oq.app (hr : rr.length = 16) {o : Obj} {w5 : World} (h : Oq w0 D A B pc1 rr ra ks1 vd va vb ds W) (k : Ch (Blk vd) (W.alloc o) w5) (v' : Value) : w5.cell? ⟨D, 17, none⟩ = some vd ∧ w5.frozen? ⟨D, 17, none⟩ = false ∧ D < w5.heap.size ∧ Or9 w0 A B pc1 ra ks1 va vb (w5.setCell ⟨D, 17, none⟩ v') := by
  have gal : Gr W (W.alloc o) := Ch.alloc (Gr.refl W) _
  have b5 := (k.block _ (lt_of_block (al_blk h.d o)) (fun q => (h.kd _ q).1 rfl)).trans (al_blk h.d o)
  have a5 := (k.block _ (lt_of_block (al_blk h.a o)) (fun q => (h.kd _ q).2.1 rfl)).trans (al_blk h.a o)
  have c5 := (k.block _ (lt_of_block (al_blk h.b o)) (fun q => (h.kd _ q).2.2.1 rfl)).trans (al_blk h.b o)
  have oa5 := (h.oa.choose_spec.gr gal).ch k (fun q hq e => (h.kd q e).2.2.2.1 hq)
  have ob5 := (h.ob.choose_spec.gr gal).ch k (fun q hq e => (h.kd q e).2.2.2.2 hq)
  have kk : Ch (Only D) w5 (w5.setCell ⟨D, 17, none⟩ v') := (Ch.refl _ _).own _ _
  refine ⟨cell17 hr b5, frozen_of b5 17, lt_of_block b5, Ch.trans (Ch.trans (Gr.trans h.g gal) k (fun q e => .inr (h.od.blk e).1)) kk (fun q e => .inr (by have e1 : q = D := e; have := h.zd; omega)), keepO kk a5 h.nA.symm, keepO kk c5 h.nB.symm, ⟨_, oa5.ch kk (fun q hq e => ?_)⟩, ⟨_, ob5.ch kk (fun q hq e => ?_)⟩⟩
  · have e1 : q = D := e; rw [e1] at hq; exact h.na hq
  · have e1 : q = D := e; rw [e1] at hq; exact h.nb hq
end
end Go.Proofs.YtcdlhfodeckleabDoor.Lt

namespace Go.Proofs.YtcdlhfodeckleabDoor.Lt
open Go.RowKit Wd

theorem one_i5o (a b c d e : Int) : (#[.int .i64 a, .int .i64 b, .int .i64 c, .int .i64 d, .int .i64 e] : Array Value).all (·.oneCell') = true := by simp [Value.oneCell']
theorem rep_get (ks : List Int) (j : Nat) (hj : j < 8) : (ks ++ List.replicate 8 7)[ks.length + j]? = some 7 := by
  rw [List.getElem?_append_right (by omega), show ks.length + j - ks.length = j by omega, List.getElem?_replicate, if_pos hj]
set_option maxHeartbeats 40000000 in
set_option maxRecDepth 100000 in
theorem own_walk (P : Nat → Prop) (w : World) (hg : Glb w) (aoc aof aot : Option Addr) (nc nf nt cac caf cat : Nat) (pc : Int) (r : List Int) (hr : r.length = 16) (ao : Option Addr) (n cap : Nat) (ks : List Int) (ck sl gn : Int) (pc1 : Int) (rr : List Int) (hrr : rr.length = 16) (ks1 : List Int) (q0 q1 q2 q3 q4 q5 q6 q7 q8 q9 q10 : Int) (hk : Ls eI P w (.slice ao n cap) ks) (hn : n ≤ 17592186043904) (hk1 : ks1.length ≤ 17592186044000)
    (hT : ∀ W, Gr w W → Calls Tryd.prog 6 #[.agg (cC pc r (.slice ao n cap))] W (CxR W pc r ks))
    (hT2 : ∀ W ao n cap B, Ow eI 1 3 B W (.slice ao n cap) ks1 → Calls Tryd.prog 6 #[.agg (cC pc1 (ans 47 1 0 0 5 0 rr) (.slice ao n cap))] W (CxR W pc1 (ans 47 1 0 0 5 0 rr) ks1))
    (hP : ∀ W, Gr w W → ∀ ao2 n2 cap2 B, Ls eI (B ≤ ·) W (.slice ao2 n2 cap2) ks → Calls Tryd.prog 5 #[.agg #[.slice aoc nc cac, .slice aof nf caf, .slice aot nt cat], .agg (cC pc r (.slice ao2 n2 cap2)), .agg #[.int .u64 ck, .int .i64 sl, .int .i64 gn]] W (StR W pc1 rr ks1 #[.int .i64 q0, .int .i64 q1, .int .i64 q2, .int .i64 q3, .int .i64 q4, .int .i64 q5, .int .i64 q6, .int .i64 q7, .int .i64 q8, .int .i64 q9, .int .i64 q10]))
    (hR : ∀ W, Gr w W → Calls Tryd.prog 12 #[.agg #[.slice aoc nc cac, .slice aof nf caf, .slice aot nt cat], .agg (cC pc r (.slice ao n cap)), .agg #[.int .u64 ck, .int .i64 sl, .int .i64 gn]] W (StR W pc1 rr ks1 #[.int .i64 q0, .int .i64 q1, .int .i64 q2, .int .i64 q3, .int .i64 q4, .int .i64 q5, .int .i64 q6, .int .i64 q7, .int .i64 q8, .int .i64 q9, .int .i64 q10]))
    (hA : ∀ W ao n cap B, Ow eI 1 3 B W (.slice ao n cap) ks1 → Calls Tryd.prog 11 #[.agg (cC pc1 rr (.slice ao n cap)), .agg #[.int .i64 47, .int .i64 1, .int .i64 0, .int .i64 0, .int .i64 0], .int .i64 5, .int .i64 0] W (CxR W pc1 (ans 47 1 0 0 5 0 rr) ks1)) :
    Calls Tryd.prog 4 #[.agg #[.slice aoc nc cac, .slice aof nf caf, .slice aot nt cat], .agg (cC pc r (.slice ao n cap)), .agg #[.int .u64 ck, .int .i64 sl, .int .i64 gn]] w fun e w' => e = .returned (.bool true) ∧ Gr w w' := by
  have hral : ((ans 47 1 0 0 5 0 rr)).length = 16 := (ans_len _ _ _ _ _ _ _).trans hrr
  have HLV := hid (fun (W : World) (p : Gr w W) => lives9_any W (hg.gr p))
  have HNL := hid hk.len.1
  have HS1 := hid (fun (W : World) (bo do_ : Option Addr) (m1 m2 cb cd b1 b2 : Nat) (h1 : Ow eI 1 3 b1 W (.slice bo m1 cb) ks1) (h2 : Ow eI 1 3 b2 W (.slice do_ m2 cd) ks1) => show Calls Tryd.prog 8 #[.agg (cC pc1 rr (.slice bo m1 cb)), .agg (cC pc1 rr (.slice do_ m2 cd))] W fun e w' => e = .returned (.bool true) ∧ Gr W w' from by
    obtain rfl := h1.len.1
    obtain rfl := h2.len.1
    exact same9_any (b1 ≤ ·) (b2 ≤ ·) W pc1 rr hrr bo do_ ks1.length cb cd ks1 h1.lst h2.lst (by omega))
  have HS2 := hid (fun (W : World) (bo do_ : Option Addr) (m1 m2 cb cd b1 b2 : Nat) (h1 : Ow eI 1 3 b1 W (.slice bo m1 cb) ks1) (h2 : Ow eI 1 3 b2 W (.slice do_ m2 cd) ks1) => show Calls Tryd.prog 8 #[.agg (cC pc1 (ans 47 1 0 0 5 0 rr) (.slice bo m1 cb)), .agg (cC pc1 (ans 47 1 0 0 5 0 rr) (.slice do_ m2 cd))] W fun e w' => e = .returned (.bool true) ∧ Gr W w' from by
    obtain rfl := h1.len.1
    obtain rfl := h2.len.1
    exact same9_any (b1 ≤ ·) (b2 ≤ ·) W pc1 (ans 47 1 0 0 5 0 rr) hral bo do_ ks1.length cb cd ks1 h1.lst h2.lst (by omega))
  have HS3 := hid (fun (W : World) (p : Gr w W) (bo : Option Addr) (cb b1 : Nat) (h1 : Ls eI (b1 ≤ ·) W (.slice bo n cb) ks) => same9_any (b1 ≤ ·) P W pc r hr bo ao n cb cap ks h1 (hk.gr p) (by omega))
  have HT := hid hT
  have HT2 := hid hT2
  have HP := hid hP
  have HR := hid hR
  have HA := hid hA
  have HR16 := hid hr
  have HRR := hid hrr
  have HSZ := hid (fun (pc : Int) (v : Value) => cC_size (pc := pc) (v := v) hr)
  have HSY := hid (fun (pc : Int) (v : Value) => cC_size (pc := pc) (v := v) hrr)
  have HSX := hid (fun (pc : Int) (v : Value) => cC_size (pc := pc) (v := v) hral)
  have HK1 := hid hk1
  have hB0 := Sd.new w #[.slice aoc nc cac, .slice aof nf caf, .slice aot nt cat] (cC pc r (.slice ao n cap)) #[.int .u64 ck, .int .i64 sl, .int .i64 gn]
  generalize hRA : (ans 47 1 0 0 5 0 rr) = ra at HT2 HA HS2 HSX
  clear hT hT2 hP hR hA hg hr hrr hk hral hRA hk1
  go_enter Tryd.func4, Tryd.ntmps4
  go_wp2_with (first
    | (refine wpList_load_row rfl 30 (.tmp 4) rfl (w.heap.size + 1) rfl _ _ _ _ hB0.c Tryd.underlying30 rfl (ctx_size' (HSZ.out _ _)) ?_)
    | (go_at_call 6; refine (HT.out _ hB0.g).mono ?_; rintro e w1 ⟨a1, n1, c1, rfl, o1, g1⟩; obtain rfl : n = n1 := HNL.out.trans o1.len.1.symm; have S1 := hid (hB0.gr g1); have O1 := hid (o1.lower (base' := w.heap.size + 3) (by simp)); have L1 := hid g1.size; clear o1 g1)
    | (refine st_row rfl 30 (.tmp 7) (.tmp 20) rfl w1.heap.size _ rfl rfl _ _ (MapKept.heap_alloc w1 _).1 (ctx_size' (HSZ.out _ _)) (HSZ.out _ _).symm cC_one ?_; intro w2 b2 k2; have OA0 := hid (show Oa w #[.slice aoc nc cac, .slice aof nf caf, .slice aot nt cat] (cC pc r (.slice ao n cap)) #[.int .u64 ck, .int .i64 sl, .int .i64 gn] w1.heap.size pc r (.slice a1 n c1) (ks ++ List.replicate 0 7) w2 from ⟨(S1.out.gr (Ch.alloc (Gr.refl w1) _)).ch k2 (fun q e => by have e1 : q = w1.heap.size := e; have := lt_of_block S1.out.e; omega), b2, by rw [List.replicate_zero, List.append_nil]; exact (O1.out.alloc _).ch k2 (fun q hq e => by have e1 : q = w1.heap.size := e; have := (O1.out.blk hq).2; omega), (fun q => by have := (O1.out.blk q).2; omega), lt_of_block S1.out.e⟩); clear b2 k2))
  clear hB0 S1 O1 L1
  generalize hIN : w1.heap.size = IN at OA0 ⊢
  go_loopg [8] 8 (fun q i9 wq => ∃ (j m c : Nat) (a : Option Addr), j + q = 8 ∧ i9 = .int .i64 (j : Int) ∧ m = n + j ∧ Oa w #[.slice aoc nc cac, .slice aof nf caf, .slice aot nt cat] (cC pc r (.slice ao n cap)) #[.int .u64 ck, .int .i64 sl, .int .i64 gn] IN pc r (.slice a m c) (ks ++ List.replicate j 7) wq)
  case atStart => exact ⟨0, n, c1, a1, by omega, rfl, by omega, OA0.out⟩
  case round =>
    obtain ⟨j, m, c, a, hjq, rfl, hm, oa⟩ := hrel
    subst hm
    have OA := hid oa
    have c17 := cell17 HR16.out oa.i
    clear oa
    by_cases hj : j < 8
    · have HML := hid (show n + j = (ks ++ List.replicate j 7).length from OA.out.o.len.1)
      have HRP := hid (show ks ++ List.replicate j 7 ++ [7] = ks ++ List.replicate (j + 1) 7 from by rw [List.append_assoc, ← List.replicate_succ'])
      have hj8 : (j : Int) < 8 := by omega
      go_wp2_with (at_builtin; refine wpList_append_ow eI_len rfl (.tmp 26) (.tmp 27) _ 3 8 _ Tryd.underlying28 int_info rfl (by omega) rfl (w.heap.size + 3) _ (ks ++ List.replicate j 7) rfl (OA.out.o.alloc _) _ _ [7] rfl (Ls.single wr 7 3 #[.int .i64 7] rfl) (eI_one _) (n + j + 1) (by rw [← HML.out]; rfl) (by omega) (by unfold maxLen; omega) (by have := lt_of_block OA.out.s.e; simp; omega) (ks ++ List.replicate (j + 1) 7) HRP.out ?_; intro a5 c5 w5 ow5 cw5 bl5; obtain ⟨x1, x2, x3, nx⟩ := OA.out.next HR16.out cw5 ow5 bl5; have NX := hid nx; clear ow5 cw5 bl5 nx)
      clear c17 x1 x2 x3
      go_roundg (gk - 1)
      case measure => omega
      case rel => exact ⟨j + 1, n + j + 1, c5, a5, by omega, by simp, by omega, NX.out⟩
    · have jn : ¬ (j : Int) < 8 := by omega
      obtain rfl : j = 8 := by omega
      obtain ⟨ga, ca, eg, -⟩ := OA.out.o.get eI_len (show (ks ++ List.replicate 8 7)[ks.length + 0]? = some 7 from rep_get ks 0 (by omega))
      injection eg with eg eg2 eg3
      subst eg
      clear eg2 eg3
      obtain ⟨y1, y2, y3, on⟩ := Oa.cut HR16.out OA.out
      have ON := hid on
      have hlo : n + 8 ≤ c := on.lo
      have d17 := cell17 HR16.out OA.out.s.c
      clear on c17
      go_upto_region 7 with fail
      clear y1 y2 y3 d17 OA OA0 jn hj hjq
      generalize wr.setCell ⟨IN, 17, none⟩ (.slice (some ⟨ga, 0, none⟩) n c) = w6 at ON ⊢
      generalize c = cc at ON hlo ⊢
      go_wp2_with (first
        | (refine wpList_load_row rfl 26 (.tmp 3) rfl w.heap.size rfl _ _ _ _ ON.out.s.p Tryd.underlying26 rfl prog_size3 ?_)
        | (refine wpList_load_row rfl 30 (.tmp 4) rfl (w.heap.size + 1) rfl _ _ _ _ ON.out.s.c Tryd.underlying30 rfl (ctx_size' (HSZ.out _ _)) ?_)
        | (refine wpList_load_row rfl 35 (.tmp 5) rfl (w.heap.size + 2) rfl _ _ _ _ ON.out.s.e Tryd.underlying35 rfl env_size ?_)
        | (go_at_call 12; refine (HR.out _ ON.out.s.g).mono ?_; rintro e w7 ⟨a7, n7, c7, rfl, o7, g7⟩; have ON7 := hid (ON.out.gr g7); have O7 := hid o7; have A7 := hid (al_blk (MapKept.heap_alloc w7 (.cells #[.int .i64 0, .int .i64 0, .int .i64 0, .int .i64 0, .int .i64 0, .int .i64 0, .int .i64 0, .int .i64 0, .int .i64 0, .int .i64 0, .int .i64 0, .int .i64 0, .int .i64 0, .int .i64 0, .int .i64 0, .int .i64 0, .int .i64 0, .slice none 0 0] 30)).1 (.cells #[.int .i64 0, .int .i64 0, .int .i64 0, .int .i64 0, .int .i64 0, .int .i64 0, .int .i64 0, .int .i64 0, .int .i64 0, .int .i64 0, .int .i64 0] 40)); have B7 := hid (show ((w7.alloc (.cells #[.int .i64 0, .int .i64 0, .int .i64 0, .int .i64 0, .int .i64 0, .int .i64 0, .int .i64 0, .int .i64 0, .int .i64 0, .int .i64 0, .int .i64 0, .int .i64 0, .int .i64 0, .int .i64 0, .int .i64 0, .int .i64 0, .int .i64 0, .slice none 0 0] 30)).alloc (.cells #[.int .i64 0, .int .i64 0, .int .i64 0, .int .i64 0, .int .i64 0, .int .i64 0, .int .i64 0, .int .i64 0, .int .i64 0, .int .i64 0, .int .i64 0] 40)).heap[w7.heap.size + 1]? = some (.cells #[.int .i64 0, .int .i64 0, .int .i64 0, .int .i64 0, .int .i64 0, .int .i64 0, .int .i64 0, .int .i64 0, .int .i64 0, .int .i64 0, .int .i64 0] 40 (0, 0)) from by simpa using (MapKept.heap_alloc (w7.alloc (.cells #[.int .i64 0, .int .i64 0, .int .i64 0, .int .i64 0, .int .i64 0, .int .i64 0, .int .i64 0, .int .i64 0, .int .i64 0, .int .i64 0, .int .i64 0, .int .i64 0, .int .i64 0, .int .i64 0, .int .i64 0, .int .i64 0, .int .i64 0, .slice none 0 0] 30)) (.cells #[.int .i64 0, .int .i64 0, .int .i64 0, .int .i64 0, .int .i64 0, .int .i64 0, .int .i64 0, .int .i64 0, .int .i64 0, .int .i64 0, .int .i64 0] 40)).1); clear o7 g7)
        | (refine st_row rfl 30 (.tmp 9) (.tmp 42) rfl w7.heap.size _ rfl rfl _ _ A7.out (ctx_size' (HSY.out _ _)) (HSY.out _ _).symm cC_one ?_; intro w8 b8 k8; have G8 := hid (show Gr w7 w8 from Ch.trans (Ch.alloc (Ch.alloc (Gr.refl w7) _) _) k8 (fun q e => .inr (by have e1 : q = w7.heap.size := e; omega))); have E8 := hid b8; have B8 := hid (keepO k8 B7.out (by omega)); clear b8 k8)
        | (refine st_row rfl 40 (.tmp 10) (.tmp 43) rfl (w7.heap.size + 1) _ rfl rfl _ _ B8.out want_size rfl (wt_one _ _ _ _ _ _ _ _ _ _ _) ?_; intro w9 b9 k9; have G9 := hid (show Gr w7 w9 from Ch.trans G8.out k9 (fun q e => .inr (by have e1 : q = w7.heap.size + 1 := e; omega))); have OP0 := hid (show Op9 w #[.slice aoc nc cac, .slice aof nf caf, .slice aot nt cat] (cC pc r (.slice ao n cap)) #[.int .u64 ck, .int .i64 sl, .int .i64 gn] IN w7.heap.size pc r ks (some ⟨ga, 0, none⟩) n cc pc1 rr ks1 (.slice a7 n7 c7) w9 from ⟨ON7.out.gr G9.out, keepO k9 E8.out (by omega), ⟨_, O7.out.gr G9.out⟩⟩); clear b9 k9))
      clear ON ON7 O7 A7 B7 G8 E8 B8 G9
      generalize w7.heap.size = WN at OP0 ⊢
      go_loopg [11] 2 (fun q i9 wq => ∃ jj : Nat, jj + q = 2 ∧ i9 = .int .i64 (jj : Int) ∧ Op9 w #[.slice aoc nc cac, .slice aof nf caf, .slice aot nt cat] (cC pc r (.slice ao n cap)) #[.int .u64 ck, .int .i64 sl, .int .i64 gn] IN WN pc r ks (some ⟨ga, 0, none⟩) n cc pc1 rr ks1 (.slice a7 n7 c7) wq)
      case atStart => exact ⟨0, by omega, rfl, OP0.out⟩
      case round =>
        obtain ⟨jj, hjj, rfl, op⟩ := hrel
        have OP := hid op
        clear op
        by_cases hj2 : jj < 2
        · have j2 : (jj : Int) < 2 := by omega
          obtain ⟨w0, rfl⟩ : ∃ w0, wr = w0 := ⟨_, rfl⟩
          go_upto_region 12 with (first
            | (refine wpList_load_row rfl 26 (.tmp 3) rfl w.heap.size rfl _ _ _ _ OP.out.n.s.p Tryd.underlying26 rfl prog_size3 ?_)
            | (refine wpList_load_row rfl 30 (.tmp 7) rfl IN rfl _ _ _ _ OP.out.n.i Tryd.underlying30 rfl (ctx_size' (HSZ.out _ _)) ?_)
            | (refine wpList_load_row rfl 35 (.tmp 5) rfl (w.heap.size + 2) rfl _ _ _ _ OP.out.n.s.e Tryd.underlying35 rfl env_size ?_)
            | (go_at_call 5; refine (HP.out _ OP.out.n.s.g _ _ _ _ (OP.out.n.ls HNL.out)).mono ?_; rintro e v1 ⟨ad, nd, cd, rfl, od, g1⟩; have P1 := hid (OP.out.gr g1); have G1 := hid g1; have OD1 := hid od; have A1 := hid (al_blk (MapKept.heap_alloc v1 (.cells #[.int .i64 0, .int .i64 0, .int .i64 0, .int .i64 0, .int .i64 0, .int .i64 0, .int .i64 0, .int .i64 0, .int .i64 0, .int .i64 0, .int .i64 0, .int .i64 0, .int .i64 0, .int .i64 0, .int .i64 0, .int .i64 0, .int .i64 0, .slice none 0 0] 30)).1 (.cells #[.int .i64 0, .int .i64 0, .int .i64 0, .int .i64 0, .int .i64 0, .int .i64 0, .int .i64 0, .int .i64 0, .int .i64 0, .int .i64 0, .int .i64 0] 40)); have B1 := hid (show ((v1.alloc (.cells #[.int .i64 0, .int .i64 0, .int .i64 0, .int .i64 0, .int .i64 0, .int .i64 0, .int .i64 0, .int .i64 0, .int .i64 0, .int .i64 0, .int .i64 0, .int .i64 0, .int .i64 0, .int .i64 0, .int .i64 0, .int .i64 0, .int .i64 0, .slice none 0 0] 30)).alloc (.cells #[.int .i64 0, .int .i64 0, .int .i64 0, .int .i64 0, .int .i64 0, .int .i64 0, .int .i64 0, .int .i64 0, .int .i64 0, .int .i64 0, .int .i64 0] 40)).heap[v1.heap.size + 1]? = some (.cells #[.int .i64 0, .int .i64 0, .int .i64 0, .int .i64 0, .int .i64 0, .int .i64 0, .int .i64 0, .int .i64 0, .int .i64 0, .int .i64 0, .int .i64 0] 40 (0, 0)) from by simpa using (MapKept.heap_alloc (v1.alloc (.cells #[.int .i64 0, .int .i64 0, .int .i64 0, .int .i64 0, .int .i64 0, .int .i64 0, .int .i64 0, .int .i64 0, .int .i64 0, .int .i64 0, .int .i64 0, .int .i64 0, .int .i64 0, .int .i64 0, .int .i64 0, .int .i64 0, .int .i64 0, .slice none 0 0] 30)) (.cells #[.int .i64 0, .int .i64 0, .int .i64 0, .int .i64 0, .int .i64 0, .int .i64 0, .int .i64 0, .int .i64 0, .int .i64 0, .int .i64 0, .int .i64 0] 40)).1); clear od g1)
            | (refine st_row rfl 30 (.tmp 12) (.tmp 53) rfl v1.heap.size _ rfl rfl _ _ A1.out (ctx_size' (HSY.out _ _)) (HSY.out _ _).symm cC_one ?_; intro v2 b2 k2; have G2 := hid (show Gr v1 v2 from Ch.trans (Ch.alloc (Ch.alloc (Gr.refl v1) _) _) k2 (fun q e => .inr (by have e1 : q = v1.heap.size := e; omega))); have D2 := hid b2; have B2 := hid (keepO k2 B1.out (by omega)); clear b2 k2)
            | (refine st_row rfl 40 (.tmp 13) (.tmp 54) rfl (v1.heap.size + 1) _ rfl rfl _ _ B2.out want_size rfl (wt_one _ _ _ _ _ _ _ _ _ _ _) ?_; intro v3 b3 k3; have G3 := hid (show Gr v1 v3 from Ch.trans G2.out k3 (fun q e => .inr (by have e1 : q = v1.heap.size + 1 := e; omega))); have P3_ := hid (P1.out.gr G3.out); have D3 := hid (keepO k3 D2.out (by omega)); have OD3 := hid (OD1.out.gr G3.out); clear b3 k3))
          go_upto_region 14 with (first
            | (refine wpList_load_row rfl 30 (.tmp 12) rfl v1.heap.size rfl _ _ _ _ D3.out Tryd.underlying30 rfl (ctx_size' (HSY.out _ _)) ?_)
            | (refine wpList_load_row rfl 30 (.tmp 9) rfl WN rfl _ _ _ _ P3_.out.b Tryd.underlying30 rfl (ctx_size' (HSY.out _ _)) ?_)
            | (go_at_call 8; refine (HS1.out _ _ _ _ _ _ _ _ _ OD3.out P3_.out.o.choose_spec).mono ?_; rintro e v4 ⟨rfl, g4⟩; have P4 := hid (P3_.out.gr g4); have D4 := hid (gr_blk D3.out g4); have OD4 := hid (OD3.out.gr g4); have G4 := hid (Gr.trans G3.out g4); clear g4)
            | (refine ld_rowG (by kernel_rfl) 30 (.tmp 7) rfl IN rfl _ _ _ _ P4.out.n.i Tryd.underlying30 rfl (ctx_size' (HSZ.out _ _)) ?_)
            | (refine ld_rowG (by kernel_rfl) 30 (.tmp 4) rfl (w.heap.size + 1) rfl _ _ _ _ P4.out.n.s.c Tryd.underlying30 rfl (ctx_size' (HSZ.out _ _)) ?_)
            | (refine callG (by kernel_rfl) 8 #[.tmp 60, .tmp 61] #[30, 30] rfl #[.agg (cC pc r (.slice (some ⟨ga, 0, none⟩) n cc)), .agg (cC pc r (.slice ao n cap))] (by kernel_rfl) (HS3.out _ P4.out.n.s.g _ _ _ (P4.out.n.ls HNL.out)) ?_; rintro e v5 ⟨rfl, g5⟩; refine ⟨_, rfl, ?_⟩; simp only [Act.put, List.setIfInBounds_toArray, List.set_cons_zero, List.set_cons_succ]; have P5 := hid (P4.out.gr g5); have D5 := hid (gr_blk D4.out g5); have OD5 := hid (OD4.out.gr g5); have G5 := hid (Gr.trans G4.out g5); clear g5)
            | (refine notG (by kernel_rfl) (.tmp 62) true rfl rfl ?_; simp only [Act.put, List.setIfInBounds_toArray, List.set_cons_zero, List.set_cons_succ]; simp only [Bool.not_true])
            | (refine notG (by kernel_rfl) (.tmp 66) true rfl rfl ?_; simp only [Act.put, List.setIfInBounds_toArray, List.set_cons_zero, List.set_cons_succ]; simp only [Bool.not_true])
            | (refine callG (by kernel_rfl) 7 #[] #[] rfl #[] (by kernel_rfl) (HLV.out _ P5.out.n.s.g) ?_; rintro e v6 ⟨rfl, g6⟩; refine ⟨_, rfl, ?_⟩; simp only [Act.put, List.setIfInBounds_toArray, List.set_cons_zero, List.set_cons_succ]; have P6 := hid (P5.out.gr g6); have D6 := hid (gr_blk D5.out g6); have OD6 := hid (OD5.out.gr g6); have G6 := hid (Gr.trans G5.out g6); clear g6))
          go_upto_region 15 with (first
            | (refine wpList_load_row rfl 30 (.tmp 12) rfl v1.heap.size rfl _ _ _ _ D6.out Tryd.underlying30 rfl (ctx_size' (HSY.out _ _)) ?_)
            | (go_at_call 11; refine (HA.out _ _ _ _ _ OD6.out).mono ?_; rintro e v7 ⟨aa, na, ca, rfl, oa, g7⟩; have D7 := hid (gr_blk D6.out g7); have OD7 := hid (OD6.out.gr g7); have G7 := hid (Gr.trans G6.out g7); have Z7 := hid g7.size; have OA7 := hid oa; clear g7 oa)
            | (refine st_row rfl 30 (.tmp 14) (.tmp 71) rfl v7.heap.size _ rfl rfl _ _ (MapKept.heap_alloc v7 _).1 (ctx_size' (HSX.out _ _)) (HSX.out _ _).symm cC_one ?_; intro v8 b8 k8; have G8 := hid (show Gr v7 v8 from Ch.trans (Ch.alloc (Gr.refl v7) _) k8 (fun q e => .inr (by have e1 : q = v7.heap.size := e; omega))); have A8 := hid b8; have OA8 := hid (OA7.out.gr G8.out); clear b8 k8))
          go_upto_region 16 with (first
            | (refine wpList_load_row rfl 30 (.tmp 14) rfl v7.heap.size rfl _ _ _ _ A8.out Tryd.underlying30 rfl (ctx_size' (HSX.out _ _)) ?_)
            | (go_at_call 6; refine (HT2.out _ _ _ _ _ OA8.out).mono ?_; rintro e v9 ⟨ab, nb, cb, rfl, ob, g9⟩; have A9 := hid (gr_blk A8.out g9); have OA9 := hid (OA8.out.gr g9); have G9 := hid (Gr.trans G8.out g9); have Z9 := hid g9.size; have OB9 := hid ob; clear g9 ob)
            | (refine st_row rfl 30 (.tmp 15) (.tmp 73) rfl v9.heap.size _ rfl rfl _ _ (MapKept.heap_alloc v9 _).1 (ctx_size' (HSX.out _ _)) (HSX.out _ _).symm cC_one ?_; intro v10 b10 k10; have G10 := hid (show Gr v9 v10 from Ch.trans (Ch.alloc (Gr.refl v9) _) k10 (fun q e => .inr (by have e1 : q = v9.heap.size := e; omega))); have BB := hid b10; clear b10 k10))
          go_wp2_with fail
          have OQ0 := hid (show Oq wr v1.heap.size v7.heap.size v9.heap.size pc1 rr ra ks1 (.slice ad nd cd) (.slice aa na ca) (.slice ab nb cb) ks1 v10 from by
            have s1 := lt_of_block D6.out
            have s2 := Z7.out
            have s3 := lt_of_block A8.out
            have s4 := Z9.out
            have s5 := G1.out.size
            have g10 : Gr v7 v10 := Gr.trans G9.out G10.out
            refine ⟨Gr.trans G1.out (Gr.trans G7.out g10), gr_blk D7.out g10, gr_blk A9.out G10.out, BB.out, OD7.out.gr g10, ⟨_, OA9.out.gr G10.out⟩, ⟨_, OB9.out.gr G10.out⟩, fun q hq => ?_, s5, by omega, by omega, fun hq => ?_, fun hq => ?_⟩
            · have l1 := (OD1.out.blk hq).2
              refine ⟨by omega, by omega, by omega, fun h9 => ?_, fun h9 => ?_⟩
              · have l2 := (OA7.out.blk h9).1; omega
              · have l2 := (OB9.out.blk h9).1; omega
            · have l2 := (OA7.out.blk hq).1; omega
            · have l2 := (OB9.out.blk hq).1; omega)
          have HND := hid OD1.out.len.1
          clear P1 G1 OD1 A1 B1 G2 D2 B2 G3 P3_ D3 OD3 P4 D4 OD4 G4 P5 D5 OD5 G5 P6 D6 OD6 G6 D7 OD7 G7 Z7 OA7 G8 A8 OA8 A9 OA9 G9 Z9 OB9 G10 BB
          generalize v1.heap.size = DB at OQ0 ⊢
          generalize v7.heap.size = AB at OQ0 ⊢
          generalize v9.heap.size = BB at OQ0 ⊢
          have HW0 := hid (show ∃ w0, w0 = wr from ⟨_, rfl⟩)
          obtain ⟨w0, hw0⟩ := HW0.out
          rw [← hw0] at OQ0 OP
          clear hw0 HW0
          go_loopg [16] nd (fun q i9 wq => ∃ (j : Nat) (ds : List Int), j + q = nd ∧ i9 = .int .i64 (j : Int) ∧ ds.length = nd ∧ Oq w0 DB AB BB pc1 rr ra ks1 (.slice ad nd cd) (.slice aa na ca) (.slice ab nb cb) ds wq)
          case atStart => exact ⟨0, ks1, by omega, rfl, HND.out.symm, OQ0.out⟩
          case round =>
            obtain ⟨j, ds, hjq, rfl, hds, oq⟩ := hrel
            have OQ := hid oq
            have HDS := hid hds
            have d17 := cell17 HRR.out oq.d
            clear oq hds
            have hndb : nd ≤ 17592186044000 := by have := HK1.out; have := HND.out; omega
            by_cases hj : j < nd
            · obtain ⟨x, hx⟩ : ∃ x, ds[j]? = some x := ⟨_, List.getElem?_eq_getElem (by rw [HDS.out]; exact hj)⟩
              obtain ⟨gd, capd, ed, c0, f0, l0, nx⟩ := OQ.out.put hx (-9)
              have NX := hid nx
              injection ed with ed ed2 ed3
              subst ed
              have j0 : (0 : Int) ≤ (j : Int) := by omega
              have j1 : (j : Int) < (nd : Int) := by omega
              clear ed2 ed3 hx nx
              go_wp2_with fail
              clear c0 f0 l0 d17
              go_roundg (nd - (j + 1))
              case measure => omega
              case rel => exact ⟨j + 1, ds.set j (-9), by omega, by simp, by rw [List.length_set]; exact HDS.out, NX.out⟩
            · have jn : ¬ (j : Int) < (nd : Int) := by omega
              have HDL := hid (show nd = ds.length from HDS.out.symm)
              have HZ0 := hid (show w0.heap.size ≤ wr.heap.size from OQ.out.g.size)
              go_upto_region 21 with (at_builtin; refine wpList_append_ow eI_len rfl (.tmp 86) (.tmp 87) _ 3 8 _ Tryd.underlying28 int_info rfl (by omega) rfl w0.heap.size _ ds rfl (OQ.out.od.alloc _) _ _ [-8, -8, -8] rfl (Ls.many wr [-8, -8, -8] 3 #[.int .i64 (-8), .int .i64 (-8), .int .i64 (-8)] rfl 3 rfl) (eI_one _) (nd + 3) (by rw [← HDL.out]; rfl) (by omega) (by unfold maxLen; omega) (by have := HZ0.out; simp; omega) (ds ++ [-8, -8, -8]) rfl ?_; intro a5 c5 w5 ow5 cw5 bl5; obtain ⟨x1, x2, x3, nx⟩ := OQ.out.app HRR.out cw5 (.slice a5 (nd + 3) c5); have OR := hid nx; clear ow5 cw5 bl5 nx)
              clear x1 x2 x3 d17 OQ OQ0
              generalize w5.setCell ⟨DB, 17, none⟩ (.slice a5 (nd + 3) c5) = w8 at OR ⊢
              go_wp2_with (first
                | (refine wpList_load_row rfl 30 (.tmp 14) rfl AB rfl _ _ _ _ OR.out.a Tryd.underlying30 rfl (ctx_size' (HSX.out _ _)) ?_)
                | (refine wpList_load_row rfl 30 (.tmp 15) rfl BB rfl _ _ _ _ OR.out.b Tryd.underlying30 rfl (ctx_size' (HSX.out _ _)) ?_)
                | (go_at_call 8; refine (HS2.out _ _ _ _ _ _ _ _ _ OR.out.oa.choose_spec OR.out.ob.choose_spec).mono ?_; rintro e u1 ⟨rfl, h1⟩; have PF := hid (OP.out.gr (Gr.trans OR.out.g h1)); have e17 := cell17 HR16.out PF.out.n.i; have f17 := cell17 HR16.out PF.out.n.s.c; clear h1))
              clear e17 f17 OR
              go_loopg [18] 8 (fun q i9 wq => ∃ k : Nat, n ≤ k ∧ k + q = n + 8 ∧ i9 = .int .i64 (k : Int) ∧ Op9 w #[.slice aoc nc cac, .slice aof nf caf, .slice aot nt cat] (cC pc r (.slice ao n cap)) #[.int .u64 ck, .int .i64 sl, .int .i64 gn] IN WN pc r ks (some ⟨ga, 0, none⟩) n cc pc1 rr ks1 (.slice a7 n7 c7) wq)
              case atStart => exact ⟨n, Nat.le_refl _, by omega, rfl, PF.out⟩
              case round =>
                obtain ⟨k, hnk, hkq, rfl, oq⟩ := hrel
                have PQ := hid oq
                by_cases hk8 : k < n + 8
                · have hge : (ks ++ List.replicate 8 7)[k]? = some 7 := by
                    have := rep_get ks (k - n) (by omega)
                    rw [show ks.length + (k - n) = k from by have := HNL.out; omega] at this
                    exact this
                  obtain ⟨g7, ca7, e7, -, -, -, hc7, -⟩ := oq.n.o.get eI_len hge
                  injection e7 with e7 e72 e73
                  injection e7 with e7
                  injection e7 with e7 _ _
                  subst e7
                  have x7 := hc7 0 _ rfl
                  rw [Nat.mul_one, Nat.add_zero] at x7
                  have k0 : (0 : Int) ≤ (k : Int) := by omega
                  have k1 : (k : Int) < ((n + 8 : Nat) : Int) := by omega
                  have k2 : (k : Int) < (n : Int) + 8 := by omega
                  clear hge e72 e73 hc7 oq
                  go_wp2_with fail
                  clear x7
                  go_roundg (n + 8 - (k + 1))
                  case measure => omega
                  case rel => exact ⟨k + 1, by omega, by omega, by simp, PQ.out⟩
                · have kn : ¬ (k : Int) < ((n + 8 : Nat) : Int) := by omega
                  have kn2 : ¬ (k : Int) < (n : Int) + 8 := by omega
                  clear oq
                  go_wp2_with fail
                  go_roundg (2 - (jj + 1))
                  case measure => omega
                  case rel => exact ⟨jj + 1, by omega, by simp, PQ.out⟩
        · have jn2 : ¬ (jj : Int) < 2 := by omega
          go_wp2_with (first
            | (refine wpList_load_row rfl 30 (.tmp 7) rfl IN rfl _ _ _ _ OP.out.n.i Tryd.underlying30 rfl (ctx_size' (HSZ.out _ _)) ?_)
            | (refine wpList_load_row rfl 30 (.tmp 4) rfl (w.heap.size + 1) rfl _ _ _ _ OP.out.n.s.c Tryd.underlying30 rfl (ctx_size' (HSZ.out _ _)) ?_)
            | (go_at_call 8; refine (HS3.out _ OP.out.n.s.g _ _ _ (OP.out.n.ls HNL.out)).mono ?_; rintro e z1 ⟨rfl, g1⟩; have GZ := hid (Gr.trans OP.out.n.s.g g1); clear g1))
          go_ret
          exact ⟨rfl, GZ.out⟩
end Go.Proofs.YtcdlhfodeckleabDoor.Lt

namespace Go.Proofs.YtcdlhfodeckleabDoor.Lt
open Go.RowKit Wd

def SpK (n : Nat) (s : Int × List Int × List Int × Array Value) : Prop := s.2.2.1.length ≤ n + 1
theorem stp_ks1 (cs : List Int) (fs : List (Int × Int)) (pc : Int) (r ks : List Int) (ck sl gn : Int) : (stp cs fs pc r ks ck sl gn).2.2.1.length ≤ ks.length + 1 := by
  show SpK ks.length (stp cs fs pc r ks ck sl gn)
  unfold stp
  dsimp only
  repeat' (refine ite_all (fun _ => ?_) (fun _ => ?_))
  all_goals (simp only [SpK, List.length_append, List.length_take, List.length_cons, List.length_nil]; omega)
theorem own_any9 (P : Nat → Prop) (w : World) (ia ib ic : Value) (cs : List Int) (fs : List (Int × Int)) (tb : List Tb) (pc : Int) (r : List Int) (ao : Option Addr) (n cap : Nat) (ks : List Int) (ck sl gn : Int) (h : Pin P w ia ib ic cs fs tb) (hc : cs.length ≤ 35184372088832) (_hf : fs.length ≤ 8796093022208) (_ht : tb.length ≤ 4398046511104) (_hq : ∀ t ∈ tb, t.cs.length ≤ 4398046511104) (hu : U32s cs) (hr : r.length = 16) (hk : Ls eI P w (.slice ao n cap) ks) (hn : n ≤ 17592186043904) (hg : Glb w) :
    Calls Tryd.prog 4 #[.agg #[ia, ib, ic], .agg (cC pc r (.slice ao n cap)), .agg #[.int .u64 ck, .int .i64 sl, .int .i64 gn]] w fun e w' => e = .returned (.bool true) ∧ Gr w w' := by
  obtain ⟨aoc, cac, rfl⟩ := h.c.form
  obtain ⟨aof, caf, rfl⟩ := h.f.form
  obtain ⟨aot, cat, rfl⟩ := h.t.form
  have hkn := hk.len.1
  obtain ⟨q0, q1, q2, q3, q4, q5, q6, q7, q8, q9, q10, hw⟩ := stp_wt cs fs pc r ks ck sl gn
  have hPP := fun (W : World) (p : Gr w W) (ao2 : Option Addr) (n2 cap2 B : Nat) (l : Ls eI (B ≤ ·) W (.slice ao2 n2 cap2) ks) => pstep_any (fun q => P q ∨ B ≤ q) W aoc aof aot cs.length fs.length tb.length cac caf cat cs ((h.c.gr p).mono (fun _ _ q => .inl q)) hu (hg.gr p) hc fs ((h.f.gr p).mono (fun _ _ q => .inl q)) pc r hr ao2 n2 cap2 ks (l.mono (fun _ _ q => .inr q)) (by have := l.len.1; omega) ck sl gn
  have hRR := fun (W : World) (p : Gr w W) => rstep_any P W aoc aof aot cs.length fs.length tb.length cac caf cat cs (h.c.gr p) hu hc fs (h.f.gr p) pc r hr ao n cap ks (hk.gr p) (by omega) ck sl gn
  unfold StO at hPP hRR
  rw [hw] at hRR
  simp only [hw] at hPP
  have hrr := (stp_len cs fs pc r ks ck sl gn).trans hr
  have hk1 := stp_ks1 cs fs pc r ks ck sl gn
  exact own_walk P w hg aoc aof aot _ _ _ cac caf cat pc r hr ao n cap ks ck sl gn _ _ hrr _ q0 q1 q2 q3 q4 q5 q6 q7 q8 q9 q10 hk hn (by omega) (fun W p => twin_any P W pc r hr ao n cap ks (hk.gr p) (by omega))
    (fun W ao n cap B o => twin_any (B ≤ ·) W _ _ ((ans_len _ _ _ _ _ _ _).trans hrr) ao n cap _ o.lst (by have := o.len.1; omega)) hPP hRR
    (fun W ao n cap B o => pans_any (B ≤ ·) W _ _ hrr ao n cap _ o.lst (by have := o.len.1; omega) 47 1 0 0 0 5 0)
end Go.Proofs.YtcdlhfodeckleabDoor.Lt
