/-
  What 'does' of the statements answers and leaves: true; the queue and the list are the same behind it too. Condition: both are there, and lie apart.
-/
import Derived.Test.YtphohfafehjafaaFfTold
namespace Go.Proofs.Ytphohfafehjafaa.Ff
open Go.RowKit
attribute [local go_sem ↓] Go.wp_at_zero Go.wp_at_succ

/-- an Act in a block of its own -/
def Six (w : World) (k : Nat) (d : Int) (x : W3) (p r : Int) : Prop := w.heap[k]? = some (.cells #[.int .i64 d, .int .i64 x.s, .int .i64 x.g, .int .u64 x.t, .int .i64 p, .int .i64 r] 35 (0, 0))
theorem Six.new (w : World) (d : Int) (x : W3) (p r : Int) : Six (w.alloc (.cells #[.int .i64 d, .int .i64 x.s, .int .i64 x.g, .int .u64 x.t, .int .i64 p, .int .i64 r] 35)) w.heap.size d x p r := (MapKept.heap_alloc w _).1
theorem Six.lt {w : World} {k : Nat} {d : Int} {x : W3} {p r : Int} (h : Six w k d x p r) : k < w.heap.size := lt_of_block h
theorem Six.ch {S : Nat → Prop} {w w' : World} {k : Nat} {d : Int} {x : W3} {p r : Int} (h : Six w k d x p r) (g : Ch S w w') (hn : ¬ S k) : Six w' k d x p r := (g.block k (lt_of_block h) hn).trans h
theorem Six.alloc {w : World} {k : Nat} {d : Int} {x : W3} {p r : Int} (h : Six w k d x p r) (o : Obj) : Six (w.alloc o) k d x p r := (Below.heap_alloc _ _ _ h.lt).trans h
theorem Six.cells {w : World} {k : Nat} {d : Int} {x : W3} {p r : Int} (h : Six w k d x p r) : w.cell? ⟨k, 0, none⟩ = some (.int .i64 d) ∧ w.cell? ⟨k, 1, none⟩ = some (.int .i64 x.s) ∧ w.cell? ⟨k, 2, none⟩ = some (.int .i64 x.g) ∧ w.cell? ⟨k, 3, none⟩ = some (.int .u64 x.t) ∧ w.cell? ⟨k, 4, none⟩ = some (.int .i64 p) ∧ w.cell? ⟨k, 5, none⟩ = some (.int .i64 r) :=
  ⟨(cell_of h 0).trans rfl, (cell_of h 1).trans rfl, (cell_of h 2).trans rfl, (cell_of h 3).trans rfl, (cell_of h 4).trans rfl, (cell_of h 5).trans rfl⟩

theorem eql_w3 (x : W3) (w : World) : (binOp .eql 33 (.agg #[.int .i64 x.s, .int .i64 x.g, .int .u64 x.t]) (.agg #[.int .i64 x.s, .int .i64 x.g, .int .u64 x.t])).run Try.prog w = .ok (.bool true) w := by
  go_simp
theorem eql_errno (a : Int) (w : World) : (binOp .eql 38 (.int .i64 a) (.int .i64 a)).run Try.prog w = .ok (.bool true) w := by go_simp

/-- what a call of both leaves -/
def Done (base b : Nat) (v : Value) (P : Nat → Prop) (w : World) (lv : Value) (xs : List W3) (w' : World) : Prop :=
  ∃ (v' : Value) (P' : Nat → Prop), Que base w' b v' xs ∧ Up xs ∧ Ch (QS b v) w w' ∧ (∀ q, Blk v' q → Blk v q ∨ w.heap.size ≤ q) ∧ Lst P' w' lv xs ∧ (∀ q, P' q → P q ∨ w.heap.size ≤ q) ∧ (∀ q, P' q → ¬ QS b v' q)
def Did (base b : Nat) (v : Value) (P : Nat → Prop) (w : World) (e : Ending) (w' : World) : Prop := ∃ (ao : Option Addr) (n cap : Nat) (xs : List W3), e = .returned (.tuple #[.slice ao n cap, .bool true]) ∧ Done base b v P w (.slice ao n cap) xs w'

/-- the document's first, then the program's -/
theorem done_of {base b : Nat} {v lv : Value} {P : Nat → Prop} {w w1 w2 : World} {xs ys : List W3} (hq : Que base w b v xs) (hP : ∀ q, P q → ¬ QS b v q) (hu : Up ys) (g1 : Ch NoB w w1) (hl : Lst (fun q => P q ∨ w.heap.size ≤ q) w1 lv ys) (h : Left base b v w1 ys w2) : Done base b v P w lv ys w2 := by
  obtain ⟨v', h1, h2, h3⟩ := h
  have hlt : ∀ q, QS b v q → q < w.heap.size := fun q e => by
    rcases e with e | e
    · rw [e]; exact hq.1.lt
    · exact (hq.2.1.blk e).2
  have hs := g1.size
  have hl1 : Lst (fun q => (P q ∨ w.heap.size ≤ q) ∧ q < w1.heap.size) w1 lv ys := hl.mono (fun q a c => ⟨c, a⟩)
  refine ⟨v', _, h1, hu, (g1.any (S := QS b v)).trans' h2, fun q e => (h3 q e).imp id (fun x => by omega), hl1.ch h2 (fun q _ c e => ?_), fun q c => c.1, fun q c e => ?_⟩
  · rcases c.1 with a | a
    · exact hP q a e
    · have := hlt q e; omega
  · rcases e with e | e
    · rcases c.1 with a | a
      · exact hP q a (.inl e)
      · have := hlt q (.inl e); omega
    · rcases h3 q e with a | a
      · rcases c.1 with d | d
        · exact hP q d (.inr a)
        · have := hlt q (.inr a); omega
      · have := c.2; omega
/-- where nothing is turned -/
theorem done_same {base b : Nat} {v lv : Value} {P : Nat → Prop} {w w1 : World} {xs : List W3} (hq : Que base w b v xs) (hP : ∀ q, P q → ¬ QS b v q) (hu : Up xs) (g1 : Ch NoB w w1) (hl : Lst P w lv xs) : Done base b v P w lv xs w1 :=
  ⟨v, P, hq.ch g1 (fun _ _ => noB _), hu, g1.any, fun _ e => .inl e, hl.ch g1 (fun _ _ _ => noB _), fun _ c => .inl c, hP⟩
theorem Done.more {base b : Nat} {v lv : Value} {P : Nat → Prop} {w w1 w2 : World} {xs : List W3} (h : Done base b v P w lv xs w1) (g : Ch NoB w1 w2) : Done base b v P w lv xs w2 := by
  obtain ⟨v', P', h1, h2, h3, h4, h5, h6, h7⟩ := h
  exact ⟨v', P', h1.ch g (fun _ _ => noB _), h2, h3.trans g (fun _ e => e.elim), h4, h5.ch g (fun _ _ _ => noB _), h6, h7⟩

theorem up_iff (xs : List W3) : Up xs ↔ xs.Pairwise (fun a b => a.t < b.t) := by
  rw [List.pairwise_iff_getElem]
  constructor
  · intro h i j hi hj hij
    exact h i j _ _ hij (List.getElem?_eq_getElem hi) (List.getElem?_eq_getElem hj)
  · intro h i j a b hij ha hb
    obtain ⟨hi, rfl⟩ := List.getElem?_eq_some_iff.1 ha
    obtain ⟨hj, rfl⟩ := List.getElem?_eq_some_iff.1 hb
    exact h i j hi hj hij
theorem up_sub {xs ys : List W3} (h : Up xs) (hs : ys.Sublist xs) : Up ys := (up_iff _).2 (((up_iff _).1 h).sublist hs)
theorem Three.put {w : World} {k : Nat} {x y : W3} (h : Three w k y) : Three (((w.setCell ⟨k, 0, none⟩ (.int .i64 x.s)).setCell ⟨k, 1, none⟩ (.int .i64 x.g)).setCell ⟨k, 2, none⟩ (.int .u64 x.t)) k x :=
  setCell_block (setCell_block (setCell_block h 0 _) 1 _) 2 _

set_option maxHeartbeats 2000000 in
set_option maxRecDepth 20000 in
theorem does_put (P : Nat → Prop) (base b : Nat) (v lv : Value) (xs : List W3) (x : W3) (p r : Int) (w : World) (hq : Que base w b v xs) (hu : Up xs) (hl : Lst P w lv xs) (hP : ∀ q, P q → ¬ QS b v q) (hb : base ≤ w.heap.size) :
    Calls Try.prog 11 #[.pointer (some ⟨b, 0, none⟩), lv, .agg #[.int .i64 0, .int .i64 x.s, .int .i64 x.g, .int .u64 x.t, .int .i64 p, .int .i64 r]] w fun e w' => Did base b v P w e w' := by
  obtain ⟨al, cl, rfl⟩ := hl.form
  have hbl := hq.1.lt
  have hbv : ∀ q, QS b v q → q < w.heap.size := fun q e => by
    rcases e with e | e
    · rw [e]; exact hbl
    · exact (hq.2.1.blk e).2
  have hlen := hq.2.2.2
  obtain ⟨W, hW⟩ : ∃ W, W = (w.alloc (.cells #[.int .i64 0, .int .i64 x.s, .int .i64 x.g, .int .u64 x.t, .int .i64 p, .int .i64 r] 35)).alloc (.cells #[.int .i64 0, .int .i64 0, .int .u64 0] 33) := ⟨_, rfl⟩
  have S0 : Six W w.heap.size 0 x p r := by rw [hW]; exact (Six.new w 0 x p r).alloc _
  have Z0 : Three W (w.heap.size + 1) W3.zero := by
    have := Three.new (w.alloc (.cells #[.int .i64 0, .int .i64 x.s, .int .i64 x.g, .int .u64 x.t, .int .i64 p, .int .i64 r] 35)) W3.zero
    simp only [World.size_alloc] at this
    rw [hW]; exact this
  have G0 : Ch NoB w W := by rw [hW]; exact ((Ch.refl _ _).alloc _).alloc _
  obtain ⟨s0, s1, s2, s3, s4, s5⟩ := S0.cells
  have sl := S0.lt
  have e1 := fun w => eql_errno (putE xs x) w
  have HQ := hid hq
  have HU := hid hu
  have HL := hid hl
  have HP := hid hP
  have HV := hid hbv
  have HS0 := hid S0
  have HZ0 := hid Z0
  have HG0 := hid G0
  clear hq hu hl hP hbv S0 Z0 G0
  go_enter Try.func11, Try.ntmps11
  go_wp2_with fail
  rw [← hW]
  clear hW
  refine (rput_any P _ xs x W (HL.out.ch HG0.out (fun _ _ _ => noB _)) hlen HU.out).mono ?_
  rintro e w1 ⟨ao1, c1, rfl, l1, g1⟩
  have hs0 := HG0.out.size
  have HL1 := hid (l1.mono (Q := fun q => P q ∨ w.heap.size ≤ q) (fun q _ h => h.imp id (fun h => by omega)))
  have HG1 := hid (HG0.out.trans' g1)
  have hs1 := HG1.out.size
  obtain ⟨t0, t1, t2, t3, t4, t5⟩ := (HS0.out.ch g1 (noB _)).cells
  have tl := (HS0.out.ch g1 (noB _)).lt
  clear l1 g1
  go_wp2_with fail
  refine (put_any base b v xs x w1 (HQ.out.ch HG1.out (fun _ _ => noB _)) HU.out (by omega)).mono ?_
  rintro e w2 ⟨rfl, l2⟩
  have HD := hid (done_of HQ.out HP.out (up_put HU.out x) HG1.out HL1.out l2)
  clear l2
  go_wp2
  exact bodyPost_ret (v := .tuple #[.slice ao1 (putL xs x).length c1, .bool true]) (by simp [results, Try.results11, go_sem]) rfl ⟨_, _, _, _, rfl, HD.out⟩

set_option maxHeartbeats 2000000 in
set_option maxRecDepth 20000 in
theorem does_take0 (P : Nat → Prop) (base b : Nat) (v lv : Value) (xs : List W3) (x : W3) (p r : Int) (w : World) (hq : Que base w b v xs) (hu : Up xs) (hl : Lst P w lv xs) (hP : ∀ q, P q → ¬ QS b v q) (_hb : base ≤ w.heap.size) (hx0 : xs = []) :
    Calls Try.prog 11 #[.pointer (some ⟨b, 0, none⟩), lv, .agg #[.int .i64 1, .int .i64 x.s, .int .i64 x.g, .int .u64 x.t, .int .i64 p, .int .i64 r]] w fun e w' => Did base b v P w e w' := by
  obtain ⟨al, cl, rfl⟩ := hl.form
  have hbl := hq.1.lt
  have hbv : ∀ q, QS b v q → q < w.heap.size := fun q e => by
    rcases e with e | e
    · rw [e]; exact hbl
    · exact (hq.2.1.blk e).2
  have hlen := hq.2.2.2
  obtain ⟨W, hW⟩ : ∃ W, W = (w.alloc (.cells #[.int .i64 1, .int .i64 x.s, .int .i64 x.g, .int .u64 x.t, .int .i64 p, .int .i64 r] 35)).alloc (.cells #[.int .i64 0, .int .i64 0, .int .u64 0] 33) := ⟨_, rfl⟩
  have S0 : Six W w.heap.size 1 x p r := by rw [hW]; exact (Six.new w 1 x p r).alloc _
  have Z0 : Three W (w.heap.size + 1) W3.zero := by
    have := Three.new (w.alloc (.cells #[.int .i64 1, .int .i64 x.s, .int .i64 x.g, .int .u64 x.t, .int .i64 p, .int .i64 r] 35)) W3.zero
    simp only [World.size_alloc] at this
    rw [hW]; exact this
  have G0 : Ch NoB w W := by rw [hW]; exact ((Ch.refl _ _).alloc _).alloc _
  obtain ⟨s0, s1, s2, s3, s4, s5⟩ := S0.cells
  have sl := S0.lt
  have e0 := fun w => eql_w3 W3.zero w
  subst hx0
  have HQ := hid hq
  have HU := hid hu
  have HL := hid hl
  have HP := hid hP
  have HV := hid hbv
  have HS0 := hid S0
  have HZ0 := hid Z0
  have HG0 := hid G0
  clear hq hu hl hP hbv S0 Z0 G0
  go_enter Try.func11, Try.ntmps11
  go_wp2_with fail
  rw [← hW]
  clear hW
  refine (rtake_none _ W ⟨al, cl, rfl⟩).mono ?_
  rintro e w1 ⟨rfl, g1⟩
  have HG1 := hid (HG0.out.trans' g1)
  have hs0 := HG0.out.size
  have HS1 := hid (HS0.out.ch g1 (noB _))
  obtain ⟨t0, t1, t2, t3, t4, t5⟩ := HS1.out.cells
  have tl := HS1.out.lt
  have HZ1 := hid (HZ0.out.ch g1 (noB _))
  obtain ⟨z0, z1, z2⟩ := HZ1.out.cells
  have f0 := HZ1.out.frozen 0
  have f1 := HZ1.out.frozen 1
  have f2 := HZ1.out.frozen 2
  have zl := HZ1.out.lt
  have zl0 := HZ0.out.lt
  clear g1
  go_wp2_with fail
  obtain ⟨W2, hW2⟩ : ∃ W2, W2 = ((w1.setCell ⟨w.heap.size + 1, 0, none⟩ (.int .i64 0)).setCell ⟨w.heap.size + 1, 1, none⟩ (.int .i64 0)).setCell ⟨w.heap.size + 1, 2, none⟩ (.int .u64 0) := ⟨_, rfl⟩
  have HZ2 := hid (show Three W2 (w.heap.size + 1) W3.zero by rw [hW2]; exact HZ1.out.put (x := W3.zero))
  have C2 : Ch (Only (w.heap.size + 1)) w1 W2 := by rw [hW2]; exact Ch.own (Ch.own (Ch.own (Ch.refl _ _) _ _) _ _) _ _
  have HG2 := hid (show Ch NoB w W2 from HG1.out.trans C2 (fun q e => .inr (by have : q = w.heap.size + 1 := e; omega)))
  have HS2 := hid (HS1.out.ch C2 (fun e => by have : w.heap.size = w.heap.size + 1 := e; omega))
  obtain ⟨y0, y1, y2, y3, y4, y5⟩ := HS2.out.cells
  have yl := HS2.out.lt
  rw [← hW2]
  clear hW2 C2
  refine (take_none base b v W2 (HQ.out.ch HG2.out (fun _ _ => noB _))).mono ?_
  rintro e w3 ⟨rfl, g3⟩
  have HG3 := hid (HG2.out.trans' g3)
  have HZ3 := hid (HZ2.out.ch g3 (noB _))
  obtain ⟨x0, x1, x2⟩ := HZ3.out.cells
  have xl := HZ3.out.lt
  clear g3
  go_wp2
  exact bodyPost_ret (v := .tuple #[.slice al 0 cl, .bool true]) (by simp [results, Try.results11, go_sem]) rfl ⟨_, _, _, _, rfl, done_same HQ.out HP.out HU.out (HG3.out.alloc _) HL.out⟩

set_option maxHeartbeats 2000000 in
set_option maxRecDepth 20000 in
theorem does_take1 (P : Nat → Prop) (base b : Nat) (v lv : Value) (xs : List W3) (x : W3) (p r : Int) (y : W3) (t : List W3) (w : World) (hq : Que base w b v xs) (hu : Up xs) (hl : Lst P w lv xs) (hP : ∀ q, P q → ¬ QS b v q) (_hb : base ≤ w.heap.size) (hx0 : xs = y :: t) :
    Calls Try.prog 11 #[.pointer (some ⟨b, 0, none⟩), lv, .agg #[.int .i64 1, .int .i64 x.s, .int .i64 x.g, .int .u64 x.t, .int .i64 p, .int .i64 r]] w fun e w' => Did base b v P w e w' := by
  obtain ⟨al, cl, rfl⟩ := hl.form
  have hbl := hq.1.lt
  have hbv : ∀ q, QS b v q → q < w.heap.size := fun q e => by
    rcases e with e | e
    · rw [e]; exact hbl
    · exact (hq.2.1.blk e).2
  have hlen := hq.2.2.2
  obtain ⟨W, hW⟩ : ∃ W, W = (w.alloc (.cells #[.int .i64 1, .int .i64 x.s, .int .i64 x.g, .int .u64 x.t, .int .i64 p, .int .i64 r] 35)).alloc (.cells #[.int .i64 0, .int .i64 0, .int .u64 0] 33) := ⟨_, rfl⟩
  have S0 : Six W w.heap.size 1 x p r := by rw [hW]; exact (Six.new w 1 x p r).alloc _
  have Z0 : Three W (w.heap.size + 1) W3.zero := by
    have := Three.new (w.alloc (.cells #[.int .i64 1, .int .i64 x.s, .int .i64 x.g, .int .u64 x.t, .int .i64 p, .int .i64 r] 35)) W3.zero
    simp only [World.size_alloc] at this
    rw [hW]; exact this
  have G0 : Ch NoB w W := by rw [hW]; exact ((Ch.refl _ _).alloc _).alloc _
  obtain ⟨s0, s1, s2, s3, s4, s5⟩ := S0.cells
  have sl := S0.lt
  have e0 := fun w => eql_w3 y w
  have HX0 := hid hx0
  clear hx0
  have HT := hid (fun W' (h : Lst P W' (.slice al xs.length cl) xs) => rtake_some P (.slice al xs.length cl) y xs W' h (by rw [HX0.out]; rfl) hlen)
  obtain ⟨L, hL⟩ : ∃ L, L = xs.eraseIdx 0 := ⟨_, rfl⟩
  rw [← hL] at HT
  have HLt := hid (show L = t by rw [hL, HX0.out]; rfl)
  have HLu := hid (show Up L by rw [hL]; exact up_sub hu (List.eraseIdx_sublist _ _))
  clear hL
  have HQ := hid hq
  have HU := hid hu
  have HL := hid hl
  have HP := hid hP
  have HV := hid hbv
  have HS0 := hid S0
  have HZ0 := hid Z0
  have HG0 := hid G0
  clear hq hu hl hP hbv S0 Z0 G0
  go_enter Try.func11, Try.ntmps11
  go_wp2_with fail
  rw [← hW]
  clear hW
  refine (HT.out W (HL.out.ch HG0.out (fun _ _ _ => noB _))).mono ?_
  rintro e w1 ⟨v1, rfl, o1, g1⟩
  obtain ⟨ao1, c1, rfl⟩ := o1.form
  have hs0 := HG0.out.size
  have HL1L := hid (o1.lst.mono (Q := fun q => (P q ∨ w.heap.size ≤ q) ∧ W.heap.size ≤ q) (fun q _ h => ⟨.inr (by omega), h⟩))
  have HG1 := hid (HG0.out.trans' g1)
  have hs1 := HG1.out.size
  have HS1 := hid (HS0.out.ch g1 (noB _))
  obtain ⟨t0, t1, t2, t3, t4, t5⟩ := HS1.out.cells
  have tl := HS1.out.lt
  have HZ1 := hid (HZ0.out.ch g1 (noB _))
  obtain ⟨z0, z1, z2⟩ := HZ1.out.cells
  have f0 := HZ1.out.frozen 0
  have f1 := HZ1.out.frozen 1
  have f2 := HZ1.out.frozen 2
  have zl := HZ1.out.lt
  have zl0 := HZ0.out.lt
  clear o1 g1
  go_wp2_with fail
  obtain ⟨W2, hW2⟩ : ∃ W2, W2 = ((w1.setCell ⟨w.heap.size + 1, 0, none⟩ (.int .i64 y.s)).setCell ⟨w.heap.size + 1, 1, none⟩ (.int .i64 y.g)).setCell ⟨w.heap.size + 1, 2, none⟩ (.int .u64 y.t) := ⟨_, rfl⟩
  have HZ2 := hid (show Three W2 (w.heap.size + 1) y by rw [hW2]; exact HZ1.out.put)
  have C2 : Ch (Only (w.heap.size + 1)) w1 W2 := by rw [hW2]; exact Ch.own (Ch.own (Ch.own (Ch.refl _ _) _ _) _ _) _ _
  have HG2 := hid (show Ch NoB w W2 from HG1.out.trans C2 (fun q e => .inr (by have : q = w.heap.size + 1 := e; omega)))
  have HL2 := hid (HL1L.out.ch C2 (fun q _ h e => by have : q = w.heap.size + 1 := e; have := h.2; omega))
  have HS2 := hid (HS1.out.ch C2 (fun e => by have : w.heap.size = w.heap.size + 1 := e; omega))
  obtain ⟨y0, y1, y2, y3, y4, y5⟩ := HS2.out.cells
  have yl := HS2.out.lt
  rw [← hW2]
  clear hW2 C2
  refine (take_some base b v y t W2 (by have := HQ.out.ch HG2.out (fun _ _ => noB _); rw [HX0.out] at this; exact this)).mono ?_
  rintro e w3 ⟨rfl, l3⟩
  have HD := hid (done_of HQ.out HP.out (HLu.out) HG2.out (HL2.out.mono (fun q _ h => h.1)) (by rw [HLt.out]; exact l3))
  have HZ3 := hid (HZ2.out.ch l3.choose_spec.2.1 (fun e => by have := HV.out _ e; omega))
  obtain ⟨x0, x1, x2⟩ := HZ3.out.cells
  have xl := HZ3.out.lt
  clear l3
  go_wp2
  exact bodyPost_ret (v := .tuple #[.slice ao1 L.length c1, .bool true]) (by simp [results, Try.results11, go_sem]) rfl ⟨_, _, _, _, rfl, HD.out.more ((Ch.refl _ _).alloc _)⟩

set_option maxHeartbeats 2000000 in
set_option maxRecDepth 20000 in
theorem does_drop0 (P : Nat → Prop) (base b : Nat) (v lv : Value) (xs : List W3) (x : W3) (p r : Int) (w : World) (hq : Que base w b v xs) (hu : Up xs) (hl : Lst P w lv xs) (hP : ∀ q, P q → ¬ QS b v q) (_hb : base ≤ w.heap.size) (hat : atG x.s x.g xs = -1) :
    Calls Try.prog 11 #[.pointer (some ⟨b, 0, none⟩), lv, .agg #[.int .i64 3, .int .i64 x.s, .int .i64 x.g, .int .u64 x.t, .int .i64 p, .int .i64 r]] w fun e w' => Did base b v P w e w' := by
  obtain ⟨al, cl, rfl⟩ := hl.form
  have hbl := hq.1.lt
  have hbv : ∀ q, QS b v q → q < w.heap.size := fun q e => by
    rcases e with e | e
    · rw [e]; exact hbl
    · exact (hq.2.1.blk e).2
  have hlen := hq.2.2.2
  obtain ⟨W, hW⟩ : ∃ W, W = (w.alloc (.cells #[.int .i64 3, .int .i64 x.s, .int .i64 x.g, .int .u64 x.t, .int .i64 p, .int .i64 r] 35)).alloc (.cells #[.int .i64 0, .int .i64 0, .int .u64 0] 33) := ⟨_, rfl⟩
  have S0 : Six W w.heap.size 3 x p r := by rw [hW]; exact (Six.new w 3 x p r).alloc _
  have Z0 : Three W (w.heap.size + 1) W3.zero := by
    have := Three.new (w.alloc (.cells #[.int .i64 3, .int .i64 x.s, .int .i64 x.g, .int .u64 x.t, .int .i64 p, .int .i64 r] 35)) W3.zero
    simp only [World.size_alloc] at this
    rw [hW]; exact this
  have G0 : Ch NoB w W := by rw [hW]; exact ((Ch.refl _ _).alloc _).alloc _
  obtain ⟨s0, s1, s2, s3, s4, s5⟩ := S0.cells
  have sl := S0.lt
  have e0 := fun w => eql_w3 W3.zero w
  have HD0 := hid (fun W' (h : Lst P W' (.slice al xs.length cl) xs) => rdrop_none P (.slice al xs.length cl) xs x.s x.g W' h hlen hat)
  have HD1 := hid (fun W' (h : Que base W' b v xs) => drop_none base b v xs x.s x.g W' h hat)
  clear hat
  have HQ := hid hq
  have HU := hid hu
  have HL := hid hl
  have HP := hid hP
  have HV := hid hbv
  have HS0 := hid S0
  have HZ0 := hid Z0
  have HG0 := hid G0
  clear hq hu hl hP hbv S0 Z0 G0
  go_enter Try.func11, Try.ntmps11
  go_wp2_with fail
  rw [← hW]
  clear hW
  refine (HD0.out W (HL.out.ch HG0.out (fun _ _ _ => noB _))).mono ?_
  rintro e w1 ⟨rfl, g1⟩
  have HG1 := hid (HG0.out.trans' g1)
  have hs0 := HG0.out.size
  have HS1 := hid (HS0.out.ch g1 (noB _))
  obtain ⟨t0, t1, t2, t3, t4, t5⟩ := HS1.out.cells
  have tl := HS1.out.lt
  have HZ1 := hid (HZ0.out.ch g1 (noB _))
  obtain ⟨z0, z1, z2⟩ := HZ1.out.cells
  have f0 := HZ1.out.frozen 0
  have f1 := HZ1.out.frozen 1
  have f2 := HZ1.out.frozen 2
  have zl := HZ1.out.lt
  have zl0 := HZ0.out.lt
  clear g1
  go_wp2_with fail
  obtain ⟨W2, hW2⟩ : ∃ W2, W2 = ((w1.setCell ⟨w.heap.size + 1, 0, none⟩ (.int .i64 0)).setCell ⟨w.heap.size + 1, 1, none⟩ (.int .i64 0)).setCell ⟨w.heap.size + 1, 2, none⟩ (.int .u64 0) := ⟨_, rfl⟩
  have HZ2 := hid (show Three W2 (w.heap.size + 1) W3.zero by rw [hW2]; exact HZ1.out.put (x := W3.zero))
  have C2 : Ch (Only (w.heap.size + 1)) w1 W2 := by rw [hW2]; exact Ch.own (Ch.own (Ch.own (Ch.refl _ _) _ _) _ _) _ _
  have HG2 := hid (show Ch NoB w W2 from HG1.out.trans C2 (fun q e => .inr (by have : q = w.heap.size + 1 := e; omega)))
  have HS2 := hid (HS1.out.ch C2 (fun e => by have : w.heap.size = w.heap.size + 1 := e; omega))
  obtain ⟨y0, y1, y2, y3, y4, y5⟩ := HS2.out.cells
  have yl := HS2.out.lt
  rw [← hW2]
  clear hW2 C2
  refine (HD1.out W2 (HQ.out.ch HG2.out (fun _ _ => noB _))).mono ?_
  rintro e w3 ⟨rfl, g3⟩
  have HG3 := hid (HG2.out.trans' g3)
  have HZ3 := hid (HZ2.out.ch g3 (noB _))
  obtain ⟨x0, x1, x2⟩ := HZ3.out.cells
  have xl := HZ3.out.lt
  clear g3
  go_wp2
  exact bodyPost_ret (v := .tuple #[.slice al xs.length cl, .bool true]) (by simp [results, Try.results11, go_sem]) rfl ⟨_, _, _, _, rfl, done_same HQ.out HP.out HU.out (HG3.out.alloc _) HL.out⟩

set_option maxHeartbeats 2000000 in
set_option maxRecDepth 20000 in
theorem does_drop1 (P : Nat → Prop) (base b : Nat) (v lv : Value) (xs : List W3) (x : W3) (p r : Int) (y : W3) (k : Nat) (w : World) (hq : Que base w b v xs) (hu : Up xs) (hl : Lst P w lv xs) (hP : ∀ q, P q → ¬ QS b v q) (_hb : base ≤ w.heap.size) (hat : atG x.s x.g xs = (k : Int)) (hy : xs[k]? = some y) :
    Calls Try.prog 11 #[.pointer (some ⟨b, 0, none⟩), lv, .agg #[.int .i64 3, .int .i64 x.s, .int .i64 x.g, .int .u64 x.t, .int .i64 p, .int .i64 r]] w fun e w' => Did base b v P w e w' := by
  obtain ⟨al, cl, rfl⟩ := hl.form
  have hbl := hq.1.lt
  have hbv : ∀ q, QS b v q → q < w.heap.size := fun q e => by
    rcases e with e | e
    · rw [e]; exact hbl
    · exact (hq.2.1.blk e).2
  have hlen := hq.2.2.2
  obtain ⟨W, hW⟩ : ∃ W, W = (w.alloc (.cells #[.int .i64 3, .int .i64 x.s, .int .i64 x.g, .int .u64 x.t, .int .i64 p, .int .i64 r] 35)).alloc (.cells #[.int .i64 0, .int .i64 0, .int .u64 0] 33) := ⟨_, rfl⟩
  have S0 : Six W w.heap.size 3 x p r := by rw [hW]; exact (Six.new w 3 x p r).alloc _
  have Z0 : Three W (w.heap.size + 1) W3.zero := by
    have := Three.new (w.alloc (.cells #[.int .i64 3, .int .i64 x.s, .int .i64 x.g, .int .u64 x.t, .int .i64 p, .int .i64 r] 35)) W3.zero
    simp only [World.size_alloc] at this
    rw [hW]; exact this
  have G0 : Ch NoB w W := by rw [hW]; exact ((Ch.refl _ _).alloc _).alloc _
  obtain ⟨s0, s1, s2, s3, s4, s5⟩ := S0.cells
  have sl := S0.lt
  have e0 := fun w => eql_w3 y w
  have HD0 := hid (fun W' (h : Lst P W' (.slice al xs.length cl) xs) => rdrop_some P (.slice al xs.length cl) xs x.s x.g k y W' h hlen hat hy)
  have HD1 := hid (fun W' (h : Que base W' b v xs) => drop_some base b k v xs x.s x.g y W' h hat hy)
  rw [← erase_cut] at HD1
  obtain ⟨L, hL⟩ : ∃ L, L = xs.eraseIdx k := ⟨_, rfl⟩
  rw [← hL] at HD0 HD1
  have HLu := hid (show Up L by rw [hL]; exact up_sub hu (List.eraseIdx_sublist _ _))
  clear hat hy hL
  have HQ := hid hq
  have HU := hid hu
  have HL := hid hl
  have HP := hid hP
  have HV := hid hbv
  have HS0 := hid S0
  have HZ0 := hid Z0
  have HG0 := hid G0
  clear hq hu hl hP hbv S0 Z0 G0
  go_enter Try.func11, Try.ntmps11
  go_wp2_with fail
  rw [← hW]
  clear hW
  refine (HD0.out W (HL.out.ch HG0.out (fun _ _ _ => noB _))).mono ?_
  rintro e w1 ⟨v1, rfl, o1, g1⟩
  obtain ⟨ao1, c1, rfl⟩ := o1.form
  have hs0 := HG0.out.size
  have HL1L := hid (o1.lst.mono (Q := fun q => (P q ∨ w.heap.size ≤ q) ∧ W.heap.size ≤ q) (fun q _ h => ⟨.inr (by omega), h⟩))
  have HG1 := hid (HG0.out.trans' g1)
  have hs1 := HG1.out.size
  have HS1 := hid (HS0.out.ch g1 (noB _))
  obtain ⟨t0, t1, t2, t3, t4, t5⟩ := HS1.out.cells
  have tl := HS1.out.lt
  have HZ1 := hid (HZ0.out.ch g1 (noB _))
  obtain ⟨z0, z1, z2⟩ := HZ1.out.cells
  have f0 := HZ1.out.frozen 0
  have f1 := HZ1.out.frozen 1
  have f2 := HZ1.out.frozen 2
  have zl := HZ1.out.lt
  have zl0 := HZ0.out.lt
  clear o1 g1
  go_wp2_with fail
  obtain ⟨W2, hW2⟩ : ∃ W2, W2 = ((w1.setCell ⟨w.heap.size + 1, 0, none⟩ (.int .i64 y.s)).setCell ⟨w.heap.size + 1, 1, none⟩ (.int .i64 y.g)).setCell ⟨w.heap.size + 1, 2, none⟩ (.int .u64 y.t) := ⟨_, rfl⟩
  have HZ2 := hid (show Three W2 (w.heap.size + 1) y by rw [hW2]; exact HZ1.out.put)
  have C2 : Ch (Only (w.heap.size + 1)) w1 W2 := by rw [hW2]; exact Ch.own (Ch.own (Ch.own (Ch.refl _ _) _ _) _ _) _ _
  have HG2 := hid (show Ch NoB w W2 from HG1.out.trans C2 (fun q e => .inr (by have : q = w.heap.size + 1 := e; omega)))
  have HL2 := hid (HL1L.out.ch C2 (fun q _ h e => by have : q = w.heap.size + 1 := e; have := h.2; omega))
  have HS2 := hid (HS1.out.ch C2 (fun e => by have : w.heap.size = w.heap.size + 1 := e; omega))
  obtain ⟨y0, y1, y2, y3, y4, y5⟩ := HS2.out.cells
  have yl := HS2.out.lt
  rw [← hW2]
  clear hW2 C2
  refine (HD1.out W2 (HQ.out.ch HG2.out (fun _ _ => noB _))).mono ?_
  rintro e w3 ⟨rfl, l3⟩
  have HD := hid (done_of HQ.out HP.out (HLu.out) HG2.out (HL2.out.mono (fun q _ h => h.1)) l3)
  have HZ3 := hid (HZ2.out.ch l3.choose_spec.2.1 (fun e => by have := HV.out _ e; omega))
  obtain ⟨x0, x1, x2⟩ := HZ3.out.cells
  have xl := HZ3.out.lt
  clear l3
  go_wp2
  exact bodyPost_ret (v := .tuple #[.slice ao1 L.length c1, .bool true]) (by simp [results, Try.results11, go_sem]) rfl ⟨_, _, _, _, rfl, HD.out.more ((Ch.refl _ _).alloc _)⟩

set_option maxHeartbeats 2000000 in
set_option maxRecDepth 20000 in
theorem does_ask (P : Nat → Prop) (base b : Nat) (v lv : Value) (xs : List W3) (x : W3) (p r : Int) (d : Int) (w : World) (hq : Que base w b v xs) (hu : Up xs) (hl : Lst P w lv xs) (hP : ∀ q, P q → ¬ QS b v q) (_hb : base ≤ w.heap.size) (h0 : ¬ d = 0) (h1 : ¬ d = 1) (h2 : ¬ d = 2) (h3 : ¬ d = 3) :
    Calls Try.prog 11 #[.pointer (some ⟨b, 0, none⟩), lv, .agg #[.int .i64 d, .int .i64 x.s, .int .i64 x.g, .int .u64 x.t, .int .i64 p, .int .i64 r]] w fun e w' => Did base b v P w e w' := by
  obtain ⟨al, cl, rfl⟩ := hl.form
  have hbl := hq.1.lt
  have hbv : ∀ q, QS b v q → q < w.heap.size := fun q e => by
    rcases e with e | e
    · rw [e]; exact hbl
    · exact (hq.2.1.blk e).2
  have hlen := hq.2.2.2
  obtain ⟨W, hW⟩ : ∃ W, W = (w.alloc (.cells #[.int .i64 d, .int .i64 x.s, .int .i64 x.g, .int .u64 x.t, .int .i64 p, .int .i64 r] 35)).alloc (.cells #[.int .i64 0, .int .i64 0, .int .u64 0] 33) := ⟨_, rfl⟩
  have S0 : Six W w.heap.size d x p r := by rw [hW]; exact (Six.new w d x p r).alloc _
  have Z0 : Three W (w.heap.size + 1) W3.zero := by
    have := Three.new (w.alloc (.cells #[.int .i64 d, .int .i64 x.s, .int .i64 x.g, .int .u64 x.t, .int .i64 p, .int .i64 r] 35)) W3.zero
    simp only [World.size_alloc] at this
    rw [hW]; exact this
  have G0 : Ch NoB w W := by rw [hW]; exact ((Ch.refl _ _).alloc _).alloc _
  obtain ⟨s0, s1, s2, s3, s4, s5⟩ := S0.cells
  have sl := S0.lt
  have b0 : (d == 0) = false := by simp; exact h0
  have b1 : (d == 1) = false := by simp; exact h1
  have b2 : (d == 2) = false := by simp; exact h2
  have b3 : (d == 3) = false := by simp; exact h3
  have HQ := hid hq
  have HU := hid hu
  have HL := hid hl
  have HP := hid hP
  have HV := hid hbv
  have HS0 := hid S0
  have HZ0 := hid Z0
  have HG0 := hid G0
  clear hq hu hl hP hbv S0 Z0 G0
  go_enter Try.func11, Try.ntmps11
  go_wp2_with fail
  rw [← hW]
  clear hW
  refine (told_any P base b v _ xs x.s x.g W (HQ.out.ch HG0.out (fun _ _ => noB _)) (HL.out.ch HG0.out (fun _ _ _ => noB _))).mono ?_
  rintro e w1 ⟨rfl, g1⟩
  have HG1 := hid (HG0.out.trans' g1)
  clear g1
  go_wp2
  exact bodyPost_ret (v := .tuple #[.slice al xs.length cl, .bool true]) (by simp [results, Try.results11, go_sem]) rfl ⟨_, _, _, _, rfl, done_same HQ.out HP.out HU.out HG1.out HL.out⟩

set_option maxHeartbeats 2000000 in
set_option maxRecDepth 20000 in
theorem does_batch0 (P : Nat → Prop) (base b : Nat) (v lv : Value) (xs : List W3) (x : W3) (p r : Int) (w : World) (hq : Que base w b v xs) (hu : Up xs) (hl : Lst P w lv xs) (hP : ∀ q, P q → ¬ QS b v q) (_hb : base ≤ w.heap.size) (hpr : p < 1 ∨ r < 0) :
    Calls Try.prog 11 #[.pointer (some ⟨b, 0, none⟩), lv, .agg #[.int .i64 2, .int .i64 x.s, .int .i64 x.g, .int .u64 x.t, .int .i64 p, .int .i64 r]] w fun e w' => Did base b v P w e w' := by
  obtain ⟨al, cl, rfl⟩ := hl.form
  have hbl := hq.1.lt
  have hbv : ∀ q, QS b v q → q < w.heap.size := fun q e => by
    rcases e with e | e
    · rw [e]; exact hbl
    · exact (hq.2.1.blk e).2
  have hlen := hq.2.2.2
  obtain ⟨W, hW⟩ : ∃ W, W = (w.alloc (.cells #[.int .i64 2, .int .i64 x.s, .int .i64 x.g, .int .u64 x.t, .int .i64 p, .int .i64 r] 35)).alloc (.cells #[.int .i64 0, .int .i64 0, .int .u64 0] 33) := ⟨_, rfl⟩
  have S0 : Six W w.heap.size 2 x p r := by rw [hW]; exact (Six.new w 2 x p r).alloc _
  have Z0 : Three W (w.heap.size + 1) W3.zero := by
    have := Three.new (w.alloc (.cells #[.int .i64 2, .int .i64 x.s, .int .i64 x.g, .int .u64 x.t, .int .i64 p, .int .i64 r] 35)) W3.zero
    simp only [World.size_alloc] at this
    rw [hW]; exact this
  have G0 : Ch NoB w W := by rw [hW]; exact ((Ch.refl _ _).alloc _).alloc _
  obtain ⟨s0, s1, s2, s3, s4, s5⟩ := S0.cells
  have sl := S0.lt
  have HPR := hid hpr
  clear hpr
  have HQ := hid hq
  have HU := hid hu
  have HL := hid hl
  have HP := hid hP
  have HV := hid hbv
  have HS0 := hid S0
  have HZ0 := hid Z0
  have HG0 := hid G0
  clear hq hu hl hP hbv S0 Z0 G0
  go_enter Try.func11, Try.ntmps11
  go_wp2_with fail
  rw [← hW]
  clear hW
  refine (rbatch_err _ p r _ ⟨_, _, _, rfl⟩ HPR.out).mono ?_
  rintro e w1 ⟨rfl, g1⟩
  have HG1 := hid ((HG0.out.alloc _).trans' g1)
  obtain ⟨t0, t1, t2, t3, t4, t5⟩ := ((HS0.out.alloc (.cells #[] 33)).ch g1 (noB _)).cells
  have tl := ((HS0.out.alloc (.cells #[] 33)).ch g1 (noB _)).lt
  clear g1
  go_wp2_with fail
  refine (batch_err b p r w1 HPR.out).mono ?_
  rintro e w2 ⟨rfl, g2⟩
  have HG2 := hid (HG1.out.trans' g2)
  clear g2
  go_wp2_with fail
  refine (same_eq NoB NoB _ _ [] w2 (Lst.nil _ _) (Lst.nil _ _) (by simp)).mono ?_
  rintro e w3 ⟨rfl, m, rfl⟩
  go_wp2
  exact bodyPost_ret (v := .tuple #[.slice al xs.length cl, .bool true]) (by simp [results, Try.results11, go_sem]) rfl ⟨_, _, _, _, rfl, done_same HQ.out HP.out HU.out (HG2.out.drewN _) HL.out⟩

set_option maxHeartbeats 2000000 in
set_option maxRecDepth 20000 in
theorem does_batch1 (P : Nat → Prop) (base b : Nat) (v lv : Value) (xs : List W3) (x : W3) (p r : Int) (w : World) (hq : Que base w b v xs) (hu : Up xs) (hl : Lst P w lv xs) (hP : ∀ q, P q → ¬ QS b v q) (_hb : base ≤ w.heap.size) (hp : ¬ p < 1) (hr : ¬ r < 0) :
    Calls Try.prog 11 #[.pointer (some ⟨b, 0, none⟩), lv, .agg #[.int .i64 2, .int .i64 x.s, .int .i64 x.g, .int .u64 x.t, .int .i64 p, .int .i64 r]] w fun e w' => Did base b v P w e w' := by
  obtain ⟨al, cl, rfl⟩ := hl.form
  have hbl := hq.1.lt
  have hbv : ∀ q, QS b v q → q < w.heap.size := fun q e => by
    rcases e with e | e
    · rw [e]; exact hbl
    · exact (hq.2.1.blk e).2
  have hlen := hq.2.2.2
  obtain ⟨W, hW⟩ : ∃ W, W = (w.alloc (.cells #[.int .i64 2, .int .i64 x.s, .int .i64 x.g, .int .u64 x.t, .int .i64 p, .int .i64 r] 35)).alloc (.cells #[.int .i64 0, .int .i64 0, .int .u64 0] 33) := ⟨_, rfl⟩
  have S0 : Six W w.heap.size 2 x p r := by rw [hW]; exact (Six.new w 2 x p r).alloc _
  have Z0 : Three W (w.heap.size + 1) W3.zero := by
    have := Three.new (w.alloc (.cells #[.int .i64 2, .int .i64 x.s, .int .i64 x.g, .int .u64 x.t, .int .i64 p, .int .i64 r] 35)) W3.zero
    simp only [World.size_alloc] at this
    rw [hW]; exact this
  have G0 : Ch NoB w W := by rw [hW]; exact ((Ch.refl _ _).alloc _).alloc _
  obtain ⟨s0, s1, s2, s3, s4, s5⟩ := S0.cells
  have sl := S0.lt
  obtain ⟨D, hD⟩ : ∃ D, D = xs.drop (batchN p r xs.length) := ⟨_, rfl⟩
  obtain ⟨T, hT⟩ : ∃ T, T = xs.take (batchN p r xs.length) := ⟨_, rfl⟩
  have hR := fun W' (h : Lst (fun q => P q ∧ q < w.heap.size) W' (.slice al xs.length cl) xs) (hw : w.heap.size ≤ W'.heap.size) => rbatch_any (fun q => P q ∧ q < w.heap.size) (.slice al xs.length cl) p r xs W' h hlen hp hr (fun q h => by have := h.2; omega)
  have hC := fun W' (h : Que base W' b v xs) => batch_any base b v p r xs W' h hp hr
  rw [← hD, ← hT] at hR hC
  have HLu := hid (show Up D by rw [hD]; exact up_sub hu (List.drop_sublist _ _))
  have HTl := hid (show T.length ≤ 1000000 by rw [hT, List.length_take]; omega)
  have HR := hid hR
  have HC := hid hC
  clear hR hC hD hT hp hr
  have HQ := hid hq
  have HU := hid hu
  have HL := hid hl
  have HP := hid hP
  have HV := hid hbv
  have HS0 := hid S0
  have HZ0 := hid Z0
  have HG0 := hid G0
  clear hq hu hl hP hbv S0 Z0 G0
  go_enter Try.func11, Try.ntmps11
  go_wp2_with fail
  rw [← hW]
  clear hW
  refine (HR.out _ (((HL.out.mono (Q := fun q => P q ∧ q < w.heap.size) (fun q a c => ⟨c, a⟩)).ch HG0.out (fun _ _ _ => noB _)).alloc _) (by have := HG0.out.size; simp; omega)).mono ?_
  rintro e w1 ⟨ao1, c1, out1, rfl, l1, o1, g1⟩
  obtain ⟨aq1, cq1, rfl⟩ := o1.form
  have hs0 := HG0.out.size
  simp only [World.size_alloc] at l1 o1
  have HG1 := hid ((HG0.out.alloc _).trans' g1)
  have hs1 := HG1.out.size
  have HL1 := hid (l1.mono (Q := fun q => P q ∨ w.heap.size ≤ q) (fun q _ h => h.elim (fun h => .inl h.1) (fun h => .inr (by omega))))
  have HO1 := hid o1
  obtain ⟨t0, t1, t2, t3, t4, t5⟩ := ((HS0.out.alloc (.cells #[] 33)).ch g1 (noB _)).cells
  have tl := ((HS0.out.alloc (.cells #[] 33)).ch g1 (noB _)).lt
  clear l1 o1 g1
  go_wp2_with fail
  refine (HC.out w1 (HQ.out.ch HG1.out (fun _ _ => noB _))).mono ?_
  rintro e w2 ⟨out2, rfl, o2, l2⟩
  obtain ⟨aq2, cq2, rfl⟩ := o2.form
  have HD := hid (done_of HQ.out HP.out HLu.out HG1.out HL1.out l2)
  have HO2 := hid o2
  have HO12 := hid (HO1.out.ch l2.choose_spec.2.1 (fun q h e => by have := (HO1.out.blk h).1; have := HV.out _ e; omega))
  clear o2 l2
  go_wp2_with fail
  refine (same_eq _ _ _ _ T w2 HO2.out.lst HO12.out.lst HTl.out).mono ?_
  rintro e w3 ⟨rfl, m, rfl⟩
  go_wp2
  exact bodyPost_ret (v := .tuple #[.slice ao1 D.length c1, .bool true]) (by simp [results, Try.results11, go_sem]) rfl ⟨_, _, _, _, rfl, HD.out.more ((Ch.refl _ _).drewN _)⟩

theorem does_any (P : Nat → Prop) (base b : Nat) (v lv : Value) (xs : List W3) (d : Int) (x : W3) (p r : Int) (w : World) (hq : Que base w b v xs) (hu : Up xs) (hl : Lst P w lv xs) (hP : ∀ q, P q → ¬ QS b v q) (hb : base ≤ w.heap.size) :
    Calls Try.prog 11 #[.pointer (some ⟨b, 0, none⟩), lv, .agg #[.int .i64 d, .int .i64 x.s, .int .i64 x.g, .int .u64 x.t, .int .i64 p, .int .i64 r]] w fun e w' => Did base b v P w e w' := by
  by_cases h0 : d = 0
  · subst h0; exact does_put P base b v lv xs x p r w hq hu hl hP hb
  by_cases h1 : d = 1
  · subst h1
    cases hx : xs with
    | nil => subst hx; exact does_take0 P base b v lv [] x p r w hq hu hl hP hb rfl
    | cons y t => subst hx; exact does_take1 P base b v lv (y :: t) x p r y t w hq hu hl hP hb rfl
  by_cases h2 : d = 2
  · subst h2
    by_cases hpr : p < 1 ∨ r < 0
    · exact does_batch0 P base b v lv xs x p r w hq hu hl hP hb hpr
    · exact does_batch1 P base b v lv xs x p r w hq hu hl hP hb (by omega) (by omega)
  by_cases h3 : d = 3
  · subst h3
    cases hf : xs.findIdx? (isG x.s x.g) with
    | none => exact does_drop0 P base b v lv xs x p r w hq hu hl hP hb (by unfold atG; rw [hf])
    | some k =>
      obtain ⟨hk, _⟩ := List.findIdx?_eq_some_iff_getElem.1 hf
      exact does_drop1 P base b v lv xs x p r _ k w hq hu hl hP hb (by unfold atG; rw [hf]) (List.getElem?_eq_getElem hk)
  exact does_ask P base b v lv xs x p r d w hq hu hl hP hb h0 h1 h2 h3
end Go.Proofs.Ytphohfafehjafaa.Ff
