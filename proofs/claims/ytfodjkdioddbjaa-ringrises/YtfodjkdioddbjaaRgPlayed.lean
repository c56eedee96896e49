/-
  What 'played' of the statements answers: two rings behind calls, what went in, what came out; nobody is lost, nobody doubled, turns rise. Condition: the list of calls is there, and takes no more bytes than a slice may.
-/
import Derived.Test.YtfodjkdioddbjaaRgOwnList
import Derived.Deep.DeepCutAuto
import Derived.Deep.CutBlock
namespace Go.Proofs.Ytfodjkdioddbjaa.Rg
open Go.RowKit
attribute [local go_sem ↓] Go.wp_at_zero Go.wp_at_succ

/-- the pair with which 'played' goes on: the document's two are not used -/
def pairOf (b c : Nat) (n : Int) : Array Value := #[.pointer (some ⟨b, 0, none⟩), .pointer (some ⟨c, 0, none⟩), .slice none 0 0, .bool false, .int .i64 0, .int .i64 0, .int .u64 0, .slice none 0 0, .bool false, .int .i64 0, .int .i64 0, .int .u64 0, .int .i64 n]
/-- all that is in two rings -/
def allOf (xs : List W3) (nx : Option W3) (zs : List W3) (ny : Option W3) : List W3 := (xs ++ nx.toList) ++ (zs ++ ny.toList)
/-- where 'played' stands behind j calls -/
def Kept (b c pk B j : Nat) (w : World) (iv ov : Value) (wr : World) : Prop :=
  ∃ (IN OUT xs zs : List W3) (nx ny : Option W3) (n : Int), (n = 0 ∨ n = 1) ∧ Pair wr pk (pairOf b c n) ∧ RingAt wr b xs nx ∧ RingAt wr c zs ny ∧ Own B wr iv IN ∧ Own B wr ov OUT ∧ (∀ q, Blk iv q → ¬ Blk ov q) ∧
    IN.Perm (OUT ++ allOf xs nx zs ny) ∧ IN.length ≤ j ∧ upB (xs ++ nx.toList) = true ∧ upB (zs ++ ny.toList) = true ∧ Ch NoB w wr
/-- three blocks alone -/
def Tri (b c pk : Nat) : Nat → Prop := fun q => q = b ∨ q = c ∨ q = pk
/-- what a call leaves of the rings -/
def Moved (b c pk k1 k2 : Nat) (d : Int) (x : W3) (xs zs : List W3) (nx ny : Option W3) (wr : World) (lv ev : Value) (wm : World) : Prop :=
  ∃ (L xs' zs' : List W3) (nx' ny' : Option W3) (X : W3) (E n' : Int), ev = .int .i64 E ∧ (n' = 0 ∨ n' = 1) ∧ Lst (wr.heap.size ≤ ·) wm lv L ∧ Pair wm pk (pairOf b c n') ∧ RingAt wm b xs' nx' ∧ RingAt wm c zs' ny' ∧ Four wm k1 d x ∧ Three wm k2 X ∧
    ((if (d = 0 ∨ d = 1) ∧ E = 0 then [x] else []) ++ allOf xs nx zs ny).Perm ((if (d = 3 ∨ d = 5) ∧ E = 0 then [X] else []) ++ (L ++ allOf xs' nx' zs' ny')) ∧
    (upB (xs ++ nx.toList) = true → upB (zs ++ ny.toList) = true → upB (xs' ++ nx'.toList) = true ∧ upB (zs' ++ ny'.toList) = true) ∧ Ch (Tri b c pk) wr wm

theorem moved0 {i o l R R' S : List W3} (h : (i ++ R).Perm (o ++ (l ++ R'))) : (i ++ (R ++ S)).Perm (o ++ (l ++ (R' ++ S))) := by
  have := h.append_right S
  simpa [List.append_assoc] using this
theorem moved1 {i o l R R' S : List W3} (h : (i ++ R).Perm (o ++ (l ++ R'))) : (i ++ (S ++ R)).Perm (o ++ (l ++ (S ++ R'))) :=
  ((List.perm_append_comm (l₁ := S) (l₂ := R)).append_left i).trans ((moved0 h).trans (((List.perm_append_comm (l₁ := R') (l₂ := S)).append_left l).append_left o))
theorem kick_up2 {ps : List W3} {nx : Option W3} (h : upB (ps ++ nx.toList) = true) : upB (kickP ps nx ++ (none : Option W3).toList) = true := by simpa using kick_up h
theorem take_up2 {ps : List W3} {nx : Option W3} (h : upB (ps ++ nx.toList) = true) : upB (tkP ps nx ++ (none : Option W3).toList) = true := by simpa using take_up h
theorem drain_up {ps : List W3} {nx : Option W3} (_h : upB (ps ++ nx.toList) = true) : upB ([] ++ (none : Option W3).toList) = true := rfl
theorem drain_keeps (ps : List W3) (nx : Option W3) : (ps ++ nx.toList).Perm ((ps ++ nx.toList) ++ []) := by simp
theorem three_put {w : World} {k : Nat} {y : W3} (h : Three w k y) (x : W3) : Three (((w.setCell ⟨k, 0, none⟩ (.int .i64 x.s)).setCell ⟨k, 1, none⟩ (.int .i64 x.g)).setCell ⟨k, 2, none⟩ (.int .u64 x.t)) k x :=
  setCell_block (setCell_block (setCell_block h 0 _) 1 _) 2 _
theorem pair_flip {w : World} {b c k : Nat} {n : Int} (h : Pair w k (pairOf b c n)) (n' : Int) : Pair (w.setCell ⟨k, 12, none⟩ (.int .i64 n')) k (pairOf b c n') := setCell_block h 12 _
theorem stolen0 {i : List W3} {a b a' b' : List W3} (h : (b ++ a).Perm (i ++ (b' ++ a'))) : (a ++ b).Perm (i ++ ([] ++ (a' ++ b'))) :=
  (List.perm_append_comm (l₁ := a) (l₂ := b)).trans (h.trans ((List.perm_append_comm (l₁ := b') (l₂ := a')).append_left i))
theorem stolen1 {i : List W3} {a b a' b' : List W3} (h : (a ++ b).Perm (i ++ (a' ++ b'))) : (a ++ b).Perm (i ++ ([] ++ (a' ++ b'))) := h
/-- the two blocks that a round lays first -/
theorem two_laid {b c pk : Nat} {n d : Int} {x : W3} {xs zs : List W3} {nx ny : Option W3} {wr w2 : World} (hp : Pair wr pk (pairOf b c n)) (h1 : RingAt wr b xs nx) (h2 : RingAt wr c zs ny)
    (hw : w2 = (wr.alloc (.cells #[.int .i64 d, .int .i64 x.s, .int .i64 x.g, .int .u64 x.t] 40)).alloc (.cells #[.int .i64 0, .int .i64 0, .int .u64 0] 30)) :
    Four w2 wr.heap.size d x ∧ Three w2 (wr.heap.size + 1) W3.zero ∧ Ch (Tri b c pk) wr w2 ∧ Pair w2 pk (pairOf b c n) ∧ RingAt w2 b xs nx ∧ RingAt w2 c zs ny ∧ w2.heap.size = wr.heap.size + 2 := by
  have T := Three.new (wr.alloc (.cells #[.int .i64 d, .int .i64 x.s, .int .i64 x.g, .int .u64 x.t] 40)) W3.zero
  simp only [World.size_alloc] at T
  rw [hw]
  exact ⟨(Four.new wr d x).alloc _, T, ((Ch.refl _ _).alloc _).alloc _, (hp.alloc _).alloc _, (h1.alloc _).alloc _, (h2.alloc _).alloc _, by simp⟩

/-- what comes of the lists behind a call -/
theorem kept_step {IN OUT L xs zs xs' zs' : List W3} {nx ny nx' ny' : Option W3} {x X : W3} {d E : Int} {j : Nat} (hj : IN.length ≤ j) (h : IN.Perm (OUT ++ allOf xs nx zs ny)) (u1 : upB (xs ++ nx.toList) = true) (u2 : upB (zs ++ ny.toList) = true)
    (hp : ((if (d = 0 ∨ d = 1) ∧ E = 0 then [x] else []) ++ allOf xs nx zs ny).Perm ((if (d = 3 ∨ d = 5) ∧ E = 0 then [X] else []) ++ (L ++ allOf xs' nx' zs' ny')))
    (hu : upB (xs ++ nx.toList) = true → upB (zs ++ ny.toList) = true → upB (xs' ++ nx'.toList) = true ∧ upB (zs' ++ ny'.toList) = true) :
    (IN ++ (if (d = 0 ∨ d = 1) ∧ E = 0 then [x] else [])).Perm ((OUT ++ (if (d = 3 ∨ d = 5) ∧ E = 0 then [X] else []) ++ L) ++ allOf xs' nx' zs' ny') ∧ (IN ++ (if (d = 0 ∨ d = 1) ∧ E = 0 then [x] else [])).length ≤ j + 1 ∧
      (OUT ++ (if (d = 3 ∨ d = 5) ∧ E = 0 then [X] else []) ++ L).length ≤ j + 1 ∧ upB (xs' ++ nx'.toList) = true ∧ upB (zs' ++ ny'.toList) = true := by
  have h1 : (IN ++ (if (d = 0 ∨ d = 1) ∧ E = 0 then [x] else [])).Perm ((OUT ++ (if (d = 3 ∨ d = 5) ∧ E = 0 then [X] else []) ++ L) ++ allOf xs' nx' zs' ny') := by
    refine (h.append_right _).trans ?_
    rw [List.append_assoc, List.append_assoc, List.append_assoc]
    exact (List.perm_append_comm.trans hp).append_left OUT
  have h2 : (IN ++ (if (d = 0 ∨ d = 1) ∧ E = 0 then [x] else [])).length ≤ j + 1 := by
    rw [List.length_append]
    split <;> simp <;> omega
  refine ⟨h1, h2, ?_, hu u1 u2⟩
  have := h1.length_eq
  have h3 := @List.length_append _ (OUT ++ (if (d = 3 ∨ d = 5) ∧ E = 0 then [X] else []) ++ L) (allOf xs' nx' zs' ny')
  omega
theorem not_tri {b c pk B q : Nat} {w : World} {v : Value} {xs : List W3} (h : Own B w v xs) (hq : Blk v q) (hb : b < B) (hc : c < B) (hp : pk < B) : ¬ Tri b c pk q := by
  intro e
  have := (h.blk hq).1
  rcases e with e | e | e <;> omega

/-- where a round stands behind its call -/
structure Mid (b c pk B K : Nat) (d : Int) (x X : W3) (xs zs L IN OUT : List W3) (nx ny : Option W3) (n : Int) (w : World) (iv ov lv : Value) (wm : World) : Prop where
  p : Pair wm pk (pairOf b c n)
  r : RingAt wm b xs nx
  s : RingAt wm c zs ny
  f : Four wm K d x
  t : Three wm (K + 1) X
  l : Lst (fun g => ¬ Blk iv g ∧ ¬ Blk ov g) wm lv L
  i : Own B wm iv IN
  o : Own B wm ov OUT
  dj : ∀ q, Blk iv q → ¬ Blk ov q
  ki : ∀ q, Blk iv q → q ≠ K ∧ q ≠ K + 1
  ko : ∀ q, Blk ov q → q ≠ K ∧ q ≠ K + 1
  g : Ch NoB w wm
section
variable {b c pk B K : Nat} {d : Int} {x X : W3} {xs zs L IN OUT : List W3} {nx ny : Option W3} {n : Int} {w : World} {iv ov lv : Value} {wm w5 : World}
theorem Mid.alloc (h : Mid b c pk B K d x X xs zs L IN OUT nx ny n w iv ov lv wm) (o : Obj) : Mid b c pk B K d x X xs zs L IN OUT nx ny n w iv ov lv (wm.alloc o) :=
  ⟨h.p.alloc _, h.r.alloc _, h.s.alloc _, h.f.alloc _, h.t.alloc _, h.l.alloc _, h.i.alloc _, h.o.alloc _, h.dj, h.ki, h.ko, h.g.alloc _⟩
theorem Mid.addIn {iv' : Value} {IN' : List W3} (h : Mid b c pk B K d x X xs zs L IN OUT nx ny n w iv ov lv wm) (hb : b < B) (hc : c < B) (hp : pk < B) (hB : w.heap.size ≤ B) (h1 : Own B w5 iv' IN') (h2 : Ch (Blk iv) wm w5) (h3 : ∀ q, Blk iv' q → Blk iv q ∨ wm.heap.size ≤ q) :
    Mid b c pk B K d x X xs zs L IN' OUT nx ny n w iv' ov lv w5 := by
  have nB : ∀ q, q < B → ¬ Blk iv q := fun q hq e => by have := (h.i.blk e).1; omega
  have hf := h.f.lt
  have ht := h.t.lt
  refine ⟨h.p.ch h2 (nB _ hp), h.r.ch h2 (nB _ hb), h.s.ch h2 (nB _ hc), h.f.ch h2 (fun e => (h.ki _ e).1 rfl), h.t.ch h2 (fun e => (h.ki _ e).2 rfl), ?_, h1, h.o.ch h2 (fun g e e' => h.dj g e' e), ?_, ?_, h.ko, h.g.trans h2 (fun q e => .inr (by have := (h.i.blk e).1; omega))⟩
  · refine (h.l.mono (Q := fun g => (¬ Blk iv g ∧ ¬ Blk ov g) ∧ g < wm.heap.size) (fun g a e => ⟨e, a⟩)).ch h2 (fun g _ e => e.1.1) |>.mono (fun g _ e => ⟨fun e' => ?_, e.1.2⟩)
    rcases h3 g e' with q | q
    · exact e.1.1 q
    · have := e.2; omega
  · intro q e e'
    rcases h3 q e with a | a
    · exact h.dj q a e'
    · have := (h.o.blk e').2; omega
  · intro q e
    rcases h3 q e with a | a
    · exact h.ki q a
    · omega
theorem Mid.addOut {ov' : Value} {OUT' : List W3} (h : Mid b c pk B K d x X xs zs L IN OUT nx ny n w iv ov lv wm) (hb : b < B) (hc : c < B) (hp : pk < B) (hB : w.heap.size ≤ B) (h1 : Own B w5 ov' OUT') (h2 : Ch (Blk ov) wm w5) (h3 : ∀ q, Blk ov' q → Blk ov q ∨ wm.heap.size ≤ q) :
    Mid b c pk B K d x X xs zs L IN OUT' nx ny n w iv ov' lv w5 := by
  have nB : ∀ q, q < B → ¬ Blk ov q := fun q hq e => by have := (h.o.blk e).1; omega
  have hf := h.f.lt
  have ht := h.t.lt
  refine ⟨h.p.ch h2 (nB _ hp), h.r.ch h2 (nB _ hb), h.s.ch h2 (nB _ hc), h.f.ch h2 (fun e => (h.ko _ e).1 rfl), h.t.ch h2 (fun e => (h.ko _ e).2 rfl), ?_, h.i.ch h2 (fun g e e' => h.dj g e e'), h1, ?_, h.ki, ?_, h.g.trans h2 (fun q e => .inr (by have := (h.o.blk e).1; omega))⟩
  · refine (h.l.mono (Q := fun g => (¬ Blk iv g ∧ ¬ Blk ov g) ∧ g < wm.heap.size) (fun g a e => ⟨e, a⟩)).ch h2 (fun g _ e => e.1.2) |>.mono (fun g _ e => ⟨e.1.1, fun e' => ?_⟩)
    rcases h3 g e' with q | q
    · exact e.1.2 q
    · have := e.2; omega
  · intro q e e'
    rcases h3 q e' with a | a
    · exact h.dj q e a
    · have := (h.i.blk e).2; omega
  · intro q e
    rcases h3 q e with a | a
    · exact h.ko q a
    · omega
end

set_option maxHeartbeats 4000000 in
set_option maxRecDepth 20000 in
theorem played_law (ov : Value) (os : List (Int × W3)) (w : World) (ho : Ops w.heap.size w ov os) (hl : os.length * 32 ≤ 140737488351232) :
    Calls Try.prog 15 #[ov] w fun e w' => ∃ b c n B iv' ov' IN OUT xs zs nx ny, e = .returned (.tuple #[.agg (pairOf b c n), iv', ov']) ∧ w.heap.size ≤ b ∧ b < c ∧ c < B ∧ RingAt w' b xs nx ∧ RingAt w' c zs ny ∧ Own B w' iv' IN ∧ Own B w' ov' OUT ∧ (∀ q, Blk iv' q → ¬ Blk ov' q) ∧
      IN.Perm (OUT ++ allOf xs nx zs ny) ∧ IN.length ≤ os.length ∧ upB (xs ++ nx.toList) = true ∧ upB (zs ++ ny.toList) = true ∧ Ch NoB w w' := by
  obtain ⟨oa, oc, rfl⟩ := ho.form
  obtain ⟨m, hm⟩ : ∃ m, m = os.length := ⟨_, rfl⟩
  rw [← hm] at ho hl ⊢
  have HO := hid ho
  have HM := hid hm
  clear ho hm
  go_enter Try.func15, Try.ntmps15
  go_wp2_with fail
  obtain ⟨w0, hw0⟩ : ∃ w0, w0 = w.alloc (.cells #[.pointer none, .pointer none, .slice none 0 0, .bool false, .int .i64 0, .int .i64 0, .int .u64 0, .slice none 0 0, .bool false, .int .i64 0, .int .i64 0, .int .u64 0, .int .i64 0] 35) := ⟨_, rfl⟩
  have hz0 : w.heap.size < w0.heap.size := by rw [hw0]; simp
  have HZ0 := hid (show Pair w0 w.heap.size #[.pointer none, .pointer none, .slice none 0 0, .bool false, .int .i64 0, .int .i64 0, .int .u64 0, .slice none 0 0, .bool false, .int .i64 0, .int .i64 0, .int .u64 0, .int .i64 0] from by rw [hw0]; exact Pair.new w _)
  have HG0 := hid (show Ch NoB w w0 from by rw [hw0]; exact (Ch.refl _ _).alloc _)
  rw [← hw0]
  clear hw0
  refine (begun_any _).mono ?_
  rintro e w1 ⟨b, c, rfl, hb, hbc, r1, r2, g1⟩
  have hs1 := g1.size
  have hb1 := r1.lt
  have hc1 := r2.lt
  have HK := hid (show Kept b c w1.heap.size (w1.heap.size + 1) 0 w0 (.slice none 0 0) (.slice none 0 0) (w1.alloc (.cells #[.pointer (some ⟨b, 0, none⟩), .pointer (some ⟨c, 0, none⟩), .slice none 0 0, .bool false, .int .i64 0, .int .i64 0, .int .u64 0, .slice none 0 0, .bool false, .int .i64 0, .int .i64 0, .int .u64 0, .int .i64 0] 35)) from
    ⟨[], [], [], [], none, none, 0, .inl rfl, Pair.new w1 _, r1.alloc _, r2.alloc _, Own.nil _ _, Own.nil _ _, (fun q h => by cases h), by simp [allOf], by simp, rfl, rfl, g1.alloc _⟩)
  clear r1 r2 g1
  go_wp2_with fail
  go_loopg [7, 8, 9] m (fun k iv ov i wr => ∃ j, j + k = m ∧ i = .int .i64 ((j : Nat) : Int) ∧ Kept b c w1.heap.size (w1.heap.size + 1) j w0 iv ov wr)
  case atStart => exact ⟨0, by omega, rfl, HK.out⟩
  case round =>
    obtain ⟨j, hjk, rfl, hst⟩ := hrel
    obtain ⟨IN, OUT, xs, zs, nx, ny, n, hn, hp, hr1, hr2, ho1, ho2, hdj, hperm, hjl, hu1, hu2, hg⟩ := hst
    by_cases hj : j < m
    · obtain ⟨⟨d, x⟩, hq⟩ : ∃ q, os[j]? = some q := ⟨_, List.getElem?_eq_getElem (by rw [← HM.out]; exact hj)⟩
      obtain ⟨ia, ic, rfl⟩ := ho1.form
      obtain ⟨ta, tc, rfl⟩ := ho2.form
      obtain ⟨g, o, rfl, hgB, o0, o1, o2, o3⟩ := (HO.out.ch (HG0.out.trans' hg) (Nat.le_refl _) (fun _ _ => noB _)).get hq
      obtain ⟨p0, p1, p2, p3, p4, p5, p6, p7, p8, p9, p10, p11, p12⟩ := (show Pair wr w1.heap.size #[.pointer (some ⟨b, 0, none⟩), .pointer (some ⟨c, 0, none⟩), .slice none 0 0, .bool false, .int .i64 0, .int .i64 0, .int .u64 0, .slice none 0 0, .bool false, .int .i64 0, .int .i64 0, .int .u64 0, .int .i64 n] from hp).cells
      have hpl := hp.lt
      have hgl := hg.size
      have j0 : (0 : Int) ≤ (j : Int) := by omega
      have j1 : (j : Int) < (m : Int) := by omega
      have n0 : (0 : Int) ≤ n := by omega
      have n1 : n < 2 := by omega
      have HP := hid hp
      have HR1 := hid hr1
      have HR2 := hid hr2
      have HO1 := hid ho1
      have HO2 := hid ho2
      have HDJ := hid hdj
      have HPM := hid hperm
      have HU1 := hid hu1
      have HU2 := hid hu2
      have HG := hid hg
      have HN := hid hn
      clear hp hr1 hr2 ho1 ho2 hdj hperm hu1 hu2 hg hq hn p2 p3 p4 p5 p6 p7 p8 p9 p10 p11
      rcases HN.out with rfl | rfl
      · go_upto_block 2 with fail
        obtain ⟨w2, hw2⟩ : ∃ w2, w2 = (wr.alloc (.cells #[.int .i64 d, .int .i64 x.s, .int .i64 x.g, .int .u64 x.t] 40)).alloc (.cells #[.int .i64 0, .int .i64 0, .int .u64 0] 30) := ⟨_, rfl⟩
        obtain ⟨hf2, ht2, hc2, hp2, hq1, hq2, hs2⟩ := two_laid HP.out HR1.out HR2.out hw2
        rw [← hw2]
        obtain ⟨q0, q1, q2, q3⟩ := hf2.cells
        obtain ⟨p0, p1, p2, p3, p4, p5, p6, p7, p8, p9, p10, p11, p12⟩ := (show Pair w2 w1.heap.size #[.pointer (some ⟨b, 0, none⟩), .pointer (some ⟨c, 0, none⟩), .slice none 0 0, .bool false, .int .i64 0, .int .i64 0, .int .u64 0, .slice none 0 0, .bool false, .int .i64 0, .int .i64 0, .int .u64 0, .int .i64 0] from hp2).cells
        have fz := (Pair.fz hp2).2.2.2.2.2.2.2.2.2.2.2.2
        have hlf := hf2.lt
        have HF2 := hid hf2
        have HT2 := hid ht2
        have HC2 := hid hc2
        have HP2 := hid hp2
        have HQ1 := hid hq1
        have HQ2 := hid hq2
        clear hf2 ht2 hc2 hp2 hq1 hq2 hw2 o0 o1 o2 o3 p2 p3 p4 p5 p6 p7 p8 p9 p10 p11
        go_cut [12, 13] (fun l e wm => Moved b c w1.heap.size wr.heap.size (wr.heap.size + 1) d x xs zs nx ny wr l e wm)
        case first =>
          by_cases h0 : d = 0
          · subst h0
            go_wp2_with fail
            refine (put_any b x xs nx _ HQ1.out).mono ?_
            rintro e w3 ⟨pl, rfl, l3, r3, g3⟩
            have HL3 := hid l3
            have HR3 := hid r3
            have HG3 := hid g3
            clear l3 r3 g3
            go_wp2_with fail
            go_meet
            refine ⟨putL xs nx x, (putP xs nx x), zs, (nx), ny, W3.zero, putE xs nx x, 0, rfl, by omega, HL3.out.mono (fun g _ h => by omega), (HP2.out.ch HG3.out (fun e => by have : w1.heap.size = b := e; omega)), HR3.out, (HQ2.out.ch HG3.out (fun e => by have : c = b := e; omega)), (HF2.out.ch HG3.out (fun e => by have : wr.heap.size = b := e; omega)), (HT2.out.ch HG3.out (fun e => by have : wr.heap.size + 1 = b := e; omega)), ?_, (fun h1 h2 => ⟨put_up h1, h2⟩), (HC2.out.trans HG3.out (fun q e => .inl (.inl e)))⟩
            have := moved0 (o := []) (S := zs ++ ny.toList) (put_keeps xs nx x)
            simpa [allOf] using this
          by_cases h1 : d = 1
          · subst h1
            go_wp2_with fail
            refine (ready_any b x xs nx _ HQ1.out).mono ?_
            rintro e w3 ⟨pl, rfl, l3, r3, g3⟩
            have HL3 := hid l3
            have HR3 := hid r3
            have HG3 := hid g3
            clear l3 r3 g3
            go_wp2_with fail
            go_meet
            refine ⟨readyL xs nx x, (readyP xs nx x), zs, (readyN xs nx x), ny, W3.zero, readyE xs nx x, 0, rfl, by omega, HL3.out.mono (fun g _ h => by omega), (HP2.out.ch HG3.out (fun e => by have : w1.heap.size = b := e; omega)), HR3.out, (HQ2.out.ch HG3.out (fun e => by have : c = b := e; omega)), (HF2.out.ch HG3.out (fun e => by have : wr.heap.size = b := e; omega)), (HT2.out.ch HG3.out (fun e => by have : wr.heap.size + 1 = b := e; omega)), ?_, (fun h1 h2 => ⟨ready_up h1, h2⟩), (HC2.out.trans HG3.out (fun q e => .inl (.inl e)))⟩
            have := moved0 (o := []) (S := zs ++ ny.toList) (ready_keeps xs nx x)
            simpa [allOf] using this
          by_cases h2 : d = 2
          · subst h2
            go_wp2_with fail
            refine (kick_any b xs nx _ HQ1.out).mono ?_
            rintro e w3 ⟨pl, rfl, l3, r3, g3⟩
            have HL3 := hid l3
            have HR3 := hid r3
            have HG3 := hid g3
            clear l3 r3 g3
            go_wp2_with fail
            go_meet
            refine ⟨kickL xs nx, (kickP xs nx), zs, none, ny, W3.zero, 0, 0, rfl, by omega, HL3.out.mono (fun g _ h => by omega), (HP2.out.ch HG3.out (fun e => by have : w1.heap.size = b := e; omega)), HR3.out, (HQ2.out.ch HG3.out (fun e => by have : c = b := e; omega)), (HF2.out.ch HG3.out (fun e => by have : wr.heap.size = b := e; omega)), (HT2.out.ch HG3.out (fun e => by have : wr.heap.size + 1 = b := e; omega)), ?_, (fun h1 h2 => ⟨kick_up2 h1, h2⟩), (HC2.out.trans HG3.out (fun q e => .inl (.inl e)))⟩
            have := moved0 (i := []) (o := []) (S := zs ++ ny.toList) (kick_keeps xs nx)
            simpa [allOf] using this
          by_cases h3 : d = 3
          · subst h3
            go_wp2_with fail
            refine (take_any b xs nx _ HQ1.out).mono ?_
            rintro e w3 ⟨rfl, r3, g3⟩
            have T3 := HT2.out.ch g3 (fun e => by have : wr.heap.size + 1 = b := e; omega)
            obtain ⟨t0, t1, t2⟩ := T3.cells
            obtain ⟨u0, u1, u2⟩ := T3.fz
            have hlt3 := T3.lt
            have HT3 := hid T3
            have HR3 := hid r3
            have HG3 := hid g3
            have hs3 := g3.size
            clear r3 g3 T3
            go_wp2_with fail
            go_meet
            have HC3 := hid (Ch.own (Ch.own (Ch.own (Ch.refl (Only (wr.heap.size + 1)) w3) 0 (.int .i64 (tkX xs nx).s)) 1 (.int .i64 (tkX xs nx).g)) 2 (.int .u64 (tkX xs nx).t))
            refine ⟨[], (tkP xs nx), zs, none, ny, tkX xs nx, tkE xs nx, 0, rfl, by omega, Lst.nil _ _, (HP2.out.ch HG3.out (fun e => by have : w1.heap.size = b := e; omega)).ch HC3.out (fun e => by have : w1.heap.size = wr.heap.size + 1 := e; omega), HR3.out.ch HC3.out (fun e => by have : b = wr.heap.size + 1 := e; omega), (HQ2.out.ch HG3.out (fun e => by have : c = b := e; omega)).ch HC3.out (fun e => by have : c = wr.heap.size + 1 := e; omega), (HF2.out.ch HG3.out (fun e => by have : wr.heap.size = b := e; omega)).ch HC3.out (fun e => by have : wr.heap.size = wr.heap.size + 1 := e; omega), three_put HT3.out _, ?_, (fun h1 h2 => ⟨take_up2 h1, h2⟩), (HC2.out.trans HG3.out (fun q e => .inl (.inl e))).trans HC3.out (fun q e => .inr (by have : q = wr.heap.size + 1 := e; omega))⟩
            have := moved0 (i := []) (l := []) (R' := tkP xs nx) (S := zs ++ ny.toList) (take_keeps xs nx)
            simpa [allOf] using this
          by_cases h4 : d = 4
          · subst h4
            go_wp2_with fail
            refine (drain_any b xs nx _ HQ1.out).mono ?_
            rintro e w3 ⟨pl, rfl, l3, r3, g3⟩
            have HL3 := hid l3
            have HR3 := hid r3
            have HG3 := hid g3
            clear l3 r3 g3
            go_wp2_with fail
            go_meet
            refine ⟨xs ++ nx.toList, [], zs, none, ny, W3.zero, 0, 0, rfl, by omega, HL3.out.mono (fun g _ h => by omega), (HP2.out.ch HG3.out (fun e => by have : w1.heap.size = b := e; omega)), HR3.out, (HQ2.out.ch HG3.out (fun e => by have : c = b := e; omega)), (HF2.out.ch HG3.out (fun e => by have : wr.heap.size = b := e; omega)), (HT2.out.ch HG3.out (fun e => by have : wr.heap.size + 1 = b := e; omega)), ?_, (fun h1 h2 => ⟨drain_up h1, h2⟩), (HC2.out.trans HG3.out (fun q e => .inl (.inl e)))⟩
            simp [allOf]
          by_cases h5 : d = 5
          · subst h5
            go_wp2_with fail
            refine (steal_any c b zs ny xs nx _ HQ2.out HQ1.out (by omega)).mono ?_
            rintro e w3 ⟨rfl, r3, q3, g3⟩
            have T3 := HT2.out.ch g3 (fun e => by rcases e with e | e <;> omega)
            obtain ⟨t0, t1, t2⟩ := T3.cells
            obtain ⟨u0, u1, u2⟩ := T3.fz
            have hlt3 := T3.lt
            have HT3 := hid T3
            have HR3 := hid r3
            have HQ3 := hid q3
            have HG3 := hid g3
            have hs3 := g3.size
            clear r3 q3 g3 T3
            go_wp2_with fail
            go_meet
            have HC3 := hid (Ch.own (Ch.own (Ch.own (Ch.refl (Only (wr.heap.size + 1)) w3) 0 (.int .i64 (stX zs ny xs nx).s)) 1 (.int .i64 (stX zs ny xs nx).g)) 2 (.int .u64 (stX zs ny xs nx).t))
            refine ⟨[], (stQ zs xs nx), (stP zs xs nx), nx, (stN zs ny xs nx), stX zs ny xs nx, stE zs ny xs nx, 0, rfl, by omega, Lst.nil _ _, (HP2.out.ch HG3.out (fun e => by rcases e with e | e <;> omega)).ch HC3.out (fun e => by have : w1.heap.size = wr.heap.size + 1 := e; omega), HQ3.out.ch HC3.out (fun e => by have : b = wr.heap.size + 1 := e; omega), HR3.out.ch HC3.out (fun e => by have : c = wr.heap.size + 1 := e; omega), (HF2.out.ch HG3.out (fun e => by rcases e with e | e <;> omega)).ch HC3.out (fun e => by have : wr.heap.size = wr.heap.size + 1 := e; omega), three_put HT3.out _, ?_, (fun h1 h2 => (steal_up h2 h1).symm), (HC2.out.trans HG3.out (fun q e => .inl (by rcases e with e | e; exact .inr (.inl e); exact .inl e))).trans HC3.out (fun q e => .inr (by have : q = wr.heap.size + 1 := e; omega))⟩
            have := stolen0 (steal_keeps zs ny xs nx)
            simpa [allOf] using this
          by_cases h6 : d = 6
          · subst h6
            go_wp2_with fail
            go_meet
            have HC3 := hid (Ch.own (Ch.refl (Only w1.heap.size) w2) 12 (.int .i64 1))
            refine ⟨[], xs, zs, nx, ny, W3.zero, 0, 1, rfl, by omega, Lst.nil _ _, pair_flip HP2.out _, HQ1.out.ch HC3.out (fun e => by have : b = w1.heap.size := e; omega), HQ2.out.ch HC3.out (fun e => by have : c = w1.heap.size := e; omega), HF2.out.ch HC3.out (fun e => by have : wr.heap.size = w1.heap.size := e; omega), HT2.out.ch HC3.out (fun e => by have : wr.heap.size + 1 = w1.heap.size := e; omega), by simp, fun h1 h2 => ⟨h1, h2⟩, HC2.out.trans HC3.out (fun q e => .inl (.inr (.inr e)))⟩
          have e0 : (d == 0) = false := by simpa using h0
          have e1 : (d == 1) = false := by simpa using h1
          have e2 : (d == 2) = false := by simpa using h2
          have e3 : (d == 3) = false := by simpa using h3
          have e4 : (d == 4) = false := by simpa using h4
          have e5 : (d == 5) = false := by simpa using h5
          have e6 : (d == 6) = false := by simpa using h6
          go_wp2_with fail
          go_meet
          exact ⟨[], xs, zs, nx, ny, W3.zero, 0, 0, rfl, by omega, Lst.nil _ _, HP2.out, HQ1.out, HQ2.out, HF2.out, HT2.out, by simp [h0, h1, h3, h5], fun h1 h2 => ⟨h1, h2⟩, HC2.out⟩
        case rest =>
          obtain ⟨L, xs', zs', nx', ny', X, E, n', rfl, hn', l4, p4, r4, s4, f4, t4, hpm, hup, g4⟩ := hcut
          obtain ⟨la, lc, rfl⟩ := l4.form
          have hK := kept_step hjl HPM.out HU1.out HU2.out hpm hup
          have hbi : ∀ q, Blk (.slice ia IN.length ic) q → q < wr.heap.size := fun q h => (HO1.out.blk h).2
          have hbo : ∀ q, Blk (.slice ta OUT.length tc) q → q < wr.heap.size := fun q h => (HO2.out.blk h).2
          have hlo : OUT.length ≤ IN.length := by have := HPM.out.length_eq; rw [List.length_append] at this; omega
          have hM : Mid b c w1.heap.size (w1.heap.size + 1) wr.heap.size d x X xs' zs' L IN OUT nx' ny' n' w0 (.slice ia IN.length ic) (.slice ta OUT.length tc) (.slice la L.length lc) wc :=
            ⟨p4, r4, s4, f4, t4, l4.mono (fun g _ h => ⟨fun e => by have := hbi g e; omega, fun e => by have := hbo g e; omega⟩), HO1.out.ch g4 (fun q h => not_tri HO1.out h (by omega) (by omega) (by omega)), HO2.out.ch g4 (fun q h => not_tri HO2.out h (by omega) (by omega) (by omega)), HDJ.out,
              fun q h => by have := hbi q h; omega, fun q h => by have := hbo q h; omega, HG.out.trans g4 (fun q e => .inr (by rcases e with e | e | e <;> omega))⟩
          obtain ⟨k0, k1, k2, k3⟩ := f4.cells
          obtain ⟨t0, t1, t2⟩ := t4.cells
          have hlf4 := f4.lt
          have hlt4 := t4.lt
          have hs4 := g4.size
          have HK := hid hK
          have HM4 := hid hM
          have HN4 := hid hn'
          clear l4 p4 r4 s4 f4 t4 hpm hup g4 hn' q0 q1 q2 q3 p0 p1 p12 fz hs2 hlf hK hM hbi hbo
          by_cases hd0 : d = 0
          · by_cases hE : E = 0
            · subst hd0
              subst hE
              have hA : (if ((0 : Int) = 0 ∨ (0 : Int) = 1) ∧ (0 : Int) = 0 then [x] else []) = [x] := if_pos ⟨Or.inl rfl, rfl⟩
              have hB : (if ((0 : Int) = 3 ∨ (0 : Int) = 5) ∧ (0 : Int) = 0 then [X] else []) = [] := if_neg (by omega)
              have hK := HK.out
              rw [hA, hB] at hK
              obtain ⟨hq1, hq2, hq3, hq4, hq5⟩ := hK
              simp only [List.length_append, List.length_cons, List.length_nil] at hq2 hq3
              have HQ1 := hid hq1
              have HQ4 := hid hq4
              have HQ5 := hid hq5
              clear hA hB hq1 hq4 hq5
              go_wp2_with (first | (at_builtin; refine wpList_append_own2 rfl (.tmp 105) (.tmp 108) rfl (w1.heap.size + 1) _ IN rfl (HM4.out.alloc (.cells #[.int .i64 x.s, .int .i64 x.g, .int .u64 x.t] 30)).i _ _ [x] rfl (Lst.single wc x) (IN.length + 1) rfl (by omega) (by simp; omega) _ rfl ?_; intro ia5 ic5 w5 ow5 cw5 bl5; have HM5 := hid ((HM4.out.alloc (.cells #[.int .i64 x.s, .int .i64 x.g, .int .u64 x.t] 30)).addIn (by omega) (by omega) (by omega) (by omega) ow5 cw5 bl5); have hz5 := cw5.size; simp only [World.size_alloc] at hz5; clear ow5 cw5 bl5; obtain ⟨k5, k6, k7, k8⟩ := HM5.out.f.cells) | (at_builtin; refine wpList_append_own2 rfl (.tmp 126) (.tmp 127) rfl (w1.heap.size + 1) _ OUT rfl HM5.out.o _ _ L rfl HM5.out.l (OUT.length + L.length) rfl (by omega) (by omega) _ rfl ?_; intro ta6 tc6 w6 ow6 cw6 bl6; have HM6 := hid (HM5.out.addOut (by omega) (by omega) (by omega) (by omega) ow6 cw6 bl6); clear ow6 cw6 bl6))
              go_roundg (gk - 1)
              case measure => omega
              case rel => exact ⟨j + 1, by omega, by simp, IN ++ [x], OUT ++ L, xs', zs', nx', ny', n', HN4.out, HM6.out.p, HM6.out.r, HM6.out.s, HM6.out.i, HM6.out.o, HM6.out.dj, by simpa using HQ1.out, (by first | omega | (simp; omega)), HQ4.out, HQ5.out, HM6.out.g⟩
            · subst hd0
              have eE : (E == 0) = false := by simpa using hE
              have hA : (if ((0 : Int) = 0 ∨ (0 : Int) = 1) ∧ (E : Int) = 0 then [x] else []) = [] := if_neg (by omega)
              have hB : (if ((0 : Int) = 3 ∨ (0 : Int) = 5) ∧ (E : Int) = 0 then [X] else []) = [] := if_neg (by omega)
              have hK := HK.out
              rw [hA, hB] at hK
              obtain ⟨hq1, hq2, hq3, hq4, hq5⟩ := hK
              simp only [List.length_append, List.length_nil] at hq2 hq3
              have HQ1 := hid hq1
              have HQ4 := hid hq4
              have HQ5 := hid hq5
              clear hA hB hq1 hq4 hq5
              go_wp2_with (first | (at_builtin; refine wpList_append_own2 rfl (.tmp 126) (.tmp 127) rfl (w1.heap.size + 1) _ OUT rfl HM4.out.o _ _ L rfl HM4.out.l (OUT.length + L.length) rfl (by omega) (by omega) _ rfl ?_; intro ta6 tc6 w6 ow6 cw6 bl6; have HM6 := hid (HM4.out.addOut (by omega) (by omega) (by omega) (by omega) ow6 cw6 bl6); clear ow6 cw6 bl6))
              go_roundg (gk - 1)
              case measure => omega
              case rel => exact ⟨j + 1, by omega, by simp, IN, OUT ++ L, xs', zs', nx', ny', n', HN4.out, HM6.out.p, HM6.out.r, HM6.out.s, HM6.out.i, HM6.out.o, HM6.out.dj, by simpa using HQ1.out, (by first | omega | (simp; omega)), HQ4.out, HQ5.out, HM6.out.g⟩
          by_cases hd1 : d = 1
          · by_cases hE : E = 0
            · subst hd1
              subst hE
              have hA : (if ((1 : Int) = 0 ∨ (1 : Int) = 1) ∧ (0 : Int) = 0 then [x] else []) = [x] := if_pos ⟨Or.inr rfl, rfl⟩
              have hB : (if ((1 : Int) = 3 ∨ (1 : Int) = 5) ∧ (0 : Int) = 0 then [X] else []) = [] := if_neg (by omega)
              have hK := HK.out
              rw [hA, hB] at hK
              obtain ⟨hq1, hq2, hq3, hq4, hq5⟩ := hK
              simp only [List.length_append, List.length_cons, List.length_nil] at hq2 hq3
              have HQ1 := hid hq1
              have HQ4 := hid hq4
              have HQ5 := hid hq5
              clear hA hB hq1 hq4 hq5
              go_wp2_with (first | (at_builtin; refine wpList_append_own2 rfl (.tmp 105) (.tmp 108) rfl (w1.heap.size + 1) _ IN rfl (HM4.out.alloc (.cells #[.int .i64 x.s, .int .i64 x.g, .int .u64 x.t] 30)).i _ _ [x] rfl (Lst.single wc x) (IN.length + 1) rfl (by omega) (by simp; omega) _ rfl ?_; intro ia5 ic5 w5 ow5 cw5 bl5; have HM5 := hid ((HM4.out.alloc (.cells #[.int .i64 x.s, .int .i64 x.g, .int .u64 x.t] 30)).addIn (by omega) (by omega) (by omega) (by omega) ow5 cw5 bl5); have hz5 := cw5.size; simp only [World.size_alloc] at hz5; clear ow5 cw5 bl5; obtain ⟨k5, k6, k7, k8⟩ := HM5.out.f.cells) | (at_builtin; refine wpList_append_own2 rfl (.tmp 126) (.tmp 127) rfl (w1.heap.size + 1) _ OUT rfl HM5.out.o _ _ L rfl HM5.out.l (OUT.length + L.length) rfl (by omega) (by omega) _ rfl ?_; intro ta6 tc6 w6 ow6 cw6 bl6; have HM6 := hid (HM5.out.addOut (by omega) (by omega) (by omega) (by omega) ow6 cw6 bl6); clear ow6 cw6 bl6))
              go_roundg (gk - 1)
              case measure => omega
              case rel => exact ⟨j + 1, by omega, by simp, IN ++ [x], OUT ++ L, xs', zs', nx', ny', n', HN4.out, HM6.out.p, HM6.out.r, HM6.out.s, HM6.out.i, HM6.out.o, HM6.out.dj, by simpa using HQ1.out, (by first | omega | (simp; omega)), HQ4.out, HQ5.out, HM6.out.g⟩
            · subst hd1
              have eE : (E == 0) = false := by simpa using hE
              have hA : (if ((1 : Int) = 0 ∨ (1 : Int) = 1) ∧ (E : Int) = 0 then [x] else []) = [] := if_neg (by omega)
              have hB : (if ((1 : Int) = 3 ∨ (1 : Int) = 5) ∧ (E : Int) = 0 then [X] else []) = [] := if_neg (by omega)
              have hK := HK.out
              rw [hA, hB] at hK
              obtain ⟨hq1, hq2, hq3, hq4, hq5⟩ := hK
              simp only [List.length_append, List.length_nil] at hq2 hq3
              have HQ1 := hid hq1
              have HQ4 := hid hq4
              have HQ5 := hid hq5
              clear hA hB hq1 hq4 hq5
              go_wp2_with (first | (at_builtin; refine wpList_append_own2 rfl (.tmp 126) (.tmp 127) rfl (w1.heap.size + 1) _ OUT rfl HM4.out.o _ _ L rfl HM4.out.l (OUT.length + L.length) rfl (by omega) (by omega) _ rfl ?_; intro ta6 tc6 w6 ow6 cw6 bl6; have HM6 := hid (HM4.out.addOut (by omega) (by omega) (by omega) (by omega) ow6 cw6 bl6); clear ow6 cw6 bl6))
              go_roundg (gk - 1)
              case measure => omega
              case rel => exact ⟨j + 1, by omega, by simp, IN, OUT ++ L, xs', zs', nx', ny', n', HN4.out, HM6.out.p, HM6.out.r, HM6.out.s, HM6.out.i, HM6.out.o, HM6.out.dj, by simpa using HQ1.out, (by first | omega | (simp; omega)), HQ4.out, HQ5.out, HM6.out.g⟩
          by_cases hd3 : d = 3
          · by_cases hE : E = 0
            · subst hd3
              subst hE
              have hA : (if ((3 : Int) = 0 ∨ (3 : Int) = 1) ∧ (0 : Int) = 0 then [x] else []) = [] := if_neg (by omega)
              have hB : (if ((3 : Int) = 3 ∨ (3 : Int) = 5) ∧ (0 : Int) = 0 then [X] else []) = [X] := if_pos ⟨Or.inl rfl, rfl⟩
              have hK := HK.out
              rw [hA, hB] at hK
              obtain ⟨hq1, hq2, hq3, hq4, hq5⟩ := hK
              simp only [List.length_append, List.length_cons, List.length_nil] at hq2 hq3
              have HQ1 := hid hq1
              have HQ4 := hid hq4
              have HQ5 := hid hq5
              clear hA hB hq1 hq4 hq5
              go_wp2_with (first | (at_builtin; refine wpList_append_own2 rfl (.tmp 122) (.tmp 124) rfl (w1.heap.size + 1) _ OUT rfl (HM4.out.alloc (.cells #[.int .i64 X.s, .int .i64 X.g, .int .u64 X.t] 30)).o _ _ [X] rfl (Lst.single wc X) (OUT.length + 1) rfl (by omega) (by simp; omega) _ rfl ?_; intro ta5 tc5 w5 ow5 cw5 bl5; have HM5 := hid ((HM4.out.alloc (.cells #[.int .i64 X.s, .int .i64 X.g, .int .u64 X.t] 30)).addOut (by omega) (by omega) (by omega) (by omega) ow5 cw5 bl5); have hz5 := cw5.size; simp only [World.size_alloc] at hz5; clear ow5 cw5 bl5) | (at_builtin; refine wpList_append_own2 rfl (.tmp 126) (.tmp 127) rfl (w1.heap.size + 1) _ (OUT ++ [X]) rfl HM5.out.o _ _ L rfl HM5.out.l (OUT.length + 1 + L.length) (by simp) (by omega) (by omega) _ rfl ?_; intro ta6 tc6 w6 ow6 cw6 bl6; have HM6 := hid (HM5.out.addOut (by omega) (by omega) (by omega) (by omega) ow6 cw6 bl6); clear ow6 cw6 bl6))
              go_roundg (gk - 1)
              case measure => omega
              case rel => exact ⟨j + 1, by omega, by simp, IN, (OUT ++ [X]) ++ L, xs', zs', nx', ny', n', HN4.out, HM6.out.p, HM6.out.r, HM6.out.s, HM6.out.i, HM6.out.o, HM6.out.dj, by simpa using HQ1.out, (by first | omega | (simp; omega)), HQ4.out, HQ5.out, HM6.out.g⟩
            · subst hd3
              have eE : (E == 0) = false := by simpa using hE
              have hA : (if ((3 : Int) = 0 ∨ (3 : Int) = 1) ∧ (E : Int) = 0 then [x] else []) = [] := if_neg (by omega)
              have hB : (if ((3 : Int) = 3 ∨ (3 : Int) = 5) ∧ (E : Int) = 0 then [X] else []) = [] := if_neg (by omega)
              have hK := HK.out
              rw [hA, hB] at hK
              obtain ⟨hq1, hq2, hq3, hq4, hq5⟩ := hK
              simp only [List.length_append, List.length_nil] at hq2 hq3
              have HQ1 := hid hq1
              have HQ4 := hid hq4
              have HQ5 := hid hq5
              clear hA hB hq1 hq4 hq5
              go_wp2_with (first | (at_builtin; refine wpList_append_own2 rfl (.tmp 126) (.tmp 127) rfl (w1.heap.size + 1) _ OUT rfl HM4.out.o _ _ L rfl HM4.out.l (OUT.length + L.length) rfl (by omega) (by omega) _ rfl ?_; intro ta6 tc6 w6 ow6 cw6 bl6; have HM6 := hid (HM4.out.addOut (by omega) (by omega) (by omega) (by omega) ow6 cw6 bl6); clear ow6 cw6 bl6))
              go_roundg (gk - 1)
              case measure => omega
              case rel => exact ⟨j + 1, by omega, by simp, IN, OUT ++ L, xs', zs', nx', ny', n', HN4.out, HM6.out.p, HM6.out.r, HM6.out.s, HM6.out.i, HM6.out.o, HM6.out.dj, by simpa using HQ1.out, (by first | omega | (simp; omega)), HQ4.out, HQ5.out, HM6.out.g⟩
          by_cases hd5 : d = 5
          · by_cases hE : E = 0
            · subst hd5
              subst hE
              have hA : (if ((5 : Int) = 0 ∨ (5 : Int) = 1) ∧ (0 : Int) = 0 then [x] else []) = [] := if_neg (by omega)
              have hB : (if ((5 : Int) = 3 ∨ (5 : Int) = 5) ∧ (0 : Int) = 0 then [X] else []) = [X] := if_pos ⟨Or.inr rfl, rfl⟩
              have hK := HK.out
              rw [hA, hB] at hK
              obtain ⟨hq1, hq2, hq3, hq4, hq5⟩ := hK
              simp only [List.length_append, List.length_cons, List.length_nil] at hq2 hq3
              have HQ1 := hid hq1
              have HQ4 := hid hq4
              have HQ5 := hid hq5
              clear hA hB hq1 hq4 hq5
              go_wp2_with (first | (at_builtin; refine wpList_append_own2 rfl (.tmp 122) (.tmp 124) rfl (w1.heap.size + 1) _ OUT rfl (HM4.out.alloc (.cells #[.int .i64 X.s, .int .i64 X.g, .int .u64 X.t] 30)).o _ _ [X] rfl (Lst.single wc X) (OUT.length + 1) rfl (by omega) (by simp; omega) _ rfl ?_; intro ta5 tc5 w5 ow5 cw5 bl5; have HM5 := hid ((HM4.out.alloc (.cells #[.int .i64 X.s, .int .i64 X.g, .int .u64 X.t] 30)).addOut (by omega) (by omega) (by omega) (by omega) ow5 cw5 bl5); have hz5 := cw5.size; simp only [World.size_alloc] at hz5; clear ow5 cw5 bl5) | (at_builtin; refine wpList_append_own2 rfl (.tmp 126) (.tmp 127) rfl (w1.heap.size + 1) _ (OUT ++ [X]) rfl HM5.out.o _ _ L rfl HM5.out.l (OUT.length + 1 + L.length) (by simp) (by omega) (by omega) _ rfl ?_; intro ta6 tc6 w6 ow6 cw6 bl6; have HM6 := hid (HM5.out.addOut (by omega) (by omega) (by omega) (by omega) ow6 cw6 bl6); clear ow6 cw6 bl6))
              go_roundg (gk - 1)
              case measure => omega
              case rel => exact ⟨j + 1, by omega, by simp, IN, (OUT ++ [X]) ++ L, xs', zs', nx', ny', n', HN4.out, HM6.out.p, HM6.out.r, HM6.out.s, HM6.out.i, HM6.out.o, HM6.out.dj, by simpa using HQ1.out, (by first | omega | (simp; omega)), HQ4.out, HQ5.out, HM6.out.g⟩
            · subst hd5
              have eE : (E == 0) = false := by simpa using hE
              have hA : (if ((5 : Int) = 0 ∨ (5 : Int) = 1) ∧ (E : Int) = 0 then [x] else []) = [] := if_neg (by omega)
              have hB : (if ((5 : Int) = 3 ∨ (5 : Int) = 5) ∧ (E : Int) = 0 then [X] else []) = [] := if_neg (by omega)
              have hK := HK.out
              rw [hA, hB] at hK
              obtain ⟨hq1, hq2, hq3, hq4, hq5⟩ := hK
              simp only [List.length_append, List.length_nil] at hq2 hq3
              have HQ1 := hid hq1
              have HQ4 := hid hq4
              have HQ5 := hid hq5
              clear hA hB hq1 hq4 hq5
              go_wp2_with (first | (at_builtin; refine wpList_append_own2 rfl (.tmp 126) (.tmp 127) rfl (w1.heap.size + 1) _ OUT rfl HM4.out.o _ _ L rfl HM4.out.l (OUT.length + L.length) rfl (by omega) (by omega) _ rfl ?_; intro ta6 tc6 w6 ow6 cw6 bl6; have HM6 := hid (HM4.out.addOut (by omega) (by omega) (by omega) (by omega) ow6 cw6 bl6); clear ow6 cw6 bl6))
              go_roundg (gk - 1)
              case measure => omega
              case rel => exact ⟨j + 1, by omega, by simp, IN, OUT ++ L, xs', zs', nx', ny', n', HN4.out, HM6.out.p, HM6.out.r, HM6.out.s, HM6.out.i, HM6.out.o, HM6.out.dj, by simpa using HQ1.out, (by first | omega | (simp; omega)), HQ4.out, HQ5.out, HM6.out.g⟩
          have e0 : (d == 0) = false := by simpa using hd0
          have e1 : (d == 1) = false := by simpa using hd1
          have e3 : (d == 3) = false := by simpa using hd3
          have e5 : (d == 5) = false := by simpa using hd5
          have hA : (if ((d : Int) = 0 ∨ (d : Int) = 1) ∧ (E : Int) = 0 then [x] else []) = [] := if_neg (by omega)
          have hB : (if ((d : Int) = 3 ∨ (d : Int) = 5) ∧ (E : Int) = 0 then [X] else []) = [] := if_neg (by omega)
          have hK := HK.out
          rw [hA, hB] at hK
          obtain ⟨hq1, hq2, hq3, hq4, hq5⟩ := hK
          simp only [List.length_append, List.length_nil] at hq2 hq3
          have HQ1 := hid hq1
          have HQ4 := hid hq4
          have HQ5 := hid hq5
          clear hA hB hq1 hq4 hq5
          go_wp2_with (first | (at_builtin; refine wpList_append_own2 rfl (.tmp 126) (.tmp 127) rfl (w1.heap.size + 1) _ OUT rfl HM4.out.o _ _ L rfl HM4.out.l (OUT.length + L.length) rfl (by omega) (by omega) _ rfl ?_; intro ta6 tc6 w6 ow6 cw6 bl6; have HM6 := hid (HM4.out.addOut (by omega) (by omega) (by omega) (by omega) ow6 cw6 bl6); clear ow6 cw6 bl6))
          go_roundg (gk - 1)
          case measure => omega
          case rel => exact ⟨j + 1, by omega, by simp, IN, OUT ++ L, xs', zs', nx', ny', n', HN4.out, HM6.out.p, HM6.out.r, HM6.out.s, HM6.out.i, HM6.out.o, HM6.out.dj, by simpa using HQ1.out, (by first | omega | (simp; omega)), HQ4.out, HQ5.out, HM6.out.g⟩
      · go_upto_block 2 with fail
        obtain ⟨w2, hw2⟩ : ∃ w2, w2 = (wr.alloc (.cells #[.int .i64 d, .int .i64 x.s, .int .i64 x.g, .int .u64 x.t] 40)).alloc (.cells #[.int .i64 0, .int .i64 0, .int .u64 0] 30) := ⟨_, rfl⟩
        obtain ⟨hf2, ht2, hc2, hp2, hq1, hq2, hs2⟩ := two_laid HP.out HR1.out HR2.out hw2
        rw [← hw2]
        obtain ⟨q0, q1, q2, q3⟩ := hf2.cells
        obtain ⟨p0, p1, p2, p3, p4, p5, p6, p7, p8, p9, p10, p11, p12⟩ := (show Pair w2 w1.heap.size #[.pointer (some ⟨b, 0, none⟩), .pointer (some ⟨c, 0, none⟩), .slice none 0 0, .bool false, .int .i64 0, .int .i64 0, .int .u64 0, .slice none 0 0, .bool false, .int .i64 0, .int .i64 0, .int .u64 0, .int .i64 1] from hp2).cells
        have fz := (Pair.fz hp2).2.2.2.2.2.2.2.2.2.2.2.2
        have hlf := hf2.lt
        have HF2 := hid hf2
        have HT2 := hid ht2
        have HC2 := hid hc2
        have HP2 := hid hp2
        have HQ1 := hid hq1
        have HQ2 := hid hq2
        clear hf2 ht2 hc2 hp2 hq1 hq2 hw2 o0 o1 o2 o3 p2 p3 p4 p5 p6 p7 p8 p9 p10 p11
        go_cut [12, 13] (fun l e wm => Moved b c w1.heap.size wr.heap.size (wr.heap.size + 1) d x xs zs nx ny wr l e wm)
        case first =>
          by_cases h0 : d = 0
          · subst h0
            go_wp2_with fail
            refine (put_any c x zs ny _ HQ2.out).mono ?_
            rintro e w3 ⟨pl, rfl, l3, r3, g3⟩
            have HL3 := hid l3
            have HR3 := hid r3
            have HG3 := hid g3
            clear l3 r3 g3
            go_wp2_with fail
            go_meet
            refine ⟨putL zs ny x, xs, (putP zs ny x), nx, (ny), W3.zero, putE zs ny x, 1, rfl, by omega, HL3.out.mono (fun g _ h => by omega), (HP2.out.ch HG3.out (fun e => by have : w1.heap.size = c := e; omega)), (HQ1.out.ch HG3.out (fun e => by have : b = c := e; omega)), HR3.out, (HF2.out.ch HG3.out (fun e => by have : wr.heap.size = c := e; omega)), (HT2.out.ch HG3.out (fun e => by have : wr.heap.size + 1 = c := e; omega)), ?_, (fun h1 h2 => ⟨h1, put_up h2⟩), (HC2.out.trans HG3.out (fun q e => .inl (.inr (.inl e))))⟩
            have := moved1 (o := []) (S := xs ++ nx.toList) (put_keeps zs ny x)
            simpa [allOf] using this
          by_cases h1 : d = 1
          · subst h1
            go_wp2_with fail
            refine (ready_any c x zs ny _ HQ2.out).mono ?_
            rintro e w3 ⟨pl, rfl, l3, r3, g3⟩
            have HL3 := hid l3
            have HR3 := hid r3
            have HG3 := hid g3
            clear l3 r3 g3
            go_wp2_with fail
            go_meet
            refine ⟨readyL zs ny x, xs, (readyP zs ny x), nx, (readyN zs ny x), W3.zero, readyE zs ny x, 1, rfl, by omega, HL3.out.mono (fun g _ h => by omega), (HP2.out.ch HG3.out (fun e => by have : w1.heap.size = c := e; omega)), (HQ1.out.ch HG3.out (fun e => by have : b = c := e; omega)), HR3.out, (HF2.out.ch HG3.out (fun e => by have : wr.heap.size = c := e; omega)), (HT2.out.ch HG3.out (fun e => by have : wr.heap.size + 1 = c := e; omega)), ?_, (fun h1 h2 => ⟨h1, ready_up h2⟩), (HC2.out.trans HG3.out (fun q e => .inl (.inr (.inl e))))⟩
            have := moved1 (o := []) (S := xs ++ nx.toList) (ready_keeps zs ny x)
            simpa [allOf] using this
          by_cases h2 : d = 2
          · subst h2
            go_wp2_with fail
            refine (kick_any c zs ny _ HQ2.out).mono ?_
            rintro e w3 ⟨pl, rfl, l3, r3, g3⟩
            have HL3 := hid l3
            have HR3 := hid r3
            have HG3 := hid g3
            clear l3 r3 g3
            go_wp2_with fail
            go_meet
            refine ⟨kickL zs ny, xs, (kickP zs ny), nx, none, W3.zero, 0, 1, rfl, by omega, HL3.out.mono (fun g _ h => by omega), (HP2.out.ch HG3.out (fun e => by have : w1.heap.size = c := e; omega)), (HQ1.out.ch HG3.out (fun e => by have : b = c := e; omega)), HR3.out, (HF2.out.ch HG3.out (fun e => by have : wr.heap.size = c := e; omega)), (HT2.out.ch HG3.out (fun e => by have : wr.heap.size + 1 = c := e; omega)), ?_, (fun h1 h2 => ⟨h1, kick_up2 h2⟩), (HC2.out.trans HG3.out (fun q e => .inl (.inr (.inl e))))⟩
            have := moved1 (i := []) (o := []) (S := xs ++ nx.toList) (kick_keeps zs ny)
            simpa [allOf] using this
          by_cases h3 : d = 3
          · subst h3
            go_wp2_with fail
            refine (take_any c zs ny _ HQ2.out).mono ?_
            rintro e w3 ⟨rfl, r3, g3⟩
            have T3 := HT2.out.ch g3 (fun e => by have : wr.heap.size + 1 = c := e; omega)
            obtain ⟨t0, t1, t2⟩ := T3.cells
            obtain ⟨u0, u1, u2⟩ := T3.fz
            have hlt3 := T3.lt
            have HT3 := hid T3
            have HR3 := hid r3
            have HG3 := hid g3
            have hs3 := g3.size
            clear r3 g3 T3
            go_wp2_with fail
            go_meet
            have HC3 := hid (Ch.own (Ch.own (Ch.own (Ch.refl (Only (wr.heap.size + 1)) w3) 0 (.int .i64 (tkX zs ny).s)) 1 (.int .i64 (tkX zs ny).g)) 2 (.int .u64 (tkX zs ny).t))
            refine ⟨[], xs, (tkP zs ny), nx, none, tkX zs ny, tkE zs ny, 1, rfl, by omega, Lst.nil _ _, (HP2.out.ch HG3.out (fun e => by have : w1.heap.size = c := e; omega)).ch HC3.out (fun e => by have : w1.heap.size = wr.heap.size + 1 := e; omega), (HQ1.out.ch HG3.out (fun e => by have : b = c := e; omega)).ch HC3.out (fun e => by have : b = wr.heap.size + 1 := e; omega), HR3.out.ch HC3.out (fun e => by have : c = wr.heap.size + 1 := e; omega), (HF2.out.ch HG3.out (fun e => by have : wr.heap.size = c := e; omega)).ch HC3.out (fun e => by have : wr.heap.size = wr.heap.size + 1 := e; omega), three_put HT3.out _, ?_, (fun h1 h2 => ⟨h1, take_up2 h2⟩), (HC2.out.trans HG3.out (fun q e => .inl (.inr (.inl e)))).trans HC3.out (fun q e => .inr (by have : q = wr.heap.size + 1 := e; omega))⟩
            have := moved1 (i := []) (l := []) (R' := tkP zs ny) (S := xs ++ nx.toList) (take_keeps zs ny)
            simpa [allOf] using this
          by_cases h4 : d = 4
          · subst h4
            go_wp2_with fail
            refine (drain_any c zs ny _ HQ2.out).mono ?_
            rintro e w3 ⟨pl, rfl, l3, r3, g3⟩
            have HL3 := hid l3
            have HR3 := hid r3
            have HG3 := hid g3
            clear l3 r3 g3
            go_wp2_with fail
            go_meet
            refine ⟨zs ++ ny.toList, xs, [], nx, none, W3.zero, 0, 1, rfl, by omega, HL3.out.mono (fun g _ h => by omega), (HP2.out.ch HG3.out (fun e => by have : w1.heap.size = c := e; omega)), (HQ1.out.ch HG3.out (fun e => by have : b = c := e; omega)), HR3.out, (HF2.out.ch HG3.out (fun e => by have : wr.heap.size = c := e; omega)), (HT2.out.ch HG3.out (fun e => by have : wr.heap.size + 1 = c := e; omega)), ?_, (fun h1 h2 => ⟨h1, drain_up h2⟩), (HC2.out.trans HG3.out (fun q e => .inl (.inr (.inl e))))⟩
            have := moved1 (i := []) (o := []) (S := xs ++ nx.toList) (drain_keeps zs ny)
            simpa [allOf] using this
          by_cases h5 : d = 5
          · subst h5
            go_wp2_with fail
            refine (steal_any b c xs nx zs ny _ HQ1.out HQ2.out (by omega)).mono ?_
            rintro e w3 ⟨rfl, r3, q3, g3⟩
            have T3 := HT2.out.ch g3 (fun e => by rcases e with e | e <;> omega)
            obtain ⟨t0, t1, t2⟩ := T3.cells
            obtain ⟨u0, u1, u2⟩ := T3.fz
            have hlt3 := T3.lt
            have HT3 := hid T3
            have HR3 := hid r3
            have HQ3 := hid q3
            have HG3 := hid g3
            have hs3 := g3.size
            clear r3 q3 g3 T3
            go_wp2_with fail
            go_meet
            have HC3 := hid (Ch.own (Ch.own (Ch.own (Ch.refl (Only (wr.heap.size + 1)) w3) 0 (.int .i64 (stX xs nx zs ny).s)) 1 (.int .i64 (stX xs nx zs ny).g)) 2 (.int .u64 (stX xs nx zs ny).t))
            refine ⟨[], (stP xs zs ny), (stQ xs zs ny), (stN xs nx zs ny), ny, stX xs nx zs ny, stE xs nx zs ny, 1, rfl, by omega, Lst.nil _ _, (HP2.out.ch HG3.out (fun e => by rcases e with e | e <;> omega)).ch HC3.out (fun e => by have : w1.heap.size = wr.heap.size + 1 := e; omega), HR3.out.ch HC3.out (fun e => by have : b = wr.heap.size + 1 := e; omega), HQ3.out.ch HC3.out (fun e => by have : c = wr.heap.size + 1 := e; omega), (HF2.out.ch HG3.out (fun e => by rcases e with e | e <;> omega)).ch HC3.out (fun e => by have : wr.heap.size = wr.heap.size + 1 := e; omega), three_put HT3.out _, ?_, (fun h1 h2 => steal_up h1 h2), (HC2.out.trans HG3.out (fun q e => .inl (by rcases e with e | e; exact .inl e; exact .inr (.inl e)))).trans HC3.out (fun q e => .inr (by have : q = wr.heap.size + 1 := e; omega))⟩
            have := stolen1 (steal_keeps xs nx zs ny)
            simpa [allOf] using this
          by_cases h6 : d = 6
          · subst h6
            go_wp2_with fail
            go_meet
            have HC3 := hid (Ch.own (Ch.refl (Only w1.heap.size) w2) 12 (.int .i64 0))
            refine ⟨[], xs, zs, nx, ny, W3.zero, 0, 0, rfl, by omega, Lst.nil _ _, pair_flip HP2.out _, HQ1.out.ch HC3.out (fun e => by have : b = w1.heap.size := e; omega), HQ2.out.ch HC3.out (fun e => by have : c = w1.heap.size := e; omega), HF2.out.ch HC3.out (fun e => by have : wr.heap.size = w1.heap.size := e; omega), HT2.out.ch HC3.out (fun e => by have : wr.heap.size + 1 = w1.heap.size := e; omega), by simp, fun h1 h2 => ⟨h1, h2⟩, HC2.out.trans HC3.out (fun q e => .inl (.inr (.inr e)))⟩
          have e0 : (d == 0) = false := by simpa using h0
          have e1 : (d == 1) = false := by simpa using h1
          have e2 : (d == 2) = false := by simpa using h2
          have e3 : (d == 3) = false := by simpa using h3
          have e4 : (d == 4) = false := by simpa using h4
          have e5 : (d == 5) = false := by simpa using h5
          have e6 : (d == 6) = false := by simpa using h6
          go_wp2_with fail
          go_meet
          exact ⟨[], xs, zs, nx, ny, W3.zero, 0, 1, rfl, by omega, Lst.nil _ _, HP2.out, HQ1.out, HQ2.out, HF2.out, HT2.out, by simp [h0, h1, h3, h5], fun h1 h2 => ⟨h1, h2⟩, HC2.out⟩
        case rest =>
          obtain ⟨L, xs', zs', nx', ny', X, E, n', rfl, hn', l4, p4, r4, s4, f4, t4, hpm, hup, g4⟩ := hcut
          obtain ⟨la, lc, rfl⟩ := l4.form
          have hK := kept_step hjl HPM.out HU1.out HU2.out hpm hup
          have hbi : ∀ q, Blk (.slice ia IN.length ic) q → q < wr.heap.size := fun q h => (HO1.out.blk h).2
          have hbo : ∀ q, Blk (.slice ta OUT.length tc) q → q < wr.heap.size := fun q h => (HO2.out.blk h).2
          have hlo : OUT.length ≤ IN.length := by have := HPM.out.length_eq; rw [List.length_append] at this; omega
          have hM : Mid b c w1.heap.size (w1.heap.size + 1) wr.heap.size d x X xs' zs' L IN OUT nx' ny' n' w0 (.slice ia IN.length ic) (.slice ta OUT.length tc) (.slice la L.length lc) wc :=
            ⟨p4, r4, s4, f4, t4, l4.mono (fun g _ h => ⟨fun e => by have := hbi g e; omega, fun e => by have := hbo g e; omega⟩), HO1.out.ch g4 (fun q h => not_tri HO1.out h (by omega) (by omega) (by omega)), HO2.out.ch g4 (fun q h => not_tri HO2.out h (by omega) (by omega) (by omega)), HDJ.out,
              fun q h => by have := hbi q h; omega, fun q h => by have := hbo q h; omega, HG.out.trans g4 (fun q e => .inr (by rcases e with e | e | e <;> omega))⟩
          obtain ⟨k0, k1, k2, k3⟩ := f4.cells
          obtain ⟨t0, t1, t2⟩ := t4.cells
          have hlf4 := f4.lt
          have hlt4 := t4.lt
          have hs4 := g4.size
          have HK := hid hK
          have HM4 := hid hM
          have HN4 := hid hn'
          clear l4 p4 r4 s4 f4 t4 hpm hup g4 hn' q0 q1 q2 q3 p0 p1 p12 fz hs2 hlf hK hM hbi hbo
          by_cases hd0 : d = 0
          · by_cases hE : E = 0
            · subst hd0
              subst hE
              have hA : (if ((0 : Int) = 0 ∨ (0 : Int) = 1) ∧ (0 : Int) = 0 then [x] else []) = [x] := if_pos ⟨Or.inl rfl, rfl⟩
              have hB : (if ((0 : Int) = 3 ∨ (0 : Int) = 5) ∧ (0 : Int) = 0 then [X] else []) = [] := if_neg (by omega)
              have hK := HK.out
              rw [hA, hB] at hK
              obtain ⟨hq1, hq2, hq3, hq4, hq5⟩ := hK
              simp only [List.length_append, List.length_cons, List.length_nil] at hq2 hq3
              have HQ1 := hid hq1
              have HQ4 := hid hq4
              have HQ5 := hid hq5
              clear hA hB hq1 hq4 hq5
              go_wp2_with (first | (at_builtin; refine wpList_append_own2 rfl (.tmp 105) (.tmp 108) rfl (w1.heap.size + 1) _ IN rfl (HM4.out.alloc (.cells #[.int .i64 x.s, .int .i64 x.g, .int .u64 x.t] 30)).i _ _ [x] rfl (Lst.single wc x) (IN.length + 1) rfl (by omega) (by simp; omega) _ rfl ?_; intro ia5 ic5 w5 ow5 cw5 bl5; have HM5 := hid ((HM4.out.alloc (.cells #[.int .i64 x.s, .int .i64 x.g, .int .u64 x.t] 30)).addIn (by omega) (by omega) (by omega) (by omega) ow5 cw5 bl5); have hz5 := cw5.size; simp only [World.size_alloc] at hz5; clear ow5 cw5 bl5; obtain ⟨k5, k6, k7, k8⟩ := HM5.out.f.cells) | (at_builtin; refine wpList_append_own2 rfl (.tmp 126) (.tmp 127) rfl (w1.heap.size + 1) _ OUT rfl HM5.out.o _ _ L rfl HM5.out.l (OUT.length + L.length) rfl (by omega) (by omega) _ rfl ?_; intro ta6 tc6 w6 ow6 cw6 bl6; have HM6 := hid (HM5.out.addOut (by omega) (by omega) (by omega) (by omega) ow6 cw6 bl6); clear ow6 cw6 bl6))
              go_roundg (gk - 1)
              case measure => omega
              case rel => exact ⟨j + 1, by omega, by simp, IN ++ [x], OUT ++ L, xs', zs', nx', ny', n', HN4.out, HM6.out.p, HM6.out.r, HM6.out.s, HM6.out.i, HM6.out.o, HM6.out.dj, by simpa using HQ1.out, (by first | omega | (simp; omega)), HQ4.out, HQ5.out, HM6.out.g⟩
            · subst hd0
              have eE : (E == 0) = false := by simpa using hE
              have hA : (if ((0 : Int) = 0 ∨ (0 : Int) = 1) ∧ (E : Int) = 0 then [x] else []) = [] := if_neg (by omega)
              have hB : (if ((0 : Int) = 3 ∨ (0 : Int) = 5) ∧ (E : Int) = 0 then [X] else []) = [] := if_neg (by omega)
              have hK := HK.out
              rw [hA, hB] at hK
              obtain ⟨hq1, hq2, hq3, hq4, hq5⟩ := hK
              simp only [List.length_append, List.length_nil] at hq2 hq3
              have HQ1 := hid hq1
              have HQ4 := hid hq4
              have HQ5 := hid hq5
              clear hA hB hq1 hq4 hq5
              go_wp2_with (first | (at_builtin; refine wpList_append_own2 rfl (.tmp 126) (.tmp 127) rfl (w1.heap.size + 1) _ OUT rfl HM4.out.o _ _ L rfl HM4.out.l (OUT.length + L.length) rfl (by omega) (by omega) _ rfl ?_; intro ta6 tc6 w6 ow6 cw6 bl6; have HM6 := hid (HM4.out.addOut (by omega) (by omega) (by omega) (by omega) ow6 cw6 bl6); clear ow6 cw6 bl6))
              go_roundg (gk - 1)
              case measure => omega
              case rel => exact ⟨j + 1, by omega, by simp, IN, OUT ++ L, xs', zs', nx', ny', n', HN4.out, HM6.out.p, HM6.out.r, HM6.out.s, HM6.out.i, HM6.out.o, HM6.out.dj, by simpa using HQ1.out, (by first | omega | (simp; omega)), HQ4.out, HQ5.out, HM6.out.g⟩
          by_cases hd1 : d = 1
          · by_cases hE : E = 0
            · subst hd1
              subst hE
              have hA : (if ((1 : Int) = 0 ∨ (1 : Int) = 1) ∧ (0 : Int) = 0 then [x] else []) = [x] := if_pos ⟨Or.inr rfl, rfl⟩
              have hB : (if ((1 : Int) = 3 ∨ (1 : Int) = 5) ∧ (0 : Int) = 0 then [X] else []) = [] := if_neg (by omega)
              have hK := HK.out
              rw [hA, hB] at hK
              obtain ⟨hq1, hq2, hq3, hq4, hq5⟩ := hK
              simp only [List.length_append, List.length_cons, List.length_nil] at hq2 hq3
              have HQ1 := hid hq1
              have HQ4 := hid hq4
              have HQ5 := hid hq5
              clear hA hB hq1 hq4 hq5
              go_wp2_with (first | (at_builtin; refine wpList_append_own2 rfl (.tmp 105) (.tmp 108) rfl (w1.heap.size + 1) _ IN rfl (HM4.out.alloc (.cells #[.int .i64 x.s, .int .i64 x.g, .int .u64 x.t] 30)).i _ _ [x] rfl (Lst.single wc x) (IN.length + 1) rfl (by omega) (by simp; omega) _ rfl ?_; intro ia5 ic5 w5 ow5 cw5 bl5; have HM5 := hid ((HM4.out.alloc (.cells #[.int .i64 x.s, .int .i64 x.g, .int .u64 x.t] 30)).addIn (by omega) (by omega) (by omega) (by omega) ow5 cw5 bl5); have hz5 := cw5.size; simp only [World.size_alloc] at hz5; clear ow5 cw5 bl5; obtain ⟨k5, k6, k7, k8⟩ := HM5.out.f.cells) | (at_builtin; refine wpList_append_own2 rfl (.tmp 126) (.tmp 127) rfl (w1.heap.size + 1) _ OUT rfl HM5.out.o _ _ L rfl HM5.out.l (OUT.length + L.length) rfl (by omega) (by omega) _ rfl ?_; intro ta6 tc6 w6 ow6 cw6 bl6; have HM6 := hid (HM5.out.addOut (by omega) (by omega) (by omega) (by omega) ow6 cw6 bl6); clear ow6 cw6 bl6))
              go_roundg (gk - 1)
              case measure => omega
              case rel => exact ⟨j + 1, by omega, by simp, IN ++ [x], OUT ++ L, xs', zs', nx', ny', n', HN4.out, HM6.out.p, HM6.out.r, HM6.out.s, HM6.out.i, HM6.out.o, HM6.out.dj, by simpa using HQ1.out, (by first | omega | (simp; omega)), HQ4.out, HQ5.out, HM6.out.g⟩
            · subst hd1
              have eE : (E == 0) = false := by simpa using hE
              have hA : (if ((1 : Int) = 0 ∨ (1 : Int) = 1) ∧ (E : Int) = 0 then [x] else []) = [] := if_neg (by omega)
              have hB : (if ((1 : Int) = 3 ∨ (1 : Int) = 5) ∧ (E : Int) = 0 then [X] else []) = [] := if_neg (by omega)
              have hK := HK.out
              rw [hA, hB] at hK
              obtain ⟨hq1, hq2, hq3, hq4, hq5⟩ := hK
              simp only [List.length_append, List.length_nil] at hq2 hq3
              have HQ1 := hid hq1
              have HQ4 := hid hq4
              have HQ5 := hid hq5
              clear hA hB hq1 hq4 hq5
              go_wp2_with (first | (at_builtin; refine wpList_append_own2 rfl (.tmp 126) (.tmp 127) rfl (w1.heap.size + 1) _ OUT rfl HM4.out.o _ _ L rfl HM4.out.l (OUT.length + L.length) rfl (by omega) (by omega) _ rfl ?_; intro ta6 tc6 w6 ow6 cw6 bl6; have HM6 := hid (HM4.out.addOut (by omega) (by omega) (by omega) (by omega) ow6 cw6 bl6); clear ow6 cw6 bl6))
              go_roundg (gk - 1)
              case measure => omega
              case rel => exact ⟨j + 1, by omega, by simp, IN, OUT ++ L, xs', zs', nx', ny', n', HN4.out, HM6.out.p, HM6.out.r, HM6.out.s, HM6.out.i, HM6.out.o, HM6.out.dj, by simpa using HQ1.out, (by first | omega | (simp; omega)), HQ4.out, HQ5.out, HM6.out.g⟩
          by_cases hd3 : d = 3
          · by_cases hE : E = 0
            · subst hd3
              subst hE
              have hA : (if ((3 : Int) = 0 ∨ (3 : Int) = 1) ∧ (0 : Int) = 0 then [x] else []) = [] := if_neg (by omega)
              have hB : (if ((3 : Int) = 3 ∨ (3 : Int) = 5) ∧ (0 : Int) = 0 then [X] else []) = [X] := if_pos ⟨Or.inl rfl, rfl⟩
              have hK := HK.out
              rw [hA, hB] at hK
              obtain ⟨hq1, hq2, hq3, hq4, hq5⟩ := hK
              simp only [List.length_append, List.length_cons, List.length_nil] at hq2 hq3
              have HQ1 := hid hq1
              have HQ4 := hid hq4
              have HQ5 := hid hq5
              clear hA hB hq1 hq4 hq5
              go_wp2_with (first | (at_builtin; refine wpList_append_own2 rfl (.tmp 122) (.tmp 124) rfl (w1.heap.size + 1) _ OUT rfl (HM4.out.alloc (.cells #[.int .i64 X.s, .int .i64 X.g, .int .u64 X.t] 30)).o _ _ [X] rfl (Lst.single wc X) (OUT.length + 1) rfl (by omega) (by simp; omega) _ rfl ?_; intro ta5 tc5 w5 ow5 cw5 bl5; have HM5 := hid ((HM4.out.alloc (.cells #[.int .i64 X.s, .int .i64 X.g, .int .u64 X.t] 30)).addOut (by omega) (by omega) (by omega) (by omega) ow5 cw5 bl5); have hz5 := cw5.size; simp only [World.size_alloc] at hz5; clear ow5 cw5 bl5) | (at_builtin; refine wpList_append_own2 rfl (.tmp 126) (.tmp 127) rfl (w1.heap.size + 1) _ (OUT ++ [X]) rfl HM5.out.o _ _ L rfl HM5.out.l (OUT.length + 1 + L.length) (by simp) (by omega) (by omega) _ rfl ?_; intro ta6 tc6 w6 ow6 cw6 bl6; have HM6 := hid (HM5.out.addOut (by omega) (by omega) (by omega) (by omega) ow6 cw6 bl6); clear ow6 cw6 bl6))
              go_roundg (gk - 1)
              case measure => omega
              case rel => exact ⟨j + 1, by omega, by simp, IN, (OUT ++ [X]) ++ L, xs', zs', nx', ny', n', HN4.out, HM6.out.p, HM6.out.r, HM6.out.s, HM6.out.i, HM6.out.o, HM6.out.dj, by simpa using HQ1.out, (by first | omega | (simp; omega)), HQ4.out, HQ5.out, HM6.out.g⟩
            · subst hd3
              have eE : (E == 0) = false := by simpa using hE
              have hA : (if ((3 : Int) = 0 ∨ (3 : Int) = 1) ∧ (E : Int) = 0 then [x] else []) = [] := if_neg (by omega)
              have hB : (if ((3 : Int) = 3 ∨ (3 : Int) = 5) ∧ (E : Int) = 0 then [X] else []) = [] := if_neg (by omega)
              have hK := HK.out
              rw [hA, hB] at hK
              obtain ⟨hq1, hq2, hq3, hq4, hq5⟩ := hK
              simp only [List.length_append, List.length_nil] at hq2 hq3
              have HQ1 := hid hq1
              have HQ4 := hid hq4
              have HQ5 := hid hq5
              clear hA hB hq1 hq4 hq5
              go_wp2_with (first | (at_builtin; refine wpList_append_own2 rfl (.tmp 126) (.tmp 127) rfl (w1.heap.size + 1) _ OUT rfl HM4.out.o _ _ L rfl HM4.out.l (OUT.length + L.length) rfl (by omega) (by omega) _ rfl ?_; intro ta6 tc6 w6 ow6 cw6 bl6; have HM6 := hid (HM4.out.addOut (by omega) (by omega) (by omega) (by omega) ow6 cw6 bl6); clear ow6 cw6 bl6))
              go_roundg (gk - 1)
              case measure => omega
              case rel => exact ⟨j + 1, by omega, by simp, IN, OUT ++ L, xs', zs', nx', ny', n', HN4.out, HM6.out.p, HM6.out.r, HM6.out.s, HM6.out.i, HM6.out.o, HM6.out.dj, by simpa using HQ1.out, (by first | omega | (simp; omega)), HQ4.out, HQ5.out, HM6.out.g⟩
          by_cases hd5 : d = 5
          · by_cases hE : E = 0
            · subst hd5
              subst hE
              have hA : (if ((5 : Int) = 0 ∨ (5 : Int) = 1) ∧ (0 : Int) = 0 then [x] else []) = [] := if_neg (by omega)
              have hB : (if ((5 : Int) = 3 ∨ (5 : Int) = 5) ∧ (0 : Int) = 0 then [X] else []) = [X] := if_pos ⟨Or.inr rfl, rfl⟩
              have hK := HK.out
              rw [hA, hB] at hK
              obtain ⟨hq1, hq2, hq3, hq4, hq5⟩ := hK
              simp only [List.length_append, List.length_cons, List.length_nil] at hq2 hq3
              have HQ1 := hid hq1
              have HQ4 := hid hq4
              have HQ5 := hid hq5
              clear hA hB hq1 hq4 hq5
              go_wp2_with (first | (at_builtin; refine wpList_append_own2 rfl (.tmp 122) (.tmp 124) rfl (w1.heap.size + 1) _ OUT rfl (HM4.out.alloc (.cells #[.int .i64 X.s, .int .i64 X.g, .int .u64 X.t] 30)).o _ _ [X] rfl (Lst.single wc X) (OUT.length + 1) rfl (by omega) (by simp; omega) _ rfl ?_; intro ta5 tc5 w5 ow5 cw5 bl5; have HM5 := hid ((HM4.out.alloc (.cells #[.int .i64 X.s, .int .i64 X.g, .int .u64 X.t] 30)).addOut (by omega) (by omega) (by omega) (by omega) ow5 cw5 bl5); have hz5 := cw5.size; simp only [World.size_alloc] at hz5; clear ow5 cw5 bl5) | (at_builtin; refine wpList_append_own2 rfl (.tmp 126) (.tmp 127) rfl (w1.heap.size + 1) _ (OUT ++ [X]) rfl HM5.out.o _ _ L rfl HM5.out.l (OUT.length + 1 + L.length) (by simp) (by omega) (by omega) _ rfl ?_; intro ta6 tc6 w6 ow6 cw6 bl6; have HM6 := hid (HM5.out.addOut (by omega) (by omega) (by omega) (by omega) ow6 cw6 bl6); clear ow6 cw6 bl6))
              go_roundg (gk - 1)
              case measure => omega
              case rel => exact ⟨j + 1, by omega, by simp, IN, (OUT ++ [X]) ++ L, xs', zs', nx', ny', n', HN4.out, HM6.out.p, HM6.out.r, HM6.out.s, HM6.out.i, HM6.out.o, HM6.out.dj, by simpa using HQ1.out, (by first | omega | (simp; omega)), HQ4.out, HQ5.out, HM6.out.g⟩
            · subst hd5
              have eE : (E == 0) = false := by simpa using hE
              have hA : (if ((5 : Int) = 0 ∨ (5 : Int) = 1) ∧ (E : Int) = 0 then [x] else []) = [] := if_neg (by omega)
              have hB : (if ((5 : Int) = 3 ∨ (5 : Int) = 5) ∧ (E : Int) = 0 then [X] else []) = [] := if_neg (by omega)
              have hK := HK.out
              rw [hA, hB] at hK
              obtain ⟨hq1, hq2, hq3, hq4, hq5⟩ := hK
              simp only [List.length_append, List.length_nil] at hq2 hq3
              have HQ1 := hid hq1
              have HQ4 := hid hq4
              have HQ5 := hid hq5
              clear hA hB hq1 hq4 hq5
              go_wp2_with (first | (at_builtin; refine wpList_append_own2 rfl (.tmp 126) (.tmp 127) rfl (w1.heap.size + 1) _ OUT rfl HM4.out.o _ _ L rfl HM4.out.l (OUT.length + L.length) rfl (by omega) (by omega) _ rfl ?_; intro ta6 tc6 w6 ow6 cw6 bl6; have HM6 := hid (HM4.out.addOut (by omega) (by omega) (by omega) (by omega) ow6 cw6 bl6); clear ow6 cw6 bl6))
              go_roundg (gk - 1)
              case measure => omega
              case rel => exact ⟨j + 1, by omega, by simp, IN, OUT ++ L, xs', zs', nx', ny', n', HN4.out, HM6.out.p, HM6.out.r, HM6.out.s, HM6.out.i, HM6.out.o, HM6.out.dj, by simpa using HQ1.out, (by first | omega | (simp; omega)), HQ4.out, HQ5.out, HM6.out.g⟩
          have e0 : (d == 0) = false := by simpa using hd0
          have e1 : (d == 1) = false := by simpa using hd1
          have e3 : (d == 3) = false := by simpa using hd3
          have e5 : (d == 5) = false := by simpa using hd5
          have hA : (if ((d : Int) = 0 ∨ (d : Int) = 1) ∧ (E : Int) = 0 then [x] else []) = [] := if_neg (by omega)
          have hB : (if ((d : Int) = 3 ∨ (d : Int) = 5) ∧ (E : Int) = 0 then [X] else []) = [] := if_neg (by omega)
          have hK := HK.out
          rw [hA, hB] at hK
          obtain ⟨hq1, hq2, hq3, hq4, hq5⟩ := hK
          simp only [List.length_append, List.length_nil] at hq2 hq3
          have HQ1 := hid hq1
          have HQ4 := hid hq4
          have HQ5 := hid hq5
          clear hA hB hq1 hq4 hq5
          go_wp2_with (first | (at_builtin; refine wpList_append_own2 rfl (.tmp 126) (.tmp 127) rfl (w1.heap.size + 1) _ OUT rfl HM4.out.o _ _ L rfl HM4.out.l (OUT.length + L.length) rfl (by omega) (by omega) _ rfl ?_; intro ta6 tc6 w6 ow6 cw6 bl6; have HM6 := hid (HM4.out.addOut (by omega) (by omega) (by omega) (by omega) ow6 cw6 bl6); clear ow6 cw6 bl6))
          go_roundg (gk - 1)
          case measure => omega
          case rel => exact ⟨j + 1, by omega, by simp, IN, OUT ++ L, xs', zs', nx', ny', n', HN4.out, HM6.out.p, HM6.out.r, HM6.out.s, HM6.out.i, HM6.out.o, HM6.out.dj, by simpa using HQ1.out, (by first | omega | (simp; omega)), HQ4.out, HQ5.out, HM6.out.g⟩
    · obtain ⟨ia, ic, rfl⟩ := ho1.form
      obtain ⟨ta, tc, rfl⟩ := ho2.form
      obtain ⟨p0, p1, p2, p3, p4, p5, p6, p7, p8, p9, p10, p11, p12⟩ := (show Pair wr w1.heap.size #[.pointer (some ⟨b, 0, none⟩), .pointer (some ⟨c, 0, none⟩), .slice none 0 0, .bool false, .int .i64 0, .int .i64 0, .int .u64 0, .slice none 0 0, .bool false, .int .i64 0, .int .i64 0, .int .u64 0, .int .i64 n] from hp).cells
      have Z := HZ0.out.ch hg (noB _)
      obtain ⟨q0, q1, q2, q3, q4, q5, q6, q7, q8, q9, q10, q11, q12⟩ := Z.cells
      obtain ⟨f0, f1, f2, f3, f4, f5, f6, f7, f8, f9, f10, f11, f12⟩ := Z.fz
      have hZl := Z.lt
      have HR1 := hid hr1
      have HR2 := hid hr2
      have HO1 := hid ho1
      have HO2 := hid ho2
      have HDJ := hid hdj
      have HPM := hid hperm
      have HU1 := hid hu1
      have HU2 := hid hu2
      have HG := hid hg
      clear hp hr1 hr2 ho1 ho2 hdj hperm hu1 hu2 hg Z hn
      go_wp2
      refine bodyPost_ret (v := .tuple #[.agg (pairOf b c n), .slice ia IN.length ic, .slice ta OUT.length tc]) (by simp [results, Try.results15, go_sem, pairOf, q0, q1, q2, q3, q4, q5, q6, q7, q8, q9, q10, q11, q12]) rfl ?_
      have D : ∀ wf, Ch (Only w.heap.size) wr wf → ∃ b' c' n' B iv' ov' IN' OUT' xs' zs' nx' ny', Ending.returned (.tuple #[.agg (pairOf b c n), .slice ia IN.length ic, .slice ta OUT.length tc]) = .returned (.tuple #[.agg (pairOf b' c' n'), iv', ov']) ∧ w.heap.size ≤ b' ∧ b' < c' ∧ c' < B ∧ RingAt wf b' xs' nx' ∧ RingAt wf c' zs' ny' ∧ Own B wf iv' IN' ∧ Own B wf ov' OUT' ∧ (∀ q, Blk iv' q → ¬ Blk ov' q) ∧ IN'.Perm (OUT' ++ allOf xs' nx' zs' ny') ∧ IN'.length ≤ m ∧ upB (xs' ++ nx'.toList) = true ∧ upB (zs' ++ ny'.toList) = true ∧ Ch NoB w wf := fun wf D =>
        ⟨b, c, n, w1.heap.size + 1, _, _, IN, OUT, xs, zs, nx, ny, rfl, by omega, by omega, by omega, HR1.out.ch D (fun e => by have : b = w.heap.size := e; omega), HR2.out.ch D (fun e => by have : c = w.heap.size := e; omega), HO1.out.ch D (fun q h e => by have := (HO1.out.blk h).1; have : q = w.heap.size := e; omega), HO2.out.ch D (fun q h e => by have := (HO2.out.blk h).1; have : q = w.heap.size := e; omega), HDJ.out, HPM.out, by omega, HU1.out, HU2.out, (HG0.out.trans' HG.out).trans D (fun q e => .inr (by have : q = w.heap.size := e; omega))⟩
      refine D _ ?_
      repeat refine Ch.own ?_ _ _
      exact Ch.refl _ _
end Go.Proofs.Ytfodjkdioddbjaa.Rg
