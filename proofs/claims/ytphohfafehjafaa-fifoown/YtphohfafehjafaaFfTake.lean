/-
  What takeAt, Take and Drop answer and leave, of a queue that is there. Condition: the queue's list is owned, and has no more than 4096 elements.
-/
import Derived.Test.YtphohfafehjafaaFfDelete
namespace Go.Proofs.Ytphohfafehjafaa.Ff
open Go.RowKit
attribute [local go_sem ↓] Go.wp_at_zero Go.wp_at_succ

/-- the blocks of a queue -/
def QS (b : Nat) (v : Value) : Nat → Prop := fun q => q = b ∨ Blk v q
/-- a queue, its list owned -/
def Que (base : Nat) (w : World) (b : Nat) (v : Value) (xs : List W3) : Prop := QAt w b v ∧ Own base w v xs ∧ b < base ∧ xs.length ≤ 4096
/-- what a call of a queue leaves of it -/
def Left (base : Nat) (b : Nat) (v : Value) (w : World) (xs : List W3) (w' : World) : Prop := ∃ v', Que base w' b v' xs ∧ Ch (QS b v) w w' ∧ (∀ q, Blk v' q → Blk v q ∨ w.heap.size ≤ q)

theorem Que.some {base : Nat} {w : World} {b : Nat} {v : Value} {xs : List W3} (h : Que base w b v xs) (hx : 0 < xs.length) : ∃ g cap, v = .slice (some ⟨g, 0, none⟩) xs.length cap ∧ base ≤ g ∧ g < w.heap.size := World.ownsRow.form h.2.1 hx
theorem Own.get {base : Nat} {w : World} {g n cap : Nat} {xs : List W3} (h : Own base w (.slice (some ⟨g, 0, none⟩) n cap) xs) {i : Nat} {x : W3} (hx : xs[i]? = some x) :
    w.cell? ⟨g, i * 3, none⟩ = some (.int .i64 x.s) ∧ w.cell? ⟨g, i * 3 + 1, none⟩ = some (.int .i64 x.g) ∧ w.cell? ⟨g, i * 3 + 2, none⟩ = some (.int .u64 x.t) := by
  obtain ⟨g', o', e, _, _, h0, h1, h2⟩ := (h.lst).get hx
  simp only [Option.some.injEq, Addr.mk.injEq] at e
  obtain ⟨rfl, rfl, _⟩ := e
  rw [Nat.zero_add] at h0 h1 h2
  exact ⟨h0, h1, h2⟩

set_option maxHeartbeats 1000000 in
theorem takeAt_any (base b i : Nat) (v : Value) (xs : List W3) (x : W3) (w : World) (hq : Que base w b v xs) (hx : xs[i]? = some x) :
    Calls Try.prog 31 #[.pointer (some ⟨b, 0, none⟩), .int .i64 (i : Int)] w fun e w' => e = .returned (.agg #[.int .i64 x.s, .int .i64 x.g, .int .u64 x.t]) ∧ Left base b v w (cutOut i (i + 1) xs) w' := by
  have hil : i < xs.length := (List.getElem?_eq_some_iff.1 hx).1
  obtain ⟨g, cap, rfl, hbg, hgl⟩ := hq.some (by omega)
  obtain ⟨hq1, ho, hbb, hlen⟩ := hq
  obtain ⟨a0, a1, a2⟩ := ho.get hx
  have c0 := hq1.cell
  have z0 := hq1.fz
  have hbl := hq1.lt
  obtain ⟨n, hn⟩ : ∃ n, n = xs.length := ⟨_, rfl⟩
  rw [← hn] at hil hlen c0 ho hq1 ⊢
  have i0 : (0 : Int) ≤ (i : Int) := by omega
  have i1 : (i : Int) < (n : Int) := by omega
  have HQ := hid hq1
  have HO := hid ho
  have HN := hid hn
  have n1 : ¬ (b = w.heap.size) := by omega
  have n2 : ¬ (w.heap.size = b) := by omega
  have n3 : b < w.heap.size + 1 := by omega
  have n4 : g < w.heap.size + 1 := by omega
  clear hq1 ho hn hx
  go_enter Try.func31, Try.ntmps31
  go_wp2_with fail
  rw [show ((i : Int) + 1) = ((i + 1 : Nat) : Int) by omega]
  refine (delete_any base g n cap i (i + 1) xs _ ((HO.out.alloc _).alloc _) (by omega) (by omega) hlen).mono ?_
  rintro e w1 ⟨rfl, o1, g1⟩
  have hs1 := g1.size
  simp only [World.size_alloc] at hs1
  have Q1 := ((HQ.out.alloc _).alloc _).ch g1 (fun e => by have : b = g := e; omega)
  have c1 := Q1.cell
  have z1 := Q1.fz
  have R1 := ((Three.new w W3.zero).alloc (.cells #[.int .i64 x.s, .int .i64 x.g, .int .u64 x.t] 33)).ch g1 (fun e => by have : w.heap.size = g := e; omega)
  have T1 := Three.new (w.alloc (.cells #[.int .i64 0, .int .i64 0, .int .u64 0] 33)) x
  simp only [World.size_alloc] at T1
  have T2 := T1.ch g1 (fun e => by have : w.heap.size + 1 = g := e; omega)
  obtain ⟨r0, r1, r2⟩ := R1.cells
  have f0 := R1.frozen 0
  have f1 := R1.frozen 1
  have f2 := R1.frozen 2
  obtain ⟨t0, t1, t2⟩ := T2.cells
  have HQ1 := hid Q1
  have HO1 := hid o1
  have HG1 := hid ((((Ch.refl NoB w).alloc _).alloc _).any.trans' g1)
  clear o1 g1 Q1 R1 T1 T2
  go_wp2
  refine bodyPost_ret (v := .agg #[.int .i64 x.s, .int .i64 x.g, .int .u64 x.t]) (by simp [results, Try.results31, go_sem, r0, r1, r2]) rfl ?_
  have D : ∀ wf, Ch (Only w.heap.size) (w1.setCell ⟨b, 0, none⟩ (.slice (some ⟨g, 0, none⟩) (i + (n - (i + 1))) cap)) wf → Left base b (.slice (some ⟨g, 0, none⟩) n cap) w (cutOut i (i + 1) xs) wf := by
    intro wf D
    have C1 := (Ch.refl (Only b) w1).own 0 (.slice (some ⟨g, 0, none⟩) (i + (n - (i + 1))) cap)
    have hgb : ∀ q, Blk (.slice (some ⟨g, 0, none⟩) (i + (n - (i + 1))) cap) q → q = g := fun q h => by have h' : some g = some q := h; injection h' with h'; exact h'.symm
    refine ⟨_, ⟨(HQ1.out.put _).ch D (fun e => by have : b = w.heap.size := e; omega), (HO1.out.ch C1 (fun q h e => by have := hgb q h; have : q = b := e; omega)).ch D (fun q h e => by have := hgb q h; have : q = w.heap.size := e; omega), hbb, ?_⟩, ?_, fun q h => .inl ?_⟩
    · have : (cutOut i (i + 1) xs).length ≤ xs.length := by unfold cutOut; rw [List.length_append, List.length_take, List.length_drop]; omega
      rw [← HN.out] at this
      omega
    · exact ((HG1.out.mono (T := QS b (.slice (some ⟨g, 0, none⟩) n cap)) (fun q e => .inl (.inr (by have : q = g := e; rw [this]; rfl)))).trans C1 (fun q e => .inl (.inl e))).trans D (fun q e => .inr (by have : q = w.heap.size := e; omega))
    · have := hgb q h
      rw [this]
      rfl
  refine ⟨rfl, D _ ?_⟩
  exact Ch.own (Ch.own (Ch.own (Ch.refl _ _) _ _) _ _) _ _

theorem take_none (base b : Nat) (v : Value) (w : World) (hq : Que base w b v []) :
    Calls Try.prog 16 #[.pointer (some ⟨b, 0, none⟩)] w fun e w' => e = .returned (.tuple #[.agg #[.int .i64 0, .int .i64 0, .int .u64 0], .int .i64 31]) ∧ Ch NoB w w' := by
  obtain ⟨ao, cap, rfl⟩ := hq.2.1.form
  have c0 := hq.1.cell
  have hbl := hq.1.lt
  clear hq
  go_enter Try.func16, Try.ntmps16
  go_wp2
  exact bodyPost_ret (v := .tuple #[.agg #[.int .i64 0, .int .i64 0, .int .u64 0], .int .i64 31]) (by simp [results, Try.results16, go_sem]) rfl ⟨rfl, (Ch.refl _ _).alloc _⟩

theorem Que.alloc {base : Nat} {w : World} {b : Nat} {v : Value} {xs : List W3} (h : Que base w b v xs) (o : Obj) : Que base (w.alloc o) b v xs := ⟨h.1.alloc o, h.2.1.alloc o, h.2.2.1, h.2.2.2⟩
theorem Que.ch {S : Nat → Prop} {base : Nat} {w w' : World} {b : Nat} {v : Value} {xs : List W3} (h : Que base w b v xs) (g : Ch S w w') (hs : ∀ q, QS b v q → ¬ S q) : Que base w' b v xs :=
  ⟨h.1.ch g (hs b (.inl rfl)), h.2.1.ch g (fun q e => hs q (.inr e)), h.2.2.1, h.2.2.2⟩
theorem Left.of {base b : Nat} {v : Value} {w w1 w2 : World} {xs : List W3} (h : Left base b v w1 xs w2) (g : Ch NoB w w1) : Left base b v w xs w2 := by
  obtain ⟨v', h1, h2, h3⟩ := h
  exact ⟨v', h1, (g.any (S := QS b v)).trans' h2, fun q e => (h3 q e).imp id (fun x => Nat.le_trans g.size x)⟩
/-- .. where a result that was laid first is written -/
theorem Left.res {base b : Nat} {v : Value} {w w2 wf : World} {o : Obj} {xs : List W3} (h : Left base b v (w.alloc o) xs w2) (g : Ch (Only w.heap.size) w2 wf) (hb : b < w.heap.size) (hv : ∀ q, Blk v q → q < w.heap.size) : Left base b v w xs wf := by
  obtain ⟨v', h1, h2, h3⟩ := h
  have hk : ∀ q, Blk v' q → q ≠ w.heap.size := fun q e => by
    rcases h3 q e with a | a
    · have := hv q a; omega
    · simp at a; omega
  refine ⟨v', h1.ch g (fun q e s => ?_), ?_, fun q e => (h3 q e).imp id (fun x => by simp at x; omega)⟩
  · have : q = w.heap.size := s
    rcases e with e | e
    · omega
    · exact hk q e this
  · exact ((((Ch.refl (QS b v) w).alloc o).trans' h2).trans g (fun q e => .inr (by have : q = w.heap.size := e; omega)))

theorem take_some (base b : Nat) (v : Value) (x : W3) (r : List W3) (w : World) (hq : Que base w b v (x :: r)) :
    Calls Try.prog 16 #[.pointer (some ⟨b, 0, none⟩)] w fun e w' => e = .returned (.tuple #[.agg #[.int .i64 x.s, .int .i64 x.g, .int .u64 x.t], .int .i64 0]) ∧ Left base b v w r w' := by
  obtain ⟨ao, cap, rfl⟩ := hq.2.1.form
  have c0 := hq.1.cell
  have hbl := hq.1.lt
  have hv : ∀ q, Blk (.slice ao (x :: r).length cap) q → q < w.heap.size := fun q h => (hq.2.1.blk h).2
  have hT := takeAt_any base b 0 _ (x :: r) x _ (hq.alloc (.cells #[.int .i64 0, .int .i64 0, .int .u64 0] 33)) rfl
  have e0 : cutOut 0 (0 + 1) (x :: r) = r := rfl
  rw [e0] at hT
  obtain ⟨n, hn⟩ : ∃ n, n = r.length := ⟨_, rfl⟩
  simp only [List.length_cons, ← hn] at hT hv c0
  simp only [List.length_cons, ← hn]
  have hz : (((n + 1 : Nat) : Int) == 0) = false := by simp; omega
  have HT := hid hT
  have HV := hid hv
  clear hT hq hv hn e0
  go_enter Try.func16, Try.ntmps16
  go_wp2_with fail
  refine HT.out.mono ?_
  rintro e w1 ⟨rfl, l1⟩
  have hne : ¬ QS b (.slice ao (n + 1) cap) w.heap.size := fun e => by
    rcases e with e | e
    · omega
    · have := HV.out _ e; omega
  have R1 := (Three.new w W3.zero).ch l1.choose_spec.2.1 hne
  obtain ⟨r0, r1, r2⟩ := R1.cells
  have f0 := R1.frozen 0
  have f1 := R1.frozen 1
  have f2 := R1.frozen 2
  have hl1 := R1.lt
  have HL := hid l1
  clear R1 l1 hne
  go_wp2
  refine bodyPost_ret (v := .tuple #[.agg #[.int .i64 x.s, .int .i64 x.g, .int .u64 x.t], .int .i64 0]) (by simp [results, Try.results16, go_sem, r0, r1, r2]) rfl ⟨rfl, HL.out.res ?_ hbl HV.out⟩
  exact Ch.own (Ch.own (Ch.own (Ch.refl _ _) _ _) _ _) _ _
end Go.Proofs.Ytphohfafehjafaa.Ff
