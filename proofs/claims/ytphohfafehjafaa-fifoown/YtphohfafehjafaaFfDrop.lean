/-
  What Drop answers and leaves, of a queue that is there. Condition: the queue's list is owned, and has no more than 4096 elements.
-/
import Derived.Test.YtphohfafehjafaaFfTake
namespace Go.Proofs.Ytphohfafehjafaa.Ff
open Go.RowKit
attribute [local go_sem ↓] Go.wp_at_zero Go.wp_at_succ

theorem Left.res2 {base b k : Nat} {v : Value} {w w1 w2 wf : World} {xs : List W3} (h : Left base b v w1 xs w2) (g : Ch (Only k) w2 wf) (g0 : Ch NoB w w1) (hk : w.heap.size ≤ k) (hk1 : k < w1.heap.size) (hb : b < w.heap.size) (hv : ∀ q, Blk v q → q < w.heap.size) : Left base b v w xs wf := by
  obtain ⟨v', h1, h2, h3⟩ := h
  have hn : ∀ q, Blk v' q → q ≠ k := fun q e => by
    rcases h3 q e with a | a
    · have := hv q a; omega
    · omega
  have hs := g0.size
  refine ⟨v', h1.ch g (fun q e s => ?_), ?_, fun q e => (h3 q e).imp id (fun x => by omega)⟩
  · have : q = k := s
    rcases e with e | e
    · omega
    · exact hn q e this
  · exact ((g0.any (S := QS b v)).trans' h2).trans g (fun q e => .inr (by have : q = k := e; omega))

theorem drop_none (base b : Nat) (v : Value) (xs : List W3) (s g : Int) (w : World) (hq : Que base w b v xs) (hat : atG s g xs = -1) :
    Calls Try.prog 19 #[.pointer (some ⟨b, 0, none⟩), .agg #[.int .i64 s, .int .i64 g]] w fun e w' => e = .returned (.tuple #[.agg #[.int .i64 0, .int .i64 0, .int .u64 0], .int .i64 31]) ∧ Ch NoB w w' := by
  have hF := find_any (base ≤ ·) b v xs s g _ ((hq.1.alloc (.cells #[.int .i64 s, .int .i64 g] 30)).alloc (.cells #[.int .i64 0, .int .i64 0, .int .u64 0] 33)) ((hq.2.1.lst.alloc _).alloc _) (by have := hq.2.2.2; omega)
  rw [hat] at hF
  have HF := hid hF
  clear hF hq hat
  go_enter Try.func19, Try.ntmps19
  go_wp2_with fail
  refine HF.out.mono ?_
  rintro e w1 ⟨rfl, g1⟩
  have R0 := Three.new (w.alloc (.cells #[.int .i64 s, .int .i64 g] 30)) W3.zero
  simp only [World.size_alloc] at R0
  have R1 := R0.ch g1 (noB _)
  obtain ⟨r0, r1, r2⟩ := R1.cells
  have f0 := R1.frozen 0
  have f1 := R1.frozen 1
  have f2 := R1.frozen 2
  have hl1 := R1.lt
  have HG := hid ((((Ch.refl NoB w).alloc _).alloc _).trans' g1)
  clear R0 R1 g1
  go_wp2
  refine bodyPost_ret (v := .tuple #[.agg #[.int .i64 0, .int .i64 0, .int .u64 0], .int .i64 31]) (by simp [results, Try.results19, go_sem, r0, r1, r2]) rfl ⟨rfl, ?_⟩
  refine Ch.fresh (Ch.fresh (Ch.fresh HG.out ?_ _ _) ?_ _ _) ?_ _ _ <;> omega

theorem drop_some (base b i : Nat) (v : Value) (xs : List W3) (s g : Int) (x : W3) (w : World) (hq : Que base w b v xs) (hat : atG s g xs = (i : Int)) (hx : xs[i]? = some x) :
    Calls Try.prog 19 #[.pointer (some ⟨b, 0, none⟩), .agg #[.int .i64 s, .int .i64 g]] w fun e w' => e = .returned (.tuple #[.agg #[.int .i64 x.s, .int .i64 x.g, .int .u64 x.t], .int .i64 0]) ∧ Left base b v w (cutOut i (i + 1) xs) w' := by
  have hF := find_any (base ≤ ·) b v xs s g _ ((hq.1.alloc (.cells #[.int .i64 s, .int .i64 g] 30)).alloc (.cells #[.int .i64 0, .int .i64 0, .int .u64 0] 33)) ((hq.2.1.lst.alloc _).alloc _) (by have := hq.2.2.2; omega)
  rw [hat] at hF
  have hbl := hq.1.lt
  have hv : ∀ q, Blk v q → q < w.heap.size := fun q h => (hq.2.1.blk h).2
  have hi0 : ¬ ((i : Int) < 0) := by omega
  have HF := hid hF
  have HQ := hid hq
  have HX := hid hx
  have HV := hid hv
  clear hF hq hat hx hv
  go_enter Try.func19, Try.ntmps19
  go_wp2_with fail
  refine HF.out.mono ?_
  rintro e w1 ⟨rfl, g1⟩
  have R0 := Three.new (w.alloc (.cells #[.int .i64 s, .int .i64 g] 30)) W3.zero
  simp only [World.size_alloc] at R0
  have HR1 := hid (R0.ch g1 (noB _))
  have HQ1 := hid (((HQ.out.alloc _).alloc _).ch g1 (fun _ _ => noB _))
  have HG := hid ((((Ch.refl NoB w).alloc _).alloc _).trans' g1)
  clear R0 g1
  go_wp2_with fail
  refine (takeAt_any base b i v xs x _ HQ1.out HX.out).mono ?_
  rintro e w2 ⟨rfl, l2⟩
  have hne : ¬ QS b v (w.heap.size + 1) := fun e => by
    rcases e with e | e
    · omega
    · have := HV.out _ e; omega
  have R2 := HR1.out.ch l2.choose_spec.2.1 hne
  obtain ⟨r0, r1, r2⟩ := R2.cells
  have f0 := R2.frozen 0
  have f1 := R2.frozen 1
  have f2 := R2.frozen 2
  have hl2 := R2.lt
  have hl1 := HR1.out.lt
  have HL := hid l2
  clear R2 l2 hne
  go_wp2
  refine bodyPost_ret (v := .tuple #[.agg #[.int .i64 x.s, .int .i64 x.g, .int .u64 x.t], .int .i64 0]) (by simp [results, Try.results19, go_sem, r0, r1, r2]) rfl ⟨rfl, HL.out.res2 (k := w.heap.size + 1) ?_ HG.out (by omega) hl1 hbl HV.out⟩
  exact Ch.own (Ch.own (Ch.own (Ch.refl _ _) _ _) _ _) _ _
end Go.Proofs.Ytphohfafehjafaa.Ff
