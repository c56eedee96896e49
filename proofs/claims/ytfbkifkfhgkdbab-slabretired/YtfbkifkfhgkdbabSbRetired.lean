/-
  SlabRetired's walk: a slot whose generation is the last one is not given again. No conditions.
-/
import Derived.Test.YtfbkifkfhgkdbabSbLoad5
namespace Go.Proofs.Ytfbkifkfhgkdbab.Sb
open Go.RowKit
attribute [local go_sem ↓] Go.wp_at_zero Go.wp_at_succ

/-- the state that is loaded -/
def x0 : Sl := { G := [2147483646], A := [false], C := [[], []], F := [0] }
/-- behind a Take -/
def x1 : Sl := { G := [2147483647], A := [true], C := [[], []], F := [] }
/-- behind its Give -/
def x2 : Sl := { G := [2147483647], A := [false], C := [[], []], F := [] }

theorem one_of {c : List Int} {z : Int} (h : [0] = c ++ [z]) : c = [] ∧ z = 0 := by
  cases c with
  | nil =>
    injection h with h _
    exact ⟨rfl, h.symm⟩
  | cons a t =>
    injection h with _ h
    cases t <;> cases h
theorem none_of {c : List Int} {z : Int} (h : [] = c ++ [z]) : False := by cases c <;> cases h
theorem x0_take {p : Int} {n : Int × Int × Int} {x' : Sl} (hp : p = 0 ∨ p = 1) (h : TakeR 1 x0 p n x') : n = (0, 2147483647, 0) ∧ x' = x1 := by
  rcases h with ⟨hn, _⟩ | ⟨k, c, r, y, hk, hc, hf, rfl, rfl⟩
  · exact absurd (by rcases hp with rfl | rfl <;> (unfold HasP; decide)) hn
  · have hk' : k = 0 ∨ k = 1 := by omega
    rcases hk' with rfl | rfl
    · have hc0 : [] = c := Option.some.inj hc
      subst hc0
      generalize hy : refillS x0 0 [] = y0 at hf
      have e : y0 = { G := [2147483646], A := [false], C := [[0], []], F := [] } := by rw [← hy]; rfl
      subst e
      cases hf using Freed.elim with
      | own h' =>
        obtain ⟨rfl, rfl⟩ := one_of (Option.some.inj h')
        exact ⟨rfl, rfl⟩
      | made h' => cases h'
      | found h' => cases h'
      | none h' => cases h'
    · have hc0 : [] = c := Option.some.inj hc
      subst hc0
      generalize hy : refillS x0 1 [] = y0 at hf
      have e : y0 = { G := [2147483646], A := [false], C := [[], [0]], F := [] } := by rw [← hy]; rfl
      subst e
      cases hf using Freed.elim with
      | own h' =>
        obtain ⟨rfl, rfl⟩ := one_of (Option.some.inj h')
        exact ⟨rfl, rfl⟩
      | made h' => cases h'
      | found h' => cases h'
      | none h' => cases h'
theorem x2_take {p : Int} {n : Int × Int × Int} {x' : Sl} (hp : p = 0 ∨ p = 1) (h : TakeR 1 x2 p n x') : n = (0, 0, 2) ∧ x' = x2 := by
  rcases h with ⟨hn, _⟩ | ⟨k, c, r, y, hk, hc, hf, rfl, rfl⟩
  · exact absurd (by rcases hp with rfl | rfl <;> (unfold HasP; decide)) hn
  · have hk' : k = 0 ∨ k = 1 := by omega
    have hc0 : [] = c := by rcases hk' with rfl | rfl <;> exact Option.some.inj hc
    subst hc0
    have e : refillS x2 k [] = x2 := by rcases hk' with rfl | rfl <;> rfl
    rw [e] at hf
    have hC : x2.C[k]? = some [] := hc
    have hsk : seek x2.C k (x2.C.length - 1) 1 = Option.none := by rcases hk' with rfl | rfl <;> decide
    cases hf using Freed.elim with
    | own h' =>
      rw [hC] at h'
      exact (none_of (Option.some.inj h')).elim
    | made _ hl => exact absurd hl (by decide)
    | found _ _ hq _ =>
      rw [hsk] at hq
      cases hq
    | none _ _ _ => exact ⟨rfl, rfl⟩

theorem x0_may : May 1 x0 := may_load (x := x0) (by unfold Sized; decide) (by decide) (by decide)
theorem x1_may : May 1 x1 := by
  have h : TakeR 1 x0 0 (0, 2147483647, 0) x1 := .inr ⟨0, [], some 0, uncacheS { G := [2147483646], A := [false], C := [[0], []], F := [] } 0 0 [0], rfl, rfl, Freed.own (c := []) (z := 0) rfl, rfl, rfl⟩
  exact h.may x0_may
theorem x2_may : May 1 x2 := giveR_may (p := 0) (s := 0) (gn := 2147483647) x1_may
theorem x1_give {q : Int} (hq : q = 0 ∨ q = 1) : giveR x1 q 0 2147483647 = (0, x2) := by rcases hq with rfl | rfl <;> rfl
theorem x2_give {q : Int} (hq : q = 0 ∨ q = 1) : giveR x2 q 0 2147483647 = (41, x2) := by rcases hq with rfl | rfl <;> rfl

/-- between two calls: a slab, and a name in its variable -/
def Hold (w : World) (base b kg : Nat) (x : Sl) (wi : World) : Prop :=
  ∃ S, SlabIn S base wi b 1 x ∧ Ch NoB w wi ∧ (∀ q, S q → w.heap.size ≤ q ∧ q ≠ kg) ∧ wi.heap[kg]? = some (.cells #[.int .i64 0, .int .i64 2147483647] 34 (0, 0)) ∧ base ≤ wi.heap.size
theorem Hold.still {w wi wj : World} {base b kg : Nat} {x : Sl} (h : Hold w base b kg x wi) (g : Ch NoB wi wj) : Hold w base b kg x wj := by
  obtain ⟨S, h1, h2, h3, h4, h5⟩ := h
  exact ⟨S, h1.ch g (fun _ _ => noB _), h2.trans' g, h3, (g.block _ (lt_of_block h4) (noB _)).trans h4, Nat.le_trans h5 g.size⟩
theorem Hold.step {S : Nat → Prop} {w wi wj : World} {base b kg : Nat} {x' : Sl} (h2 : Ch NoB w wi) (h3 : ∀ q, S q → w.heap.size ≤ q ∧ q ≠ kg) (h4 : wi.heap[kg]? = some (.cells #[.int .i64 0, .int .i64 2147483647] 34 (0, 0))) (h5 : base ≤ wi.heap.size) (k : Left S base wi wj b 1 x') : Hold w base b kg x' wj := by
  obtain ⟨S', k1, k2, k3⟩ := k
  have hl := lt_of_block h4
  have hw := h2.size
  exact ⟨S', k1, h2.trans k2 (fun q e => .inr (h3 q e).1), fun q a => (k3 q a).elim (h3 q) (fun a => ⟨by omega, by omega⟩), (k2.block _ hl (fun e => (h3 _ e).2 rfl)).trans h4, Nat.le_trans h5 k2.size⟩
theorem Hold.at {w wi : World} {base b kg : Nat} {x : Sl} (h : Hold w base b kg x wi) : SlabAt base wi b 1 x := by
  obtain ⟨S, h1, _⟩ := h
  exact h1.at
theorem Hold.cells {w wi : World} {base b kg : Nat} {x : Sl} (h : Hold w base b kg x wi) : wi.cell? ⟨kg, 0, none⟩ = some (.int .i64 0) ∧ wi.cell? ⟨kg, 1, none⟩ = some (.int .i64 2147483647) ∧ kg < wi.heap.size := by
  obtain ⟨S, _, _, _, h4, _⟩ := h
  exact ⟨(cell_of h4 0).trans rfl, (cell_of h4 1).trans rfl, lt_of_block h4⟩
theorem Hold.ch {w wi : World} {base b kg : Nat} {x : Sl} (h : Hold w base b kg x wi) : Ch NoB w wi := by
  obtain ⟨S, _, h2, _⟩ := h
  exact h2
theorem hold_take {w wi : World} {base b kg : Nat} {x : Sl} {p : Int} (h : Hold w base b kg x wi) (hm : May 1 x) : Calls Try.prog 10 #[.pointer (some ⟨b, 0, none⟩), .int .i64 p] wi fun e w' => ∃ n x', TakeR 1 x p n x' ∧ e = .returned (.tuple #[.agg #[.int .i64 n.1, .int .i64 n.2.1], .int .i64 n.2.2]) ∧ Hold w base b kg x' w' := by
  obtain ⟨S, h1, h2, h3, h4, h5⟩ := h
  exact (take_may S base b p 1 x wi h1 h5 hm).mono fun e w' ⟨n, x', k1, k2, k3⟩ => ⟨n, x', k1, k2, Hold.step h2 h3 h4 h5 k3⟩
theorem hold_give {w wi : World} {base b kg : Nat} {x : Sl} {p s gn : Int} (h : Hold w base b kg x wi) (hm : May 1 x) : Calls Try.prog 13 #[.pointer (some ⟨b, 0, none⟩), .int .i64 p, .agg #[.int .i64 s, .int .i64 gn]] wi fun e w' => e = .returned (.int .i64 (giveR x p s gn).1) ∧ Hold w base b kg (giveR x p s gn).2 w' := by
  obtain ⟨S, h1, h2, h3, h4, h5⟩ := h
  exact (give_may S base b p s gn 1 x wi h1 h5 hm).mono fun e w' ⟨k2, k3⟩ => ⟨k2, Hold.step h2 h3 h4 h5 k3⟩

theorem ls_two (w : World) (u v : Value) (t : Nat) : Ls (· = w.heap.size) (w.alloc (.cells #[u, v] t)) (.slice (some ⟨w.heap.size, 0, none⟩) 2 2) [u, v] := by
  refine ⟨_, 2, rfl, ⟨by simp, fun h => by cases h⟩, .inr ⟨w.heap.size, 0, rfl, rfl, by simp, ?_⟩⟩
  intro i y hy
  match i, hy with
  | 0, hy =>
    simp only [List.getElem?_cons_zero, Option.some.injEq] at hy
    subst hy
    exact (cell_of (MapKept.heap_alloc w _).1 0).trans rfl
  | 1, hy =>
    simp only [List.getElem?_cons_succ, List.getElem?_cons_zero, Option.some.injEq] at hy
    subst hy
    exact (cell_of (MapKept.heap_alloc w _).1 1).trans rfl
  | i + 2, hy => simp at hy

/-- the state, laid -/
theorem given0 (w w4 : World) (h : w4 = (((w.alloc (.cells #[.int .i64 2147483646] 3)).alloc (.cells #[.bool false] 4)).alloc (.cells #[.slice none 0 0, .slice none 0 0] 41)).alloc (.cells #[.int .i64 0] 3)) :
    Given (· < w4.heap.size) w4 (.slice (some ⟨w.heap.size, 0, none⟩) 1 1) (.slice (some ⟨w.heap.size + 1, 0, none⟩) 1 1) (.slice (some ⟨w.heap.size + 1 + 1, 0, none⟩) 2 2) (.slice (some ⟨w.heap.size + 1 + 1 + 1, 0, none⟩) 1 1) [.slice none 0 0, .slice none 0 0] x0 := by
  have hz : w4.heap.size = w.heap.size + 1 + 1 + 1 + 1 := by rw [h]; simp
  have l1 := ((ls_one w (.int .i64 2147483646) 3).alloc (.cells #[.bool false] 4)).alloc (.cells #[.slice none 0 0, .slice none 0 0] 41) |>.alloc (.cells #[.int .i64 0] 3)
  have l2 := ((ls_one (w.alloc (.cells #[.int .i64 2147483646] 3)) (.bool false) 4).alloc (.cells #[.slice none 0 0, .slice none 0 0] 41)).alloc (.cells #[.int .i64 0] 3)
  have l3 := (ls_two ((w.alloc (.cells #[.int .i64 2147483646] 3)).alloc (.cells #[.bool false] 4)) (.slice none 0 0) (.slice none 0 0) 41).alloc (.cells #[.int .i64 0] 3)
  have l4 := ls_one (((w.alloc (.cells #[.int .i64 2147483646] 3)).alloc (.cells #[.bool false] 4)).alloc (.cells #[.slice none 0 0, .slice none 0 0] 41)) (.int .i64 0) 3
  simp only [World.size_alloc] at l1 l2 l3 l4
  rw [← h] at l1 l2 l3 l4
  refine ⟨⟨l1.mono (fun q a _ => a), l2.mono (fun q a _ => a), l3.mono (fun q a _ => a), l4.mono (fun q a _ => a), ⟨rfl, fun i u c hu hc => ?_⟩⟩, fun q a => a, fun i c hc => ?_, by decide⟩
  · match i, hu, hc with
    | 0, hu, hc =>
      cases hu
      cases hc
      exact Ls.nil _ _
    | 1, hu, hc =>
      cases hu
      cases hc
      exact Ls.nil _ _
    | i + 2, hu, hc => simp at hu
  · match i, hc with
    | 0, hc => cases hc; simp
    | 1, hc => cases hc; simp
    | i + 2, hc => simp [x0] at hc

set_option maxRecDepth 20000 in
set_option maxHeartbeats 1000000 in
theorem retired_zero (w : World) : Calls Try.prog 4 #[.int .i64 0] w fun e w' => e = .returned (.bool true) ∧ Ch NoB w w' := by
  obtain ⟨w4, hw4⟩ : ∃ W, W = (((w.alloc (.cells #[.int .i64 2147483646] 3)).alloc (.cells #[.bool false] 4)).alloc (.cells #[.slice none 0 0, .slice none 0 0] 41)).alloc (.cells #[.int .i64 0] 3) := ⟨_, rfl⟩
  have HGv := hid ((given0 w w4 hw4).ch ((Ch.refl NoB w4).alloc (.cells #[.int .i64 1, .slice (some ⟨w.heap.size, 0, none⟩) 1 1, .slice (some ⟨w.heap.size + 1, 0, none⟩) 1 1, .slice (some ⟨w.heap.size + 1 + 1, 0, none⟩) 2 2, .slice (some ⟨w.heap.size + 1 + 1 + 1, 0, none⟩) 1 1] 45)))
  have hg4 : Ch NoB w (w4.alloc (.cells #[.int .i64 1, .slice (some ⟨w.heap.size, 0, none⟩) 1 1, .slice (some ⟨w.heap.size + 1, 0, none⟩) 1 1, .slice (some ⟨w.heap.size + 1 + 1, 0, none⟩) 2 2, .slice (some ⟨w.heap.size + 1 + 1 + 1, 0, none⟩) 1 1] 45)) := by
    rw [hw4]
    exact (((((Ch.refl NoB w).alloc _).alloc _).alloc _).alloc _).alloc _
  have HG4 := hid hg4
  clear hg4
  go_enter Try.func4, Try.ntmps4
  go_wp2_with fail
  rw [← hw4]
  clear hw4
  obtain ⟨W, hW⟩ : ∃ W, W = w4.alloc (.cells #[.int .i64 1, .slice (some ⟨w.heap.size, 0, none⟩) 1 1, .slice (some ⟨w.heap.size + 1, 0, none⟩) 1 1, .slice (some ⟨w.heap.size + 1 + 1, 0, none⟩) 2 2, .slice (some ⟨w.heap.size + 1 + 1 + 1, 0, none⟩) 1 1] 45) := ⟨_, rfl⟩
  rw [← hW] at HGv HG4 ⊢
  clear hW
  refine (load_sized _ 1 _ _ _ _ _ x0 _ HGv.out (by unfold Sized; decide)).mono ?_
  rintro e w5 ⟨h5 | ⟨_, b, rfl, hb, s5⟩, g5⟩
  · exact absurd h5.1 (by decide)
  obtain ⟨vg, va, vc, vf, cv, f5, t5, n5⟩ := s5
  have i5 : SlabIn (fun q => W.heap.size ≤ q ∧ q < w5.heap.size) W.heap.size w5 b 1 x0 := ⟨vg, va, vc, vf, cv, f5, t5, n5, ⟨hb, f5.lt⟩, fun q a => t5.blk a, fun q a => a.2⟩
  have HI5 := hid i5
  have hs4 := HG4.out.size
  have hs5 := g5.size
  have HG5 := hid (HG4.out.trans' g5)
  clear g5 f5 t5 n5 i5 hb
  go_wp2_with fail
  refine (take_may _ W.heap.size b 0 1 x0 w5 HI5.out (by omega) x0_may).mono ?_
  rintro e w6 ⟨n, x', ht, rfl, lf⟩
  obtain ⟨rfl, rfl⟩ := x0_take (by omega) ht
  obtain ⟨S6, i6, g6, k6⟩ := lf
  have lt6 := i6.lt
  have hH : Hold w W.heap.size b w6.heap.size x1 (w6.alloc (.cells #[.int .i64 0, .int .i64 2147483647] 34)) := by
    have s6 := g6.size
    refine ⟨S6, i6.ch ((Ch.refl NoB _).alloc _) (fun _ _ => noB _), (HG5.out.trans g6 (fun q e => .inr (by omega))).alloc _, fun q a => ⟨?_, ?_⟩, (MapKept.heap_alloc w6 _).1, by simp; omega⟩
    · exact (k6 q a).elim (fun a => by omega) (fun a => by omega)
    · have := lt6 q a
      omega
  obtain ⟨kg, hkg⟩ : ∃ k, k = w6.heap.size := ⟨_, rfl⟩
  rw [← hkg] at hH
  have HH := hid hH
  clear ht i6 g6 k6 lt6 hH
  go_wp2_with fail
  rw [← hkg]
  clear hkg
  refine (hold_give HH.out x1_may).mono ?_
  rw [x1_give (q := 1) (by omega)]
  rintro e w7 ⟨rfl, h7⟩
  have HH7 := hid h7
  clear h7
  go_wp2_with fail
  refine (hold_take HH7.out x2_may).mono ?_
  rintro e w8 ⟨n, x', ht, rfl, h8⟩
  obtain ⟨rfl, rfl⟩ := x2_take (by omega) ht
  have HH8 := hid (h8.still ((Ch.refl NoB _).alloc (.cells #[.int .i64 0, .int .i64 0] 34)))
  clear h8 ht
  go_wp2_with fail
  refine (hold_take HH8.out x2_may).mono ?_
  rintro e w9 ⟨n, x', ht, rfl, h9⟩
  obtain ⟨rfl, rfl⟩ := x2_take (by omega) ht
  have HH9 := hid (h9.still ((Ch.refl NoB _).alloc (.cells #[.int .i64 0, .int .i64 0] 34)))
  clear h9 ht
  go_wp2_with fail
  refine (live_any _ b 1 x2 _ HH9.out.at x2_may.fits).mono ?_
  rintro e w10 ⟨rfl, g10⟩
  rw [show ((cnt x2.A : Nat) : Int) = 0 from rfl]
  have HH10 := hid (HH9.out.still g10)
  obtain ⟨u0, u1, ul⟩ := HH10.out.cells
  clear g10
  go_wp2_with fail
  refine (alive_any _ b 1 0 2147483647 x2 _ HH10.out.at rfl).mono ?_
  rintro e w11 ⟨rfl, g11⟩
  rw [show aliveB x2 0 2147483647 = false from rfl]
  have HH11 := hid (HH10.out.still g11)
  clear g11 u0 u1 ul
  obtain ⟨u0, u1, ul⟩ := HH11.out.cells
  go_wp2_with fail
  refine (hold_give HH11.out x2_may).mono ?_
  rw [x2_give (q := 0) (by omega)]
  rintro e w12 ⟨rfl, h12⟩
  have HH12 := hid h12
  clear h12
  go_wp2
  go_ret
  exact ⟨rfl, HH12.out.ch⟩

set_option maxRecDepth 20000 in
set_option maxHeartbeats 1000000 in
theorem retired_one (w : World) : Calls Try.prog 4 #[.int .i64 1] w fun e w' => e = .returned (.bool true) ∧ Ch NoB w w' := by
  obtain ⟨w4, hw4⟩ : ∃ W, W = (((w.alloc (.cells #[.int .i64 2147483646] 3)).alloc (.cells #[.bool false] 4)).alloc (.cells #[.slice none 0 0, .slice none 0 0] 41)).alloc (.cells #[.int .i64 0] 3) := ⟨_, rfl⟩
  have HGv := hid ((given0 w w4 hw4).ch ((Ch.refl NoB w4).alloc (.cells #[.int .i64 1, .slice (some ⟨w.heap.size, 0, none⟩) 1 1, .slice (some ⟨w.heap.size + 1, 0, none⟩) 1 1, .slice (some ⟨w.heap.size + 1 + 1, 0, none⟩) 2 2, .slice (some ⟨w.heap.size + 1 + 1 + 1, 0, none⟩) 1 1] 45)))
  have hg4 : Ch NoB w (w4.alloc (.cells #[.int .i64 1, .slice (some ⟨w.heap.size, 0, none⟩) 1 1, .slice (some ⟨w.heap.size + 1, 0, none⟩) 1 1, .slice (some ⟨w.heap.size + 1 + 1, 0, none⟩) 2 2, .slice (some ⟨w.heap.size + 1 + 1 + 1, 0, none⟩) 1 1] 45)) := by
    rw [hw4]
    exact (((((Ch.refl NoB w).alloc _).alloc _).alloc _).alloc _).alloc _
  have HG4 := hid hg4
  clear hg4
  go_enter Try.func4, Try.ntmps4
  go_wp2_with fail
  rw [← hw4]
  clear hw4
  obtain ⟨W, hW⟩ : ∃ W, W = w4.alloc (.cells #[.int .i64 1, .slice (some ⟨w.heap.size, 0, none⟩) 1 1, .slice (some ⟨w.heap.size + 1, 0, none⟩) 1 1, .slice (some ⟨w.heap.size + 1 + 1, 0, none⟩) 2 2, .slice (some ⟨w.heap.size + 1 + 1 + 1, 0, none⟩) 1 1] 45) := ⟨_, rfl⟩
  rw [← hW] at HGv HG4 ⊢
  clear hW
  refine (load_sized _ 1 _ _ _ _ _ x0 _ HGv.out (by unfold Sized; decide)).mono ?_
  rintro e w5 ⟨h5 | ⟨_, b, rfl, hb, s5⟩, g5⟩
  · exact absurd h5.1 (by decide)
  obtain ⟨vg, va, vc, vf, cv, f5, t5, n5⟩ := s5
  have i5 : SlabIn (fun q => W.heap.size ≤ q ∧ q < w5.heap.size) W.heap.size w5 b 1 x0 := ⟨vg, va, vc, vf, cv, f5, t5, n5, ⟨hb, f5.lt⟩, fun q a => t5.blk a, fun q a => a.2⟩
  have HI5 := hid i5
  have hs4 := HG4.out.size
  have hs5 := g5.size
  have HG5 := hid (HG4.out.trans' g5)
  clear g5 f5 t5 n5 i5 hb
  go_wp2_with fail
  refine (take_may _ W.heap.size b 1 1 x0 w5 HI5.out (by omega) x0_may).mono ?_
  rintro e w6 ⟨n, x', ht, rfl, lf⟩
  obtain ⟨rfl, rfl⟩ := x0_take (by omega) ht
  obtain ⟨S6, i6, g6, k6⟩ := lf
  have lt6 := i6.lt
  have hH : Hold w W.heap.size b w6.heap.size x1 (w6.alloc (.cells #[.int .i64 0, .int .i64 2147483647] 34)) := by
    have s6 := g6.size
    refine ⟨S6, i6.ch ((Ch.refl NoB _).alloc _) (fun _ _ => noB _), (HG5.out.trans g6 (fun q e => .inr (by omega))).alloc _, fun q a => ⟨?_, ?_⟩, (MapKept.heap_alloc w6 _).1, by simp; omega⟩
    · exact (k6 q a).elim (fun a => by omega) (fun a => by omega)
    · have := lt6 q a
      omega
  obtain ⟨kg, hkg⟩ : ∃ k, k = w6.heap.size := ⟨_, rfl⟩
  rw [← hkg] at hH
  have HH := hid hH
  clear ht i6 g6 k6 lt6 hH
  go_wp2_with fail
  rw [← hkg]
  clear hkg
  refine (hold_give HH.out x1_may).mono ?_
  rw [x1_give (q := 0) (by omega)]
  rintro e w7 ⟨rfl, h7⟩
  have HH7 := hid h7
  clear h7
  go_wp2_with fail
  refine (hold_take HH7.out x2_may).mono ?_
  rintro e w8 ⟨n, x', ht, rfl, h8⟩
  obtain ⟨rfl, rfl⟩ := x2_take (by omega) ht
  have HH8 := hid (h8.still ((Ch.refl NoB _).alloc (.cells #[.int .i64 0, .int .i64 0] 34)))
  clear h8 ht
  go_wp2_with fail
  refine (hold_take HH8.out x2_may).mono ?_
  rintro e w9 ⟨n, x', ht, rfl, h9⟩
  obtain ⟨rfl, rfl⟩ := x2_take (by omega) ht
  have HH9 := hid (h9.still ((Ch.refl NoB _).alloc (.cells #[.int .i64 0, .int .i64 0] 34)))
  clear h9 ht
  go_wp2_with fail
  refine (live_any _ b 1 x2 _ HH9.out.at x2_may.fits).mono ?_
  rintro e w10 ⟨rfl, g10⟩
  rw [show ((cnt x2.A : Nat) : Int) = 0 from rfl]
  have HH10 := hid (HH9.out.still g10)
  obtain ⟨u0, u1, ul⟩ := HH10.out.cells
  clear g10
  go_wp2_with fail
  refine (alive_any _ b 1 0 2147483647 x2 _ HH10.out.at rfl).mono ?_
  rintro e w11 ⟨rfl, g11⟩
  rw [show aliveB x2 0 2147483647 = false from rfl]
  have HH11 := hid (HH10.out.still g11)
  clear g11 u0 u1 ul
  obtain ⟨u0, u1, ul⟩ := HH11.out.cells
  go_wp2_with fail
  refine (hold_give HH11.out x2_may).mono ?_
  rw [x2_give (q := 1) (by omega)]
  rintro e w12 ⟨rfl, h12⟩
  have HH12 := hid h12
  clear h12
  go_wp2
  go_ret
  exact ⟨rfl, HH12.out.ch⟩

set_option maxRecDepth 20000 in
set_option maxHeartbeats 1000000 in
theorem retired_low (p : Int) (hp : p < 0) (w : World) : Calls Try.prog 4 #[.int .i64 p] w fun e w' => e = .returned (.bool true) ∧ Ch NoB w w' := by
  obtain ⟨w4, hw4⟩ : ∃ W, W = (((w.alloc (.cells #[.int .i64 2147483646] 3)).alloc (.cells #[.bool false] 4)).alloc (.cells #[.slice none 0 0, .slice none 0 0] 41)).alloc (.cells #[.int .i64 0] 3) := ⟨_, rfl⟩
  have HGv := hid ((given0 w w4 hw4).ch ((Ch.refl NoB w4).alloc (.cells #[.int .i64 1, .slice (some ⟨w.heap.size, 0, none⟩) 1 1, .slice (some ⟨w.heap.size + 1, 0, none⟩) 1 1, .slice (some ⟨w.heap.size + 1 + 1, 0, none⟩) 2 2, .slice (some ⟨w.heap.size + 1 + 1 + 1, 0, none⟩) 1 1] 45)))
  have hg4 : Ch NoB w (w4.alloc (.cells #[.int .i64 1, .slice (some ⟨w.heap.size, 0, none⟩) 1 1, .slice (some ⟨w.heap.size + 1, 0, none⟩) 1 1, .slice (some ⟨w.heap.size + 1 + 1, 0, none⟩) 2 2, .slice (some ⟨w.heap.size + 1 + 1 + 1, 0, none⟩) 1 1] 45)) := by
    rw [hw4]
    exact (((((Ch.refl NoB w).alloc _).alloc _).alloc _).alloc _).alloc _
  have HG4 := hid hg4
  clear hg4
  go_enter Try.func4, Try.ntmps4
  go_wp2_with fail
  rw [← hw4]
  clear hw4
  obtain ⟨W, hW⟩ : ∃ W, W = w4.alloc (.cells #[.int .i64 1, .slice (some ⟨w.heap.size, 0, none⟩) 1 1, .slice (some ⟨w.heap.size + 1, 0, none⟩) 1 1, .slice (some ⟨w.heap.size + 1 + 1, 0, none⟩) 2 2, .slice (some ⟨w.heap.size + 1 + 1 + 1, 0, none⟩) 1 1] 45) := ⟨_, rfl⟩
  rw [← hW] at HGv HG4 ⊢
  clear hW
  refine (load_sized _ 1 _ _ _ _ _ x0 _ HGv.out (by unfold Sized; decide)).mono ?_
  rintro e w5 ⟨h5 | ⟨_, b, rfl, hb, s5⟩, g5⟩
  · exact absurd h5.1 (by decide)
  obtain ⟨vg, va, vc, vf, cv, f5, t5, n5⟩ := s5
  have i5 : SlabIn (fun q => W.heap.size ≤ q ∧ q < w5.heap.size) W.heap.size w5 b 1 x0 := ⟨vg, va, vc, vf, cv, f5, t5, n5, ⟨hb, f5.lt⟩, fun q a => t5.blk a, fun q a => a.2⟩
  have HI5 := hid i5
  have hs4 := HG4.out.size
  have hs5 := g5.size
  have HG5 := hid (HG4.out.trans' g5)
  clear g5 f5 t5 n5 i5 hb
  go_wp2_with fail
  refine (take_may _ W.heap.size b 1 1 x0 w5 HI5.out (by omega) x0_may).mono ?_
  rintro e w6 ⟨n, x', ht, rfl, lf⟩
  obtain ⟨rfl, rfl⟩ := x0_take (by omega) ht
  obtain ⟨S6, i6, g6, k6⟩ := lf
  have lt6 := i6.lt
  have hH : Hold w W.heap.size b w6.heap.size x1 (w6.alloc (.cells #[.int .i64 0, .int .i64 2147483647] 34)) := by
    have s6 := g6.size
    refine ⟨S6, i6.ch ((Ch.refl NoB _).alloc _) (fun _ _ => noB _), (HG5.out.trans g6 (fun q e => .inr (by omega))).alloc _, fun q a => ⟨?_, ?_⟩, (MapKept.heap_alloc w6 _).1, by simp; omega⟩
    · exact (k6 q a).elim (fun a => by omega) (fun a => by omega)
    · have := lt6 q a
      omega
  obtain ⟨kg, hkg⟩ : ∃ k, k = w6.heap.size := ⟨_, rfl⟩
  rw [← hkg] at hH
  have HH := hid hH
  clear ht i6 g6 k6 lt6 hH
  go_wp2_with fail
  rw [← hkg]
  clear hkg
  refine (hold_give HH.out x1_may).mono ?_
  rw [x1_give (q := 0) (by omega)]
  rintro e w7 ⟨rfl, h7⟩
  have HH7 := hid h7
  clear h7
  go_wp2_with fail
  refine (hold_take HH7.out x2_may).mono ?_
  rintro e w8 ⟨n, x', ht, rfl, h8⟩
  obtain ⟨rfl, rfl⟩ := x2_take (by omega) ht
  have HH8 := hid (h8.still ((Ch.refl NoB _).alloc (.cells #[.int .i64 0, .int .i64 0] 34)))
  clear h8 ht
  go_wp2_with fail
  refine (hold_take HH8.out x2_may).mono ?_
  rintro e w9 ⟨n, x', ht, rfl, h9⟩
  obtain ⟨rfl, rfl⟩ := x2_take (by omega) ht
  have HH9 := hid (h9.still ((Ch.refl NoB _).alloc (.cells #[.int .i64 0, .int .i64 0] 34)))
  clear h9 ht
  go_wp2_with fail
  refine (live_any _ b 1 x2 _ HH9.out.at x2_may.fits).mono ?_
  rintro e w10 ⟨rfl, g10⟩
  rw [show ((cnt x2.A : Nat) : Int) = 0 from rfl]
  have HH10 := hid (HH9.out.still g10)
  obtain ⟨u0, u1, ul⟩ := HH10.out.cells
  clear g10
  go_wp2_with fail
  refine (alive_any _ b 1 0 2147483647 x2 _ HH10.out.at rfl).mono ?_
  rintro e w11 ⟨rfl, g11⟩
  rw [show aliveB x2 0 2147483647 = false from rfl]
  have HH11 := hid (HH10.out.still g11)
  clear g11 u0 u1 ul
  obtain ⟨u0, u1, ul⟩ := HH11.out.cells
  go_wp2_with fail
  refine (hold_give HH11.out x2_may).mono ?_
  rw [x2_give (q := 1) (by omega)]
  rintro e w12 ⟨rfl, h12⟩
  have HH12 := hid h12
  clear h12
  go_wp2
  go_ret
  exact ⟨rfl, HH12.out.ch⟩

set_option maxRecDepth 20000 in
set_option maxHeartbeats 1000000 in
theorem retired_high (p : Int) (hp : 1 < p) (w : World) : Calls Try.prog 4 #[.int .i64 p] w fun e w' => e = .returned (.bool true) ∧ Ch NoB w w' := by
  obtain ⟨w4, hw4⟩ : ∃ W, W = (((w.alloc (.cells #[.int .i64 2147483646] 3)).alloc (.cells #[.bool false] 4)).alloc (.cells #[.slice none 0 0, .slice none 0 0] 41)).alloc (.cells #[.int .i64 0] 3) := ⟨_, rfl⟩
  have HGv := hid ((given0 w w4 hw4).ch ((Ch.refl NoB w4).alloc (.cells #[.int .i64 1, .slice (some ⟨w.heap.size, 0, none⟩) 1 1, .slice (some ⟨w.heap.size + 1, 0, none⟩) 1 1, .slice (some ⟨w.heap.size + 1 + 1, 0, none⟩) 2 2, .slice (some ⟨w.heap.size + 1 + 1 + 1, 0, none⟩) 1 1] 45)))
  have hg4 : Ch NoB w (w4.alloc (.cells #[.int .i64 1, .slice (some ⟨w.heap.size, 0, none⟩) 1 1, .slice (some ⟨w.heap.size + 1, 0, none⟩) 1 1, .slice (some ⟨w.heap.size + 1 + 1, 0, none⟩) 2 2, .slice (some ⟨w.heap.size + 1 + 1 + 1, 0, none⟩) 1 1] 45)) := by
    rw [hw4]
    exact (((((Ch.refl NoB w).alloc _).alloc _).alloc _).alloc _).alloc _
  have HG4 := hid hg4
  clear hg4
  go_enter Try.func4, Try.ntmps4
  go_wp2_with fail
  rw [← hw4]
  clear hw4
  obtain ⟨W, hW⟩ : ∃ W, W = w4.alloc (.cells #[.int .i64 1, .slice (some ⟨w.heap.size, 0, none⟩) 1 1, .slice (some ⟨w.heap.size + 1, 0, none⟩) 1 1, .slice (some ⟨w.heap.size + 1 + 1, 0, none⟩) 2 2, .slice (some ⟨w.heap.size + 1 + 1 + 1, 0, none⟩) 1 1] 45) := ⟨_, rfl⟩
  rw [← hW] at HGv HG4 ⊢
  clear hW
  refine (load_sized _ 1 _ _ _ _ _ x0 _ HGv.out (by unfold Sized; decide)).mono ?_
  rintro e w5 ⟨h5 | ⟨_, b, rfl, hb, s5⟩, g5⟩
  · exact absurd h5.1 (by decide)
  obtain ⟨vg, va, vc, vf, cv, f5, t5, n5⟩ := s5
  have i5 : SlabIn (fun q => W.heap.size ≤ q ∧ q < w5.heap.size) W.heap.size w5 b 1 x0 := ⟨vg, va, vc, vf, cv, f5, t5, n5, ⟨hb, f5.lt⟩, fun q a => t5.blk a, fun q a => a.2⟩
  have HI5 := hid i5
  have hs4 := HG4.out.size
  have hs5 := g5.size
  have HG5 := hid (HG4.out.trans' g5)
  clear g5 f5 t5 n5 i5 hb
  go_wp2_with fail
  refine (take_may _ W.heap.size b 1 1 x0 w5 HI5.out (by omega) x0_may).mono ?_
  rintro e w6 ⟨n, x', ht, rfl, lf⟩
  obtain ⟨rfl, rfl⟩ := x0_take (by omega) ht
  obtain ⟨S6, i6, g6, k6⟩ := lf
  have lt6 := i6.lt
  have hH : Hold w W.heap.size b w6.heap.size x1 (w6.alloc (.cells #[.int .i64 0, .int .i64 2147483647] 34)) := by
    have s6 := g6.size
    refine ⟨S6, i6.ch ((Ch.refl NoB _).alloc _) (fun _ _ => noB _), (HG5.out.trans g6 (fun q e => .inr (by omega))).alloc _, fun q a => ⟨?_, ?_⟩, (MapKept.heap_alloc w6 _).1, by simp; omega⟩
    · exact (k6 q a).elim (fun a => by omega) (fun a => by omega)
    · have := lt6 q a
      omega
  obtain ⟨kg, hkg⟩ : ∃ k, k = w6.heap.size := ⟨_, rfl⟩
  rw [← hkg] at hH
  have HH := hid hH
  clear ht i6 g6 k6 lt6 hH
  go_wp2_with fail
  rw [← hkg]
  clear hkg
  refine (hold_give HH.out x1_may).mono ?_
  rw [x1_give (q := 0) (by omega)]
  rintro e w7 ⟨rfl, h7⟩
  have HH7 := hid h7
  clear h7
  go_wp2_with fail
  refine (hold_take HH7.out x2_may).mono ?_
  rintro e w8 ⟨n, x', ht, rfl, h8⟩
  obtain ⟨rfl, rfl⟩ := x2_take (by omega) ht
  have HH8 := hid (h8.still ((Ch.refl NoB _).alloc (.cells #[.int .i64 0, .int .i64 0] 34)))
  clear h8 ht
  go_wp2_with fail
  refine (hold_take HH8.out x2_may).mono ?_
  rintro e w9 ⟨n, x', ht, rfl, h9⟩
  obtain ⟨rfl, rfl⟩ := x2_take (by omega) ht
  have HH9 := hid (h9.still ((Ch.refl NoB _).alloc (.cells #[.int .i64 0, .int .i64 0] 34)))
  clear h9 ht
  go_wp2_with fail
  refine (live_any _ b 1 x2 _ HH9.out.at x2_may.fits).mono ?_
  rintro e w10 ⟨rfl, g10⟩
  rw [show ((cnt x2.A : Nat) : Int) = 0 from rfl]
  have HH10 := hid (HH9.out.still g10)
  obtain ⟨u0, u1, ul⟩ := HH10.out.cells
  clear g10
  go_wp2_with fail
  refine (alive_any _ b 1 0 2147483647 x2 _ HH10.out.at rfl).mono ?_
  rintro e w11 ⟨rfl, g11⟩
  rw [show aliveB x2 0 2147483647 = false from rfl]
  have HH11 := hid (HH10.out.still g11)
  clear g11 u0 u1 ul
  obtain ⟨u0, u1, ul⟩ := HH11.out.cells
  go_wp2_with fail
  refine (hold_give HH11.out x2_may).mono ?_
  rw [x2_give (q := 1) (by omega)]
  rintro e w12 ⟨rfl, h12⟩
  have HH12 := hid h12
  clear h12
  go_wp2
  go_ret
  exact ⟨rfl, HH12.out.ch⟩

theorem retired_law (p : Int) (w : World) : Calls Try.prog 4 #[.int .i64 p] w fun e w' => e = .returned (.bool true) ∧ Ch NoB w w' := by
  by_cases h : p < 0
  · exact retired_low p h w
  · by_cases h1 : 1 < p
    · exact retired_high p h1 w
    · have h2 : p = 0 ∨ p = 1 := by omega
      rcases h2 with rfl | rfl
      · exact retired_zero w
      · exact retired_one w
end Go.Proofs.Ytfbkifkfhgkdbab.Sb
