/-
  What awake answers: a slab of its own gives a name, and knows it. No conditions.
-/
import Derived.Test.YtfbkifkfhgkdbabSbLoad5
namespace Go.Proofs.Ytfbkifkfhgkdbab.Sb
open Go.RowKit
attribute [local go_sem ↓] Go.wp_at_zero Go.wp_at_succ

/-- behind the first Take -/
def y1 : Sl := { G := [1], A := [true], C := [[]], F := [] }
theorem nil_of {c : List Int} {z : Int} (h : [] = c ++ [z]) : False := by cases c <;> cases h
theorem y0_take {n : Int × Int × Int} {x' : Sl} (h : TakeR 1 (newSl 1) 0 n x') : n = (0, 1, 0) ∧ x' = y1 := by
  rcases h with ⟨hn, _⟩ | ⟨k, c, r, y, hk, hc, hf, rfl, rfl⟩
  · exact absurd (by unfold HasP; decide) hn
  · have hk' : k = 0 := by omega
    subst hk'
    have hc0 : [] = c := Option.some.inj hc
    subst hc0
    have e : refillS (newSl 1) 0 [] = newSl 1 := rfl
    rw [e] at hf
    have hsk : seek (newSl 1).C 0 ((newSl 1).C.length - 1) 1 = Option.none := by decide
    cases hf using Freed.elim with
    | own h' =>
      have h2 : (newSl 1).C[0]? = some [] := rfl
      rw [h2] at h'
      exact (nil_of (Option.some.inj h')).elim
    | made _ _ => exact ⟨rfl, rfl⟩
    | found _ _ hq _ =>
      rw [hsk] at hq
      cases hq
    | none _ hl _ => exact absurd hl (by decide)
theorem y1_take {n : Int × Int × Int} {x' : Sl} (h : TakeR 1 y1 0 n x') : n = (0, 0, 2) ∧ x' = y1 := by
  rcases h with ⟨hn, _⟩ | ⟨k, c, r, y, hk, hc, hf, rfl, rfl⟩
  · exact absurd (by unfold HasP; decide) hn
  · have hk' : k = 0 := by omega
    subst hk'
    have hc0 : [] = c := Option.some.inj hc
    subst hc0
    have e : refillS y1 0 [] = y1 := rfl
    rw [e] at hf
    have hsk : seek y1.C 0 (y1.C.length - 1) 1 = Option.none := by decide
    cases hf using Freed.elim with
    | own h' =>
      have h2 : y1.C[0]? = some [] := rfl
      rw [h2] at h'
      exact (nil_of (Option.some.inj h')).elim
    | made _ hl => exact absurd hl (by decide)
    | found _ _ hq _ =>
      rw [hsk] at hq
      cases hq
    | none _ _ _ => exact ⟨rfl, rfl⟩
theorem y0_may : May 1 (newSl 1) := May.new (by decide) (by decide) (by decide) (by decide)
theorem y1_may : May 1 y1 := may_load (x := y1) (by unfold Sized; decide) (by decide) (by decide)

set_option maxRecDepth 20000 in
set_option maxHeartbeats 1000000 in
theorem awake_any (w : World) : Calls Try.prog 20 #[] w fun e w' => e = .returned (.bool true) ∧ Ch NoB w w' := by
  go_enter Try.func20, Try.ntmps20
  go_wp2_with fail
  refine (new_good 1 1 _ (by unfold Sized; decide)).mono ?_
  rintro e w5 ⟨b, rfl, hb, s5, g5⟩
  obtain ⟨vg, va, vc, vf, cv, f5, t5, n5⟩ := s5
  have i5 : SlabIn (fun q => w.heap.size ≤ q ∧ q < w5.heap.size) w.heap.size w5 b 1 (newSl 1) := ⟨vg, va, vc, vf, cv, f5, t5, n5, ⟨hb, f5.lt⟩, fun q a => t5.blk a, fun q a => a.2⟩
  have HI5 := hid i5
  have hs5 := g5.size
  have HG5 := hid g5
  clear g5 f5 t5 n5 i5 hb
  go_wp2_with fail
  refine (take_may _ w.heap.size b 0 1 (newSl 1) w5 HI5.out (by omega) y0_may).mono ?_
  rintro e w6 ⟨n, x', ht, rfl, lf⟩
  obtain ⟨rfl, rfl⟩ := y0_take ht
  obtain ⟨S6, i6, g6, k6⟩ := lf
  have s6 := g6.size
  have HI6 := hid (i6.ch ((Ch.refl NoB w6).alloc (.cells #[.int .i64 0, .int .i64 1] 34)) (fun _ _ => noB _))
  have HG6 := hid ((HG5.out.trans g6 (fun q e => .inr e.1)).alloc (.cells #[.int .i64 0, .int .i64 1] 34))
  have HK6 := hid (show ∀ q, S6 q → w.heap.size ≤ q ∧ q < w6.heap.size from fun q a => ⟨(k6 q a).elim (fun a => a.1) (fun a => by omega), i6.lt q a⟩)
  have h6 : (w6.alloc (.cells #[.int .i64 0, .int .i64 1] 34)).heap[w6.heap.size]? = some (.cells #[.int .i64 0, .int .i64 1] 34 (0, 0)) := (MapKept.heap_alloc w6 _).1
  have H6 := hid h6
  obtain ⟨W6, hW6⟩ : ∃ W, W = w6.alloc (.cells #[.int .i64 0, .int .i64 1] 34) := ⟨_, rfl⟩
  have z6 : w6.heap.size < W6.heap.size := by rw [hW6]; simp
  clear ht i6 g6 k6 h6
  go_wp2_with fail
  rw [← hW6] at HI6 HG6 H6 ⊢
  clear hW6
  obtain ⟨kg, hkg⟩ : ∃ k, k = w6.heap.size := ⟨_, rfl⟩
  rw [← hkg] at HK6 H6 s6 z6 ⊢
  clear hkg
  refine (take_may _ w.heap.size b 0 1 y1 W6 HI6.out (by omega) y1_may).mono ?_
  rintro e w7 ⟨n, x', ht, rfl, lf⟩
  obtain ⟨rfl, rfl⟩ := y1_take ht
  obtain ⟨S7, i7, g7, k7⟩ := lf
  have b7 := (g7.block kg z6 (fun e => Nat.lt_irrefl _ (HK6.out kg e).2)).trans H6.out
  have gA : Ch NoB w7 (w7.alloc (.cells #[.int .i64 0, .int .i64 0] 34)) := (Ch.refl _ _).alloc _
  have b8 := (gA.block kg (lt_of_block b7) (noB _)).trans b7
  have HI8 := hid (i7.ch gA (fun _ _ => noB _)).at
  have HG8 := hid ((HG6.out.trans g7 (fun q e => .inr (HK6.out q e).1)).trans' gA)
  obtain ⟨W8, hW8⟩ : ∃ W, W = w7.alloc (.cells #[.int .i64 0, .int .i64 0] 34) := ⟨_, rfl⟩
  rw [← hW8] at b8 HI8 HG8
  have c0 := cell_of b8 0
  have c1 := cell_of b8 1
  have c0' : W8.cell? ⟨kg, 0, none⟩ = some (.int .i64 0) := c0.trans rfl
  have c1' : W8.cell? ⟨kg, 1, none⟩ = some (.int .i64 1) := c1.trans rfl
  have z8 : kg < W8.heap.size := lt_of_block b8
  have H8 := hid b8
  have u0 : w7.cell? ⟨kg, 0, none⟩ = some (.int .i64 0) := (cell_of b7 0).trans rfl
  have u1 : w7.cell? ⟨kg, 1, none⟩ = some (.int .i64 1) := (cell_of b7 1).trans rfl
  have z7 : kg < w7.heap.size := lt_of_block b7
  clear c0 c1 b7 b8 ht i7 g7 k7 gA
  go_wp2_with fail
  rw [← hW8]
  clear hW8 u0 u1 z7
  refine (alive_any _ b 1 0 1 y1 _ HI8.out rfl).mono ?_
  rintro e w9 ⟨rfl, g9⟩
  rw [show aliveB y1 0 1 = true from rfl]
  have HI9 := hid (HI8.out.ch g9)
  have HG9 := hid (HG8.out.trans' g9)
  clear g9 c0' c1' z8
  go_wp2_with fail
  refine (alive_any _ b 1 0 2 y1 _ HI9.out rfl).mono ?_
  rintro e w10 ⟨rfl, g10⟩
  rw [show aliveB y1 0 2 = false from rfl]
  have HG10 := hid (HG9.out.trans' g10)
  clear g10
  go_wp2
  go_ret
  exact ⟨rfl, HG10.out⟩
end Go.Proofs.Ytfbkifkfhgkdbab.Sb
