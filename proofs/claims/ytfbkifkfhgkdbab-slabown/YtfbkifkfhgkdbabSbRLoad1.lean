/-
  What the document's free answers, and its Load of a state whose numbers or whose slots may not be. Condition: the state is there, its lists in blocks that were there, none of them too long.
-/
import Derived.Test.YtfbkifkfhgkdbabSbLoad5
namespace Go.Proofs.Ytfbkifkfhgkdbab.Sb
open Go.RowKit
open Classical
attribute [local go_sem ↓] Go.wp_at_zero Go.wp_at_succ

/-- may a slot stand in a free list? -/
def freeB (x : Sl) (s : Int) : Bool := decide (0 ≤ s ∧ (freeL x)[s.toNat]? = some true)
theorem freeB_in {x : Sl} {k : Nat} {g : Int} {a : Bool} (hg : x.G[k]? = some g) (ha : x.A[k]? = some a) : freeB x (k : Int) = (!a && decide (g < 2147483647)) := by
  unfold freeB
  rw [Int.toNat_natCast, freeL_get hg ha]
  cases h : (!a && decide (g < 2147483647)) <;> simp
theorem freeB_out {x : Sl} {s : Int} (h : s < 0 ∨ (x.G.length : Int) ≤ s) : freeB x s = false := by
  unfold freeB
  apply decide_eq_false
  rintro ⟨h0, h1⟩
  have := (List.getElem?_eq_some_iff.1 h1).1
  unfold freeL at this
  rw [List.length_zipWith] at this
  omega
theorem rfree_any (P : Nat → Prop) (L s : Int) (vg va vc vf : Value) (cv : List Value) (x : Sl) (w : World) (h : Rd P w vg va vc vf cv x) (hag : x.A.length = x.G.length) :
    Calls Try.prog 36 #[.agg #[.int .i64 L, vg, va, vc, vf], .int .i64 s] w fun e w' => e = .returned (.bool (freeB x s)) ∧ Ch NoB w w' := by
  obtain ⟨ga, gc, rfl⟩ := h.g.form
  obtain ⟨aa, ac, rfl⟩ := h.a.form
  obtain ⟨ca, cc, rfl⟩ := h.c.form
  obtain ⟨fa, fc, rfl⟩ := h.f.form
  obtain ⟨n, hn⟩ : ∃ n, n = (iv x.G).length := ⟨_, rfl⟩
  obtain ⟨nC, hnC⟩ : ∃ n, n = cv.length := ⟨_, rfl⟩
  obtain ⟨nF, hnF⟩ : ∃ n, n = (iv x.F).length := ⟨_, rfl⟩
  have hnA : (bv x.A).length = n := by rw [hn, bv_length, iv_length, hag]
  rw [hnA, ← hn, ← hnC, ← hnF] at h
  rw [hnA, ← hn, ← hnC, ← hnF]
  have HN := hid (show n = x.G.length by rw [hn, iv_length])
  have HAG := hid hag
  have HS := hid h
  clear h hn hnA hnC hnF hag
  by_cases h1 : 0 ≤ s
  · have d1 : decide (0 ≤ s) = true := decide_eq_true h1
    by_cases h2 : s < (n : Int)
    · obtain ⟨k, rfl⟩ : ∃ k : Nat, s = (k : Int) := ⟨s.toNat, by omega⟩
      have hk : k < n := by omega
      have d2 : decide ((k : Int) < (n : Int)) = true := decide_eq_true h2
      obtain ⟨z, hz⟩ : ∃ z, x.G[k]? = some z := ⟨_, List.getElem?_eq_getElem (by rw [← HN.out]; exact hk)⟩
      obtain ⟨a, ha⟩ : ∃ a, x.A[k]? = some a := ⟨_, List.getElem?_eq_getElem (by rw [HAG.out, ← HN.out]; exact hk)⟩
      obtain ⟨g1, o1, rfl, -, gl1, -, e1⟩ := HS.out.g.get1 (iv_get hz)
      obtain ⟨g2, o2, rfl, -, gl2, -, e2⟩ := HS.out.a.get1 (bv_get ha)
      have HE := hid (freeB_in hz ha)
      clear hz ha
      cases a with
      | true =>
        go_enter Try.func36, Try.ntmps36
        go_wp2
        go_ret
        exact ⟨by rw [HE.out]; rfl, (Ch.refl _ _).alloc _⟩
      | false =>
        by_cases hq : z < 2147483647
        · have d3 : decide (z < 2147483647) = true := decide_eq_true hq
          go_enter Try.func36, Try.ntmps36
          go_wp2
          go_ret
          exact ⟨by rw [HE.out, d3]; rfl, (Ch.refl _ _).alloc _⟩
        · have d3 : decide (z < 2147483647) = false := decide_eq_false hq
          go_enter Try.func36, Try.ntmps36
          go_wp2
          go_ret
          exact ⟨by rw [HE.out, d3]; rfl, (Ch.refl _ _).alloc _⟩
    · have d2 : decide (s < (n : Int)) = false := decide_eq_false h2
      have HE := hid (freeB_out (x := x) (s := s) (.inr (by rw [← HN.out]; omega)))
      go_enter Try.func36, Try.ntmps36
      go_wp2
      go_ret
      exact ⟨by rw [HE.out]; rfl, (Ch.refl _ _).alloc _⟩
  · have d1 : decide (0 ≤ s) = false := decide_eq_false h1
    have HE := hid (freeB_out (x := x) (s := s) (.inl (by omega)))
    go_enter Try.func36, Try.ntmps36
    go_wp2
    go_ret
    exact ⟨by rw [HE.out]; rfl, (Ch.refl _ _).alloc _⟩

theorem rload_arg (P : Nat → Prop) (L : Int) (vg va vc vf : Value) (cv : List Value) (x : Sl) (w : World) (h : Rd P w vg va vc vf cv x) (hS : ¬ Sized L (x.C.length : Nat)) :
    Calls Try.prog 18 #[.agg #[.int .i64 L, vg, va, vc, vf]] w fun e w' => e = .returned (.int .i64 1) ∧ Ch NoB w w' := by
  obtain ⟨ga, gc, rfl⟩ := h.g.form
  obtain ⟨aa, ac, rfl⟩ := h.a.form
  obtain ⟨ca, cc, rfl⟩ := h.c.form
  obtain ⟨fa, fc, rfl⟩ := h.f.form
  rw [h.e.1]
  have HS := hid hS
  clear h hS
  go_enter Try.func18, Try.ntmps18
  go_wp2_with fail
  refine (rnew_bad L _ _ HS.out).mono ?_
  rintro e w1 ⟨rfl, g1⟩
  have HG1 := hid (((Ch.refl NoB w).alloc _).trans' g1)
  clear g1
  go_wp2
  go_ret
  exact ⟨rfl, HG1.out.alloc _⟩
end Go.Proofs.Ytfbkifkfhgkdbab.Sb
