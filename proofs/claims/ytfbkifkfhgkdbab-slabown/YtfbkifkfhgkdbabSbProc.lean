/-
  What the document's ints and proc answer, and hasProc of a slab that somebody made. Condition: the list, the state, the slab is there.
-/
import Derived.Test.YtfbkifkfhgkdbabSbNew2
namespace Go.Proofs.Ytfbkifkfhgkdbab.Sb
open Go.RowKit
open Classical
attribute [local go_sem ↓] Go.wp_at_zero Go.wp_at_succ

theorem ints_any (P : Nat → Prop) (v : Value) (xs : List Int) (w : World) (hx : Ls P w v (iv xs)) (hl : xs.length ≤ 4294967296) :
    Calls Try.prog 34 #[v] w fun e w' => ∃ v', e = .returned v' ∧ Ow 3 w.heap.size w' v' (iv xs) ∧ Ch NoB w w' := by
  obtain ⟨ao, cap, rfl⟩ := hx.form
  obtain ⟨n, hn⟩ : ∃ n, n = (iv xs).length := ⟨_, rfl⟩
  have hnl : n ≤ 4294967296 := by rw [hn, iv_length]; exact hl
  rw [← hn] at hx ⊢
  have HX := hid hx
  have HN := hid hn
  clear hx hn hl
  go_enter Try.func34, Try.ntmps34
  go_wp2_with (first | (at_builtin; refine wpList_append_ow rfl (.tmp 4) (.tmp 5) 41 3 8 _ Try.underlying41 int_info rfl rfl w.heap.size _ [] rfl (Ow.nil _ _ _) P _ (iv xs) rfl HX.out (iv_one _) n (by simp [HN.out]) (by omega) (by unfold maxLen; omega) (Nat.le_refl _) (iv xs) rfl ?_; intro ao2 cap2 w2 ow2 cw2 bl2; have HO2 := hid ow2; have HG2 := hid cw2; clear ow2 cw2 bl2))
  go_ret
  exact ⟨_, rfl, HO2.out, HG2.out.mono (fun q e => by cases e)⟩

/-- there is such a P -/
def HasP (x : Sl) (p : Int) : Prop := 0 ≤ p ∧ p < (x.C.length : Int)

theorem hasProc_any (base b : Nat) (L p : Int) (x : Sl) (w : World) (h : SlabAt base w b L x) :
    Calls Try.prog 26 #[.pointer (some ⟨b, 0, none⟩), .int .i64 p] w fun e w' => e = .returned (.bool (decide (HasP x p))) ∧ w' = w := by
  obtain ⟨vg, va, vc, vf, cv, hf, hs, -⟩ := h
  obtain ⟨ca, cc, rfl⟩ := hs.c.form
  obtain ⟨n, hn⟩ : ∃ n, n = cv.length := ⟨_, rfl⟩
  rw [← hn] at hf
  obtain ⟨c0, c1, c2, c3, c4⟩ := hf.cells
  have bl := hf.lt
  have HN := hid (show x.C.length = n by rw [hn, hs.cl])
  clear hf hs hn
  by_cases h1 : 0 ≤ p
  · have d1 : decide (0 ≤ p) = true := decide_eq_true h1
    by_cases h2 : p < (n : Int)
    · have d2 : decide (p < (n : Int)) = true := decide_eq_true h2
      have HE := hid (show decide (HasP x p) = true from decide_eq_true ⟨h1, by rw [HN.out]; exact h2⟩)
      go_enter Try.func26, Try.ntmps26
      go_wp2
      go_ret
      exact ⟨by rw [HE.out]; rfl, rfl⟩
    · have d2 : decide (p < (n : Int)) = false := decide_eq_false h2
      have HE := hid (show decide (HasP x p) = false from decide_eq_false (fun h => h2 (by have := h.2; rw [HN.out] at this; exact this)))
      go_enter Try.func26, Try.ntmps26
      go_wp2
      go_ret
      exact ⟨by rw [HE.out]; rfl, rfl⟩
  · have d1 : decide (0 ≤ p) = false := decide_eq_false h1
    have HE := hid (show decide (HasP x p) = false from decide_eq_false (fun h => h1 h.1))
    go_enter Try.func26, Try.ntmps26
    go_wp2
    go_ret
    exact ⟨by rw [HE.out]; rfl, rfl⟩
theorem rproc_any (P : Nat → Prop) (L p : Int) (vg va vc vf : Value) (cv : List Value) (x : Sl) (w : World) (h : Rd P w vg va vc vf cv x) :
    Calls Try.prog 53 #[.agg #[.int .i64 L, vg, va, vc, vf], .int .i64 p] w fun e w' => e = .returned (.bool (decide (HasP x p))) ∧ Ch NoB w w' := by
  obtain ⟨ga, gc, rfl⟩ := h.g.form
  obtain ⟨aa, ac, rfl⟩ := h.a.form
  obtain ⟨ca, cc, rfl⟩ := h.c.form
  obtain ⟨fa, fc, rfl⟩ := h.f.form
  obtain ⟨nG, hnG⟩ : ∃ n, n = (iv x.G).length := ⟨_, rfl⟩
  obtain ⟨nA, hnA⟩ : ∃ n, n = (bv x.A).length := ⟨_, rfl⟩
  obtain ⟨n, hn⟩ : ∃ n, n = cv.length := ⟨_, rfl⟩
  obtain ⟨nF, hnF⟩ : ∃ n, n = (iv x.F).length := ⟨_, rfl⟩
  rw [← hnG, ← hnA, ← hn, ← hnF]
  have HN := hid (show x.C.length = n by rw [hn, h.e.1])
  clear h hnG hnA hn hnF
  by_cases h1 : 0 ≤ p
  · have d1 : decide (0 ≤ p) = true := decide_eq_true h1
    by_cases h2 : p < (n : Int)
    · have d2 : decide (p < (n : Int)) = true := decide_eq_true h2
      have HE := hid (show decide (HasP x p) = true from decide_eq_true ⟨h1, by rw [HN.out]; exact h2⟩)
      go_enter Try.func53, Try.ntmps53
      go_wp2
      go_ret
      exact ⟨by rw [HE.out]; rfl, (Ch.refl _ _).alloc _⟩
    · have d2 : decide (p < (n : Int)) = false := decide_eq_false h2
      have HE := hid (show decide (HasP x p) = false from decide_eq_false (fun h => h2 (by have := h.2; rw [HN.out] at this; exact this)))
      go_enter Try.func53, Try.ntmps53
      go_wp2
      go_ret
      exact ⟨by rw [HE.out]; rfl, (Ch.refl _ _).alloc _⟩
  · have d1 : decide (0 ≤ p) = false := decide_eq_false h1
    have HE := hid (show decide (HasP x p) = false from decide_eq_false (fun h => h1 h.1))
    go_enter Try.func53, Try.ntmps53
    go_wp2
    go_ret
    exact ⟨by rw [HE.out]; rfl, (Ch.refl _ _).alloc _⟩
end Go.Proofs.Ytfbkifkfhgkdbab.Sb
