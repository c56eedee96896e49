/-
  What sort.Search and place answer, of a queue that is there: where the first one stands whose turn is not below a turn. Condition: the queue's list is there, by rising turns, and shorter than 2^62.
-/
import Derived.Test.YtphohfafehjafaaFfLow
namespace Go.Proofs.Ytphohfafehjafaa.Ff
open Go.RowKit
attribute [local go_sem ↓] Go.wp_at_zero Go.wp_at_succ

/-- how many turns are below a turn -/
def below (t : Int) (xs : List W3) : Nat := xs.countP (fun x => decide (x.t < t))
/-- do the turns rise? -/
def Up (xs : List W3) : Prop := ∀ (i j : Nat) (x y : W3), i < j → xs[i]? = some x → xs[j]? = some y → x.t < y.t
theorem Up.tail {x : W3} {r : List W3} (h : Up (x :: r)) : Up r := fun i j a b hij ha hb => h (i + 1) (j + 1) a b (by omega) (by simpa using ha) (by simpa using hb)
theorem below_le (t : Int) (xs : List W3) : below t xs ≤ xs.length := List.countP_le_length
theorem below_zero {t : Int} {xs : List W3} (h : ∀ x ∈ xs, t ≤ x.t) : below t xs = 0 := by
  unfold below
  rw [List.countP_eq_zero]
  intro x hx
  have := h x hx
  simp
  omega
theorem below_at : ∀ (xs : List W3) (t : Int) (m : Nat) (x : W3), Up xs → xs[m]? = some x → (t ≤ x.t ↔ below t xs ≤ m)
  | [], t, m, x, _, h => by simp at h
  | y :: r, t, 0, x, hu, h => by
    simp only [List.getElem?_cons_zero, Option.some.injEq] at h
    subst h
    unfold below
    rw [List.countP_cons]
    constructor
    · intro ht
      have h0 : below t r = 0 := below_zero (fun z hz => by
        obtain ⟨i, h1, h2⟩ := List.getElem_of_mem hz
        have := hu 0 (i + 1) y z (by omega) rfl (by simpa [h2] using List.getElem?_eq_getElem h1)
        omega)
      unfold below at h0
      rw [h0]
      have : ¬ y.t < t := by omega
      simp [this]
    · intro hc
      by_cases hy : y.t < t
      · simp [hy] at hc
      · omega
  | y :: r, t, m + 1, x, hu, h => by
    have h' : r[m]? = some x := by simpa using h
    have ih := below_at r t m x hu.tail h'
    have e : below t (y :: r) = below t r + if y.t < t then 1 else 0 := by
      unfold below
      rw [List.countP_cons]
      simp
    rw [e]
    constructor
    · intro ht
      have := ih.1 ht
      split <;> omega
    · intro hc
      by_cases hy : y.t < t
      · simp only [hy, if_true] at hc
        exact ih.2 (by omega)
      · have := hu 0 (m + 1) y x (by omega) rfl h
        omega

theorem put1_any (k : Nat) (t : Int) (x : W3) (w : World) (h : w.cell? ⟨k, 2, none⟩ = some (.int .u64 t)) (hk : k < w.heap.size) :
    Calls Try.prog 29 #[.agg #[.int .i64 x.s, .int .i64 x.g, .int .u64 x.t], .pointer (some ⟨k, 0, none⟩)] w fun e w' => e = .returned (.bool (decide (t ≤ x.t))) ∧ Ch NoB w w' := by
  go_enter Try.func29, Try.ntmps29
  go_wp2
  go_ret
  exact ⟨rfl, (Ch.refl _ _).alloc _⟩

/-- place's function: is the one at i not below? -/
theorem place1_any (P : Nat → Prop) (b k k1 k2 : Nat) (v : Value) (xs : List W3) (t : Int) (i : Nat) (x : W3) (w : World) (hq : QAt w b v) (hx : Lst P w v xs) (hi : xs[i]? = some x)
    (h1 : w.cell? ⟨k1, 0, none⟩ = some (.func (.func 29) #[] #[.pointer (some ⟨k, 0, none⟩)])) (h2 : w.cell? ⟨k2, 0, none⟩ = some (.pointer (some ⟨b, 0, none⟩))) (h3 : w.cell? ⟨k, 2, none⟩ = some (.int .u64 t)) (hk : k < w.heap.size) :
    Calls Try.prog 38 #[.int .i64 (i : Int), .pointer (some ⟨k1, 0, none⟩), .pointer (some ⟨k2, 0, none⟩)] w fun e w' => e = .returned (.bool (decide (t ≤ x.t))) ∧ Ch NoB w w' := by
  obtain ⟨ao, cap, rfl⟩ := hx.form
  obtain ⟨g, o, rfl, _, hgl, a0, a1, a2⟩ := hx.get hi
  have hil : i < xs.length := (List.getElem?_eq_some_iff.1 hi).1
  obtain ⟨n, hn⟩ : ∃ n, n = xs.length := ⟨_, rfl⟩
  rw [← hn] at hil hq
  have c0 := hq.cell
  have i0 : (0 : Int) ≤ (i : Int) := by omega
  have i1 : (i : Int) < (n : Int) := by omega
  have HF := hid (put1_any k t x w.drew h3 hk)
  clear hx hi hn hq
  go_enter Try.func38, Try.ntmps38
  go_wp2
  have HK := hid (fun w2 (g2 : Ch NoB w.drew w2) => show w2.cell? ⟨k1, 0, none⟩ = some (.func (.func 29) #[] #[.pointer (some ⟨k, 0, none⟩)]) ∧ w2.cell? ⟨k2, 0, none⟩ = some (.pointer (some ⟨b, 0, none⟩)) ∧ w2.cell? ⟨b, 0, none⟩ = some (.slice (some ⟨g, o, none⟩) n cap) ∧ w2.cell? ⟨g, o + i * 3, none⟩ = some (.int .i64 x.s) ∧ w2.cell? ⟨g, o + i * 3 + 1, none⟩ = some (.int .i64 x.g) ∧ w2.cell? ⟨g, o + i * 3 + 2, none⟩ = some (.int .u64 x.t) from
    ⟨(g2.cell (World.block_lt_of_cell? w _ h1) (noB _)).trans h1, (g2.cell (World.block_lt_of_cell? w _ h2) (noB _)).trans h2, (g2.cell (World.block_lt_of_cell? w _ c0) (noB _)).trans c0, (g2.cell hgl (noB _)).trans a0, (g2.cell hgl (noB _)).trans a1, (g2.cell hgl (noB _)).trans a2⟩)
  go_region_held3 (fun w' => w'.cell? ⟨k1, 0, none⟩ = some (.func (.func 29) #[] #[.pointer (some ⟨k, 0, none⟩)]) ∧ w'.cell? ⟨k2, 0, none⟩ = some (.pointer (some ⟨b, 0, none⟩)) ∧ w'.cell? ⟨b, 0, none⟩ = some (.slice (some ⟨g, o, none⟩) n cap) ∧ w'.cell? ⟨g, o + i * 3, none⟩ = some (.int .i64 x.s) ∧ w'.cell? ⟨g, o + i * 3 + 1, none⟩ = some (.int .i64 x.g) ∧ w'.cell? ⟨g, o + i * 3 + 2, none⟩ = some (.int .u64 x.t)) (first | (simp only [d0, d1, d2, d3, d4, d5, and_self]; done) | (go_keep; done))
    (first
      | (go_at_call 29; refine HF.out.mono ?_; rintro e w2 ⟨rfl, g2⟩; obtain ⟨d0, d1, d2, d3, d4, d5⟩ := HK.out w2 g2; have HG := hid g2; clear g2))
  all_goals go_wp2
  go_ret
  exact ⟨rfl, (Ch.refl _ _).drew.trans' HG.out⟩

set_option maxHeartbeats 1000000 in
theorem search_any (P : Nat → Prop) (b k k1 k2 : Nat) (v : Value) (xs : List W3) (t : Int) (w : World) (hq : QAt w b v) (hx : Lst P w v xs) (hl : xs.length ≤ 4611686018427387903) (hu : Up xs)
    (h1 : w.cell? ⟨k1, 0, none⟩ = some (.func (.func 29) #[] #[.pointer (some ⟨k, 0, none⟩)])) (h2 : w.cell? ⟨k2, 0, none⟩ = some (.pointer (some ⟨b, 0, none⟩))) (h3 : w.cell? ⟨k, 2, none⟩ = some (.int .u64 t)) :
    Calls Try.prog 37 #[.int .i64 (xs.length : Int), .func (.func 38) #[] #[.pointer (some ⟨k1, 0, none⟩), .pointer (some ⟨k2, 0, none⟩)]] w fun e w' => e = .returned (.int .i64 (below t xs : Int)) ∧ Ch NoB w w' := by
  have hc := below_le t xs
  obtain ⟨c, hcc⟩ : ∃ c, c = below t xs := ⟨_, rfl⟩
  obtain ⟨n, hn⟩ : ∃ n, n = xs.length := ⟨_, rfl⟩
  rw [← hn] at hl ⊢
  rw [← hcc, ← hn] at hc
  rw [← hcc]
  have HQ := hid hq
  have HX := hid hx
  have HU := hid hu
  have H1 := hid h1
  have H2 := hid h2
  have H3 := hid h3
  have HC := hid hcc
  have HN := hid hn
  clear hq hx hu h1 h2 h3 hcc hn
  go_enter Try.func37, Try.ntmps37
  go_wp2_with fail
  go_loopg [5, 6] n (fun m p q wr => ∃ i j : Nat, p = .int .i64 (i : Int) ∧ q = .int .i64 (j : Int) ∧ i ≤ c ∧ c ≤ j ∧ j ≤ n ∧ j ≤ i + m ∧ Ch NoB w wr)
  case atStart => exact ⟨0, n, rfl, rfl, by omega, hc, by omega, by omega, Ch.refl _ _⟩
  case round =>
    obtain ⟨i, j, rfl, rfl, hi, hj, hjn, hm, hg⟩ := hrel
    by_cases hlt : i < j
    · obtain ⟨h, hh⟩ : ∃ h, h = (i + j) / 2 := ⟨_, rfl⟩
      have hh1 : i ≤ h := by omega
      have hh2 : h < j := by omega
      obtain ⟨x, hx⟩ : ∃ x, xs[h]? = some x := ⟨_, List.getElem?_eq_getElem (by rw [← HN.out]; omega)⟩
      have hb := below_at xs t h x HU.out hx
      rw [← HC.out] at hb
      have hF := place1_any P b k k1 k2 v xs t h x wr (HQ.out.ch hg (noB _)) (HX.out.ch hg (fun _ _ _ => noB _)) hx ((hg.cell (World.block_lt_of_cell? w _ H1.out) (noB _)).trans H1.out) ((hg.cell (World.block_lt_of_cell? w _ H2.out) (noB _)).trans H2.out) ((hg.cell (World.block_lt_of_cell? w _ H3.out) (noB _)).trans H3.out) (Nat.lt_of_lt_of_le (World.block_lt_of_cell? w _ H3.out) hg.size)
      have HF := hid hF
      have HG := hid hg
      have HH := hid hh
      have HB := hid hb
      clear hF hg hh hb hx
      go_wp2_with fail
      rw [show ((i : Int) + (j : Int)) / 2 = (h : Int) by rw [HH.out]; omega]
      refine HF.out.mono ?_
      by_cases ht : t ≤ x.t
      · have hd : decide (t ≤ x.t) = true := by simpa using ht
        have hch := HB.out.1 ht
        rw [hd]
        rintro e w2 ⟨rfl, g2⟩
        have HG2 := hid g2
        clear g2 ht hd
        go_wp2
        go_roundg (gk - 1)
        case measure => omega
        case rel => exact ⟨i, h, rfl, (by first | (rw [HH.out]; done) | (rw [HH.out]; simp)), hi, hch, by omega, by omega, HG.out.trans' HG2.out⟩
      · have hd : decide (t ≤ x.t) = false := by simpa using ht
        have hch : h + 1 ≤ c := by
          rcases Nat.lt_or_ge h c with a | a
          · omega
          · exact absurd (HB.out.2 a) ht
        rw [hd]
        rintro e w2 ⟨rfl, g2⟩
        have HG2 := hid g2
        clear g2 ht hd
        go_wp2
        go_roundg (gk - 1)
        case measure => omega
        case rel => exact ⟨h + 1, j, (by first | (rw [HH.out]; done) | (rw [HH.out]; simp)), rfl, hch, hj, hjn, by omega, HG.out.trans' HG2.out⟩
    · have e : i = c := by omega
      have HG := hid hg
      clear hg
      go_wp2
      go_ret
      exact ⟨by rw [e]; rfl, HG.out⟩

theorem place_any (P : Nat → Prop) (b k : Nat) (v : Value) (xs : List W3) (t : Int) (w : World) (hq : QAt w b v) (hx : Lst P w v xs) (hl : xs.length ≤ 4611686018427387903) (hu : Up xs) (h3 : w.cell? ⟨k, 2, none⟩ = some (.int .u64 t)) :
    Calls Try.prog 28 #[.pointer (some ⟨b, 0, none⟩), .func (.func 29) #[] #[.pointer (some ⟨k, 0, none⟩)]] w fun e w' => e = .returned (.int .i64 (below t xs : Int)) ∧ Ch NoB w w' := by
  obtain ⟨ao, cap, rfl⟩ := hx.form
  have c0 := hq.cell
  have hb := hq.lt
  have HQ := hid hq
  have HX := hid hx
  have HL := hid hl
  have HU := hid hu
  have hk := World.block_lt_of_cell? w _ h3
  have H3 := hid h3
  clear hq hx hl hu h3
  go_enter Try.func28, Try.ntmps28
  go_wp2_with fail
  refine (search_any P b k (w.heap.size + 1) w.heap.size _ xs t _ ((HQ.out.alloc _).alloc _) ((HX.out.alloc _).alloc _) HL.out HU.out (by simp) (by simp) ?_).mono ?_
  · have := (((Ch.refl NoB w).alloc (.cells #[.pointer (some ⟨b, 0, none⟩)] 23)).alloc (.cells #[.func (.func 29) #[] #[.pointer (some ⟨k, 0, none⟩)]] 66)).cell (o := 2) hk (noB _)
    exact this.trans H3.out
  rintro e w1 ⟨rfl, g1⟩
  have HG := hid g1
  clear g1
  go_wp2
  go_ret
  exact ⟨rfl, (((Ch.refl _ _).alloc _).alloc _).trans' HG.out⟩
end Go.Proofs.Ytphohfafehjafaa.Ff
