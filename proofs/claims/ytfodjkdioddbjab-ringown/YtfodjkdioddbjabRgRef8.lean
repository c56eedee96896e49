/-
  What Steal of the document's answer tells where there is something to steal. Condition: both states' lists are there, and have no more than 64 places; the thief's has none.
-/
import Derived.Test.YtfodjkdioddbjabRgRef7
namespace Go.Proofs.Ytfodjkdioddbjab.Rg
open Go.RowKit
attribute [local go_sem ↓] Go.wp_at_zero Go.wp_at_succ

theorem rsteal_many (P Q : Nat → Prop) (sv tv : Value) (q : W3) (xs : List W3) (hs : Bool) (y z : W3) (n : Nat) (w : World) (hx : Lst P w sv xs) (hz : Lst Q w tv []) (hq : xs[0]? = some q) (hn : xs.length = n) (h2 : 2 ≤ n) (hl : n ≤ 64) :
    Calls Try.prog 37 #[.agg #[sv, .bool hs, .int .i64 y.s, .int .i64 y.g, .int .u64 y.t], .agg #[tv, .bool false, .int .i64 z.s, .int .i64 z.g, .int .u64 z.t]] w fun e w' =>
      ∃ v u, e = .returned (.tuple #[.agg #[v, .bool hs, .int .i64 y.s, .int .i64 y.g, .int .u64 y.t], .agg #[u, .bool false, .int .i64 z.s, .int .i64 z.g, .int .u64 z.t], .agg #[.int .i64 q.s, .int .i64 q.g, .int .u64 q.t], .int .i64 0]) ∧
        Lst (w.heap.size ≤ ·) w' v (xs.drop (lv xs)) ∧ Lst (w.heap.size ≤ ·) w' u (xs.take (lv xs)).tail ∧ Ch NoB w w' := by
  obtain ⟨ao, cap, rfl⟩ := hx.form
  obtain ⟨bo, cbp, rfl⟩ := hz.form
  rw [hn] at hx ⊢
  simp only [List.length_nil] at hz ⊢
  obtain ⟨g, o, rfl, hP, hg, k0, k1, k2⟩ := hx.get hq
  simp only [Nat.zero_mul, Nat.add_zero] at k0 k1 k2
  have hcap : n ≤ cap := by
    obtain ⟨_, _, he, ⟨hc, _⟩, _⟩ := hx
    injection he with h1 h2 h3
    omega
  obtain ⟨k, hk⟩ : ∃ k, k = lv xs := ⟨_, rfl⟩
  have hkv : k = n - n / 2 := by rw [hk]; unfold lv; rw [hn]
  rw [← hk]
  obtain ⟨s, hsv⟩ : ∃ s, s + 1 = k := ⟨k - 1, by omega⟩
  obtain ⟨c, hcv⟩ : ∃ c, c + k = n := ⟨n - k, by omega⟩
  obtain ⟨n2, hn2⟩ : ∃ n2, n2 = n / 2 := ⟨_, rfl⟩
  have hA : ∀ w2, Lst P w2 (.slice (some ⟨g, o, none⟩) n cap) xs → Lst P w2 (.slice (some ⟨g, o + 3, none⟩) s (cap - 1)) (xs.take k).tail := by
    intro w2 h2
    have ht := h2.take k (by omega)
    by_cases hk1 : k = 1
    · have hs0 : s = 0 := by omega
      have he : (xs.take k).tail = [] := List.eq_nil_of_length_eq_zero (by rw [List.length_tail, List.length_take]; omega)
      rw [he, hs0]
      exact ⟨_, _, rfl, ⟨Nat.zero_le _, fun h => by cases h⟩, .inl rfl⟩
    · obtain ⟨g', o', e, h⟩ := ht.drop 1 (by omega)
      injection e with e1 e2
      subst e1 e2
      have e3 : s = k - 1 := by omega
      rw [e3, ← List.drop_one]
      exact h
  have hB : ∀ w2, Lst P w2 (.slice (some ⟨g, o, none⟩) n cap) xs → Lst P w2 (.slice (some ⟨g, o + k * 3, none⟩) c (cap - k)) (xs.drop k) := by
    intro w2 h2
    obtain ⟨g', o', e, h⟩ := h2.drop k (by omega)
    injection e with e1 e2
    subst e1 e2
    have e3 : c = n - k := by omega
    rw [e3]
    exact h
  have hAl : (xs.take k).tail.length = s := by rw [List.length_tail, List.length_take]; omega
  have hBl : (xs.drop k).length = c := by rw [List.length_drop]; omega
  have i1 : (n : Int) / 2 = (n2 : Int) := by omega
  have i2 : (n : Int) - (n2 : Int) = (k : Int) := by omega
  have i3 : (1 : Int) ≤ (k : Int) := by omega
  have i4 : (k : Int) ≤ (n : Int) := by omega
  have i5 : (n : Int) ≤ (cap : Int) := by omega
  have i6 : ¬ (cap = 1) := by omega
  have i7 : ¬ (cap = k) := by omega
  have i8 : k - 1 = s := by omega
  have i9 : n - k = c := by omega
  have i10 : k ≤ cap := by omega
  have i11 : k ≤ 64 ∧ s ≤ 64 ∧ c ≤ 64 := by omega
  have hL := fun w2 (h2 : Lst Q w2 (.slice bo 0 cbp) []) => rlen_any Q _ [] false z w2 h2 (by simp)
  have HX := hid hx
  have HZ := hid hz
  have HL := hid hL
  have HA := hid hA
  have HB := hid hB
  have HAL := hid hAl
  have HBL := hid hBl
  clear hx hz hL hA hB hAl hBl hk hkv hsv hcv hn2 hq hn
  go_enter Try.func37, Try.ntmps37
  go_wp2_with fail
  refine (HL.out _ (((((HZ.out.alloc _).alloc _).alloc _).alloc _).alloc _)).mono ?_
  rintro e w1 ⟨rfl, g1⟩
  obtain ⟨F1, F2, F3, F4, F5, G, hsz⟩ := five_laid w _ _ _ _ _ _ _ _ _ _ _ rfl
  have HG := hid (G.trans' g1)
  have A1 := F1.ch g1 (noB _)
  have HA1 := hid A1
  obtain ⟨a0, a1, a2, a3, a4⟩ := A1.cells
  have HA2 := hid (F2.ch g1 (noB _))
  have HA3 := hid (F3.ch g1 (noB _))
  have HA4 := hid (F4.ch g1 (noB _))
  have HA5 := hid (F5.ch g1 (noB _))
  have hs1 : w.heap.size + 5 ≤ w1.heap.size := by have := g1.size; omega
  have HX1 := hid (HX.out.ch HG.out (fun _ _ _ => noB _))
  clear F1 F2 F3 F4 F5 G hsz g1 A1
  go_wp2_with (first
    | (at_builtin; refine wpList_append_lst rfl (.tmp 43) (.tmp 47) rfl w1.heap.size _ 0 [] rfl (World.ownsRow_nil _ _ _ _) P _ (xs.take k).tail rfl (HA.out _ HX1.out) s (by rw [HAL.out]; omega) (by omega) (by omega) ?_; intro ao2 cap2 w2 hown2 g2; obtain ⟨b0, b1, b2, b3, b4⟩ := (HA1.out.ch g2 (by omega)).cells; have hs2 := g2.size; have HO2 := hid hown2; have HG2 := hid g2; clear hown2 g2)
    | (at_builtin; refine wpList_append_lst rfl (.tmp 49) (.tmp 53) rfl w2.heap.size _ 0 [] rfl (World.ownsRow_nil _ _ _ _) P _ (xs.drop k) rfl (HB.out _ (HX.out.ch (HG.out.trans HG2.out (fun _ h => .inr (by omega))) (fun _ _ _ => noB _))) c (by rw [HBL.out]; omega) (by omega) (by omega) ?_; intro ao3 cap3 w3 hown3 g3; have G03 := (HG.out.trans HG2.out (fun _ h => .inr (by omega))).trans g3 (fun _ h => .inr (by omega)); have A1 := (HA1.out.ch HG2.out (by omega)).ch g3 (by omega); obtain ⟨c0, c1, c2, c3, c4⟩ := A1.cells; obtain ⟨z0, z1, z2, z3, z4⟩ := A1.fz; have A2 := (HA2.out.ch HG2.out (by omega)).ch g3 (by omega); obtain ⟨d0, d1, d2, d3, d4⟩ := A2.cells; obtain ⟨y0, y1, y2, y3, y4⟩ := A2.fz; have A3 := (HA3.out.ch HG2.out (by omega)).ch g3 (by omega); obtain ⟨e0, e1, e2, e3, e4⟩ := A3.cells; obtain ⟨x0, x1, x2, x3, x4⟩ := A3.fz; have A4 := (HA4.out.ch HG2.out (by omega)).ch g3 (by omega); obtain ⟨f0, f1, f2, f3, f4⟩ := A4.cells; obtain ⟨v0, v1, v2, v3, v4⟩ := A4.fz; have A5 := (HA5.out.ch HG2.out (by omega)).ch g3 (by omega); obtain ⟨h0, h1, h2'⟩ := A5.cells; obtain ⟨t0, t1, t2⟩ := A5.fz; have m0 := (G03.cell (b := g) hg (noB _)).trans k0; have m1 := (G03.cell (b := g) hg (noB _)).trans k1; have m2 := (G03.cell (b := g) hg (noB _)).trans k2; have hs3 := g3.size; have l0 : w.heap.size < w3.heap.size := A1.lt; have l1 := A2.lt; have l2 := A3.lt; have l3 := A4.lt; have l4 := A5.lt; have HO3 := hid hown3; have HG3 := hid g3; have HG03 := hid G03; clear hown3 g3 A1 A2 A3 A4 A5 G03))
  go_region
  all_goals go_wp2
  all_goals refine bodyPost_ret (v := .tuple #[.agg #[.slice ao3 c cap3, .bool hs, .int .i64 y.s, .int .i64 y.g, .int .u64 y.t], .agg #[.slice ao2 s cap2, .bool false, .int .i64 z.s, .int .i64 z.g, .int .u64 z.t], .agg #[.int .i64 q.s, .int .i64 q.g, .int .u64 q.t], .int .i64 0]) (by simp [results, Try.results37, go_sem, e0, e1, e2, e3, e4, f0, f1, f2, f3, f4, h0, h1, h2', l2, l3, l4]) rfl ⟨_, _, rfl, ?_, ?_, ?_⟩
  · refine ((Lst.of_own HO3.out).ch (S := Upto (w.heap.size + 4)) ?_ (fun g _ h e => by have : g ≤ w.heap.size + 4 := e; omega)).mono (fun _ _ h => by omega)
    refine Ch.drew (Ch.alloc ?_ _)
    repeat refine Ch.upto ?_ (by omega) _ _
    exact Ch.refl _ _
  · have L := (Lst.of_own HO2.out).ch HG3.out (fun g h _ e => by omega)
    refine (L.ch (S := Upto (w.heap.size + 4)) ?_ (fun g _ h e => by have : g ≤ w.heap.size + 4 := e; omega)).mono (fun _ _ h => by omega)
    refine Ch.drew (Ch.alloc ?_ _)
    repeat refine Ch.upto ?_ (by omega) _ _
    exact Ch.refl _ _
  · refine Ch.drew (Ch.alloc ?_ _)
    repeat refine Ch.fresh ?_ (by omega) _ _
    exact HG03.out

set_option maxHeartbeats 1000000 in
theorem rsteal_one (P Q : Nat → Prop) (sv tv : Value) (q : W3) (hs : Bool) (y z : W3) (w : World) (hx : Lst P w sv [q]) (hz : Lst Q w tv []) :
    Calls Try.prog 37 #[.agg #[sv, .bool hs, .int .i64 y.s, .int .i64 y.g, .int .u64 y.t], .agg #[tv, .bool false, .int .i64 z.s, .int .i64 z.g, .int .u64 z.t]] w fun e w' =>
      e = .returned (.tuple #[.agg #[.slice none 0 0, .bool hs, .int .i64 y.s, .int .i64 y.g, .int .u64 y.t], .agg #[.slice none 0 0, .bool false, .int .i64 z.s, .int .i64 z.g, .int .u64 z.t], .agg #[.int .i64 q.s, .int .i64 q.g, .int .u64 q.t], .int .i64 0]) ∧ Ch NoB w w' := by
  obtain ⟨ao, cap, rfl⟩ := hx.form
  obtain ⟨bo, cbp, rfl⟩ := hz.form
  simp only [List.length_nil, List.length_cons, Nat.zero_add] at hx hz ⊢
  obtain ⟨g, o, rfl, hP, hg, k0, k1, k2⟩ := hx.get (i := 0) (x := q) rfl
  simp only [Nat.zero_mul, Nat.add_zero] at k0 k1 k2
  have hcap : 1 ≤ cap := by
    obtain ⟨_, _, he, ⟨hc, _⟩, _⟩ := hx
    injection he with h1 h2 h3
    simp at hc
    omega
  have i5 : (1 : Int) ≤ (cap : Int) := by omega
  have hL := fun w2 (h2 : Lst Q w2 (.slice bo 0 cbp) []) => rlen_any Q _ [] false z w2 h2 (by simp)
  have HX := hid hx
  have HZ := hid hz
  have HL := hid hL
  clear hx hz hL
  by_cases hc1 : cap = 1
  all_goals (
    go_enter Try.func37, Try.ntmps37
    go_wp2_with fail
    refine (HL.out _ (((((HZ.out.alloc _).alloc _).alloc _).alloc _).alloc _)).mono ?_
    rintro e w1 ⟨rfl, g1⟩
    obtain ⟨F1, F2, F3, F4, F5, G, hsz⟩ := five_laid w _ _ _ _ _ _ _ _ _ _ _ rfl
    have HG := hid (G.trans' g1)
    have m0 := (HG.out.cell (b := g) hg (noB _)).trans k0
    have m1 := (HG.out.cell (b := g) hg (noB _)).trans k1
    have m2 := (HG.out.cell (b := g) hg (noB _)).trans k2
    have A1 := F1.ch g1 (noB _)
    have A2 := F2.ch g1 (noB _)
    have A3 := F3.ch g1 (noB _)
    have A4 := F4.ch g1 (noB _)
    have A5 := F5.ch g1 (noB _)
    obtain ⟨c0, c1, c2, c3, c4⟩ := A1.cells
    obtain ⟨z0, z1, z2, z3, z4⟩ := A1.fz
    obtain ⟨d0, d1, d2, d3, d4⟩ := A2.cells
    obtain ⟨y0, y1, y2, y3, y4⟩ := A2.fz
    obtain ⟨e0, e1, e2, e3, e4⟩ := A3.cells
    obtain ⟨x0, x1, x2, x3, x4⟩ := A3.fz
    obtain ⟨f0, f1, f2, f3, f4⟩ := A4.cells
    obtain ⟨v0, v1, v2, v3, v4⟩ := A4.fz
    obtain ⟨h0, h1, h2⟩ := A5.cells
    obtain ⟨t0, t1, t2⟩ := A5.fz
    have l0 : w.heap.size < w1.heap.size := A1.lt
    have l1 := A2.lt
    have l2 := A3.lt
    have l3 := A4.lt
    have l4 := A5.lt
    clear F1 F2 F3 F4 F5 G hsz g1 A1 A2 A3 A4 A5
    go_wp2
    go_region
    all_goals go_wp2
    all_goals refine bodyPost_ret (v := .tuple #[.agg #[.slice none 0 0, .bool hs, .int .i64 y.s, .int .i64 y.g, .int .u64 y.t], .agg #[.slice none 0 0, .bool false, .int .i64 z.s, .int .i64 z.g, .int .u64 z.t], .agg #[.int .i64 q.s, .int .i64 q.g, .int .u64 q.t], .int .i64 0]) (by simp [results, Try.results37, go_sem, e0, e1, e2, e3, e4, f0, f1, f2, f3, f4, h0, h1, h2, l2, l3, l4]) rfl ⟨rfl, ?_⟩
    all_goals refine Ch.drew (Ch.alloc ?_ _)
    all_goals (repeat refine Ch.fresh ?_ (by omega) _ _)
    all_goals exact HG.out)
end Go.Proofs.Ytfodjkdioddbjab.Rg
