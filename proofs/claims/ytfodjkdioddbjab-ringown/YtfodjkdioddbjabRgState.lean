/-
  What oldest and State of the program's ring answer: the places, from the oldest on, in new memory. Condition: the ring is there.
-/
import Derived.Test.YtfodjkdioddbjabRgOps2
namespace Go.Proofs.Ytfodjkdioddbjab.Rg
open Go.RowKit
attribute [local go_sem ↓] Go.wp_at_zero Go.wp_at_succ

/-- a new row, filled as far as j -/
def Fill (w : World) (g n j : Nat) (ps : List W3) : Prop := ∃ cur, w.heap[g]? = some (.cells cur 27 (0, 0)) ∧ cur.size = n * 3 ∧ ∀ i x, i < j → ps[i]? = some x → At3 cur (i * 3) x

theorem Fill.of_own {w : World} {base g n : Nat} {xs : List Value} (ps : List W3) (h : w.ownsRow base 27 3 (.slice (some ⟨g, 0, none⟩) n n) n xs) : Fill w g n 0 ps := by
  rcases h.2 with ⟨h2, _⟩ | ⟨g', cap, cur, hv, hb, hg, hc, _, hs, ht⟩
  · cases h2
  · injection hv with h1 h2 h3
    injection h1 with h1
    injection h1 with h1
    subst h1 h3
    exact ⟨cur, hg, hs, fun i x hi => absurd hi (by omega)⟩

theorem Fill.put {w : World} {g n j : Nat} {ps : List W3} {y : W3} (h : Fill w g n j ps) (hj : j < n) (hy : ps[j]? = some y) :
    Fill (((w.setCell ⟨g, j * 3, none⟩ (.int .i64 y.s)).setCell ⟨g, j * 3 + 1, none⟩ (.int .i64 y.g)).setCell ⟨g, j * 3 + 2, none⟩ (.int .u64 y.t)) g n (j + 1) ps := by
  obtain ⟨cur, hg, hs, hp⟩ := h
  refine ⟨_, setCell_block (setCell_block (setCell_block hg _ _) _ _) _ _, by simpa using hs, fun i x hi hx => ?_⟩
  rcases Nat.lt_or_ge i j with h1 | h1
  · exact (((hp i x h1 hx).set (by omega) (by omega) _).set (by simp; omega) (by omega) _).set (by simp; omega) (by omega) _
  · have e : i = j := by omega
    subst e
    rw [hy] at hx
    injection hx with hx
    subst hx
    exact At3.put y (by omega)

theorem Fill.lst {w : World} {g n : Nat} {ps : List W3} (h : Fill w g n n ps) (hl : ps.length = n) : Lst (· = g) w (.slice (some ⟨g, 0, none⟩) n n) ps := by
  obtain ⟨cur, hg, hs, hp⟩ := h
  refine ⟨_, n, by rw [hl], ⟨by omega, fun h => by cases h⟩, .inr ⟨g, 0, rfl, rfl, lt_of_block hg, fun i x hx => ?_⟩⟩
  have hi : i < ps.length := (List.getElem?_eq_some_iff.1 hx).1
  obtain ⟨k0, k1, k2⟩ := hp i x (by omega) hx
  rw [Nat.zero_add]
  exact ⟨(cell_of hg _).trans k0, (cell_of hg _).trans k1, (cell_of hg _).trans k2⟩

theorem oldest_any (b : Nat) (ps : List W3) (nx : Option W3) (w : World) (h : RingAt w b ps nx) :
    Calls Try.prog 30 #[.pointer (some ⟨b, 0, none⟩), .int .i64 (ps.length : Int)] w fun e w' =>
      ∃ v, e = .returned v ∧ Lst (w.heap.size ≤ ·) w' v ps ∧ Ch NoB w w' := by
  have hlt := h.lt
  obtain ⟨n, hn⟩ : ∃ n, n = ps.length := ⟨_, rfl⟩
  have hl := h.len
  rw [← hn] at hl ⊢
  have H := hid h
  have HN := hid hn
  clear h hn
  obtain ⟨i0, hi, hz0, hz1, hz2⟩ := info_parts W_info
  go_enter Try.func30, Try.ntmps30
  go_wp2_with (first | (at_make; refine wpList_make_full _ rfl _ _ 22 rfl w.heap.size 27 i0 _ 3 Try.underlying22 hi hz0 hz1 _ _ _ _ n rfl rfl (by omega) (by omega) (by rw [hz2]; omega) (by unfold maxLen; omega) (by omega) ?_; intro w1 hown hgrow))
  have HF := hid (Fill.of_own ps hown)
  have HG : Hid (Ch NoB w w1) := (Ch.refl _ _).grown hgrow (fun k hk => by cases hk)
  clear hown hgrow
  go_loopg [6, 11] n (fun k _ i wr => ∃ j, j + k = n ∧ i = .int .i64 (j : Int) ∧ Fill wr w.heap.size n j ps ∧ RingAt wr b ps nx ∧ Ch NoB w wr)
  case atStart => exact ⟨0, by omega, rfl, HF.out, H.out.ch HG.out (fun x => x), HG.out⟩
  case round =>
    obtain ⟨j, hjk, rfl, hf, hr, hg⟩ := hrel
    by_cases hj : j < n
    · obtain ⟨y, hy⟩ : ∃ y, ps[j]? = some y := ⟨_, List.getElem?_eq_getElem (by rw [← HN.out]; exact hj)⟩
      have hr' := hr
      obtain ⟨c, f, hb, hc⟩ := hr'
      have hfl := hc.fl
      have hp := hc.place j y hy
      obtain ⟨k, hk⟩ : ∃ k, k = (f + j) % 64 := ⟨_, rfl⟩
      rw [← hk] at hp
      have c2 := (cell_of hb 192).trans hc.first
      have p0 := (cell_of hb _).trans hp.1
      have p1 := (cell_of hb _).trans hp.2.1
      have p2 := (cell_of hb _).trans hp.2.2
      have i0 : (0 : Int) ≤ (k : Int) := by omega
      have i1 : (k : Int) < 64 := by omega
      have j0 : (0 : Int) ≤ (j : Int) := by omega
      have j1 : (j : Int) < (n : Int) := by omega
      have hat : ∀ w2 : World, w2.cell? ⟨b, 192, none⟩ = some (.int .i64 f) → Calls Try.prog 38 #[.pointer (some ⟨b, 0, none⟩), .int .i64 j] w2 fun e w' => e = .returned (.int .i64 k) ∧ w' = w2 := by
        intro w2 h2
        have := at_any b f j w2 h2 hfl (by omega)
        rw [← hk] at this
        exact this
      have HF' := hid hf
      obtain ⟨cur, hcur, hsz, _⟩ := hf
      obtain ⟨v0, q0⟩ : ∃ v, wr.cell? ⟨w.heap.size, j * 3, none⟩ = some v := ⟨_, (cell_of hcur _).trans (Array.getElem?_eq_getElem (by omega))⟩
      obtain ⟨v1, q1⟩ : ∃ v, wr.cell? ⟨w.heap.size, j * 3 + 1, none⟩ = some v := ⟨_, (cell_of hcur _).trans (Array.getElem?_eq_getElem (by omega))⟩
      obtain ⟨v2, q2⟩ : ∃ v, wr.cell? ⟨w.heap.size, j * 3 + 2, none⟩ = some v := ⟨_, (cell_of hcur _).trans (Array.getElem?_eq_getElem (by omega))⟩
      have z0 := frozen_of hcur (j * 3)
      have z1 := frozen_of hcur (j * 3 + 1)
      have z2 := frozen_of hcur (j * 3 + 2)
      have n2 : ¬ (b = w.heap.size) ∧ ¬ (w.heap.size = b) := by omega
      have HR := hid hr
      have HG' := hid hg
      have HY := hid hy
      clear hr hg hy hb hc hp hk hcur hsz
      go_wp2
      go_region_held3 (fun w' => w'.cell? ⟨b, 192, none⟩ = some (.int .i64 f) ∧ w'.cell? ⟨b, k * 3, none⟩ = some (.int .i64 y.s) ∧ w'.cell? ⟨b, k * 3 + 1, none⟩ = some (.int .i64 y.g) ∧ w'.cell? ⟨b, k * 3 + 2, none⟩ = some (.int .u64 y.t)) (first | (go_keep; done) | (refine ⟨?_, ?_, ?_, ?_⟩ <;> go_simp))
        (first | (go_at_call 38; refine (hat _ ?_).mono ?_; (simp [*]); rintro e w' ⟨rfl, rfl⟩))
      all_goals go_wp2
      go_roundg (gk - 1)
      case measure => omega
      case rel => exact ⟨j + 1, by omega, by simp, HF'.out.put hj HY.out, ((HR.out.set (by simp; omega) _).set (by simp; omega) _).set (by simp; omega) _, ((((HG'.out.fresh (Nat.le_refl _) _ _).fresh (Nat.le_refl _) _ _).fresh (Nat.le_refl _) _ _)).drew⟩
    · have e : j = n := by omega
      subst e
      have HF' := hid hf
      have HG' := hid hg
      clear hf hr hg
      go_wp2
      go_ret
      exact ⟨_, rfl, (HF'.out.lst HN.out.symm).mono (fun g _ e => by subst e; exact Nat.le_refl _), HG'.out⟩

theorem noB (k : Nat) : ¬ NoB k := fun x => x

theorem keep5 {w1 w2 : World} {b : Nat} {a0 a1 a2 a3 a4 : Value} (g : Ch NoB w1 w2) (hb : b < w1.heap.size)
    (h : w1.cell? ⟨b, 193, none⟩ = some a0 ∧ w1.cell? ⟨b, 194, none⟩ = some a1 ∧ w1.cell? ⟨b, 195, none⟩ = some a2 ∧ w1.cell? ⟨b, 196, none⟩ = some a3 ∧ w1.cell? ⟨b, 197, none⟩ = some a4) :
    w2.cell? ⟨b, 193, none⟩ = some a0 ∧ w2.cell? ⟨b, 194, none⟩ = some a1 ∧ w2.cell? ⟨b, 195, none⟩ = some a2 ∧ w2.cell? ⟨b, 196, none⟩ = some a3 ∧ w2.cell? ⟨b, 197, none⟩ = some a4 := by
  obtain ⟨h0, h1, h2, h3, h4⟩ := h
  exact ⟨(g.cell hb id).trans h0, (g.cell hb id).trans h1, (g.cell hb id).trans h2, (g.cell hb id).trans h3, (g.cell hb id).trans h4⟩

/-- a block of five cells, none frozen -/
def Five (w : World) (k : Nat) (a b c d e : Value) : Prop := w.heap[k]? = some (.cells #[a, b, c, d, e] 29 (0, 0))
theorem Five.new (w : World) (a b c d e : Value) : Five (w.alloc (.cells #[a, b, c, d, e] 29)) w.heap.size a b c d e := (MapKept.heap_alloc w _).1
theorem Five.ch {S : Nat → Prop} {w w' : World} {k : Nat} {a b c d e : Value} (h : Five w k a b c d e) (g : Ch S w w') (hn : ¬ S k) : Five w' k a b c d e := (g.block k (lt_of_block h) hn).trans h
theorem Five.drew {w : World} {k : Nat} {a b c d e : Value} (h : Five w k a b c d e) : Five w.drew k a b c d e := h
theorem Five.lt {w : World} {k : Nat} {a b c d e : Value} (h : Five w k a b c d e) : k < w.heap.size := lt_of_block h
theorem Five.cells {w : World} {k : Nat} {a b c d e : Value} (h : Five w k a b c d e) : w.cell? ⟨k, 0, none⟩ = some a ∧ w.cell? ⟨k, 1, none⟩ = some b ∧ w.cell? ⟨k, 2, none⟩ = some c ∧ w.cell? ⟨k, 3, none⟩ = some d ∧ w.cell? ⟨k, 4, none⟩ = some e :=
  ⟨(cell_of h 0).trans rfl, (cell_of h 1).trans rfl, (cell_of h 2).trans rfl, (cell_of h 3).trans rfl, (cell_of h 4).trans rfl⟩
theorem Five.frozen {w : World} {k : Nat} {a b c d e : Value} (h : Five w k a b c d e) (o : Nat) : w.frozen? ⟨k, o, none⟩ = false := frozen_of h o

theorem state_any (b : Nat) (ps : List W3) (nx : Option W3) (w : World) (h : RingAt w b ps nx) :
    Calls Try.prog 11 #[.pointer (some ⟨b, 0, none⟩)] w fun e w' =>
      ∃ v, e = .returned (.agg #[v, .bool nx.isSome, .int .i64 (nx.getD W3.zero).s, .int .i64 (nx.getD W3.zero).g, .int .u64 (nx.getD W3.zero).t]) ∧ Lst (w.heap.size ≤ ·) w' v ps ∧ Ch NoB w w' := by
  have hlt := h.lt
  have h' := h
  obtain ⟨c, f, hb, hc⟩ := h'
  have c3 := (cell_of hb 193).trans hc.count
  have c4 := (cell_of hb 194).trans hc.has
  have c5 := (cell_of hb 195).trans hc.next.1
  have c6 := (cell_of hb 196).trans hc.next.2.1
  have c7 := (cell_of hb 197).trans hc.next.2.2
  obtain ⟨x, hx⟩ : ∃ x, x = nx.getD W3.zero := ⟨_, rfl⟩
  obtain ⟨hs, hhs⟩ : ∃ hs, hs = nx.isSome := ⟨_, rfl⟩
  rw [← hx] at c5 c6 c7 ⊢
  rw [← hhs] at c4 ⊢
  obtain ⟨n, hn⟩ : ∃ n, n = ps.length := ⟨_, rfl⟩
  rw [← hn] at c3
  have hO : ∀ w2 : World, RingAt w2 b ps nx → Calls Try.prog 30 #[.pointer (some ⟨b, 0, none⟩), .int .i64 (n : Int)] w2 fun e w' => ∃ v, e = .returned v ∧ Lst (w2.heap.size ≤ ·) w' v ps ∧ Ch NoB w2 w' := by
    intro w2 h2
    rw [hn]
    exact oldest_any b ps nx w2 h2
  have H := hid h
  clear h hb hc hx hhs hn
  have n2 : ¬ (b = w.heap.size) ∧ ¬ (w.heap.size = b) := by omega
  go_enter Try.func11, Try.ntmps11
  go_wp2
  go_region_held3 (fun w' => w'.cell? ⟨b, 193, none⟩ = some (.int .i64 (n : Int)) ∧ w'.cell? ⟨b, 194, none⟩ = some (.bool hs) ∧ w'.cell? ⟨b, 195, none⟩ = some (.int .i64 x.s) ∧ w'.cell? ⟨b, 196, none⟩ = some (.int .i64 x.g) ∧ w'.cell? ⟨b, 197, none⟩ = some (.int .u64 x.t))
    (first | (simp only [k3, k4, k5, k6, k7, and_self]; done) | (go_keep; done) | (refine ⟨?_, ?_, ?_, ?_, ?_⟩ <;> (go_simp; done)))
    (first | (go_at_call 30; refine (hO _ ((H.out.alloc _).drew)).mono ?_; rintro e w1 ⟨v, rfl, l1, g1⟩; obtain ⟨ao, cap, rfl⟩ := l1.form; have F := (Five.new w (.slice none 0 0) (.bool false) (.int .i64 0) (.int .i64 0) (.int .u64 0)).drew.ch (S := NoB) (w' := w1) g1 (noB _); obtain ⟨r0, r1, r2, r3, r4⟩ := F.cells; have z0 := F.frozen 0; have z1 := F.frozen 1; have z2 := F.frozen 2; have z3 := F.frozen 3; have z4 := F.frozen 4; have G := ((Ch.refl NoB w).alloc _).drew.trans' g1; obtain ⟨k3, k4, k5, k6, k7⟩ := keep5 (b := b) G hlt ⟨c3, c4, c5, c6, c7⟩; have HL1 := hid l1; have HG1 := hid G; clear l1 g1 G F))
  all_goals go_wp2
  have C5 := (((((Ch.refl (Only w.heap.size) w1).own 0 (.slice ao ps.length cap)).own 1 (.bool hs)).own 2 (.int .i64 x.s)).own 3 (.int .i64 x.g)).own 4 (.int .u64 x.t)
  refine bodyPost_ret (v := .agg #[.slice ao ps.length cap, .bool hs, .int .i64 x.s, .int .i64 x.g, .int .u64 x.t]) (by simp [results, Try.results11, go_sem, r0, r1, r2, r3, r4]) rfl ⟨_, rfl, ?_, ?_⟩
  · exact (HL1.out.ch C5 (fun g _ hg e => by have : g = w.heap.size := e; simp at hg; omega)).mono (fun g _ hg => by simp at hg; omega)
  · exact HG1.out.trans C5 (fun y hy => .inr (by have : y = w.heap.size := hy; omega))
end Go.Proofs.Ytfodjkdioddbjab.Rg
