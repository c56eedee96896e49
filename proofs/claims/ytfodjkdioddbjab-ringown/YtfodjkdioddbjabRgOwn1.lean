/-
  What State and Drain answer, their lists owned; and what a write into an owned list leaves. Condition: the ring is there.
-/
import Derived.Test.YtfodjkdioddbjabRgOwnList
import Derived.Laws.IdiomCopy
namespace Go.Proofs.Ytfodjkdioddbjab.Rg
open Go.RowKit
attribute [local go_sem ↓] Go.wp_at_zero Go.wp_at_succ

theorem Own.base {b b' : Nat} {w : World} {v : Value} {xs : List W3} (h : Own b w v xs) (hb : b' ≤ b) : Own b' w v xs := ⟨h.1, h.2.imp id (fun ⟨g, cap, cur, h1, h2, h3⟩ => ⟨g, cap, cur, h1, Nat.le_trans hb h2, h3⟩)⟩
theorem own_of {base n : Nat} {w : World} {v : Value} {xs : List W3} (h : w.ownsRow base 27 3 v n (rowOf xs)) : Own base w v xs := by
  have hl := h.1
  rw [rowOf_length] at hl
  have e : n = xs.length := by omega
  unfold Own
  rw [← e]
  exact h
theorem setCells_block {b : Nat} {t : TypeId} {fr : Nat × Nat} : ∀ (vs : List Value) (o : Nat) (w : World) (c : Array Value), w.heap[b]? = some (.cells c t fr) → o + vs.length ≤ c.size →
    ∃ c' : Array Value, (w.setCells b o vs).heap[b]? = some (.cells c' t fr) ∧ c'.size = c.size ∧ c'.toList = c.toList.take o ++ vs ++ c.toList.drop (o + vs.length)
  | [], o, w, c, h, _ => ⟨c, h, rfl, by simp⟩
  | v :: r, o, w, c, h, hl => by
    simp only [List.length_cons] at hl
    have h1 := setCell_block h o v
    obtain ⟨c', h2, h3, h4⟩ := setCells_block r (o + 1) (w.setCell ⟨b, o, none⟩ v) _ h1 (by simp; omega)
    refine ⟨c', h2, by rw [h3]; simp, ?_⟩
    rw [h4]
    have ho : o < c.toList.length := by simp; omega
    have e : (c.setIfInBounds o v).toList = c.toList.set o v := by simp
    rw [e]
    have e1 : (c.toList.set o v).take (o + 1) = c.toList.take o ++ [v] := by
      rw [List.take_add_one, List.getElem?_set_self ho, List.take_set_of_le (by omega)]
      rfl
    have e2 : (c.toList.set o v).drop (o + 1 + r.length) = c.toList.drop (o + (r.length + 1)) := by
      rw [List.drop_set_of_lt (by omega)]
      congr 1
      omega
    rw [e1, e2]
    simp


theorem rowOf_take (a : List W3) : ∀ (k : Nat), (rowOf a).take (k * 3) = rowOf (a.take k) := by
  induction a with
  | nil => intro k; simp [rowOf]
  | cons x r ih =>
    intro k
    cases k with
    | zero => simp [rowOf]
    | succ k =>
      have e : (k + 1) * 3 = k * 3 + 3 := by omega
      rw [e]
      simp [rowOf, ih k]


theorem rowOf_drop (a : List W3) : ∀ (k : Nat), rowOf (a.drop k) = (rowOf a).drop (k * 3) := by
  induction a with
  | nil => intro k; simp [rowOf]
  | cons x r ih =>
    intro k
    cases k with
    | zero => simp
    | succ k =>
      have e : (k + 1) * 3 = k * 3 + 3 := by omega
      rw [e]
      simp [rowOf, ih k]


theorem own_cells {base : Nat} {w : World} {g n cap : Nat} {xs : List W3} (h : Own base w (.slice (some ⟨g, 0, none⟩) n cap) xs) :
    n = xs.length ∧ n ≤ cap ∧ (∀ k, k < n * 3 → (w.cell? ⟨g, 0 + k, none⟩).isSome = true) ∧ (∀ k, w.frozen? ⟨g, k, none⟩ = false) ∧ (∀ k u, (rowOf xs)[k]? = some u → w.cell? ⟨g, 0 + k, none⟩ = some u) := by
  rcases h.2 with ⟨h1, _⟩ | ⟨g', cap', cur, h1, hb, hg, hc, hm, hs, ht⟩
  · cases h1
  · injection h1 with h1 h2 h3
    injection h1 with h1
    injection h1 with h1
    subst h1 h2 h3
    refine ⟨rfl, hc, fun k hk => ?_, fun k => frozen_of hg k, fun k u hu => ?_⟩
    · rw [cell_of hg, Nat.zero_add, Array.getElem?_eq_getElem (by omega)]
      rfl
    · have hk : k < xs.length * 3 := by rw [← rowOf_length]; exact (List.getElem?_eq_some_iff.1 hu).1
      rw [← ht, List.getElem?_take_of_lt hk, Array.getElem?_toList] at hu
      rw [cell_of hg, Nat.zero_add]
      exact hu


theorem Own.get {base : Nat} {w : World} {g n cap : Nat} {xs : List W3} (h : Own base w (.slice (some ⟨g, 0, none⟩) n cap) xs) {i : Nat} {x : W3} (hx : xs[i]? = some x) :
    w.cell? ⟨g, i * 3, none⟩ = some (.int .i64 x.s) ∧ w.cell? ⟨g, i * 3 + 1, none⟩ = some (.int .i64 x.g) ∧ w.cell? ⟨g, i * 3 + 2, none⟩ = some (.int .u64 x.t) := by
  obtain ⟨g', o', e, _, _, h0, h1, h2⟩ := (h.lst).get hx
  simp only [Option.some.injEq, Addr.mk.injEq] at e
  obtain ⟨rfl, rfl, _⟩ := e
  rw [Nat.zero_add] at h0 h1 h2
  exact ⟨h0, h1, h2⟩


theorem own_put {w : World} {g n cap i base : Nat} {xs : List W3} (ms : List W3) (h : Own base w (.slice (some ⟨g, 0, none⟩) n cap) xs) (hi : i + ms.length ≤ xs.length) :
    Own base (w.setCells g (i * 3) (rowOf ms)) (.slice (some ⟨g, 0, none⟩) n cap) (xs.take i ++ ms ++ xs.drop (i + ms.length)) := by
  have hl : (xs.take i ++ ms ++ xs.drop (i + ms.length)).length = xs.length := by simp only [List.length_append, List.length_take, List.length_drop]; omega
  rcases h.2 with ⟨h1, _⟩ | ⟨g', cap', cur, h1, hb, hg, hc, hm, hs, ht⟩
  · cases h1
  · injection h1 with h1 h2 h3
    injection h1 with h1
    injection h1 with h1
    subst h1 h2 h3
    obtain ⟨c1, k1, k2, k3⟩ := setCells_block (rowOf ms) (i * 3) w cur hg (by rw [rowOf_length]; omega)
    refine ⟨by rw [rowOf_length], .inr ⟨g, cap, c1, by rw [hl], hb, k1, by omega, hm, by omega, ?_⟩⟩
    have e1 : cur.toList.take (i * 3) = rowOf (xs.take i) := by
      rw [← rowOf_take, ← ht, List.take_take, Nat.min_eq_left (by omega)]
    have e2 : (cur.toList.drop (i * 3 + (rowOf ms).length)).take ((xs.length - (i + ms.length)) * 3) = rowOf (xs.drop (i + ms.length)) := by
      have e3 : i * 3 + (rowOf ms).length = (i + ms.length) * 3 := by rw [rowOf_length]; omega
      rw [e3, rowOf_drop, ← ht, List.drop_take]
      congr 1
      omega
    rw [hl, k3, e1]
    have e4 : xs.length * 3 = (rowOf (xs.take i ++ ms)).length + (xs.length - (i + ms.length)) * 3 := by rw [rowOf_length, List.length_append, List.length_take]; omega
    rw [← rowOf_append, e4, List.take_length_add_append, e2, ← rowOf_append]


theorem own_set {w : World} {g n cap i base : Nat} {xs : List W3} (z : W3) (h : Own base w (.slice (some ⟨g, 0, none⟩) n cap) xs) (hi : i < xs.length) :
    Own base (((w.setCell ⟨g, i * 3, none⟩ (.int .i64 z.s)).setCell ⟨g, i * 3 + 1, none⟩ (.int .i64 z.g)).setCell ⟨g, i * 3 + 2, none⟩ (.int .u64 z.t)) (.slice (some ⟨g, 0, none⟩) n cap) (xs.take i ++ [z] ++ xs.drop (i + 1)) :=
  own_put [z] h (by simp; omega)
theorem set_ch {w : World} {g i : Nat} (z : W3) : Ch (Only g) w (((w.setCell ⟨g, i * 3, none⟩ (.int .i64 z.s)).setCell ⟨g, i * 3 + 1, none⟩ (.int .i64 z.g)).setCell ⟨g, i * 3 + 2, none⟩ (.int .u64 z.t)) :=
  Ch.own (Ch.own (Ch.own (Ch.refl _ _) _ _) _ _) _ _
theorem set_len (xs : List W3) (z : W3) (i : Nat) (hi : i < xs.length) : (xs.take i ++ [z] ++ xs.drop (i + 1)).length = xs.length := by
  simp only [List.length_append, List.length_take, List.length_drop, List.length_cons, List.length_nil]; omega

theorem Own.get1 {base : Nat} {w : World} {ao : Option Addr} {n cap : Nat} {xs : List W3} (h : Own base w (.slice ao n cap) xs) {i : Nat} (hi : i < xs.length) :
    ∃ (g : Nat) (x : W3), ao = some ⟨g, 0, none⟩ ∧ base ≤ g ∧ g < w.heap.size ∧ w.cell? ⟨g, i * 3, none⟩ = some (.int .i64 x.s) ∧ w.cell? ⟨g, i * 3 + 1, none⟩ = some (.int .i64 x.g) ∧ w.cell? ⟨g, i * 3 + 2, none⟩ = some (.int .u64 x.t) ∧ (∀ k, w.frozen? ⟨g, k, none⟩ = false) := by
  obtain ⟨g, cap', e, h1, h2⟩ := World.ownsRow.form h (by omega)
  injection e with e1 e2 e3
  subst e1
  obtain ⟨x, hx⟩ : ∃ x, xs[i]? = some x := ⟨_, List.getElem?_eq_getElem hi⟩
  obtain ⟨a0, a1, a2⟩ := h.get hx
  obtain ⟨-, -, -, hf, -⟩ := own_cells h
  exact ⟨g, x, rfl, h1, h2, a0, a1, a2, hf⟩

theorem Fill.own {w : World} {base g n : Nat} {ps : List W3} (h : Fill w g n n ps) (hl : ps.length = n) (hb : base ≤ g) (hm : n ≤ maxLen) : Own base w (.slice (some ⟨g, 0, none⟩) n n) ps := by
  obtain ⟨cur, hg, hs, hp⟩ := h
  refine ⟨by rw [rowOf_length], .inr ⟨g, n, cur, by rw [hl], hb, hg, by omega, hm, hs, ?_⟩⟩
  rw [hl, ← hs, ← Array.length_toList, List.take_length]
  apply List.ext_getElem?
  intro k
  by_cases hk : k < n * 3
  · obtain ⟨x, hx⟩ : ∃ x, ps[k / 3]? = some x := ⟨_, List.getElem?_eq_getElem (by omega)⟩
    obtain ⟨k0, k1, k2⟩ := hp (k / 3) x (by omega) hx
    obtain ⟨r0, r1, r2⟩ := rowOf_get ps (k / 3) x hx
    rw [Array.getElem?_toList]
    have h3 : k = k / 3 * 3 ∨ k = k / 3 * 3 + 1 ∨ k = k / 3 * 3 + 2 := by omega
    generalize k / 3 = i at *
    rcases h3 with rfl | rfl | rfl
    · rw [k0, r0]
    · rw [k1, r1]
    · rw [k2, r2]
  · rw [List.getElem?_eq_none (by rw [Array.length_toList, hs]; omega), List.getElem?_eq_none (by rw [rowOf_length, hl]; omega)]

theorem oldest_own (b : Nat) (ps : List W3) (nx : Option W3) (w : World) (h : RingAt w b ps nx) :
    Calls Try.prog 30 #[.pointer (some ⟨b, 0, none⟩), .int .i64 (ps.length : Int)] w fun e w' =>
      ∃ v, e = .returned v ∧ Own w.heap.size w' v ps ∧ Ch NoB w w' := by
  have hlt := h.lt
  obtain ⟨n, hn⟩ : ∃ n, n = ps.length := ⟨_, rfl⟩
  have hl := h.len
  rw [← hn] at hl ⊢
  have H := hid h
  have HN := hid hn
  clear h hn
  obtain ⟨i0, hi, hz0, hz1, hz2⟩ := info_parts W_info
  go_enter Try.func30, Try.ntmps30
  go_wp2_with (first | (at_make; refine wpList_make_full _ rfl _ _ 22 rfl w.heap.size 27 i0 _ 3 Try.underlying22 hi hz0 hz1 _ _ _ _ n rfl rfl (by omega) (by omega) (by rw [hz2]; omega) (by unfold maxLen; omega) (by omega) ?_; intro w1 hown hgrow))
  have HF := hid (Fill.of_own ps hown)
  have HG : Hid (Ch NoB w w1) := (Ch.refl _ _).grown hgrow (fun k hk => by cases hk)
  clear hown hgrow
  go_loopg [6, 11] n (fun k _ i wr => ∃ j, j + k = n ∧ i = .int .i64 (j : Int) ∧ Fill wr w.heap.size n j ps ∧ RingAt wr b ps nx ∧ Ch NoB w wr)
  case atStart => exact ⟨0, by omega, rfl, HF.out, H.out.ch HG.out (fun x => x), HG.out⟩
  case round =>
    obtain ⟨j, hjk, rfl, hf, hr, hg⟩ := hrel
    by_cases hj : j < n
    · obtain ⟨y, hy⟩ : ∃ y, ps[j]? = some y := ⟨_, List.getElem?_eq_getElem (by rw [← HN.out]; exact hj)⟩
      have hr' := hr
      obtain ⟨c, f, hb, hc⟩ := hr'
      have hfl := hc.fl
      have hp := hc.place j y hy
      obtain ⟨k, hk⟩ : ∃ k, k = (f + j) % 64 := ⟨_, rfl⟩
      rw [← hk] at hp
      have c2 := (cell_of hb 192).trans hc.first
      have p0 := (cell_of hb _).trans hp.1
      have p1 := (cell_of hb _).trans hp.2.1
      have p2 := (cell_of hb _).trans hp.2.2
      have i0 : (0 : Int) ≤ (k : Int) := by omega
      have i1 : (k : Int) < 64 := by omega
      have j0 : (0 : Int) ≤ (j : Int) := by omega
      have j1 : (j : Int) < (n : Int) := by omega
      have hat : ∀ w2 : World, w2.cell? ⟨b, 192, none⟩ = some (.int .i64 f) → Calls Try.prog 38 #[.pointer (some ⟨b, 0, none⟩), .int .i64 j] w2 fun e w' => e = .returned (.int .i64 k) ∧ w' = w2 := by
        intro w2 h2
        have := at_any b f j w2 h2 hfl (by omega)
        rw [← hk] at this
        exact this
      have HF' := hid hf
      obtain ⟨cur, hcur, hsz, _⟩ := hf
      obtain ⟨v0, q0⟩ : ∃ v, wr.cell? ⟨w.heap.size, j * 3, none⟩ = some v := ⟨_, (cell_of hcur _).trans (Array.getElem?_eq_getElem (by omega))⟩
      obtain ⟨v1, q1⟩ : ∃ v, wr.cell? ⟨w.heap.size, j * 3 + 1, none⟩ = some v := ⟨_, (cell_of hcur _).trans (Array.getElem?_eq_getElem (by omega))⟩
      obtain ⟨v2, q2⟩ : ∃ v, wr.cell? ⟨w.heap.size, j * 3 + 2, none⟩ = some v := ⟨_, (cell_of hcur _).trans (Array.getElem?_eq_getElem (by omega))⟩
      have z0 := frozen_of hcur (j * 3)
      have z1 := frozen_of hcur (j * 3 + 1)
      have z2 := frozen_of hcur (j * 3 + 2)
      have n2 : ¬ (b = w.heap.size) ∧ ¬ (w.heap.size = b) := by omega
      have HR := hid hr
      have HG' := hid hg
      have HY := hid hy
      clear hr hg hy hb hc hp hk hcur hsz
      go_wp2
      go_region_held3 (fun w' => w'.cell? ⟨b, 192, none⟩ = some (.int .i64 f) ∧ w'.cell? ⟨b, k * 3, none⟩ = some (.int .i64 y.s) ∧ w'.cell? ⟨b, k * 3 + 1, none⟩ = some (.int .i64 y.g) ∧ w'.cell? ⟨b, k * 3 + 2, none⟩ = some (.int .u64 y.t)) (first | (go_keep; done) | (refine ⟨?_, ?_, ?_, ?_⟩ <;> go_simp))
        (first | (go_at_call 38; refine (hat _ ?_).mono ?_; (simp [*]); rintro e w' ⟨rfl, rfl⟩))
      all_goals go_wp2
      go_roundg (gk - 1)
      case measure => omega
      case rel => exact ⟨j + 1, by omega, by simp, HF'.out.put hj HY.out, ((HR.out.set (by simp; omega) _).set (by simp; omega) _).set (by simp; omega) _, ((((HG'.out.fresh (Nat.le_refl _) _ _).fresh (Nat.le_refl _) _ _).fresh (Nat.le_refl _) _ _)).drew⟩
    · have e : j = n := by omega
      subst e
      have HF' := hid hf
      have HG' := hid hg
      clear hf hr hg
      go_wp2
      go_ret
      exact ⟨_, rfl, HF'.out.own HN.out.symm (Nat.le_refl _) (by unfold maxLen; omega), HG'.out⟩


theorem state_own (b : Nat) (ps : List W3) (nx : Option W3) (w : World) (h : RingAt w b ps nx) :
    Calls Try.prog 11 #[.pointer (some ⟨b, 0, none⟩)] w fun e w' =>
      ∃ v, e = .returned (.agg #[v, .bool nx.isSome, .int .i64 (nx.getD W3.zero).s, .int .i64 (nx.getD W3.zero).g, .int .u64 (nx.getD W3.zero).t]) ∧ Own w.heap.size w' v ps ∧ Ch NoB w w' := by
  have hlt := h.lt
  have h' := h
  obtain ⟨c, f, hb, hc⟩ := h'
  have c3 := (cell_of hb 193).trans hc.count
  have c4 := (cell_of hb 194).trans hc.has
  have c5 := (cell_of hb 195).trans hc.next.1
  have c6 := (cell_of hb 196).trans hc.next.2.1
  have c7 := (cell_of hb 197).trans hc.next.2.2
  obtain ⟨x, hx⟩ : ∃ x, x = nx.getD W3.zero := ⟨_, rfl⟩
  obtain ⟨hs, hhs⟩ : ∃ hs, hs = nx.isSome := ⟨_, rfl⟩
  rw [← hx] at c5 c6 c7 ⊢
  rw [← hhs] at c4 ⊢
  obtain ⟨n, hn⟩ : ∃ n, n = ps.length := ⟨_, rfl⟩
  rw [← hn] at c3
  have hO : ∀ w2 : World, RingAt w2 b ps nx → Calls Try.prog 30 #[.pointer (some ⟨b, 0, none⟩), .int .i64 (n : Int)] w2 fun e w' => ∃ v, e = .returned v ∧ Own w2.heap.size w' v ps ∧ Ch NoB w2 w' := by
    intro w2 h2
    rw [hn]
    exact oldest_own b ps nx w2 h2
  have H := hid h
  clear h hb hc hx hhs hn
  have n2 : ¬ (b = w.heap.size) ∧ ¬ (w.heap.size = b) := by omega
  go_enter Try.func11, Try.ntmps11
  go_wp2
  go_region_held3 (fun w' => w'.cell? ⟨b, 193, none⟩ = some (.int .i64 (n : Int)) ∧ w'.cell? ⟨b, 194, none⟩ = some (.bool hs) ∧ w'.cell? ⟨b, 195, none⟩ = some (.int .i64 x.s) ∧ w'.cell? ⟨b, 196, none⟩ = some (.int .i64 x.g) ∧ w'.cell? ⟨b, 197, none⟩ = some (.int .u64 x.t))
    (first | (simp only [k3, k4, k5, k6, k7, and_self]; done) | (go_keep; done) | (refine ⟨?_, ?_, ?_, ?_, ?_⟩ <;> (go_simp; done)))
    (first | (go_at_call 30; refine (hO _ ((H.out.alloc _).drew)).mono ?_; rintro e w1 ⟨v, rfl, l1, g1⟩; obtain ⟨ao, cap, rfl⟩ := l1.form; have F := (Five.new w (.slice none 0 0) (.bool false) (.int .i64 0) (.int .i64 0) (.int .u64 0)).drew.ch (S := NoB) (w' := w1) g1 (noB _); obtain ⟨r0, r1, r2, r3, r4⟩ := F.cells; have z0 := F.frozen 0; have z1 := F.frozen 1; have z2 := F.frozen 2; have z3 := F.frozen 3; have z4 := F.frozen 4; have G := ((Ch.refl NoB w).alloc _).drew.trans' g1; obtain ⟨k3, k4, k5, k6, k7⟩ := keep5 (b := b) G hlt ⟨c3, c4, c5, c6, c7⟩; have HL1 := hid l1; have HG1 := hid G; clear l1 g1 G F))
  all_goals go_wp2
  have C5 := (((((Ch.refl (Only w.heap.size) w1).own 0 (.slice ao ps.length cap)).own 1 (.bool hs)).own 2 (.int .i64 x.s)).own 3 (.int .i64 x.g)).own 4 (.int .u64 x.t)
  refine bodyPost_ret (v := .agg #[.slice ao ps.length cap, .bool hs, .int .i64 x.s, .int .i64 x.g, .int .u64 x.t]) (by simp [results, Try.results11, go_sem, r0, r1, r2, r3, r4]) rfl ⟨_, rfl, ?_, ?_⟩
  · refine (HL1.out.ch C5 (fun g hg e => by have h1 := (HL1.out.blk hg).1; have : g = w.heap.size := e; simp at h1; omega)).base (by simp)
  · exact HG1.out.trans C5 (fun y hy => .inr (by have : y = w.heap.size := hy; omega))

theorem drain_own (b : Nat) (ps : List W3) (nx : Option W3) (w : World) (h : RingAt w b ps nx) :
    Calls Try.prog 20 #[.pointer (some ⟨b, 0, none⟩)] w fun e w' =>
      ∃ v, e = .returned v ∧ Own w.heap.size w' v (ps ++ nx.toList) ∧ RingAt w' b [] none ∧ Ch (Only b) w w' := by
  have hlt := h.lt
  have hl := h.len
  obtain ⟨N, hN⟩ : ∃ N, N = ps.length + nx.toList.length := ⟨_, rfl⟩
  have hN2 : N ≤ 65 := by cases nx <;> simp at hN <;> omega
  have hLen := len_any b ps nx w h
  rw [← hN] at hLen
  have H := hid h
  have HN := hid hN
  clear h hN
  obtain ⟨i0, hi, hz0, hz1, hz2⟩ := info_parts W_info
  go_enter Try.func20, Try.ntmps20
  go_wp2_with fail
  refine hLen.mono ?_
  rintro e w0 ⟨rfl, rfl⟩
  go_wp2_with (first | (at_make; refine wpList_make_own _ rfl _ _ 22 rfl w0.heap.size 27 i0 _ 3 Try.underlying22 hi hz0 hz1 _ _ _ N rfl rfl (by omega) (by rw [hz2]; omega) (by unfold maxLen; omega) (by omega) ?_; intro w1 hown hgrow))
  have HO : Hid (w1.ownsRow w0.heap.size 27 3 (.slice (some ⟨w0.heap.size, 0, none⟩) 0 N) 0 (rowOf (ps.take 0))) := hown
  have HG : Hid (Ch NoB w0 w1) := (Ch.refl _ _).grown hgrow (fun k hk => by cases hk)
  clear hown hgrow hLen
  go_loopg [3] ps.length (fun k v wr => ∃ j, j + k = ps.length ∧ wr.ownsRow w0.heap.size 27 3 v j (rowOf (ps.take j)) ∧ RingAt wr b (ps.drop j) nx ∧ Ch (Only b) w0 wr)
  case atStart => exact ⟨0, by omega, HO.out, H.out.ch HG.out (noB _), HG.out.any⟩
  case round =>
    obtain ⟨j, hjk, ho, hr, hg⟩ := hrel
    have hr' := hr
    obtain ⟨c, f, hb, hc⟩ := hr'
    have hlt' := hr.lt
    by_cases hj : j < ps.length
    · obtain ⟨y, hy⟩ : ∃ y, ps[j]? = some y := ⟨_, List.getElem?_eq_getElem hj⟩
      have hd : ps.drop j = y :: ps.drop (j + 1) := by
        obtain ⟨h1, h2⟩ := List.getElem?_eq_some_iff.1 hy
        rw [List.drop_eq_getElem_cons h1, h2]
      have ht : ps.take (j + 1) = ps.take j ++ [y] := by rw [List.take_add_one, hy]; rfl
      obtain ⟨m, hm⟩ : ∃ m, m = (ps.drop (j + 1)).length := ⟨_, rfl⟩
      have c3 : wr.cell? ⟨b, 193, none⟩ = some (.int .i64 ((m : Int) + 1)) := by rw [cell_of hb 193, hc.count, hd, hm]; simp
      rw [hd] at hr
      have HR := hid hr
      have HO' := hid ho
      have HG' := hid hg
      have HT := hid ht
      clear hr ho hg ht hd hy hm hb hc
      go_wp2_with fail
      refine (takeOldest_any b y _ nx _ HR.out).mono ?_
      rintro e w2 ⟨rfl, r2, g2⟩
      have HR2 := hid r2
      have HG2 := hid g2
      have hs2 : w0.heap.size ≤ w2.heap.size := Nat.le_trans HG'.out.size g2.size
      have HO2 := hid (own_ch HO'.out g2 (fun g e => by have : g = b := e; omega))
      clear r2 g2
      go_wp2_with (first | (at_builtin; refine wpList_append_lies _ rfl (.tmp 14) (.tmp 17) 22 rfl w0.heap.size 27 i0 _ 3 24 Try.underlying22 hi hz0 hz1 hz2 rfl (by omega) _ j _ rfl (HO2.out.alloc _) ⟨w2.heap.size, 0, none⟩ 1 1 [.int .i64 y.s, .int .i64 y.g, .int .u64 y.t] rfl rfl (World.news_of_block (heap_alloc_new w2 _)) (rowOf_one [y]) (by omega) (by unfold maxLen; omega) (by omega) (by simp; omega) (w2.heap.size + 1) (by simp) ?_; intro g cap w3 hown3 hgrow3 hat hlt3))
      have R : w3.ownsRow w0.heap.size 27 3 (.slice (some ⟨g, 0, none⟩) (j + 1) cap) (j + 1) (rowOf (ps.take (j + 1))) := by
        rw [HT.out, rowOf_append]
        exact hown3
      have C : Ch (w0.heap.size ≤ ·) w2 w3 := ((Ch.refl _ _).alloc _).trans' (grow_ch hgrow3 (HO2.out.alloc _))
      have HRR := hid R
      have HC := hid C
      clear R C hown3 hgrow3 hat
      go_wp2
      go_roundg (gk - 1)
      case measure => omega
      case rel => exact ⟨j + 1, by omega, HRR.out, HR2.out.ch HC.out (by omega), (HG'.out.trans' HG2.out).trans HC.out (fun _ h => .inr (by omega))⟩
    · have e : j = ps.length := by omega
      have hd : ps.drop j = [] := by rw [e]; simp
      have ht : ps.take j = ps := by rw [e]; simp
      rw [hd] at hr hc
      rw [ht] at ho
      have c3 := (cell_of hb 193).trans hc.count
      have c4 := (cell_of hb 194).trans hc.has
      have hjl : j ≤ 64 := by omega
      have HR := hid hr
      have HO' := hid ho
      have HG' := hid hg
      clear hr ho hg hd ht hb hc hj e hjk
      cases nx with
      | none =>
        simp only [Option.isSome_none] at c4
        go_wp2
        go_ret
        refine ⟨_, rfl, ?_, HR.out, HG'.out⟩
        simpa using own_of HO'.out
      | some x =>
        simp only [Option.isSome_some] at c4
        go_wp2_with fail
        refine (takeNext_any b x _ _ HR.out).mono ?_
        rintro e w2 ⟨rfl, r2, g2⟩
        have HR2 := hid r2
        have HG2 := hid g2
        have hs2 : w0.heap.size ≤ w2.heap.size := Nat.le_trans HG'.out.size g2.size
        have HO2 := hid (own_ch HO'.out g2 (fun g e => by have : g = b := e; omega))
        clear r2 g2
        go_wp2_with (first | (at_builtin; refine wpList_append_lies _ rfl (.tmp 23) (.tmp 26) 22 rfl w0.heap.size 27 i0 _ 3 24 Try.underlying22 hi hz0 hz1 hz2 rfl (by omega) _ j _ rfl (HO2.out.alloc _) ⟨w2.heap.size, 0, none⟩ 1 1 [.int .i64 x.s, .int .i64 x.g, .int .u64 x.t] rfl rfl (World.news_of_block (heap_alloc_new w2 _)) (rowOf_one [x]) (by omega) (by unfold maxLen; omega) (by omega) (by simp; omega) (w2.heap.size + 1) (by simp) ?_; intro g cap w3 hown3 hgrow3 hat hlt3))
        have R : w3.ownsRow w0.heap.size 27 3 (.slice (some ⟨g, 0, none⟩) (j + 1) cap) (j + 1) (rowOf (ps ++ [x])) := by
          rw [rowOf_append]
          exact hown3
        have C : Ch (w0.heap.size ≤ ·) w2 w3 := ((Ch.refl _ _).alloc _).trans' (grow_ch hgrow3 (HO2.out.alloc _))
        have HRR := hid R
        have HC := hid C
        clear R C hown3 hgrow3 hat
        go_wp2
        go_ret
        exact ⟨_, rfl, own_of HRR.out, HR2.out.ch HC.out (by omega), (HG'.out.trans' HG2.out).trans HC.out (fun _ h => .inr (by omega))⟩
end Go.Proofs.Ytfodjkdioddbjab.Rg
