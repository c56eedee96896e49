/-
  What ahead, first and Top of the document's answer tell. Condition: the list is there, and at most 4294967296 long.
-/
import Derived.Test.YtkaeccmhfbjcmaaHpRef1
import Derived.Handy
namespace Go.Proofs.Ytkaeccmhfbjcmaa.Hp
open Go.RowKit
attribute [local go_sem ↓] Go.wp_at_zero Go.wp_at_succ

/-- three cells of an item in a block -/
def Th (w : World) (k : Nat) (x : W3) : Prop := w.heap[k]? = some (.cells #[.int .u64 x.w, .int .i64 x.n, .int .i64 x.v] 44 (0, 0))
theorem Th.new (w : World) (x : W3) : Th (w.alloc (.cells #[.int .u64 x.w, .int .i64 x.n, .int .i64 x.v] 44)) w.heap.size x := (MapKept.heap_alloc w _).1
theorem Th.lt {w : World} {k : Nat} {x : W3} (h : Th w k x) : k < w.heap.size := lt_of_block h
theorem Th.ch {S : Nat → Prop} {w w' : World} {k : Nat} {x : W3} (h : Th w k x) (g : Ch S w w') (hn : ¬ S k) : Th w' k x := (g.block k (lt_of_block h) hn).trans h
theorem Th.alloc {w : World} {k : Nat} {x : W3} (h : Th w k x) (o : Obj) : Th (w.alloc o) k x := (Below.heap_alloc _ _ _ h.lt).trans h
theorem Th.cells {w : World} {k : Nat} {x : W3} (h : Th w k x) : w.cell? ⟨k, 0, none⟩ = some (.int .u64 x.w) ∧ w.cell? ⟨k, 1, none⟩ = some (.int .i64 x.n) ∧ w.cell? ⟨k, 2, none⟩ = some (.int .i64 x.v) := ⟨cell_of h 0, cell_of h 1, cell_of h 2⟩
theorem Th.fz {w : World} {k : Nat} {x : W3} (h : Th w k x) : w.frozen? ⟨k, 0, none⟩ = false ∧ w.frozen? ⟨k, 1, none⟩ = false ∧ w.frozen? ⟨k, 2, none⟩ = false := ⟨frozen_of h 0, frozen_of h 1, frozen_of h 2⟩
set_option maxHeartbeats 1000000 in
theorem rahead_any (x y : W3) (w : World) : Calls Try.prog 46 #[.agg #[.int .u64 x.w, .int .i64 x.n, .int .i64 x.v], .agg #[.int .u64 y.w, .int .i64 y.n, .int .i64 y.v]] w fun e w' => e = .returned (.bool (lt x y)) ∧ Ch NoB w w' := by
  obtain ⟨xw, xn, xv⟩ := x
  obtain ⟨yw, yn, yv⟩ := y
  have h : (lt ⟨xw, xn, xv⟩ ⟨yw, yn, yv⟩ = true ∧ xw < yw) ∨ (lt ⟨xw, xn, xv⟩ ⟨yw, yn, yv⟩ = decide (xn < yn) ∧ xw = yw) ∨ (lt ⟨xw, xn, xv⟩ ⟨yw, yn, yv⟩ = false ∧ yw < xw) := by
    unfold lt
    rcases Int.lt_trichotomy xw yw with h | h | h
    · exact .inl ⟨decide_eq_true (.inl h), h⟩
    · exact .inr (.inl ⟨decide_eq_decide.2 ⟨fun a => by simp only at a; omega, fun a => .inr ⟨h, a⟩⟩, h⟩)
    · exact .inr (.inr ⟨decide_eq_false (fun a => by simp only at a; omega), h⟩)
  rcases h with ⟨h1, h2⟩ | ⟨h1, h2⟩ | ⟨h1, h2⟩
  · rw [h1]
    clear h1
    go_enter Try.func46, Try.ntmps46
    go_wp2
    go_ret
    exact ⟨rfl, ((Ch.refl _ _).alloc _).alloc _⟩
  · subst h2
    rw [h1]
    clear h1
    have e0 : ¬ (xw < xw) := by omega
    go_enter Try.func46, Try.ntmps46
    go_wp2
    go_ret
    exact ⟨rfl, ((Ch.refl _ _).alloc _).alloc _⟩
  · rw [h1]
    clear h1
    have e0 : ¬ (xw < yw) := by omega
    have e1 : (xw == yw) = false := beq_eq_false_iff_ne.2 (by omega)
    have e2 : ¬ (xw = yw) := by omega
    go_enter Try.func46, Try.ntmps46
    go_wp2
    go_ret
    exact ⟨rfl, ((Ch.refl _ _).alloc _).alloc _⟩

/-- what first has seen behind j -/
def Seen (xs : List W3) (j : Nat) (k : Value) : Prop := (j = 0 ∧ k = .int .i64 (-1)) ∨ ∃ (p : Nat) (x : W3), p < j ∧ k = .int .i64 (p : Int) ∧ xs[p]? = some x ∧ ∀ (i : Nat) (y : W3), i < j → xs[i]? = some y → lt y x = false
theorem Seen.one {xs : List W3} {z : W3} (hz : xs[0]? = some z) : Seen xs 1 (.int .i64 ((0 : Nat) : Int)) := .inr ⟨0, z, by omega, rfl, hz, fun i y hi hy => by
  have e : i = 0 := by omega
  subst e
  rw [hz] at hy
  injection hy with hy
  subst hy
  exact lt_irr _⟩
theorem Seen.new {xs : List W3} {j : Nat} {x z : W3} (hz : xs[j]? = some z) (hb : ∀ (i : Nat) (y : W3), i < j → xs[i]? = some y → lt y x = false) (hl : lt z x = true) : Seen xs (j + 1) (.int .i64 (j : Int)) := .inr ⟨j, z, by omega, rfl, hz, fun i y hi hy => by
  by_cases e : i = j
  · subst e
    rw [hz] at hy
    injection hy with hy
    subst hy
    exact lt_irr _
  · exact lt_of hl (hb i y (by omega) hy)⟩
theorem Seen.old {xs : List W3} {j p : Nat} {x z : W3} (hp : p < j) (hx : xs[p]? = some x) (hz : xs[j]? = some z) (hb : ∀ (i : Nat) (y : W3), i < j → xs[i]? = some y → lt y x = false) (hl : lt z x = false) : Seen xs (j + 1) (.int .i64 (p : Int)) := .inr ⟨p, x, by omega, rfl, hx, fun i y hi hy => by
  by_cases e : i = j
  · subst e
    rw [hz] at hy
    injection hy with hy
    subst hy
    exact hl
  · exact hb i y (by omega) hy⟩
set_option maxHeartbeats 2000000 in
theorem rfirst_any (P : Nat → Prop) (v : Value) (xs : List W3) (nx : Int) (w : World) (hx : Lst P w v xs) (hl : xs.length ≤ 4294967296) :
    Calls Try.prog 34 #[.agg #[v, .int .i64 nx]] w fun e w' => (∃ k, e = .returned k ∧ Seen xs xs.length k) ∧ Ch NoB w w' := by
  obtain ⟨ao, cap, rfl⟩ := hx.form
  obtain ⟨n, hn⟩ : ∃ n, n = xs.length := ⟨_, rfl⟩
  rw [← hn] at hl hx ⊢
  obtain ⟨W0, hW0⟩ : ∃ W, W = w.alloc (.cells #[.slice ao n cap, .int .i64 nx] 28) := ⟨_, rfl⟩
  have g0 : Ch NoB w W0 := by rw [hW0]; exact (Ch.refl NoB w).alloc _
  have f0 : Tv W0 w.heap.size (.slice ao n cap) nx := by rw [hW0]; exact Tv.new w _ _
  obtain ⟨ks, hks⟩ : ∃ k, k = w.heap.size := ⟨_, rfl⟩
  have HX := hid (hx.ch g0 (fun _ _ _ => noB _))
  have HN := hid hn
  have HG0 := hid g0
  have HF0 := hid (show Tv W0 ks (.slice ao n cap) nx by rw [hks]; exact f0)
  clear hx hn g0 f0
  go_enter Try.func34, Try.ntmps34
  go_wp2_with fail
  rw [← hW0, ← hks]
  clear hW0 hks
  go_loopg [3, 4] n (fun m k i wr => ∃ j, j + m = n ∧ i = .int .i64 ((j : Nat) : Int) ∧ Seen xs j k ∧ Ch NoB W0 wr)
  case atStart => exact ⟨0, by omega, rfl, .inl ⟨rfl, rfl⟩, Ch.refl _ _⟩
  case round =>
    obtain ⟨j, hjk, rfl, hS, hg⟩ := hrel
    obtain ⟨V, hV⟩ : ∃ W, W = wr := ⟨_, rfl⟩
    subst hV
    obtain ⟨K1, hK1⟩ : ∃ k, k = gk := ⟨_, rfl⟩
    have HG := hid hg
    have F1 := HF0.out.ch hg (noB _)
    obtain ⟨c0, c1⟩ := F1.cells
    have l1 := F1.lt
    clear F1
    by_cases hj : j < n
    · obtain ⟨z, hz⟩ : ∃ z, xs[j]? = some z := ⟨_, List.getElem?_eq_getElem (by rw [← HN.out]; exact hj)⟩
      have j0 : (0 : Int) ≤ (j : Int) := by omega
      have j1 : (j : Int) < (n : Int) := by omega
      rcases hS with ⟨rfl, rfl⟩ | ⟨p, x, hpj, rfl, hx, hb⟩
      · have HZ := hid hz
        clear hz hg
        go_wp2_with fail
        refine wp_region_any (by kernel_rfl) ?_
        change wpAny _ _ _ _ _ _ _ (World.drew _)
        refine take_on (i := 0) 12 (v := ?v1) rfl rfl (by kernel_rfl) (by kernel_rfl) (by kernel_rfl) (fun _ _ _ h => h) (by kernel_rfl) ?hy1 ?_
        case hy1 => (intro w; go_simp; try (with_reducible rfl))
        simp only [Act.put, List.setIfInBounds_toArray, List.set_cons_zero, List.set_cons_succ]
        refine take_on (i := 1) 13 (v := ?v2) rfl rfl (by kernel_rfl) (by kernel_rfl) (by kernel_rfl) (fun _ _ _ h => h) (by kernel_rfl) ?hy2 ?_
        case hy2 => (intro w; go_simp; try (with_reducible rfl))
        simp only [Act.put, List.setIfInBounds_toArray, List.set_cons_zero, List.set_cons_succ]
        refine take_on (i := 2) 14 (v := ?v3) rfl rfl (by kernel_rfl) (by kernel_rfl) (by kernel_rfl) (fun _ _ _ h => h) (by kernel_rfl) ?hy3 ?_
        case hy3 => (intro w; go_simp; try (with_reducible rfl))
        simp only [Act.put, List.setIfInBounds_toArray, List.set_cons_zero, List.set_cons_succ]
        refine skip_on (i := 3) 15 rfl rfl (by kernel_rfl) (by kernel_rfl) (by kernel_rfl) (fun _ _ _ h => h) (by kernel_rfl) ?_
        simp only [Act.put, List.setIfInBounds_toArray, List.set_cons_zero, List.set_cons_succ]
        refine skip_on (i := 4) 16 rfl rfl (by kernel_rfl) (by kernel_rfl) (by kernel_rfl) (fun _ _ _ h => h) (by kernel_rfl) ?_
        simp only [Act.put, List.setIfInBounds_toArray, List.set_cons_zero, List.set_cons_succ]
        refine skip_on (i := 5) 17 rfl rfl (by kernel_rfl) (by kernel_rfl) (by kernel_rfl) (fun _ _ _ h => h) (by kernel_rfl) ?_
        simp only [Act.put, List.setIfInBounds_toArray, List.set_cons_zero, List.set_cons_succ]
        refine skip_on (i := 6) 18 rfl rfl (by kernel_rfl) (by kernel_rfl) (by kernel_rfl) (fun _ _ _ h => h) (by kernel_rfl) ?_
        simp only [Act.put, List.setIfInBounds_toArray, List.set_cons_zero, List.set_cons_succ]
        refine skip_on (i := 7) 19 rfl rfl (by kernel_rfl) (by kernel_rfl) (by kernel_rfl) (fun _ _ _ h => h) (by kernel_rfl) ?_
        simp only [Act.put, List.setIfInBounds_toArray, List.set_cons_zero, List.set_cons_succ]
        refine skip_on (i := 8) 20 rfl rfl (by kernel_rfl) (by kernel_rfl) (by kernel_rfl) (fun _ _ _ h => h) (by kernel_rfl) ?_
        simp only [Act.put, List.setIfInBounds_toArray, List.set_cons_zero, List.set_cons_succ]
        refine skip_on (i := 9) 21 rfl rfl (by kernel_rfl) (by kernel_rfl) (by kernel_rfl) (fun _ _ _ h => h) (by kernel_rfl) ?_
        simp only [Act.put, List.setIfInBounds_toArray, List.set_cons_zero, List.set_cons_succ]
        refine skip_on (i := 10) 22 rfl rfl (by kernel_rfl) (by kernel_rfl) (by kernel_rfl) (fun _ _ _ h => h) (by kernel_rfl) ?_
        simp only [Act.put, List.setIfInBounds_toArray, List.set_cons_zero, List.set_cons_succ]
        refine skip_on (i := 11) 23 rfl rfl (by kernel_rfl) (by kernel_rfl) (by kernel_rfl) (fun _ _ _ h => h) (by kernel_rfl) ?_
        simp only [Act.put, List.setIfInBounds_toArray, List.set_cons_zero, List.set_cons_succ]
        refine skip_on (i := 12) 24 rfl rfl (by kernel_rfl) (by kernel_rfl) (by kernel_rfl) (fun _ _ _ h => h) (by kernel_rfl) ?_
        simp only [Act.put, List.setIfInBounds_toArray, List.set_cons_zero, List.set_cons_succ]
        refine skip_on (i := 13) 25 rfl rfl (by kernel_rfl) (by kernel_rfl) (by kernel_rfl) (fun _ _ _ h => h) (by kernel_rfl) ?_
        simp only [Act.put, List.setIfInBounds_toArray, List.set_cons_zero, List.set_cons_succ]
        refine take_on (i := 14) 26 (v := ?v15) rfl rfl (by kernel_rfl) (by kernel_rfl) (by kernel_rfl) (fun _ _ _ h => h) (by kernel_rfl) ?hy15 ?_
        case hy15 => (intro w; go_simp; try (with_reducible rfl))
        simp only [Act.put, List.setIfInBounds_toArray, List.set_cons_zero, List.set_cons_succ]
        refine wpAny_done (by kernel_rfl) ?_ _
        go_wp2
        go_roundg (K1 - 1)
        case measure => omega
        case rel => exact ⟨1, by omega, rfl, Seen.one HZ.out, HG.out.drew⟩
      · obtain ⟨gb, o, hao, _, hgl, a0, a1, a2⟩ := (HX.out.ch hg (fun _ _ _ => noB _)).get hz
        subst hao
        obtain ⟨gb', o', hao, _, _, b0, b1, b2⟩ := (HX.out.ch hg (fun _ _ _ => noB _)).get hx
        injection hao with hao
        injection hao with hao1 hao2
        subst hao1 hao2
        have p0 : (0 : Int) ≤ (p : Int) := by omega
        have p1 : (p : Int) < (n : Int) := by omega
        have p2 : ¬ ((p : Int) < 0) := by omega
        have HZ := hid hz
        have HXX := hid hx
        have HB := hid hb
        clear hz hx hb hg
        obtain ⟨V2, hV2⟩ : ∃ W, W = V.drew := ⟨_, rfl⟩
        have hSW : V.cell? ⟨ks, 0, none⟩ = some (.slice (some ⟨gb, o, none⟩) n cap) ∧ (V.cell? ⟨gb, o + j * 3, none⟩ = some (.int .u64 z.w) ∧ V.cell? ⟨gb, o + j * 3 + 1, none⟩ = some (.int .i64 z.n) ∧ V.cell? ⟨gb, o + j * 3 + 2, none⟩ = some (.int .i64 z.v)) ∧ V.cell? ⟨gb, o + p * 3, none⟩ = some (.int .u64 x.w) ∧ V.cell? ⟨gb, o + p * 3 + 1, none⟩ = some (.int .i64 x.n) ∧ V.cell? ⟨gb, o + p * 3 + 2, none⟩ = some (.int .i64 x.v) := ⟨c0, ⟨a0, a1, a2⟩, b0, b1, b2⟩
        have hSV : V2.cell? ⟨ks, 0, none⟩ = some (.slice (some ⟨gb, o, none⟩) n cap) ∧ (V2.cell? ⟨gb, o + j * 3, none⟩ = some (.int .u64 z.w) ∧ V2.cell? ⟨gb, o + j * 3 + 1, none⟩ = some (.int .i64 z.n) ∧ V2.cell? ⟨gb, o + j * 3 + 2, none⟩ = some (.int .i64 z.v)) ∧ V2.cell? ⟨gb, o + p * 3, none⟩ = some (.int .u64 x.w) ∧ V2.cell? ⟨gb, o + p * 3 + 1, none⟩ = some (.int .i64 x.n) ∧ V2.cell? ⟨gb, o + p * 3 + 2, none⟩ = some (.int .i64 x.v) := by rw [hV2]; exact hSW
        have HG2 := hid (show Ch NoB W0 V2 by rw [hV2]; exact HG.out.drew)
        have l1' : ks < V2.heap.size := by rw [hV2]; exact l1
        have hgl' : gb < V2.heap.size := by rw [hV2]; exact hgl
        cases hlt : lt z x with
        | true =>
          go_wp2_with fail
          refine wp_region_held_drew (S := fun w' => w'.cell? ⟨ks, 0, none⟩ = some (.slice (some ⟨gb, o, none⟩) n cap) ∧ (w'.cell? ⟨gb, o + j * 3, none⟩ = some (.int .u64 z.w) ∧ w'.cell? ⟨gb, o + j * 3 + 1, none⟩ = some (.int .i64 z.n) ∧ w'.cell? ⟨gb, o + j * 3 + 2, none⟩ = some (.int .i64 z.v)) ∧ w'.cell? ⟨gb, o + p * 3, none⟩ = some (.int .u64 x.w) ∧ w'.cell? ⟨gb, o + p * 3 + 1, none⟩ = some (.int .i64 x.n) ∧ w'.cell? ⟨gb, o + p * 3 + 2, none⟩ = some (.int .i64 x.v)) (by kernel_rfl) (by exact hSW) (fun _ => ?_)
          rw [← hV2]
          clear hV2
          refine takeS_on (i := 0) 12 (v := ?v89) rfl rfl (by kernel_rfl) (by kernel_rfl) (by kernel_rfl) (fun _ _ _ h => h) (by kernel_rfl) ?hy89 (by exact hSV) ?_
          case hy89 => (intro w' hSw; go_simp; try (with_reducible rfl))
          simp only [Act.put, List.setIfInBounds_toArray, List.set_cons_zero, List.set_cons_succ]
          refine takeS_on (i := 1) 13 (v := ?v90) rfl rfl (by kernel_rfl) (by kernel_rfl) (by kernel_rfl) (fun _ _ _ h => h) (by kernel_rfl) ?hy90 (by exact hSV) ?_
          case hy90 => (intro w' hSw; go_simp; try (with_reducible rfl))
          simp only [Act.put, List.setIfInBounds_toArray, List.set_cons_zero, List.set_cons_succ]
          refine takeS_on (i := 2) 14 (v := ?v91) rfl rfl (by kernel_rfl) (by kernel_rfl) (by kernel_rfl) (fun _ _ _ h => h) (by kernel_rfl) ?hy91 (by exact hSV) ?_
          case hy91 => (intro w' hSw; go_simp; try (with_reducible rfl))
          simp only [Act.put, List.setIfInBounds_toArray, List.set_cons_zero, List.set_cons_succ]
          refine takeS_on (i := 3) 15 (v := ?v92) rfl rfl (by kernel_rfl) (by kernel_rfl) (by kernel_rfl) (fun _ _ _ h => h) (by kernel_rfl) ?hy92 (by exact hSV) ?_
          case hy92 => (intro w' hSw; go_simp; try (with_reducible rfl))
          simp only [Act.put, List.setIfInBounds_toArray, List.set_cons_zero, List.set_cons_succ]
          refine takeS_on (i := 4) 16 (v := ?v93) rfl rfl (by kernel_rfl) (by kernel_rfl) (by kernel_rfl) (fun _ _ _ h => h) (by kernel_rfl) ?hy93 (by exact hSV) ?_
          case hy93 => (intro w' hSw; go_simp; try (with_reducible rfl))
          simp only [Act.put, List.setIfInBounds_toArray, List.set_cons_zero, List.set_cons_succ]
          refine takeS_on (i := 5) 17 (v := ?v94) rfl rfl (by kernel_rfl) (by kernel_rfl) (by kernel_rfl) (fun _ _ _ h => h) (by kernel_rfl) ?hy94 (by exact hSV) ?_
          case hy94 => (intro w' hSw; go_simp; try (with_reducible rfl))
          simp only [Act.put, List.setIfInBounds_toArray, List.set_cons_zero, List.set_cons_succ]
          refine takeS_on (i := 6) 18 (v := ?v95) rfl rfl (by kernel_rfl) (by kernel_rfl) (by kernel_rfl) (fun _ _ _ h => h) (by kernel_rfl) ?hy95 (by exact hSV) ?_
          case hy95 => (intro w' hSw; go_simp; try (with_reducible rfl))
          simp only [Act.put, List.setIfInBounds_toArray, List.set_cons_zero, List.set_cons_succ]
          refine takeS_on (i := 7) 19 (v := ?v96) rfl rfl (by kernel_rfl) (by kernel_rfl) (by kernel_rfl) (fun _ _ _ h => h) (by kernel_rfl) ?hy96 (by exact hSV) ?_
          case hy96 => (intro w' hSw; go_simp; try (with_reducible rfl))
          simp only [Act.put, List.setIfInBounds_toArray, List.set_cons_zero, List.set_cons_succ]
          refine takeS_on (i := 8) 20 (v := ?v97) rfl rfl (by kernel_rfl) (by kernel_rfl) (by kernel_rfl) (fun _ _ _ h => h) (by kernel_rfl) ?hy97 (by exact hSV) ?_
          case hy97 => (intro w' hSw; go_simp; try (with_reducible rfl))
          simp only [Act.put, List.setIfInBounds_toArray, List.set_cons_zero, List.set_cons_succ]
          refine takeS_on (i := 9) 21 (v := ?v98) rfl rfl (by kernel_rfl) (by kernel_rfl) (by kernel_rfl) (fun _ _ _ h => h) (by kernel_rfl) ?hy98 (by exact hSV) ?_
          case hy98 => (intro w' hSw; go_simp; try (with_reducible rfl))
          simp only [Act.put, List.setIfInBounds_toArray, List.set_cons_zero, List.set_cons_succ]
          refine takeS_on (i := 10) 22 (v := ?v99) rfl rfl (by kernel_rfl) (by kernel_rfl) (by kernel_rfl) (fun _ _ _ h => h) (by kernel_rfl) ?hy99 (by exact hSV) ?_
          case hy99 => (intro w' hSw; go_simp; try (with_reducible rfl))
          simp only [Act.put, List.setIfInBounds_toArray, List.set_cons_zero, List.set_cons_succ]
          refine takeS_on (i := 11) 23 (v := ?v100) rfl rfl (by kernel_rfl) (by kernel_rfl) (by kernel_rfl) (fun _ _ _ h => h) (by kernel_rfl) ?hy100 (by exact hSV) ?_
          case hy100 => (intro w' hSw; go_simp; try (with_reducible rfl))
          simp only [Act.put, List.setIfInBounds_toArray, List.set_cons_zero, List.set_cons_succ]
          refine takeS_on (i := 12) 24 (v := ?v101) rfl rfl (by kernel_rfl) (by kernel_rfl) (by kernel_rfl) (fun _ _ _ h => h) (by kernel_rfl) ?hy101 (by exact hSV) ?_
          case hy101 => (intro w' hSw; go_simp; try (with_reducible rfl))
          simp only [Act.put, List.setIfInBounds_toArray, List.set_cons_zero, List.set_cons_succ]
          refine wpAnyH_ready (rs := [13]) (by kernel_rfl) (by simp) (AllReadyH.cons rfl (fun K hK => ?_) AllReadyH.nil)
          go_simp
          refine (rahead_any z x _).mono ?_
          rintro e w1 ⟨rfl, g1⟩
          rw [hlt]
          have hS1 : w1.cell? ⟨ks, 0, none⟩ = some (.slice (some ⟨gb, o, none⟩) n cap) ∧ (w1.cell? ⟨gb, o + j * 3, none⟩ = some (.int .u64 z.w) ∧ w1.cell? ⟨gb, o + j * 3 + 1, none⟩ = some (.int .i64 z.n) ∧ w1.cell? ⟨gb, o + j * 3 + 2, none⟩ = some (.int .i64 z.v)) ∧ w1.cell? ⟨gb, o + p * 3, none⟩ = some (.int .u64 x.w) ∧ w1.cell? ⟨gb, o + p * 3 + 1, none⟩ = some (.int .i64 x.n) ∧ w1.cell? ⟨gb, o + p * 3 + 2, none⟩ = some (.int .i64 x.v) := ⟨(g1.cell l1' (noB _)).trans hSV.1, ⟨(g1.cell hgl' (noB _)).trans hSV.2.1.1, (g1.cell hgl' (noB _)).trans hSV.2.1.2.1, (g1.cell hgl' (noB _)).trans hSV.2.1.2.2⟩, (g1.cell hgl' (noB _)).trans hSV.2.2.1, (g1.cell hgl' (noB _)).trans hSV.2.2.2.1, (g1.cell hgl' (noB _)).trans hSV.2.2.2.2⟩
          have HG1 := hid (HG2.out.trans' g1)
          clear g1
          refine hK.out _ _ (by exact hS1) (fun _ => ?_)
          clear hK K
          refine takeS_on (i := 14) 26 (v := ?v102) rfl rfl (by kernel_rfl) (by kernel_rfl) (by kernel_rfl) (fun _ _ _ h => h) (by kernel_rfl) ?hy102 (by exact hS1) ?_
          case hy102 => (intro w' hSw; go_simp; try (with_reducible rfl))
          simp only [Act.put, List.setIfInBounds_toArray, List.set_cons_zero, List.set_cons_succ]
          refine wpAnyH_done (by kernel_rfl) ?_ _
          go_wp2
          go_roundg (K1 - 1)
          case measure => omega
          case rel => exact ⟨j + 1, by omega, by simp, Seen.new HZ.out HB.out hlt, HG1.out⟩
        | false =>
          go_wp2_with fail
          refine wp_region_held_drew (S := fun w' => w'.cell? ⟨ks, 0, none⟩ = some (.slice (some ⟨gb, o, none⟩) n cap) ∧ (w'.cell? ⟨gb, o + j * 3, none⟩ = some (.int .u64 z.w) ∧ w'.cell? ⟨gb, o + j * 3 + 1, none⟩ = some (.int .i64 z.n) ∧ w'.cell? ⟨gb, o + j * 3 + 2, none⟩ = some (.int .i64 z.v)) ∧ w'.cell? ⟨gb, o + p * 3, none⟩ = some (.int .u64 x.w) ∧ w'.cell? ⟨gb, o + p * 3 + 1, none⟩ = some (.int .i64 x.n) ∧ w'.cell? ⟨gb, o + p * 3 + 2, none⟩ = some (.int .i64 x.v)) (by kernel_rfl) (by exact hSW) (fun _ => ?_)
          rw [← hV2]
          clear hV2
          refine takeS_on (i := 0) 12 (v := ?v103) rfl rfl (by kernel_rfl) (by kernel_rfl) (by kernel_rfl) (fun _ _ _ h => h) (by kernel_rfl) ?hy103 (by exact hSV) ?_
          case hy103 => (intro w' hSw; go_simp; try (with_reducible rfl))
          simp only [Act.put, List.setIfInBounds_toArray, List.set_cons_zero, List.set_cons_succ]
          refine takeS_on (i := 1) 13 (v := ?v104) rfl rfl (by kernel_rfl) (by kernel_rfl) (by kernel_rfl) (fun _ _ _ h => h) (by kernel_rfl) ?hy104 (by exact hSV) ?_
          case hy104 => (intro w' hSw; go_simp; try (with_reducible rfl))
          simp only [Act.put, List.setIfInBounds_toArray, List.set_cons_zero, List.set_cons_succ]
          refine takeS_on (i := 2) 14 (v := ?v105) rfl rfl (by kernel_rfl) (by kernel_rfl) (by kernel_rfl) (fun _ _ _ h => h) (by kernel_rfl) ?hy105 (by exact hSV) ?_
          case hy105 => (intro w' hSw; go_simp; try (with_reducible rfl))
          simp only [Act.put, List.setIfInBounds_toArray, List.set_cons_zero, List.set_cons_succ]
          refine takeS_on (i := 3) 15 (v := ?v106) rfl rfl (by kernel_rfl) (by kernel_rfl) (by kernel_rfl) (fun _ _ _ h => h) (by kernel_rfl) ?hy106 (by exact hSV) ?_
          case hy106 => (intro w' hSw; go_simp; try (with_reducible rfl))
          simp only [Act.put, List.setIfInBounds_toArray, List.set_cons_zero, List.set_cons_succ]
          refine takeS_on (i := 4) 16 (v := ?v107) rfl rfl (by kernel_rfl) (by kernel_rfl) (by kernel_rfl) (fun _ _ _ h => h) (by kernel_rfl) ?hy107 (by exact hSV) ?_
          case hy107 => (intro w' hSw; go_simp; try (with_reducible rfl))
          simp only [Act.put, List.setIfInBounds_toArray, List.set_cons_zero, List.set_cons_succ]
          refine takeS_on (i := 5) 17 (v := ?v108) rfl rfl (by kernel_rfl) (by kernel_rfl) (by kernel_rfl) (fun _ _ _ h => h) (by kernel_rfl) ?hy108 (by exact hSV) ?_
          case hy108 => (intro w' hSw; go_simp; try (with_reducible rfl))
          simp only [Act.put, List.setIfInBounds_toArray, List.set_cons_zero, List.set_cons_succ]
          refine takeS_on (i := 6) 18 (v := ?v109) rfl rfl (by kernel_rfl) (by kernel_rfl) (by kernel_rfl) (fun _ _ _ h => h) (by kernel_rfl) ?hy109 (by exact hSV) ?_
          case hy109 => (intro w' hSw; go_simp; try (with_reducible rfl))
          simp only [Act.put, List.setIfInBounds_toArray, List.set_cons_zero, List.set_cons_succ]
          refine takeS_on (i := 7) 19 (v := ?v110) rfl rfl (by kernel_rfl) (by kernel_rfl) (by kernel_rfl) (fun _ _ _ h => h) (by kernel_rfl) ?hy110 (by exact hSV) ?_
          case hy110 => (intro w' hSw; go_simp; try (with_reducible rfl))
          simp only [Act.put, List.setIfInBounds_toArray, List.set_cons_zero, List.set_cons_succ]
          refine takeS_on (i := 8) 20 (v := ?v111) rfl rfl (by kernel_rfl) (by kernel_rfl) (by kernel_rfl) (fun _ _ _ h => h) (by kernel_rfl) ?hy111 (by exact hSV) ?_
          case hy111 => (intro w' hSw; go_simp; try (with_reducible rfl))
          simp only [Act.put, List.setIfInBounds_toArray, List.set_cons_zero, List.set_cons_succ]
          refine takeS_on (i := 9) 21 (v := ?v112) rfl rfl (by kernel_rfl) (by kernel_rfl) (by kernel_rfl) (fun _ _ _ h => h) (by kernel_rfl) ?hy112 (by exact hSV) ?_
          case hy112 => (intro w' hSw; go_simp; try (with_reducible rfl))
          simp only [Act.put, List.setIfInBounds_toArray, List.set_cons_zero, List.set_cons_succ]
          refine takeS_on (i := 10) 22 (v := ?v113) rfl rfl (by kernel_rfl) (by kernel_rfl) (by kernel_rfl) (fun _ _ _ h => h) (by kernel_rfl) ?hy113 (by exact hSV) ?_
          case hy113 => (intro w' hSw; go_simp; try (with_reducible rfl))
          simp only [Act.put, List.setIfInBounds_toArray, List.set_cons_zero, List.set_cons_succ]
          refine takeS_on (i := 11) 23 (v := ?v114) rfl rfl (by kernel_rfl) (by kernel_rfl) (by kernel_rfl) (fun _ _ _ h => h) (by kernel_rfl) ?hy114 (by exact hSV) ?_
          case hy114 => (intro w' hSw; go_simp; try (with_reducible rfl))
          simp only [Act.put, List.setIfInBounds_toArray, List.set_cons_zero, List.set_cons_succ]
          refine takeS_on (i := 12) 24 (v := ?v115) rfl rfl (by kernel_rfl) (by kernel_rfl) (by kernel_rfl) (fun _ _ _ h => h) (by kernel_rfl) ?hy115 (by exact hSV) ?_
          case hy115 => (intro w' hSw; go_simp; try (with_reducible rfl))
          simp only [Act.put, List.setIfInBounds_toArray, List.set_cons_zero, List.set_cons_succ]
          refine wpAnyH_ready (rs := [13]) (by kernel_rfl) (by simp) (AllReadyH.cons rfl (fun K hK => ?_) AllReadyH.nil)
          go_simp
          refine (rahead_any z x _).mono ?_
          rintro e w1 ⟨rfl, g1⟩
          rw [hlt]
          have hS1 : w1.cell? ⟨ks, 0, none⟩ = some (.slice (some ⟨gb, o, none⟩) n cap) ∧ (w1.cell? ⟨gb, o + j * 3, none⟩ = some (.int .u64 z.w) ∧ w1.cell? ⟨gb, o + j * 3 + 1, none⟩ = some (.int .i64 z.n) ∧ w1.cell? ⟨gb, o + j * 3 + 2, none⟩ = some (.int .i64 z.v)) ∧ w1.cell? ⟨gb, o + p * 3, none⟩ = some (.int .u64 x.w) ∧ w1.cell? ⟨gb, o + p * 3 + 1, none⟩ = some (.int .i64 x.n) ∧ w1.cell? ⟨gb, o + p * 3 + 2, none⟩ = some (.int .i64 x.v) := ⟨(g1.cell l1' (noB _)).trans hSV.1, ⟨(g1.cell hgl' (noB _)).trans hSV.2.1.1, (g1.cell hgl' (noB _)).trans hSV.2.1.2.1, (g1.cell hgl' (noB _)).trans hSV.2.1.2.2⟩, (g1.cell hgl' (noB _)).trans hSV.2.2.1, (g1.cell hgl' (noB _)).trans hSV.2.2.2.1, (g1.cell hgl' (noB _)).trans hSV.2.2.2.2⟩
          have HG1 := hid (HG2.out.trans' g1)
          clear g1
          refine hK.out _ _ (by exact hS1) (fun _ => ?_)
          clear hK K
          refine takeS_on (i := 14) 26 (v := ?v116) rfl rfl (by kernel_rfl) (by kernel_rfl) (by kernel_rfl) (fun _ _ _ h => h) (by kernel_rfl) ?hy116 (by exact hS1) ?_
          case hy116 => (intro w' hSw; go_simp; try (with_reducible rfl))
          simp only [Act.put, List.setIfInBounds_toArray, List.set_cons_zero, List.set_cons_succ]
          refine wpAnyH_done (by kernel_rfl) ?_ _
          go_wp2
          go_roundg (K1 - 1)
          case measure => omega
          case rel => exact ⟨j + 1, by omega, by simp, Seen.old hpj HXX.out HZ.out HB.out hlt, HG1.out⟩
    · have ej : j = n := by omega
      subst ej
      have HS := hid hS
      clear hS hg
      go_wp2
      go_ret
      exact ⟨⟨_, rfl, HS.out⟩, HG0.out.trans' HG.out⟩

/-- the one that is due first -/
structure Mi (xs : List W3) (p : Nat) (x : W3) : Prop where
  a : xs[p]? = some x
  m : ∀ (i : Nat) (y : W3), xs[i]? = some y → lt y x = false
theorem Seen.is {xs : List W3} {p : Nat} {x : W3} {k : Value} (h : Seen xs xs.length k) (hn : Nn xs) (hm : Mi xs p x) : k = .int .i64 (p : Int) := by
  have hp := (List.getElem?_eq_some_iff.1 hm.a).1
  rcases h with ⟨h0, _⟩ | ⟨p', x', hp', rfl, hx', hb⟩
  · omega
  · have h1 := hm.m p' x' hx'
    have h2 := hb p x hp hm.a
    have e : x.n = x'.n := Decidable.byContradiction fun e => by
      have := lt_total h2 e
      rw [h1] at this
      cases this
    rw [hn.inj hx' hm.a e.symm]
theorem Seen.no {k : Value} (h : Seen [] ([] : List W3).length k) : k = .int .i64 (-1) := by
  rcases h with ⟨_, e⟩ | ⟨p', x', hp', _⟩
  · exact e
  · simp at hp'
set_option maxHeartbeats 2000000 in
theorem rtop_at (P : Nat → Prop) (v : Value) (xs : List W3) (nx : Int) (p : Nat) (x : W3) (w : World) (hx : Lst P w v xs) (hl : xs.length ≤ 4294967296) (hn : Nn xs) (hm : Mi xs p x) :
    Calls Try.prog 25 #[.agg #[v, .int .i64 nx]] w fun e w' => e = .returned (.tuple #[.agg #[.int .u64 x.w, .int .i64 x.n, .int .i64 x.v], .int .i64 0]) ∧ Ch NoB w w' := by
  obtain ⟨ao, cap, rfl⟩ := hx.form
  obtain ⟨n, hnn⟩ : ∃ n, n = xs.length := ⟨_, rfl⟩
  have hpn : p < n := by rw [hnn]; exact (List.getElem?_eq_some_iff.1 hm.a).1
  rw [← hnn] at hl hx ⊢
  obtain ⟨W0, hW0⟩ : ∃ W, W = (w.alloc (.cells #[.slice ao n cap, .int .i64 nx] 28)).alloc (.cells #[.int .u64 0, .int .i64 0, .int .i64 0] 44) := ⟨_, rfl⟩
  have g0 : Ch NoB w W0 := by rw [hW0]; exact ((Ch.refl NoB w).alloc _).alloc _
  have f0 : Tv W0 w.heap.size (.slice ao n cap) nx := by rw [hW0]; exact (Tv.new w _ _).alloc _
  have r0 : Th W0 (w.heap.size + 1) W3.zero := by
    have z := Th.new (w.alloc (.cells #[.slice ao n cap, .int .i64 nx] 28)) W3.zero
    rw [World.size_alloc] at z
    rw [hW0]
    exact z
  obtain ⟨ks, hks⟩ : ∃ k, k = w.heap.size := ⟨_, rfl⟩
  obtain ⟨kt, hkt⟩ : ∃ k, k = w.heap.size + 1 := ⟨_, rfl⟩
  have HKT := hid (show w.heap.size ≤ kt by omega)
  have HX := hid (hx.ch g0 (fun _ _ _ => noB _))
  have HN := hid hnn
  have HG0 := hid g0
  have HNn := hid hn
  have HM := hid hm
  have HF0 := hid (show Tv W0 ks (.slice ao n cap) nx by rw [hks]; exact f0)
  have HR0 := hid (show Th W0 kt W3.zero by rw [hkt]; exact r0)
  have l1 := HF0.out.lt
  obtain ⟨c0, c1⟩ := HF0.out.cells
  clear hx hnn g0 f0 r0 hn hm
  go_enter Try.func25, Try.ntmps25
  go_wp2_with fail
  rw [← hW0, ← hkt, ← hks]
  clear hW0 hks hkt
  go_wp2_with fail
  refine (rfirst_any P _ xs nx W0 HX.out (by rw [← HN.out]; exact hl)).mono ?_
  rintro e w1 ⟨⟨k, rfl, hs⟩, g1⟩
  have ek := hs.is HNn.out HM.out
  subst ek
  have F1 := HF0.out.ch g1 (noB _)
  have R1 := HR0.out.ch g1 (noB _)
  clear c0 c1 l1
  obtain ⟨c0, c1⟩ := F1.cells
  have l1 := F1.lt
  obtain ⟨z0, z1, z2⟩ := R1.cells
  obtain ⟨y0, y1, y2⟩ := R1.fz
  have l2 := R1.lt
  obtain ⟨gb, o, rfl, _, hgl, a0, a1, a2⟩ := (HX.out.ch g1 (fun _ _ _ => noB _)).get HM.out.a
  have p0 : (0 : Int) ≤ (p : Int) := by omega
  have p1 : (p : Int) < (n : Int) := by omega
  have p2 : ¬ ((p : Int) < 0) := by omega
  have HG1 := hid (HG0.out.trans' g1)
  have HC := hid ((((Ch.refl (Only kt) w1).own 0 (.int .u64 x.w)).own 1 (.int .i64 x.n)).own 2 (.int .i64 x.v))
  clear hs g1 F1 R1
  go_wp2
  exact bodyPost_ret (v := .tuple #[.agg #[.int .u64 x.w, .int .i64 x.n, .int .i64 x.v], .int .i64 0]) (by simp [results, Try.results25, go_sem, z0, z1, z2]) rfl ⟨rfl, HG1.out.trans HC.out (fun q e => .inr (by have e1 : q = kt := e; have := HKT.out; omega))⟩
set_option maxHeartbeats 2000000 in
theorem rtop_none (v : Value) (nx : Int) (w : World) (P : Nat → Prop) (hx : Lst P w v []) :
    Calls Try.prog 25 #[.agg #[v, .int .i64 nx]] w fun e w' => e = .returned (.tuple #[.agg #[.int .u64 0, .int .i64 0, .int .i64 0], .int .i64 31]) ∧ Ch NoB w w' := by
  obtain ⟨ao, cap, rfl⟩ := hx.form
  rw [List.length_nil] at hx ⊢
  obtain ⟨W0, hW0⟩ : ∃ W, W = (w.alloc (.cells #[.slice ao 0 cap, .int .i64 nx] 28)).alloc (.cells #[.int .u64 0, .int .i64 0, .int .i64 0] 44) := ⟨_, rfl⟩
  have g0 : Ch NoB w W0 := by rw [hW0]; exact ((Ch.refl NoB w).alloc _).alloc _
  have f0 : Tv W0 w.heap.size (.slice ao 0 cap) nx := by rw [hW0]; exact (Tv.new w _ _).alloc _
  have r0 : Th W0 (w.heap.size + 1) W3.zero := by
    have z := Th.new (w.alloc (.cells #[.slice ao 0 cap, .int .i64 nx] 28)) W3.zero
    rw [World.size_alloc] at z
    rw [hW0]
    exact z
  obtain ⟨ks, hks⟩ : ∃ k, k = w.heap.size := ⟨_, rfl⟩
  obtain ⟨kt, hkt⟩ : ∃ k, k = w.heap.size + 1 := ⟨_, rfl⟩
  have HKT := hid (show w.heap.size ≤ kt by omega)
  have HX := hid (hx.ch g0 (fun _ _ _ => noB _))
  have HG0 := hid g0
  have HF0 := hid (show Tv W0 ks (.slice ao 0 cap) nx by rw [hks]; exact f0)
  have HR0 := hid (show Th W0 kt W3.zero by rw [hkt]; exact r0)
  have l1 := HF0.out.lt
  obtain ⟨c0, c1⟩ := HF0.out.cells
  clear hx g0 f0 r0
  go_enter Try.func25, Try.ntmps25
  go_wp2_with fail
  rw [← hW0, ← hkt, ← hks]
  clear hW0 hks hkt
  go_wp2_with fail
  refine (rfirst_any P _ [] nx W0 HX.out (by simp)).mono ?_
  rintro e w1 ⟨⟨k, rfl, hs⟩, g1⟩
  have ek := hs.no
  subst ek
  have R1 := HR0.out.ch g1 (noB _)
  clear c0 c1 l1
  obtain ⟨z0, z1, z2⟩ := R1.cells
  obtain ⟨y0, y1, y2⟩ := R1.fz
  have l2 := R1.lt
  have HG1 := hid (HG0.out.trans' g1)
  have HC := hid ((((Ch.refl (Only kt) w1).own 0 (.int .u64 0)).own 1 (.int .i64 0)).own 2 (.int .i64 0))
  clear hs g1 R1
  go_wp2
  exact bodyPost_ret (v := .tuple #[.agg #[.int .u64 0, .int .i64 0, .int .i64 0], .int .i64 31]) (by simp [results, Try.results25, go_sem, z0, z1, z2]) rfl ⟨rfl, HG1.out.trans HC.out (fun q e => .inr (by have e1 : q = kt := e; have := HKT.out; omega))⟩
end Go.Proofs.Ytkaeccmhfbjcmaa.Hp
