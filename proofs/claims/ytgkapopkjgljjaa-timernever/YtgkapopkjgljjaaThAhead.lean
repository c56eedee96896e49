/-
  A heap in memory, its list not empty once; what ahead answers. Condition: the heap is there, the places are in it.
-/
import Derived.Test.YtgkapopkjgljjaaThCmp
import Derived.Handy
namespace Go.Proofs.Ytgkapopkjgljjaa.Hp
open Go.RowKit Wd
attribute [local go_sem ↓] Go.wp_at_zero Go.wp_at_succ

/-- a heap: its own block, its list's, its map's -/
structure HC (w : World) (b g km cap : Nat) (xs : List W3) (M : List (Int × Int × Nat)) (clock : Nat) (nx : Int) : Prop where
  hb : w.heap[b]? = some (.cells #[.slice (some ⟨g, 0, none⟩) xs.length cap, .map (some km), .int .i64 nx] 100 (0, 0))
  own : Own 0 w (.slice (some ⟨g, 0, none⟩) xs.length cap) xs
  m : MAt w km M clock
  ok : MOk M clock
  pl : Pl M xs
  nn : Nn xs
  d1 : b ≠ g
  d2 : b ≠ km
  d3 : g ≠ km
/-- the blocks of a heap -/
def Tri (b g km : Nat) : Nat → Prop := fun q => q = b ∨ q = g ∨ q = km
theorem HC.ch {S : Nat → Prop} {w w' : World} {b g km cap : Nat} {xs : List W3} {M : List (Int × Int × Nat)} {clock : Nat} {nx : Int} (h : HC w b g km cap xs M clock nx) (k : Ch S w w') (hs : ∀ q, Tri b g km q → ¬ S q) : HC w' b g km cap xs M clock nx :=
  { h with
    hb := (k.block b (lt_of_block h.hb) (hs b (.inl rfl))).trans h.hb
    own := h.own.ch k (fun q e => hs q (by have e1 : some g = some q := e; injection e1 with e1; exact .inr (.inl e1.symm)))
    m := h.m.ch k (hs km (.inr (.inr rfl))) }
theorem HC.still {w w' : World} {b g km cap : Nat} {xs : List W3} {M : List (Int × Int × Nat)} {clock : Nat} {nx : Int} (h : HC w b g km cap xs M clock nx) (k : Ch NoB w w') : HC w' b g km cap xs M clock nx := h.ch k (fun _ _ => noB _)
theorem HC.gl {w : World} {b g km cap : Nat} {xs : List W3} {M : List (Int × Int × Nat)} {clock : Nat} {nx : Int} (h : HC w b g km cap xs M clock nx) : g < w.heap.size := (h.own.blk (q := g) rfl).2
theorem HC.lt {w : World} {b g km cap : Nat} {xs : List W3} {M : List (Int × Int × Nat)} {clock : Nat} {nx : Int} (h : HC w b g km cap xs M clock nx) : ∀ q, Tri b g km q → q < w.heap.size := fun q e => by
  rcases e with rfl | rfl | rfl
  · exact lt_of_block h.hb
  · exact h.gl
  · exact h.m.lt
theorem HC.cell {w : World} {b g km cap : Nat} {xs : List W3} {M : List (Int × Int × Nat)} {clock : Nat} {nx : Int} (h : HC w b g km cap xs M clock nx) : w.cell? ⟨b, 0, none⟩ = some (.slice (some ⟨g, 0, none⟩) xs.length cap) ∧ w.cell? ⟨b, 1, none⟩ = some (.map (some km)) ∧ w.cell? ⟨b, 2, none⟩ = some (.int .i64 nx) :=
  ⟨(cell_of h.hb 0).trans rfl, (cell_of h.hb 1).trans rfl, (cell_of h.hb 2).trans rfl⟩

set_option maxHeartbeats 2000000 in
theorem ahead_any (b g km cap i j : Nat) (xs : List W3) (M : List (Int × Int × Nat)) (clock : Nat) (nx : Int) (x y : W3) (w : World) (h : HC w b g km cap xs M clock nx) (hi : xs[i]? = some x) (hj : xs[j]? = some y) :
    Calls Try.prog 70 #[.pointer (some ⟨b, 0, none⟩), .int .i64 (i : Int), .int .i64 (j : Int)] w fun e w' => e = .returned (.bool (lt x y)) ∧ Ch NoB w w' := by
  have il : i < xs.length := (List.getElem?_eq_some_iff.1 hi).1
  have jl : j < xs.length := (List.getElem?_eq_some_iff.1 hj).1
  obtain ⟨a0, a1, -⟩ := h.own.get hi
  obtain ⟨e0, e1, -⟩ := h.own.get hj
  have c0 := h.cell.1
  have bl := lt_of_block h.hb
  have gl := h.gl
  obtain ⟨n, hn⟩ : ∃ n, n = xs.length := ⟨_, rfl⟩
  rw [← hn] at il jl c0
  have hS0 : (w.cell? ⟨b, 0, none⟩ = some (.slice (some ⟨g, 0, none⟩) n cap) ∧ w.cell? ⟨g, i * 3, none⟩ = some (.int .u64 x.w) ∧ w.cell? ⟨g, i * 3 + 1, none⟩ = some (.int .i64 x.n) ∧ w.cell? ⟨g, j * 3, none⟩ = some (.int .u64 y.w) ∧ w.cell? ⟨g, j * 3 + 1, none⟩ = some (.int .i64 y.n)) := ⟨c0, a0, a1, e0, e1⟩
  have i0 : (0 : Int) ≤ (i : Int) := by omega
  have i1 : (i : Int) < (n : Int) := by omega
  have j0 : (0 : Int) ≤ (j : Int) := by omega
  have j1 : (j : Int) < (n : Int) := by omega
  have hl := cmpD_lt x y
  clear h hi hj hn
  go_enter Try.func70, Try.ntmps70
  go_wp2_with fail
  refine wp_region_held_drew (S := fun w' => w'.cell? ⟨b, 0, none⟩ = some (.slice (some ⟨g, 0, none⟩) n cap) ∧ w'.cell? ⟨g, i * 3, none⟩ = some (.int .u64 x.w) ∧ w'.cell? ⟨g, i * 3 + 1, none⟩ = some (.int .i64 x.n) ∧ w'.cell? ⟨g, j * 3, none⟩ = some (.int .u64 y.w) ∧ w'.cell? ⟨g, j * 3 + 1, none⟩ = some (.int .i64 y.n)) (by kernel_rfl) (by exact hS0) (fun _ => ?_)
  refine takeS_on (i := 0) 7 (v := ?v10) rfl rfl (by kernel_rfl) (by kernel_rfl) (by kernel_rfl) (fun _ _ _ h => h) (by kernel_rfl) ?hy10 (by exact hS0) ?_
  case hy10 => (intro w' hSw; go_simp; try (with_reducible rfl))
  simp only [Act.put, List.setIfInBounds_toArray, List.set_cons_zero, List.set_cons_succ]
  refine takeS_on (i := 1) 8 (v := ?v11) rfl rfl (by kernel_rfl) (by kernel_rfl) (by kernel_rfl) (fun _ _ _ h => h) (by kernel_rfl) ?hy11 (by exact hS0) ?_
  case hy11 => (intro w' hSw; go_simp; try (with_reducible rfl))
  simp only [Act.put, List.setIfInBounds_toArray, List.set_cons_zero, List.set_cons_succ]
  refine takeS_on (i := 2) 9 (v := ?v12) rfl rfl (by kernel_rfl) (by kernel_rfl) (by kernel_rfl) (fun _ _ _ h => h) (by kernel_rfl) ?hy12 (by exact hS0) ?_
  case hy12 => (intro w' hSw; go_simp; try (with_reducible rfl))
  simp only [Act.put, List.setIfInBounds_toArray, List.set_cons_zero, List.set_cons_succ]
  refine takeS_on (i := 3) 10 (v := ?v13) rfl rfl (by kernel_rfl) (by kernel_rfl) (by kernel_rfl) (fun _ _ _ h => h) (by kernel_rfl) ?hy13 (by exact hS0) ?_
  case hy13 => (intro w' hSw; go_simp; try (with_reducible rfl))
  simp only [Act.put, List.setIfInBounds_toArray, List.set_cons_zero, List.set_cons_succ]
  refine takeS_on (i := 4) 11 (v := ?v14) rfl rfl (by kernel_rfl) (by kernel_rfl) (by kernel_rfl) (fun _ _ _ h => h) (by kernel_rfl) ?hy14 (by exact hS0) ?_
  case hy14 => (intro w' hSw; go_simp; try (with_reducible rfl))
  simp only [Act.put, List.setIfInBounds_toArray, List.set_cons_zero, List.set_cons_succ]
  refine takeS_on (i := 5) 12 (v := ?v15) rfl rfl (by kernel_rfl) (by kernel_rfl) (by kernel_rfl) (fun _ _ _ h => h) (by kernel_rfl) ?hy15 (by exact hS0) ?_
  case hy15 => (intro w' hSw; go_simp; try (with_reducible rfl))
  simp only [Act.put, List.setIfInBounds_toArray, List.set_cons_zero, List.set_cons_succ]
  refine takeS_on (i := 6) 13 (v := ?v16) rfl rfl (by kernel_rfl) (by kernel_rfl) (by kernel_rfl) (fun _ _ _ h => h) (by kernel_rfl) ?hy16 (by exact hS0) ?_
  case hy16 => (intro w' hSw; go_simp; try (with_reducible rfl))
  simp only [Act.put, List.setIfInBounds_toArray, List.set_cons_zero, List.set_cons_succ]
  refine takeS_on (i := 7) 14 (v := ?v17) rfl rfl (by kernel_rfl) (by kernel_rfl) (by kernel_rfl) (fun _ _ _ h => h) (by kernel_rfl) ?hy17 (by exact hS0) ?_
  case hy17 => (intro w' hSw; go_simp; try (with_reducible rfl))
  simp only [Act.put, List.setIfInBounds_toArray, List.set_cons_zero, List.set_cons_succ]
  refine takeS_on (i := 8) 15 (v := ?v18) rfl rfl (by kernel_rfl) (by kernel_rfl) (by kernel_rfl) (fun _ _ _ h => h) (by kernel_rfl) ?hy18 (by exact hS0) ?_
  case hy18 => (intro w' hSw; go_simp; try (with_reducible rfl))
  simp only [Act.put, List.setIfInBounds_toArray, List.set_cons_zero, List.set_cons_succ]
  refine takeS_on (i := 9) 16 (v := ?v19) rfl rfl (by kernel_rfl) (by kernel_rfl) (by kernel_rfl) (fun _ _ _ h => h) (by kernel_rfl) ?hy19 (by exact hS0) ?_
  case hy19 => (intro w' hSw; go_simp; try (with_reducible rfl))
  simp only [Act.put, List.setIfInBounds_toArray, List.set_cons_zero, List.set_cons_succ]
  refine takeS_on (i := 10) 17 (v := ?v20) rfl rfl (by kernel_rfl) (by kernel_rfl) (by kernel_rfl) (fun _ _ _ h => h) (by kernel_rfl) ?hy20 (by exact hS0) ?_
  case hy20 => (intro w' hSw; go_simp; try (with_reducible rfl))
  simp only [Act.put, List.setIfInBounds_toArray, List.set_cons_zero, List.set_cons_succ]
  refine takeS_on (i := 11) 18 (v := ?v21) rfl rfl (by kernel_rfl) (by kernel_rfl) (by kernel_rfl) (fun _ _ _ h => h) (by kernel_rfl) ?hy21 (by exact hS0) ?_
  case hy21 => (intro w' hSw; go_simp; try (with_reducible rfl))
  simp only [Act.put, List.setIfInBounds_toArray, List.set_cons_zero, List.set_cons_succ]
  refine takeS_on (i := 12) 19 (v := ?v22) rfl rfl (by kernel_rfl) (by kernel_rfl) (by kernel_rfl) (fun _ _ _ h => h) (by kernel_rfl) ?hy22 (by exact hS0) ?_
  case hy22 => (intro w' hSw; go_simp; try (with_reducible rfl))
  simp only [Act.put, List.setIfInBounds_toArray, List.set_cons_zero, List.set_cons_succ]
  refine takeS_on (i := 13) 20 (v := ?v23) rfl rfl (by kernel_rfl) (by kernel_rfl) (by kernel_rfl) (fun _ _ _ h => h) (by kernel_rfl) ?hy23 (by exact hS0) ?_
  case hy23 => (intro w' hSw; go_simp; try (with_reducible rfl))
  simp only [Act.put, List.setIfInBounds_toArray, List.set_cons_zero, List.set_cons_succ]
  refine takeS_on (i := 14) 21 (v := ?v24) rfl rfl (by kernel_rfl) (by kernel_rfl) (by kernel_rfl) (fun _ _ _ h => h) (by kernel_rfl) ?hy24 (by exact hS0) ?_
  case hy24 => (intro w' hSw; go_simp; try (with_reducible rfl))
  simp only [Act.put, List.setIfInBounds_toArray, List.set_cons_zero, List.set_cons_succ]
  refine takeS_on (i := 15) 22 (v := ?v25) rfl rfl (by kernel_rfl) (by kernel_rfl) (by kernel_rfl) (fun _ _ _ h => h) (by kernel_rfl) ?hy25 (by exact hS0) ?_
  case hy25 => (intro w' hSw; go_simp; try (with_reducible rfl))
  simp only [Act.put, List.setIfInBounds_toArray, List.set_cons_zero, List.set_cons_succ]
  refine wpAnyH_ready (rs := [16]) (by kernel_rfl) (by simp) (AllReadyH.cons rfl (fun K hK => ?_) AllReadyH.nil)
  go_simp
  refine (comp_any x y _).mono ?_
  rintro e v16 ⟨rfl, g16⟩
  have G16 : Ch NoB w v16 := ((Ch.refl NoB w).drew).trans' g16
  have hS1 : (v16.cell? ⟨b, 0, none⟩ = some (.slice (some ⟨g, 0, none⟩) n cap) ∧ v16.cell? ⟨g, i * 3, none⟩ = some (.int .u64 x.w) ∧ v16.cell? ⟨g, i * 3 + 1, none⟩ = some (.int .i64 x.n) ∧ v16.cell? ⟨g, j * 3, none⟩ = some (.int .u64 y.w) ∧ v16.cell? ⟨g, j * 3 + 1, none⟩ = some (.int .i64 y.n)) := ⟨(G16.cell bl (noB _)).trans hS0.1, (G16.cell gl (noB _)).trans hS0.2.1, (G16.cell gl (noB _)).trans hS0.2.2.1, (G16.cell gl (noB _)).trans hS0.2.2.2.1, (G16.cell gl (noB _)).trans hS0.2.2.2.2⟩
  have HG := hid G16
  clear g16 G16
  refine hK.out _ _ (by exact hS1) (fun _ => ?_)
  clear hK K
  refine takeS_on (i := 17) 24 (v := ?v26) rfl rfl (by kernel_rfl) (by kernel_rfl) (by kernel_rfl) (fun _ _ _ h => h) (by kernel_rfl) ?hy26 (by exact hS1) ?_
  case hy26 => (intro w' hSw; go_simp; try (with_reducible rfl))
  simp only [Act.put, List.setIfInBounds_toArray, List.set_cons_zero, List.set_cons_succ]
  refine takeS_on (i := 18) 6 (v := ?v27) rfl rfl (by kernel_rfl) (by kernel_rfl) (by kernel_rfl) (fun _ _ _ h => h) (by kernel_rfl) ?hy27 (by exact hS1) ?_
  case hy27 => (intro w' hSw; go_simp; try (with_reducible rfl))
  simp only [Act.put, List.setIfInBounds_toArray, List.set_cons_zero, List.set_cons_succ]
  refine wpAnyH_done (by kernel_rfl) ?_ _
  go_wp2
  go_ret
  exact ⟨by rw [← hl]; rfl, HG.out⟩
end Go.Proofs.Ytgkapopkjgljjaa.Hp
