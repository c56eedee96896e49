/-
  What New of a slab answers, and the document's. No conditions.
-/
import Derived.Test.YtfbkifkfhgkdbabSbSame
namespace Go.Proofs.Ytfbkifkfhgkdbab.Sb
open Go.RowKit
open Classical
attribute [local go_sem ↓] Go.wp_at_zero Go.wp_at_succ

/-- there may be so many -/
def Sized (l p : Int) : Prop := (1 ≤ l ∧ l ≤ 4096) ∧ 1 ≤ p ∧ p ≤ 64

theorem sized_any (l p : Int) (w : World) : Calls Try.prog 24 #[.int .i64 l, .int .i64 p] w fun e w' => e = .returned (.bool (decide (Sized l p))) ∧ ∃ m, w' = w.drewN m := by
  by_cases h1 : 1 ≤ l
  · have d1 : decide (1 ≤ l) = true := decide_eq_true h1
    by_cases h2 : l ≤ 4096
    · have d2 : decide (l ≤ 4096) = true := decide_eq_true h2
      by_cases h3 : 1 ≤ p
      · have d3 : decide (1 ≤ p) = true := decide_eq_true h3
        by_cases h4 : p ≤ 64
        · have d4 : decide (p ≤ 64) = true := decide_eq_true h4
          have HE := hid (show decide (Sized l p) = true from decide_eq_true ⟨⟨h1, h2⟩, h3, h4⟩)
          go_enter Try.func24, Try.ntmps24
          go_wp2
          go_ret
          exact ⟨by rw [HE.out]; rfl, 0, rfl⟩
        · have d4 : decide (p ≤ 64) = false := decide_eq_false h4
          have HE := hid (show decide (Sized l p) = false from decide_eq_false (fun h => h4 h.2.2))
          go_enter Try.func24, Try.ntmps24
          go_wp2
          go_ret
          exact ⟨by rw [HE.out]; rfl, 0, rfl⟩
      · have d3 : decide (1 ≤ p) = false := decide_eq_false h3
        have HE := hid (show decide (Sized l p) = false from decide_eq_false (fun h => h3 h.2.1))
        go_enter Try.func24, Try.ntmps24
        go_wp2
        go_ret
        exact ⟨by rw [HE.out]; rfl, 0, rfl⟩
    · have d2 : decide (l ≤ 4096) = false := decide_eq_false h2
      have HE := hid (show decide (Sized l p) = false from decide_eq_false (fun h => h2 h.1.2))
      go_enter Try.func24, Try.ntmps24
      go_wp2
      go_ret
      exact ⟨by rw [HE.out]; rfl, 0, rfl⟩
  · have d1 : decide (1 ≤ l) = false := decide_eq_false h1
    have HE := hid (show decide (Sized l p) = false from decide_eq_false (fun h => h1 h.1.1))
    go_enter Try.func24, Try.ntmps24
    go_wp2
    go_ret
    exact ⟨by rw [HE.out]; rfl, 0, rfl⟩

/-- the lists of a new slab -/
def newSl (n : Nat) : Sl := ⟨[], [], List.replicate n [], []⟩
theorem newSl_fits {n : Nat} (h : n ≤ 4294967296) : (newSl n).Fits where
  g := by simp [newSl]
  a := by simp [newSl]
  c := by simpa [newSl] using h
  f := by simp [newSl]
  e := fun i l hl => by
    simp only [newSl, List.getElem?_replicate] at hl
    split at hl
    · injection hl with hl; subst hl; simp
    · cases hl
theorem nils_get {n i : Nat} {u : Value} (h : (List.replicate n (.slice none 0 0 : Value))[i]? = some u) : u = .slice none 0 0 := by
  rw [List.getElem?_replicate] at h
  split at h
  · injection h with h; exact h.symm
  · cases h
theorem nils_get' {n i : Nat} {c : List Int} (h : (List.replicate n ([] : List Int))[i]? = some c) : c = [] := by
  rw [List.getElem?_replicate] at h
  split at h
  · injection h with h; exact h.symm
  · cases h
/-- a state whose lists are all empty -/
theorem St.nils {base n : Nat} {w : World} {vc : Value} (h : Ow 41 base w vc (List.replicate n (.slice none 0 0))) : St base w (.slice none 0 0) (.slice none 0 0) vc (.slice none 0 0) (List.replicate n (.slice none 0 0)) (newSl n) where
  g := Ow.nil _ _ _
  a := Ow.nil _ _ _
  c := h
  f := Ow.nil _ _ _
  cl := by simp [newSl]
  e := fun i u c hu hc => by rw [nils_get hu, nils_get' hc]; exact Ow.nil _ _ _
  ga := Dj.nil _
  gc := Dj.nil' _
  gf := Dj.nil _
  ac := Dj.nil' _
  af := Dj.nil _
  cf := Dj.nil _
  eg := fun _ _ _ => Dj.nil _
  ea := fun _ _ _ => Dj.nil _
  ec := fun i u hu => by rw [nils_get hu]; exact Dj.nil' _
  ef := fun _ _ _ => Dj.nil _
  ee := fun i j u v _ hu _ => by rw [nils_get hu]; exact Dj.nil' _
theorem SB.nils {n q : Nat} {vc : Value} (h : SB (.slice none 0 0) (.slice none 0 0) vc (.slice none 0 0) (List.replicate n (.slice none 0 0)) q) : Blk vc q := by
  rcases h with h | h | h | h | ⟨u, hu, h⟩
  · cases h
  · cases h
  · exact h
  · cases h
  · rw [List.eq_of_mem_replicate hu] at h
    cases h

theorem new_bad (l p : Int) (w : World) (h : ¬ Sized l p) : Calls Try.prog 8 #[.int .i64 l, .int .i64 p] w fun e w' => e = .returned (.tuple #[.pointer none, .int .i64 1]) ∧ Ch NoB w w' := by
  have hd := decide_eq_false h
  go_enter Try.func8, Try.ntmps8
  go_wp2_with fail
  refine (sized_any l p _).mono ?_
  rw [hd]
  rintro e w1 ⟨rfl, m, rfl⟩
  go_wp2
  refine bodyPost_ret (v := .tuple #[.pointer none, .int .i64 1]) (by simp [results, Try.results8, go_sem]) rfl ⟨rfl, ?_⟩
  exact (Ch.refl _ _).drewN _

set_option maxHeartbeats 1000000 in
theorem new_good (l : Int) (n : Nat) (w : World) (h : Sized l n) : Calls Try.prog 8 #[.int .i64 l, .int .i64 (n : Int)] w fun e w' => ∃ b, e = .returned (.tuple #[.pointer (some ⟨b, 0, none⟩), .int .i64 0]) ∧ w.heap.size ≤ b ∧ SlabAt w.heap.size w' b l (newSl n) ∧ Ch NoB w w' := by
  have hd := decide_eq_true h
  have hn : n ≤ 64 := by have := h.2.2; omega
  have HS := hid h
  clear h
  obtain ⟨i0, hi, hz0, hz1, hz2⟩ := info_parts1 ints_info
  go_enter Try.func8, Try.ntmps8
  go_wp2_with fail
  refine (sized_any l n _).mono ?_
  rw [hd]
  rintro e w1 ⟨rfl, m, rfl⟩
  go_wp2_with (first | (at_make; refine wpList_make_full _ rfl _ _ 43 rfl w.heap.size 41 i0 _ 1 Try.underlying43 hi hz0 hz1 _ _ _ _ n rfl rfl (by omega) (by omega) (by rw [hz2]; omega) (by unfold maxLen; omega) (by simp) ?_; intro w1 hown hgrow))
  have ho : Ow 41 w.heap.size w1 (.slice (some ⟨w.heap.size, 0, none⟩) n n) (List.replicate n (.slice none 0 0)) := by
    have h2 := toList_madeCells_one (.slice none 0 0) n
    rw [Nat.mul_one] at hown
    unfold Ow
    rw [List.length_replicate, ← h2]
    exact hown
  have hg : Ch NoB w w1 := ((Ch.refl NoB w).drewN m).grown hgrow (fun k hk => by cases hk)
  have hs := hg.size
  refine bodyPost_ret (v := .tuple #[.pointer (some ⟨w1.heap.size, 0, none⟩), .int .i64 0]) (by simp [results, Try.results8, go_sem]) rfl ⟨_, rfl, hs, ⟨_, _, _, _, _, Fv.new _ _ _ _ _ _ _, St.nils (ho.alloc _), fun e => ?_⟩, hg.alloc _⟩
  have := (ho.blk (SB.nils e)).2
  omega

theorem ls_one (w : World) (u : Value) (t : Nat) : Ls (· = w.heap.size) (w.alloc (.cells #[u] t)) (.slice (some ⟨w.heap.size, 0, none⟩) 1 1) [u] := by
  refine ⟨_, 1, rfl, ⟨by simp, fun h => by cases h⟩, .inr ⟨w.heap.size, 0, rfl, rfl, by simp, ?_⟩⟩
  intro i y hy
  cases i with
  | zero =>
    simp only [List.getElem?_cons_zero, Option.some.injEq] at hy
    subst hy
    exact (cell_of (MapKept.heap_alloc w _).1 0).trans rfl
  | succ i => simp at hy

set_option maxHeartbeats 1000000 in
theorem rnew_bad (l p : Int) (w : World) (h : ¬ Sized l p) : Calls Try.prog 35 #[.int .i64 l, .int .i64 p] w fun e w' => e = .returned (.tuple #[.agg #[.int .i64 0, .slice none 0 0, .slice none 0 0, .slice none 0 0, .slice none 0 0], .int .i64 1]) ∧ Ch NoB w w' := by
  by_cases h1 : l < 1
  · have d1 : decide (l < 1) = true := decide_eq_true h1
    clear h
    go_enter Try.func35, Try.ntmps35
    go_wp2
    refine bodyPost_ret (v := .tuple #[.agg #[.int .i64 0, .slice none 0 0, .slice none 0 0, .slice none 0 0, .slice none 0 0], .int .i64 1]) (by simp [results, Try.results35, go_sem]) rfl ⟨rfl, ?_⟩
    exact (Ch.refl _ _).alloc _
  · have d1 : decide (l < 1) = false := decide_eq_false h1
    by_cases h2 : 4096 < l
    · have d2 : decide (4096 < l) = true := decide_eq_true h2
      clear h
      go_enter Try.func35, Try.ntmps35
      go_wp2
      refine bodyPost_ret (v := .tuple #[.agg #[.int .i64 0, .slice none 0 0, .slice none 0 0, .slice none 0 0, .slice none 0 0], .int .i64 1]) (by simp [results, Try.results35, go_sem]) rfl ⟨rfl, ?_⟩
      exact (Ch.refl _ _).alloc _
    · have d2 : decide (4096 < l) = false := decide_eq_false h2
      by_cases h3 : p < 1
      · have d3 : decide (p < 1) = true := decide_eq_true h3
        clear h
        go_enter Try.func35, Try.ntmps35
        go_wp2
        refine bodyPost_ret (v := .tuple #[.agg #[.int .i64 0, .slice none 0 0, .slice none 0 0, .slice none 0 0, .slice none 0 0], .int .i64 1]) (by simp [results, Try.results35, go_sem]) rfl ⟨rfl, ?_⟩
        exact (Ch.refl _ _).alloc _
      · have d3 : decide (p < 1) = false := decide_eq_false h3
        by_cases h4 : 64 < p
        · have d4 : decide (64 < p) = true := decide_eq_true h4
          clear h
          go_enter Try.func35, Try.ntmps35
          go_wp2
          refine bodyPost_ret (v := .tuple #[.agg #[.int .i64 0, .slice none 0 0, .slice none 0 0, .slice none 0 0, .slice none 0 0], .int .i64 1]) (by simp [results, Try.results35, go_sem]) rfl ⟨rfl, ?_⟩
          exact (Ch.refl _ _).alloc _
        · exact absurd ⟨⟨by omega, by omega⟩, by omega, by omega⟩ h
end Go.Proofs.Ytfbkifkfhgkdbab.Sb
