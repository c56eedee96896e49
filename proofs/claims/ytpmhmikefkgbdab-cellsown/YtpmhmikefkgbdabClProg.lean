/-
  What the program's New, Len, Values, Load, Store, Swap and Add answer, and leave. Conditions: the cells lie where New left them.
-/
import Derived.Test.YtpmhmikefkgbdabClBase
namespace Go.Proofs.Ytpmhmikefkgbdab.Lt
open Go.RowKit Wd
attribute [local go_sem ↓] Go.wp_at_zero Go.wp_at_succ

theorem new_bad (n : Int) (w : World) (h : ¬ (0 ≤ n ∧ n ≤ 256)) : Calls Try.prog 6 #[.int .i64 n] w fun e w' => e = .returned (.tuple #[.pointer none, .int .i64 1]) ∧ Gr w w' := by
  by_cases h1 : n < 0
  · have d1 : decide (n < 0) = true := decide_eq_true h1
    clear h
    go_enter Try.func6, Try.ntmps6
    go_wp2
    exact bodyPost_ret (v := .tuple #[.pointer none, .int .i64 1]) (by simp [results, Try.results6, go_sem]) rfl ⟨rfl, Gr.refl _⟩
  · have d1 : decide (n < 0) = false := decide_eq_false h1
    have h2 : 256 < n := by omega
    have d2 : decide (256 < n) = true := decide_eq_true h2
    clear h
    go_enter Try.func6, Try.ntmps6
    go_wp2
    exact bodyPost_ret (v := .tuple #[.pointer none, .int .i64 1]) (by simp [results, Try.results6, go_sem]) rfl ⟨rfl, Gr.refl _⟩
/-- what New leaves -/
def NewR (w : World) (n : Nat) (e : Ending) (w' : World) : Prop := ∃ b v, e = .returned (.tuple #[.pointer (some ⟨b, 0, none⟩), .int .i64 0]) ∧ w.heap.size ≤ b ∧ CAt w.heap.size w' b v (List.replicate n 0) ∧ Gr w w'
theorem zeros_cells (n : Nat) : (List.replicate n (0 : Int)).flatMap eI = List.replicate n (.int .i64 0) := by
  induction n with
  | zero => rfl
  | succ n ih => rw [List.replicate_succ, List.flatMap_cons, ih]; rfl
set_option maxHeartbeats 1000000 in
theorem new_good (n : Nat) (w : World) (h : n ≤ 256) : Calls Try.prog 6 #[.int .i64 (n : Int)] w (NewR w n) := by
  have d1 : decide ((n : Int) < 0) = false := decide_eq_false (by omega)
  have d2 : decide ((256 : Int) < (n : Int)) = false := decide_eq_false (by omega)
  obtain ⟨i0, hi, hz0, hz1, hz2⟩ := info_parts i64_info
  go_enter Try.func6, Try.ntmps6
  go_wp2_with (first | (at_make; refine wpList_make_full _ rfl _ _ 22 rfl w.heap.size 2 i0 _ 1 Try.underlying22 hi hz0 hz1 _ _ _ _ n rfl rfl (by omega) (by omega) (by rw [hz2]; omega) (by unfold maxLen; omega) (by simp) ?_; intro w1 hown hgrow))
  have ho : Ow eI 1 2 w.heap.size w1 (.slice (some ⟨w.heap.size, 0, none⟩) n n) (List.replicate n 0) := by
    have h2 := toList_madeCells_one (.int .i64 0) n
    rw [Nat.mul_one] at hown
    unfold Ow
    rw [List.length_replicate, zeros_cells, ← h2]
    exact hown
  have hg : Gr w w1 := (Ch.refl NoB w).grown hgrow (fun k hk => by cases hk)
  have hs := hg.size
  have hb := ho.blk (q := w.heap.size) rfl
  refine bodyPost_ret (v := .tuple #[.pointer (some ⟨w1.heap.size, 0, none⟩), .int .i64 0]) (by simp [results, Try.results6, go_sem]) rfl ⟨_, _, rfl, hs, ⟨(MapKept.heap_alloc w1 _).1, ho.alloc _, fun e => ?_⟩, hg.alloc _ _⟩
  have := (ho.blk e).2
  omega
theorem len_any (base : Nat) (w : World) (b : Nat) (v : Value) (vs : List Int) (h : CAt base w b v vs) : Calls Try.prog 12 #[.pointer (some ⟨b, 0, none⟩)] w fun e w' => e = .returned (.int .i64 (vs.length : Nat)) ∧ Gr w w' := by
  obtain ⟨ao, cap, rfl⟩ := h.vo.form
  have c1 := cell_of h.bk 1
  simp at c1
  generalize vs.length = n at c1 ⊢
  clear h
  go_enter Try.func12, Try.ntmps12
  go_wp2
  go_ret
  exact ⟨rfl, Gr.refl _⟩
theorem values_any (base : Nat) (w : World) (b : Nat) (v : Value) (vs : List Int) (h : CAt base w b v vs) (hl : vs.length ≤ 17592186044416) : Calls Try.prog 13 #[.pointer (some ⟨b, 0, none⟩)] w fun e w' => ∃ v', e = .returned v' ∧ Ow eI 1 2 w.heap.size w' v' vs ∧ Gr w w' := by
  have c1 := cell_of h.bk 1
  simp at c1
  have H := hid h.vo.lst
  have HL := hid hl
  clear h hl
  go_enter Try.func13, Try.ntmps13
  go_wp2_with fail
  refine (clone_any _ _ vs _ H.out HL.out).mono ?_
  rintro e w1 ⟨v', rfl, h1, g1⟩
  obtain ⟨ao, cap, rfl⟩ := h1.form
  have H1 := hid h1
  have G1 := hid g1
  clear h1 g1
  generalize hn : vs.length = n at H1 ⊢
  have HN := hid hn
  clear hn
  go_wp2
  go_ret
  exact ⟨_, rfl, H1.out, G1.out⟩
theorem isplace_any (i : Int) (ao : Option Addr) (n cap : Nat) (w : World) : Calls Try.prog 30 #[.int .i64 i, .slice ao n cap] w fun e w' => e = .returned (.bool (isP i n)) ∧ w' = w := by
  unfold isP
  by_cases h0 : 0 ≤ i
  · have d0 : decide (0 ≤ i) = true := decide_eq_true h0
    by_cases h1 : i < (n : Int)
    · have d1 : decide (i < (n : Int)) = true := decide_eq_true h1
      rw [decide_eq_true (show 0 ≤ i ∧ i < (n : Int) from ⟨h0, h1⟩)]
      go_enter Try.func30, Try.ntmps30
      go_wp2
      go_ret
      exact ⟨rfl, rfl⟩
    · have d1 : decide (i < (n : Int)) = false := decide_eq_false h1
      rw [decide_eq_false (show ¬ (0 ≤ i ∧ i < (n : Int)) from fun q => h1 q.2)]
      go_enter Try.func30, Try.ntmps30
      go_wp2
      go_ret
      exact ⟨rfl, rfl⟩
  · have d0 : decide (0 ≤ i) = false := decide_eq_false h0
    rw [decide_eq_false (show ¬ (0 ≤ i ∧ i < (n : Int)) from fun q => h0 q.1)]
    go_enter Try.func30, Try.ntmps30
    go_wp2
    go_ret
    exact ⟨rfl, rfl⟩
def Z5 (k c b a : Int) (x : Bool) : Array Value := #[.int .i64 c, .int .i64 k, .int .i64 b, .int .i64 a, .bool x]
/-- what an access leaves -/
def AcR (base : Nat) (w : World) (b : Nat) (v : Value) (vs : List Int) (o : O4) (e : Ending) (w' : World) : Prop :=
  e = .returned (.tuple #[(told o vs).val, .int .i64 (terr o vs)]) ∧ CAt base w' b v (left o vs) ∧ Ch (Blk v) w w'
theorem AcR.none {base : Nat} {w w' : World} {b : Nat} {v : Value} {vs : List Int} {o : O4} (h : CAt base w b v vs) (hp : isP o.c vs.length = false) (g : Gr w w') : AcR base w b v vs o (.returned (.tuple #[.agg #[.int .i64 0, .int .i64 0, .int .i64 0, .int .i64 0, .bool false], .int .i64 100])) w' := by
  refine ⟨by simp [told, terr, hp, Ac.val, Ac.nil], ?_, g.any⟩
  simp only [left, hp]
  exact h.gr g
theorem AcR.read {base : Nat} {w w' : World} {b : Nat} {v : Value} {vs : List Int} {o : O4} (h : CAt base w b v vs) (hp : isP o.c vs.length = true) {A : Int} (hA : putOf o (inC vs o.c) = (A, false)) (g : Gr w w') : AcR base w b v vs o (.returned (.tuple #[.agg #[.int .i64 o.c, .int .i64 o.k, .int .i64 (inC vs o.c), .int .i64 A, .bool false], .int .i64 0])) w' := by
  refine ⟨by simp [told, terr, hp, Ac.val, hA], ?_, g.any⟩
  simp only [left, hp, hA]
  exact h.gr g
theorem CAt.put {base : Nat} {w : World} {b : Nat} {v : Value} {vs : List Int} (h : CAt base w b v vs) {j : Nat} (hj : j < vs.length) (A : Int) : ∃ g cap, v = .slice (some ⟨g, 0, none⟩) vs.length cap ∧ g < w.heap.size ∧ w.cell? ⟨g, j, none⟩ = some (.int .i64 (inC vs j)) ∧ w.frozen? ⟨g, j, none⟩ = false ∧ CAt base (w.setCell ⟨g, j, none⟩ (.int .i64 A)) b v (vs.set j A) ∧ Ch (Blk v) w (w.setCell ⟨g, j, none⟩ (.int .i64 A)) := by
  have hx : vs[j]? = some (inC vs j) := by
    have : inC vs (j : Int) = vs[j] := by unfold inC; rw [Int.toNat_natCast, List.getD_eq_getElem?_getD, List.getElem?_eq_getElem hj]; rfl
    rw [this]
    exact List.getElem?_eq_getElem hj
  obtain ⟨g, cap, e, h1, h2, h3, h4, h5, h6⟩ := h.vo.get eI_len hx
  have h4' := h4 0 _ rfl
  have h6' := h6 0 (.int .i64 A) A (by omega) rfl
  simp only [Nat.mul_one, Nat.add_zero] at h4' h6'
  have hb : ¬ g = b := fun q => h.av (by rw [e, ← q]; rfl)
  have hc : Ch (Blk v) w (w.setCell ⟨g, j, none⟩ (.int .i64 A)) := (Ch.refl _ w).setCell (p := ⟨g, j, none⟩) (.inl (by rw [e]; rfl)) _
  exact ⟨g, cap, e, h2, h4', h5 j, ⟨(hc.block b (lt_of_block h.bk) h.av).trans h.bk, h6', h.av⟩, hc⟩
theorem AcR.wrote {base : Nat} {w w' : World} {b : Nat} {v : Value} {vs : List Int} {o : O4} {j : Nat} (hj : o.c = (j : Nat)) (hp : isP o.c vs.length = true) {A : Int} (hA : putOf o (inC vs o.c) = (A, true)) (h : CAt base w' b v (vs.set j A)) (g : Ch (Blk v) w w') : AcR base w b v vs o (.returned (.tuple #[.agg #[.int .i64 o.c, .int .i64 o.k, .int .i64 (inC vs o.c), .int .i64 A, .bool true], .int .i64 0])) w' := by
  refine ⟨by simp [told, terr, hp, Ac.val, hA], ?_, g⟩
  simp only [left, hp, hA]
  rw [hj]
  exact h
end Go.Proofs.Ytpmhmikefkgbdab.Lt
