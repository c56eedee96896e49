/-
  Arrays of numbers that a call makes and owns: what is read, what is written; sums that wrap on the way. No conditions but those that each theorem names.
-/
import Derived.Test.YtbghagpjkkmhpabTbSupC
namespace Go.Proofs.Ytbghagpjkkmhpab.Lt
open Go.RowKit Wd

theorem flat_eU (n : Nat) (x : Int) : (List.replicate n x).flatMap eU = List.replicate n (.int .u64 x) := by
  induction n with
  | zero => rfl
  | succ n ih => rw [List.replicate_succ, List.flatMap_cons, ih, List.replicate_succ]; rfl
theorem make_u {w w' : World} {base n : Nat} (r1 : w'.ownsRow base 22 1 (.slice (some ⟨w.heap.size, 0, none⟩) n n) n (madeCells (Value.int .u64 0).cells (n * 1)).toList) : Ow eU 1 22 base w' (.slice (some ⟨w.heap.size, 0, none⟩) n n) (List.replicate n 0) := by
  have h2 := toList_madeCells_one (.int .u64 0) n
  unfold Ow
  rw [flat_eU, List.length_replicate, ← h2]
  rw [Nat.mul_one] at r1
  exact r1
/-- an array is made, at a step of a region that draws -/
theorem step_make_u {w : World} {ops : Array Oper} {o : Oper} {a : Act} {Kk : Act → World → Prop} {Q : Exit → Act → World → Prop} {E : Prop} (hgd : o.guard = none) (l c : Operand) (ho : o.op = .makeSlice 68 l c) (base n : Nat) (kl kc : IntKind) (hl : a.eval l = .int kl (n : Int)) (hc : a.eval c = .int kc (n : Int)) (hn : n ≤ 16777216) (hb : base ≤ w.heap.size)
    (h : ∀ g w', g = w.heap.size → Ow eU 1 22 base w' (.slice (some ⟨g, 0, none⟩) n n) (List.replicate n 0) → Gr w w' → Kk (a.put o.dst (.slice (some ⟨g, 0, none⟩) n n)) w') : if Region.wanted o (yielded ops a.tmps) = true then Oper.wp Try.prog o a w Kk Q else E := by
  have hw : Region.wanted o (yielded ops a.tmps) = true := by simp [Region.wanted, hgd]
  rw [if_pos hw]
  obtain ⟨i0, hi, hz0, hz1, hz2⟩ := info_parts u64_info
  obtain ⟨w', hrun, r1, r2⟩ := run_makeSlice_full (P := Try.prog) (w := w) base 68 22 i0 _ 1 Try.underlying68 hi hz0 hz1 kl kc n (by omega) (by rw [hz2]; omega) (by unfold maxLen; omega) hb
  unfold Oper.wp execOp
  simp only [ho, hl, hc, hrun, Sem.run_bind, Result.andThen_ok, Sem.run_pure]
  exact h _ w' rfl (make_u r1) ((Ch.refl NoB w).grown r2 (fun k hk => by cases hk))
/-- numbers in a block: what is read, that it may be written, what is there then -/
theorem Ow.num {base g n cap : Nat} {w : World} {xs : List Int} (h : Ow eU 1 22 base w (.slice (some ⟨g, 0, none⟩) n cap) xs) {i : Nat} {x : Int} (hx : xs[i]? = some x) :
    w.cell? ⟨g, i, none⟩ = some (.int .u64 x) ∧ w.frozen? ⟨g, i, none⟩ = false ∧ g < w.heap.size ∧ ∀ c, Ow eU 1 22 base (w.setCell ⟨g, i, none⟩ (.int .u64 c)) (.slice (some ⟨g, 0, none⟩) n cap) (xs.set i c) := by
  obtain ⟨g', cap', hv, h1, h2, h3, h4, h5, h6⟩ := h.get eU_len hx
  injection hv with a1 a2 a3
  injection a1 with a1
  injection a1 with a1
  subst a1
  have c0 := h4 0 _ rfl
  rw [Nat.mul_one, Nat.add_zero] at c0
  refine ⟨c0, h5 _, h2, fun c => ?_⟩
  have := h6 0 (.int .u64 c) c (by omega) rfl
  rw [Nat.mul_one, Nat.add_zero] at this
  exact this
theorem wrap_way {s c x : Int} (h0 : 0 ≤ s + (c - x)) (h1 : s + (c - x) ≤ 18446744073709551615) : IntKind.u64.wrap (s + IntKind.u64.wrap (c - x)) = s + (c - x) := by
  simp only [IntKind.wrap, IntKind.bits, IntKind.signed]
  simp
  omega
theorem fl_zero {n : Nat} {f : Int → Int} (h : ∀ i, f i = 0) : List.replicate n (0 : Int) = fl n f := by
  refine List.ext_getElem? fun i => ?_
  by_cases hi : i < n
  · rw [fl_get f hi, h, List.getElem?_replicate, if_pos hi]
  · rw [List.getElem?_eq_none (by simpa using hi), List.getElem?_eq_none (by rw [fl_len]; omega)]
/-- one number in a new block is a list that the call owns -/
theorem ow_one {base : Nat} {x : Int} (w : World) (xs : List Int) (hb : base ≤ w.heap.size) (hx : xs = [x]) : Ow eU 1 22 base (w.alloc (.cells #[.int .u64 x] 22)) (.slice (some ⟨w.heap.size, 0, none⟩) 1 1) xs := by
  subst hx
  exact ⟨rfl, .inr ⟨w.heap.size, 1, #[.int .u64 x], rfl, hb, (MapKept.heap_alloc w _).1, by simp, by simp [maxLen], by simp, by simp [eU]⟩⟩
end Go.Proofs.Ytbghagpjkkmhpab.Lt
