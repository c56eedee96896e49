/-
  A list of truths that a call makes, and what comeTo keeps of it beside its list. No conditions.
-/
import Derived.Test.YtollfepggicehabDoorPpSort
namespace Go.Proofs.YtollfepggicehabDoor.Lt
open Go.RowKit Wd

def eB (b : Bool) : List Value := [.bool b]
theorem eB_len (b : Bool) : (eB b).length = 1 := rfl
theorem bool_info : (Tryd.prog.info? 4).map (fun i => (i.zero, i.size, i.bytes)) = some (some (.bool false), 1, 1) := by kernel_rfl
theorem flat_eB (n : Nat) (b : Bool) : (List.replicate n b).flatMap eB = List.replicate n (.bool b) := by
  induction n with
  | zero => rfl
  | succ n ih => rw [List.replicate_succ, List.flatMap_cons, ih, List.replicate_succ]; rfl
theorem wpList_make_bools {w : World} {ops : Array Oper} {rest : List Oper} {o : Oper} {a : Act} {Q : Exit → Act → World → Prop} (hg : o.guard = none) (l c : Operand) (hop : o.op = Op.makeSlice 71 l c) (n : Nat) (kl kc : IntKind) (hl : a.eval l = .int kl (n : Int)) (hc : a.eval c = .int kc (n : Int)) (hn : n ≤ 4096)
    (hK : ∀ w', Ow eB 1 4 w.heap.size w' (.slice (some ⟨w.heap.size, 0, none⟩) n n) (List.replicate n false) → Gr w w' → wpList Tryd.prog ops Q rest (a.put o.dst (.slice (some ⟨w.heap.size, 0, none⟩) n n)) w') : wpList Tryd.prog ops Q (o :: rest) a w := by
  obtain ⟨i0, hi, hz0, hz1, hz2⟩ := info_parts bool_info
  refine wpList_make_full w hg l c 71 hop w.heap.size 4 i0 _ 1 Tryd.underlying71 hi hz0 hz1 kl kc _ _ n hl hc rfl rfl (by rw [hz2]; omega) (by unfold maxLen; omega) (Nat.le_refl _) ?_
  intro w' r1 r2
  refine hK w' ?_ ((Ch.refl NoB w).grown r2 (fun k hk => by cases hk))
  have h2 := toList_madeCells_one (.bool false) n
  unfold Ow
  rw [flat_eB, List.length_replicate, ← h2]
  rw [Nat.mul_one] at r1
  exact r1
/-- truths in a block: what is read, that it may be written, what is there then -/
theorem Ow.bit {base g n cap : Nat} {w : World} {bs : List Bool} (h : Ow eB 1 4 base w (.slice (some ⟨g, 0, none⟩) n cap) bs) {i : Nat} {b : Bool} (hb : bs[i]? = some b) :
    w.cell? ⟨g, i, none⟩ = some (.bool b) ∧ w.frozen? ⟨g, i, none⟩ = false ∧ g < w.heap.size ∧ ∀ c, Ow eB 1 4 base (w.setCell ⟨g, i, none⟩ (.bool c)) (.slice (some ⟨g, 0, none⟩) n cap) (bs.set i c) := by
  obtain ⟨g', cap', hv, h1, h2, h3, h4, h5, h6⟩ := h.get eB_len hb
  injection hv with a1 a2 a3
  injection a1 with a1
  injection a1 with a1
  subst a1
  have c0 := h4 0 _ rfl
  rw [Nat.mul_one, Nat.add_zero] at c0
  refine ⟨c0, h5 _, h2, fun c => ?_⟩
  have := h6 0 (.bool c) c (by omega) rfl
  rw [Nat.mul_one, Nat.add_zero] at this
  exact this
/-- what comeTo keeps: its list and its truths tell the same; what stands ahead of a place has its ways in the list -/
structure Cm (N : Nat) (wy : Int → List Int) (a : Int) (os : List Int) (bs : List Bool) (j : Nat) : Prop where
  len : bs.length = N
  cnt : os.length + fz bs = N
  mem : ∀ x, x ∈ os ↔ bt bs x
  nd : os.Nodup
  rc : ∀ x, x ∈ os → Rc wy a x
  a : a ∈ os
  cl : ∀ i, i < j → ∀ x, os[i]? = some x → ∀ y, y ∈ wy x → y ∈ os
theorem Cm.start {N : Nat} {wy : Int → List Int} {a : Nat} (ha : a < N) : Cm N wy (a : Int) [(a : Int)] ((List.replicate N false).set a true) 0 := by
  have h0 : (List.replicate N false)[a]? = some false := by rw [List.getElem?_replicate, if_pos ha]
  refine ⟨by simp, ?_, fun x => ?_, by simp, fun x hx => ?_, by simp, fun i hi => by omega⟩
  · have := fz_set _ a h0
    rw [fz_rep] at this
    simp
    omega
  · rw [bt_set _ _ (by simpa using ha)]
    simp only [List.mem_cons, List.not_mem_nil, or_false]
    exact ⟨fun q => .inl q, fun q => q.elim id (fun z => absurd z (bt_rep _ _))⟩
  · have : x = (a : Int) := by simpa using hx
    rw [this]
    exact Rc.self _ _
theorem Cm.le {N : Nat} {wy : Int → List Int} {a : Int} {os : List Int} {bs : List Bool} {j : Nat} (h : Cm N wy a os bs j) : os.length ≤ N := by have := h.cnt; omega
theorem Cm.lt {N : Nat} {wy : Int → List Int} {a : Int} {os : List Int} {bs : List Bool} {j : Nat} (h : Cm N wy a os bs j) {y : Nat} (hb : bs[y]? = some false) : os.length < N := by
  have := h.cnt
  have := fz_set _ _ hb
  omega
theorem Cm.add {N : Nat} {wy : Int → List Int} {a : Int} {os : List Int} {bs : List Bool} {j : Nat} (h : Cm N wy a os bs j) (hj : j ≤ os.length) {y : Nat} (hb : bs[y]? = some false) (hr : Rc wy a (y : Int)) : Cm N wy a (os ++ [(y : Int)]) (bs.set y true) j := by
  have hy : y < bs.length := (List.getElem?_eq_some_iff.1 hb).1
  have hn : (y : Int) ∉ os := fun q => by
    have := (h.mem _).1 q
    rw [bt_nat, hb] at this
    cases this
  refine ⟨by rw [List.length_set]; exact h.len, ?_, fun x => ?_, ?_, fun x hx => ?_, List.mem_append_left _ h.a, fun i hi x hx z hz => ?_⟩
  · have := fz_set _ _ hb
    have := h.cnt
    rw [List.length_append, List.length_singleton]
    omega
  · rw [bt_set _ _ hy, List.mem_append, h.mem]
    simp only [List.mem_cons, List.not_mem_nil, or_false]
    exact Or.comm
  · rw [List.nodup_append]
    exact ⟨h.nd, by simp, fun p hp q hq => by
      have e : q = (y : Int) := by simpa using hq
      rw [e]
      exact fun z => hn (z ▸ hp)⟩
  · rcases List.mem_append.1 hx with q | q
    · exact h.rc x q
    · have e : x = (y : Int) := by simpa using q
      rw [e]; exact hr
  · rw [List.getElem?_append_left (by omega)] at hx
    exact List.mem_append_left _ (h.cl i hi x hx z hz)
theorem Cm.next {N : Nat} {wy : Int → List Int} {a : Int} {os : List Int} {bs : List Bool} {j : Nat} (h : Cm N wy a os bs j) {x : Int} (hx : os[j]? = some x) (hy : ∀ y, y ∈ wy x → y ∈ os) : Cm N wy a os bs (j + 1) := by
  refine ⟨h.len, h.cnt, h.mem, h.nd, h.rc, h.a, fun i hi z hz y q => ?_⟩
  by_cases e : i = j
  · subst e
    rw [hx] at hz
    injection hz with hz
    subst hz
    exact hy y q
  · exact h.cl i (by omega) z hz y q
theorem Cm.done {N : Nat} {wy : Int → List Int} {a : Int} {os xs : List Int} {bs : List Bool} {j : Nat} (h : Cm N wy a os bs j) (hj : os.length ≤ j) (hx : Rl N wy a xs) : os.mergeSort (fun x y => decide (x ≤ y)) = xs := by
  refine hx.sorted h.nd (fun x => ⟨fun q => ⟨by have := bt_lt ((h.mem x).1 q); rw [h.len] at this; exact this, h.rc x q⟩, fun q => ?_⟩)
  refine q.2 (fun x => x ∈ os) h.a (fun z hz y hy => ?_)
  obtain ⟨i, hi⟩ := List.mem_iff_getElem?.1 hz
  exact h.cl i (by have := (List.getElem?_eq_some_iff.1 hi).1; omega) z hi y hy
/-- what is in reach of ways is below a number -/
def WyIn (N : Nat) (wy : Int → List Int) : Prop := ∀ x : Nat, x < N → ∀ y, y ∈ wy (x : Int) → 0 ≤ y ∧ y < (N : Int)
end Go.Proofs.YtollfepggicehabDoor.Lt
