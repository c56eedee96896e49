/-
  A list of truths that a call makes: which numbers are in a set. No conditions.
-/
import Derived.Test.YtcoaefojamhloaaPyBase
namespace Go.Proofs.Ytcoaefojamhloaa.Lt
open Go.RowKit Wd

def eB (b : Bool) : List Value := [.bool b]
theorem eB_len (b : Bool) : (eB b).length = 1 := rfl
theorem bool_info : (Try.prog.info? 4).map (fun i => (i.zero, i.size, i.bytes)) = some (some (.bool false), 1, 1) := by kernel_rfl
theorem flat_eB (n : Nat) (b : Bool) : (List.replicate n b).flatMap eB = List.replicate n (.bool b) := by
  induction n with
  | zero => rfl
  | succ n ih => rw [List.replicate_succ, List.flatMap_cons, ih, List.replicate_succ]; rfl
theorem wpList_make_bools {w : World} {ops : Array Oper} {rest : List Oper} {o : Oper} {a : Act} {Q : Exit → Act → World → Prop} (hg : o.guard = none) (l c : Operand) (hop : o.op = Op.makeSlice 44 l c) (n : Nat) (kl kc : IntKind) (hl : a.eval l = .int kl (n : Int)) (hc : a.eval c = .int kc (n : Int)) (hn : n ≤ 4096)
    (hK : ∀ w', Ow eB 1 4 w.heap.size w' (.slice (some ⟨w.heap.size, 0, none⟩) n n) (List.replicate n false) → Gr w w' → wpList Try.prog ops Q rest (a.put o.dst (.slice (some ⟨w.heap.size, 0, none⟩) n n)) w') : wpList Try.prog ops Q (o :: rest) a w := by
  obtain ⟨i0, hi, hz0, hz1, hz2⟩ := info_parts bool_info
  refine wpList_make_full w hg l c 44 hop w.heap.size 4 i0 _ 1 Try.underlying44 hi hz0 hz1 kl kc _ _ n hl hc rfl rfl (by rw [hz2]; omega) (by unfold maxLen; omega) (Nat.le_refl _) ?_
  intro w' r1 r2
  refine hK w' ?_ ((Ch.refl NoB w).grown r2 (fun k hk => by cases hk))
  have h2 := toList_madeCells_one (.bool false) n
  unfold Ow
  rw [flat_eB, List.length_replicate, ← h2]
  rw [Nat.mul_one] at r1
  exact r1
/-- truths in a block: what is read, that it may be written, what is there then -/
theorem Ow.bit {base g n cap : Nat} {w : World} {bs : List Bool} (h : Ow eB 1 4 base w (.slice (some ⟨g, 0, none⟩) n cap) bs) {i : Nat} {b : Bool} (hb : bs[i]? = some b) :
    w.cell? ⟨g, i, none⟩ = some (.bool b) ∧ w.frozen? ⟨g, i, none⟩ = false ∧ g < w.heap.size ∧ ∀ c, Ow eB 1 4 base (w.setCell ⟨g, i, none⟩ (.bool c)) (.slice (some ⟨g, 0, none⟩) n cap) (bs.set i c) := by
  obtain ⟨g', cap', hv, h1, h2, h3, h4, h5, h6⟩ := h.get eB_len hb
  injection hv with a1 a2 a3
  injection a1 with a1
  injection a1 with a1
  subst a1
  have c0 := h4 0 _ rfl
  rw [Nat.mul_one, Nat.add_zero] at c0
  refine ⟨c0, h5 _, h2, fun c => ?_⟩
  have := h6 0 (.bool c) c (by omega) rfl
  rw [Nat.mul_one, Nat.add_zero] at this
  exact this
/-- the truths of a set -/
def bl (n : Nat) (s : St) : List Bool := (List.range n).map s
theorem bl_len (n : Nat) (s : St) : (bl n s).length = n := by simp [bl]
theorem bl_get {n i : Nat} (s : St) (h : i < n) : (bl n s)[i]? = some (s i) := by
  unfold bl
  rw [List.getElem?_map, List.getElem?_range h]
  rfl
theorem bl_set {n k : Nat} {s : St} (h : k < n) : (bl n s).set k true = bl n (upS s k) := by
  refine List.ext_getElem? fun i => ?_
  by_cases hi : i < n
  · rw [bl_get _ hi, List.getElem?_set]
    by_cases e : k = i
    · subst e
      rw [if_pos rfl, if_pos (by rw [bl_len]; exact h)]
      simp [upS]
    · rw [if_neg e, bl_get _ hi]
      have : i ≠ k := fun q => e q.symm
      simp [upS, this]
  · rw [List.getElem?_eq_none (by rw [List.length_set, bl_len]; omega), List.getElem?_eq_none (by rw [bl_len]; omega)]
theorem bl_zero (n : Nat) : List.replicate n false = bl n (fun _ => false) := by
  refine List.ext_getElem? fun i => ?_
  by_cases hi : i < n
  · rw [bl_get _ hi, List.getElem?_replicate, if_pos hi]
  · rw [List.getElem?_eq_none (by simpa using hi), List.getElem?_eq_none (by rw [bl_len]; omega)]
theorem upS_zero (k : Nat) : upS (fun _ => false) k = sgl k := by
  funext i
  simp [upS, sgl]
/-- a set in a block of the call's own -/
def Bs (base : Nat) (w : World) (g n : Nat) (s : St) : Prop := Ow eB 1 4 base w (.slice (some ⟨g, 0, none⟩) n n) (bl n s)
theorem Bs.gr {base g n : Nat} {w w' : World} {s : St} (h : Bs base w g n s) (k : Gr w w') : Bs base w' g n s := Ow.gr h k
theorem Bs.bit {base g n : Nat} {w : World} {s : St} (h : Bs base w g n s) {i : Nat} (hi : i < n) : w.cell? ⟨g, i, none⟩ = some (.bool (s i)) ∧ w.frozen? ⟨g, i, none⟩ = false ∧ g < w.heap.size ∧ Bs base (w.setCell ⟨g, i, none⟩ (.bool true)) g n (upS s i) := by
  obtain ⟨a, b, c, d⟩ := Ow.bit h (bl_get s hi)
  refine ⟨a, b, c, ?_⟩
  have := d true
  rw [bl_set hi] at this
  exact this
end Go.Proofs.Ytcoaefojamhloaa.Lt
