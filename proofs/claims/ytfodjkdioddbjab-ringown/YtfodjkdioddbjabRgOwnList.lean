/-
  A list of those that wait that a call owns, and what is appended to it: where the new list lies. No conditions.
-/
import Derived.Test.YtfodjkdioddbjabRgKeep
import Derived.Test.YtfodjkdioddbjabRgOpsList
namespace Go.Proofs.Ytfodjkdioddbjab.Rg
open Go.RowKit

/-- a slice value that the call owns reads as a list; its block is none below base -/
def Own (base : Nat) (w : World) (v : Value) (xs : List W3) : Prop := w.ownsRow base 27 3 v xs.length (rowOf xs)
/-- the block of a value -/
def Blk (v : Value) : Nat → Prop := fun q => v.ownBlock = some q
theorem Own.nil (base : Nat) (w : World) : Own base w (.slice none 0 0) [] := World.ownsRow_nil _ _ _ _
theorem Own.form {base : Nat} {w : World} {v : Value} {xs : List W3} (h : Own base w v xs) : ∃ ao cap, v = .slice ao xs.length cap := own_form h
theorem Own.lst {base : Nat} {w : World} {v : Value} {xs : List W3} (h : Own base w v xs) : Lst (base ≤ ·) w v xs := Lst.of_own h
theorem Own.blk {base : Nat} {w : World} {v : Value} {xs : List W3} (h : Own base w v xs) {q : Nat} (hq : Blk v q) : base ≤ q ∧ q < w.heap.size := World.ownsRow.lt h q hq
theorem Own.ch {S : Nat → Prop} {base : Nat} {w w' : World} {v : Value} {xs : List W3} (h : Own base w v xs) (k : Ch S w w') (hs : ∀ g, Blk v g → ¬ S g) : Own base w' v xs := by
  refine ⟨h.1, ?_⟩
  rcases h.2 with h2 | ⟨g, cap, cur, hv, hb, hg, r⟩
  · exact .inl h2
  · exact .inr ⟨g, cap, cur, hv, hb, (k.block g (lt_of_block hg) (hs g (by rw [hv]; rfl))).trans hg, r⟩
theorem Own.alloc {base : Nat} {w : World} {v : Value} {xs : List W3} (h : Own base w v xs) (o : Obj) : Own base (w.alloc o) v xs := World.ownsRow.alloc h o
/-- the list with its own block told -/
theorem Own.lstB {base : Nat} {w : World} {v : Value} {xs : List W3} (h : Own base w v xs) : Lst (Blk v) w v xs := by
  obtain ⟨ao, cap, e, hc, h2⟩ := h.lst
  refine ⟨ao, cap, e, hc, h2.imp id ?_⟩
  rintro ⟨g, o, h3, _, h5, h6⟩
  exact ⟨g, o, h3, by rw [e, h3]; rfl, h5, h6⟩

theorem wpList_append_own2 {w : World} {ops : Array Oper} {rest : List Oper} {o : Oper} {a : Act} {Q : Exit → Act → World → Prop} (hgd : o.guard = none) (s x : Operand)
    (ho : o.op = .call { callee := .builtin .append, args := #[s, x], argTypes := #[22, 22] })
    (base : Nat) (v : Value) (xs : List W3) (hs : a.eval s = v) (hown : Own base w v xs) (P : Nat → Prop) (sv : Value) (ys : List W3) (hx : a.eval x = sv) (hl : Lst P w sv ys)
    (k : Nat) (hk : k = xs.length + ys.length) (hb : k * 24 ≤ 140737488355328) (hbase : base ≤ w.heap.size) (zs : List W3) (hz : xs ++ ys = zs)
    (h : ∀ ao cap w', Own base w' (.slice ao k cap) zs → Ch (Blk v) w w' → (∀ q, Blk (.slice ao k cap) q → Blk v q ∨ w.heap.size ≤ q) → wpList Try.prog ops Q rest (a.put o.dst (.slice ao k cap)) w') : wpList Try.prog ops Q (o :: rest) a w := by
  subst hz
  obtain ⟨i0, hi, hz0, hz1, hz2⟩ := info_parts W_info
  have hl' := hl
  obtain ⟨ao, cap, rfl, ⟨hcap, hnone⟩, hcase⟩ := hl'
  cases ao with
  | none =>
    have hys : ys = [] := by
      rcases hcase with h0 | ⟨g, o, h1, _⟩
      · exact h0
      · cases h1
    subst hys
    have hc := hnone rfl
    subst hc
    refine wpList_append_own_none hgd s x _ ho base 27 i0 3 Try.underlying22 hi v xs.length _ hs hown hx ?_
    obtain ⟨ao', cap', rfl⟩ := hown.form
    have hkn : k = xs.length := by simpa using hk
    subst hkn
    rw [List.append_nil] at h
    exact h ao' cap' w hown (Ch.refl _ _) (fun _ q => .inl q)
  | some ad =>
    subst hk
    refine wpList_append_own_at w hgd s x _ ho base 27 i0 _ 3 24 Try.underlying22 hi hz0 hz1 hz2 rfl (by omega) v xs.length _ hs hown ad ys.length cap (rowOf ys) hx (rowOf_length ys) hl.news (rowOf_one ys) (by unfold maxLen; omega) hb hbase ?_
    intro v' w' h2 h3 _ h5
    obtain ⟨ao', cap', rfl⟩ := own_form h2
    refine h ao' cap' w' ?_ ((Ch.refl _ _).grown h3 (fun k hk => .inl hk)) ?_
    · show World.ownsRow _ _ _ _ _ _ _
      rw [List.length_append, rowOf_append]
      exact h2
    · intro q hq
      rcases h5 with h5 | h5
      · exact .inl (h5.symm.trans hq)
      · right
        have : some q = some w.heap.size := hq.symm.trans h5
        injection this with this
        omega
/-- one in a new block is a list -/
theorem Lst.single (w : World) (x : W3) : Lst (· = w.heap.size) (w.alloc (.cells #[.int .i64 x.s, .int .i64 x.g, .int .u64 x.t] 27)) (.slice (some ⟨w.heap.size, 0, none⟩) 1 1) [x] := by
  refine ⟨_, 1, rfl, ⟨by simp, fun h => by cases h⟩, .inr ⟨w.heap.size, 0, rfl, rfl, by simp, ?_⟩⟩
  intro i y hy
  cases i with
  | zero =>
    simp only [List.getElem?_cons_zero, Option.some.injEq] at hy
    subst hy
    have := Three.new w x
    exact this.cells
  | succ i => simp at hy
end Go.Proofs.Ytfodjkdioddbjab.Rg
