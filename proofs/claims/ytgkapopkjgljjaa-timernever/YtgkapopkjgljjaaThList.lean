/-
  The words in which the walks of the heap speak of a list of nodes. No conditions.
-/
import Derived.Test.YtgkapopkjgljjaaThWorld
import Derived.Deep.LoopGhost
import Derived.Laws.AppendOwnNone
namespace Go.Proofs.Ytgkapopkjgljjaa.Hp
open Go.RowKit Wd

/-- the cells of a list -/
def rowOf : List W3 → List Value
  | [] => []
  | x :: r => .int .u64 x.w :: .int .i64 x.n :: .int .i64 x.v :: rowOf r
theorem rowOf_append : ∀ (a b : List W3), rowOf (a ++ b) = rowOf a ++ rowOf b
  | [], _ => rfl
  | x :: r, b => by simp only [List.cons_append, rowOf, rowOf_append r b]
theorem rowOf_length : ∀ (a : List W3), (rowOf a).length = a.length * 3
  | [] => rfl
  | x :: r => by simp only [rowOf, List.length_cons, rowOf_length r]; omega
theorem rowOf_get : ∀ (a : List W3) (i : Nat) (x : W3), a[i]? = some x → (rowOf a)[i * 3]? = some (.int .u64 x.w) ∧ (rowOf a)[i * 3 + 1]? = some (.int .i64 x.n) ∧ (rowOf a)[i * 3 + 2]? = some (.int .i64 x.v)
  | [], i, x, h => by simp at h
  | y :: r, 0, x, h => by
    simp only [List.getElem?_cons_zero, Option.some.injEq] at h
    subst h
    exact ⟨rfl, rfl, rfl⟩
  | y :: r, i + 1, x, h => by
    have := rowOf_get r i x (by simpa using h)
    have e : (i + 1) * 3 = i * 3 + 3 := by omega
    rw [e]
    exact this
theorem rowOf_one (a : List W3) : ∀ u ∈ rowOf a, u.oneCell' = true := by
  induction a with
  | nil => intro u hu; simp [rowOf] at hu
  | cons x r ih =>
    intro u hu
    simp only [rowOf, List.mem_cons] at hu
    rcases hu with rfl | rfl | rfl | hu
    · rfl
    · rfl
    · rfl
    · exact ih u hu

/-- a slice value that reads as a list; where it is not empty its cells lie in a block of which P holds -/
def Lst (P : Nat → Prop) (w : World) (v : Value) (xs : List W3) : Prop :=
  ∃ ao cap, v = .slice ao xs.length cap ∧ (xs.length ≤ cap ∧ (ao = none → cap = 0)) ∧ (xs = [] ∨ ∃ g o, ao = some ⟨g, o, none⟩ ∧ P g ∧ g < w.heap.size ∧
    ∀ i x, xs[i]? = some x → w.cell? ⟨g, o + i * 3, none⟩ = some (.int .u64 x.w) ∧ w.cell? ⟨g, o + i * 3 + 1, none⟩ = some (.int .i64 x.n) ∧ w.cell? ⟨g, o + i * 3 + 2, none⟩ = some (.int .i64 x.v))

theorem Lst.nil (P : Nat → Prop) (w : World) : Lst P w (.slice none 0 0) [] := ⟨none, 0, rfl, ⟨Nat.le_refl _, fun _ => rfl⟩, .inl rfl⟩
theorem Lst.mono {P Q : Nat → Prop} {w : World} {v : Value} {xs : List W3} (h : Lst P w v xs) (hq : ∀ g, g < w.heap.size → P g → Q g) : Lst Q w v xs := by
  obtain ⟨ao, cap, e, hc, h⟩ := h
  refine ⟨ao, cap, e, hc, h.imp id ?_⟩
  rintro ⟨g, o, h1, h2, h3, h4⟩
  exact ⟨g, o, h1, hq g h3 h2, h3, h4⟩
theorem Lst.ch {P S : Nat → Prop} {w w' : World} {v : Value} {xs : List W3} (h : Lst P w v xs) (k : Ch S w w') (hs : ∀ g, g < w.heap.size → P g → ¬ S g) : Lst P w' v xs := by
  obtain ⟨ao, cap, e, hc, h⟩ := h
  refine ⟨ao, cap, e, hc, h.imp id ?_⟩
  rintro ⟨g, o, h1, h2, h3, h4⟩
  refine ⟨g, o, h1, h2, Nat.lt_of_lt_of_le h3 k.size, fun i x hx => ?_⟩
  rw [k.cell h3 (hs g h3 h2), k.cell h3 (hs g h3 h2), k.cell h3 (hs g h3 h2)]
  exact h4 i x hx
theorem Lst.drew {P : Nat → Prop} {w : World} {v : Value} {xs : List W3} (h : Lst P w v xs) : Lst P w.drew v xs := h
theorem Lst.drewN {P : Nat → Prop} {w : World} {v : Value} {xs : List W3} (h : Lst P w v xs) (n : Nat) : Lst P (w.drewN n) v xs := h
theorem Lst.alloc {P : Nat → Prop} {w : World} {v : Value} {xs : List W3} (h : Lst P w v xs) (o : Obj) : Lst P (w.alloc o) v xs :=
  h.ch (S := NoB) ((Ch.refl _ _).alloc _) (fun _ _ _ x => x)

/-- the value of a list's slice -/
theorem Lst.form {P : Nat → Prop} {w : World} {v : Value} {xs : List W3} (h : Lst P w v xs) : ∃ ao cap, v = .slice ao xs.length cap := by
  obtain ⟨ao, cap, e, _⟩ := h
  exact ⟨ao, cap, e⟩

/-- what a call owns reads as a list -/
theorem Lst.of_own {w : World} {base : Nat} {v : Value} {n : Nat} {xs : List W3} (h : w.ownsRow base 119 3 v n (rowOf xs)) : Lst (base ≤ ·) w v xs := by
  have hl := h.1
  rw [rowOf_length] at hl
  have hn : xs.length = n := by omega
  rcases h.2 with ⟨rfl, h0⟩ | ⟨g, cap, cur, rfl, hb, hg, hc, _, hs, ht⟩
  · have : xs = [] := List.eq_nil_of_length_eq_zero (by omega)
    subst this
    exact Lst.nil _ _
  · refine ⟨some ⟨g, 0, none⟩, cap, by rw [hn], ⟨by omega, fun h => by cases h⟩, .inr ⟨g, 0, rfl, hb, lt_of_block hg, fun i x hx => ?_⟩⟩
    obtain ⟨k0, k1, k2⟩ := rowOf_get xs i x hx
    have hi : i < xs.length := (List.getElem?_eq_some_iff.1 hx).1
    rw [← ht] at k0 k1 k2
    rw [List.getElem?_take_of_lt (by omega), Array.getElem?_toList] at k0 k1 k2
    rw [Nat.zero_add]
    exact ⟨(cell_of hg _).trans k0, (cell_of hg _).trans k1, (cell_of hg _).trans k2⟩

theorem own_ch {S : Nat → Prop} {w w' : World} {base : Nat} {v : Value} {n : Nat} {xs : List Value} (h : w.ownsRow base 119 3 v n xs) (k : Ch S w w') (hs : ∀ g, S g → g < base) : w'.ownsRow base 119 3 v n xs := by
  refine ⟨h.1, ?_⟩
  rcases h.2 with h2 | ⟨g, cap, cur, hv, hb, hg, r⟩
  · exact .inl h2
  · exact .inr ⟨g, cap, cur, hv, hb, (k.block g (lt_of_block hg) (fun x => by have := hs g x; omega)).trans hg, r⟩

/-- a value that owns a row is a slice of that length -/
theorem own_form {w : World} {base : Nat} {v : Value} {n : Nat} {xs : List Value} (h : w.ownsRow base 119 3 v n xs) : ∃ ao cap, v = .slice ao n cap := by
  rcases h.2 with ⟨rfl, rfl⟩ | ⟨g, cap, cur, rfl, _⟩
  · exact ⟨none, 0, rfl⟩
  · exact ⟨_, cap, rfl⟩

theorem W_info : (Try.prog.info? 119).map (fun i => (i.zero, i.size, i.bytes)) = some (some (.agg #[.int .u64 0, .int .i64 0, .int .i64 0]), 3, 24) := by kernel_rfl
theorem grow_ch {w w' : World} {v : Value} (h : w.grownBy w' v.ownBlock) {base : Nat} {n : Nat} {xs : List Value} (ho : w.ownsRow base 119 3 v n xs) : Ch (base ≤ ·) w w' :=
  (Ch.refl _ _).grown h (fun k hk => .inl (ho.lt k hk).1)

theorem rowOf_inv : ∀ (a : List W3) (j : Nat) (u : Value), (rowOf a)[j]? = some u → ∃ x, a[j / 3]? = some x ∧ ((j % 3 = 0 ∧ u = .int .u64 x.w) ∨ (j % 3 = 1 ∧ u = .int .i64 x.n) ∨ (j % 3 = 2 ∧ u = .int .i64 x.v))
  | [], j, u, h => by simp [rowOf] at h
  | y :: r, 0, u, h => by
    simp only [rowOf, List.getElem?_cons_zero, Option.some.injEq] at h
    exact ⟨y, rfl, .inl ⟨rfl, h.symm⟩⟩
  | y :: r, 1, u, h => by
    simp only [rowOf, List.getElem?_cons_succ, List.getElem?_cons_zero, Option.some.injEq] at h
    exact ⟨y, rfl, .inr (.inl ⟨rfl, h.symm⟩)⟩
  | y :: r, 2, u, h => by
    simp only [rowOf, List.getElem?_cons_succ, List.getElem?_cons_zero, Option.some.injEq] at h
    exact ⟨y, rfl, .inr (.inr ⟨rfl, h.symm⟩)⟩
  | y :: r, j + 3, u, h => by
    obtain ⟨x, h1, h2⟩ := rowOf_inv r j u (by simpa [rowOf] using h)
    have e1 : (j + 3) / 3 = j / 3 + 1 := by omega
    have e2 : (j + 3) % 3 = j % 3 := by omega
    rw [e1, e2]
    exact ⟨x, by simpa using h1, h2⟩

/-- the cells of a list, at its address -/
theorem Lst.news {P : Nat → Prop} {w : World} {a : Addr} {cap n : Nat} {xs : List W3} (h : Lst P w (.slice (some a) n cap) xs) : ∀ j u, (rowOf xs)[j]? = some u → w.cell? (a.add j) = some u := by
  intro j u hu
  obtain ⟨ao, cap', e, _, h⟩ := h
  injection e with e1 e2 e3
  rcases h with rfl | ⟨g, o, h1, h2, h3, h4⟩
  · simp [rowOf] at hu
  · rw [← e1] at h1
    injection h1 with h1
    subst h1
    have hadd : (⟨g, o, none⟩ : Addr).add j = ⟨g, o + j, none⟩ := by unfold Addr.add; split <;> simp_all
    rw [hadd]
    obtain ⟨x, hx, hc⟩ := rowOf_inv xs j u hu
    obtain ⟨k0, k1, k2⟩ := h4 (j / 3) x hx
    rcases hc with ⟨hm, rfl⟩ | ⟨hm, rfl⟩ | ⟨hm, rfl⟩
    · have e : o + j = o + j / 3 * 3 := by omega
      rw [e]; exact k0
    · have e : o + j = o + j / 3 * 3 + 1 := by omega
      rw [e]; exact k1
    · have e : o + j = o + j / 3 * 3 + 2 := by omega
      rw [e]; exact k2

/-- a whole list is appended to one that the call owns -/
theorem wpList_append_lst {w : World} {ops : Array Oper} {rest : List Oper} {o : Oper} {a : Act} {Q : Exit → Act → World → Prop} (hgd : o.guard = none) (s x : Operand)
    (ho : o.op = .call { callee := .builtin .append, args := #[s, x], argTypes := #[97, 97] })
    (base : Nat) (v : Value) (n : Nat) (xs : List W3) (hs : a.eval s = v) (hown : w.ownsRow base 119 3 v n (rowOf xs)) (P : Nat → Prop) (sv : Value) (ys : List W3) (hx : a.eval x = sv) (hl : Lst P w sv ys)
    (k : Nat) (hk : k = n + ys.length) (hb : k * 24 ≤ 140737488355328) (hbase : base ≤ w.heap.size)
    (h : ∀ ao cap w', w'.ownsRow base 119 3 (.slice ao k cap) k (rowOf (xs ++ ys)) → Ch (base ≤ ·) w w' → wpList Try.prog ops Q rest (a.put o.dst (.slice ao k cap)) w') : wpList Try.prog ops Q (o :: rest) a w := by
  obtain ⟨i0, hi, hz0, hz1, hz2⟩ := info_parts W_info
  have hl' := hl
  obtain ⟨ao, cap, rfl, ⟨hcap, hnone⟩, hcase⟩ := hl'
  cases ao with
  | none =>
    have hys : ys = [] := by
      rcases hcase with h0 | ⟨g, o, h1, _⟩
      · exact h0
      · cases h1
    subst hys
    have hc := hnone rfl
    subst hc
    refine wpList_append_own_none hgd s x _ ho base 119 i0 3 Try.underlying97 hi v n _ hs hown hx ?_
    obtain ⟨ao', cap', rfl⟩ := own_form hown
    have hkn : k = n := by simpa using hk
    subst hkn
    rw [List.append_nil] at h
    exact h ao' cap' w hown (Ch.refl _ _)
  | some ad =>
    subst hk
    refine wpList_append_own w hgd s x _ ho base 119 i0 _ 3 24 Try.underlying97 hi hz0 hz1 hz2 rfl (by omega) v n _ hs hown ad ys.length cap (rowOf ys) hx (rowOf_length ys) hl.news (rowOf_one ys) (by unfold maxLen; omega) hb hbase ?_
    intro v' w' h2 h3 _
    obtain ⟨ao', cap', rfl⟩ := own_form h2
    exact h ao' cap' w' (by rw [rowOf_append]; exact h2) (grow_ch h3 hown)
/-- a block of three cells, none frozen -/
def Three (w : World) (k : Nat) (x : W3) : Prop := w.heap[k]? = some (.cells #[.int .u64 x.w, .int .i64 x.n, .int .i64 x.v] 119 (0, 0))
theorem Three.new (w : World) (x : W3) : Three (w.alloc (.cells #[.int .u64 x.w, .int .i64 x.n, .int .i64 x.v] 119)) w.heap.size x := (MapKept.heap_alloc w _).1
theorem Three.ch {S : Nat → Prop} {w w' : World} {k : Nat} {x : W3} (h : Three w k x) (g : Ch S w w') (hn : ¬ S k) : Three w' k x := (g.block k (lt_of_block h) hn).trans h
theorem Three.lt {w : World} {k : Nat} {x : W3} (h : Three w k x) : k < w.heap.size := lt_of_block h
theorem Three.alloc {w : World} {k : Nat} {x : W3} (h : Three w k x) (o : Obj) : Three (w.alloc o) k x := (Below.heap_alloc _ _ _ h.lt).trans h
theorem Three.drew {w : World} {k : Nat} {x : W3} (h : Three w k x) : Three w.drew k x := h
theorem Three.drewN {w : World} {k : Nat} {x : W3} (h : Three w k x) (n : Nat) : Three (w.drewN n) k x := h
theorem Three.cells {w : World} {k : Nat} {x : W3} (h : Three w k x) : w.cell? ⟨k, 0, none⟩ = some (.int .u64 x.w) ∧ w.cell? ⟨k, 1, none⟩ = some (.int .i64 x.n) ∧ w.cell? ⟨k, 2, none⟩ = some (.int .i64 x.v) :=
  ⟨(cell_of h 0).trans rfl, (cell_of h 1).trans rfl, (cell_of h 2).trans rfl⟩
theorem Three.frozen {w : World} {k : Nat} {x : W3} (h : Three w k x) (o : Nat) : w.frozen? ⟨k, o, none⟩ = false := frozen_of h o

/-- an element's cells -/
theorem Lst.get {P : Nat → Prop} {w : World} {ao : Option Addr} {cap n : Nat} {xs : List W3} (h : Lst P w (.slice ao n cap) xs) {i : Nat} {x : W3} (hx : xs[i]? = some x) :
    ∃ g o, ao = some ⟨g, o, none⟩ ∧ P g ∧ g < w.heap.size ∧ w.cell? ⟨g, o + i * 3, none⟩ = some (.int .u64 x.w) ∧ w.cell? ⟨g, o + i * 3 + 1, none⟩ = some (.int .i64 x.n) ∧ w.cell? ⟨g, o + i * 3 + 2, none⟩ = some (.int .i64 x.v) := by
  obtain ⟨ao', cap', e, _, h⟩ := h
  injection e with e1 e2 e3
  subst e1 e3
  rcases h with rfl | ⟨g, o, rfl, h2, h3, h4⟩
  · simp at hx
  · exact ⟨g, o, rfl, h2, h3, h4 i x hx⟩

/-- a slice value that the call owns reads as a list; its block is none below base -/
def Own (base : Nat) (w : World) (v : Value) (xs : List W3) : Prop := w.ownsRow base 119 3 v xs.length (rowOf xs)
/-- the block of a value -/
def Blk (v : Value) : Nat → Prop := fun q => v.ownBlock = some q
theorem Own.nil (base : Nat) (w : World) : Own base w (.slice none 0 0) [] := World.ownsRow_nil _ _ _ _
theorem Own.form {base : Nat} {w : World} {v : Value} {xs : List W3} (h : Own base w v xs) : ∃ ao cap, v = .slice ao xs.length cap := own_form h
theorem Own.lst {base : Nat} {w : World} {v : Value} {xs : List W3} (h : Own base w v xs) : Lst (base ≤ ·) w v xs := Lst.of_own h
theorem Own.blk {base : Nat} {w : World} {v : Value} {xs : List W3} (h : Own base w v xs) {q : Nat} (hq : Blk v q) : base ≤ q ∧ q < w.heap.size := World.ownsRow.lt h q hq
theorem Own.ch {S : Nat → Prop} {base : Nat} {w w' : World} {v : Value} {xs : List W3} (h : Own base w v xs) (k : Ch S w w') (hs : ∀ g, Blk v g → ¬ S g) : Own base w' v xs := by
  refine ⟨h.1, ?_⟩
  rcases h.2 with h2 | ⟨g, cap, cur, hv, hb, hg, r⟩
  · exact .inl h2
  · exact .inr ⟨g, cap, cur, hv, hb, (k.block g (lt_of_block hg) (hs g (by rw [hv]; rfl))).trans hg, r⟩
theorem Own.alloc {base : Nat} {w : World} {v : Value} {xs : List W3} (h : Own base w v xs) (o : Obj) : Own base (w.alloc o) v xs := World.ownsRow.alloc h o
/-- the list with its own block told -/
theorem Own.lstB {base : Nat} {w : World} {v : Value} {xs : List W3} (h : Own base w v xs) : Lst (Blk v) w v xs := by
  obtain ⟨ao, cap, e, hc, h2⟩ := h.lst
  refine ⟨ao, cap, e, hc, h2.imp id ?_⟩
  rintro ⟨g, o, h3, _, h5, h6⟩
  exact ⟨g, o, h3, by rw [e, h3]; rfl, h5, h6⟩

theorem wpList_append_own2 {w : World} {ops : Array Oper} {rest : List Oper} {o : Oper} {a : Act} {Q : Exit → Act → World → Prop} (hgd : o.guard = none) (s x : Operand)
    (ho : o.op = .call { callee := .builtin .append, args := #[s, x], argTypes := #[97, 97] })
    (base : Nat) (v : Value) (xs : List W3) (hs : a.eval s = v) (hown : Own base w v xs) (P : Nat → Prop) (sv : Value) (ys : List W3) (hx : a.eval x = sv) (hl : Lst P w sv ys)
    (k : Nat) (hk : k = xs.length + ys.length) (hb : k * 24 ≤ 140737488355328) (hbase : base ≤ w.heap.size) (zs : List W3) (hz : xs ++ ys = zs)
    (h : ∀ ao cap w', Own base w' (.slice ao k cap) zs → Ch (Blk v) w w' → (∀ q, Blk (.slice ao k cap) q → Blk v q ∨ w.heap.size ≤ q) → wpList Try.prog ops Q rest (a.put o.dst (.slice ao k cap)) w') : wpList Try.prog ops Q (o :: rest) a w := by
  subst hz
  obtain ⟨i0, hi, hz0, hz1, hz2⟩ := info_parts W_info
  have hl' := hl
  obtain ⟨ao, cap, rfl, ⟨hcap, hnone⟩, hcase⟩ := hl'
  cases ao with
  | none =>
    have hys : ys = [] := by
      rcases hcase with h0 | ⟨g, o, h1, _⟩
      · exact h0
      · cases h1
    subst hys
    have hc := hnone rfl
    subst hc
    refine wpList_append_own_none hgd s x _ ho base 119 i0 3 Try.underlying97 hi v xs.length _ hs hown hx ?_
    obtain ⟨ao', cap', rfl⟩ := hown.form
    have hkn : k = xs.length := by simpa using hk
    subst hkn
    rw [List.append_nil] at h
    exact h ao' cap' w hown (Ch.refl _ _) (fun _ q => .inl q)
  | some ad =>
    subst hk
    refine wpList_append_own_at w hgd s x _ ho base 119 i0 _ 3 24 Try.underlying97 hi hz0 hz1 hz2 rfl (by omega) v xs.length _ hs hown ad ys.length cap (rowOf ys) hx (rowOf_length ys) hl.news (rowOf_one ys) (by unfold maxLen; omega) hb hbase ?_
    intro v' w' h2 h3 _ h5
    obtain ⟨ao', cap', rfl⟩ := own_form h2
    refine h ao' cap' w' ?_ ((Ch.refl _ _).grown h3 (fun k hk => .inl hk)) ?_
    · show World.ownsRow _ _ _ _ _ _ _
      rw [List.length_append, rowOf_append]
      exact h2
    · intro q hq
      rcases h5 with h5 | h5
      · exact .inl (h5.symm.trans hq)
      · right
        have : some q = some w.heap.size := hq.symm.trans h5
        injection this with this
        omega
end Go.Proofs.Ytgkapopkjgljjaa.Hp
