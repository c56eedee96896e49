/-
  How a state, handed in by value, reads: a number, a list of numbers, a list of truths, a list of lists, a list of numbers; and how long they may be. No conditions.
-/
import Derived.Test.YtfbkifkfhgkdbabSbFrame3b
import Derived.Test.YtfbkifkfhgkdbabSbLoad5
import Derived.Test.YtfbkifkfhgkdbabSbCopyB
namespace Go.Proofs.Ytfbkifkfhgkdbab.Sb
open Go.ChangeShapes Go.WideShapes Go.ChangeAt Go.RowKit Go.Deep Go.Joins

theorem cellsB1 : Try.prog.cellsOf 4 = 1 := by kernel_rfl
theorem cellsLI : Try.prog.cellsOf 41 = 1 := by kernel_rfl
theorem cellsLB : Try.prog.cellsOf 42 = 1 := by kernel_rfl
theorem cellsLL : Try.prog.cellsOf 43 = 1 := by kernel_rfl
theorem cellsSt : Try.prog.cellsOf 45 = 5 := by kernel_rfl
theorem bytesLI : Try.prog.bytesOf 41 = 24 := by kernel_rfl
theorem bytesB1 : Try.prog.bytesOf 4 = 1 := by kernel_rfl
theorem bytesI : Try.prog.bytesOf 3 = 8 := by kernel_rfl
theorem weightsAll_in {H : Type} {P : Program} {e : TypeId} : ∀ {l : List (DataW H)} {d : DataW H}, d ∈ l → ∀ n ∈ d.weights P e, n ∈ DataW.weightsAll P e l
  | d0 :: l, d, h, n, hn => by
    simp only [DataW.weightsAll, List.mem_append]
    rcases List.mem_cons.1 h with rfl | h
    · exact .inl hn
    · exact .inr (weightsAll_in h n hn)

theorem ls_of {w : World} {a : Addr} {len cap : Nat} {V : Nat → Value} (hl : len ≤ cap) (hc : ∀ i, i < len → w.cell? (a.add i) = some (V i)) : Ls (· < w.heap.size) w (.slice (some a) len cap) ((List.range len).map V) := by
  refine ⟨some a, cap, by simp, ⟨by simpa using hl, fun e => by cases e⟩, ?_⟩
  rcases Nat.eq_zero_or_pos len with h0 | h0
  · left
    rw [h0]
    rfl
  · right
    obtain ⟨g, o, sp⟩ := a
    have hsp : sp = none := by
      have := hc 0 h0
      have e : (⟨g, o, sp⟩ : Addr).add 0 = ⟨g, o, sp⟩ := by simp [Addr.add]
      rw [e] at this
      exact addr_none this
    subst hsp
    have ha : ∀ i, (⟨g, o, none⟩ : Addr).add i = ⟨g, o + i, none⟩ := fun i => by
      unfold Addr.add
      by_cases hi : i = 0 <;> simp [hi]
    have hg : g < w.heap.size := by
      have := hc 0 h0
      rw [ha] at this
      exact lt_of_cell this
    refine ⟨g, o, rfl, hg, hg, fun i x hx => ?_⟩
    rw [List.getElem?_map] at hx
    rcases Nat.lt_or_ge i len with h | h
    · rw [List.getElem?_range h] at hx
      simp only [Option.map_some, Option.some.injEq] at hx
      rw [← hx, ← ha]
      exact hc i h
    · rw [List.getElem?_eq_none (by simpa using h)] at hx
      cases hx

section
variable {H : Type} {enc : TypeId × Value → H} {w : World} {base : Nat} {spare : Nat → Bool} {held : Bool} {fuel : Nat} {c : Value} {y : DataW H × List MemPlace}
theorem open_ints (hf : DataW.trod enc Try.prog w base spare held fuel 41 [c] = some y) (hs : ∀ el sp, y.1 = .slice el sp → (el.length + sp.length) * 8 ≤ 140737488351232) : ∃ l : List Int, Ls (· < w.heap.size) w c (iv l) ∧ l.length ≤ 17592186043904 := by
  rcases open_slice1 Try.underlying41 cellsI hf with ⟨h1, h2⟩ | ⟨a, len, cap, m, n, V, D, Pl, h1, hb, hl, hm, hmm, hd, hx⟩
  · injection h1 with h1
    subst h1
    exact ⟨[], Ls.nil _ _, by simp⟩
  · injection h1 with h1
    subst h1
    have hz := hs _ _ (by rw [hd])
    simp only [List.length_map, List.length_range] at hz
    have hlm : len ≤ m := by rw [hmm]; split <;> omega
    obtain ⟨Z, hZ⟩ := choose_lt (α := Int) (n := len) (p := fun i z => V i = .int .i64 z) (fun i hi => by
      obtain ⟨z, e, _⟩ := DataW.trod_int Try.underlying3 (hx i (by omega)).2
      simp at e
      exact ⟨z, e⟩)
    refine ⟨(List.range len).map Z, ?_, by simp; omega⟩
    have e : iv ((List.range len).map Z) = (List.range len).map V := by
      unfold iv
      rw [List.map_map]
      exact List.map_congr_left (fun i hi => (hZ i (List.mem_range.1 hi)).symm)
    rw [e]
    exact ls_of hl (fun i hi => (hx i (by omega)).1)
theorem open_bools (hf : DataW.trod enc Try.prog w base spare held fuel 42 [c] = some y) (hs : ∀ el sp, y.1 = .slice el sp → (el.length + sp.length) * 1 ≤ 140737488351232) : ∃ l : List Bool, Ls (· < w.heap.size) w c (bv l) ∧ l.length ≤ 140737488351232 := by
  rcases open_slice1 Try.underlying42 cellsB1 hf with ⟨h1, h2⟩ | ⟨a, len, cap, m, n, V, D, Pl, h1, hb, hl, hm, hmm, hd, hx⟩
  · injection h1 with h1
    subst h1
    exact ⟨[], Ls.nil _ _, by simp⟩
  · injection h1 with h1
    subst h1
    have hz := hs _ _ (by rw [hd])
    simp only [List.length_map, List.length_range] at hz
    have hlm : len ≤ m := by rw [hmm]; split <;> omega
    obtain ⟨Z, hZ⟩ := choose_lt (α := Bool) (n := len) (p := fun i z => V i = .bool z) (fun i hi => by
      obtain ⟨z, e, _⟩ := DataW.trod_bool Try.underlying4 (hx i (by omega)).2
      simp at e
      exact ⟨z, e⟩)
    refine ⟨(List.range len).map Z, ?_, by simp; omega⟩
    have e : bv ((List.range len).map Z) = (List.range len).map V := by
      unfold bv
      rw [List.map_map]
      exact List.map_congr_left (fun i hi => (hZ i (List.mem_range.1 hi)).symm)
    rw [e]
    exact ls_of hl (fun i hi => (hx i (by omega)).1)
theorem open_lists (hf : DataW.trod enc Try.prog w base spare held fuel 43 [c] = some y) (hs : ∀ n ∈ y.1.weights Try.prog 43, n ≤ 140737488351232) :
    ∃ (cv : List Value) (C : List (List Int)), Ls (· < w.heap.size) w c cv ∧ Cs (· < w.heap.size) w cv C ∧ (∀ (i : Nat) c, C[i]? = some c → c.length ≤ 17592186043904) ∧ C.length ≤ 5864062014634 := by
  rcases open_slice1 Try.underlying43 cellsLI hf with ⟨h1, h2⟩ | ⟨a, len, cap, m, n, V, D, Pl, h1, hb, hl, hm, hmm, hd, hx⟩
  · injection h1 with h1
    subst h1
    exact ⟨[], [], Ls.nil _ _, ⟨rfl, fun i u c hu => by simp at hu⟩, fun i c hc => by simp at hc, by simp⟩
  · injection h1 with h1
    subst h1
    have hlm : len ≤ m := by rw [hmm]; split <;> omega
    obtain ⟨Z, hZ⟩ := choose_lt (α := List Int) (n := len) (p := fun i z => Ls (· < w.heap.size) w (V i) (iv z) ∧ z.length ≤ 17592186043904) (fun i hi => by
      refine open_ints (hx i (by omega)).2 (fun el sp e => ?_)
      refine hs _ ?_
      rw [hd]
      simp only [DataW.weights, Try.underlying43]
      refine List.mem_cons_of_mem _ (List.mem_append_left _ (weightsAll_in (d := D i) (List.mem_map.2 ⟨i, List.mem_range.2 hi, rfl⟩) _ ?_))
      have e' : D i = .slice el sp := e
      rw [e']
      simp only [DataW.weights, Try.underlying41, bytesI]
      exact List.mem_cons_self)
    have gt : ∀ {α : Type} (f : Nat → α) (i : Nat) (x : α), ((List.range len).map f)[i]? = some x → i < len ∧ x = f i := fun f i x h => by
      rw [List.getElem?_map] at h
      rcases Nat.lt_or_ge i len with hi | hi
      · rw [List.getElem?_range hi] at h
        simp only [Option.map_some, Option.some.injEq] at h
        exact ⟨hi, h.symm⟩
      · rw [List.getElem?_eq_none (by simpa using hi)] at h
        cases h
    have hz := hs ((len + (m - len)) * 24) (by
      rw [hd]
      simp only [DataW.weights, Try.underlying43, List.length_map, List.length_range, bytesLI]
      exact List.mem_cons_self)
    refine ⟨(List.range len).map V, (List.range len).map Z, ls_of hl (fun i hi => (hx i (by omega)).1), ⟨by simp, fun i u c hu hc => ?_⟩, fun i c hc => ?_, by simp; omega⟩
    · obtain ⟨h1, rfl⟩ := gt V i u hu
      obtain ⟨_, rfl⟩ := gt Z i c hc
      exact (hZ i h1).1
    · obtain ⟨h1, rfl⟩ := gt Z i c hc
      exact (hZ i h1).2
end

theorem open_state {H : Type} {enc : TypeId × Value → H} {w : World} {base : Nat} {spare : Nat → Bool} {held : Bool} {r : Reach} {b0 : Nat} {v : Value} {d : DataW H} {p : List MemPlace} {ts : List TypeId} {ds : List (DataW H)} {j : Nat}
    (hv : Value.okWide Try.prog w r b0 45 v) (h : DataW.Trod enc Try.prog w base spare held 45 v d p) (hz : (DataW.weightsEach Try.prog ts ds).all (· ≤ reachBytes) = true) (ht : ts[j]? = some 45) (hd : ds[j]? = some d) :
    ∃ (L : Int) (vg va vc vf : Value) (cv : List Value) (x : Sl), v = .agg #[.int .i64 L, vg, va, vc, vf] ∧ Given (· < w.heap.size) w vg va vc vf cv x ∧ x.Big := by
  obtain ⟨cs, rfl, hsz⟩ := okWide_struct Try.underlying45 hv
  obtain ⟨c0, c1, c2, c3, c4, rfl⟩ := array5 (hsz.trans cellsSt)
  obtain ⟨fuel, hf⟩ := h
  obtain ⟨xs, n, _, hx, hl, hlen, hfs⟩ := DataW.trod_struct Try.underlying45 hf
  have hb : ∀ k ∈ d.weights Try.prog 45, k ≤ 140737488351232 := fun k hk => by
    have e' : reachBytes = 140737488351232 := by decide
    have := List.all_eq_true.1 hz _ (DataW.weights_mem_each ht hd k hk)
    simp only [decide_eq_true_eq] at this
    omega
  match xs, hlen with
  | [y0, y1, y2, y3, y4], _ =>
    have h0 := hfs 0 _ rfl
    have h1 := hfs 1 _ rfl
    have h2 := hfs 2 _ rfl
    have h3 := hfs 3 _ rfl
    have h4 := hfs 4 _ rfl
    have h0' : DataW.trod enc Try.prog w base spare held n 3 [c0] = some y0 := by simpa [Value.cells, cellsI] using h0
    have h1' : DataW.trod enc Try.prog w base spare held n 41 [c1] = some y1 := by simpa [Value.cells, cellsLI] using h1
    have h2' : DataW.trod enc Try.prog w base spare held n 42 [c2] = some y2 := by simpa [Value.cells, cellsLB] using h2
    have h3' : DataW.trod enc Try.prog w base spare held n 43 [c3] = some y3 := by simpa [Value.cells, cellsLL] using h3
    have h4' : DataW.trod enc Try.prog w base spare held n 41 [c4] = some y4 := by simpa [Value.cells, cellsLI] using h4
    obtain ⟨L, e0, r0, _⟩ := DataW.trod_int Try.underlying3 h0'
    simp at e0
    subst e0
    have hdx : d = .agg [y0.1, y1.1, y2.1, y3.1, y4.1] := by
      have := congrArg Prod.fst hx
      simpa using this
    have hw : d.weights Try.prog 45 = y0.1.weights Try.prog 3 ++ (y1.1.weights Try.prog 41 ++ (y2.1.weights Try.prog 42 ++ (y3.1.weights Try.prog 43 ++ (y4.1.weights Try.prog 41 ++ [])))) := by
      rw [hdx]
      simp [DataW.weights, DataW.weightsEach, Try.underlying45]
    rw [hw] at hb
    have one : ∀ {u : DataW H} (el sp : List (DataW H)), u = .slice el sp → (el.length + sp.length) * 8 ∈ u.weights Try.prog 41 := fun el sp e => by
      rw [e]
      simp only [DataW.weights, Try.underlying41, bytesI]
      exact List.mem_cons_self
    obtain ⟨G, lG, lGb⟩ := open_ints h1' (fun el sp e => hb _ (by simp only [List.mem_append]; exact .inr (.inl (one el sp e))))
    have oneB : ∀ {u : DataW H} (el sp : List (DataW H)), u = .slice el sp → (el.length + sp.length) * 1 ∈ u.weights Try.prog 42 := fun el sp e => by
      rw [e]
      simp only [DataW.weights, Try.underlying42, bytesB1]
      exact List.mem_cons_self
    obtain ⟨A, lA, lAb⟩ := open_bools h2' (fun el sp e => hb _ (by simp only [List.mem_append]; exact .inr (.inr (.inl (oneB el sp e)))))
    obtain ⟨cv, C, lC, lE, lB, lCb⟩ := open_lists h3' (fun k hk => hb k (by simp only [List.mem_append]; exact .inr (.inr (.inr (.inl hk)))))
    obtain ⟨F, lF, lFb⟩ := open_ints h4' (fun el sp e => hb _ (by simp only [List.mem_append]; exact .inr (.inr (.inr (.inr (.inl (one el sp e)))))))
    exact ⟨L, c1, c2, c3, c4, cv, ⟨G, A, C, F⟩, rfl, ⟨⟨lG, lA, lC, lF, lE⟩, fun q a => a, fun i c hc => Nat.le_trans (lB i c hc) (by omega), Nat.le_trans lFb (by omega)⟩, ⟨lGb, lAb, lCb, lFb, lB⟩⟩
theorem open_oplist {H : Type} {enc : TypeId × Value → H} {w : World} {base : Nat} {spare : Nat → Bool} {held : Bool} {r : Reach} {b0 : Nat} {v : Value} {d : DataW H} {p : List MemPlace} {ts : List TypeId} {ds : List (DataW H)} {j : Nat}
    (hv : Value.okWide Try.prog w r b0 22 v) (h : DataW.Trod enc Try.prog w base spare held 22 v d p) (hz : (DataW.weightsEach Try.prog ts ds).all (· ≤ reachBytes) = true) (ht : ts[j]? = some 22) (hd : ds[j]? = some d) :
    ∃ n, OpL w v n := by
  obtain ⟨fuel, hf⟩ := h
  obtain ⟨va, vl, vc, rfl⟩ := okWide_slice Try.underlying22 hv
  have hf' : DataW.trod enc Try.prog w base spare held fuel 22 [.slice va vl vc] = some (d, p) := by simpa [Value.cells] using hf
  refine open_opl hf' (fun el sp e => ?_)
  have e' : reachBytes = 140737488351232 := by decide
  have e1 : d = .slice el sp := e
  rw [e1] at hd
  have := List.all_eq_true.1 hz _ (DataW.weights_mem_each ht hd ((el.length + sp.length) * Try.prog.bytesOf 49) (by simp [DataW.weights, Try.underlying22]))
  rw [bytesO] at this
  simp only [decide_eq_true_eq] at this
  omega
end Go.Proofs.Ytfbkifkfhgkdbab.Sb
