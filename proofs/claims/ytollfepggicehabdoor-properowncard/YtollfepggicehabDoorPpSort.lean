/-
  slices.Sort and slices.Compact of numbers that the call owns. No conditions.
-/
import Derived.Test.YtollfepggicehabDoorPpMay
import Derived.Test.YtollfepggicehabDoorPpShelf
import Derived.Sort.OwnSorted
namespace Go.Proofs.YtollfepggicehabDoor.Lt
open Go.RowKit Wd Go.Sort Go.Shelf

theorem int_info : (Tryd.prog.info? 3).map (fun i => (i.zero, i.size, i.bytes)) = some (some (.int .i64 0), 1, 8) := by kernel_rfl
theorem eI_one (xs : List Int) : ∀ u ∈ xs.flatMap eI, u.oneCell' = true := by
  intro u hu
  rw [List.mem_flatMap] at hu
  obtain ⟨x, _, hx⟩ := hu
  simp only [eI, List.mem_cons, List.not_mem_nil, or_false] at hx
  rw [hx]
  rfl
/-- one number in a new block -/
theorem ls_int (w : World) (x : Int) (b : Nat) (hb : b = w.heap.size) : Ls eI (· = b) (w.alloc (.cells #[.int .i64 x] 3)) (.slice (some ⟨b, 0, none⟩) 1 1) [x] := by
  subst hb
  exact Ls.single w x _ _ rfl
theorem flat_eI (xs : List Int) : xs.flatMap eI = xs.map (Value.int .i64) := by
  induction xs with
  | nil => rfl
  | cons x xs ih => rw [List.flatMap_cons, ih]; rfl
theorem holds_int {w : World} {g : Nat} {cur : Array Value} {e : TypeId} {ss : List Int} (hb : w.heap[g]? = some (.cells cur e (0, 0))) (ht : cur.toList.take ss.length = ss.map (Value.int .i64)) : Holds (Value.int .i64) w g 0 ss.toArray := by
  intro j hj
  have hj' : j < ss.length := by simpa using hj
  refine ⟨?_, by simp [World.frozen?, hb]⟩
  have h1 : (cur.toList.take ss.length)[j]? = (ss.map (Value.int .i64))[j]? := by rw [ht]
  rw [List.getElem?_take_of_lt hj'] at h1
  simp only [World.cell?, hb, Nat.zero_add]
  simp only [Option.isSome_none, Bool.false_eq_true, if_false]
  rw [← Array.getElem?_toList, h1]
  simp [hj']
theorem heap_int {w : World} {g n : Nat} {os : Array Obj} {cur : Array Value} {e : TypeId} {fr : Nat × Nat} (d : Array Int) (hb : w.heap[g]? = some (.cells cur e fr)) :
    (grow (putRow (Value.int .i64) (Sort.ahead w n) g 0 d) os).heap[g]? = some (.cells (putCells (Value.int .i64) 0 d cur) e fr) := by
  have hg : g < w.heap.size := (Array.getElem?_eq_some_iff.1 hb).1
  rw [heap_grow_old _ _ (by simpa using hg)]
  simp [putRow, mapBlock, Sort.ahead, Array.getElem?_modify, hb, onCells]
theorem grown_int {w : World} {g n : Nat} {os : Array Obj} (d : Array Int) : w.grownBy (grow (putRow (Value.int .i64) (Sort.ahead w n) g 0 d) os) (some g) := by
  refine ⟨rfl, rfl, rfl, by simp, fun k hk hne => ?_⟩
  rw [heap_grow_old _ _ (by simpa using hk)]
  have : g ≠ k := fun e => hne (by rw [e])
  simp [putRow, mapBlock, Sort.ahead, Array.getElem?_modify, this]
theorem take_int (cur : Array Value) (ts : List Int) (h : ts.length ≤ cur.size) : (putCells (Value.int .i64) 0 ts.toArray cur).toList.take ts.length = ts.map (Value.int .i64) := by
  apply List.ext_getElem?
  intro j
  by_cases hj : j < ts.length
  · rw [List.getElem?_take_of_lt hj, Array.getElem?_toList]
    simp [putCells, hj, show j < cur.size by omega]
  · rw [List.getElem?_take_eq_none (by omega), List.getElem?_eq_none (by simp; omega)]
/-- a row that was put in a list's place is that list, however much of it is told -/
theorem ow_put {w : World} {base g cap q : Nat} {os : Array Obj} {cur : Array Value} {ts : List Int} (hbase : base ≤ g) (hb : w.heap[g]? = some (.cells cur 3 (0, 0))) (h1 : ts.length ≤ cap) (h2 : cap ≤ maxLen) (h3 : cur.size = cap * 1) (m : Nat) (hm : m ≤ ts.length) :
    Ow eI 1 3 base (grow (putRow (Value.int .i64) (Sort.ahead w q) g 0 ts.toArray) os) (.slice (some ⟨g, 0, none⟩) m cap) (ts.take m) := by
  have hl : (ts.take m).length = m := by rw [List.length_take]; omega
  refine ⟨flat_len eI_len _, .inr ⟨g, cap, _, by rw [hl], hbase, heap_int _ hb, by omega, h2, by simp [putCells, h3], ?_⟩⟩
  rw [hl, Nat.mul_one, flat_eI, List.map_take, ← take_int cur ts (by omega), List.take_take, Nat.min_eq_left hm]
theorem sort_ow (w : World) (base : Nat) (ao : Option Addr) (n cap : Nat) (os : List Int) (h : Ow eI 1 3 base w (.slice ao n cap) os) (hl : os.length ≤ 4096) :
    Calls Tryd.prog 37 #[.slice ao n cap] w fun e w' => e = .returned (.tuple #[]) ∧ Ow eI 1 3 base w' (.slice ao n cap) (os.mergeSort fun x y => decide (x ≤ y)) ∧ Ch (Blk (.slice ao n cap)) w w' := by
  rcases h.2 with ⟨h1, h0⟩ | ⟨g, cap', cur, h1, hb, hg, hc, hm, hs, ht⟩
  · cases h1
    have e1 : os = [] := List.eq_nil_of_length_eq_zero h0
    subst e1
    refine (show Calls Tryd.prog 37 #[.slice none 0 0] w fun e w' => e = .returned (.tuple #[]) ∧ w' = w from Any.slices_Sort_int_none Tryd.laysSort none 0 w).mono ?_
    rintro e w' ⟨rfl, rfl⟩
    exact ⟨rfl, by rw [List.mergeSort_nil]; exact Ow.nil _ _ _ _ _, Ch.refl _ _⟩
  · injection h1 with a1 a2 a3
    subst a1 a3
    subst a2
    rw [Nat.mul_one, flat_eI] at ht
    refine (show Calls Tryd.prog 37 #[.slice (some ⟨g, 0, none⟩) os.length cap] w fun e w' => e = .returned (.tuple #[]) ∧ ∃ n os', w' = grow (putRow (Value.int .i64) (Sort.ahead w n) g 0 (os.mergeSort fun x y => decide (x ≤ y)).toArray) os' from Any.slices_Sort_int Tryd.laysSort g 0 cap os w (holds_int hg ht) (lt_of_block hg) (by omega)).mono ?_
    rintro e w' ⟨rfl, q, os', rfl⟩
    have e1 : (os.mergeSort fun x y => decide (x ≤ y)).length = os.length := List.length_mergeSort _
    refine ⟨rfl, ?_, (Ch.refl _ _).grown (grown_int _) (fun k hk => .inl hk)⟩
    have := ow_put (w := w) (base := base) (g := g) (cap := cap) (q := q) (os := os') (cur := cur) (ts := os.mergeSort fun x y => decide (x ≤ y)) hb hg (by omega) hm hs os.length (by omega)
    rw [List.take_of_length_le (by omega)] at this
    exact this
theorem compact_ow (w : World) (base : Nat) (ao : Option Addr) (n cap : Nat) (os zs : List Int) (h : Ow eI 1 3 base w (.slice ao n cap) os) (hl : os.length ≤ 4096) (hz : Lib.compact os = zs) (hzl : zs.length ≤ os.length) (m : Nat) (hm : m = zs.length) :
    Calls Tryd.prog 64 #[.slice ao n cap] w fun e w' => e = .returned (.slice ao m cap) ∧ Ow eI 1 3 base w' (.slice ao m cap) zs ∧ Ch (Blk (.slice ao n cap)) w w' := by
  subst hm
  rcases h.2 with ⟨h1, h0⟩ | ⟨g, cap', cur, h1, hb, hg, hc, hmx, hs, ht⟩
  · cases h1
    have e1 : os = [] := List.eq_nil_of_length_eq_zero h0
    subst e1
    have e2 : zs = [] := List.eq_nil_of_length_eq_zero (by simpa using hzl)
    subst e2
    refine (show Calls Tryd.prog 64 #[.slice none 0 0] w fun e w' => e = .returned (.slice none 0 0) ∧ w' = w from Any.slices_Compact_int_empty Tryd.laysCompact none 0 w).mono ?_
    rintro e w' ⟨rfl, rfl⟩
    exact ⟨rfl, Ow.nil _ _ _ _ _, Ch.refl _ _⟩
  · injection h1 with a1 a2 a3
    subst a1 a3
    subst a2
    rw [Nat.mul_one, flat_eI] at ht
    have S : Calls Tryd.prog 64 #[.slice (some ⟨g, 0, none⟩) os.length cap] w fun e w' => e = .returned (.slice (some ⟨g, 0, none⟩) (Lib.compact os).length cap) ∧ ∃ q, w' = putRow (Value.int .i64) (Sort.ahead w q) g 0 (Lib.compact os ++ List.replicate (os.length - (Lib.compact os).length) 0).toArray := Any.slices_Compact_int Tryd.laysCompact g 0 cap os w (holds_int hg ht) (by omega) hc
    rw [hz] at S
    refine S.mono ?_
    rintro e w' ⟨rfl, q, rfl⟩
    obtain ⟨ts, hts⟩ : ∃ ts, ts = zs ++ List.replicate (os.length - zs.length) (0 : Int) := ⟨_, rfl⟩
    have hl1 : ts.length = os.length := by rw [hts, List.length_append, List.length_replicate]; omega
    have hl2 : ts.take zs.length = zs := by rw [hts]; exact List.take_left' rfl
    rw [← hts, show putRow (Value.int .i64) (Sort.ahead w q) g 0 ts.toArray = grow (putRow (Value.int .i64) (Sort.ahead w q) g 0 ts.toArray) #[] from (grow_empty _).symm]
    clear hts S
    refine ⟨rfl, ?_, (Ch.refl _ _).grown (grown_int _) (fun k hk => .inl hk)⟩
    have := ow_put (w := w) (base := base) (g := g) (cap := cap) (q := q) (os := #[]) (cur := cur) (ts := ts) hb hg (by omega) hmx hs zs.length (by omega)
    rw [hl2] at this
    exact this
/-- two numbers, sorted and each once -/
theorem sort_two (x y : Int) : ([x, y] : List Int).mergeSort (fun x y => decide (x ≤ y)) = if x ≤ y then [x, y] else [y, x] := by
  have hp := List.mergeSort_perm [x, y] (fun x y => decide (x ≤ y))
  have hs : (([x, y] : List Int).mergeSort (fun x y => decide (x ≤ y))).Pairwise (fun x y => decide (x ≤ y) = true) := List.pairwise_mergeSort (fun a b c h1 h2 => by simp at h1 h2 ⊢; omega) (fun a b => by simp; omega) _
  generalize ([x, y] : List Int).mergeSort (fun x y => decide (x ≤ y)) = zs at hp hs
  match zs, hp, hs with
  | [], hp, _ => exact absurd hp.length_eq (by simp)
  | [a], hp, _ => exact absurd hp.length_eq (by simp)
  | [a, b], hp, hs =>
    have ha : a ∈ [x, y] := hp.mem_iff.1 (by simp)
    have hb : b ∈ [x, y] := hp.mem_iff.1 (by simp)
    have hx : x ∈ [a, b] := hp.mem_iff.2 (by simp)
    have hy : y ∈ [a, b] := hp.mem_iff.2 (by simp)
    have hab : a ≤ b := by simpa using hs
    simp only [List.mem_cons, List.not_mem_nil, or_false] at ha hb hx hy
    by_cases h : x ≤ y
    · rw [if_pos h]
      have e1 : a = x := by omega
      have e2 : b = y := by omega
      rw [e1, e2]
    · rw [if_neg h]
      have e1 : a = y := by omega
      have e2 : b = x := by omega
      rw [e1, e2]
  | a :: b :: c :: r, hp, _ => exact absurd hp.length_eq (by simp)
theorem compact_two (x y : Int) : Lib.compact [x, y] = if x = y then [x] else [x, y] := by
  have e : List.range 2 = [0, 1] := rfl
  unfold Lib.compact Lib.compactUpTo
  show ((List.range 2).filter (Lib.keeps #[x, y])).map _ = _
  rw [e]
  by_cases h : x = y
  · subst h
    simp [Lib.keeps, List.filter]
  · have h' : ¬ y = x := fun q => h q.symm
    simp [Lib.keeps, List.filter, h, h']
theorem compact_one (x : Int) : Lib.compact [x] = [x] := by
  have e : List.range 1 = [0] := rfl
  unfold Lib.compact Lib.compactUpTo
  show ((List.range 1).filter (Lib.keeps #[x])).map _ = _
  rw [e]
  simp [Lib.keeps, List.filter]
theorem compact_nil : Lib.compact ([] : List Int) = [] := rfl
theorem sort_one (x : Int) : ([x] : List Int).mergeSort (fun x y => decide (x ≤ y)) = [x] := by simp
end Go.Proofs.YtollfepggicehabDoor.Lt
