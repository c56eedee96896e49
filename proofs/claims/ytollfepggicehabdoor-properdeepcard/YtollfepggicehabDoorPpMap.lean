/-
  What the operations on a map of numbers to numbers answer and leave; what is known of depths. No conditions.
-/
import Derived.Test.YtollfepggicehabDoorPpRc
import Derived.Carry
import Derived.WideKeyEntry
namespace Go.Proofs.YtollfepggicehabDoor.Lt
open Go.RowKit Wd Go.MapKept Go.ChangeMaps

/-- an entry of the map -/
def ent (e : Int × Int × Nat) : MapEntry := ⟨.int .i64 e.1, .int .i64 e.2.1, e.2.2⟩
/-- a map at a block -/
def MAt (w : World) (k : Nat) (M : List (Int × Int × Nat)) (clock : Nat) : Prop := w.heap[k]? = some (.map (M.map ent).toArray clock)
theorem MAt.lt {w : World} {k : Nat} {M : List (Int × Int × Nat)} {clock : Nat} (h : MAt w k M clock) : k < w.heap.size := lt_of_block h
theorem MAt.ch {S : Nat → Prop} {w w' : World} {k : Nat} {M : List (Int × Int × Nat)} {clock : Nat} (h : MAt w k M clock) (g : Ch S w w') (hn : ¬ S k) : MAt w' k M clock := (g.block k (lt_of_block h) hn).trans h
/-- the world with another map in a block -/
def putM (w : World) (k : Nat) (M : List (Int × Int × Nat)) (clock : Nat) : World := { w with heap := w.heap.setIfInBounds k (.map (M.map ent).toArray clock) }
theorem putM_ch (w : World) (k : Nat) (M : List (Int × Int × Nat)) (clock : Nat) : Ch (Only k) w (putM w k M clock) :=
  ⟨rfl, rfl, rfl, by simp [putM], fun i _ hi => by
    unfold putM
    exact Array.getElem?_setIfInBounds_ne (fun e => hi e.symm)⟩
theorem putM_at {w : World} {k : Nat} (hk : k < w.heap.size) (M : List (Int × Int × Nat)) (clock : Nat) : MAt (putM w k M clock) k M clock := by
  unfold MAt putM
  exact Array.getElem?_setIfInBounds_self_of_lt hk
section
variable {w : World} {k : Nat} {M : List (Int × Int × Nat)} {clock : Nat}
theorem isk (a : Int) : IsKey (.int .i64) (.int .i64 a) := by simp [IsKey]
theorem find_M (M : List (Int × Int × Nat)) (a : Int) (w : World) : ((Instr.findKey 3 (.int .i64 a) (M.map ent)).run Tryd.prog w = .ok none w ∧ ∀ e ∈ M, e.1 ≠ a) ∨ ∃ (j : Nat) (v : Int) (t : Nat), M[j]? = some (a, v, t) ∧ (Instr.findKey 3 (.int .i64 a) (M.map ent)).run Tryd.prog w = .ok (some (j, .int .i64 v)) w := by
  have hks : ∀ x ∈ M.map ent, IsKey (.int .i64) x.key := fun x hx => by
    obtain ⟨e, _, rfl⟩ := List.mem_map.1 hx
    exact isk _
  rcases findNow_spec (isk a) (M.map ent) 0 hks with ⟨h1, h2⟩ | ⟨j, e0, h1, h2, h3⟩
  · exact .inl ⟨run_findKey Tryd.underlying3 h1, fun e he h => h2 (ent e) (List.mem_map.2 ⟨e, he, rfl⟩) (by simp [ent, h])⟩
  · rw [List.getElem?_map] at h2
    cases hm : M[j]? with
    | none => rw [hm] at h2; cases h2
    | some e =>
      rw [hm] at h2
      injection h2 with h2
      obtain ⟨b, v, t⟩ := e
      subst h2
      have hb : b = a := by simpa [ent] using h3
      subst hb
      refine .inr ⟨j, v, t, hm, ?_⟩
      have := run_findKey (P := Tryd.prog) (w := w) Tryd.underlying3 h1
      simpa [ent] using this
/-- a number is there, or not -/
theorem look_M (h : MAt w k M clock) (a : Int) : ((Instr.lookup 51 (.map (some k)) (.int .i64 a) true).run Tryd.prog w = .ok (.tuple #[.int .i64 0, .bool false]) w ∧ ∀ e ∈ M, e.1 ≠ a) ∨ ∃ (j : Nat) (v : Int) (t : Nat), M[j]? = some (a, v, t) ∧ (Instr.lookup 51 (.map (some k)) (.int .i64 a) true).run Tryd.prog w = .ok (.tuple #[.int .i64 v, .bool true]) w := by
  have hz : (zeroValue 3).run Tryd.prog w = .ok (.int .i64 0) w := by kernel_rfl
  rcases find_M M a w with ⟨h1, h2⟩ | ⟨j, v, t, h1, h2⟩
  · refine .inl ⟨?_, h2⟩
    simp [Instr.lookup, run_underlying Tryd.underlying51, MapKept.run_getObj_map h, run_checkKey (P := Tryd.prog) (w := w) Tryd.underlying3 (isk a) _ 9999, h1, hz, Result.andThen]
  · refine .inr ⟨j, v, t, h1, ?_⟩
    simp [Instr.lookup, run_underlying Tryd.underlying51, MapKept.run_getObj_map h, run_checkKey (P := Tryd.prog) (w := w) Tryd.underlying3 (isk a) _ 9999, h2, Result.andThen]
theorem update_new (h : MAt w k M clock) {a : Int} (hn : ∀ e ∈ M, e.1 ≠ a) (v : Int) : (Instr.mapUpdate 51 (.map (some k)) (.int .i64 a) (.int .i64 v)).run Tryd.prog w = .ok () (putM w k (M ++ [(a, v, clock)]) (clock + 1)) := by
  have hf : (Instr.findKey 3 (.int .i64 a) (M.map ent)).run Tryd.prog w = .ok none w := by
    rcases find_M M a w with ⟨h1, _⟩ | ⟨j', v', t', h1, _⟩
    · exact h1
    · exact (hn (a, v', t') (List.mem_of_getElem? h1) rfl).elim
  simp [Instr.mapUpdate, run_underlying Tryd.underlying51, MapKept.run_getObj_map h, run_checkKey (P := Tryd.prog) (w := w) Tryd.underlying3 (isk a) _ 9999, hf, MapKept.run_setObj_map _ h, Result.andThen, putM, ent]
theorem one_key (ho : (M.map (·.1)).Nodup) {i j : Nat} {a b c d : Int} {s t : Nat} (hi : M[i]? = some (a, c, s)) (hj : M[j]? = some (b, d, t)) (e : a = b) : i = j := by
  have h1 : (M.map (·.1))[i]? = some a := by rw [List.getElem?_map, hi]; rfl
  have h2 : (M.map (·.1))[j]? = some a := by rw [List.getElem?_map, hj, e]; rfl
  have hl := (List.getElem?_eq_some_iff.1 h1).1
  exact (List.getElem?_inj hl ho).1 (h1.trans h2.symm)
theorem update_some (h : MAt w k M clock) (ho : (M.map (·.1)).Nodup) {j : Nat} {a v : Int} {t : Nat} (hj : M[j]? = some (a, v, t)) (u : Int) : (Instr.mapUpdate 51 (.map (some k)) (.int .i64 a) (.int .i64 u)).run Tryd.prog w = .ok () (putM w k (M.set j (a, u, t)) clock) := by
  have hf : (Instr.findKey 3 (.int .i64 a) (M.map ent)).run Tryd.prog w = .ok (some (j, .int .i64 v)) w := by
    rcases find_M M a w with ⟨_, h2⟩ | ⟨j', v', t', h1, h2⟩
    · exact (h2 (a, v, t) (List.mem_of_getElem? hj) rfl).elim
    · have e := one_key ho h1 hj rfl
      subst e
      rw [hj] at h1
      simp only [Option.some.injEq, Prod.mk.injEq, true_and] at h1
      rw [h1.1]
      exact h2
  have hl : j < M.length := (List.getElem?_eq_some_iff.1 hj).1
  have hm : (M.map ent).modify j (fun e => { e with key := .int .i64 a, val := .int .i64 u }) = (M.set j (a, u, t)).map ent := by
    apply List.ext_getElem?
    intro i
    rw [List.getElem?_modify, List.getElem?_map, List.getElem?_map]
    by_cases e : j = i
    · subst e
      rw [hj, List.getElem?_set_self hl]
      simp [ent]
    · rw [List.getElem?_set_ne e]
      simp only [if_neg e]
      cases M[i]? <;> rfl
  have hs : (Instr.keyThatStays (.int .i64 a) (.int .i64 a)).run Tryd.prog w = .ok (.int .i64 a) w := run_keyThatStays (isk a)
  have hp := MapKept.run_setObj_map (P := Tryd.prog) (.map ((M.set j (a, u, t)).map ent).toArray clock) h
  simp [Instr.mapUpdate, run_underlying Tryd.underlying51, MapKept.run_getObj_map h, run_checkKey (P := Tryd.prog) (w := w) Tryd.underlying3 (isk a) _ 9999, hf, Result.andThen, hj, ent, hs]
  rw [hm]
  exact hp
end
/-- one or more ways -/
def Rp (wy : Int → List Int) (a b : Int) : Prop := ∃ y, y ∈ wy a ∧ Rc wy y b
theorem rc_cases {wy : Int → List Int} {a b : Int} (h : Rc wy a b) : a = b ∨ Rp wy a b := by
  refine h (fun z => a = z ∨ Rp wy a z) (.inl rfl) (fun z hz y hy => ?_)
  rcases hz with rfl | ⟨x, hx, hr⟩
  · exact .inr ⟨y, hy, Rc.self _ _⟩
  · exact .inr ⟨x, hx, hr.next hy⟩
theorem Rp.next {wy : Int → List Int} {a b y : Int} (h : Rp wy a b) (hy : y ∈ wy b) : Rp wy a y := by
  obtain ⟨x, hx, hr⟩ := h
  exact ⟨x, hx, hr.next hy⟩
/-- who comes to itself again has chains of any length -/
theorem Rp.round {wy : Int → List Int} {f : Int} (h : Rp wy f f) : ∀ n, Cn wy n f := by
  have key : ∀ n x, Rp wy x f → Cn wy n x := by
    intro n
    induction n with
    | zero => intro x _; trivial
    | succ n ih =>
      rintro x ⟨y, hy, hr⟩
      refine ⟨y, hy, ?_⟩
      rcases rc_cases hr with e | e
      · rw [e]; exact ih f h
      · exact ih y e
  exact fun n => key n f h
/-- numbers without a repetition below N are at most N -/
theorem nodup_len {xs : List Int} {N : Nat} (h : xs.Nodup) (hb : ∀ x ∈ xs, 0 ≤ x ∧ x < (N : Int)) : xs.length ≤ N := by
  have hp := List.mergeSort_perm xs (fun x y => decide (x ≤ y))
  have hs : (xs.mergeSort (fun x y => decide (x ≤ y))).Pairwise (fun x y => decide (x ≤ y) = true) := List.pairwise_mergeSort (fun a b c h1 h2 => by simp at h1 h2 ⊢; omega) (fun a b => by simp; omega) xs
  have hr : Rs (xs.mergeSort (fun x y => decide (x ≤ y))) := by
    unfold Rs
    refine List.Pairwise.imp₂ ?_ hs (hp.nodup_iff.2 h)
    intro x y h1 h2
    have h1' : x ≤ y := by simpa using h1
    have h2' : x ≠ y := h2
    omega
  have key : ∀ (l : List Int) (N : Nat) (b : Int), Rs l → (∀ x ∈ l, b ≤ x ∧ x < b + (N : Int)) → l.length ≤ N := by
    intro l
    induction l with
    | nil => intro N b _ _; exact Nat.zero_le _
    | cons x l ih =>
      intro N b h hb
      have h' := List.pairwise_cons.1 h
      have hx := hb x (by simp)
      cases N with
      | zero => omega
      | succ N =>
        have := ih N (b + 1) h'.2 (fun y hy => by have := h'.1 y hy; have := hb y (List.mem_cons_of_mem _ hy); omega)
        rw [List.length_cons]
        omega
  have := key _ N 0 hr (fun x hx => by have := hb x (hp.mem_iff.1 hx); omega)
  rw [List.length_mergeSort] at this
  exact this
/-- what is known of depths: of each function its depth, or that it is looked at -/
structure Kw (N : Nat) (wy : Int → List Int) (M : List (Int × Int × Nat)) : Prop where
  nd : (M.map (·.1)).Nodup
  r : ∀ e, e ∈ M → 0 ≤ e.1 ∧ e.1 < (N : Int)
  d : ∀ e, e ∈ M → e.2.1 = -1 ∨ (0 ≤ e.2.1 ∧ Dp wy e.1 e.2.1)
/-- is being looked at -/
def neg (M : List (Int × Int × Nat)) (g : Int) : Prop := ∃ t, (g, -1, t) ∈ M
theorem Kw.nil (N : Nat) (wy : Int → List Int) : Kw N wy [] := ⟨by simp, (fun _ h => by cases h), (fun _ h => by cases h)⟩
theorem Kw.len {N : Nat} {wy : Int → List Int} {M : List (Int × Int × Nat)} (h : Kw N wy M) {f : Int} (hn : ∀ e ∈ M, e.1 ≠ f) (f0 : 0 ≤ f) (f1 : f < (N : Int)) : M.length < N := by
  have := nodup_len (xs := f :: M.map (·.1)) (N := N) (List.nodup_cons.2 ⟨fun q => by
    obtain ⟨e, he, e1⟩ := List.mem_map.1 q
    exact hn e he e1, h.nd⟩) (fun x hx => by
    rcases List.mem_cons.1 hx with rfl | hx
    · exact ⟨f0, f1⟩
    · obtain ⟨e, he, rfl⟩ := List.mem_map.1 hx
      exact h.r e he)
  simp at this
  omega
theorem Kw.add {N : Nat} {wy : Int → List Int} {M : List (Int × Int × Nat)} (h : Kw N wy M) {f : Int} (hn : ∀ e ∈ M, e.1 ≠ f) (f0 : 0 ≤ f) (f1 : f < (N : Int)) (c : Nat) : Kw N wy (M ++ [(f, -1, c)]) := by
  refine ⟨?_, fun e he => ?_, fun e he => ?_⟩
  · rw [List.map_append, List.nodup_append]
    refine ⟨h.nd, by simp, fun a ha b hb => ?_⟩
    have e : b = f := by simpa using hb
    rw [e]
    obtain ⟨x, hx, rfl⟩ := List.mem_map.1 ha
    exact hn x hx
  · rcases List.mem_append.1 he with q | q
    · exact h.r e q
    · have e1 : e = (f, -1, c) := by simpa using q
      rw [e1]; exact ⟨f0, f1⟩
  · rcases List.mem_append.1 he with q | q
    · exact h.d e q
    · have e1 : e = (f, -1, c) := by simpa using q
      rw [e1]; exact .inl rfl
theorem neg_add {M : List (Int × Int × Nat)} {f : Int} {c : Nat} (g : Int) : neg (M ++ [(f, -1, c)]) g ↔ neg M g ∨ g = f := by
  unfold neg
  constructor
  · rintro ⟨t, h⟩
    rcases List.mem_append.1 h with q | q
    · exact .inl ⟨t, q⟩
    · simp at q
      exact .inr q.1
  · rintro (⟨t, h⟩ | rfl)
    · exact ⟨t, List.mem_append_left _ h⟩
    · exact ⟨c, by simp⟩
theorem set_mem {M : List (Int × Int × Nat)} {j : Nat} {x e : Int × Int × Nat} (h : e ∈ M.set j x) : e = x ∨ ∃ i, i ≠ j ∧ M[i]? = some e := by
  obtain ⟨i, hi⟩ := List.mem_iff_getElem?.1 h
  rw [List.getElem?_set] at hi
  split at hi
  · split at hi
    · injection hi with hi; exact .inl hi.symm
    · cases hi
  · rename_i q; exact .inr ⟨i, fun z => q z.symm, hi⟩
theorem Kw.set {N : Nat} {wy : Int → List Int} {M : List (Int × Int × Nat)} (h : Kw N wy M) {f v d : Int} {j t : Nat} (hj : M[j]? = some (f, v, t)) (d0 : 0 ≤ d) (hd : Dp wy f d) : Kw N wy (M.set j (f, d, t)) := by
  refine ⟨?_, fun e he => ?_, fun e he => ?_⟩
  · rw [List.map_set]
    have e1 : (M.map (·.1)).set j f = M.map (·.1) := by
      apply List.ext_getElem?
      intro i
      rw [List.getElem?_set]
      split
      · rename_i q; subst q
        rw [List.getElem?_map, hj]
        have := (List.getElem?_eq_some_iff.1 hj).1
        simp [this]
      · rfl
    rw [e1]
    exact h.nd
  · rcases set_mem he with rfl | ⟨i, _, hi⟩
    · exact h.r (f, v, t) (List.mem_of_getElem? hj)
    · exact h.r e (List.mem_of_getElem? hi)
  · rcases set_mem he with rfl | ⟨i, _, hi⟩
    · exact .inr ⟨d0, hd⟩
    · exact h.d e (List.mem_of_getElem? hi)
theorem neg_set {M : List (Int × Int × Nat)} {f d : Int} {j t : Nat} (ho : (M.map (·.1)).Nodup) (hj : M[j]? = some (f, -1, t)) (d0 : 0 ≤ d) (g : Int) : neg (M.set j (f, d, t)) g ↔ neg M g ∧ g ≠ f := by
  unfold neg
  constructor
  · rintro ⟨s, h⟩
    rcases set_mem h with e | ⟨i, hi, h2⟩
    · simp at e
      omega
    · exact ⟨⟨s, List.mem_of_getElem? h2⟩, fun e => hi (one_key ho h2 hj e)⟩
  · rintro ⟨⟨s, h⟩, hn⟩
    obtain ⟨i, hi⟩ := List.mem_iff_getElem?.1 h
    refine ⟨s, List.mem_iff_getElem?.2 ⟨i, ?_⟩⟩
    rw [List.getElem?_set_ne (fun e => ?_)]
    · exact hi
    · subst e
      rw [hj] at hi
      simp at hi
      exact hn hi.1.symm
/-- of what is gone over the deepest: one more than each, or nothing yet -/
def Dm (wy : Int → List Int) (ys : List Int) (k : Nat) (D : Int) : Prop := 0 ≤ D ∧ (∀ (l : Nat) y, l < k → ys[l]? = some y → ∃ d, 0 ≤ d ∧ Dp wy y d ∧ d + 1 ≤ D) ∧ (D = 0 ∨ ∃ (l : Nat) (y : Int), l < k ∧ ys[l]? = some y ∧ Dp wy y (D - 1))
theorem Dm.start (wy : Int → List Int) (ys : List Int) : Dm wy ys 0 0 := ⟨Int.le_refl _, (fun l y h => by omega), .inl rfl⟩
theorem Dm.step {wy : Int → List Int} {ys : List Int} {k : Nat} {D d y : Int} (h : Dm wy ys k D) (hy : ys[k]? = some y) (d0 : 0 ≤ d) (hd : Dp wy y d) : Dm wy ys (k + 1) (if D ≤ d + 1 then d + 1 else D) := by
  obtain ⟨h0, h1, h2⟩ := h
  refine ⟨by split <;> omega, fun l z hl hz => ?_, ?_⟩
  · by_cases e : l = k
    · subst e
      rw [hy] at hz
      injection hz with hz
      subst hz
      exact ⟨d, d0, hd, by split <;> omega⟩
    · obtain ⟨c, c0, c1, c2⟩ := h1 l z (by omega) hz
      exact ⟨c, c0, c1, by split <;> omega⟩
  · split
    · exact .inr ⟨k, y, by omega, hy, by simpa using hd⟩
    · rcases h2 with e | ⟨l, z, hl, hz, hq⟩
      · exact .inl e
      · exact .inr ⟨l, z, by omega, hz, hq⟩
theorem Dm.done {wy : Int → List Int} {f D : Int} {k : Nat} (h : Dm wy (wy f) k D) (hk : (wy f).length ≤ k) : Dp wy f D := by
  obtain ⟨h0, h1, h2⟩ := h
  refine .inl ⟨h0, ?_, ?_⟩
  · rcases h2 with e | ⟨l, z, _, hz, hq⟩
    · rw [e]; trivial
    · rcases hq with ⟨q0, q1, _⟩ | ⟨_, q1⟩
      · have e : D.toNat = (D - 1).toNat + 1 := by omega
        rw [e]
        exact ⟨z, List.mem_of_getElem? hz, q1⟩
      · have e : D = 0 ∨ D.toNat = (D - 1).toNat + 1 := by omega
        rcases e with e | e
        · rw [e]; trivial
        · rw [e]; exact ⟨z, List.mem_of_getElem? hz, q1 _⟩
  · rintro ⟨y, hy, hc⟩
    obtain ⟨l, hl⟩ := List.mem_iff_getElem?.1 hy
    obtain ⟨d, d0, hd, hle⟩ := h1 l y (by have := (List.getElem?_eq_some_iff.1 hl).1; omega) hl
    rcases hd with ⟨_, _, q2⟩ | ⟨q0, _⟩
    · exact q2 (hc.le (by omega))
    · omega
/-- a depth is below the number of functions -/
theorem Dp.lt {wy : Int → List Int} {l : List Int} (hc : ∀ x ∈ l, ∀ y, y ∈ wy x → y ∈ l) {f d : Int} (hf : f ∈ l) (h : Dp wy f d) : d < (l.length : Int) := by
  rcases h with ⟨h0, h1, h2⟩ | ⟨h0, _⟩
  · refine Classical.byContradiction fun q => h2 (Cn.all hc f hf (h1.le (by omega)) _)
  · omega
theorem Dp.endless {wy : Int → List Int} {f y : Int} (hy : y ∈ wy f) (h : Dp wy y (-1)) : Dp wy f (-1) := by
  rcases h with ⟨h0, _⟩ | ⟨_, h1⟩
  · omega
  · exact .inr ⟨rfl, fun n => by
      cases n with
      | zero => trivial
      | succ n => exact ⟨y, hy, h1 n⟩⟩
end Go.Proofs.YtollfepggicehabDoor.Lt
