/-
  What the operations on a map of numbers to numbers answer and leave; a heap in memory. No conditions.
-/
import Derived.Test.YtgkapopkjgljjaaThPlain
import Derived.Carry
import Derived.WideKeyEntry
namespace Go.Proofs.Ytgkapopkjgljjaa.Hp
open Go.RowKit Wd Go.MapKept Go.ChangeMaps

/-- an entry of the map -/
def ent (e : Int × Int × Nat) : MapEntry := ⟨.int .i64 e.1, .int .i64 e.2.1, e.2.2⟩
/-- a map at a block -/
def MAt (w : World) (k : Nat) (M : List (Int × Int × Nat)) (clock : Nat) : Prop := w.heap[k]? = some (.map (M.map ent).toArray clock)
theorem MAt.lt {w : World} {k : Nat} {M : List (Int × Int × Nat)} {clock : Nat} (h : MAt w k M clock) : k < w.heap.size := lt_of_block h
theorem MAt.ch {S : Nat → Prop} {w w' : World} {k : Nat} {M : List (Int × Int × Nat)} {clock : Nat} (h : MAt w k M clock) (g : Ch S w w') (hn : ¬ S k) : MAt w' k M clock := (g.block k (lt_of_block h) hn).trans h
/-- the world with another map in a block -/
def putM (w : World) (k : Nat) (M : List (Int × Int × Nat)) (clock : Nat) : World := { w with heap := w.heap.setIfInBounds k (.map (M.map ent).toArray clock) }
theorem putM_ch (w : World) (k : Nat) (M : List (Int × Int × Nat)) (clock : Nat) : Ch (Only k) w (putM w k M clock) :=
  ⟨rfl, rfl, rfl, by simp [putM], fun i _ hi => by
    unfold putM
    exact Array.getElem?_setIfInBounds_ne (fun e => hi e.symm)⟩
theorem putM_at {w : World} {k : Nat} (hk : k < w.heap.size) (M : List (Int × Int × Nat)) (clock : Nat) : MAt (putM w k M clock) k M clock := by
  unfold MAt putM
  exact Array.getElem?_setIfInBounds_self_of_lt hk
theorem putM_same {w : World} {k : Nat} {M : List (Int × Int × Nat)} {clock : Nat} (h : MAt w k M clock) : putM w k M clock = w := by
  have e : w.heap.setIfInBounds k (.map (M.map ent).toArray clock) = w.heap := by
    apply Array.ext_getElem?
    intro i
    by_cases hi : i = k
    · subst hi
      rw [Array.getElem?_setIfInBounds_self_of_lt h.lt]
      exact h.symm
    · exact Array.getElem?_setIfInBounds_ne (fun e => hi e.symm)
  unfold putM
  rw [e]

section
variable {w : World} {k : Nat} {M : List (Int × Int × Nat)} {clock : Nat}
theorem isk (a : Int) : IsKey (.int .i64) (.int .i64 a) := by simp [IsKey]
theorem find_M (M : List (Int × Int × Nat)) (a : Int) (w : World) : ((Instr.findKey 3 (.int .i64 a) (M.map ent)).run Try.prog w = .ok none w ∧ ∀ e ∈ M, e.1 ≠ a) ∨ ∃ (j : Nat) (v : Int) (t : Nat), M[j]? = some (a, v, t) ∧ (Instr.findKey 3 (.int .i64 a) (M.map ent)).run Try.prog w = .ok (some (j, .int .i64 v)) w := by
  have hks : ∀ x ∈ M.map ent, IsKey (.int .i64) x.key := fun x hx => by
    obtain ⟨e, _, rfl⟩ := List.mem_map.1 hx
    exact isk _
  rcases findNow_spec (isk a) (M.map ent) 0 hks with ⟨h1, h2⟩ | ⟨j, e0, h1, h2, h3⟩
  · exact .inl ⟨run_findKey Try.underlying3 h1, fun e he h => h2 (ent e) (List.mem_map.2 ⟨e, he, rfl⟩) (by simp [ent, h])⟩
  · rw [List.getElem?_map] at h2
    cases hm : M[j]? with
    | none => rw [hm] at h2; cases h2
    | some e =>
      rw [hm] at h2
      injection h2 with h2
      obtain ⟨b, v, t⟩ := e
      subst h2
      have hb : b = a := by simpa [ent] using h3
      subst hb
      refine .inr ⟨j, v, t, hm, ?_⟩
      have := run_findKey (P := Try.prog) (w := w) Try.underlying3 h1
      simpa [ent] using this
theorem find_one (ho : MOk M clock) {j : Nat} {a v : Int} {t : Nat} (hj : M[j]? = some (a, v, t)) (w : World) : (Instr.findKey 3 (.int .i64 a) (M.map ent)).run Try.prog w = .ok (some (j, .int .i64 v)) w := by
  rcases find_M M a w with ⟨_, h2⟩ | ⟨j', v', t', h1, h2⟩
  · exact (h2 (a, v, t) (List.mem_of_getElem? hj) rfl).elim
  · have e := ho.one h1 hj rfl
    subst e
    rw [hj] at h1
    simp only [Option.some.injEq, Prod.mk.injEq, true_and] at h1
    rw [h1.1]
    exact h2
theorem find_none {a : Int} (hn : ∀ e ∈ M, e.1 ≠ a) (w : World) : (Instr.findKey 3 (.int .i64 a) (M.map ent)).run Try.prog w = .ok none w := by
  rcases find_M M a w with ⟨h1, _⟩ | ⟨j', v', t', h1, _⟩
  · exact h1
  · exact (hn (a, v', t') (List.mem_of_getElem? h1) rfl).elim
theorem look_some (h : MAt w k M clock) (ho : MOk M clock) {j : Nat} {a v : Int} {t : Nat} (hj : M[j]? = some (a, v, t)) (c : Bool) : (Instr.lookup 98 (.map (some k)) (.int .i64 a) c).run Try.prog w = .ok (if c then .tuple #[.int .i64 v, .bool true] else .int .i64 v) w := by
  have hz := find_one ho hj w
  simp [Instr.lookup, run_underlying Try.underlying98, MapKept.run_getObj_map h, run_checkKey (P := Try.prog) (w := w) Try.underlying3 (isk a) _ 9999, hz, Result.andThen]
theorem look_none (h : MAt w k M clock) {a : Int} (hn : ∀ e ∈ M, e.1 ≠ a) (c : Bool) : (Instr.lookup 98 (.map (some k)) (.int .i64 a) c).run Try.prog w = .ok (if c then .tuple #[.int .i64 0, .bool false] else .int .i64 0) w := by
  have hf := find_none hn w
  have hz : (zeroValue 3).run Try.prog w = .ok (.int .i64 0) w := by kernel_rfl
  simp [Instr.lookup, run_underlying Try.underlying98, MapKept.run_getObj_map h, run_checkKey (P := Try.prog) (w := w) Try.underlying3 (isk a) _ 9999, hf, hz, Result.andThen]
theorem look_nil (a : Int) (c : Bool) (w : World) : (Instr.lookup 98 (.map none) (.int .i64 a) c).run Try.prog w = .ok (if c then .tuple #[.int .i64 0, .bool false] else .int .i64 0) w := by
  have hf := find_none (M := []) (a := a) (fun e he => by simp at he) w
  have hz : (zeroValue 3).run Try.prog w = .ok (.int .i64 0) w := by kernel_rfl
  simp only [List.map_nil] at hf
  simp [Instr.lookup, run_underlying Try.underlying98, run_checkKey (P := Try.prog) (w := w) Try.underlying3 (isk a) _ 9999, hf, hz, Result.andThen]
theorem update_new (h : MAt w k M clock) {a : Int} (hn : ∀ e ∈ M, e.1 ≠ a) (v : Int) : (Instr.mapUpdate 98 (.map (some k)) (.int .i64 a) (.int .i64 v)).run Try.prog w = .ok () (putM w k (M ++ [(a, v, clock)]) (clock + 1)) := by
  have hf := find_none hn w
  simp [Instr.mapUpdate, run_underlying Try.underlying98, MapKept.run_getObj_map h, run_checkKey (P := Try.prog) (w := w) Try.underlying3 (isk a) _ 9999, hf, MapKept.run_setObj_map _ h, Result.andThen, putM, ent]
theorem entry_some (h : MAt w k M clock) (ho : MOk M clock) {j : Nat} {a v : Int} {t : Nat} (hj : M[j]? = some (a, v, t)) : (Instr.mapEntry 98 (.map (some k)) (.int .i64 a)).run Try.prog w = .ok (.tuple #[.int .i64 v, goInt t]) w := by
  have hf := find_one ho hj w
  have hl : j < M.length := (List.getElem?_eq_some_iff.1 hj).1
  have hm : (M.map ent).modify j (fun e => { e with key := .int .i64 a }) = M.map ent := by
    apply List.ext_getElem?
    intro i
    rw [List.getElem?_modify, List.getElem?_map]
    by_cases e : j = i
    · subst e
      rw [hj]
      simp [ent]
    · simp only [if_neg e]
      cases M[i]? <;> rfl
  have hs : (Instr.keyThatStays (.int .i64 a) (.int .i64 a)).run Try.prog w = .ok (.int .i64 a) w := run_keyThatStays (isk a)
  have hw : ({ w with heap := w.heap.setIfInBounds k (.map (M.map ent).toArray clock) } : World) = w := putM_same h
  have hp := MapKept.run_setObj_map (P := Try.prog) (.map (M.map ent).toArray clock) h
  rw [hw] at hp
  simp [Instr.mapEntry, run_underlying Try.underlying98, MapKept.run_getObj_map h, run_checkKey (P := Try.prog) (w := w) Try.underlying3 (isk a) _ 9999, hf, Result.andThen, hj, ent, hs, hm, hp]
theorem store_some (h : MAt w k M clock) (ho : MOk M clock) {j : Nat} {a v : Int} {t : Nat} (hj : M[j]? = some (a, v, t)) (u : Int) : (Instr.entryStore 98 (.map (some k)) (goInt t) (.int .i64 u)).run Try.prog w = .ok () (putM w k (M.set j (a, u, t)) clock) := by
  have hl : j < M.length := (List.getElem?_eq_some_iff.1 hj).1
  have hi : (M.map ent).toArray.findIdx? (fun e => ((e.born : Nat) : Int) == ((t : Nat) : Int)) = some j := by
    rw [WideElems.findIdx_arr]
    have hnd : ((M.map ent).map (·.born)).Nodup := by rw [List.map_map]; exact ho.t
    exact WideElems.findIdx_born (l := M.map ent) hnd (j := j) (e0 := ent (a, v, t)) (by rw [List.getElem?_map, hj]; rfl)
  have hm : (M.map ent).modify j (fun e => { e with val := .int .i64 u }) = (M.set j (a, u, t)).map ent := by
    apply List.ext_getElem?
    intro i
    rw [List.getElem?_modify, List.getElem?_map, List.getElem?_map]
    by_cases e : j = i
    · subst e
      rw [hj, List.getElem?_set_self hl]
      simp [ent]
    · rw [List.getElem?_set_ne e]
      simp only [if_neg e]
      cases M[i]? <;> rfl
  have hp := MapKept.run_setObj_map (P := Try.prog) (.map ((M.set j (a, u, t)).map ent).toArray clock) h
  have hg : (getObj k).run Try.prog w = .ok (.map (M.map ent).toArray clock) w := MapKept.run_getObj_map h
  have ha : (M.map ent).toArray.modify j (fun e => { e with val := .int .i64 u }) = ((M.set j (a, u, t)).map ent).toArray := by rw [List.modify_toArray, hm]
  have hi2 : List.findIdx? ((fun e => ((e.born : Nat) : Int) == ((t : Nat) : Int)) ∘ ent) M = some j := by
    rw [← hi]
    simp
  simp [Instr.entryStore, goInt, hg, asInt, asIntOf, Result.andThen, hi2]
  rw [hm]
  exact hp
theorem drop_some (h : MAt w k M clock) (ho : MOk M clock) {j : Nat} {a v : Int} {t : Nat} (hj : M[j]? = some (a, v, t)) (ty : TypeId) : (Builtin.delete_ #[98, 3] ty #[.map (some k), .int .i64 a]).run Try.prog w = .ok (.tuple #[]) (putM w k (M.eraseIdx j) clock) := by
  have hf := find_one ho hj w
  simp [Builtin.delete_, run_underlying Try.underlying98, MapKept.run_getObj_map h, run_checkKey (P := Try.prog) (w := w) Try.underlying3 (isk a) _ 9999, hf, MapKept.run_setObj_map _ h, Result.andThen, putM]
  rw [map_eraseIdx]
end
end Go.Proofs.Ytgkapopkjgljjaa.Hp
