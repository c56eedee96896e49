/-
  What the operations on an entry of the map of places answer and leave: it is looked up, or made; a list is put into it. Condition: a goroutine's numbers are ints.
-/
import Derived.Test.YtalmiphddgmfbabCpBase
namespace Go.Proofs.Ytalmiphddgmfbab.Lt
open Go.RowKit Wd Go.MapKept Go.ChangeMaps

section
variable {w w2 : World} {k : Nat} {M : List Me} {clock : Nat} {s g : Int}
theorem entG_new (h : MAt w k M clock) (hM : ∀ e ∈ M, Gok e.s e.g) (hk : Gok s g) (hn : NoG M s g) : (Instr.mapEntry 72 (.map (some k)) (kG s g)).run Try.prog w = .ok (.tuple #[.slice none 0 0, goInt clock]) (putM w k (M ++ [⟨s, g, .slice none 0 0, clock⟩]) (clock + 1)) := by
  have hz : ∀ u : World, (zeroValue 67).run Try.prog u = .ok (.slice none 0 0) u := fun u => by kernel_rfl
  obtain ⟨l, hl⟩ := key_some hk
  have hc := gid_law.check w false hl
  rcases find_G hk hM w with ⟨h1, _⟩ | ⟨j, u, t, _, h2⟩
  · simp [Instr.mapEntry, run_underlying Try.underlying72, MapKept.run_getObj_map h, hc, h1, hz, MapKept.run_setObj_map _ h, Result.andThen, putM, ent]
  · exact (hn _ (List.mem_of_getElem? h2) ⟨rfl, rfl⟩).elim
theorem setM_self {α : Type} : ∀ (l : List α) (j : Nat) (a : α), l[j]? = some a → l.set j a = l
  | [], _, _, h => by simp at h
  | b :: r, 0, a, h => by simp at h; subst h; rfl
  | b :: r, j + 1, a, h => by simp at h; simp [setM_self r j a h]
theorem entG_some (h : MAt w k M clock) (hM : ∀ e ∈ M, Gok e.s e.g) (hk : Gok s g) (ho : (M.map (fun e => (e.s, e.g))).Nodup) {j t : Nat} {u : Value} (hj : M[j]? = some ⟨s, g, u, t⟩) : (Instr.mapEntry 72 (.map (some k)) (kG s g)).run Try.prog w = .ok (.tuple #[u, goInt t]) (putM w k M clock) := by
  obtain ⟨l, hl⟩ := key_some hk
  have hc := gid_law.check w false hl
  have hf : (Instr.findKey 24 (kG s g) (M.map ent)).run Try.prog w = .ok (some (j, u)) w := by
    rcases find_G hk hM w with ⟨_, h2⟩ | ⟨j', v', t', h1, h2⟩
    · exact (h2 _ (List.mem_of_getElem? hj) ⟨rfl, rfl⟩).elim
    · have e := oneG ho h2 hj ⟨rfl, rfl⟩
      subst e
      rw [hj] at h2
      simp only [Option.some.injEq, Me.mk.injEq, true_and] at h2
      rw [h2.1]
      exact h1
  have hm : (M.map ent).modify j (fun e => { e with key := kG s g }) = M.map ent := by
    apply List.ext_getElem?
    intro i
    rw [List.getElem?_modify, List.getElem?_map]
    by_cases e : j = i
    · subst e
      rw [hj]
      simp [ent]
    · simp only [if_neg e]
      cases M[i]? <;> rfl
  have hs := gid_law.stays w hl
  have hp := MapKept.run_setObj_map (P := Try.prog) (.map (M.map ent).toArray clock) h
  simp [Instr.mapEntry, run_underlying Try.underlying72, MapKept.run_getObj_map h, hc, hf, Result.andThen, hj, ent, hs]
  rw [hm, hp]
  rfl
theorem stoG (h : MAt w2 k M clock) (ho : (M.map (·.b)).Nodup) {j : Nat} {e0 : Me} (hj : M[j]? = some e0) (val : Value) : (Instr.entryStore 72 (.map (some k)) (goInt e0.b) val).run Try.prog w2 = .ok () (putM w2 k (M.set j ⟨e0.s, e0.g, val, e0.b⟩) clock) := by
  have hn : ((M.map ent).map (·.born)).Nodup := by
    rw [List.map_map]
    exact ho
  have hidx : (M.map ent).toArray.findIdx? (fun e => ((e.born : Nat) : Int) == ((e0.b : Nat) : Int)) = some j := by
    rw [Go.WideElems.findIdx_arr]
    exact Go.WideElems.findIdx_born (l := M.map ent) (j := j) (e0 := ent e0) hn (by rw [List.getElem?_map, hj]; rfl)
  have hl2 : j < M.length := (List.getElem?_eq_some_iff.1 hj).1
  have hm : (M.map ent).modify j (fun e => { e with val := val }) = (M.set j ⟨e0.s, e0.g, val, e0.b⟩).map ent := by
    apply List.ext_getElem?
    intro i
    rw [List.getElem?_modify, List.getElem?_map, List.getElem?_map]
    by_cases e : j = i
    · subst e
      rw [hj, List.getElem?_set_self hl2]
      simp [ent]
    · rw [List.getElem?_set_ne e]
      simp only [if_neg e]
      cases M[i]? <;> rfl
  have hp := MapKept.run_setObj_map (P := Try.prog) (.map ((M.set j ⟨e0.s, e0.g, val, e0.b⟩).map ent).toArray clock) h
  have hmA : (M.map ent).toArray.modify j (fun e => { e with val := val }) = ((M.set j ⟨e0.s, e0.g, val, e0.b⟩).map ent).toArray := by
    apply Array.ext'
    rw [Array.toList_modify, ← hm]
  simp only [Instr.entryStore, asInt, asIntOf, goInt, MapKept.run_getObj_map h, Sem.run_bind, Sem.run_pure, Result.andThen_ok, hidx, hmA, hp]
  rfl
end
end Go.Proofs.Ytalmiphddgmfbab.Lt
