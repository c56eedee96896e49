/-
  What the operations on the map of goroutines to lists answer and leave. Condition: a goroutine's two numbers are ints.
-/
import Derived.Test.YtalmiphddgmfbabCnMem
import Derived.Carry
import Derived.WideKeyEntry
import Derived.DeepKeys4
namespace Go.Proofs.Ytalmiphddgmfbab.Lt
open Go.RowKit Wd Go.MapKept Go.ChangeMaps

/-- a goroutine as a key -/
def kG (s g : Int) : Value := .agg #[.int .i64 s, .int .i64 g]
/-- its numbers are ints -/
def Gok (s g : Int) : Prop := (-9223372036854775808 ≤ s ∧ s ≤ 9223372036854775807) ∧ (-9223372036854775808 ≤ g ∧ g ≤ 9223372036854775807)
/-- an entry: whose, its list, when it came -/
structure Me where
  s : Int
  g : Int
  v : Value
  b : Nat
def ent (e : Me) : MapEntry := ⟨kG e.s e.g, e.v, e.b⟩
def MAt (w : World) (k : Nat) (M : List Me) (clock : Nat) : Prop := w.heap[k]? = some (.map (M.map ent).toArray clock)
theorem gid_law : WideMaps.KeyLaw Try.prog 24 := deep_law (m := 2) (by omega) (by kernel_rfl) (by kernel_rfl) (by kernel_rfl)
theorem wf_i64 {n : Int} (h0 : -9223372036854775808 ≤ n) (h1 : n ≤ 9223372036854775807) : (Lit.int .i64 n).wf = true := by
  simp only [Lit.wf, IntKind.min, IntKind.max, IntKind.signed, IntKind.bits, Bool.and_eq_true, decide_eq_true_eq, if_true]
  omega
theorem key_some {s g : Int} (h : Gok s g) : ∃ l, keyOf Try.prog 24 (kG s g) = some l := by
  obtain ⟨⟨h1, h2⟩, h3, h4⟩ := h
  have wa := wf_i64 (n := s) h1 h2
  have wb := wf_i64 (n := g) h3 h4
  have hk : Try.prog.keyType 24 = true := by kernel_rfl
  have hf : (kG s g).formed Try.prog 24 = true := by
    unfold kG Value.formed
    simp only [Try.underlying24]
    kernel_rfl
  obtain ⟨d, hz⟩ : ∃ d, Try.prog.types.size = d + 1 := ⟨Try.prog.types.size - 1, by kernel_rfl⟩
  have ki : ∀ n : Int, (Lit.int .i64 n).wf = true → Try.prog.keyLits (d + 1) 3 [.int .i64 n] = some [.int .i64 n] := fun n hn => by
    unfold Program.keyLits
    simp only [Try.underlying3]
    simp [hn]
  have c1 : Try.prog.cellsOf 24 = 2 := by kernel_rfl
  have c2 : Try.prog.cellsOf 3 = 1 := by kernel_rfl
  unfold keyOf
  simp only [Try.underlying24]
  rw [hk, hf, hz]
  simp only [Bool.and_self, if_true]
  unfold Program.keyLits
  simp only [Try.underlying24]
  rw [if_pos ⟨by rw [c1]; rfl, by kernel_rfl⟩]
  simp [kG, Value.cells, c2, ki s wa, ki g wb]
theorem kG_inj {s g s' g' : Int} (h : kG s g = kG s' g') : s = s' ∧ g = g' := by
  unfold kG at h
  simpa using h
section
variable {w : World} {k : Nat} {M : List Me} {clock : Nat} {s g : Int}
theorem MAt.lt (h : MAt w k M clock) : k < w.heap.size := lt_of_block h
theorem MAt.ch {S : Nat → Prop} {w' : World} (h : MAt w k M clock) (c : Ch S w w') (hn : ¬ S k) : MAt w' k M clock := (c.block k (lt_of_block h) hn).trans h
/-- it has none -/
def NoG (M : List Me) (s g : Int) : Prop := ∀ e ∈ M, ¬ (e.s = s ∧ e.g = g)
theorem find_G (hk : Gok s g) (hM : ∀ e ∈ M, Gok e.s e.g) (w : World) : ((Instr.findKey 24 (kG s g) (M.map ent)).run Try.prog w = .ok none w ∧ NoG M s g) ∨ ∃ (j : Nat) (v : Value) (t : Nat), (Instr.findKey 24 (kG s g) (M.map ent)).run Try.prog w = .ok (some (j, v)) w ∧ M[j]? = some (Me.mk s g v t) := by
  obtain ⟨l, hl⟩ := key_some hk
  rcases gid_law.find w hl (M.map ent) (fun e he => by
      obtain ⟨x, hx, rfl⟩ := List.mem_map.1 he
      exact key_some (hM x hx)) with ⟨h1, h2⟩ | ⟨j, e, h1, h2, h3⟩
  · refine .inl ⟨h1, fun x hx e => h2 (ent x) (List.mem_map.2 ⟨x, hx, rfl⟩) ?_⟩
    rw [← e.1, ← e.2]
    rfl
  · rw [List.getElem?_map] at h2
    cases hm : M[j]? with
    | none => rw [hm] at h2; cases h2
    | some x =>
      rw [hm] at h2
      injection h2 with h2
      subst h2
      obtain ⟨a, b, v, t⟩ := x
      obtain ⟨e1, e2⟩ := kG_inj h3
      dsimp only at e1 e2
      subst e1 e2
      exact .inr ⟨j, v, t, h1, hm⟩
/-- what a goroutine has there -/
theorem look_G (h : MAt w k M clock) (hM : ∀ e ∈ M, Gok e.s e.g) (hk : Gok s g) : ((Instr.lookup 72 (.map (some k)) (kG s g) false).run Try.prog w = .ok (.slice none 0 0) w ∧ NoG M s g) ∨ ∃ (j : Nat) (v : Value) (t : Nat), (Instr.lookup 72 (.map (some k)) (kG s g) false).run Try.prog w = .ok v w ∧ M[j]? = some (Me.mk s g v t) := by
  have hz : (zeroValue 67).run Try.prog w = .ok (.slice none 0 0) w := by kernel_rfl
  obtain ⟨l, hl⟩ := key_some hk
  have hc := gid_law.check w M.isEmpty hl
  rcases find_G hk hM w with ⟨h1, h2⟩ | ⟨j, v, t, h1, h2⟩
  · refine .inl ⟨?_, h2⟩
    simp [Instr.lookup, run_underlying Try.underlying72, MapKept.run_getObj_map h, hc, h1, hz, Result.andThen]
  · refine .inr ⟨j, v, t, ?_, h2⟩
    simp [Instr.lookup, run_underlying Try.underlying72, MapKept.run_getObj_map h, hc, h1, Result.andThen]
/-- the world with another map in a block -/
def putM (w : World) (k : Nat) (M : List Me) (clock : Nat) : World := { w with heap := w.heap.setIfInBounds k (.map (M.map ent).toArray clock) }
theorem putM_ch (w : World) (k : Nat) (M : List Me) (clock : Nat) : Ch (Only k) w (putM w k M clock) :=
  ⟨rfl, rfl, rfl, by simp [putM], fun i _ hi => by
    unfold putM
    exact Array.getElem?_setIfInBounds_ne (fun e => hi e.symm)⟩
theorem putM_at {w : World} {k : Nat} (hb : k < w.heap.size) (M : List Me) (clock : Nat) : MAt (putM w k M clock) k M clock := by
  unfold MAt putM
  exact Array.getElem?_setIfInBounds_self_of_lt hb
theorem updG_new (h : MAt w k M clock) (hM : ∀ e ∈ M, Gok e.s e.g) (hk : Gok s g) (hn : NoG M s g) (v : Value) : (Instr.mapUpdate 72 (.map (some k)) (kG s g) v).run Try.prog w = .ok () (putM w k (M ++ [⟨s, g, v, clock⟩]) (clock + 1)) := by
  obtain ⟨l, hl⟩ := key_some hk
  have hc := gid_law.check w false hl
  rcases find_G hk hM w with ⟨h1, _⟩ | ⟨j, u, t, _, h2⟩
  · simp [Instr.mapUpdate, run_underlying Try.underlying72, MapKept.run_getObj_map h, hc, h1, MapKept.run_setObj_map _ h, Result.andThen, putM, ent]
  · exact (hn _ (List.mem_of_getElem? h2) ⟨rfl, rfl⟩).elim
theorem oneG (ho : (M.map (fun e => (e.s, e.g))).Nodup) {i j : Nat} {a b : Me} (hi : M[i]? = some a) (hj : M[j]? = some b) (e : a.s = b.s ∧ a.g = b.g) : i = j := by
  have h1 : (M.map (fun e => (e.s, e.g)))[i]? = some (a.s, a.g) := by rw [List.getElem?_map, hi]; rfl
  have h2 : (M.map (fun e => (e.s, e.g)))[j]? = some (a.s, a.g) := by rw [List.getElem?_map, hj, e.1, e.2]; rfl
  exact (List.getElem?_inj (List.getElem?_eq_some_iff.1 h1).1 ho).1 (h1.trans h2.symm)
theorem updG_some (h : MAt w k M clock) (hM : ∀ e ∈ M, Gok e.s e.g) (hk : Gok s g) (ho : (M.map (fun e => (e.s, e.g))).Nodup) {j t : Nat} {u : Value} (hj : M[j]? = some ⟨s, g, u, t⟩) (v : Value) : (Instr.mapUpdate 72 (.map (some k)) (kG s g) v).run Try.prog w = .ok () (putM w k (M.set j ⟨s, g, v, t⟩) clock) := by
  obtain ⟨l, hl⟩ := key_some hk
  have hc := gid_law.check w false hl
  have hf : (Instr.findKey 24 (kG s g) (M.map ent)).run Try.prog w = .ok (some (j, u)) w := by
    rcases find_G hk hM w with ⟨_, h2⟩ | ⟨j', v', t', h1, h2⟩
    · exact (h2 _ (List.mem_of_getElem? hj) ⟨rfl, rfl⟩).elim
    · have e := oneG ho h2 hj ⟨rfl, rfl⟩
      subst e
      rw [hj] at h2
      simp only [Option.some.injEq, Me.mk.injEq, true_and] at h2
      rw [h2.1]
      exact h1
  have hl2 : j < M.length := (List.getElem?_eq_some_iff.1 hj).1
  have hm : (M.map ent).modify j (fun e => { e with key := kG s g, val := v }) = (M.set j ⟨s, g, v, t⟩).map ent := by
    apply List.ext_getElem?
    intro i
    rw [List.getElem?_modify, List.getElem?_map, List.getElem?_map]
    by_cases e : j = i
    · subst e
      rw [hj, List.getElem?_set_self hl2]
      simp [ent]
    · rw [List.getElem?_set_ne e]
      simp only [if_neg e]
      cases M[i]? <;> rfl
  have hs := gid_law.stays w hl
  have hp := MapKept.run_setObj_map (P := Try.prog) (.map ((M.set j ⟨s, g, v, t⟩).map ent).toArray clock) h
  simp [Instr.mapUpdate, run_underlying Try.underlying72, MapKept.run_getObj_map h, hc, hf, Result.andThen, hj, ent, hs]
  rw [hm]
  exact hp
theorem erase_map {α β : Type} (f : α → β) : ∀ (l : List α) (j : Nat), (l.map f).eraseIdx j = (l.eraseIdx j).map f
  | [], _ => rfl
  | _ :: _, 0 => rfl
  | x :: l, j + 1 => by rw [List.map_cons, List.eraseIdx_cons_succ, List.eraseIdx_cons_succ, List.map_cons, erase_map f l j]
/-- delete: the entry is gone; the others are as they were -/
theorem delG (h : MAt w k M clock) (hM : ∀ e ∈ M, Gok e.s e.g) (hk : Gok s g) (ho : (M.map (fun e => (e.s, e.g))).Nodup) (ty : TypeId) :
    ∃ M', (Builtin.delete_ #[72, 24] ty #[.map (some k), kG s g]).run Try.prog w = .ok (.tuple #[]) (putM w k M' clock) ∧ M'.Sublist M ∧ NoG M' s g ∧ ∀ e ∈ M, ¬ (e.s = s ∧ e.g = g) → e ∈ M' := by
  obtain ⟨l, hl⟩ := key_some hk
  have hc := gid_law.check w M.isEmpty hl
  rcases find_G hk hM w with ⟨h1, h2⟩ | ⟨j, v, t, h1, h2⟩
  · refine ⟨M, ?_, List.Sublist.refl _, h2, fun e he _ => he⟩
    simp [Builtin.delete_, run_underlying Try.underlying72, MapKept.run_getObj_map h, hc, h1, MapKept.run_setObj_map _ h, Result.andThen, putM]
  · refine ⟨M.eraseIdx j, ?_, List.eraseIdx_sublist _ _, fun e he e2 => ?_, fun e he hne => ?_⟩
    · simp [Builtin.delete_, run_underlying Try.underlying72, MapKept.run_getObj_map h, hc, h1, Result.andThen, erase_map, MapKept.run_setObj_map _ h, putM]
    · obtain ⟨i, hi⟩ := List.mem_iff_getElem?.1 he
      rw [List.getElem?_eraseIdx] at hi
      split at hi
      · have := oneG ho hi h2 e2; omega
      · have := oneG ho hi h2 e2; omega
    · obtain ⟨i, hi⟩ := List.mem_iff_getElem?.1 he
      refine List.mem_iff_getElem?.2 ?_
      by_cases e1 : i = j
      · subst e1
        rw [h2] at hi
        injection hi with hi
        subst hi
        exact (hne ⟨rfl, rfl⟩).elim
      · by_cases e3 : i < j
        · exact ⟨i, by rw [List.getElem?_eraseIdx, if_pos e3]; exact hi⟩
        · exact ⟨i - 1, by rw [List.getElem?_eraseIdx, if_neg (by omega), show i - 1 + 1 = i by omega]; exact hi⟩
end
end Go.Proofs.Ytalmiphddgmfbab.Lt
