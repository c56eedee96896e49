/-
  What the operations on the reader's map of names answer and leave. Condition: a name's numbers are ints, and its text is no longer than one can be.
-/
import Derived.Test.YtbehlhnnfdkmaaaGreatDoorLtKind
import Derived.Carry
import Derived.WideKeyEntry
import Derived.DeepKeys4
namespace Go.Proofs.YtbehlhnnfdkmaaaGreatDoor.Lt
open Go.RowKit Wd Go.MapKept Go.ChangeMaps

/-- a name: its kind, the function of a label, its text -/
abbrev Nm := Int × Int × ByteArray
def kV (k : Nm) : Value := .agg #[.int .i64 k.1, .int .i64 k.2.1, .string k.2.2]
/-- it is one that can be -/
def Nok (k : Nm) : Prop := (0 ≤ k.1 ∧ k.1 ≤ 3) ∧ (-1 ≤ k.2.1 ∧ k.2.1 ≤ 4294967296) ∧ k.2.2.size ≤ 4294967296
/-- an entry of the map -/
def ent (e : Nm × Int × Nat) : MapEntry := ⟨kV e.1, .int .i64 e.2.1, e.2.2⟩
def MAt (w : World) (k : Nat) (M : List (Nm × Int × Nat)) (clock : Nat) : Prop := w.heap[k]? = some (.map (M.map ent).toArray clock)

theorem name_law : WideMaps.KeyLaw Tryz.prog 100 := deep_law (m := 3) (by omega) (by kernel_rfl) (by kernel_rfl) (by kernel_rfl)
theorem wf_i64 {n : Int} (h0 : -9223372036854775808 ≤ n) (h1 : n ≤ 9223372036854775807) : (Lit.int .i64 n).wf = true := by
  simp only [Lit.wf, IntKind.min, IntKind.max, IntKind.signed, IntKind.bits, Bool.and_eq_true, decide_eq_true_eq, if_true]
  omega
theorem key_some {k : Nm} (h : Nok k) : ∃ l, keyOf Tryz.prog 100 (kV k) = some l := by
  obtain ⟨a, b, s⟩ := k
  obtain ⟨⟨h1, h2⟩, ⟨h3, h4⟩, h5⟩ := h
  have wa := wf_i64 (n := a) (by simp at h1; omega) (by simp at h2; omega)
  have wb := wf_i64 (n := b) (by simp at h3; omega) (by simp at h4; omega)
  have ws : s.size ≤ maxLen := by unfold maxLen; simp at h5; omega
  have hk : Tryz.prog.keyType 100 = true := by kernel_rfl
  have hf : (kV (a, b, s)).formed Tryz.prog 100 = true := by
    unfold kV Value.formed
    simp only [Tryz.underlying100]
    kernel_rfl
  obtain ⟨d, hz⟩ : ∃ d, Tryz.prog.types.size = d + 1 := ⟨217, by kernel_rfl⟩
  have ki : ∀ n : Int, (Lit.int .i64 n).wf = true → Tryz.prog.keyLits (d + 1) 3 [.int .i64 n] = some [.int .i64 n] := fun n hn => by
    unfold Program.keyLits
    simp only [Tryz.underlying3]
    simp [hn]
  have ks : Tryz.prog.keyLits (d + 1) 9 [.string s] = some [.string s.data.toList] := by
    unfold Program.keyLits
    simp only [Tryz.underlying9]
    rw [if_pos ws]
  have c1 : Tryz.prog.cellsOf 100 = 3 := by kernel_rfl
  have c2 : Tryz.prog.cellsOf 3 = 1 := by kernel_rfl
  have c3 : Tryz.prog.cellsOf 9 = 1 := by kernel_rfl
  unfold keyOf
  simp only [Tryz.underlying100]
  rw [hk, hf, hz]
  simp only [Bool.and_self, if_true]
  unfold Program.keyLits
  simp only [Tryz.underlying100]
  rw [if_pos ⟨by rw [c1]; rfl, by kernel_rfl⟩]
  simp [kV, Value.cells, c2, c3, ki a wa, ki b wb, ks]

/-- the places of names in the map rise, and are told once -/
structure MOk (M : List (Nm × Int × Nat)) (clock : Nat) : Prop where
  ok : ∀ e ∈ M, Nok e.1
  one : (M.map (·.1)).Nodup
theorem kV_inj {a b : Nm} (h : kV a = kV b) : a = b := by
  obtain ⟨a1, a2, a3⟩ := a
  obtain ⟨b1, b2, b3⟩ := b
  unfold kV at h
  simp at h
  obtain ⟨rfl, rfl, rfl⟩ := h
  rfl
/-- what a name is given -/
def look (M : List (Nm × Int × Nat)) (k : Nm) : Option Int := (M.find? (fun e => decide (e.1 = k))).map (·.2.1)

section
variable {w : World} {b : Nat} {M : List (Nm × Int × Nat)} {clock : Nat} {k : Nm}
theorem MAt.lt (h : MAt w b M clock) : b < w.heap.size := lt_of_block h
theorem find_M (hk : Nok k) (hM : ∀ e ∈ M, Nok e.1) (w : World) : ((Instr.findKey 100 (kV k) (M.map ent)).run Tryz.prog w = .ok none w ∧ look M k = none) ∨ ∃ j v, (Instr.findKey 100 (kV k) (M.map ent)).run Tryz.prog w = .ok (some (j, .int .i64 v)) w ∧ ∃ t, M[j]? = some (k, v, t) := by
  obtain ⟨l, hl⟩ := key_some hk
  rcases name_law.find w hl (M.map ent) (fun e he => by
      obtain ⟨x, hx, rfl⟩ := List.mem_map.1 he
      exact key_some (hM x hx)) with ⟨h1, h2⟩ | ⟨j, e, h1, h2, h3⟩
  · refine .inl ⟨h1, ?_⟩
    unfold look
    rw [Option.map_eq_none_iff, List.find?_eq_none]
    intro x hx
    simp
    intro e
    exact h2 (ent x) (List.mem_map.2 ⟨x, hx, rfl⟩) (by rw [← e]; rfl)
  · rw [List.getElem?_map] at h2
    cases hm : M[j]? with
    | none => rw [hm] at h2; cases h2
    | some x =>
      rw [hm] at h2
      injection h2 with h2
      subst h2
      obtain ⟨a, v, t⟩ := x
      have e : a = k := kV_inj h3
      subst e
      exact .inr ⟨j, v, h1, t, hm⟩
theorem look_of (ho : (M.map (·.1)).Nodup) {j : Nat} {v : Int} {t : Nat} (h : M[j]? = some (k, v, t)) : look M k = some v := by
  unfold look
  induction M generalizing j with
  | nil => simp at h
  | cons x r ih =>
    rw [List.map_cons, List.nodup_cons] at ho
    rw [List.find?_cons]
    cases j with
    | zero =>
      simp only [List.getElem?_cons_zero, Option.some.injEq] at h
      subst h
      simp
    | succ j =>
      rw [List.getElem?_cons_succ] at h
      have hne : x.1 ≠ k := fun e => ho.1 (by rw [e]; exact List.mem_map.2 ⟨_, List.mem_of_getElem? h, rfl⟩)
      simp only [hne, decide_false]
      exact ih ho.2 h
theorem lookup_any (h : MAt w b M clock) (ho : MOk M clock) (hk : Nok k) : (Instr.lookup 48 (.map (some b)) (kV k) true).run Tryz.prog w = .ok (.tuple #[.int .i64 ((look M k).getD 0), .bool (look M k).isSome]) w := by
  have hz : (zeroValue 3).run Tryz.prog w = .ok (.int .i64 0) w := by kernel_rfl
  obtain ⟨l, hl⟩ := key_some hk
  have hc := name_law.check w M.isEmpty hl
  rcases find_M hk ho.ok w with ⟨h1, h2⟩ | ⟨j, v, h1, t, h2⟩
  · rw [h2]
    simp [Instr.lookup, run_underlying Tryz.underlying48, MapKept.run_getObj_map h, hc, h1, hz, Result.andThen]
  · rw [look_of ho.one h2]
    simp [Instr.lookup, run_underlying Tryz.underlying48, MapKept.run_getObj_map h, hc, h1, Result.andThen]
/-- the world with another map in a block -/
def putM (w : World) (b : Nat) (M : List (Nm × Int × Nat)) (clock : Nat) : World := { w with heap := w.heap.setIfInBounds b (.map (M.map ent).toArray clock) }
theorem putM_ch (w : World) (b : Nat) (M : List (Nm × Int × Nat)) (clock : Nat) : Ch (Only b) w (putM w b M clock) :=
  ⟨rfl, rfl, rfl, by simp [putM], fun i _ hi => by
    unfold putM
    exact Array.getElem?_setIfInBounds_ne (fun e => hi e.symm)⟩
theorem putM_at {w : World} {b : Nat} (hb : b < w.heap.size) (M : List (Nm × Int × Nat)) (clock : Nat) : MAt (putM w b M clock) b M clock := by
  unfold MAt putM
  exact Array.getElem?_setIfInBounds_self_of_lt hb
theorem update_new (h : MAt w b M clock) (hM : ∀ e ∈ M, Nok e.1) (hk : Nok k) (hn : look M k = none) (v : Int) : (Instr.mapUpdate 48 (.map (some b)) (kV k) (.int .i64 v)).run Tryz.prog w = .ok () (putM w b (M ++ [(k, v, clock)]) (clock + 1)) := by
  obtain ⟨l, hl⟩ := key_some hk
  have hc := name_law.check w false hl
  rcases find_M hk hM w with ⟨h1, _⟩ | ⟨j, u, _, t, h2⟩
  · simp [Instr.mapUpdate, run_underlying Tryz.underlying48, MapKept.run_getObj_map h, hc, h1, MapKept.run_setObj_map _ h, Result.andThen, putM, ent]
  · exfalso
    unfold look at hn
    rw [Option.map_eq_none_iff, List.find?_eq_none] at hn
    have := hn _ (List.mem_of_getElem? h2)
    simp at this
end
theorem look_snoc (M : List (Nm × Int × Nat)) (k : Nm) (v : Int) (c : Nat) (x : Nm) : look (M ++ [(k, v, c)]) x = (look M x).or (if k = x then some v else none) := by
  unfold look
  rw [List.find?_append]
  cases M.find? (fun e => decide (e.1 = x)) with
  | some y => rfl
  | none =>
    by_cases h : k = x
    · simp [h]
    · simp [h]
theorem MOk.snoc {M : List (Nm × Int × Nat)} {clock : Nat} {k : Nm} (h : MOk M clock) (hk : Nok k) (hn : look M k = none) (v : Int) : MOk (M ++ [(k, v, clock)]) (clock + 1) := by
  refine ⟨fun e he => ?_, ?_⟩
  · rcases List.mem_append.1 he with he | he
    · exact h.ok e he
    · have : e = (k, v, clock) := by simpa using he
      rw [this]
      exact hk
  · rw [List.map_append, List.nodup_append]
    refine ⟨h.one, by simp, fun a ha b hb => ?_⟩
    have e : b = k := by simpa using hb
    subst e
    rintro rfl
    obtain ⟨x, hx, e⟩ := List.mem_map.1 ha
    unfold look at hn
    rw [Option.map_eq_none_iff, List.find?_eq_none] at hn
    exact hn x hx (by simp [e])
end Go.Proofs.YtbehlhnnfdkmaaaGreatDoor.Lt
