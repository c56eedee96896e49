/-
  What the operations on the map of names to timers, and on the set of goroutines, answer and leave. Condition: a goroutine's two numbers are ints.
-/
import Derived.Test.YtgkapopkjgljjaaGnList
import Derived.Test.YtgkapopkjgljjaaTmPlain
import Derived.Carry
import Derived.WideKeyEntry
import Derived.DeepKeys4
namespace Go.Proofs.Ytgkapopkjgljjaa.Lt
open Go.RowKit Wd Go.MapKept Go.ChangeMaps

/-- a timer's cells -/
def eT (t : Tk) : List Value := [.int .i64 t.id, .int .i64 t.kind, .int .i64 t.s, .int .i64 t.g, .int .i64 t.ch, .int .u64 t.wh, .bool t.nv, .int .u64 t.pd]
theorem eT_len (t : Tk) : (eT t).length = 8 := rfl
/-- a timer with its number, as the map keeps it -/
def aV (t : Tk) (n : Int) : Value := .agg #[.int .i64 t.id, .int .i64 t.kind, .int .i64 t.s, .int .i64 t.g, .int .i64 t.ch, .int .u64 t.wh, .bool t.nv, .int .u64 t.pd, .int .i64 n]
def Tk.zero : Tk := ⟨0, 0, 0, 0, 0, 0, false, 0⟩
/-- an entry: a timer, its number, when it came -/
structure Me where
  t : Tk
  n : Int
  b : Nat
def ent (e : Me) : MapEntry := ⟨.int .i64 e.t.id, aV e.t e.n, e.b⟩
/-- the map of the timers at a block -/
def MAt (w : World) (k : Nat) (M : List Me) (clock : Nat) : Prop := w.heap[k]? = some (.map (M.map ent).toArray clock)
theorem MAt.lt {w : World} {k : Nat} {M : List Me} {clock : Nat} (h : MAt w k M clock) : k < w.heap.size := lt_of_block h
theorem MAt.ch {S : Nat → Prop} {w w' : World} {k : Nat} {M : List Me} {clock : Nat} (h : MAt w k M clock) (g : Ch S w w') (hn : ¬ S k) : MAt w' k M clock := (g.block k (lt_of_block h) hn).trans h
/-- the world with another map in a block -/
def putM (w : World) (k : Nat) (M : List Me) (clock : Nat) : World := { w with heap := w.heap.setIfInBounds k (.map (M.map ent).toArray clock) }
theorem putM_ch (w : World) (k : Nat) (M : List Me) (clock : Nat) : Ch (Only k) w (putM w k M clock) :=
  ⟨rfl, rfl, rfl, by simp [putM], fun i _ hi => by
    unfold putM
    exact Array.getElem?_setIfInBounds_ne (fun e => hi e.symm)⟩
theorem putM_at {w : World} {k : Nat} (hk : k < w.heap.size) (M : List Me) (clock : Nat) : MAt (putM w k M clock) k M clock := by
  unfold MAt putM
  exact Array.getElem?_setIfInBounds_self_of_lt hk
theorem erase_map {α β : Type} (f : α → β) : ∀ (l : List α) (j : Nat), (l.map f).eraseIdx j = (l.eraseIdx j).map f
  | [], _ => rfl
  | _ :: _, 0 => rfl
  | x :: l, j + 1 => by rw [List.map_cons, List.eraseIdx_cons_succ, List.eraseIdx_cons_succ, List.map_cons, erase_map f l j]
/-- the entries of a name are gone -/
def delM (M : List Me) (a : Int) : List Me := M.filter (fun e => isId a e.t)
theorem isk (a : Int) : IsKey (.int .i64) (.int .i64 a) := by simp [IsKey]
theorem ids_erase : ∀ {M : List Me} {j : Nat} {e : Me}, (M.map (·.t.id)).Nodup → M[j]? = some e → M.eraseIdx j = delM M e.t.id
  | [], j, e, _, h => by simp at h
  | x :: M, 0, e, hn, h => by
    simp only [List.getElem?_cons_zero, Option.some.injEq] at h
    subst h
    have h' := List.nodup_cons.1 (show (x.t.id :: M.map (·.t.id)).Nodup from hn)
    unfold delM
    rw [List.eraseIdx_cons_zero, List.filter_cons_of_neg (by simp [isId])]
    refine (List.filter_eq_self.2 (fun u hu => ?_)).symm
    simp only [isId, Bool.not_eq_true', beq_eq_false_iff_ne]
    exact fun e => h'.1 (List.mem_map.2 ⟨u, hu, e⟩)
  | x :: M, j + 1, e, hn, h => by
    have h' := List.nodup_cons.1 (show (x.t.id :: M.map (·.t.id)).Nodup from hn)
    rw [List.getElem?_cons_succ] at h
    have ih := ids_erase h'.2 h
    have hx : x.t.id ≠ e.t.id := fun e1 => h'.1 (List.mem_map.2 ⟨e, List.mem_of_getElem? h, e1.symm⟩)
    unfold delM at *
    rw [List.eraseIdx_cons_succ, List.filter_cons_of_pos (by simp [isId, hx]), ih]
section
variable {w : World} {k : Nat} {M : List Me} {clock : Nat}
theorem find_M (M : List Me) (a : Int) (w : World) : ((Instr.findKey 2 (.int .i64 a) (M.map ent)).run Try.prog w = .ok none w ∧ ∀ e ∈ M, e.t.id ≠ a) ∨ ∃ (j : Nat) (e : Me), M[j]? = some e ∧ e.t.id = a ∧ (Instr.findKey 2 (.int .i64 a) (M.map ent)).run Try.prog w = .ok (some (j, aV e.t e.n)) w := by
  have hks : ∀ x ∈ M.map ent, IsKey (.int .i64) x.key := fun x hx => by
    obtain ⟨e, _, rfl⟩ := List.mem_map.1 hx
    exact isk _
  rcases findNow_spec (isk a) (M.map ent) 0 hks with ⟨h1, h2⟩ | ⟨j, e0, h1, h2, h3⟩
  · exact .inl ⟨run_findKey Try.underlying2 h1, fun e he h => h2 (ent e) (List.mem_map.2 ⟨e, he, rfl⟩) (by simp [ent, h])⟩
  · rw [List.getElem?_map] at h2
    cases hm : M[j]? with
    | none => rw [hm] at h2; cases h2
    | some e =>
      rw [hm] at h2
      injection h2 with h2
      subst h2
      refine .inr ⟨j, e, hm, by simpa [ent] using h3, ?_⟩
      have := run_findKey (P := Try.prog) (w := w) Try.underlying2 h1
      simpa [ent] using this
theorem one_key (ho : (M.map (·.t.id)).Nodup) {i j : Nat} {e f : Me} (hi : M[i]? = some e) (hj : M[j]? = some f) (h : e.t.id = f.t.id) : i = j := by
  have h1 : (M.map (·.t.id))[i]? = some e.t.id := by rw [List.getElem?_map, hi]; rfl
  have h2 : (M.map (·.t.id))[j]? = some e.t.id := by rw [List.getElem?_map, hj, h]; rfl
  exact (List.getElem?_inj (List.getElem?_eq_some_iff.1 h1).1 ho).1 (h1.trans h2.symm)
theorem find_one (ho : (M.map (·.t.id)).Nodup) {e : Me} (he : e ∈ M) (w : World) : ∃ j, M[j]? = some e ∧ (Instr.findKey 2 (.int .i64 e.t.id) (M.map ent)).run Try.prog w = .ok (some (j, aV e.t e.n)) w := by
  obtain ⟨j, hj⟩ := List.mem_iff_getElem?.1 he
  rcases find_M M e.t.id w with ⟨_, h2⟩ | ⟨i, f, h1, h2, h3⟩
  · exact (h2 e he rfl).elim
  · have e1 := one_key ho h1 hj h2
    subst e1
    rw [hj] at h1
    injection h1 with h1
    subst h1
    exact ⟨_, hj, h3⟩
theorem find_none {a : Int} (hn : ∀ e ∈ M, e.t.id ≠ a) (w : World) : (Instr.findKey 2 (.int .i64 a) (M.map ent)).run Try.prog w = .ok none w := by
  rcases find_M M a w with ⟨h1, _⟩ | ⟨j, e, h1, h2, _⟩
  · exact h1
  · exact (hn e (List.mem_of_getElem? h1) h2).elim
theorem armed_zero (w : World) : (zeroValue 94).run Try.prog w = .ok (aV Tk.zero 0) w := by kernel_rfl
theorem look_some (h : MAt w k M clock) (ho : (M.map (·.t.id)).Nodup) {e : Me} (he : e ∈ M) (c : Bool) : (Instr.lookup 66 (.map (some k)) (.int .i64 e.t.id) c).run Try.prog w = .ok (if c then .tuple #[aV e.t e.n, .bool true] else aV e.t e.n) w := by
  obtain ⟨j, _, hz⟩ := find_one ho he w
  simp [Instr.lookup, run_underlying Try.underlying66, MapKept.run_getObj_map h, run_checkKey (P := Try.prog) (w := w) Try.underlying2 (isk e.t.id) _ 9999, hz, Result.andThen]
theorem look_none (h : MAt w k M clock) {a : Int} (hn : ∀ e ∈ M, e.t.id ≠ a) (c : Bool) : (Instr.lookup 66 (.map (some k)) (.int .i64 a) c).run Try.prog w = .ok (if c then .tuple #[aV Tk.zero 0, .bool false] else aV Tk.zero 0) w := by
  have hf := find_none hn w
  have hz := armed_zero w
  simp [Instr.lookup, run_underlying Try.underlying66, MapKept.run_getObj_map h, run_checkKey (P := Try.prog) (w := w) Try.underlying2 (isk a) _ 9999, hf, hz, Result.andThen]
theorem update_new (h : MAt w k M clock) {t : Tk} (hn : ∀ e ∈ M, e.t.id ≠ t.id) (n : Int) : (Instr.mapUpdate 66 (.map (some k)) (.int .i64 t.id) (aV t n)).run Try.prog w = .ok () (putM w k (M ++ [⟨t, n, clock⟩]) (clock + 1)) := by
  have hf := find_none hn w
  simp [Instr.mapUpdate, run_underlying Try.underlying66, MapKept.run_getObj_map h, run_checkKey (P := Try.prog) (w := w) Try.underlying2 (isk t.id) _ 9999, hf, MapKept.run_setObj_map _ h, Result.andThen, putM, ent]
theorem delete_one (h : MAt w k M clock) (ho : (M.map (·.t.id)).Nodup) {e : Me} (he : e ∈ M) (ty : TypeId) : (Builtin.delete_ #[66, 2] ty #[.map (some k), .int .i64 e.t.id]).run Try.prog w = .ok (.tuple #[]) (putM w k (delM M e.t.id) clock) := by
  obtain ⟨j, hj, hf⟩ := find_one ho he w
  rw [← ids_erase ho hj]
  simp [Builtin.delete_, run_underlying Try.underlying66, MapKept.run_getObj_map h, run_checkKey (P := Try.prog) (w := w) Try.underlying2 (isk e.t.id) _ 9999, hf, MapKept.run_setObj_map _ h, Result.andThen, putM, erase_map]
theorem map_len (h : MAt w k M clock) : ((do let o ← getObj k; pure o) : Sem Obj).run Try.prog w = .ok (.map (M.map ent).toArray clock) w := by
  have := MapKept.run_getObj_map (P := Try.prog) h
  simpa [Result.andThen] using this
end

/-- a goroutine as a key -/
def kG (s g : Int) : Value := .agg #[.int .i64 s, .int .i64 g]
/-- its numbers are ints -/
def Gok (s g : Int) : Prop := (-9223372036854775808 ≤ s ∧ s ≤ 9223372036854775807) ∧ (-9223372036854775808 ≤ g ∧ g ≤ 9223372036854775807)
/-- an entry: whose, when it came -/
structure Ge where
  s : Int
  g : Int
  b : Nat
def entG (e : Ge) : MapEntry := ⟨kG e.s e.g, .agg #[], e.b⟩
/-- the set of those that sleep at a block -/
def GAt (w : World) (k : Nat) (M : List Ge) (clock : Nat) : Prop := w.heap[k]? = some (.map (M.map entG).toArray clock)
theorem gid_law : WideMaps.KeyLaw Try.prog 31 := deep_law (m := 2) (by omega) (by kernel_rfl) (by kernel_rfl) (by kernel_rfl)
theorem wf_i64 {n : Int} (h0 : -9223372036854775808 ≤ n) (h1 : n ≤ 9223372036854775807) : (Lit.int .i64 n).wf = true := by
  simp only [Lit.wf, IntKind.min, IntKind.max, IntKind.signed, IntKind.bits, Bool.and_eq_true, decide_eq_true_eq, if_true]
  omega
theorem key_some {s g : Int} (h : Gok s g) : ∃ l, keyOf Try.prog 31 (kG s g) = some l := by
  obtain ⟨⟨h1, h2⟩, h3, h4⟩ := h
  have wa := wf_i64 (n := s) h1 h2
  have wb := wf_i64 (n := g) h3 h4
  have hk : Try.prog.keyType 31 = true := by kernel_rfl
  have hf : (kG s g).formed Try.prog 31 = true := by
    unfold kG Value.formed
    simp only [Try.underlying31]
    kernel_rfl
  obtain ⟨d, hz⟩ : ∃ d, Try.prog.types.size = d + 1 := ⟨Try.prog.types.size - 1, by kernel_rfl⟩
  have ki : ∀ n : Int, (Lit.int .i64 n).wf = true → Try.prog.keyLits (d + 1) 3 [.int .i64 n] = some [.int .i64 n] := fun n hn => by
    unfold Program.keyLits
    simp only [Try.underlying3]
    simp [hn]
  have c1 : Try.prog.cellsOf 31 = 2 := by kernel_rfl
  have c2 : Try.prog.cellsOf 3 = 1 := by kernel_rfl
  unfold keyOf
  simp only [Try.underlying31]
  rw [hk, hf, hz]
  simp only [Bool.and_self, if_true]
  unfold Program.keyLits
  simp only [Try.underlying31]
  rw [if_pos ⟨by rw [c1]; rfl, by kernel_rfl⟩]
  simp [kG, Value.cells, c2, ki s wa, ki g wb]
theorem kG_inj {s g s' g' : Int} (h : kG s g = kG s' g') : s = s' ∧ g = g' := by
  unfold kG at h
  simpa using h
/-- the world with another set in a block -/
def putG (w : World) (k : Nat) (M : List Ge) (clock : Nat) : World := { w with heap := w.heap.setIfInBounds k (.map (M.map entG).toArray clock) }
theorem putG_ch (w : World) (k : Nat) (M : List Ge) (clock : Nat) : Ch (Only k) w (putG w k M clock) :=
  ⟨rfl, rfl, rfl, by simp [putG], fun i _ hi => by
    unfold putG
    exact Array.getElem?_setIfInBounds_ne (fun e => hi e.symm)⟩
theorem putG_at {w : World} {k : Nat} (hb : k < w.heap.size) (M : List Ge) (clock : Nat) : GAt (putG w k M clock) k M clock := by
  unfold GAt putG
  exact Array.getElem?_setIfInBounds_self_of_lt hb
/-- whether an entry is another's -/
def isGo (s g : Int) (e : Ge) : Bool := !(e.s == s && e.g == g)
def delGs (M : List Ge) (s g : Int) : List Ge := M.filter (isGo s g)
theorem gids_erase : ∀ {M : List Ge} {j : Nat} {e : Ge}, (M.map (fun e => (e.s, e.g))).Nodup → M[j]? = some e → M.eraseIdx j = delGs M e.s e.g
  | [], j, e, _, h => by simp at h
  | x :: M, 0, e, hn, h => by
    simp only [List.getElem?_cons_zero, Option.some.injEq] at h
    subst h
    have h' := List.nodup_cons.1 (show ((x.s, x.g) :: M.map (fun e => (e.s, e.g))).Nodup from hn)
    unfold delGs
    rw [List.eraseIdx_cons_zero, List.filter_cons_of_neg (by simp [isGo])]
    refine (List.filter_eq_self.2 (fun u hu => ?_)).symm
    simp only [isGo, Bool.not_eq_true', Bool.and_eq_false_iff, beq_eq_false_iff_ne]
    by_cases h1 : u.s = x.s
    · right
      exact fun h2 => h'.1 (List.mem_map.2 ⟨u, hu, by rw [h1, h2]⟩)
    · exact .inl h1
  | x :: M, j + 1, e, hn, h => by
    have h' := List.nodup_cons.1 (show ((x.s, x.g) :: M.map (fun e => (e.s, e.g))).Nodup from hn)
    rw [List.getElem?_cons_succ] at h
    have ih := gids_erase h'.2 h
    have hx : isGo e.s e.g x = true := by
      simp only [isGo, Bool.not_eq_true', Bool.and_eq_false_iff, beq_eq_false_iff_ne]
      by_cases h1 : x.s = e.s
      · right
        exact fun h2 => h'.1 (List.mem_map.2 ⟨e, List.mem_of_getElem? h, by rw [h1, h2]⟩)
      · exact .inl h1
    unfold delGs at *
    rw [List.eraseIdx_cons_succ, List.filter_cons_of_pos hx, ih]
section
variable {w : World} {k : Nat} {M : List Ge} {clock : Nat} {s g : Int}
theorem GAt.lt (h : GAt w k M clock) : k < w.heap.size := lt_of_block h
theorem GAt.ch {S : Nat → Prop} {w' : World} (h : GAt w k M clock) (c : Ch S w w') (hn : ¬ S k) : GAt w' k M clock := (c.block k (lt_of_block h) hn).trans h
/-- it has none -/
def NoG (M : List Ge) (s g : Int) : Prop := ∀ e ∈ M, ¬ (e.s = s ∧ e.g = g)
theorem find_G (hk : Gok s g) (hM : ∀ e ∈ M, Gok e.s e.g) (w : World) : ((Instr.findKey 31 (kG s g) (M.map entG)).run Try.prog w = .ok none w ∧ NoG M s g) ∨ ∃ (j t : Nat), (Instr.findKey 31 (kG s g) (M.map entG)).run Try.prog w = .ok (some (j, .agg #[])) w ∧ M[j]? = some (Ge.mk s g t) := by
  obtain ⟨l, hl⟩ := key_some hk
  rcases gid_law.find w hl (M.map entG) (fun e he => by
      obtain ⟨x, hx, rfl⟩ := List.mem_map.1 he
      exact key_some (hM x hx)) with ⟨h1, h2⟩ | ⟨j, e, h1, h2, h3⟩
  · refine .inl ⟨h1, fun x hx e => h2 (entG x) (List.mem_map.2 ⟨x, hx, rfl⟩) ?_⟩
    rw [← e.1, ← e.2]
    rfl
  · rw [List.getElem?_map] at h2
    cases hm : M[j]? with
    | none => rw [hm] at h2; cases h2
    | some x =>
      rw [hm] at h2
      injection h2 with h2
      subst h2
      obtain ⟨a, b, t⟩ := x
      obtain ⟨e1, e2⟩ := kG_inj h3
      dsimp only at e1 e2
      subst e1 e2
      exact .inr ⟨j, t, h1, hm⟩
/-- does a goroutine sleep? -/
theorem look_G (h : GAt w k M clock) (hM : ∀ e ∈ M, Gok e.s e.g) (hk : Gok s g) : ((Instr.lookup 67 (.map (some k)) (kG s g) true).run Try.prog w = .ok (.tuple #[.agg #[], .bool false]) w ∧ NoG M s g) ∨ ∃ (j t : Nat), (Instr.lookup 67 (.map (some k)) (kG s g) true).run Try.prog w = .ok (.tuple #[.agg #[], .bool true]) w ∧ M[j]? = some (Ge.mk s g t) := by
  have hz : (zeroValue 104).run Try.prog w = .ok (.agg #[]) w := by kernel_rfl
  obtain ⟨l, hl⟩ := key_some hk
  have hc := gid_law.check w M.isEmpty hl
  rcases find_G hk hM w with ⟨h1, h2⟩ | ⟨j, t, h1, h2⟩
  · refine .inl ⟨?_, h2⟩
    simp [Instr.lookup, run_underlying Try.underlying67, MapKept.run_getObj_map h, hc, h1, hz, Result.andThen]
  · refine .inr ⟨j, t, ?_, h2⟩
    simp [Instr.lookup, run_underlying Try.underlying67, MapKept.run_getObj_map h, hc, h1, Result.andThen]
theorem updG_new (h : GAt w k M clock) (hM : ∀ e ∈ M, Gok e.s e.g) (hk : Gok s g) (hn : NoG M s g) : (Instr.mapUpdate 67 (.map (some k)) (kG s g) (.agg #[])).run Try.prog w = .ok () (putG w k (M ++ [⟨s, g, clock⟩]) (clock + 1)) := by
  obtain ⟨l, hl⟩ := key_some hk
  have hc := gid_law.check w false hl
  rcases find_G hk hM w with ⟨h1, _⟩ | ⟨j, t, _, h2⟩
  · simp [Instr.mapUpdate, run_underlying Try.underlying67, MapKept.run_getObj_map h, hc, h1, MapKept.run_setObj_map _ h, Result.andThen, putG, entG]
  · exact (hn _ (List.mem_of_getElem? h2) ⟨rfl, rfl⟩).elim
theorem oneG (ho : (M.map (fun e => (e.s, e.g))).Nodup) {i j : Nat} {a b : Ge} (hi : M[i]? = some a) (hj : M[j]? = some b) (e : a.s = b.s ∧ a.g = b.g) : i = j := by
  have h1 : (M.map (fun e => (e.s, e.g)))[i]? = some (a.s, a.g) := by rw [List.getElem?_map, hi]; rfl
  have h2 : (M.map (fun e => (e.s, e.g)))[j]? = some (a.s, a.g) := by rw [List.getElem?_map, hj, e.1, e.2]; rfl
  exact (List.getElem?_inj (List.getElem?_eq_some_iff.1 h1).1 ho).1 (h1.trans h2.symm)
/-- delete: the entry is gone; the others are as they were -/
theorem delG (h : GAt w k M clock) (hM : ∀ e ∈ M, Gok e.s e.g) (hk : Gok s g) (ho : (M.map (fun e => (e.s, e.g))).Nodup) (ty : TypeId) :
    (Builtin.delete_ #[67, 31] ty #[.map (some k), kG s g]).run Try.prog w = .ok (.tuple #[]) (putG w k (delGs M s g) clock) := by
  obtain ⟨l, hl⟩ := key_some hk
  have hc := gid_law.check w M.isEmpty hl
  rcases find_G hk hM w with ⟨h1, h2⟩ | ⟨j, t, h1, h2⟩
  · have e : delGs M s g = M := List.filter_eq_self.2 (fun e he => by
      have := h2 e he
      simp only [isGo, Bool.not_eq_true', Bool.and_eq_false_iff, beq_eq_false_iff_ne]
      by_cases h1 : e.s = s
      · exact .inr (fun h3 => this ⟨h1, h3⟩)
      · exact .inl h1)
    rw [e]
    simp [Builtin.delete_, run_underlying Try.underlying67, MapKept.run_getObj_map h, hc, h1, MapKept.run_setObj_map _ h, Result.andThen, putG]
  · rw [← gids_erase ho h2]
    simp [Builtin.delete_, run_underlying Try.underlying67, MapKept.run_getObj_map h, hc, h1, Result.andThen, erase_map, MapKept.run_setObj_map _ h, putG]
end
end Go.Proofs.Ytgkapopkjgljjaa.Lt
