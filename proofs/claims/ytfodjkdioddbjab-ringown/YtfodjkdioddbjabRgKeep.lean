/-
  What the acts of rings keep: nobody is lost and nobody doubled; turns rise. Plain lists, no Go. No conditions.
-/
import Derived.Test.YtfodjkdioddbjabRgLoad
namespace Go.Proofs.Ytfodjkdioddbjab.Rg

theorem upB_right {l m : List W3} (h : upB (l ++ m) = true) : upB m = true := by
  induction l with
  | nil => exact h
  | cons x r ih =>
    simp only [List.cons_append, upB, Bool.and_eq_true] at h
    exact ih h.2
theorem upB_drop {l : List W3} (h : upB l = true) (k : Nat) : upB (l.drop k) = true := by
  rw [← List.take_append_drop k l] at h
  exact upB_right h
theorem upB_cons_app {a m : List W3} {x : W3} (h : upB (a ++ [x] ++ m) = true) : upB (a ++ m) = true := by
  induction a with
  | nil => exact upB_right (l := [x]) h
  | cons y r ih =>
    simp only [List.cons_append, upB, Bool.and_eq_true] at h ⊢
    refine ⟨?_, ih h.2⟩
    cases r with
    | cons z r => exact h.1
    | nil =>
      cases m with
      | nil => rfl
      | cons z m =>
        have h1 := h.1
        have h2 := h.2
        simp only [List.nil_append, List.singleton_append, headUp, upB, Bool.and_eq_true, decide_eq_true_eq] at h1 h2 ⊢
        omega
theorem upB_sub {a b m : List W3} (h : upB (a ++ b ++ m) = true) : upB (a ++ m) = true := by
  induction b generalizing a with
  | nil => simpa using h
  | cons x r ih =>
    have e : a ++ (x :: r) ++ m = (a ++ [x]) ++ r ++ m := by simp
    rw [e] at h
    exact upB_cons_app (ih h)
theorem upB_drop_app {l m : List W3} (h : upB (l ++ m) = true) (k : Nat) : upB (l.drop k ++ m) = true := by
  rw [← List.take_append_drop k l, List.append_assoc] at h
  exact upB_right h
theorem upB_snoc {l : List W3} {x : W3} (h : upB l = true) (ha : aboveB l x.t = true) : upB (l ++ [x]) = true := by
  rw [upB_concat, h, ha]; rfl
theorem aboveB_drop {l : List W3} {t : Int} (h : aboveB l t = true) (k : Nat) : aboveB (l.drop k) t = true := by
  unfold aboveB at h ⊢
  rw [List.getLast?_drop]
  split
  · rfl
  · rename_i x hx
    split at hx
    · cases hx
    · rw [hx] at h
      exact h
theorem upB_last {l : List W3} {x : W3} (h : upB (l ++ [x]) = true) : upB l = true ∧ aboveB l x.t = true := by
  rw [upB_concat, Bool.and_eq_true] at h
  exact h

theorem behind_keeps (ps : List W3) (x : W3) : ([x] ++ ps).Perm (behindL ps x ++ behindP ps x) := by
  unfold behindL behindP
  split
  · simpa using List.perm_append_comm (l₁ := [x]) (l₂ := ps)
  · have : ps.take 32 ++ [x] ++ ps.drop 32 = ps.take 32 ++ ([x] ++ ps.drop 32) := by simp
    rw [this]
    refine List.Perm.trans ?_ (List.perm_append_comm_assoc _ _ _)
    rw [List.take_append_drop]
theorem behind_up {ps : List W3} {x : W3} (h : upB (ps ++ [x]) = true) : upB (behindP ps x) = true := by
  unfold behindP
  split
  · exact h
  · exact upB_drop (upB_left h) 32
theorem behind_up2 {ps m : List W3} {x : W3} (h : upB (ps ++ [x] ++ m) = true) : upB (behindP ps x ++ m) = true := by
  unfold behindP
  split
  · exact h
  · rw [List.append_assoc] at h
    have := upB_drop_app h 32
    exact upB_cons_app (by simpa using this)

theorem put_keeps (ps : List W3) (nx : Option W3) (x : W3) : ((if putE ps nx x = 0 then [x] else []) ++ (ps ++ nx.toList)).Perm (putL ps nx x ++ (putP ps nx x ++ nx.toList)) := by
  unfold putE putL putP
  cases putBad ps nx x
  · simp only [Bool.false_eq_true, if_false, if_true]
    rw [← List.append_assoc, ← List.append_assoc]
    exact (behind_keeps ps x).append_right _
  · simp
theorem put_up {ps : List W3} {nx : Option W3} {x : W3} (h : upB (ps ++ nx.toList) = true) : upB (putP ps nx x ++ nx.toList) = true := by
  unfold putP
  cases hb : putBad ps nx x
  · simp only [Bool.false_eq_true, if_false]
    unfold putBad at hb
    simp only [Bool.or_eq_false_iff, Bool.not_eq_false'] at hb
    refine behind_up2 ?_
    have h1 := upB_snoc (upB_left h) hb.1
    cases nx with
    | none => simpa using h1
    | some y =>
      have h2 := hb.2
      unfold notBelow at h2
      refine upB_snoc (l := ps ++ [x]) h1 ?_
      unfold aboveB
      rw [List.getLast?_concat]
      simp only [decide_eq_false_iff_not] at h2
      simp only [decide_eq_true_eq]
      omega
  · simpa using h
theorem kick_keeps (ps : List W3) (nx : Option W3) : (ps ++ nx.toList).Perm (kickL ps nx ++ kickP ps nx) := by
  cases nx with
  | none => simp [kickL, kickP]
  | some y => exact List.perm_append_comm.trans (behind_keeps ps y)
theorem kick_up {ps : List W3} {nx : Option W3} (h : upB (ps ++ nx.toList) = true) : upB (kickP ps nx) = true := by
  cases nx with
  | none => simpa [kickP] using h
  | some y => exact behind_up h
theorem ready_keeps (ps : List W3) (nx : Option W3) (x : W3) : ((if readyE ps nx x = 0 then [x] else []) ++ (ps ++ nx.toList)).Perm (readyL ps nx x ++ (readyP ps nx x ++ (readyN ps nx x).toList)) := by
  unfold readyE readyL readyP readyN
  cases readyBad ps nx x
  · simp only [Bool.false_eq_true, if_false, if_true, Option.toList_some]
    have h := (kick_keeps ps nx).append_right [x]
    rw [List.append_assoc (kickL ps nx)] at h
    exact (List.perm_append_comm (l₁ := [x])).trans h
  · simp
theorem ready_up {ps : List W3} {nx : Option W3} {x : W3} (h : upB (ps ++ nx.toList) = true) : upB (readyP ps nx x ++ (readyN ps nx x).toList) = true := by
  unfold readyP readyN
  cases hb : readyBad ps nx x
  · simp only [Bool.false_eq_true, if_false, Option.toList_some]
    unfold readyBad at hb
    simp only [Bool.or_eq_false_iff, Bool.not_eq_false'] at hb
    cases nx with
    | none => exact upB_snoc (by simpa [kickP] using h) hb.1
    | some y =>
      have h2 := hb.2
      unfold notAbove at h2
      have h3 : upB (ps ++ [y] ++ [x]) = true := by
        refine upB_snoc h ?_
        unfold aboveB
        show (match (ps ++ [y]).getLast? with | none => true | some z => decide (z.t < x.t)) = true
        rw [List.getLast?_concat]
        simp only [decide_eq_false_iff_not] at h2
        simp only [decide_eq_true_eq]
        omega
      exact behind_up2 h3
  · simpa using h
theorem take_keeps (ps : List W3) (nx : Option W3) : (ps ++ nx.toList).Perm ((if tkE ps nx = 0 then [tkX ps nx] else []) ++ tkP ps nx) := by
  cases nx with
  | some y => simp [tkE, tkX, tkP]
  | none =>
    cases ps with
    | nil => simp [tkE, tkP]
    | cons x r => simp [tkE, tkX, tkP]
theorem take_up {ps : List W3} {nx : Option W3} (h : upB (ps ++ nx.toList) = true) : upB (tkP ps nx) = true := by
  unfold tkP
  split
  · exact upB_left h
  · rw [← List.drop_one]
    exact upB_drop (upB_left h) 1
theorem steal_keeps (ps : List W3) (nx : Option W3) (qs : List W3) (ny : Option W3) :
    ((ps ++ nx.toList) ++ (qs ++ ny.toList)).Perm ((if stE ps nx qs ny = 0 then [stX ps nx qs ny] else []) ++ ((stP ps qs ny ++ (stN ps nx qs ny).toList) ++ (stQ ps qs ny ++ ny.toList))) := by
  unfold stE stX stP stN stQ
  cases hb : busy qs ny
  · obtain ⟨rfl, rfl⟩ : qs = [] ∧ ny = none := by
      unfold busy at hb
      cases qs <;> cases ny <;> simp at hb ⊢
    cases ps with
    | nil =>
      cases nx with
      | none => simp [tkE]
      | some y => simp [tkE]
    | cons x r =>
      have hl : lv (x :: r) = (lv (x :: r) - 1) + 1 := by unfold lv; simp; omega
      rw [hl]
      simp only [Bool.false_eq_true, if_false, reduceCtorEq, if_true, List.headD_cons, List.drop_succ_cons, List.take_succ_cons, List.tail_cons, Option.toList_none, List.append_nil, List.cons_append, List.nil_append]
      refine List.Perm.cons _ ?_
      refine List.Perm.trans ?_ List.perm_append_comm
      rw [← List.append_assoc, List.take_append_drop]
  · simp
theorem steal_up {ps : List W3} {nx : Option W3} {qs : List W3} {ny : Option W3} (h : upB (ps ++ nx.toList) = true) (h' : upB (qs ++ ny.toList) = true) :
    upB (stP ps qs ny ++ (stN ps nx qs ny).toList) = true ∧ upB (stQ ps qs ny ++ ny.toList) = true := by
  unfold stP stN stQ
  cases hb : busy qs ny
  · obtain ⟨rfl, rfl⟩ : qs = [] ∧ ny = none := by
      unfold busy at hb
      cases qs <;> cases ny <;> simp at hb ⊢
    simp only [Bool.false_eq_true, if_false, Option.toList_none, List.append_nil]
    constructor
    · cases ps with
      | nil => simp [upB]
      | cons x r =>
        simp only [reduceCtorEq, if_false]
        exact upB_drop_app h _
    · rw [← List.drop_one]
      exact upB_drop (upB_take (upB_left h) _) 1
  · simp only [if_true]
    exact ⟨h, h'⟩
end Go.Proofs.Ytfodjkdioddbjab.Rg
