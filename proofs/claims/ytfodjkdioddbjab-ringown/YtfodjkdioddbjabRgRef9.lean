/-
  What the functions of the document's answer tell, one contract each, of states that they themselves make (the next one zero where there is none). Condition: the states' lists are there, and have no more than 64 places.
-/
import Derived.Test.YtfodjkdioddbjabRgRef5
import Derived.Test.YtfodjkdioddbjabRgRef8
namespace Go.Proofs.Ytfodjkdioddbjab.Rg
open Go.RowKit

theorem nxo_norm (nx : Option W3) : nxo nx.isSome (nx.getD W3.zero) = nx := by cases nx <;> rfl

theorem rput_nx (P : Nat → Prop) (sv : Value) (xs : List W3) (nx : Option W3) (x : W3) (w : World) (hx : Lst P w sv xs) (hl : xs.length ≤ 64) :
    Calls Try.prog 33 #[.agg #[sv, .bool nx.isSome, .int .i64 (nx.getD W3.zero).s, .int .i64 (nx.getD W3.zero).g, .int .u64 (nx.getD W3.zero).t], .agg #[.int .i64 x.s, .int .i64 x.g, .int .u64 x.t]] w fun e w' =>
      ∃ v l, e = .returned (.tuple #[.agg #[v, .bool nx.isSome, .int .i64 (nx.getD W3.zero).s, .int .i64 (nx.getD W3.zero).g, .int .u64 (nx.getD W3.zero).t], l, .int .i64 (putE xs nx x)]) ∧ Lst (fun g => P g ∨ w.heap.size ≤ g) w' v (putP xs nx x) ∧ Lst (w.heap.size ≤ ·) w' l (putL xs nx x) ∧ Ch NoB w w' := by
  unfold putE putP putL
  cases hb : putBad xs nx x with
  | true =>
    refine (rput_bad P sv xs nx.isSome (nx.getD W3.zero) x w hx hl (by rw [nxo_norm]; exact hb)).mono ?_
    rintro e w1 ⟨rfl, g1⟩
    exact ⟨_, _, rfl, (hx.ch g1 (fun _ _ _ => noB _)).mono (fun _ _ h => .inl h), Lst.nil _ _, g1⟩
  | false =>
    refine (rput_good P sv xs nx.isSome (nx.getD W3.zero) x w hx hl (by rw [nxo_norm]; exact hb)).mono ?_
    rintro e w1 ⟨v, l, rfl, l1, l2, g1⟩
    exact ⟨v, l, rfl, l1.mono (fun _ _ h => .inr h), l2, g1⟩

theorem rready_nx (P : Nat → Prop) (sv : Value) (xs : List W3) (nx : Option W3) (x : W3) (w : World) (hx : Lst P w sv xs) (hl : xs.length ≤ 64) :
    Calls Try.prog 34 #[.agg #[sv, .bool nx.isSome, .int .i64 (nx.getD W3.zero).s, .int .i64 (nx.getD W3.zero).g, .int .u64 (nx.getD W3.zero).t], .agg #[.int .i64 x.s, .int .i64 x.g, .int .u64 x.t]] w fun e w' =>
      ∃ v l, e = .returned (.tuple #[.agg #[v, .bool (readyN xs nx x).isSome, .int .i64 ((readyN xs nx x).getD W3.zero).s, .int .i64 ((readyN xs nx x).getD W3.zero).g, .int .u64 ((readyN xs nx x).getD W3.zero).t], l, .int .i64 (readyE xs nx x)]) ∧ Lst (fun g => P g ∨ w.heap.size ≤ g) w' v (readyP xs nx x) ∧ Lst (w.heap.size ≤ ·) w' l (readyL xs nx x) ∧ Ch NoB w w' := by
  unfold readyE readyP readyL readyN
  cases hb : readyBad xs nx x with
  | true =>
    refine (rready_bad P sv xs nx.isSome (nx.getD W3.zero) x w hx hl (by rw [nxo_norm]; exact hb)).mono ?_
    rintro e w1 ⟨rfl, g1⟩
    exact ⟨_, _, rfl, (hx.ch g1 (fun _ _ _ => noB _)).mono (fun _ _ h => .inl h), Lst.nil _ _, g1⟩
  | false =>
    refine (rready_good P sv xs nx.isSome (nx.getD W3.zero) x w hx hl (by rw [nxo_norm]; exact hb)).mono ?_
    rw [nxo_norm]
    rintro e w1 ⟨v, l, rfl, l1, l2, g1⟩
    exact ⟨v, l, rfl, l1, l2, g1⟩

theorem rkick_nx (P : Nat → Prop) (sv : Value) (xs : List W3) (nx : Option W3) (w : World) (hx : Lst P w sv xs) (hl : xs.length ≤ 64) :
    Calls Try.prog 35 #[.agg #[sv, .bool nx.isSome, .int .i64 (nx.getD W3.zero).s, .int .i64 (nx.getD W3.zero).g, .int .u64 (nx.getD W3.zero).t]] w fun e w' =>
      ∃ v l, e = .returned (.tuple #[.agg #[v, .bool false, .int .i64 0, .int .i64 0, .int .u64 0], l]) ∧ Lst (fun g => P g ∨ w.heap.size ≤ g) w' v (kickP xs nx) ∧ Lst (w.heap.size ≤ ·) w' l (kickL xs nx) ∧ Ch NoB w w' := by
  cases nx with
  | none =>
    refine (rkick_none sv P xs W3.zero w hx).mono ?_
    rintro e w1 ⟨rfl, g1⟩
    exact ⟨_, _, rfl, (hx.ch g1 (fun _ _ _ => noB _)).mono (fun _ _ h => .inl h), Lst.nil _ _, g1⟩
  | some y =>
    refine (rkick_some P sv xs y w hx hl).mono ?_
    rintro e w1 ⟨v, l, rfl, l1, l2, g1⟩
    exact ⟨v, l, rfl, l1.mono (fun _ _ h => .inr h), l2, g1⟩

theorem rtake_nx (P : Nat → Prop) (sv : Value) (xs : List W3) (nx : Option W3) (w : World) (hx : Lst P w sv xs) (hl : xs.length ≤ 64) :
    Calls Try.prog 36 #[.agg #[sv, .bool nx.isSome, .int .i64 (nx.getD W3.zero).s, .int .i64 (nx.getD W3.zero).g, .int .u64 (nx.getD W3.zero).t]] w fun e w' =>
      ∃ v, e = .returned (.tuple #[.agg #[v, .bool false, .int .i64 0, .int .i64 0, .int .u64 0], .agg #[.int .i64 (tkX xs nx).s, .int .i64 (tkX xs nx).g, .int .u64 (tkX xs nx).t], .bool nx.isSome, .int .i64 (tkE xs nx)]) ∧ Lst (fun g => P g ∨ w.heap.size ≤ g) w' v (tkP xs nx) ∧ Ch NoB w w' := by
  cases nx with
  | some y =>
    refine (rtake_some P sv xs y w hx).mono ?_
    rintro e w1 ⟨rfl, g1⟩
    exact ⟨_, rfl, (hx.ch g1 (fun _ _ _ => noB _)).mono (fun _ _ h => .inl h), g1⟩
  | none =>
    cases xs with
    | nil =>
      refine (rtake_none P sv W3.zero w hx).mono ?_
      rintro e w1 ⟨rfl, g1⟩
      exact ⟨_, rfl, (hx.ch g1 (fun _ _ _ => noB _)).mono (fun _ _ h => .inl h), g1⟩
    | cons q r =>
      refine (rtake_cons P sv q r W3.zero w hx (by simp at hl; omega)).mono ?_
      rintro e w1 ⟨v, rfl, l1, g1⟩
      exact ⟨v, rfl, l1.mono (fun _ _ h => .inr h), g1⟩

theorem rdrain_nx (P : Nat → Prop) (sv : Value) (xs : List W3) (nx : Option W3) (w : World) (hx : Lst P w sv xs) (hl : xs.length ≤ 64) :
    Calls Try.prog 22 #[.agg #[sv, .bool nx.isSome, .int .i64 (nx.getD W3.zero).s, .int .i64 (nx.getD W3.zero).g, .int .u64 (nx.getD W3.zero).t]] w fun e w' => ∃ v, e = .returned v ∧ Lst (w.heap.size ≤ ·) w' v (xs ++ nx.toList) ∧ Ch NoB w w' := by
  cases nx with
  | none =>
    rw [Option.toList_none, List.append_nil]
    exact rdrain_none P sv xs W3.zero w hx hl
  | some y => exact rdrain_some P sv xs y w hx hl

theorem rsteal_nx (P : Nat → Prop) (sv tv : Value) (xs zs : List W3) (nx ny : Option W3) (w : World) (hx : Lst P w sv xs) (hz : Lst P w tv zs) (hl : xs.length ≤ 64) (hm : zs.length ≤ 64) :
    Calls Try.prog 37 #[.agg #[sv, .bool nx.isSome, .int .i64 (nx.getD W3.zero).s, .int .i64 (nx.getD W3.zero).g, .int .u64 (nx.getD W3.zero).t], .agg #[tv, .bool ny.isSome, .int .i64 (ny.getD W3.zero).s, .int .i64 (ny.getD W3.zero).g, .int .u64 (ny.getD W3.zero).t]] w fun e w' =>
      ∃ v u, e = .returned (.tuple #[.agg #[v, .bool (stN xs nx zs ny).isSome, .int .i64 ((stN xs nx zs ny).getD W3.zero).s, .int .i64 ((stN xs nx zs ny).getD W3.zero).g, .int .u64 ((stN xs nx zs ny).getD W3.zero).t], .agg #[u, .bool ny.isSome, .int .i64 (ny.getD W3.zero).s, .int .i64 (ny.getD W3.zero).g, .int .u64 (ny.getD W3.zero).t], .agg #[.int .i64 (stX xs nx zs ny).s, .int .i64 (stX xs nx zs ny).g, .int .u64 (stX xs nx zs ny).t], .int .i64 (stE xs nx zs ny)]) ∧ Lst (fun g => P g ∨ w.heap.size ≤ g) w' v (stP xs zs ny) ∧ Lst (fun g => P g ∨ w.heap.size ≤ g) w' u (stQ xs zs ny) ∧ Ch NoB w w' := by
  cases hb : busy zs ny with
  | true =>
    unfold stN stX stE stP stQ
    rw [hb]
    refine (rsteal_busy P P sv tv xs zs nx.isSome ny.isSome (nx.getD W3.zero) (ny.getD W3.zero) w hx hz hm (by rw [nxo_norm]; exact hb)).mono ?_
    rintro e w1 ⟨rfl, g1⟩
    exact ⟨_, _, rfl, (hx.ch g1 (fun _ _ _ => noB _)).mono (fun _ _ h => .inl h), (hz.ch g1 (fun _ _ _ => noB _)).mono (fun _ _ h => .inl h), g1⟩
  | false =>
    obtain ⟨rfl, rfl⟩ : zs = [] ∧ ny = none := by
      unfold busy at hb
      cases zs <;> cases ny <;> simp at hb ⊢
    cases xs with
    | nil =>
      cases nx with
      | none =>
        refine (rsteal_none P P sv tv false W3.zero W3.zero W3.zero W3.zero 21 w hx hz (fun w2 h2 => ⟨_, rtake_none P sv W3.zero w2 h2⟩)).mono ?_
        rintro e w1 ⟨rfl, g1⟩
        exact ⟨_, _, rfl, (hx.ch g1 (fun _ _ _ => noB _)).mono (fun _ _ h => .inl h), (hz.ch g1 (fun _ _ _ => noB _)).mono (fun _ _ h => .inl h), g1⟩
      | some y =>
        refine (rsteal_none P P sv tv true y W3.zero W3.zero y 0 w hx hz (fun w2 h2 => ⟨_, rtake_some P sv [] y w2 h2⟩)).mono ?_
        rintro e w1 ⟨rfl, g1⟩
        exact ⟨_, _, rfl, (hx.ch g1 (fun _ _ _ => noB _)).mono (fun _ _ h => .inl h), (hz.ch g1 (fun _ _ _ => noB _)).mono (fun _ _ h => .inl h), g1⟩
    | cons q r =>
      cases r with
      | nil =>
        refine (rsteal_one P P sv tv q nx.isSome (nx.getD W3.zero) W3.zero w hx hz).mono ?_
        rintro e w1 ⟨rfl, g1⟩
        exact ⟨_, _, rfl, by rw [show stP [q] [] none = [] by simp [stP, lv, busy]]; exact Lst.nil _ _, by rw [show stQ [q] [] none = [] by simp [stQ, lv, busy]]; exact Lst.nil _ _, g1⟩
      | cons q2 r =>
        refine (rsteal_many P P sv tv q (q :: q2 :: r) nx.isSome (nx.getD W3.zero) W3.zero _ w hx hz rfl rfl (by simp) hl).mono ?_
        rintro e w1 ⟨v, u, rfl, l1, l2, g1⟩
        exact ⟨v, u, rfl, l1.mono (fun _ _ h => .inr h), l2.mono (fun _ _ h => .inr h), g1⟩
end Go.Proofs.Ytfodjkdioddbjab.Rg
