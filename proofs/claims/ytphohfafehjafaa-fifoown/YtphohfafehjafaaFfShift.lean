/-
  What slices.Insert of one ahead of others answers and leaves, where there is room. Condition: the list is owned, and has fewer than 4096 elements.
-/
import Derived.Test.YtphohfafehjafaaFfInsert
import Derived.Laws.Externs
namespace Go.Proofs.Ytphohfafehjafaa.Ff
open Go.RowKit
attribute [local go_sem ↓] Go.wp_at_zero Go.wp_at_succ

theorem sizeW (w : World) : (Go.sizeOf 33).run Try.prog w = .ok 3 w := by kernel_rfl

theorem overlaps_no (w : World) (k g o la ca lb cb : Nat) (x : W3) (c : Array Value) (hk : Three w k x) (hg : w.heap[g]? = some (.cells c 33 (0, 0))) (hc : c.size ≠ 0) (hn : k ≠ g) :
    (callFunc 39 #[.slice (some ⟨k, 0, none⟩) la ca, .slice (some ⟨g, o, none⟩) lb cb]).run Try.prog w = .ok (.value (.bool false)) w := by
  rw [run_callFunc_extern Try.func39 (by kernel_rfl) (by kernel_rfl) (by kernel_rfl) (e := Extern.SlicesOverlaps.overlaps #[26, 26] #[4]) (by kernel_rfl),
    Lib.run_overlaps_apart w 26 4 33 Try.underlying26 3 sizeW ⟨k, 0, none⟩ ⟨g, o, none⟩ la ca lb cb hn 33 33 3 c.size (by simp [World.shape?, show w.heap[k]? = _ from hk]) (by simp [World.shape?, hg]) hc (hk.frozen 0) (hk.frozen 3)]
  rfl

/-- copy, as one step of a region that draws -/
theorem step_copy {ops : Array Oper} {o : Oper} {a : Act} {w : World} {K : Act → World → Prop} {Q : Exit → Act → World → Prop} {E : Prop}
    (hg : o.guard = none) (d x : Operand) (hop : o.op = Op.call { callee := Callee.builtin Builtin.copy, args := #[d, x], argTypes := #[26, 26] })
    (v u : Value) (hd : a.eval d = v) (hx : a.eval x = u) {v' : Value} {w' : World} (hr : (Builtin.copy_ #[26, 26] o.type #[v, u]).run Try.prog w = .ok v' w') (hK : K (a.put o.dst v') w') :
    if Region.wanted o (yielded ops a.tmps) = true then Oper.wp Try.prog o a w K Q else E := by
  have hw : Region.wanted o (yielded ops a.tmps) = true := by simp [Region.wanted, hg]
  rw [if_pos hw]
  unfold Oper.wp
  simp [execOp, hop, resolve, invoke, builtin, hd, hx, hr, Result.andThen]
  exact hK

theorem own_ins {w : World} {g n cap i base : Nat} {xs : List W3} (x : W3) (h : Own base w (.slice (some ⟨g, 0, none⟩) n cap) xs) (hi : i ≤ xs.length) (hroom : xs.length + 1 ≤ cap) :
    Own base ((w.setCells g ((i + 1) * 3) (rowOf (xs.drop i))).setCells g (i * 3) (rowOf [x])) (.slice (some ⟨g, 0, none⟩) (xs.length + 1) cap) (xs.take i ++ [x] ++ xs.drop i) := by
  have hl : (xs.take i ++ [x] ++ xs.drop i).length = xs.length + 1 := by simp only [List.length_append, List.length_take, List.length_drop, List.length_cons, List.length_nil]; omega
  rcases h.2 with ⟨h1, _⟩ | ⟨g', cap', cur, h1, hb, hg, hc, hm, hs, ht⟩
  · cases h1
  · injection h1 with h1 h2 h3
    injection h1 with h1
    injection h1 with h1
    subst h1 h2 h3
    obtain ⟨c1, k1, k2, k3⟩ := setCells_block (rowOf (xs.drop i)) ((i + 1) * 3) w cur hg (by rw [rowOf_length, List.length_drop]; omega)
    obtain ⟨c2, q1, q2, q3⟩ := setCells_block (rowOf [x]) (i * 3) _ c1 k1 (by rw [rowOf_length]; simp; omega)
    refine ⟨by rw [rowOf_length], .inr ⟨g, cap, c2, by rw [hl], hb, q1, by omega, hm, by omega, ?_⟩⟩
    have e1 : c1.toList.take (i * 3) = rowOf (xs.take i) := by
      rw [k3, List.append_assoc, List.take_append_of_le_length (by rw [List.length_take]; simp; omega), List.take_take, Nat.min_eq_left (by omega), ← rowOf_take, ← ht, List.take_take, Nat.min_eq_left (by omega)]
    have e2 : (c1.toList.drop (i * 3 + (rowOf [x]).length)).take ((xs.length - i) * 3) = rowOf (xs.drop i) := by
      have e3 : i * 3 + (rowOf [x]).length = (i + 1) * 3 := by rw [rowOf_length]; simp; omega
      rw [e3, k3, List.append_assoc, List.drop_left' (by rw [List.length_take]; simp; omega), List.take_left' (by rw [rowOf_length, List.length_drop])]
    rw [hl, q3, e1]
    have e4 : (xs.length + 1) * 3 = (rowOf (xs.take i ++ [x])).length + (xs.length - i) * 3 := by rw [rowOf_length, List.length_append, List.length_take]; simp; omega
    rw [← rowOf_append, e4, List.take_length_add_append, e2, ← rowOf_append]

set_option maxHeartbeats 2000000 in
theorem insert_shift (base k g cap i : Nat) (xs : List W3) (x : W3) (w : World) (ho : Own base w (.slice (some ⟨g, 0, none⟩) xs.length cap) xs) (hk : Three w k x) (hl : xs.length < 4096) (hi : i < xs.length) (hroom : xs.length + 1 ≤ cap) (hkg : k ≠ g) :
    Calls Try.prog 30 #[.slice (some ⟨g, 0, none⟩) xs.length cap, .int .i64 (i : Int), .slice (some ⟨k, 0, none⟩) 1 1] w fun e w' => e = .returned (.slice (some ⟨g, 0, none⟩) (xs.length + 1) cap) ∧ Own base w' (.slice (some ⟨g, 0, none⟩) (xs.length + 1) cap) (xs.take i ++ x :: xs.drop i) ∧ Ch (Only g) w w' := by
  obtain ⟨n, hn⟩ : ∃ n, n = xs.length := ⟨_, rfl⟩
  obtain ⟨c, hcs, hcz⟩ : ∃ c, w.heap[g]? = some (.cells c 33 (0, 0)) ∧ c.size = cap * 3 := by
    rcases ho.2 with ⟨h1, _⟩ | ⟨g', cap', cur, h1, hb, hg, hc, hm, hs, ht⟩
    · cases h1
    · injection h1 with h1 h2 h3
      injection h1 with h1
      injection h1 with h1
      subst h1 h3
      exact ⟨cur, hg, hs⟩
  have hcap : cap ≤ maxLen := by
    rcases ho.2 with ⟨h1, _⟩ | ⟨g', cap', cur, h1, hb, hg, hc, hm, hs, ht⟩
    · cases h1
    · injection h1 with h1 h2 h3
      subst h3
      exact hm
  unfold maxLen at hcap
  have hov := fun o lb cb => overlaps_no w k g o 1 1 lb cb x c hk hcs (by omega) hkg
  rw [← hn] at hl hi hroom ⊢
  have b1 : (0 : Int) ≤ (i : Int) := by omega
  have b2 : (i : Int) ≤ (n : Int) := by omega
  have b3 : ¬ ((i : Int) = (n : Int)) := by omega
  have b4 : ((i : Int) == (n : Int)) = false := by simp; omega
  have b5 : ¬ (cap = i) := by omega
  have b6 : ¬ (i = cap) := by omega
  have b7 : (n : Int) + 1 ≤ (cap : Int) := by omega
  have b8 : (0 : Int) ≤ (n : Int) + 1 := by omega
  have b9 : ¬ ((cap : Int) < (n : Int) + 1) := by omega
  have HO := hid ho
  have HK := hid hk
  have HN := hid hn
  clear ho hk hn
  go_enter Try.func30, Try.ntmps30
  go_wp2_with (simp only [hov])
  have d1 : IntKind.i64.wrap ((i : Int) + 1) = (i : Int) + 1 := by rw [IntKind.wrap_i64]; omega
  have d2 : (0 : Int) ≤ (i : Int) + 1 := by omega
  have d3 : (i : Int) + 1 ≤ (n : Int) + 1 := by omega
  have d4 : ((i : Int) + 1).toNat = i + 1 := by omega
  have d5 : ¬ (cap = i + 1) := by omega
  have d6 : (i : Int) ≤ (n : Int) + 1 := by omega
  have d7 : ((n : Int) + 1).toNat = n + 1 := by omega
  obtain ⟨W1, hW1⟩ : ∃ W1, W1 = w.drew.setCells g ((i + 1) * 3) (rowOf (xs.drop i)) := ⟨_, rfl⟩
  obtain ⟨_, _, hsome, hfz, hrow⟩ := own_cells HO.out
  have hcp := fun ty dc sc => run_copy3 w.drew ty g ((i + 1) * 3) (n - i) dc ⟨g, i * 3, none⟩ (n + 1 - i) sc (xs.drop i) (by rw [List.length_drop, ← HN.out]; simp only [Nat.min_def]; split <;> omega)
    (fun q u hu => by
      rw [Addr.add_lit]
      have e : (rowOf xs)[i * 3 + q]? = some u := by rw [← hu, rowOf_drop, List.getElem?_drop]
      have := hrow (i * 3 + q) u e
      rw [Nat.zero_add] at this
      exact this)
    (fun q hq => by rw [List.length_drop, ← HN.out] at hq; show (w.cell? _).isSome = true; rw [cell_of hcs, Array.getElem?_eq_getElem (by omega)]; rfl) (fun q _ => frozen_of (w := w) hcs _)
  have hB : ∃ c1, W1.heap[g]? = some (.cells c1 33 (0, 0)) ∧ c1.size = cap * 3 := by
    obtain ⟨c1, k1, k2, _⟩ := setCells_block (rowOf (xs.drop i)) ((i + 1) * 3) w.drew c hcs (by rw [rowOf_length, List.length_drop, ← HN.out]; omega)
    exact ⟨c1, by rw [hW1]; exact k1, by omega⟩
  obtain ⟨c1, hc1, hz1⟩ := hB
  have hT1 : Three W1 k x := by rw [hW1]; exact HK.out.drew.ch (setCells_ch g _ _ _) (fun e => hkg e)
  have hcp2 := fun ty dc => run_copy3 W1 ty g (i * 3) (n + 1 - i) dc ⟨k, 0, none⟩ 1 1 [x] (by simp only [Nat.min_def]; split <;> simp <;> omega) (lst_three hT1).news
    (fun q hq => by rw [cell_of hc1, Array.getElem?_eq_getElem (by simp at hq; omega)]; rfl) (fun q _ => frozen_of hc1 _)
  obtain ⟨R, hR⟩ : ∃ R, R = rowOf [x] := ⟨_, rfl⟩
  obtain ⟨N1, hN1⟩ : ∃ N1, N1 = (xs.drop i).length := ⟨_, rfl⟩
  rw [← hW1, ← hN1] at hcp
  rw [← hR] at hcp2
  have HW1 := hid hW1
  have HR := hid hR
  clear hsome hfz hrow hov hW1 hR hN1 hc1 hz1 hT1 hcs hcz
  go_region
  all_goals go_wp2
  all_goals go_ret
  all_goals refine ⟨rfl, ?_, ?_⟩
  · have := own_ins (w := w.drew) (g := g) (n := xs.length) (cap := cap) (i := i) (base := base) x HO.out (by rw [← HN.out]; omega) (by rw [← HN.out]; exact hroom)
    rw [← HN.out, List.append_assoc] at this
    rw [HW1.out, HR.out]
    exact this
  · rw [HW1.out]
    exact ((Ch.refl _ _).drew.trans' (setCells_ch g _ _ _)).trans' (setCells_ch g R _ _)
end Go.Proofs.Ytphohfafehjafaa.Ff
