/-
  What slices.Insert of one ahead of others answers and leaves, where there is no room. Condition: the list is owned, and has fewer than 4096 elements.
-/
import Derived.Test.YtphohfafehjafaaFfGrow
import Derived.Lib.AppendZerosOnto
import Derived.Lib.AppendZeros
namespace Go.Proofs.Ytphohfafehjafaa.Ff
open Go.RowKit
attribute [local go_sem ↓] Go.wp_at_zero Go.wp_at_succ

set_option maxHeartbeats 2000000 in
set_option maxRecDepth 20000 in
theorem insert_grow (base k g cap i : Nat) (xs : List W3) (x : W3) (w : World) (ho : Own base w (.slice (some ⟨g, 0, none⟩) xs.length cap) xs) (hk : Three w k x) (hl : xs.length < 4096) (hi : i < xs.length) (hroom : cap < xs.length + 1) (hb : base ≤ w.heap.size) :
    Calls Try.prog 30 #[.slice (some ⟨g, 0, none⟩) xs.length cap, .int .i64 (i : Int), .slice (some ⟨k, 0, none⟩) 1 1] w fun e w' => ∃ G, e = .returned (.slice (some ⟨w.heap.size, 0, none⟩) (xs.length + 1) G) ∧ Own base w' (.slice (some ⟨w.heap.size, 0, none⟩) (xs.length + 1) G) (xs.take i ++ x :: xs.drop i) ∧ Ch NoB w w' := by
  obtain ⟨n, hn⟩ : ∃ n, n = xs.length := ⟨_, rfl⟩
  obtain ⟨-, hcap, hsome, hfz, hrow⟩ := own_cells ho
  obtain ⟨i0, hi0, hz0, hz1, hz2⟩ := info_parts W_info
  have hgl : g < w.heap.size := (ho.blk (q := g) rfl).2
  have hkl := hk.lt
  rw [← hn] at hl hi hroom hcap hsome ⊢
  have hold : (Builtin.firstCells i0.size i (.slice (some ⟨g, 0, none⟩) i cap)).run Try.prog w.drew = .ok (rowOf (xs.take i)).toArray w.drew := by
    rw [hz1]
    exact run_firstCells_some w.drew 3 i ⟨g, 0, none⟩ i cap (rowOf (xs.take i)) (by rw [rowOf_length, List.length_take]; omega) (fun q u hq => by
      rw [Addr.add_lit]
      rw [← rowOf_take, List.getElem?_take] at hq
      split at hq
      · exact hrow q u hq
      · cases hq)
  have hik : i + (n + 1 - i) = n + 1 := by omega
  have hrz := fun ty => Lib.run_append_grow_zeros (P := Try.prog) w 26 3 ty 33 i0 _ .i64 .i64 Try.underlying26 Try.underlying3 hi0 hz0 (some ⟨g, 0, none⟩) i cap (rowOf (xs.take i)) hold (n + 1 - i) (by omega) (by omega) (by omega) (by omega) (by rw [hz2]; omega) (by rw [hz2, hik]; exact growslice_fits (by omega) (by omega))
  rw [hik] at hrz
  have hkk : ((n + 1 - i : Nat) : Int) = (n : Int) + 1 - (i : Int) := by omega
  rw [hkk] at hrz
  obtain ⟨G, hG⟩ : ∃ G, G = grownCap w (n + 1) cap 33 := ⟨_, rfl⟩
  have hGn : n + 1 ≤ G := by rw [hG]; exact grownCap_ge w _ _ _
  have hGm : G ≤ maxLen := by rw [hG]; exact grownCap_le_maxLen w _ _ _ (by unfold maxLen; omega)
  rw [← hG] at hrz
  have hO1 := own_grown (w := w.drew) (base := base) (i := i) (m := n + 1 - i) (G := G) (ys := xs.take i) (by rw [List.length_take]; omega) hb (by omega) hGm
  rw [hik] at hO1
  obtain ⟨O, hOO⟩ : ∃ O : Obj, O = .cells ((rowOf (xs.take i)).toArray ++ Builtin.zeroCells (Value.agg #[.int .i64 0, .int .i64 0, .int .u64 0]).cells (n + 1 - i) ++ Builtin.zeroCells (Value.agg #[.int .i64 0, .int .i64 0, .int .u64 0]).cells (G - (n + 1))) 33 := ⟨_, rfl⟩
  rw [← hOO] at hrz hO1
  have hO1' : Own base (w.drew.alloc O) (.slice (some ⟨w.heap.size, 0, none⟩) (n + 1) G) (xs.take i ++ List.replicate (n + 1 - i) W3.zero) := hO1
  have gA : Ch NoB w (w.drew.alloc O) := ((Ch.refl _ _).drew).alloc _
  obtain ⟨W1, hW1⟩ : ∃ W1, W1 = w.drew.alloc O := ⟨_, rfl⟩
  rw [← hW1] at hrz hO1' gA
  obtain ⟨NB, hNB⟩ : ∃ NB, NB = w.heap.size := ⟨_, rfl⟩
  rw [← hNB] at hrz hO1' hgl hkl
  have hT1 : Three W1 k x := hk.ch gA (noB _)
  have hlen0 : (xs.take i ++ List.replicate (n + 1 - i) W3.zero).length = n + 1 := by rw [List.length_append, List.length_take, List.length_replicate]; omega
  obtain ⟨-, -, hs1, hf1, -⟩ := own_cells hO1'
  have hO2 := own_put [x] hO1' (i := i) (by rw [hlen0]; simp; omega)
  have e2 : (xs.take i ++ List.replicate (n + 1 - i) W3.zero).take i ++ [x] ++ (xs.take i ++ List.replicate (n + 1 - i) W3.zero).drop (i + [x].length) = xs.take i ++ [x] ++ List.replicate (n - i) W3.zero := by
    have hti : (xs.take i).length = i := by rw [List.length_take]; omega
    rw [List.take_left' hti, List.drop_append, hti, List.drop_of_length_le (by rw [hti]; simp), List.nil_append, List.drop_replicate]
    congr 2
    simp
    omega
  rw [e2] at hO2
  have hcpA := fun ty dc => run_copy3 W1 ty NB (i * 3) (n + 1 - i) dc ⟨k, 0, none⟩ 1 1 [x] (by simp only [Nat.min_def]; split <;> simp <;> omega) (lst_three hT1).news
    (fun q hq => by have := hs1 (i * 3 + q) (by simp at hq; omega); rw [Nat.zero_add] at this; exact this) (fun q _ => hf1 _)
  obtain ⟨W2, hW2⟩ : ∃ W2, W2 = W1.setCells NB (i * 3) (rowOf [x]) := ⟨_, rfl⟩
  rw [← hW2] at hcpA hO2
  have gB : Ch (Only NB) W1 W2 := by rw [hW2]; exact setCells_ch _ _ _ _
  obtain ⟨-, -, hs2, hf2, -⟩ := own_cells hO2
  have hlen2 : (xs.take i ++ [x] ++ List.replicate (n - i) W3.zero).length = n + 1 := by simp only [List.length_append, List.length_take, List.length_replicate, List.length_cons, List.length_nil]; omega
  have hO3 := own_put (w := W2.drew) (xs.drop i) hO2 (i := i + 1) (by rw [hlen2, List.length_drop]; omega)
  have e3 : (xs.take i ++ [x] ++ List.replicate (n - i) W3.zero).take (i + 1) ++ xs.drop i ++ (xs.take i ++ [x] ++ List.replicate (n - i) W3.zero).drop (i + 1 + (xs.drop i).length) = xs.take i ++ x :: xs.drop i := by
    have hti : (xs.take i ++ [x]).length = i + 1 := by simp only [List.length_append, List.length_take, List.length_cons, List.length_nil]; omega
    have hdr : (xs.take i ++ [x] ++ List.replicate (n - i) W3.zero).drop (i + 1 + (xs.drop i).length) = [] := List.drop_of_length_le (by rw [hlen2, List.length_drop]; omega)
    rw [hdr, List.take_left' hti, List.append_nil, List.append_assoc]
    rfl
  rw [e3] at hO3
  have gAB : Ch (Only NB) w W2 := (gA.any (S := Only NB)).trans' gB
  have hcpB := fun ty dc sc => run_copy3 W2.drew ty NB ((i + 1) * 3) (n - i) dc ⟨g, i * 3, none⟩ (n - i) sc (xs.drop i) (by rw [List.length_drop, ← hn]; simp)
    (fun q u hu => by
      rw [Addr.add_lit]
      have e : (rowOf xs)[i * 3 + q]? = some u := by rw [← hu, rowOf_drop, List.getElem?_drop]
      have := hrow (i * 3 + q) u e
      rw [Nat.zero_add] at this
      exact (gAB.cell (w := w) (by omega) (fun e => by have : g = NB := e; omega)).trans this)
    (fun q hq => by have := hs2 ((i + 1) * 3 + q) (by rw [List.length_drop, ← hn] at hq; omega); rw [Nat.zero_add] at this; exact this) (fun q _ => hf2 _)
  obtain ⟨W3', hW3⟩ : ∃ W3', W3' = W2.drew.setCells NB ((i + 1) * 3) (rowOf (xs.drop i)) := ⟨_, rfl⟩
  rw [← hW3] at hcpB hO3
  have gC : Ch NoB w W3' := by
    rw [hW3]
    exact (gAB.drew.trans' (setCells_ch NB _ _ _)).mono (fun q e => .inr (by have : q = NB := e; omega))
  obtain ⟨N1, hN1⟩ : ∃ N1, N1 = (xs.drop i).length := ⟨_, rfl⟩
  rw [← hN1] at hcpB
  have b1 : (0 : Int) ≤ (i : Int) := by omega
  have b2 : (i : Int) ≤ (n : Int) := by omega
  have b3 : ¬ ((i : Int) = (n : Int)) := by omega
  have b4 : ((i : Int) == (n : Int)) = false := by simp; omega
  have b5 : ¬ (cap = i) := by omega
  have b6 : ¬ (i = cap) := by omega
  have b7 : (cap : Int) < (n : Int) + 1 := by omega
  have b8 : (i : Int) ≤ (cap : Int) := by omega
  have b9 : i ≤ cap := by omega
  have c1 : (i : Int) ≤ (n : Int) + 1 := by omega
  have c2 : ¬ (G = i) := by omega
  have c3 : ¬ (G = i + 1) := by omega
  have c4 : IntKind.i64.wrap ((i : Int) + 1) = (i : Int) + 1 := by rw [IntKind.wrap_i64]; omega
  have c5 : (0 : Int) ≤ (i : Int) + 1 := by omega
  have c6 : (i : Int) + 1 ≤ (n : Int) + 1 := by omega
  have c7 : ((i : Int) + 1).toNat = i + 1 := by omega
  have HO3 := hid hO3
  have HGC := hid gC
  have HNB := hid hNB
  have HRZ := hid hrz
  clear hrz
  clear hG hi0 hz0 hz1 hz2 hold hOO hkk hO1 hO1' gA hW1 hNB hT1 hlen0 hs1 hf1 hO2 e2 hW2 gB hs2 hf2 hlen2 hO3 e3 gAB hW3 gC hN1 hrow hsome hfz ho hk hik hn
  go_enter Try.func30, Try.ntmps30
  go_wp2_with (at_builtin; refine Lib.wpList_append_run _ rfl _ _ _ _ rfl _ _ rfl rfl _ _ (HRZ.out _) ?_)
  go_region
  all_goals go_wp2
  all_goals go_ret
  all_goals refine ⟨G, ?_, ?_, HGC.out⟩
  all_goals rw [← HNB.out]
  all_goals first | rfl | exact HO3.out

/-- slices.Insert of one, anywhere -/
theorem insert_any (base k i : Nat) (v : Value) (xs : List W3) (x : W3) (w : World) (ho : Own base w v xs) (hk : Three w k x) (hl : xs.length < 4096) (hi : i ≤ xs.length) (hb : base ≤ w.heap.size) (hkv : ¬ Blk v k) :
    Calls Try.prog 30 #[v, .int .i64 (i : Int), .slice (some ⟨k, 0, none⟩) 1 1] w fun e w' => ∃ v', e = .returned v' ∧ Own base w' v' (xs.take i ++ x :: xs.drop i) ∧ Ch (Blk v) w w' ∧ (∀ q, Blk v' q → Blk v q ∨ w.heap.size ≤ q) := by
  by_cases he : i = xs.length
  · subst he
    refine (insert_end base k v xs x w ho hk hl hb).mono ?_
    rintro e w' ⟨v', rfl, h1, h2, h3⟩
    refine ⟨v', rfl, ?_, h2, h3⟩
    rw [List.take_length, List.drop_length]
    exact h1
  · have hi' : i < xs.length := by omega
    rcases ho.2 with ⟨rfl, h0⟩ | ⟨g, cap, cur, hv, _⟩
    · omega
    · subst hv
      have hg : ¬ k = g := fun e => hkv (by subst e; rfl)
      by_cases hroom : xs.length + 1 ≤ cap
      · refine (insert_shift base k g cap i xs x w ho hk hl hi' hroom hg).mono ?_
        rintro e w' ⟨rfl, h1, h2⟩
        exact ⟨_, rfl, h1, h2.mono (fun q e => .inl (by have : q = g := e; subst this; rfl)), fun q h => .inl h⟩
      · refine (insert_grow base k g cap i xs x w ho hk hl hi' (by omega) hb).mono ?_
        rintro e w' ⟨G, rfl, h1, h2⟩
        exact ⟨_, rfl, h1, h2.any, fun q h => .inr (by have h' : some w.heap.size = some q := h; injection h' with h'; omega)⟩
end Go.Proofs.Ytphohfafehjafaa.Ff
