/-
  What slices.Delete answers and leaves, of a list that is owned. Condition: the list is there, and has no more than 4294967296 elements.
-/
import Derived.Test.YtnpbehcfbceclaaPoBase
import Derived.Deep.RegionLaw
import Derived.Lib.SliceRun
namespace Go.Proofs.Ytnpbehcfbceclaa.Lt
open Go.RowKit Wd
attribute [local go_sem ↓] Go.wp_at_zero Go.wp_at_succ

theorem setCells_ch (b : Nat) : ∀ (vs : List Value) (o : Nat) (w : World), Ch (Only b) w (w.setCells b o vs)
  | [], _, _ => Ch.refl _ _
  | v :: r, o, w => ((Ch.refl (Only b) w).own o v).trans' (setCells_ch b r (o + 1) _)
theorem setCells_block {b : Nat} {t : TypeId} {fr : Nat × Nat} : ∀ (vs : List Value) (o : Nat) (w : World) (c : Array Value), w.heap[b]? = some (.cells c t fr) → o + vs.length ≤ c.size →
    ∃ c' : Array Value, (w.setCells b o vs).heap[b]? = some (.cells c' t fr) ∧ c'.size = c.size ∧ c'.toList = c.toList.take o ++ vs ++ c.toList.drop (o + vs.length)
  | [], o, w, c, h, _ => ⟨c, h, rfl, by simp⟩
  | v :: r, o, w, c, h, hl => by
    simp only [List.length_cons] at hl
    have h1 := setCell_block h o v
    obtain ⟨c', h2, h3, h4⟩ := setCells_block r (o + 1) (w.setCell ⟨b, o, none⟩ v) _ h1 (by simp; omega)
    refine ⟨c', h2, by rw [h3]; simp, ?_⟩
    rw [h4]
    have ho : o < c.toList.length := by simp; omega
    have e : (c.setIfInBounds o v).toList = c.toList.set o v := by simp
    rw [e]
    have e1 : (c.toList.set o v).take (o + 1) = c.toList.take o ++ [v] := by
      rw [List.take_add_one, List.getElem?_set_self ho, List.take_set_of_le (by omega)]
      rfl
    have e2 : (c.toList.set o v).drop (o + 1 + r.length) = c.toList.drop (o + (r.length + 1)) := by
      rw [List.drop_set_of_lt (by omega)]
      congr 1
      omega
    rw [e1, e2]
    simp

theorem flatG_take (a : List Ag) : ∀ (k : Nat), (a.flatMap eG).take (k * 2) = (a.take k).flatMap eG := by
  induction a with
  | nil => intro k; simp
  | cons x r ih =>
    intro k
    cases k with
    | zero => simp
    | succ k =>
      have e : (k + 1) * 2 = k * 2 + 2 := by omega
      rw [e]
      simp [eG, ih k]
theorem flatG_drop (a : List Ag) : ∀ (k : Nat), (a.drop k).flatMap eG = (a.flatMap eG).drop (k * 2) := by
  induction a with
  | nil => intro k; simp
  | cons x r ih =>
    intro k
    cases k with
    | zero => simp
    | succ k =>
      have e : (k + 1) * 2 = k * 2 + 2 := by omega
      rw [e]
      simp [eG, ih k]
theorem flatZ : ∀ n : Nat, (List.replicate n (⟨0, 0⟩ : Ag)).flatMap eG = List.replicate (n * 2) (.int .i64 0)
  | 0 => rfl
  | n + 1 => by
    rw [List.replicate_succ, List.flatMap_cons, flatZ n, show (n + 1) * 2 = n * 2 + 1 + 1 by omega, List.replicate_succ, List.replicate_succ]
    rfl
theorem replG (n : Nat) : (Builtin.zeroCells (Value.agg #[.int .i64 0, .int .i64 0]).cells n).toList = (List.replicate n (⟨0, 0⟩ : Ag)).flatMap eG := by
  rw [flatZ]
  apply List.ext_getElem?
  intro j
  by_cases hj : j < n * 2
  · rw [List.getElem?_replicate, if_pos hj]
    simp only [Builtin.zeroCells, Value.cells]
    rcases (by omega : j % 2 = 0 ∨ j % 2 = 1) with hm | hm <;> simp [hm, hj] <;> omega
  · have h1 : (Builtin.zeroCells (Value.agg #[.int .i64 0, .int .i64 0]).cells n).toList.length ≤ j := by
      simp [Builtin.zeroCells, Value.cells]
      omega
    rw [List.getElem?_eq_none h1, List.getElem?_eq_none (by simp; omega)]
theorem run_clear2 (w : World) (ty : TypeId) (b o n c : Nat) (hn : 0 < n) (hc : ∀ j, j < n * 2 → (w.cell? ⟨b, o + j, none⟩).isSome = true) (hf : ∀ j, j < n * 2 → w.frozen? ⟨b, o + j, none⟩ = false) :
    (Builtin.clear_ #[30] ty #[.slice (some ⟨b, o, none⟩) n c]).run Try.prog w = .ok (.tuple #[]) (w.setCells b o ((List.replicate n (⟨0, 0⟩ : Ag)).flatMap eG)) := by
  have hl : ((List.replicate n (⟨0, 0⟩ : Ag)).flatMap eG).length = n * 2 := by rw [flat_len eG_len, List.length_replicate]
  have hst := run_storeCells_cells (P := Try.prog) b o ((List.replicate n (⟨0, 0⟩ : Ag)).flatMap eG) 0 w (by simpa [hl] using hc) (by simpa [hl] using hf) (eG_one _)
  simp only [Nat.add_zero] at hst
  obtain ⟨m, rfl⟩ : ∃ m, n = m + 1 := ⟨n - 1, by omega⟩
  simp [Builtin.clear_, run_underlying Try.underlying30, replG, hst]
/-- what a list holds behind a delete -/
def cutOut (i j : Nat) (xs : List Ag) : List Ag := xs.take i ++ xs.drop j
theorem own_cut {w : World} {g n cap i j : Nat} {base : Nat} {xs : List Ag} (h : Ow eG 2 59 base w (.slice (some ⟨g, 0, none⟩) n cap) xs) (hi : i ≤ j) (hj : j ≤ xs.length) :
    Ow eG 2 59 base ((w.setCells g (i * 2) (((xs.drop j).flatMap eG))).setCells g ((i + (xs.length - j)) * 2) (((List.replicate (j - i) (⟨0, 0⟩ : Ag)).flatMap eG))) (.slice (some ⟨g, 0, none⟩) (i + (xs.length - j)) cap) (cutOut i j xs) := by
  have hl : (cutOut i j xs).length = i + (xs.length - j) := by unfold cutOut; rw [List.length_append, List.length_take, List.length_drop]; omega
  rcases h.2 with ⟨h1, _⟩ | ⟨g', cap', cur, h1, hb, hg, hc, hm, hs, ht⟩
  · cases h1
  · injection h1 with h1 h2 h3
    injection h1 with h1
    injection h1 with h1
    subst h1 h2 h3
    obtain ⟨c1, k1, k2, k3⟩ := setCells_block (((xs.drop j).flatMap eG)) (i * 2) w cur hg (by rw [flat_len eG_len, List.length_drop]; omega)
    obtain ⟨c2, q1, q2, q3⟩ := setCells_block (((List.replicate (j - i) (⟨0, 0⟩ : Ag)).flatMap eG)) ((i + (xs.length - j)) * 2) _ c1 k1 (by rw [flat_len eG_len, List.length_replicate]; omega)
    refine ⟨by rw [flat_len eG_len], .inr ⟨g, cap, c2, by rw [hl], hb, q1, by omega, hm, by omega, ?_⟩⟩
    rw [hl, q3, List.append_assoc, List.take_left' (by rw [List.length_take]; simp; omega), k3]
    have e1 : cur.toList.take (i * 2) = ((xs.take i).flatMap eG) := by
      rw [← flatG_take, ← ht, List.take_take, Nat.min_eq_left (by omega)]
    rw [e1, ← List.flatMap_append, List.take_left' (by rw [flat_len eG_len, List.length_append, List.length_take, List.length_drop]; omega)]
    rfl

theorem own_cells {base : Nat} {w : World} {g n cap : Nat} {xs : List Ag} (h : Ow eG 2 59 base w (.slice (some ⟨g, 0, none⟩) n cap) xs) :
    n = xs.length ∧ n ≤ cap ∧ (∀ k, k < n * 2 → (w.cell? ⟨g, 0 + k, none⟩).isSome = true) ∧ (∀ k, w.frozen? ⟨g, k, none⟩ = false) ∧ (∀ k u, ((xs.flatMap eG))[k]? = some u → w.cell? ⟨g, 0 + k, none⟩ = some u) := by
  rcases h.2 with ⟨h1, _⟩ | ⟨g', cap', cur, h1, hb, hg, hc, hm, hs, ht⟩
  · cases h1
  · injection h1 with h1 h2 h3
    injection h1 with h1
    injection h1 with h1
    subst h1 h2 h3
    refine ⟨rfl, hc, fun k hk => ?_, fun k => frozen_of hg k, fun k u hu => ?_⟩
    · rw [cell_of hg, Nat.zero_add, Array.getElem?_eq_getElem (by omega)]
      rfl
    · have hk : k < xs.length * 2 := by rw [← flat_len eG_len]; exact (List.getElem?_eq_some_iff.1 hu).1
      rw [← ht, List.getElem?_take_of_lt hk, Array.getElem?_toList] at hu
      rw [cell_of hg, Nat.zero_add]
      exact hu

set_option maxHeartbeats 1000000 in
theorem delete_any (base g n cap i j : Nat) (xs : List Ag) (w : World) (ho : Ow eG 2 59 base w (.slice (some ⟨g, 0, none⟩) n cap) xs) (hij : i < j) (hj : j ≤ n) (hl : n ≤ 4294967296) :
    Calls Try.prog 58 #[.slice (some ⟨g, 0, none⟩) n cap, .int .i64 (i : Int), .int .i64 (j : Int)] w fun e w' => e = .returned (.slice (some ⟨g, 0, none⟩) (i + (n - j)) cap) ∧ Ow eG 2 59 base w' (.slice (some ⟨g, 0, none⟩) (i + (n - j)) cap) (cutOut i j xs) ∧ Ch (Only g) w w' := by
  obtain ⟨hn, hcap, hsome, hfz, hrow⟩ := own_cells ho
  obtain ⟨i0, hi, hz0, hz1, hz2⟩ := info_parts agd_info
  have b1 : (0 : Int) ≤ (i : Int) := by omega
  have b2 : (i : Int) ≤ (j : Int) := by omega
  have b3 : (j : Int) ≤ (n : Int) := by omega
  have b4 : ¬ ((i : Int) = (j : Int)) := by omega
  have b5 : ((i : Int) == (j : Int)) = false := by simp; omega
  have b6 : (i : Int) ≤ (cap : Int) := by omega
  have b7 : (n : Int) ≤ (cap : Int) := by omega
  have b8 : i ≤ cap := by omega
  have HO := hid ho
  have HN := hid hn
  have HS := hid hsome
  have HF := hid hfz
  have HR := hid hrow
  clear ho hn hsome hfz hrow
  go_enter Try.func58, Try.ntmps58
  go_wp2_with fail
  by_cases hjc : cap = j
  · subst hjc
    obtain rfl : n = cap := by omega
    go_region_law (refine step_append_room rfl (.tmp 22) (.tmp 25) 30 rfl 59 i0 2 Try.underlying30 hi hz1 g 0 i n (by simp [Act.eval, Act.put]) ⟨g, 0, none⟩ 0 0 [] (by simp [Act.eval, Act.put]) rfl (fun k u hu => by simp at hu) (fun u hu => by simp at hu) (by omega) (fun k hk => by simp at hk) ?_)
    have hblk : ∃ c, w.drew.heap[g]? = some (.cells c 59 (0, 0)) ∧ c.size = n * 2 := by
      rcases HO.out.2 with ⟨h1, _⟩ | ⟨g', cap', cur, h1, hb, hg, hc, hm, hs, ht⟩
      · cases h1
      · injection h1 with h1 h2 h3
        injection h1 with h1
        injection h1 with h1
        subst h1 h3
        exact ⟨cur, hg, hs⟩
    obtain ⟨cB, hB1, hB2⟩ := hblk
    have l3 : ¬ (n = i) := by omega
    have l4 : ¬ (i = n) := by omega
    have hcl := fun ty c => run_clear2 w.drew ty g (i * 2) (n - i) c (by omega) (fun k hk => by rw [cell_of hB1, Array.getElem?_eq_getElem (by omega)]; rfl) (fun k _ => frozen_of hB1 _)
    obtain ⟨Z, hZ⟩ : ∃ Z, Z = ((List.replicate (n - i) (⟨0, 0⟩ : Ag)).flatMap eG) := ⟨_, rfl⟩
    rw [← hZ] at hcl
    have HZ := hid hZ
    clear hZ hB1 hB2
    simp only [World.setCells]
    go_wp2
    go_ret
    have hfin := own_cut (w := w.drew) (g := g) (n := n) (cap := n) (base := base) HO.out (Nat.le_of_lt hij) (by rw [← HN.out]; exact hj)
    have e0 : ((xs.drop n).flatMap eG) = [] := by rw [List.drop_of_length_le (by rw [← HN.out]; omega)]; rfl
    rw [← HN.out, e0, Nat.sub_self, Nat.add_zero] at hfin
    rw [Nat.sub_self, Nat.add_zero]
    refine ⟨rfl, ?_, (Ch.refl _ _).drew.trans' (setCells_ch g Z _ _)⟩
    rw [HZ.out]
    exact hfin
  · have hjc' : ¬ (j = cap) := fun e => hjc e.symm
    have hA : (((xs.drop j).flatMap eG)).length = (n - j) * 2 := by rw [flat_len eG_len, List.length_drop, ← HN.out]
    have hB : ∀ k u, (((xs.drop j).flatMap eG))[k]? = some u → w.drew.cell? ((⟨g, j * 2, none⟩ : Addr).add k) = some u := fun k u hu => by
      rw [Addr.add_lit]
      have e : ((xs.flatMap eG))[j * 2 + k]? = some u := by rw [← hu, flatG_drop, List.getElem?_drop]
      have := HR.out (j * 2 + k) u e
      rw [Nat.zero_add] at this
      exact this
    have hC : ∀ k, k < (((xs.drop j).flatMap eG)).length → (w.drew.cell? ⟨g, 0 + i * 2 + k, none⟩).isSome = true ∧ w.drew.frozen? ⟨g, 0 + i * 2 + k, none⟩ = false := fun k hk => by
      rw [hA] at hk
      have := HS.out (i * 2 + k) (by omega)
      rw [← Nat.add_assoc] at this
      exact ⟨this, HF.out _⟩
    obtain ⟨R, hR⟩ : ∃ R, R = ((xs.drop j).flatMap eG) := ⟨_, rfl⟩
    rw [← hR] at hA hB hC
    have hR1 : ∀ u ∈ R, u.oneCell' = true := by rw [hR]; exact eG_one _
    have HA := hid hA
    have HB := hid hB
    have HC := hid hC
    have HRR := hid hR
    have HR1 := hid hR1
    clear hA hB hC hR hR1
    go_region_law (refine step_append_room rfl (.tmp 22) (.tmp 25) 30 rfl 59 i0 2 Try.underlying30 hi hz1 g 0 i cap (by simp [Act.eval, Act.put]) ⟨g, j * 2, none⟩ (n - j) (cap - j) R (by simp [Act.eval, Act.put]) HA.out HB.out HR1.out (by omega) HC.out ?_)
    obtain ⟨W1, hW1⟩ : ∃ W1, W1 = w.drew.setCells g (i * 2) R := ⟨_, rfl⟩
    obtain ⟨L, hL⟩ : ∃ L, L = i + (n - j) := ⟨_, rfl⟩
    have hLn : L < n := by omega
    have l1 : (0 : Int) ≤ (L : Int) := by omega
    have l2 : (L : Int) ≤ (n : Int) := by omega
    have l3 : ¬ (cap = L) := by omega
    have l4 : ¬ (L = cap) := by omega
    have hblk : ∃ c, W1.heap[g]? = some (.cells c 59 (0, 0)) ∧ c.size = cap * 2 := by
      rcases HO.out.2 with ⟨h1, _⟩ | ⟨g', cap', cur, h1, hb, hg, hc, hm, hs, ht⟩
      · cases h1
      · injection h1 with h1 h2 h3
        injection h1 with h1
        injection h1 with h1
        subst h1 h3
        obtain ⟨c', k1, k2, _⟩ := setCells_block R (i * 2) w.drew cur hg (by rw [HA.out]; omega)
        exact ⟨c', by rw [hW1]; exact k1, by omega⟩
    obtain ⟨cB, hB1, hB2⟩ := hblk
    have hcl := fun ty c => run_clear2 W1 ty g (L * 2) (n - L) c (by omega) (fun k hk => by rw [cell_of hB1, Array.getElem?_eq_getElem (by omega)]; rfl) (fun k _ => frozen_of hB1 _)
    obtain ⟨Z, hZ⟩ : ∃ Z, Z = ((List.replicate (n - L) (⟨0, 0⟩ : Ag)).flatMap eG) := ⟨_, rfl⟩
    rw [← hZ] at hcl
    rw [← hW1, ← hL]
    have HW1 := hid hW1
    have HLL := hid hL
    have HZ := hid hZ
    clear hW1 hL hZ hB1 hB2
    go_wp2
    go_ret
    rw [HLL.out]
    have hfin := own_cut (w := w.drew) (g := g) (n := n) (cap := cap) (base := base) HO.out (Nat.le_of_lt hij) (by rw [← HN.out]; exact hj)
    rw [← HN.out] at hfin
    have e1 : n - (i + (n - j)) = j - i := by omega
    refine ⟨rfl, ?_, ?_⟩
    · have e2 := HZ.out
      rw [HLL.out, e1] at e2
      rw [e2, HW1.out, HRR.out]
      exact hfin
    · rw [HW1.out]
      exact ((Ch.refl _ _).drew.trans' (setCells_ch g R (i * 2) _)).trans' (setCells_ch g Z _ _)
end Go.Proofs.Ytnpbehcfbceclaa.Lt
