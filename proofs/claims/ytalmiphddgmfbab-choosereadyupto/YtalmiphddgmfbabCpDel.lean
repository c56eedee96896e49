/-
  What slices.Delete of the first value answers and leaves, of a list that is owned. Condition: the list is there, and has no more than 4294967296 elements.
-/
import Derived.Test.YtalmiphddgmfbabCpWo
import Derived.Deep.RegionLaw
import Derived.Lib.SliceRun
namespace Go.Proofs.Ytalmiphddgmfbab.Lt
open Go.RowKit Wd
attribute [local go_sem ↓] Go.wp_at_zero Go.wp_at_succ

/-- a list of one-cell values that is owned -/
def OwV (T base : Nat) (w : World) (v : Value) (xs : List Value) : Prop := w.ownsRow base T 1 v xs.length xs
theorem setCells_blkV {b : Nat} {t : TypeId} {fr : Nat × Nat} : ∀ (vs : List Value) (o : Nat) (w : World) (c : Array Value), w.heap[b]? = some (.cells c t fr) → o + vs.length ≤ c.size →
    ∃ c' : Array Value, (w.setCells b o vs).heap[b]? = some (.cells c' t fr) ∧ c'.size = c.size ∧ c'.toList = c.toList.take o ++ vs ++ c.toList.drop (o + vs.length)
  | [], o, w, c, h, _ => ⟨c, h, rfl, by simp⟩
  | v :: r, o, w, c, h, hl => by
    simp only [List.length_cons] at hl
    have h1 := setCell_block h o v
    obtain ⟨c', h2, h3, h4⟩ := setCells_blkV r (o + 1) (w.setCell ⟨b, o, none⟩ v) _ h1 (by simp; omega)
    refine ⟨c', h2, by rw [h3]; simp, ?_⟩
    rw [h4]
    have ho : o < c.toList.length := by simp; omega
    have e : (c.setIfInBounds o v).toList = c.toList.set o v := by simp
    rw [e]
    have e1 : (c.toList.set o v).take (o + 1) = c.toList.take o ++ [v] := by
      rw [List.take_add_one, List.getElem?_set_self ho, List.take_set_of_le (by omega)]
      rfl
    have e2 : (c.toList.set o v).drop (o + 1 + r.length) = c.toList.drop (o + (r.length + 1)) := by
      rw [List.drop_set_of_lt (by omega)]
      congr 1
      omega
    rw [e1, e2]
    simp

theorem run_clear1 (w : World) (ty : TypeId) (b o n c : Nat) (hn : 0 < n) (hc : ∀ j, j < n → (w.cell? ⟨b, o + j, none⟩).isSome = true) (hf : ∀ j, j < n → w.frozen? ⟨b, o + j, none⟩ = false) :
    (Builtin.clear_ #[67] ty #[.slice (some ⟨b, o, none⟩) n c]).run Try.prog w = .ok (.tuple #[]) (w.setCells b o (List.replicate n (.int .i64 0))) :=
  Lib.run_clear_slice w 67 2 ty (.int .i64 0) Try.underlying67 (fun _ => by go_simp) rfl rfl b o n c hn hc hf

/-- what a list holds behind a delete -/
def cutOut (i j : Nat) (xs : List Value) : List Value := xs.take i ++ xs.drop j
theorem own_cutV {w : World} {g n cap i j : Nat} {base : Nat} {xs : List Value} (h : OwV 2 base w (.slice (some ⟨g, 0, none⟩) n cap) xs) (hi : i ≤ j) (hj : j ≤ xs.length) :
    OwV 2 base ((w.setCells g (i) ((xs.drop j))).setCells g ((i + (xs.length - j))) ((List.replicate (j - i) (.int .i64 0 : Value)))) (.slice (some ⟨g, 0, none⟩) (i + (xs.length - j)) cap) (cutOut i j xs) := by
  have hl : (cutOut i j xs).length = i + (xs.length - j) := by unfold cutOut; rw [List.length_append, List.length_take, List.length_drop]; omega
  rcases h.2 with ⟨h1, _⟩ | ⟨g', cap', cur, h1, hb, hg, hc, hm, hs, ht⟩
  · cases h1
  · injection h1 with h1 h2 h3
    injection h1 with h1
    injection h1 with h1
    subst h1 h2 h3
    rw [Nat.mul_one] at hs ht
    obtain ⟨c1, k1, k2, k3⟩ := setCells_blkV ((xs.drop j)) (i) w cur hg (by rw [List.length_drop]; omega)
    obtain ⟨c2, q1, q2, q3⟩ := setCells_blkV ((List.replicate (j - i) (.int .i64 0 : Value))) ((i + (xs.length - j))) _ c1 k1 (by rw [List.length_replicate]; omega)
    refine ⟨by simp, .inr ⟨g, cap, c2, by rw [hl], hb, q1, by omega, hm, by omega, ?_⟩⟩
    rw [hl, Nat.mul_one, q3, List.append_assoc, List.take_left' (by rw [List.length_take]; simp; omega), k3]
    have e1 : cur.toList.take (i) = (xs.take i) := by
      rw [← ht, List.take_take, Nat.min_eq_left (by omega)]
    rw [e1, List.take_left' (by rw [List.length_append, List.length_take, List.length_drop]; omega)]
    rfl

theorem own_cellsV {base : Nat} {w : World} {g n cap : Nat} {xs : List Value} (h : OwV 2 base w (.slice (some ⟨g, 0, none⟩) n cap) xs) :
    n = xs.length ∧ n ≤ cap ∧ (∀ k, k < n → (w.cell? ⟨g, 0 + k, none⟩).isSome = true) ∧ (∀ k, w.frozen? ⟨g, k, none⟩ = false) ∧ (∀ k u, (xs)[k]? = some u → w.cell? ⟨g, 0 + k, none⟩ = some u) := by
  rcases h.2 with ⟨h1, _⟩ | ⟨g', cap', cur, h1, hb, hg, hc, hm, hs, ht⟩
  · cases h1
  · injection h1 with h1 h2 h3
    injection h1 with h1
    injection h1 with h1
    subst h1 h2 h3
    rw [Nat.mul_one] at hs ht
    refine ⟨rfl, hc, fun k hk => ?_, fun k => frozen_of hg k, fun k u hu => ?_⟩
    · rw [cell_of hg, Nat.zero_add, Array.getElem?_eq_getElem (by omega)]
      rfl
    · have hk : k < xs.length := by exact (List.getElem?_eq_some_iff.1 hu).1
      rw [← ht, List.getElem?_take_of_lt hk, Array.getElem?_toList] at hu
      rw [cell_of hg, Nat.zero_add]
      exact hu

set_option maxHeartbeats 1000000 in
theorem deleteV_any (base g n cap i j : Nat) (xs : List Value) (w : World) (ho : OwV 2 base w (.slice (some ⟨g, 0, none⟩) n cap) xs) (hij : i < j) (hj : j ≤ n) (hl : n ≤ 4294967296) (hone : ∀ u ∈ xs, u.oneCell' = true) :
    Calls Try.prog 65 #[.slice (some ⟨g, 0, none⟩) n cap, .int .i64 (i : Int), .int .i64 (j : Int)] w fun e w' => e = .returned (.slice (some ⟨g, 0, none⟩) (i + (n - j)) cap) ∧ OwV 2 base w' (.slice (some ⟨g, 0, none⟩) (i + (n - j)) cap) (cutOut i j xs) ∧ Ch (Only g) w w' := by
  obtain ⟨hn, hcap, hsome, hfz, hrow⟩ := own_cellsV ho
  obtain ⟨i0, hi, hz0, hz1, hz2⟩ := info_parts i64_info
  have b1 : (0 : Int) ≤ (i : Int) := by omega
  have b2 : (i : Int) ≤ (j : Int) := by omega
  have b3 : (j : Int) ≤ (n : Int) := by omega
  have b4 : ¬ ((i : Int) = (j : Int)) := by omega
  have b5 : ((i : Int) == (j : Int)) = false := by simp; omega
  have b6 : (i : Int) ≤ (cap : Int) := by omega
  have b7 : (n : Int) ≤ (cap : Int) := by omega
  have b8 : i ≤ cap := by omega
  have HO := hid ho
  have HONE := hid hone
  clear hone
  have HN := hid hn
  have HS := hid hsome
  have HF := hid hfz
  have HR := hid hrow
  clear ho hn hsome hfz hrow
  go_enter Try.func65, Try.ntmps65
  go_wp2_with fail
  by_cases hjc : cap = j
  · subst hjc
    obtain rfl : n = cap := by omega
    go_region_law (refine step_append_room rfl (.tmp 22) (.tmp 25) 67 rfl 2 i0 1 Try.underlying67 hi hz1 g 0 i n (by simp [Act.eval, Act.put]) ⟨g, 0, none⟩ 0 0 [] (by simp [Act.eval, Act.put]) rfl (fun k u hu => by simp at hu) (fun u hu => by simp at hu) (by omega) (fun k hk => by simp at hk) ?_)
    have hblk : ∃ c, w.drew.heap[g]? = some (.cells c 2 (0, 0)) ∧ c.size = n := by
      rcases HO.out.2 with ⟨h1, _⟩ | ⟨g', cap', cur, h1, hb, hg, hc, hm, hs, ht⟩
      · cases h1
      · injection h1 with h1 h2 h3
        injection h1 with h1
        injection h1 with h1
        subst h1 h3
        exact ⟨cur, hg, by simpa using hs⟩
    obtain ⟨cB, hB1, hB2⟩ := hblk
    have l3 : ¬ (n = i) := by omega
    have l4 : ¬ (i = n) := by omega
    have hcl := fun ty c => run_clear1 w.drew ty g (i) (n - i) c (by omega) (fun k hk => by rw [cell_of hB1, Array.getElem?_eq_getElem (by omega)]; rfl) (fun k _ => frozen_of hB1 _)
    obtain ⟨Z, hZ⟩ : ∃ Z, Z = (List.replicate (n - i) (.int .i64 0 : Value)) := ⟨_, rfl⟩
    rw [← hZ] at hcl
    have HZ := hid hZ
    clear hZ hB1 hB2
    simp only [World.setCells]
    go_wp2
    go_ret
    have hfin := own_cutV (w := w.drew) (g := g) (n := n) (cap := n) (base := base) HO.out (Nat.le_of_lt hij) (by rw [← HN.out]; exact hj)
    have e0 : (xs.drop n) = [] := by rw [List.drop_of_length_le (by rw [← HN.out]; omega)]
    rw [← HN.out, e0, Nat.sub_self, Nat.add_zero] at hfin
    rw [Nat.sub_self, Nat.add_zero]
    refine ⟨rfl, ?_, (Ch.refl _ _).drew.trans' (setCells_ch g Z _ _)⟩
    rw [HZ.out]
    exact hfin
  · have hjc' : ¬ (j = cap) := fun e => hjc e.symm
    have hA : ((xs.drop j)).length = (n - j) := by rw [List.length_drop, ← HN.out]
    have hB : ∀ k u, ((xs.drop j))[k]? = some u → w.drew.cell? ((⟨g, j, none⟩ : Addr).add k) = some u := fun k u hu => by
      rw [Addr.add_lit]
      have e : (xs)[j + k]? = some u := by rw [← hu, List.getElem?_drop]
      have := HR.out (j + k) u e
      rw [Nat.zero_add] at this
      exact this
    have hC : ∀ k, k < ((xs.drop j)).length → (w.drew.cell? ⟨g, 0 + i + k, none⟩).isSome = true ∧ w.drew.frozen? ⟨g, 0 + i + k, none⟩ = false := fun k hk => by
      rw [hA] at hk
      have := HS.out (i + k) (by omega)
      rw [← Nat.add_assoc] at this
      exact ⟨this, HF.out _⟩
    obtain ⟨R, hR⟩ : ∃ R, R = (xs.drop j) := ⟨_, rfl⟩
    rw [← hR] at hA hB hC
    have hR1 : ∀ u ∈ R, u.oneCell' = true := by rw [hR]; exact fun u hu => HONE.out u (List.mem_of_mem_drop hu)
    have HA := hid hA
    have HB := hid hB
    have HC := hid hC
    have HRR := hid hR
    have HR1 := hid hR1
    clear hA hB hC hR hR1
    go_region_law (refine step_append_room rfl (.tmp 22) (.tmp 25) 67 rfl 2 i0 1 Try.underlying67 hi hz1 g 0 i cap (by simp [Act.eval, Act.put]) ⟨g, j, none⟩ (n - j) (cap - j) R (by simp [Act.eval, Act.put]) (HA.out.trans (Nat.mul_one _).symm) HB.out HR1.out (by omega) (fun k hk => by have := HC.out k hk; simpa using this) ?_)
    obtain ⟨W1, hW1⟩ : ∃ W1, W1 = w.drew.setCells g (i) R := ⟨_, rfl⟩
    obtain ⟨L, hL⟩ : ∃ L, L = i + (n - j) := ⟨_, rfl⟩
    have hLn : L < n := by omega
    have l1 : (0 : Int) ≤ (L : Int) := by omega
    have l2 : (L : Int) ≤ (n : Int) := by omega
    have l3 : ¬ (cap = L) := by omega
    have l4 : ¬ (L = cap) := by omega
    have hblk : ∃ c, W1.heap[g]? = some (.cells c 2 (0, 0)) ∧ c.size = cap := by
      rcases HO.out.2 with ⟨h1, _⟩ | ⟨g', cap', cur, h1, hb, hg, hc, hm, hs, ht⟩
      · cases h1
      · injection h1 with h1 h2 h3
        injection h1 with h1
        injection h1 with h1
        subst h1 h3
        obtain ⟨c', k1, k2, _⟩ := setCells_blkV R (i) w.drew cur hg (by rw [HA.out]; omega)
        exact ⟨c', by rw [hW1]; exact k1, by omega⟩
    obtain ⟨cB, hB1, hB2⟩ := hblk
    have hcl := fun ty c => run_clear1 W1 ty g (L) (n - L) c (by omega) (fun k hk => by rw [cell_of hB1, Array.getElem?_eq_getElem (by omega)]; rfl) (fun k _ => frozen_of hB1 _)
    obtain ⟨Z, hZ⟩ : ∃ Z, Z = (List.replicate (n - L) (.int .i64 0 : Value)) := ⟨_, rfl⟩
    rw [← hZ] at hcl
    rw [← hW1, ← hL]
    have HW1 := hid hW1
    have HLL := hid hL
    have HZ := hid hZ
    clear hW1 hL hZ hB1 hB2
    go_wp2
    go_ret
    rw [HLL.out]
    have hfin := own_cutV (w := w.drew) (g := g) (n := n) (cap := cap) (base := base) HO.out (Nat.le_of_lt hij) (by rw [← HN.out]; exact hj)
    rw [← HN.out] at hfin
    have e1 : n - (i + (n - j)) = j - i := by omega
    refine ⟨rfl, ?_, ?_⟩
    · have e2 := HZ.out
      rw [HLL.out, e1] at e2
      rw [e2, HW1.out, HRR.out]
      exact hfin
    · rw [HW1.out]
      exact ((Ch.refl _ _).drew.trans' (setCells_ch g R (i) _)).trans' (setCells_ch g Z _ _)
theorem flat_eI (us : List Int) : us.flatMap eI = us.map (fun n => Value.int .i64 n) := by
  induction us with
  | nil => rfl
  | cons u r ih => rw [List.flatMap_cons, ih]; rfl
theorem owV_of {T base : Nat} {w : World} {v : Value} {us : List Int} : Ow eI 1 T base w v us ↔ OwV T base w v (us.map (fun n => Value.int .i64 n)) := by
  unfold Ow OwV
  rw [flat_eI, List.length_map]
/-- the first value leaves -/
theorem del0_any (base g n cap : Nat) (u : Int) (us : List Int) (w : World) (ho : Ow eI 1 2 base w (.slice (some ⟨g, 0, none⟩) n cap) (u :: us)) (hl : n ≤ 4294967296) :
    Calls Try.prog 65 #[.slice (some ⟨g, 0, none⟩) n cap, .int .i64 0, .int .i64 1] w fun e w' => e = .returned (.slice (some ⟨g, 0, none⟩) (n - 1) cap) ∧ Ow eI 1 2 base w' (.slice (some ⟨g, 0, none⟩) (n - 1) cap) us ∧ Ch (Only g) w w' := by
  have hn := ho.len.1
  have := deleteV_any base g n cap 0 1 _ w (owV_of.1 ho) (by omega) (by rw [hn]; simp) hl (fun v hv => by obtain ⟨m, _, rfl⟩ := List.mem_map.1 hv; rfl)
  refine this.mono ?_
  rintro e w' ⟨h1, h2, h3⟩
  rw [Nat.zero_add] at h1 h2
  exact ⟨h1, owV_of.2 h2, h3⟩
end Go.Proofs.Ytalmiphddgmfbab.Lt
