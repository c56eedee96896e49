/-
  Orders and draws as plain lists: the order of draws, the draws of an order, there and back. No conditions.
-/
import Derived.Test.YtalmiphddgmfbabGnList
namespace Go.Proofs.Ytalmiphddgmfbab.Lt
/-- one more case: where its draw puts it -/
def so (l : List Int) (d : Int) : List Int := (l ++ [l.getD (d % ((l.length : Int) + 1)).toNat 0]).set (d % ((l.length : Int) + 1)).toNat (l.length : Int)
/-- the order of draws -/
def ord (ds : List Int) : List Int := ds.foldl so []
theorem so_len (l : List Int) (d : Int) : (so l d).length = l.length + 1 := by simp [so]
theorem ord_snoc (ds : List Int) (d : Int) : ord (ds ++ [d]) = so (ord ds) d := by simp [ord, List.foldl_append]
theorem foldl_len (ds l : List Int) : (ds.foldl so l).length = l.length + ds.length := by
  induction ds generalizing l with
  | nil => rfl
  | cons d r ih => rw [List.foldl_cons, ih, so_len, List.length_cons]; omega
theorem ord_len (ds : List Int) : (ord ds).length = ds.length := by rw [ord, foldl_len]; simp
theorem mod_lt (n : Nat) (d : Int) : (d % ((n : Int) + 1)).toNat < n + 1 := by
  have h1 := Int.emod_nonneg d (show ((n : Int) + 1) ≠ 0 by omega)
  have h2 := Int.emod_lt_of_pos d (show (0 : Int) < (n : Int) + 1 by omega)
  omega
/-- each number below its length is in it -/
def All (l : List Int) : Prop := ∀ n : Nat, n < l.length → (n : Int) ∈ l
theorem so_mem {l : List Int} {d x : Int} : x ∈ so l d ↔ x ∈ l ∨ x = (l.length : Int) := by
  have hj := mod_lt l.length d
  unfold so
  generalize (d % ((l.length : Int) + 1)).toNat = j at hj ⊢
  constructor
  · intro h
    obtain ⟨i, hi⟩ := List.mem_iff_getElem?.1 h
    rw [List.getElem?_set] at hi
    split at hi
    · split at hi
      · injection hi with hi; exact .inr hi.symm
      · cases hi
    · rename_i hne
      rcases Nat.lt_or_ge i l.length with h1 | h1
      · rw [List.getElem?_append_left h1] at hi
        exact .inl (List.mem_of_getElem? hi)
      · rw [List.getElem?_append_right h1] at hi
        have e : i = l.length := by
          rcases Nat.eq_zero_or_pos (i - l.length) with e | e
          · omega
          · rw [List.getElem?_eq_none (by simp; omega)] at hi; cases hi
        subst e
        simp at hi
        have hj2 : j < l.length := by omega
        rw [List.getElem?_eq_getElem hj2] at hi
        simp at hi
        exact .inl (by rw [← hi]; exact List.getElem_mem _)
  · rintro (h | h)
    · obtain ⟨i, hi⟩ := List.mem_iff_getElem?.1 h
      have hl := (List.getElem?_eq_some_iff.1 hi).1
      by_cases e : i = j
      · subst e
        refine List.mem_iff_getElem?.2 ⟨l.length, ?_⟩
        rw [List.getElem?_set_ne (by omega), List.getElem?_append_right (Nat.le_refl _)]
        simp [hi]
      · refine List.mem_iff_getElem?.2 ⟨i, ?_⟩
        rw [List.getElem?_set_ne (fun h => e h.symm), List.getElem?_append_left hl]
        exact hi
    · refine List.mem_iff_getElem?.2 ⟨j, ?_⟩
      rw [List.getElem?_set_self (by simp; omega), h]
theorem so_all {l : List Int} (h : All l) (d : Int) : All (so l d) := by
  intro n hn
  rw [so_len] at hn
  rcases Nat.lt_or_ge n l.length with h1 | h1
  · exact so_mem.2 (.inl (h n h1))
  · exact so_mem.2 (.inr (by omega))
theorem foldl_all (ds l : List Int) (h : All l) : All (ds.foldl so l) := by
  induction ds generalizing l with
  | nil => exact h
  | cons d r ih => exact ih _ (so_all h d)
theorem ord_all (ds : List Int) : All (ord ds) := foldl_all _ _ (fun n h => by simp at h)
/-- pigeons: a list that has each number below its length has each once, and no other -/
theorem All.perm {l : List Int} (h : All l) : l.Perm ((List.range l.length).map (fun n : Nat => (n : Int))) := by
  have key : ∀ (k : Nat) (l : List Int), l.length = k → (∀ n : Nat, n < k → (n : Int) ∈ l) → l.Perm ((List.range k).map (fun n : Nat => (n : Int))) := by
    intro k
    induction k with
    | zero => intro l hl _; rw [List.eq_nil_of_length_eq_zero hl]; exact .refl _
    | succ k ih =>
      intro l hl hm
      have hk := hm k (by omega)
      have hp := List.perm_cons_erase hk
      have hl2 : (l.erase (k : Int)).length = k := by rw [List.length_erase_of_mem hk]; omega
      have := ih (l.erase (k : Int)) hl2 (fun n hn => (List.mem_erase_of_ne (by omega)).2 (hm n (by omega)))
      rw [List.range_succ, List.map_append]
      exact (hp.trans (this.cons _)).trans (List.perm_append_singleton _ _).symm
  exact key _ l rfl h
theorem All.nodup {l : List Int} (h : All l) : l.Nodup := by
  refine (h.perm.nodup_iff).2 ?_
  exact List.Pairwise.map _ (fun a b hab e => hab (by omega)) List.nodup_range
theorem All.count {l : List Int} (h : All l) {n : Nat} (hn : n < l.length) : l.count (n : Int) = 1 := by
  have := h.nodup.count (a := (n : Int))
  rw [this, if_pos (h n hn)]
theorem All.lt {l : List Int} (h : All l) {x : Int} (hx : x ∈ l) : 0 ≤ x ∧ x < (l.length : Int) := by
  have := h.perm.mem_iff.1 hx
  simp at this
  omega
theorem all_of_count {l : List Int} (h : ∀ n : Nat, n < l.length → l.count (n : Int) = 1) : All l := fun n hn => List.count_pos_iff.1 (by rw [h n hn]; omega)
/-- the last case taken out again: what stood in the last place stands where it stood -/
def un (l : List Int) : List Int := (l.set (l.idxOf ((l.length : Int) - 1)) (l.getD (l.length - 1) 0)).take (l.length - 1)
def drw : Nat → List Int → List Int
  | 0, _ => []
  | n + 1, l => drw n (un l) ++ [((l.idxOf ((l.length : Int) - 1) : Nat) : Int)]
/-- the draws of an order -/
def drs (l : List Int) : List Int := drw l.length l
theorem un_len {l : List Int} : (un l).length = l.length - 1 := by simp [un]
theorem drw_len (n : Nat) (l : List Int) : (drw n l).length = n := by
  induction n generalizing l with
  | zero => rfl
  | succ n ih => simp [drw, ih]
theorem drs_len (l : List Int) : (drs l).length = l.length := drw_len _ _
theorem un_all {l : List Int} (h : All l) : All (un l) := by
  intro n hn
  rw [un_len] at hn
  have hp : 0 < l.length := by omega
  have hk : ((l.length : Int) - 1) ∈ l := by have := h (l.length - 1) (by omega); rwa [show (((l.length - 1 : Nat)) : Int) = (l.length : Int) - 1 by omega] at this
  obtain ⟨i, hi⟩ := List.mem_iff_getElem?.1 (h n (by omega))
  have hil := (List.getElem?_eq_some_iff.1 hi).1
  have hx := List.idxOf_lt_length_of_mem hk
  have hge : l[l.idxOf ((l.length : Int) - 1)] = (l.length : Int) - 1 := List.getElem_idxOf hx
  unfold un
  by_cases e : i = l.length - 1
  · refine List.mem_iff_getElem?.2 ⟨l.idxOf ((l.length : Int) - 1), ?_⟩
    have hne : l.idxOf ((l.length : Int) - 1) ≠ l.length - 1 := by
      intro e2
      have : l[l.idxOf ((l.length : Int) - 1)]? = some (n : Int) := by rw [e2, ← e]; exact hi
      rw [List.getElem?_eq_getElem hx] at this
      injection this with this
      omega
    rw [List.getElem?_take_of_lt (by omega), List.getElem?_set_self hx]
    simp [← e, hi]
  · refine List.mem_iff_getElem?.2 ⟨i, ?_⟩
    rw [List.getElem?_take_of_lt (by omega), List.getElem?_set_ne]
    · exact hi
    · intro e2
      have : l[l.idxOf ((l.length : Int) - 1)]? = some (n : Int) := by rw [e2]; exact hi
      rw [List.getElem?_eq_getElem hx] at this
      injection this with this
      omega
/-- taken out and put in again -/
theorem so_un {l : List Int} (h : All l) (hp : 0 < l.length) : so (un l) ((l.idxOf ((l.length : Int) - 1) : Nat) : Int) = l := by
  have hk : ((l.length : Int) - 1) ∈ l := by have := h (l.length - 1) (by omega); rwa [show (((l.length - 1 : Nat)) : Int) = (l.length : Int) - 1 by omega] at this
  have hx := List.idxOf_lt_length_of_mem hk
  have hge : l[l.idxOf ((l.length : Int) - 1)] = (l.length : Int) - 1 := List.getElem_idxOf hx
  have hu := un_len (l := l)
  have hm : ((((l.idxOf ((l.length : Int) - 1) : Nat) : Int)) % (((un l).length : Int) + 1)).toNat = l.idxOf ((l.length : Int) - 1) := by
    rw [Int.emod_eq_of_lt (by omega) (by omega)]; omega
  unfold so
  rw [hm]
  generalize hj : l.idxOf ((l.length : Int) - 1) = j at *
  apply List.ext_getElem?
  intro i
  have hul : (un l).length = l.length - 1 := hu
  by_cases e : j = i
  · subst e
    rw [List.getElem?_set_self (by simp; omega), List.getElem?_eq_getElem hx, hge, hul]
    congr 1
    omega
  · rw [List.getElem?_set_ne e]
    rcases Nat.lt_or_ge i (l.length - 1) with h1 | h1
    · rw [List.getElem?_append_left (by omega)]
      unfold un
      rw [List.getElem?_take_of_lt h1, hj, List.getElem?_set_ne e]
    · rw [List.getElem?_append_right (by omega)]
      rcases Nat.eq_or_lt_of_le h1 with h2 | h2
      · rw [hul, ← h2, Nat.sub_self, List.getElem?_cons_zero]
        have h3 : (un l)[j]? = some (l.getD (l.length - 1) 0) := by
          unfold un
          rw [hj, List.getElem?_take_of_lt (by omega), List.getElem?_set_self hx]
        simp [List.getD_eq_getElem?_getD, h3]
        rw [List.getElem?_eq_getElem (show l.length - 1 < l.length by omega)]; simp
      · rw [List.getElem?_eq_none (by simp; omega), List.getElem?_eq_none (by omega)]
theorem ord_drs {l : List Int} (h : All l) : ord (drs l) = l := by
  have key : ∀ (n : Nat) (l : List Int), l.length = n → All l → ord (drw n l) = l := by
    intro n
    induction n with
    | zero => intro l hl _; rw [List.eq_nil_of_length_eq_zero hl]; rfl
    | succ n ih =>
      intro l hl h
      rw [drw, ord_snoc, ih (un l) (by rw [un_len]; omega) (un_all h), so_un h (by omega)]
  exact key _ l rfl h
/-- put in and taken out again -/
theorem idx_so {l : List Int} (h : All l) (d : Int) : (so l d).idxOf (l.length : Int) = (d % ((l.length : Int) + 1)).toNat := by
  have hj := mod_lt l.length d
  have hn := (so_all h d).nodup
  have h1 : (so l d)[(d % ((l.length : Int) + 1)).toNat]? = some (l.length : Int) := by
    unfold so
    rw [List.getElem?_set_self (by simp; omega)]
  obtain ⟨h2, h3⟩ := List.getElem?_eq_some_iff.1 h1
  have h4 : (so l d).idxOf (l.length : Int) < (so l d).length := List.idxOf_lt_length_of_mem (List.mem_of_getElem? h1)
  exact (List.getElem?_inj h4 hn).1 (by rw [h1, List.getElem?_eq_getElem h4, List.getElem_idxOf h4])
theorem un_so {l : List Int} (h : All l) (d : Int) : un (so l d) = l := by
  have hj := mod_lt l.length d
  have hi := idx_so h d
  have hl := so_len l d
  unfold un
  rw [hl]
  have e1 : (((l.length + 1 : Nat) : Int) - 1) = (l.length : Int) := by omega
  rw [e1, hi, Nat.add_sub_cancel]
  apply List.ext_getElem?
  intro i
  rcases Nat.lt_or_ge i l.length with h1 | h1
  · rw [List.getElem?_take_of_lt h1]
    by_cases e : (d % ((l.length : Int) + 1)).toNat = i
    · rw [e, List.getElem?_set_self (by omega)]
      have : (so l d)[l.length]? = l[i]? := by
        unfold so
        rw [e, List.getElem?_set_ne (by omega), List.getElem?_append_right (Nat.le_refl _)]
        simp [h1]
      rw [List.getD_eq_getElem?_getD, this, List.getElem?_eq_getElem h1]; rfl
    · rw [List.getElem?_set_ne e]
      unfold so
      rw [List.getElem?_set_ne e, List.getElem?_append_left h1]
  · rw [List.getElem?_eq_none (by simp; omega), List.getElem?_eq_none h1]
/-- each at most its place -/
def smd (k : Nat) (ds : List Int) : List Int := ds.mapIdx (fun i d => d % (((k + i : Nat) : Int) + 1))
theorem drs_so {l : List Int} (h : All l) (d : Int) : drs (so l d) = drs l ++ [d % ((l.length : Int) + 1)] := by
  unfold drs
  have e1 : ((((so l d).length : Nat) : Int) - 1) = (l.length : Int) := by rw [so_len]; omega
  rw [so_len]
  rw [drw, un_so h d, e1, idx_so h d]
  have h1 := Int.emod_nonneg d (show ((l.length : Int) + 1) ≠ 0 by omega)
  congr 2
  omega
/-- small draws: the i-th at most i -/
def Sml (ds : List Int) : Prop := ∀ (i : Nat) (d : Int), ds[i]? = some d → 0 ≤ d ∧ d ≤ (i : Int)
theorem drs_ord {ds : List Int} (h : Sml ds) : drs (ord ds) = ds := by
  have key : ∀ (n : Nat) (ds : List Int), ds.length = n → Sml ds → drs (ord ds) = ds := by
    intro n
    induction n with
    | zero => intro ds hl _; rw [List.eq_nil_of_length_eq_zero hl]; rfl
    | succ n ih =>
      intro ds hl h
      obtain ⟨r, d, rfl⟩ : ∃ r d, ds = r ++ [d] := ⟨ds.dropLast, ds.getLast (by intro e; rw [e] at hl; simp at hl), (List.dropLast_concat_getLast _).symm⟩
      have hr : r.length = n := by simp at hl; exact hl
      rw [ord_snoc, drs_so (ord_all r), ih r hr (fun i x hx => h i x (by rw [List.getElem?_append_left (List.getElem?_eq_some_iff.1 hx).1]; exact hx)), ord_len]
      have := h r.length d (by simp)
      rw [Int.emod_eq_of_lt this.1 (by omega)]
  exact key _ ds rfl h
theorem ord_inj {a b : List Int} (ha : Sml a) (hb : Sml b) (h : ord a = ord b) : a = b := by rw [← drs_ord ha, ← drs_ord hb, h]
end Go.Proofs.Ytalmiphddgmfbab.Lt
