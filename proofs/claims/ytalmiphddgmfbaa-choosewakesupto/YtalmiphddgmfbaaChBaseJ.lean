/-
  What comes behind a select: calls of others, plain. No conditions.
-/
import Derived.Test.YtalmiphddgmfbaaGnList
import Derived.Test.YtalmiphddgmfbaaCnBase
import Derived.Test.YtalmiphddgmfbaaCpSnd
import Derived.Deep.Cut
import Derived.Test.YtalmiphddgmfbaaCnMe
import Derived.Test.YtalmiphddgmfbaaCpLdm
import Derived.Test.YtalmiphddgmfbaaCnMoved
import Derived.Test.YtalmiphddgmfbaaGnGrd
import Derived.Test.YtalmiphddgmfbaaCnLd
namespace Go.Proofs.Ytalmiphddgmfbaa.Lt
/-- one more case: where its draw puts it -/
def so (l : List Int) (d : Int) : List Int := (l ++ [l.getD (d % ((l.length : Int) + 1)).toNat 0]).set (d % ((l.length : Int) + 1)).toNat (l.length : Int)
/-- the order of draws -/
def ord (ds : List Int) : List Int := ds.foldl so []
theorem so_len (l : List Int) (d : Int) : (so l d).length = l.length + 1 := by simp [so]
theorem ord_snoc (ds : List Int) (d : Int) : ord (ds ++ [d]) = so (ord ds) d := by simp [ord, List.foldl_append]
theorem foldl_len (ds l : List Int) : (ds.foldl so l).length = l.length + ds.length := by
  induction ds generalizing l with
  | nil => rfl
  | cons d r ih => rw [List.foldl_cons, ih, so_len, List.length_cons]; omega
theorem ord_len (ds : List Int) : (ord ds).length = ds.length := by rw [ord, foldl_len]; simp
theorem mod_lt (n : Nat) (d : Int) : (d % ((n : Int) + 1)).toNat < n + 1 := by
  have h1 := Int.emod_nonneg d (show ((n : Int) + 1) ≠ 0 by omega)
  have h2 := Int.emod_lt_of_pos d (show (0 : Int) < (n : Int) + 1 by omega)
  omega
/-- each number below its length is in it -/
def All (l : List Int) : Prop := ∀ n : Nat, n < l.length → (n : Int) ∈ l
theorem so_mem {l : List Int} {d x : Int} : x ∈ so l d ↔ x ∈ l ∨ x = (l.length : Int) := by
  have hj := mod_lt l.length d
  unfold so
  generalize (d % ((l.length : Int) + 1)).toNat = j at hj ⊢
  constructor
  · intro h
    obtain ⟨i, hi⟩ := List.mem_iff_getElem?.1 h
    rw [List.getElem?_set] at hi
    split at hi
    · split at hi
      · injection hi with hi; exact .inr hi.symm
      · cases hi
    · rename_i hne
      rcases Nat.lt_or_ge i l.length with h1 | h1
      · rw [List.getElem?_append_left h1] at hi
        exact .inl (List.mem_of_getElem? hi)
      · rw [List.getElem?_append_right h1] at hi
        have e : i = l.length := by
          rcases Nat.eq_zero_or_pos (i - l.length) with e | e
          · omega
          · rw [List.getElem?_eq_none (by simp; omega)] at hi; cases hi
        subst e
        simp at hi
        have hj2 : j < l.length := by omega
        rw [List.getElem?_eq_getElem hj2] at hi
        simp at hi
        exact .inl (by rw [← hi]; exact List.getElem_mem _)
  · rintro (h | h)
    · obtain ⟨i, hi⟩ := List.mem_iff_getElem?.1 h
      have hl := (List.getElem?_eq_some_iff.1 hi).1
      by_cases e : i = j
      · subst e
        refine List.mem_iff_getElem?.2 ⟨l.length, ?_⟩
        rw [List.getElem?_set_ne (by omega), List.getElem?_append_right (Nat.le_refl _)]
        simp [hi]
      · refine List.mem_iff_getElem?.2 ⟨i, ?_⟩
        rw [List.getElem?_set_ne (fun h => e h.symm), List.getElem?_append_left hl]
        exact hi
    · refine List.mem_iff_getElem?.2 ⟨j, ?_⟩
      rw [List.getElem?_set_self (by simp; omega), h]
theorem so_all {l : List Int} (h : All l) (d : Int) : All (so l d) := by
  intro n hn
  rw [so_len] at hn
  rcases Nat.lt_or_ge n l.length with h1 | h1
  · exact so_mem.2 (.inl (h n h1))
  · exact so_mem.2 (.inr (by omega))
theorem foldl_all (ds l : List Int) (h : All l) : All (ds.foldl so l) := by
  induction ds generalizing l with
  | nil => exact h
  | cons d r ih => exact ih _ (so_all h d)
theorem ord_all (ds : List Int) : All (ord ds) := foldl_all _ _ (fun n h => by simp at h)
/-- pigeons: a list that has each number below its length has each once, and no other -/
theorem All.perm {l : List Int} (h : All l) : l.Perm ((List.range l.length).map (fun n : Nat => (n : Int))) := by
  have key : ∀ (k : Nat) (l : List Int), l.length = k → (∀ n : Nat, n < k → (n : Int) ∈ l) → l.Perm ((List.range k).map (fun n : Nat => (n : Int))) := by
    intro k
    induction k with
    | zero => intro l hl _; rw [List.eq_nil_of_length_eq_zero hl]; exact .refl _
    | succ k ih =>
      intro l hl hm
      have hk := hm k (by omega)
      have hp := List.perm_cons_erase hk
      have hl2 : (l.erase (k : Int)).length = k := by rw [List.length_erase_of_mem hk]; omega
      have := ih (l.erase (k : Int)) hl2 (fun n hn => (List.mem_erase_of_ne (by omega)).2 (hm n (by omega)))
      rw [List.range_succ, List.map_append]
      exact (hp.trans (this.cons _)).trans (List.perm_append_singleton _ _).symm
  exact key _ l rfl h
theorem All.nodup {l : List Int} (h : All l) : l.Nodup := by
  refine (h.perm.nodup_iff).2 ?_
  exact List.Pairwise.map _ (fun a b hab e => hab (by omega)) List.nodup_range
theorem All.count {l : List Int} (h : All l) {n : Nat} (hn : n < l.length) : l.count (n : Int) = 1 := by
  have := h.nodup.count (a := (n : Int))
  rw [this, if_pos (h n hn)]
theorem All.lt {l : List Int} (h : All l) {x : Int} (hx : x ∈ l) : 0 ≤ x ∧ x < (l.length : Int) := by
  have := h.perm.mem_iff.1 hx
  simp at this
  omega
theorem all_of_count {l : List Int} (h : ∀ n : Nat, n < l.length → l.count (n : Int) = 1) : All l := fun n hn => List.count_pos_iff.1 (by rw [h n hn]; omega)
/-- the last case taken out again: what stood in the last place stands where it stood -/
def un (l : List Int) : List Int := (l.set (l.idxOf ((l.length : Int) - 1)) (l.getD (l.length - 1) 0)).take (l.length - 1)
def drw : Nat → List Int → List Int
  | 0, _ => []
  | n + 1, l => drw n (un l) ++ [((l.idxOf ((l.length : Int) - 1) : Nat) : Int)]
/-- the draws of an order -/
def drs (l : List Int) : List Int := drw l.length l
theorem un_len {l : List Int} : (un l).length = l.length - 1 := by simp [un]
theorem drw_len (n : Nat) (l : List Int) : (drw n l).length = n := by
  induction n generalizing l with
  | zero => rfl
  | succ n ih => simp [drw, ih]
theorem drs_len (l : List Int) : (drs l).length = l.length := drw_len _ _
theorem un_all {l : List Int} (h : All l) : All (un l) := by
  intro n hn
  rw [un_len] at hn
  have hp : 0 < l.length := by omega
  have hk : ((l.length : Int) - 1) ∈ l := by have := h (l.length - 1) (by omega); rwa [show (((l.length - 1 : Nat)) : Int) = (l.length : Int) - 1 by omega] at this
  obtain ⟨i, hi⟩ := List.mem_iff_getElem?.1 (h n (by omega))
  have hil := (List.getElem?_eq_some_iff.1 hi).1
  have hx := List.idxOf_lt_length_of_mem hk
  have hge : l[l.idxOf ((l.length : Int) - 1)] = (l.length : Int) - 1 := List.getElem_idxOf hx
  unfold un
  by_cases e : i = l.length - 1
  · refine List.mem_iff_getElem?.2 ⟨l.idxOf ((l.length : Int) - 1), ?_⟩
    have hne : l.idxOf ((l.length : Int) - 1) ≠ l.length - 1 := by
      intro e2
      have : l[l.idxOf ((l.length : Int) - 1)]? = some (n : Int) := by rw [e2, ← e]; exact hi
      rw [List.getElem?_eq_getElem hx] at this
      injection this with this
      omega
    rw [List.getElem?_take_of_lt (by omega), List.getElem?_set_self hx]
    simp [← e, hi]
  · refine List.mem_iff_getElem?.2 ⟨i, ?_⟩
    rw [List.getElem?_take_of_lt (by omega), List.getElem?_set_ne]
    · exact hi
    · intro e2
      have : l[l.idxOf ((l.length : Int) - 1)]? = some (n : Int) := by rw [e2]; exact hi
      rw [List.getElem?_eq_getElem hx] at this
      injection this with this
      omega
/-- taken out and put in again -/
theorem so_un {l : List Int} (h : All l) (hp : 0 < l.length) : so (un l) ((l.idxOf ((l.length : Int) - 1) : Nat) : Int) = l := by
  have hk : ((l.length : Int) - 1) ∈ l := by have := h (l.length - 1) (by omega); rwa [show (((l.length - 1 : Nat)) : Int) = (l.length : Int) - 1 by omega] at this
  have hx := List.idxOf_lt_length_of_mem hk
  have hge : l[l.idxOf ((l.length : Int) - 1)] = (l.length : Int) - 1 := List.getElem_idxOf hx
  have hu := un_len (l := l)
  have hm : ((((l.idxOf ((l.length : Int) - 1) : Nat) : Int)) % (((un l).length : Int) + 1)).toNat = l.idxOf ((l.length : Int) - 1) := by
    rw [Int.emod_eq_of_lt (by omega) (by omega)]; omega
  unfold so
  rw [hm]
  generalize hj : l.idxOf ((l.length : Int) - 1) = j at *
  apply List.ext_getElem?
  intro i
  have hul : (un l).length = l.length - 1 := hu
  by_cases e : j = i
  · subst e
    rw [List.getElem?_set_self (by simp; omega), List.getElem?_eq_getElem hx, hge, hul]
    congr 1
    omega
  · rw [List.getElem?_set_ne e]
    rcases Nat.lt_or_ge i (l.length - 1) with h1 | h1
    · rw [List.getElem?_append_left (by omega)]
      unfold un
      rw [List.getElem?_take_of_lt h1, hj, List.getElem?_set_ne e]
    · rw [List.getElem?_append_right (by omega)]
      rcases Nat.eq_or_lt_of_le h1 with h2 | h2
      · rw [hul, ← h2, Nat.sub_self, List.getElem?_cons_zero]
        have h3 : (un l)[j]? = some (l.getD (l.length - 1) 0) := by
          unfold un
          rw [hj, List.getElem?_take_of_lt (by omega), List.getElem?_set_self hx]
        simp [List.getD_eq_getElem?_getD, h3]
        rw [List.getElem?_eq_getElem (show l.length - 1 < l.length by omega)]; simp
      · rw [List.getElem?_eq_none (by simp; omega), List.getElem?_eq_none (by omega)]
theorem ord_drs {l : List Int} (h : All l) : ord (drs l) = l := by
  have key : ∀ (n : Nat) (l : List Int), l.length = n → All l → ord (drw n l) = l := by
    intro n
    induction n with
    | zero => intro l hl _; rw [List.eq_nil_of_length_eq_zero hl]; rfl
    | succ n ih =>
      intro l hl h
      rw [drw, ord_snoc, ih (un l) (by rw [un_len]; omega) (un_all h), so_un h (by omega)]
  exact key _ l rfl h
/-- put in and taken out again -/
theorem idx_so {l : List Int} (h : All l) (d : Int) : (so l d).idxOf (l.length : Int) = (d % ((l.length : Int) + 1)).toNat := by
  have hj := mod_lt l.length d
  have hn := (so_all h d).nodup
  have h1 : (so l d)[(d % ((l.length : Int) + 1)).toNat]? = some (l.length : Int) := by
    unfold so
    rw [List.getElem?_set_self (by simp; omega)]
  obtain ⟨h2, h3⟩ := List.getElem?_eq_some_iff.1 h1
  have h4 : (so l d).idxOf (l.length : Int) < (so l d).length := List.idxOf_lt_length_of_mem (List.mem_of_getElem? h1)
  exact (List.getElem?_inj h4 hn).1 (by rw [h1, List.getElem?_eq_getElem h4, List.getElem_idxOf h4])
theorem un_so {l : List Int} (h : All l) (d : Int) : un (so l d) = l := by
  have hj := mod_lt l.length d
  have hi := idx_so h d
  have hl := so_len l d
  unfold un
  rw [hl]
  have e1 : (((l.length + 1 : Nat) : Int) - 1) = (l.length : Int) := by omega
  rw [e1, hi, Nat.add_sub_cancel]
  apply List.ext_getElem?
  intro i
  rcases Nat.lt_or_ge i l.length with h1 | h1
  · rw [List.getElem?_take_of_lt h1]
    by_cases e : (d % ((l.length : Int) + 1)).toNat = i
    · rw [e, List.getElem?_set_self (by omega)]
      have : (so l d)[l.length]? = l[i]? := by
        unfold so
        rw [e, List.getElem?_set_ne (by omega), List.getElem?_append_right (Nat.le_refl _)]
        simp [h1]
      rw [List.getD_eq_getElem?_getD, this, List.getElem?_eq_getElem h1]; rfl
    · rw [List.getElem?_set_ne e]
      unfold so
      rw [List.getElem?_set_ne e, List.getElem?_append_left h1]
  · rw [List.getElem?_eq_none (by simp; omega), List.getElem?_eq_none h1]
/-- each at most its place -/
def smd (k : Nat) (ds : List Int) : List Int := ds.mapIdx (fun i d => d % (((k + i : Nat) : Int) + 1))
theorem drs_so {l : List Int} (h : All l) (d : Int) : drs (so l d) = drs l ++ [d % ((l.length : Int) + 1)] := by
  unfold drs
  have e1 : ((((so l d).length : Nat) : Int) - 1) = (l.length : Int) := by rw [so_len]; omega
  rw [so_len]
  rw [drw, un_so h d, e1, idx_so h d]
  have h1 := Int.emod_nonneg d (show ((l.length : Int) + 1) ≠ 0 by omega)
  congr 2
  omega
/-- small draws: the i-th at most i -/
def Sml (ds : List Int) : Prop := ∀ (i : Nat) (d : Int), ds[i]? = some d → 0 ≤ d ∧ d ≤ (i : Int)
theorem drs_ord {ds : List Int} (h : Sml ds) : drs (ord ds) = ds := by
  have key : ∀ (n : Nat) (ds : List Int), ds.length = n → Sml ds → drs (ord ds) = ds := by
    intro n
    induction n with
    | zero => intro ds hl _; rw [List.eq_nil_of_length_eq_zero hl]; rfl
    | succ n ih =>
      intro ds hl h
      obtain ⟨r, d, rfl⟩ : ∃ r d, ds = r ++ [d] := ⟨ds.dropLast, ds.getLast (by intro e; rw [e] at hl; simp at hl), (List.dropLast_concat_getLast _).symm⟩
      have hr : r.length = n := by simp at hl; exact hl
      rw [ord_snoc, drs_so (ord_all r), ih r hr (fun i x hx => h i x (by rw [List.getElem?_append_left (List.getElem?_eq_some_iff.1 hx).1]; exact hx)), ord_len]
      have := h r.length d (by simp)
      rw [Int.emod_eq_of_lt this.1 (by omega)]
  exact key _ ds rfl h
theorem ord_inj {a b : List Int} (ha : Sml a) (hb : Sml b) (h : ord a = ord b) : a = b := by rw [← drs_ord ha, ← drs_ord hb, h]
end Go.Proofs.Ytalmiphddgmfbaa.Lt

namespace Go.Proofs.Ytalmiphddgmfbaa.Lt
open Go.RowKit Wd
attribute [local go_sem ↓] Go.wp_at_zero Go.wp_at_succ

/-- a draw's cell -/
def eU (n : Int) : List Value := [.int .u64 n]
theorem eU_len (n : Int) : (eU n).length = 1 := rfl
theorem eU_one (xs : List Int) : ∀ u ∈ xs.flatMap eU, u.oneCell' = true := by
  intro u hu
  rw [List.mem_flatMap] at hu
  obtain ⟨x, _, hx⟩ := hu
  simp only [eU, List.mem_cons, List.not_mem_nil, or_false] at hx
  rw [hx]
  rfl
/-- draws that can be -/
def Dok (ds : List Int) : Prop := ∀ d ∈ ds, 0 ≤ d ∧ d ≤ 18446744073709551615
theorem int_info : (Try.prog.info? 3).map (fun i => (i.zero, i.size, i.bytes)) = some (some (.int .i64 0), 1, 8) := by kernel_rfl
theorem u64_info : (Try.prog.info? 34).map (fun i => (i.zero, i.size, i.bytes)) = some (some (.int .u64 0), 1, 8) := by kernel_rfl
theorem zeros_cells (n : Nat) : (List.replicate n (0 : Int)).flatMap eI = List.replicate n (.int .i64 0) := by
  induction n with
  | zero => rfl
  | succ n ih => rw [List.replicate_succ, List.flatMap_cons, ih]; rfl
theorem zerosU_cells (n : Nat) : (List.replicate n (0 : Int)).flatMap eU = List.replicate n (.int .u64 0) := by
  induction n with
  | zero => rfl
  | succ n ih => rw [List.replicate_succ, List.flatMap_cons, ih]; rfl
/-- one of an owned list's numbers: its cell, and what is left when it is set -/
theorem Ow.at1 {T base g n cap : Nat} {w : World} {xs : List Int} {i : Nat} {x : Int} (h : Ow eI 1 T base w (.slice (some ⟨g, 0, none⟩) n cap) xs) (hx : xs[i]? = some x) :
    w.cell? ⟨g, i, none⟩ = some (.int .i64 x) ∧ g < w.heap.size ∧ w.frozen? ⟨g, i, none⟩ = false ∧ ∀ u, Ow eI 1 T base (w.setCell ⟨g, i, none⟩ (.int .i64 u)) (.slice (some ⟨g, 0, none⟩) n cap) (xs.set i u) := by
  obtain ⟨g', cap', e, -, h2, -, h4, h5, h6⟩ := h.get eI_len hx
  injection e with e1 e2 e3
  injection e1 with e1
  injection e1 with e1 _ _
  subst e1
  refine ⟨by simpa using h4 0 _ rfl, h2, h5 _, fun u => by simpa using h6 0 (.int .i64 u) u (by omega) rfl⟩
/-- the same of an owned list of draws -/
theorem Ow.at1U {T base g n cap : Nat} {w : World} {xs : List Int} {i : Nat} {x : Int} (h : Ow eU 1 T base w (.slice (some ⟨g, 0, none⟩) n cap) xs) (hx : xs[i]? = some x) :
    w.cell? ⟨g, i, none⟩ = some (.int .u64 x) ∧ g < w.heap.size ∧ w.frozen? ⟨g, i, none⟩ = false ∧ ∀ u, Ow eU 1 T base (w.setCell ⟨g, i, none⟩ (.int .u64 u)) (.slice (some ⟨g, 0, none⟩) n cap) (xs.set i u) := by
  obtain ⟨g', cap', e, -, h2, -, h4, h5, h6⟩ := h.get eU_len hx
  injection e with e1 e2 e3
  injection e1 with e1
  injection e1 with e1 _ _
  subst e1
  refine ⟨by simpa using h4 0 _ rfl, h2, h5 _, fun u => by simpa using h6 0 (.int .u64 u) u (by omega) rfl⟩
/-- a step of Order in a list that is made ahead -/
theorem so_in (l : List Int) (d x : Int) (k : Nat) (hx : (l ++ List.replicate (k + 1) 0)[(d % ((l.length : Int) + 1)).toNat]? = some x) :
    ((l ++ List.replicate (k + 1) 0).set l.length x).set (d % ((l.length : Int) + 1)).toNat (l.length : Int) = so l d ++ List.replicate k 0 := by
  have hj := mod_lt l.length d
  unfold so
  generalize (d % ((l.length : Int) + 1)).toNat = j at hj hx ⊢
  have e1 : (l ++ List.replicate (k + 1) 0).set l.length x = (l ++ [x]) ++ List.replicate k 0 := by
    rw [List.replicate_succ, List.set_append_right _ _ (Nat.le_refl _), Nat.sub_self, List.set_cons_zero]
    simp
  rw [e1, List.set_append_left _ _ (by simp; omega)]
  congr 1
  by_cases h : j < l.length
  · rw [List.getElem?_append_left h] at hx
    rw [List.getD_eq_getElem?_getD, hx]
    rfl
  · have e : j = l.length := by omega
    subst e
    rw [List.set_append_right _ _ (Nat.le_refl _), List.set_append_right _ _ (Nat.le_refl _)]
    simp
/-- an order that is told -/
def OrR (w : World) (n : Nat) (l : List Int) (e : Ending) (w' : World) : Prop := ∃ ao cap, e = .returned (.tuple #[.slice ao n cap, .int .i64 0]) ∧ Ow eI 1 3 w.heap.size w' (.slice ao n cap) l ∧ Gr w w'
theorem order_arg (n : Int) (v : Value) (w : World) (h : ¬ (0 ≤ n ∧ n ≤ 16)) : Calls Try.prog 9 #[.int .i64 n, v] w fun e w' => e = .returned (.tuple #[.slice none 0 0, .int .i64 1]) ∧ w' = w := by
  by_cases h0 : n < 0
  · clear h
    go_enter Try.func9, Try.ntmps9
    go_wp2
    exact bodyPost_ret (v := .tuple #[.slice none 0 0, .int .i64 1]) (by simp [results, Try.results9, go_sem]) rfl ⟨rfl, rfl⟩
  · have h1 : 16 < n := by omega
    clear h
    go_enter Try.func9, Try.ntmps9
    go_wp2
    exact bodyPost_ret (v := .tuple #[.slice none 0 0, .int .i64 1]) (by simp [results, Try.results9, go_sem]) rfl ⟨rfl, rfl⟩
theorem order_few (n m cap : Nat) (ao : Option Addr) (w : World) (h : n ≤ 16) (hm : m < n) : Calls Try.prog 9 #[.int .i64 (n : Int), .slice ao m cap] w fun e w' => e = .returned (.tuple #[.slice none 0 0, .int .i64 120]) ∧ w' = w := by
  have d0 : ¬ (n : Int) < 0 := by omega
  have d1 : ¬ (16 : Int) < (n : Int) := by omega
  have d2 : (m : Int) < (n : Int) := by omega
  go_enter Try.func9, Try.ntmps9
  go_wp2
  exact bodyPost_ret (v := .tuple #[.slice none 0 0, .int .i64 120]) (by simp [results, Try.results9, go_sem]) rfl ⟨rfl, rfl⟩
set_option maxRecDepth 20000 in
set_option maxHeartbeats 2000000 in
theorem order_ok (P : Nat → Prop) (w : World) (ao : Option Addr) (m cap : Nat) (ds : List Int) (n : Nat) (h : Ls eU P w (.slice ao m cap) ds) (hd : Dok ds) (hn : n ≤ 16) (hm : n ≤ m) : Calls Try.prog 9 #[.int .i64 (n : Int), .slice ao m cap] w (OrR w n (ord (ds.take n))) := by
  have d0 : ¬ (n : Int) < 0 := by omega
  have d1 : ¬ (16 : Int) < (n : Int) := by omega
  have d2 : ¬ (m : Int) < (n : Int) := by omega
  obtain ⟨i0, hi, hz0, hz1, hz2⟩ := info_parts int_info
  have HL := hid h.len.1
  have HB := hid h
  have HD := hid hd
  clear h hd
  go_enter Try.func9, Try.ntmps9
  go_wp2_with (first | (at_make; refine wpList_make_full _ rfl _ _ 23 rfl w.heap.size 3 i0 _ 1 Try.underlying23 hi hz0 hz1 _ _ _ _ n rfl rfl (by omega) (by omega) (by rw [hz2]; omega) (by unfold maxLen; omega) (by simp) ?_; intro w1 hown hgrow; have ho : Ow eI 1 3 w.heap.size w1 (.slice (some ⟨w.heap.size, 0, none⟩) n n) (List.replicate n 0) := (by have h2 := toList_madeCells_one (.int .i64 0) n; rw [Nat.mul_one] at hown; unfold Ow; rw [List.length_replicate, zeros_cells, ← h2]; exact hown); have HG1 := hid (show Gr w w1 from (Ch.refl NoB w).grown hgrow (fun k hk => by cases hk)); have HO1 := hid ho; clear ho hown hgrow))
  go_loopg [23] n (fun q i wr => ∃ (j : Nat), j + q = n ∧ i = .int .i64 (j : Int) ∧ Ow eI 1 3 w.heap.size wr (.slice (some ⟨w.heap.size, 0, none⟩) n n) (ord (ds.take j) ++ List.replicate (n - j) 0) ∧ Gr w wr)
  case atStart => exact ⟨0, by omega, rfl, HO1.out, HG1.out⟩
  case round =>
    obtain ⟨j, hjk, rfl, hO, hG⟩ := hrel
    have HO := hid hO
    have HG := hid hG
    clear hO hG
    by_cases hj : j < n
    · obtain ⟨d, hx⟩ : ∃ x, ds[j]? = some x := ⟨_, List.getElem?_eq_getElem (by rw [← HL.out]; omega)⟩
      obtain ⟨gg, oo, cap', hv, _, hgl, _, hcs⟩ := (HB.out.gr HG.out).get eU_len hx
      injection hv with hv1 hv2 hv3
      subst hv1
      have c0 := hcs 0 _ rfl
      simp only [Nat.mul_one, Nat.add_zero] at c0
      have j0 : (0 : Int) ≤ (j : Int) := by omega
      have j1 : (j : Int) < (m : Int) := by omega
      have j2 : (j : Int) < (n : Int) := by omega
      have hdd := HD.out d (List.mem_of_getElem? hx)
      have hjj := mod_lt j d
      have hll : (ord (ds.take j)).length = j := by rw [ord_len, List.length_take]; have := HL.out; omega
      obtain ⟨jj, hjd⟩ : ∃ k, (d % ((j : Int) + 1)).toNat = k := ⟨_, rfl⟩
      rw [hjd] at hjj
      have dm : d.tmod ((j : Int) + 1) = (jj : Int) := by
        rw [Int.tmod_eq_emod_of_nonneg hdd.1]
        have := Int.emod_nonneg d (show ((j : Int) + 1) ≠ 0 by omega)
        omega
      have k0 : (0 : Int) ≤ (jj : Int) := by omega
      have k1 : (jj : Int) < (n : Int) := by omega
      have hlen : (ord (ds.take j) ++ List.replicate (n - j) 0).length = n := by rw [List.length_append, hll, List.length_replicate]; omega
      obtain ⟨x, hxx⟩ : ∃ x, (ord (ds.take j) ++ List.replicate (n - j) 0)[jj]? = some x := ⟨_, List.getElem?_eq_getElem (by rw [hlen]; omega)⟩
      obtain ⟨y, hyy⟩ : ∃ x, (ord (ds.take j) ++ List.replicate (n - j) 0)[j]? = some x := ⟨_, List.getElem?_eq_getElem (by rw [hlen]; omega)⟩
      obtain ⟨c1, g1, f1, -⟩ := HO.out.at1 hxx
      obtain ⟨c2, -, f2, s2⟩ := HO.out.at1 hyy
      have HO2 := hid (s2 x)
      have hzz : ∃ z, ((ord (ds.take j) ++ List.replicate (n - j) 0).set j x)[jj]? = some z := ⟨_, List.getElem?_eq_getElem (by rw [List.length_set, hlen]; omega)⟩
      obtain ⟨z, hzz⟩ := hzz
      obtain ⟨c3, g3, f3, s3⟩ := HO2.out.at1 hzz
      have HN := hid (s3 (j : Int))
      have HT : Hid (((ord (ds.take j) ++ List.replicate (n - j) 0).set j x).set jj (j : Int) = ord (ds.take (j + 1)) ++ List.replicate (n - (j + 1)) 0) := hid (by
        rw [take_one hx, ord_snoc]
        have e := so_in (ord (ds.take j)) d x (n - (j + 1)) (by rw [hll, hjd, show n - (j + 1) + 1 = n - j by omega]; exact hxx)
        rw [hll, hjd, show n - (j + 1) + 1 = n - j by omega] at e
        exact e)
      clear hcs hv2 hv3 hx hdd hll hjd hlen hxx hyy hzz s2 s3
      go_wp2_with fail
      go_roundg (gk - 1)
      case measure => omega
      case rel => exact ⟨j + 1, by omega, by simp, by rw [← HT.out]; exact HN.out, Ch.fresh (Ch.fresh HG.out (Nat.le_refl _) _ _) (Nat.le_refl _) _ _⟩
    · have jn : ¬ (j : Int) < (n : Int) := by omega
      obtain rfl : j = n := by omega
      go_wp2
      refine bodyPost_ret (v := .tuple #[.slice (some ⟨w.heap.size, 0, none⟩) j j, .int .i64 0]) (by simp [results, Try.results9, go_sem]) rfl ⟨_, _, rfl, ?_, HG.out⟩
      have := HO.out
      rwa [Nat.sub_self, List.replicate_zero, List.append_nil] at this
end Go.Proofs.Ytalmiphddgmfbaa.Lt

namespace Go.Proofs.Ytalmiphddgmfbaa.Lt
open Go.RowKit Wd
attribute [local go_sem ↓] Go.wp_at_zero Go.wp_at_succ

/-- a case: whether it sends, its channel, its value -/
structure Pk where
  sd : Bool
  ch : Int
  v : Int
def eP (x : Pk) : List Value := [.bool x.sd, .int .i64 x.ch, .int .i64 x.v]
theorem eP_len (x : Pk) : (eP x).length = 3 := rfl
theorem eP_one (xs : List Pk) : ∀ u ∈ xs.flatMap eP, u.oneCell' = true := by
  intro u hu
  rw [List.mem_flatMap] at hu
  obtain ⟨x, _, hx⟩ := hu
  simp only [eP, List.mem_cons, List.not_mem_nil, or_false] at hx
  rcases hx with h | h | h <;> rw [h] <;> rfl
/-- Goes of these channels answers so -/
def GoA (cv : Value) (w : World) (gz : Int → Bool → Bool) (tz : Int → Int) : Prop := ∀ W, Gr w W → ∀ ch sd, Calls Try.prog 67 #[cv, .int .i64 ch, .bool sd] W fun e w' => e = .returned (.tuple #[.bool (gz ch sd), .int .i64 (tz ch)]) ∧ Gr W w'
set_option maxRecDepth 20000 in
set_option maxHeartbeats 2000000 in
theorem chall_any (cv : Option Addr) (P : Nat → Prop) (w : World) (ao : Option Addr) (n cap : Nat) (ps : List Pk) (gz : Int → Bool → Bool) (tz : Int → Int) (h : Ls eP P w (.slice ao n cap) ps) (hn : n ≤ 4398046511104) (hG : GoA (.pointer cv) w gz tz) : Calls Try.prog 42 #[.pointer cv, .slice ao n cap] w fun e w' => e = .returned (.bool (ps.all (fun p => tz p.ch == 0))) ∧ Gr w w' := by
  have HL := hid h.len.1
  have HB := hid h
  have HGo := hid hG
  clear h hG
  go_enter Try.func42, Try.ntmps42
  go_wp2_with fail
  go_loopg [11] n (fun q i wr => ∃ (j : Nat), j + q = n ∧ i = .int .i64 (j : Int) ∧ (ps.take j).all (fun p => tz p.ch == 0) = true ∧ Gr w wr)
  case atStart => exact ⟨0, by omega, rfl, rfl, Gr.refl _⟩
  case round =>
    obtain ⟨j, hjk, rfl, hN, hG⟩ := hrel
    have HN := hid hN
    have HG := hid hG
    clear hN hG
    by_cases hj : j < n
    · obtain ⟨⟨x0, x1, x2⟩, hx⟩ : ∃ x, ps[j]? = some x := ⟨_, List.getElem?_eq_getElem (by rw [← HL.out]; omega)⟩
      obtain ⟨gg, oo, cap', hv, _, hgl, _, hcs⟩ := (HB.out.gr HG.out).get eP_len hx
      injection hv with hv1 hv2 hv3
      subst hv1
      have c0 := hcs 0 _ rfl
      have c1 := hcs 1 _ rfl
      have c2 := hcs 2 _ rfl
      dsimp only [Nat.add_zero] at c0 c1 c2
      have j0 : (0 : Int) ≤ (j : Int) := by omega
      have j1 : (j : Int) < (n : Int) := by omega
      have HX := hid hx
      have G5 := hid (show Gr w (wr.alloc (.cells #[.bool x0, .int .i64 x1, .int .i64 x2] 80)) from Ch.alloc HG.out _)
      have HT := hid (take_one hx)
      obtain ⟨z, hz⟩ : ∃ z, z = tz x1 := ⟨_, rfl⟩
      have HZ := hid hz
      clear hcs hv2 hv3 hx hgl hz
      by_cases e : z = 0
      · have HE := hid e
        subst e
        go_wp2_with (go_at_call 67; refine (HGo.out _ G5.out x1 x0).mono ?_; rw [← HZ.out]; rintro e w5 ⟨rfl, g5⟩; have G6 := hid (Gr.trans G5.out g5); clear g5)
        go_roundg (gk - 1)
        case measure => omega
        case rel => exact ⟨j + 1, by omega, by simp, by rw [HT.out, List.all_append, HN.out]; simp [← HZ.out], G6.out⟩
      · have e1 : (z == 0) = false := by simpa using e
        have HI := hid (show ps.all (fun p => tz p.ch == 0) = false from by
          rw [List.all_eq_false]
          exact ⟨_, List.mem_of_getElem? HX.out, by rw [← HZ.out]; simpa using e⟩)
        clear e
        go_wp2_with (go_at_call 67; refine (HGo.out _ G5.out x1 x0).mono ?_; rw [← HZ.out]; rintro e w5 ⟨rfl, g5⟩; have G6 := hid (Gr.trans G5.out g5); clear g5)
        go_ret
        exact ⟨by rw [HI.out]; rfl, G6.out⟩
    · have jn : ¬ (j : Int) < (n : Int) := by omega
      have HI := hid (show ps.all (fun p => tz p.ch == 0) = true from by have := HN.out; rwa [List.take_of_length_le (by rw [← HL.out]; omega)] at this)
      go_wp2
      go_ret
      exact ⟨by rw [HI.out]; rfl, HG.out⟩
/-- the first that goes on, or -1 -/
def fst1 (gz : Int → Bool → Bool) (ps : List Pk) (os : List Int) : Int := (os.find? (fun o => match ps[o.toNat]? with | some p => gz p.ch p.sd | none => false)).getD (-1)
theorem fst1_yes {gz : Int → Bool → Bool} {ps : List Pk} {os : List Int} {j : Nat} {o : Int} {p : Pk} (hN : (os.take j).find? (fun o => match ps[o.toNat]? with | some p => gz p.ch p.sd | none => false) = none) (ho : os[j]? = some o) (hp : ps[o.toNat]? = some p) (hg : gz p.ch p.sd = true) : fst1 gz ps os = o := by
  unfold fst1
  have e : os = os.take j ++ (o :: os.drop (j + 1)) := by
    have hl := (List.getElem?_eq_some_iff.1 ho).1
    have := List.take_append_drop j os
    rw [List.drop_eq_getElem_cons hl] at this
    rw [(List.getElem?_eq_some_iff.1 ho).2] at this
    exact this.symm
  rw [e, List.find?_append, hN, List.find?_cons]
  simp [hp, hg]
theorem fst1_step {gz : Int → Bool → Bool} {ps : List Pk} {os : List Int} {j : Nat} {o : Int} {p : Pk} (hN : (os.take j).find? (fun o => match ps[o.toNat]? with | some p => gz p.ch p.sd | none => false) = none) (ho : os[j]? = some o) (hp : ps[o.toNat]? = some p) (hg : gz p.ch p.sd = false) : (os.take (j + 1)).find? (fun o => match ps[o.toNat]? with | some p => gz p.ch p.sd | none => false) = none := by
  rw [take_one ho, List.find?_append, hN]
  simp [hp, hg]
set_option maxRecDepth 20000 in
set_option maxHeartbeats 4000000 in
theorem first_any (cv : Option Addr) (P Q : Nat → Prop) (w : World) (ao : Option Addr) (n cap : Nat) (ps : List Pk) (oo : Option Addr) (m co : Nat) (os : List Int) (gz : Int → Bool → Bool) (tz : Int → Int) (h : Ls eP P w (.slice ao n cap) ps) (ho : Ls eI Q w (.slice oo m co) os) (hm : m ≤ 4398046511104) (hI : ∀ o ∈ os, 0 ≤ o ∧ o < (n : Int)) (hG : GoA (.pointer cv) w gz tz) : Calls Try.prog 43 #[.pointer cv, .slice ao n cap, .slice oo m co] w fun e w' => e = .returned (.int .i64 (fst1 gz ps os)) ∧ Gr w w' := by
  have HL := hid h.len.1
  have HM := hid ho.len.1
  have HB := hid h
  have HO := hid ho
  have HGo := hid hG
  have HI := hid hI
  clear h ho hG hI
  go_enter Try.func43, Try.ntmps43
  go_wp2_with fail
  go_loopg [13] m (fun q i wr => ∃ (j : Nat), j + q = m ∧ i = .int .i64 (j : Int) ∧ (os.take j).find? (fun o => match ps[o.toNat]? with | some p => gz p.ch p.sd | none => false) = none ∧ Gr w wr)
  case atStart => exact ⟨0, by omega, rfl, rfl, Gr.refl _⟩
  case round =>
    obtain ⟨j, hjk, rfl, hN, hG⟩ := hrel
    have HN := hid hN
    have HG := hid hG
    clear hN hG
    by_cases hj : j < m
    · obtain ⟨o, hx⟩ : ∃ x, os[j]? = some x := ⟨_, List.getElem?_eq_getElem (by rw [← HM.out]; omega)⟩
      obtain ⟨gg, ob, cap', hv, _, hgl, _, hcs⟩ := (HO.out.gr HG.out).get eI_len hx
      injection hv with hv1 hv2 hv3
      subst hv1
      have hoo := HI.out o (List.mem_of_getElem? hx)
      obtain ⟨k, rfl⟩ : ∃ k : Nat, o = (k : Int) := ⟨o.toNat, by omega⟩
      have hkn : k < n := by omega
      obtain ⟨⟨x0, x1, x2⟩, hy⟩ : ∃ x, ps[k]? = some x := ⟨_, List.getElem?_eq_getElem (by rw [← HL.out]; omega)⟩
      obtain ⟨gp, op, capp, hvp, _, hgp, _, hps⟩ := (HB.out.gr HG.out).get eP_len hy
      injection hvp with hvp1 hvp2 hvp3
      subst hvp1
      have d0 := hcs 0 _ rfl
      simp only [Nat.mul_one, Nat.add_zero] at d0
      have c0 := hps 0 _ rfl
      have c1 := hps 1 _ rfl
      dsimp only [Nat.add_zero] at c0 c1
      have j0 : (0 : Int) ≤ (j : Int) := by omega
      have j1 : (j : Int) < (m : Int) := by omega
      have k0 : (0 : Int) ≤ (k : Int) := by omega
      have k1 : (k : Int) < (n : Int) := by omega
      have HX := hid hx
      have HY := hid hy
      have HK := hid (show (k : Int).toNat = k from Int.toNat_natCast k)
      obtain ⟨z, hz⟩ : ∃ z, z = gz x1 x0 := ⟨_, rfl⟩
      have HZ := hid hz
      clear hcs hv2 hv3 hx hgl hz hps hvp2 hvp3 hy hgp hoo
      cases z with
      | true =>
        have HI2 := hid (fst1_yes HN.out HX.out (by rw [HK.out]; exact HY.out) HZ.out.symm)
        go_wp2_with fail
        go_region_with (go_at_call 67; refine (HGo.out _ (show Gr w wr.drew from Ch.drew HG.out) x1 x0).mono ?_; rw [← HZ.out]; rintro e w5 ⟨rfl, g5⟩; have G6 := hid (Gr.trans (show Gr w wr.drew from Ch.drew HG.out) g5); clear g5)
        all_goals go_wp2
        all_goals go_ret
        all_goals exact ⟨by rw [HI2.out]; rfl, G6.out⟩
      | false =>
        have HI2 := hid (fst1_step HN.out HX.out (by rw [HK.out]; exact HY.out) HZ.out.symm)
        go_wp2_with fail
        go_region_with (go_at_call 67; refine (HGo.out _ (show Gr w wr.drew from Ch.drew HG.out) x1 x0).mono ?_; rw [← HZ.out]; rintro e w5 ⟨rfl, g5⟩; have G6 := hid (Gr.trans (show Gr w wr.drew from Ch.drew HG.out) g5); clear g5)
        all_goals go_wp2
        all_goals go_roundg (gk - 1)
        all_goals first | omega | skip
        all_goals exact ⟨j + 1, by omega, by simp, HI2.out, G6.out⟩
    · have jn : ¬ (j : Int) < (m : Int) := by omega
      have HI2 := hid (show fst1 gz ps os = -1 from by have := HN.out; rw [List.take_of_length_le (by rw [← HM.out]; omega)] at this; unfold fst1; rw [this]; rfl)
      go_wp2
      go_ret
      exact ⟨by rw [HI2.out]; rfl, HG.out⟩
end Go.Proofs.Ytalmiphddgmfbaa.Lt

namespace Go.Proofs.Ytalmiphddgmfbaa.Lt
open Go.RowKit Wd
attribute [local go_sem ↓] Go.wp_at_zero Go.wp_at_succ

/-- what carryOut tells and leaves -/
def CaR (t : Nat → Tg) (w : World) (b : Nat) (cs : List Cn) (wa : Bool) (va : Int) (ok : Bool) (tr : Int) (ks : List Wk) (e : Ending) (w' : World) : Prop := ∃ mo mn mc, e = .returned (.agg #[.bool wa, .int .i64 va, .bool ok, .int .i64 tr, .slice mo mn mc]) ∧ Ow eK 6 72 w.heap.size w' (.slice mo mn mc) ks ∧ ∃ t', Cs t' w' b cs ∧ Tn t t' w w' ∧ ∀ q, Blk (.slice mo mn mc) q → t' q = .no
set_option maxRecDepth 20000 in
set_option maxHeartbeats 4000000 in
theorem carry_send {t : Nat → Tg} {w : World} {b : Nat} {cs : List Cn} {s g ch v : Int} {wa : Bool} {va : Int} {ok : Bool} {tr : Int} {ks : List Wk} (hi : ∀ q, w.heap.size ≤ q → t q = .no) (hS : ∀ W, Gr w W → Calls Try.prog 23 #[.pointer (some ⟨b, 0, none⟩), .int .i64 ch, .agg #[.int .i64 s, .int .i64 g], .int .i64 v] W (MvR t W b cs wa va ok tr ks 0)) :
    Calls Try.prog 44 #[.pointer (some ⟨b, 0, none⟩), .agg #[.int .i64 s, .int .i64 g], .agg #[.bool true, .int .i64 ch, .int .i64 v]] w (CaR t w b cs wa va ok tr ks) := by
  obtain ⟨W0, hW0⟩ : ∃ W0, W0 = ((w.alloc (.cells #[.int .i64 s, .int .i64 g] 38)).alloc (.cells #[.bool true, .int .i64 ch, .int .i64 v] 80)).alloc (.cells mz 50) := ⟨_, rfl⟩
  have g0 : Gr w W0 := by rw [hW0]; exact Ch.alloc (Ch.alloc (Ch.alloc (Gr.refl w) _) _) _
  have HS := hid (hS W0 g0)
  have hbx : W0.heap[w.heap.size]? = some (.cells #[.int .i64 s, .int .i64 g] 38 (0, 0)) := by rw [hW0]; exact al_blk (al_blk (MapKept.heap_alloc w _).1 _) _
  have hmv : W0.heap[w.heap.size + 2]? = some (.cells mz 50 (0, 0)) := by rw [hW0]; exact al_at _ (by simp)
  have HMV := hid hmv
  have HNO := hid (hi (w.heap.size + 2) (by omega))
  have G0 := hid g0
  rw [hW0] at HS hbx
  clear hS hmv hi g0
  go_enter Try.func44, Try.ntmps44
  go_wp2_with (first
    | (refine wpList_load_row rfl 38 (.tmp 4) rfl w.heap.size rfl _ _ _ _ hbx Try.underlying38 rfl gid_size ?_)
    | (go_at_call 23; refine HS.out.mono ?_; rintro e w1 ⟨mo, mn, mc, rfl, o1, t1, c1, n1, z1⟩; rw [← hW0] at o1 n1; have O1 := hid o1; have C1 := hid c1; have N1 := hid n1; have Z1 := hid z1; have M1 := hid ((n1.c.block _ (lt_of_block HMV.out) (fun q => q HNO.out)).trans HMV.out); have T1 := hid (n1.o _ (lt_of_block HMV.out) HNO.out); clear o1 c1 n1 z1)
    | (refine wpList_load_row rfl 50 (.tmp 7) rfl w1.heap.size rfl _ _ _ _ (MapKept.heap_alloc w1 (.cells #[.bool wa, .int .i64 va, .bool ok, .int .i64 tr, .slice mo mn mc] 50)).1 Try.underlying50 rfl mov_size ?_)
    | (refine st_row rfl 50 (.tmp 6) (.tmp 23) rfl (w.heap.size + 2) _ rfl rfl _ _ (al_blk M1.out _) mov_size rfl (one_mov _ _ _ _ _ _ _) ?_; intro w9 b9 k9; have M9 := hid b9; have K9 := hid k9; clear b9 k9))
  have GA : Gr w1 (w1.alloc (.cells #[.bool wa, .int .i64 va, .bool ok, .int .i64 tr, .slice mo mn mc] 50)) := Ch.alloc (Gr.refl w1) _
  refine bodyPost_ret (results_cell_row rfl _ _ (w.heap.size + 2) _ _ _ _ rfl M9.out Try.underlying50 rfl mov_size) rfl ⟨mo, mn, mc, rfl, ?_, t1, ?_, ((Tn.ahead G0.out N1.out).then GA).own K9.out (by omega), Z1.out⟩
  · refine ((O1.out.gr GA).ch K9.out (fun q hq e => ?_)).lower G0.out.size
    have e1 : q = w.heap.size + 2 := e
    have := (O1.out.blk hq).1
    have := lt_of_block HMV.out
    omega
  · exact (C1.out.gr GA).ch K9.out (fun q e => by have e1 : q = w.heap.size + 2 := e; rw [e1]; exact T1.out)
set_option maxRecDepth 20000 in
set_option maxHeartbeats 4000000 in
theorem carry_recv {t : Nat → Tg} {w : World} {b : Nat} {cs : List Cn} {s g ch v : Int} {wa : Bool} {va : Int} {ok : Bool} {tr : Int} {ks : List Wk} (hi : ∀ q, w.heap.size ≤ q → t q = .no) (hS : ∀ W, Gr w W → Calls Try.prog 25 #[.pointer (some ⟨b, 0, none⟩), .int .i64 ch, .agg #[.int .i64 s, .int .i64 g]] W (MvR t W b cs wa va ok tr ks 0)) :
    Calls Try.prog 44 #[.pointer (some ⟨b, 0, none⟩), .agg #[.int .i64 s, .int .i64 g], .agg #[.bool false, .int .i64 ch, .int .i64 v]] w (CaR t w b cs wa va ok tr ks) := by
  obtain ⟨W0, hW0⟩ : ∃ W0, W0 = ((w.alloc (.cells #[.int .i64 s, .int .i64 g] 38)).alloc (.cells #[.bool false, .int .i64 ch, .int .i64 v] 80)).alloc (.cells mz 50) := ⟨_, rfl⟩
  have g0 : Gr w W0 := by rw [hW0]; exact Ch.alloc (Ch.alloc (Ch.alloc (Gr.refl w) _) _) _
  have HS := hid (hS W0 g0)
  have hbx : W0.heap[w.heap.size]? = some (.cells #[.int .i64 s, .int .i64 g] 38 (0, 0)) := by rw [hW0]; exact al_blk (al_blk (MapKept.heap_alloc w _).1 _) _
  have hmv : W0.heap[w.heap.size + 2]? = some (.cells mz 50 (0, 0)) := by rw [hW0]; exact al_at _ (by simp)
  have HMV := hid hmv
  have HNO := hid (hi (w.heap.size + 2) (by omega))
  have G0 := hid g0
  rw [hW0] at HS hbx
  clear hS hmv hi g0
  go_enter Try.func44, Try.ntmps44
  go_wp2_with (first
    | (refine wpList_load_row rfl 38 (.tmp 4) rfl w.heap.size rfl _ _ _ _ hbx Try.underlying38 rfl gid_size ?_)
    | (go_at_call 25; refine HS.out.mono ?_; rintro e w1 ⟨mo, mn, mc, rfl, o1, t1, c1, n1, z1⟩; rw [← hW0] at o1 n1; have O1 := hid o1; have C1 := hid c1; have N1 := hid n1; have Z1 := hid z1; have M1 := hid ((n1.c.block _ (lt_of_block HMV.out) (fun q => q HNO.out)).trans HMV.out); have T1 := hid (n1.o _ (lt_of_block HMV.out) HNO.out); clear o1 c1 n1 z1)
    | (refine wpList_load_row rfl 50 (.tmp 9) rfl w1.heap.size rfl _ _ _ _ (MapKept.heap_alloc w1 (.cells #[.bool wa, .int .i64 va, .bool ok, .int .i64 tr, .slice mo mn mc] 50)).1 Try.underlying50 rfl mov_size ?_)
    | (refine st_row rfl 50 (.tmp 6) (.tmp 32) rfl (w.heap.size + 2) _ rfl rfl _ _ (al_blk M1.out _) mov_size rfl (one_mov _ _ _ _ _ _ _) ?_; intro w9 b9 k9; have M9 := hid b9; have K9 := hid k9; clear b9 k9))
  have GA : Gr w1 (w1.alloc (.cells #[.bool wa, .int .i64 va, .bool ok, .int .i64 tr, .slice mo mn mc] 50)) := Ch.alloc (Gr.refl w1) _
  refine bodyPost_ret (results_cell_row rfl _ _ (w.heap.size + 2) _ _ _ _ rfl M9.out Try.underlying50 rfl mov_size) rfl ⟨mo, mn, mc, rfl, ?_, t1, ?_, ((Tn.ahead G0.out N1.out).then GA).own K9.out (by omega), Z1.out⟩
  · refine ((O1.out.gr GA).ch K9.out (fun q hq e => ?_)).lower G0.out.size
    have e1 : q = w.heap.size + 2 := e
    have := (O1.out.blk hq).1
    have := lt_of_block HMV.out
    omega
  · exact (C1.out.gr GA).ch K9.out (fun q e => by have e1 : q = w.heap.size + 2 := e; rw [e1]; exact T1.out)
end Go.Proofs.Ytalmiphddgmfbaa.Lt

namespace Go.Proofs.Ytalmiphddgmfbaa.Lt
open Go.RowKit Wd
attribute [local go_sem ↓] Go.wp_at_zero Go.wp_at_succ

theorem cho_size : (Try.prog.info? 52).map (·.size) = some 7 := by kernel_rfl
theorem one_cho (x : Int) (y a : Bool) (b : Int) (c : Bool) (d : Int) (e : Option Addr) (n m : Nat) : (#[.int .i64 x, .bool y, .bool a, .int .i64 b, .bool c, .int .i64 d, .slice e n m] : Array Value).all (·.oneCell') = true := by simp [Value.oneCell']
abbrev cz : Array Value := #[.int .i64 0, .bool false, .bool false, .int .i64 0, .bool false, .int .i64 0, .slice none 0 0]
theorem op_rowC {o : Oper} {a : Act} {w : World} {K : Act → World → Prop} {Q : Exit → Act → World → Prop} (ty : TypeId) (x y : Operand) (ho : o.op = .store ty x y)
    (g : Nat) (cells : Array Value) (hx : a.eval x = .pointer (some ⟨g, 0, none⟩)) (hy : a.eval y = .agg cells)
    (t : TypeId) (old : Array Value) (hg : w.heap[g]? = some (.cells old t (0, 0))) (hi : (Try.prog.info? ty).map (·.size) = some cells.size)
    (hold : old.size = cells.size) (h1 : cells.all (·.oneCell') = true)
    (h : ∀ w', w'.heap[g]? = some (.cells cells t (0, 0)) → Ch (Only g) w w' → K (a.put o.dst undef) w') : o.wp Try.prog a w K Q :=
  wp_store_row ty x y ho g cells hx hy t old hg hi hold h1 (h _ (setRow_blk hg) (setRow_ch w g cells))
/-- what Select tells and leaves where a case goes on -/
def SeR (t : Nat → Tg) (w : World) (b : Nat) (cs : List Cn) (k : Nat) (wa : Bool) (va : Int) (ok : Bool) (tr : Int) (ks : List Wk) (e : Ending) (w' : World) : Prop := ∃ mo mn mc, e = .returned (.tuple #[.agg #[.int .i64 (k : Int), .bool false, .bool wa, .int .i64 va, .bool ok, .int .i64 tr, .slice mo mn mc], .int .i64 0]) ∧ Ow eK 6 72 w.heap.size w' (.slice mo mn mc) ks ∧ ∃ t', Cs t' w' b cs ∧ Tn t t' w w' ∧ ∀ q, Blk (.slice mo mn mc) q → t' q = .no
/-- in the last region of Select -/
structure SlC (w : World) (s g : Int) (gp o : Nat) (x0 : Bool) (x1 x2 : Int) (W : World) : Prop where
  bx : W.heap[w.heap.size]? = some (.cells #[.int .i64 s, .int .i64 g] 38 (0, 0))
  p0 : W.cell? ⟨gp, o, none⟩ = some (.bool x0)
  p1 : W.cell? ⟨gp, o + 1, none⟩ = some (.int .i64 x1)
  p2 : W.cell? ⟨gp, o + 2, none⟩ = some (.int .i64 x2)
  lt : gp < w.heap.size
  zl : w.heap.size ≤ W.heap.size
  u : True
theorem SlC.tn {t t' : Nat → Tg} {w W W' : World} {s g : Int} {gp o : Nat} {x0 : Bool} {x1 x2 : Int} (h : SlC w s g gp o x0 x1 x2 W) (n : Tn t t' W W') (hp : t gp = .no) (hi : t w.heap.size = .no) : SlC w s g gp o x0 x1 x2 W' :=
  ⟨(n.c.block _ (lt_of_block h.bx) (fun q => q hi)).trans h.bx, (n.c.cell (Nat.lt_of_lt_of_le h.lt h.zl) (fun q => q hp)).trans h.p0, (n.c.cell (Nat.lt_of_lt_of_le h.lt h.zl) (fun q => q hp)).trans h.p1, (n.c.cell (Nat.lt_of_lt_of_le h.lt h.zl) (fun q => q hp)).trans h.p2, h.lt, Nat.le_trans h.zl n.c.size, trivial⟩
theorem SlC.own {w W W' : World} {s g : Int} {gp o : Nat} {x0 : Bool} {x1 x2 : Int} (h : SlC w s g gp o x0 x1 x2 W) (k : Ch (Only (w.heap.size + 1)) W W') (hp : gp < w.heap.size) : SlC w s g gp o x0 x1 x2 W' :=
  ⟨(k.block _ (lt_of_block h.bx) (fun q => by have e : w.heap.size = w.heap.size + 1 := q; omega)).trans h.bx, (k.cell (Nat.lt_of_lt_of_le h.lt h.zl) (fun q => by have e : gp = w.heap.size + 1 := q; omega)).trans h.p0, (k.cell (Nat.lt_of_lt_of_le h.lt h.zl) (fun q => by have e : gp = w.heap.size + 1 := q; omega)).trans h.p1, (k.cell (Nat.lt_of_lt_of_le h.lt h.zl) (fun q => by have e : gp = w.heap.size + 1 := q; omega)).trans h.p2, h.lt, Nat.le_trans h.zl k.size, trivial⟩
set_option maxRecDepth 40000 in
set_option maxHeartbeats 8000000 in
theorem sel_goes {t : Nat → Tg} {w : World} {b : Nat} {cs : List Cn} {s g : Int} {wa : Bool} {va : Int} {ok : Bool} {tr : Int} {ks : List Wk} (ao : Option Addr) (n cap : Nat) (ps : List Pk) (df : Bool) (dv : Value) (l : List Int) (k : Nat) (x0 : Bool) (x1 x2 : Int) (P : Nat → Prop) (hps : Ls eP P w (.slice ao n cap) ps) (hpP : ∀ q, P q → t q = .no) (hk : ps[k]? = some ⟨x0, x1, x2⟩)
    (hi : ∀ q, w.heap.size ≤ q → t q = .no) (hO : ∀ W, Gr w W → Calls Try.prog 9 #[.int .i64 (n : Int), dv] W (OrR W n l))
    (hW : ∀ W, Gr w W → Calls Try.prog 28 #[.pointer (some ⟨b, 0, none⟩), .agg #[.int .i64 s, .int .i64 g]] W fun e w' => e = .returned (.bool false) ∧ Gr W w')
    (hC : ∀ W, Gr w W → Calls Try.prog 42 #[.pointer (some ⟨b, 0, none⟩), .slice ao n cap] W fun e w' => e = .returned (.bool true) ∧ Gr W w')
    (hF : ∀ W, Gr w W → ∀ oo co, Ls eI (w.heap.size ≤ ·) W (.slice oo n co) l → Calls Try.prog 43 #[.pointer (some ⟨b, 0, none⟩), .slice ao n cap, .slice oo n co] W fun e w' => e = .returned (.int .i64 (k : Int)) ∧ Gr W w')
    (hA : ∀ W, Gr w W → Calls Try.prog 44 #[.pointer (some ⟨b, 0, none⟩), .agg #[.int .i64 s, .int .i64 g], .agg #[.bool x0, .int .i64 x1, .int .i64 x2]] W (CaR t W b cs wa va ok tr ks)) :
    Calls Try.prog 18 #[.pointer (some ⟨b, 0, none⟩), .agg #[.int .i64 s, .int .i64 g], .slice ao n cap, .bool df, dv] w (SeR t w b cs k wa va ok tr ks) := by
  obtain ⟨gp, op, capp, hvp, hP1, hgp, _, hcs⟩ := hps.get eP_len hk
  injection hvp with hv1 hv2 hv3
  subst hv1
  have HP := hid (hpP gp hP1)
  have HGP := hid hgp
  have HPC := hid hcs
  have HI := hid hi
  have HKN := hid (show k < n from by have := (List.getElem?_eq_some_iff.1 hk).1; have := hps.len.1; omega)
  have HO := hid hO
  have HW := hid hW
  have HC := hid hC
  have HF := hid hF
  have HCA := hid hA
  obtain ⟨W0, hW0⟩ : ∃ W0, W0 = (w.alloc (.cells #[.int .i64 s, .int .i64 g] 38)).alloc (.cells cz 52) := ⟨_, rfl⟩
  have G0 := hid (show Gr w W0 from by rw [hW0]; exact Ch.alloc (Ch.alloc (Gr.refl w) _) _)
  have B0 := hid (show W0.heap[w.heap.size]? = some (.cells #[.int .i64 s, .int .i64 g] 38 (0, 0)) from by rw [hW0]; exact al_blk (MapKept.heap_alloc w _).1 _)
  have Z0 := hid (show W0.heap[w.heap.size + 1]? = some (.cells cz 52 (0, 0)) from by rw [hW0]; exact al_at _ (by simp))
  have k0 : (0 : Int) ≤ (k : Int) := by omega
  have k1 : (k : Int) < (n : Int) := by have := HKN.out; omega
  have k2 : ((k : Int) == -1) = false := by simp
  clear hps hpP hk hi hO hW hC hF hA hcs hv2 hv3 hP1 hgp
  go_enter Try.func18, Try.ntmps18
  go_upto_region 10 with (first
    | (go_at_call 9; rw [← hW0]; refine (HO.out _ G0.out).mono ?_; rintro e w1 ⟨oo, co, rfl, o1, g1⟩; have G1 := hid (Gr.trans G0.out g1); have O1 := hid (o1.lst.mono (Q := fun q => w.heap.size ≤ q) (fun q _ hq => Nat.le_trans G0.out.size hq)); have B1 := hid (gr_blk B0.out g1); have Z1 := hid (gr_blk Z0.out g1); clear o1 g1)
    | (refine wpList_load_row rfl 38 (.tmp 6) rfl w.heap.size rfl _ _ _ _ B1.out Try.underlying38 rfl gid_size ?_)
    | (go_at_call 28; refine (HW.out _ G1.out).mono ?_; rintro e w2 ⟨rfl, g2⟩; have G2 := hid (Gr.trans G1.out g2); have O2 := hid (O1.out.gr g2); have B2 := hid (gr_blk B1.out g2); have Z2 := hid (gr_blk Z1.out g2); clear g2)
    | (go_at_call 42; refine (HC.out _ G2.out).mono ?_; rintro e w3 ⟨rfl, g3⟩; have G3 := hid (Gr.trans G2.out g3); have O3 := hid (O2.out.gr g3); have B3 := hid (gr_blk B2.out g3); have Z3 := hid (gr_blk Z2.out g3); clear g3)
    | (go_at_call 43; refine (HF.out _ G3.out _ _ O3.out).mono ?_; rintro e w4 ⟨rfl, g4⟩; have G4 := hid (Gr.trans G3.out g4); have B4 := hid (gr_blk B3.out g4); have Z4 := hid (gr_blk Z3.out g4); clear g4))
  clear HO HW HC HF O1 O2 O3 B1 B2 B3 Z1 Z2 Z3 G1 G2 G3
  have hS0 : SlC w s g gp (op + k * 3) x0 x1 x2 (World.drew w4) := ⟨B4.out, by have := HPC.out 0 _ rfl; exact (G4.out.cell HGP.out).trans this, by have := HPC.out 1 _ rfl; exact (G4.out.cell HGP.out).trans this, by have := HPC.out 2 _ rfl; exact (G4.out.cell HGP.out).trans this, HGP.out, G4.out.size, trivial⟩
  have HZ5 := hid (show (World.drew w4).heap[w.heap.size + 1]? = some (.cells cz 52 (0, 0)) from Z4.out)
  have GV := hid (show Gr w (World.drew w4) from Ch.drew G4.out)
  refine wp_region_held_drew (S := SlC w s g gp (op + k * 3) x0 x1 x2) (by kernel_rfl) (by exact hS0) (fun _ => ?_)
  generalize World.drew w4 = V0 at hS0 HZ5 GV ⊢
  refine takeS_on (i := 0) 45 (v := ?v1) rfl rfl (by kernel_rfl) (by kernel_rfl) (by kernel_rfl) (fun _ _ _ h => h) (by kernel_rfl) ?hy1 (by exact hS0) ?_
  case hy1 => (intro w' hSw; go_simp; try (with_reducible rfl))
  simp only [Act.put, List.setIfInBounds_toArray, List.set_cons_zero, List.set_cons_succ]
  refine takeS_on (i := 1) 46 (v := ?v2) rfl rfl (by kernel_rfl) (by kernel_rfl) (by kernel_rfl) (fun _ _ _ h => h) (by kernel_rfl) ?hy2 (by exact hS0) ?_
  case hy2 => (intro w' hSw; go_simp; try (with_reducible rfl))
  simp only [Act.put, List.setIfInBounds_toArray, List.set_cons_zero, List.set_cons_succ]
  refine takeS_on (i := 2) 47 (v := ?v3) rfl rfl (by kernel_rfl) (by kernel_rfl) (by kernel_rfl) (fun _ _ _ h => h) (by kernel_rfl) ?hy3 (by exact hS0) ?_
  case hy3 => (intro w' hSw; refine Eq.trans (exec_row 38 (.tmp 6) rfl _ rfl _ _ _ _ hSw.bx Try.underlying38 rfl gid_size) ?_; with_reducible rfl)
  simp only [Act.put, List.setIfInBounds_toArray, List.set_cons_zero, List.set_cons_succ]
  refine takeS_on (i := 3) 48 (v := ?v4) rfl rfl (by kernel_rfl) (by kernel_rfl) (by kernel_rfl) (fun _ _ _ h => h) (by kernel_rfl) ?hy4 (by exact hS0) ?_
  case hy4 => (intro w' hSw; go_simp; try (with_reducible rfl))
  simp only [Act.put, List.setIfInBounds_toArray, List.set_cons_zero, List.set_cons_succ]
  refine takeS_on (i := 4) 49 (v := ?v5) rfl rfl (by kernel_rfl) (by kernel_rfl) (by kernel_rfl) (fun _ _ _ h => h) (by kernel_rfl) ?hy5 (by exact hS0) ?_
  case hy5 => (intro w' hSw; go_simp; try (with_reducible rfl))
  simp only [Act.put, List.setIfInBounds_toArray, List.set_cons_zero, List.set_cons_succ]
  refine takeS_on (i := 5) 50 (v := ?v6) rfl rfl (by kernel_rfl) (by kernel_rfl) (by kernel_rfl) (fun _ _ _ h => h) (by kernel_rfl) ?hy6 (by exact hS0) ?_
  case hy6 => (intro w' hSw; go_simp; try (with_reducible rfl))
  simp only [Act.put, List.setIfInBounds_toArray, List.set_cons_zero, List.set_cons_succ]
  refine takeS_on (i := 6) 51 (v := ?v7) rfl rfl (by kernel_rfl) (by kernel_rfl) (by kernel_rfl) (fun _ _ _ h => h) (by kernel_rfl) ?hy7 (by exact hS0) ?_
  case hy7 => (intro w' hSw; have c0 := hSw.p0; have c1 := hSw.p1; have c2 := hSw.p2; go_simp; try (with_reducible rfl))
  simp only [Act.put, List.setIfInBounds_toArray, List.set_cons_zero, List.set_cons_succ]
  refine wpAnyH_ready (rs := [7]) (by kernel_rfl) (by simp) (AllReadyH.cons rfl (fun K hK => ?_) AllReadyH.nil)
  go_simp
  refine (HCA.out _ GV.out).mono ?_
  rintro e w6 ⟨mo, mn, mc, rfl, o6, t6, c6, n6, z6⟩
  have hS1 : SlC w s g gp (op + k * 3) x0 x1 x2 w6 := hS0.tn n6 (HP.out) (HI.out _ (Nat.le_refl _))
  have O6 := hid o6
  have C6 := hid c6
  have N6 := hid (Tn.ahead GV.out n6)
  have Z6 := hid z6
  have T6 := hid (n6.o _ (lt_of_block HZ5.out) (HI.out (w.heap.size + 1) (by omega)))
  have HZ6 := hid ((n6.c.block _ (lt_of_block HZ5.out) (fun q => q (HI.out (w.heap.size + 1) (by omega)))).trans HZ5.out)
  have G6 := hid GV.out
  clear o6 c6 n6 z6
  refine hK.out _ _ (by exact hS1) (fun _ => ?_)
  clear hK K
  refine takeS_on (i := 8) 53 (v := ?v8) rfl rfl (by kernel_rfl) (by kernel_rfl) (by kernel_rfl) (fun _ _ _ h => h) (by kernel_rfl) ?hy8 (by exact hS1) ?_
  case hy8 => (intro w' hSw; go_simp; try (with_reducible rfl))
  simp only [Act.put, List.setIfInBounds_toArray, List.set_cons_zero, List.set_cons_succ]
  refine wpAnyH_ready (rs := [9]) (by kernel_rfl) (by simp) (AllReadyH.cons rfl (fun K hK => ?_) AllReadyH.nil)
  rw [if_pos (by kernel_rfl)]
  refine op_rowC 52 (.tmp 10) (.tmp 53) rfl (w.heap.size + 1) _ rfl rfl _ _ HZ6.out cho_size rfl (one_cho _ _ _ _ _ _ _ _ _) ?_
  intro w9 b9 k9
  have hS2 : SlC w s g gp (op + k * 3) x0 x1 x2 w9 := hS1.own k9 HGP.out
  have M9 := hid b9
  have K9 := hid k9
  clear b9 k9
  refine hK.out _ _ (by exact hS2) (fun _ => ?_)
  clear hK K
  refine takeS_on (i := 10) 11 (v := ?v9) rfl rfl (by kernel_rfl) (by kernel_rfl) (by kernel_rfl) (fun _ _ _ h => h) (by kernel_rfl) ?hy9 (by exact hS2) ?_
  case hy9 => (intro w' hSw; go_simp; try (with_reducible rfl))
  simp only [Act.put, List.setIfInBounds_toArray]
  refine wpAnyH_done (by kernel_rfl) ?_ _
  go_wp2
  exact bodyPost_ret (results_cell_tmp2 rfl _ _ (w.heap.size + 1) _ rfl (run_loadVar_row _ _ _ _ _ _ _ M9.out Try.underlying52 rfl cho_size)) rfl ⟨mo, mn, mc, rfl, ((O6.out.ch K9.out (fun q hq e => by have e1 : q = w.heap.size + 1 := e; have := (O6.out.blk hq).1; have := lt_of_block HZ5.out; omega)).lower G6.out.size), t6, C6.out.ch K9.out (fun q e => by have e1 : q = w.heap.size + 1 := e; rw [e1]; exact T6.out), N6.out.own K9.out (by omega), Z6.out⟩
end Go.Proofs.Ytalmiphddgmfbaa.Lt

namespace Go.Proofs.Ytalmiphddgmfbaa.Lt
open Go.RowKit Wd
attribute [local go_sem ↓] Go.wp_at_zero Go.wp_at_succ

set_option maxRecDepth 40000 in
set_option maxHeartbeats 4000000 in
theorem sel_err {w : World} {s g : Int} {er : Int} (cv : Option Addr) (ao : Option Addr) (n cap : Nat) (df : Bool) (dv : Value) (her : er ≠ 0) (hO : ∀ W, Gr w W → Calls Try.prog 9 #[.int .i64 (n : Int), dv] W fun e w' => e = .returned (.tuple #[.slice none 0 0, .int .i64 er]) ∧ w' = W) :
    Calls Try.prog 18 #[.pointer cv, .agg #[.int .i64 s, .int .i64 g], .slice ao n cap, .bool df, dv] w fun e w' => e = .returned (.tuple #[.agg #[.int .i64 (-1), .bool false, .bool false, .int .i64 0, .bool false, .int .i64 0, .slice none 0 0], .int .i64 er]) ∧ Gr w w' := by
  have HO := hid hO
  obtain ⟨W0, hW0⟩ : ∃ W0, W0 = (w.alloc (.cells #[.int .i64 s, .int .i64 g] 38)).alloc (.cells cz 52) := ⟨_, rfl⟩
  have G0 := hid (show Gr w W0 from by rw [hW0]; exact Ch.alloc (Ch.alloc (Gr.refl w) _) _)
  have B0 := hid (show W0.heap[w.heap.size]? = some (.cells #[.int .i64 s, .int .i64 g] 38 (0, 0)) from by rw [hW0]; exact al_blk (MapKept.heap_alloc w _).1 _)
  have Z0 := hid (show W0.heap[w.heap.size + 1]? = some (.cells cz 52 (0, 0)) from by rw [hW0]; exact al_at _ (by simp))
  clear hO
  have e1 : (er == 0) = false := by simpa using her
  clear her
  go_enter Try.func18, Try.ntmps18
  go_wp2_with (first
    | (go_at_call 9; rw [← hW0]; refine (HO.out _ G0.out).mono ?_; rintro e w1 ⟨rfl, hw1⟩; subst hw1; clear hW0; have G1 := hid G0.out; have B1 := hid B0.out; have Z1 := hid Z0.out)
    | (refine st_row rfl 52 (.tmp 10) (.tmp 25) rfl (w.heap.size + 1) _ rfl rfl _ _ Z1.out cho_size rfl (one_cho _ _ _ _ _ _ _ _ _) ?_; intro w9 b9 k9; have M9 := hid b9; have K9 := hid k9; clear b9 k9))
  exact bodyPost_ret (results_cell_tmp2 rfl _ _ (w.heap.size + 1) _ rfl (run_loadVar_row _ _ _ _ _ _ _ M9.out Try.underlying52 rfl cho_size)) rfl ⟨rfl, Ch.trans G1.out K9.out (fun q e => .inr (by have e1 : q = w.heap.size + 1 := e; omega))⟩
set_option maxRecDepth 40000 in
set_option maxHeartbeats 4000000 in
theorem sel_busy {w : World} {s g : Int} (cv : Option Addr) (ao : Option Addr) (n cap : Nat) (df : Bool) (dv : Value) (l : List Int) (hO : ∀ W, Gr w W → Calls Try.prog 9 #[.int .i64 (n : Int), dv] W (OrR W n l)) (hW : ∀ W, Gr w W → Calls Try.prog 28 #[.pointer cv, .agg #[.int .i64 s, .int .i64 g]] W fun e w' => e = .returned (.bool true) ∧ Gr W w') :
    Calls Try.prog 18 #[.pointer cv, .agg #[.int .i64 s, .int .i64 g], .slice ao n cap, .bool df, dv] w fun e w' => e = .returned (.tuple #[.agg #[.int .i64 (-1), .bool false, .bool false, .int .i64 0, .bool false, .int .i64 0, .slice none 0 0], .int .i64 111]) ∧ Gr w w' := by
  have HO := hid hO
  have HW := hid hW
  obtain ⟨W0, hW0⟩ : ∃ W0, W0 = (w.alloc (.cells #[.int .i64 s, .int .i64 g] 38)).alloc (.cells cz 52) := ⟨_, rfl⟩
  have G0 := hid (show Gr w W0 from by rw [hW0]; exact Ch.alloc (Ch.alloc (Gr.refl w) _) _)
  have B0 := hid (show W0.heap[w.heap.size]? = some (.cells #[.int .i64 s, .int .i64 g] 38 (0, 0)) from by rw [hW0]; exact al_blk (MapKept.heap_alloc w _).1 _)
  have Z0 := hid (show W0.heap[w.heap.size + 1]? = some (.cells cz 52 (0, 0)) from by rw [hW0]; exact al_at _ (by simp))
  clear hO hW
  go_enter Try.func18, Try.ntmps18
  go_wp2_with (first
    | (go_at_call 9; rw [← hW0]; refine (HO.out _ G0.out).mono ?_; rintro e w1 ⟨oo, co, rfl, o1, g1⟩; have G1 := hid (Gr.trans G0.out g1); have O1 := hid (o1.lst.mono (Q := fun q => w.heap.size ≤ q) (fun q _ hq => Nat.le_trans G0.out.size hq)); have B1 := hid (gr_blk B0.out g1); have Z1 := hid (gr_blk Z0.out g1); clear o1 g1)
    | (refine wpList_load_row rfl 38 (.tmp 6) rfl w.heap.size rfl _ _ _ _ B1.out Try.underlying38 rfl gid_size ?_)
    | (go_at_call 28; refine (HW.out _ G1.out).mono ?_; rintro e w2 ⟨rfl, g2⟩; have G2 := hid (Gr.trans G1.out g2); have O2 := hid (O1.out.gr g2); have B2 := hid (gr_blk B1.out g2); have Z2 := hid (gr_blk Z1.out g2); clear g2)
    | (refine st_row rfl 52 (.tmp 10) (.tmp 31) rfl (w.heap.size + 1) _ rfl rfl _ _ Z2.out cho_size rfl (one_cho _ _ _ _ _ _ _ _ _) ?_; intro w9 b9 k9; have M9 := hid b9; have K9 := hid k9; clear b9 k9))
  exact bodyPost_ret (results_cell_tmp2 rfl _ _ (w.heap.size + 1) _ rfl (run_loadVar_row _ _ _ _ _ _ _ M9.out Try.underlying52 rfl cho_size)) rfl ⟨rfl, Ch.trans G2.out K9.out (fun q e => .inr (by have e1 : q = w.heap.size + 1 := e; omega))⟩
set_option maxRecDepth 40000 in
set_option maxHeartbeats 4000000 in
theorem sel_trap {w : World} {s g : Int} (cv : Option Addr) (ao : Option Addr) (n cap : Nat) (df : Bool) (dv : Value) (l : List Int) (hO : ∀ W, Gr w W → Calls Try.prog 9 #[.int .i64 (n : Int), dv] W (OrR W n l)) (hW : ∀ W, Gr w W → Calls Try.prog 28 #[.pointer cv, .agg #[.int .i64 s, .int .i64 g]] W fun e w' => e = .returned (.bool false) ∧ Gr W w') (hC : ∀ W, Gr w W → Calls Try.prog 42 #[.pointer cv, .slice ao n cap] W fun e w' => e = .returned (.bool false) ∧ Gr W w') :
    Calls Try.prog 18 #[.pointer cv, .agg #[.int .i64 s, .int .i64 g], .slice ao n cap, .bool df, dv] w fun e w' => e = .returned (.tuple #[.agg #[.int .i64 (-1), .bool false, .bool false, .int .i64 0, .bool false, .int .i64 4, .slice none 0 0], .int .i64 0]) ∧ Gr w w' := by
  have HO := hid hO
  have HW := hid hW
  have HC := hid hC
  obtain ⟨W0, hW0⟩ : ∃ W0, W0 = (w.alloc (.cells #[.int .i64 s, .int .i64 g] 38)).alloc (.cells cz 52) := ⟨_, rfl⟩
  have G0 := hid (show Gr w W0 from by rw [hW0]; exact Ch.alloc (Ch.alloc (Gr.refl w) _) _)
  have B0 := hid (show W0.heap[w.heap.size]? = some (.cells #[.int .i64 s, .int .i64 g] 38 (0, 0)) from by rw [hW0]; exact al_blk (MapKept.heap_alloc w _).1 _)
  have Z0 := hid (show W0.heap[w.heap.size + 1]? = some (.cells cz 52 (0, 0)) from by rw [hW0]; exact al_at _ (by simp))
  clear hO hW hC
  go_enter Try.func18, Try.ntmps18
  go_wp2_with (first
    | (go_at_call 9; rw [← hW0]; refine (HO.out _ G0.out).mono ?_; rintro e w1 ⟨oo, co, rfl, o1, g1⟩; have G1 := hid (Gr.trans G0.out g1); have O1 := hid (o1.lst.mono (Q := fun q => w.heap.size ≤ q) (fun q _ hq => Nat.le_trans G0.out.size hq)); have B1 := hid (gr_blk B0.out g1); have Z1 := hid (gr_blk Z0.out g1); clear o1 g1)
    | (refine wpList_load_row rfl 38 (.tmp 6) rfl w.heap.size rfl _ _ _ _ B1.out Try.underlying38 rfl gid_size ?_)
    | (go_at_call 28; refine (HW.out _ G1.out).mono ?_; rintro e w2 ⟨rfl, g2⟩; have G2 := hid (Gr.trans G1.out g2); have O2 := hid (O1.out.gr g2); have B2 := hid (gr_blk B1.out g2); have Z2 := hid (gr_blk Z1.out g2); clear g2)
    | (go_at_call 42; refine (HC.out _ G2.out).mono ?_; rintro e w3 ⟨rfl, g3⟩; have G3 := hid (Gr.trans G2.out g3); have O3 := hid (O2.out.gr g3); have B3 := hid (gr_blk B2.out g3); have Z3 := hid (gr_blk Z2.out g3); clear g3)
    | (refine st_row rfl 52 (.tmp 10) (.tmp 38) rfl (w.heap.size + 1) _ rfl rfl _ _ Z3.out cho_size rfl (one_cho _ _ _ _ _ _ _ _ _) ?_; intro w9 b9 k9; have M9 := hid b9; have K9 := hid k9; clear b9 k9))
  exact bodyPost_ret (results_cell_tmp2 rfl _ _ (w.heap.size + 1) _ rfl (run_loadVar_row _ _ _ _ _ _ _ M9.out Try.underlying52 rfl cho_size)) rfl ⟨rfl, Ch.trans G3.out K9.out (fun q e => .inr (by have e1 : q = w.heap.size + 1 := e; omega))⟩
set_option maxRecDepth 40000 in
set_option maxHeartbeats 4000000 in
theorem sel_def {w : World} {s g : Int} (cv : Option Addr) (ao : Option Addr) (n cap : Nat) (dv : Value) (l : List Int) (hO : ∀ W, Gr w W → Calls Try.prog 9 #[.int .i64 (n : Int), dv] W (OrR W n l)) (hW : ∀ W, Gr w W → Calls Try.prog 28 #[.pointer cv, .agg #[.int .i64 s, .int .i64 g]] W fun e w' => e = .returned (.bool false) ∧ Gr W w') (hC : ∀ W, Gr w W → Calls Try.prog 42 #[.pointer cv, .slice ao n cap] W fun e w' => e = .returned (.bool true) ∧ Gr W w') (hF : ∀ W, Gr w W → ∀ oo co, Ls eI (w.heap.size ≤ ·) W (.slice oo n co) l → Calls Try.prog 43 #[.pointer cv, .slice ao n cap, .slice oo n co] W fun e w' => e = .returned (.int .i64 (-1)) ∧ Gr W w') :
    Calls Try.prog 18 #[.pointer cv, .agg #[.int .i64 s, .int .i64 g], .slice ao n cap, .bool true, dv] w fun e w' => e = .returned (.tuple #[.agg #[.int .i64 (-1), .bool true, .bool false, .int .i64 0, .bool false, .int .i64 0, .slice none 0 0], .int .i64 0]) ∧ Gr w w' := by
  have HO := hid hO
  have HW := hid hW
  have HC := hid hC
  have HF := hid hF
  obtain ⟨W0, hW0⟩ : ∃ W0, W0 = (w.alloc (.cells #[.int .i64 s, .int .i64 g] 38)).alloc (.cells cz 52) := ⟨_, rfl⟩
  have G0 := hid (show Gr w W0 from by rw [hW0]; exact Ch.alloc (Ch.alloc (Gr.refl w) _) _)
  have B0 := hid (show W0.heap[w.heap.size]? = some (.cells #[.int .i64 s, .int .i64 g] 38 (0, 0)) from by rw [hW0]; exact al_blk (MapKept.heap_alloc w _).1 _)
  have Z0 := hid (show W0.heap[w.heap.size + 1]? = some (.cells cz 52 (0, 0)) from by rw [hW0]; exact al_at _ (by simp))
  clear hO hW hC hF
  go_enter Try.func18, Try.ntmps18
  go_wp2_with (first
    | (go_at_call 9; rw [← hW0]; refine (HO.out _ G0.out).mono ?_; rintro e w1 ⟨oo, co, rfl, o1, g1⟩; have G1 := hid (Gr.trans G0.out g1); have O1 := hid (o1.lst.mono (Q := fun q => w.heap.size ≤ q) (fun q _ hq => Nat.le_trans G0.out.size hq)); have B1 := hid (gr_blk B0.out g1); have Z1 := hid (gr_blk Z0.out g1); clear o1 g1)
    | (refine wpList_load_row rfl 38 (.tmp 6) rfl w.heap.size rfl _ _ _ _ B1.out Try.underlying38 rfl gid_size ?_)
    | (go_at_call 28; refine (HW.out _ G1.out).mono ?_; rintro e w2 ⟨rfl, g2⟩; have G2 := hid (Gr.trans G1.out g2); have O2 := hid (O1.out.gr g2); have B2 := hid (gr_blk B1.out g2); have Z2 := hid (gr_blk Z1.out g2); clear g2)
    | (go_at_call 42; refine (HC.out _ G2.out).mono ?_; rintro e w3 ⟨rfl, g3⟩; have G3 := hid (Gr.trans G2.out g3); have O3 := hid (O2.out.gr g3); have B3 := hid (gr_blk B2.out g3); have Z3 := hid (gr_blk Z2.out g3); clear g3)
    | (go_at_call 43; refine (HF.out _ G3.out _ _ O3.out).mono ?_; rintro e w4 ⟨rfl, g4⟩; have G4 := hid (Gr.trans G3.out g4); have O4 := hid (O3.out.gr g4); have B4 := hid (gr_blk B3.out g4); have Z4 := hid (gr_blk Z3.out g4); clear g4)
    | (refine st_row rfl 52 (.tmp 10) (.tmp 55) rfl (w.heap.size + 1) _ rfl rfl _ _ Z4.out cho_size rfl (one_cho _ _ _ _ _ _ _ _ _) ?_; intro w9 b9 k9; have M9 := hid b9; have K9 := hid k9; clear b9 k9))
  exact bodyPost_ret (results_cell_tmp2 rfl _ _ (w.heap.size + 1) _ rfl (run_loadVar_row _ _ _ _ _ _ _ M9.out Try.underlying52 rfl cho_size)) rfl ⟨rfl, Ch.trans G4.out K9.out (fun q e => .inr (by have e1 : q = w.heap.size + 1 := e; omega))⟩
set_option maxRecDepth 40000 in
set_option maxHeartbeats 4000000 in
theorem sel_none {w : World} {s g : Int} (cv : Option Addr) (ao : Option Addr) (n cap : Nat) (dv : Value) (l : List Int) (hO : ∀ W, Gr w W → Calls Try.prog 9 #[.int .i64 (n : Int), dv] W (OrR W n l)) (hW : ∀ W, Gr w W → Calls Try.prog 28 #[.pointer cv, .agg #[.int .i64 s, .int .i64 g]] W fun e w' => e = .returned (.bool false) ∧ Gr W w') (hC : ∀ W, Gr w W → Calls Try.prog 42 #[.pointer cv, .slice ao n cap] W fun e w' => e = .returned (.bool true) ∧ Gr W w') (hF : ∀ W, Gr w W → ∀ oo co, Ls eI (w.heap.size ≤ ·) W (.slice oo n co) l → Calls Try.prog 43 #[.pointer cv, .slice ao n cap, .slice oo n co] W fun e w' => e = .returned (.int .i64 (-1)) ∧ Gr W w') (hA : ∀ W, Gr w W → Calls Try.prog 45 #[.pointer cv, .agg #[.int .i64 s, .int .i64 g], .slice ao n cap] W fun e w' => e = .returned (.tuple #[]) ∧ Gr W w') :
    Calls Try.prog 18 #[.pointer cv, .agg #[.int .i64 s, .int .i64 g], .slice ao n cap, .bool false, dv] w fun e w' => e = .returned (.tuple #[.agg #[.int .i64 (-1), .bool false, .bool true, .int .i64 0, .bool false, .int .i64 0, .slice none 0 0], .int .i64 0]) ∧ Gr w w' := by
  have HO := hid hO
  have HW := hid hW
  have HC := hid hC
  have HF := hid hF
  have HA := hid hA
  obtain ⟨W0, hW0⟩ : ∃ W0, W0 = (w.alloc (.cells #[.int .i64 s, .int .i64 g] 38)).alloc (.cells cz 52) := ⟨_, rfl⟩
  have G0 := hid (show Gr w W0 from by rw [hW0]; exact Ch.alloc (Ch.alloc (Gr.refl w) _) _)
  have B0 := hid (show W0.heap[w.heap.size]? = some (.cells #[.int .i64 s, .int .i64 g] 38 (0, 0)) from by rw [hW0]; exact al_blk (MapKept.heap_alloc w _).1 _)
  have Z0 := hid (show W0.heap[w.heap.size + 1]? = some (.cells cz 52 (0, 0)) from by rw [hW0]; exact al_at _ (by simp))
  clear hO hW hC hF hA
  go_enter Try.func18, Try.ntmps18
  go_wp2_with (first
    | (go_at_call 9; rw [← hW0]; refine (HO.out _ G0.out).mono ?_; rintro e w1 ⟨oo, co, rfl, o1, g1⟩; have G1 := hid (Gr.trans G0.out g1); have O1 := hid (o1.lst.mono (Q := fun q => w.heap.size ≤ q) (fun q _ hq => Nat.le_trans G0.out.size hq)); have B1 := hid (gr_blk B0.out g1); have Z1 := hid (gr_blk Z0.out g1); clear o1 g1)
    | (refine wpList_load_row rfl 38 (.tmp 6) rfl w.heap.size rfl _ _ _ _ B4.out Try.underlying38 rfl gid_size ?_)
    | (refine wpList_load_row rfl 38 (.tmp 6) rfl w.heap.size rfl _ _ _ _ B1.out Try.underlying38 rfl gid_size ?_)
    | (go_at_call 28; refine (HW.out _ G1.out).mono ?_; rintro e w2 ⟨rfl, g2⟩; have G2 := hid (Gr.trans G1.out g2); have O2 := hid (O1.out.gr g2); have B2 := hid (gr_blk B1.out g2); have Z2 := hid (gr_blk Z1.out g2); clear g2)
    | (go_at_call 42; refine (HC.out _ G2.out).mono ?_; rintro e w3 ⟨rfl, g3⟩; have G3 := hid (Gr.trans G2.out g3); have O3 := hid (O2.out.gr g3); have B3 := hid (gr_blk B2.out g3); have Z3 := hid (gr_blk Z2.out g3); clear g3)
    | (go_at_call 43; refine (HF.out _ G3.out _ _ O3.out).mono ?_; rintro e w4 ⟨rfl, g4⟩; have G4 := hid (Gr.trans G3.out g4); have O4 := hid (O3.out.gr g4); have B4 := hid (gr_blk B3.out g4); have Z4 := hid (gr_blk Z3.out g4); clear g4)
    | (go_at_call 45; refine (HA.out _ G4.out).mono ?_; rintro e w5 ⟨rfl, g5⟩; have G5 := hid (Gr.trans G4.out g5); have O5 := hid (O4.out.gr g5); have B5 := hid (gr_blk B4.out g5); have Z5 := hid (gr_blk Z4.out g5); clear g5)
    | (refine st_row rfl 52 (.tmp 10) (.tmp 61) rfl (w.heap.size + 1) _ rfl rfl _ _ Z5.out cho_size rfl (one_cho _ _ _ _ _ _ _ _ _) ?_; intro w9 b9 k9; have M9 := hid b9; have K9 := hid k9; clear b9 k9))
  exact bodyPost_ret (results_cell_tmp2 rfl _ _ (w.heap.size + 1) _ rfl (run_loadVar_row _ _ _ _ _ _ _ M9.out Try.underlying52 rfl cho_size)) rfl ⟨rfl, Ch.trans G5.out K9.out (fun q e => .inr (by have e1 : q = w.heap.size + 1 := e; omega))⟩
theorem wait_none (cv : Option Addr) (ao : Option Addr) (cap : Nat) (s g : Int) (w : World) : Calls Try.prog 45 #[.pointer cv, .agg #[.int .i64 s, .int .i64 g], .slice ao 0 cap] w fun e w' => e = .returned (.tuple #[]) ∧ Gr w w' := by
  go_enter Try.func45, Try.ntmps45
  go_wp2_with fail
  go_loopg [10] 0 (fun q i wr => i = .int .i64 0 ∧ Gr w wr)
  case atStart => exact ⟨rfl, Ch.alloc (Gr.refl w) _⟩
  case round =>
    obtain ⟨rfl, hG⟩ := hrel
    have HG := hid hG
    clear hG
    go_wp2
    go_end0
    exact ⟨rfl, HG.out⟩
end Go.Proofs.Ytalmiphddgmfbaa.Lt

namespace Go.Proofs.Ytalmiphddgmfbaa.Lt
open Go.RowKit Wd
attribute [local go_sem ↓] Go.wp_at_zero Go.wp_at_succ

theorem Gd.wt {N : Nat} {cs : List Cn} (h : Gd N cs) (ch s g c v : Int) (sd : Bool) (hk : Gok s g) : Gd (N + 1) (wtF cs ch s g c v sd) := by
  unfold wtF
  rcases cAt_cases cs ch with ⟨i, d, e1, hc, e⟩ | ⟨_, e⟩ <;> rw [e]
  · have mem := List.mem_of_getElem? hc
    dsimp only
    split
    · refine h.set hc (h.cap d mem) (h.v d mem) (by unfold wl; dsimp only; rw [List.length_append, List.length_singleton]; omega) ?_
      intro x hx
      dsimp only at hx
      rcases hx with hx | hx
      · rcases List.mem_append.1 hx with hx | hx
        · exact h.g d mem x (.inl hx)
        · rw [List.mem_singleton] at hx; subst hx; exact hk
      · exact h.g d mem x (.inr hx)
    · refine h.set hc (h.cap d mem) (h.v d mem) (by unfold wl; dsimp only; rw [List.length_append, List.length_singleton]; omega) ?_
      intro x hx
      dsimp only at hx
      rcases hx with hx | hx
      · exact h.g d mem x (.inl hx)
      · rcases List.mem_append.1 hx with hx | hx
        · exact h.g d mem x (.inr hx)
        · rw [List.mem_singleton] at hx; subst hx; exact hk
  · exact h.up (by omega)
/-- the channels where one waits for the first j cases -/
def wfF (cs : List Cn) (s g : Int) (ps : List Pk) : Nat → List Cn
  | 0 => cs
  | j + 1 => match ps[j]? with | some p => wtF (wfF cs s g ps j) p.ch s g (j : Int) p.v p.sd | none => wfF cs s g ps j
theorem wfF_step {cs : List Cn} {s g : Int} {ps : List Pk} {j : Nat} {p : Pk} (h : ps[j]? = some p) : wfF cs s g ps (j + 1) = wtF (wfF cs s g ps j) p.ch s g (j : Int) p.v p.sd := by
  rw [wfF, h]
theorem Gd.wf {N : Nat} {cs : List Cn} (h : Gd N cs) (s g : Int) (ps : List Pk) (hk : Gok s g) : ∀ j, Gd (N + j) (wfF cs s g ps j) := by
  intro j
  induction j with
  | zero => exact h
  | succ j ih =>
    rw [wfF]
    split
    · exact ih.wt _ _ _ _ _ _ hk
    · exact ih.up (by omega)
def WfR (t : Nat → Tg) (w : World) (b : Nat) (cs : List Cn) (e : Ending) (w' : World) : Prop := e = .returned (.tuple #[]) ∧ ∃ t', Cs t' w' b cs ∧ Tn t t' w w'
set_option maxRecDepth 40000 in
set_option maxHeartbeats 4000000 in
theorem wfa_any {t : Nat → Tg} {w : World} {b N : Nat} {cs : List Cn} {s g : Int} (h : Cs t w b cs) (hG : Gd N cs) (hN : N + 16 < 4398046511104) (hk : Gok s g) (ao : Option Addr) (n cap : Nat) (ps : List Pk) (P : Nat → Prop) (hps : Ls eP P w (.slice ao n cap) ps) (hpP : ∀ q, P q → t q = .no) (hn : n ≤ 16) :
    Calls Try.prog 45 #[.pointer (some ⟨b, 0, none⟩), .agg #[.int .i64 s, .int .i64 g], .slice ao n cap] w (WfR t w b (wfF cs s g ps n)) := by
  obtain ⟨W0, hW0⟩ : ∃ W0, W0 = w.alloc (.cells #[.int .i64 s, .int .i64 g] 38) := ⟨_, rfl⟩
  have G0 := hid (show Gr w W0 from by rw [hW0]; exact Ch.alloc (Gr.refl w) _)
  have B0 := hid (show W0.heap[w.heap.size]? = some (.cells #[.int .i64 s, .int .i64 g] 38 (0, 0)) from by rw [hW0]; exact (MapKept.heap_alloc w _).1)
  have HHI := hid (cs_hi h)
  have HC := hid (h.gr G0.out)
  have HP := hid (hps.gr G0.out)
  have HPP := hid hpP
  have HL := hid hps.len.1
  have HGD := hid (hG.wf s g ps hk)
  have HK := hid hk
  clear h hG hps hpP hk
  go_enter Try.func45, Try.ntmps45
  go_wp2_with fail
  go_loopg [10] n (fun q i wr => ∃ (j : Nat) (t' : Nat → Tg), j + q = n ∧ i = .int .i64 (j : Int) ∧ Cs t' wr b (wfF cs s g ps j) ∧ Tn t t' W0 wr ∧ wr.heap[w.heap.size]? = some (.cells #[.int .i64 s, .int .i64 g] 38 (0, 0)))
  case atStart => rw [← hW0]; exact ⟨0, t, by omega, rfl, HC.out, Tn.refl _ _, B0.out⟩
  case round =>
    obtain ⟨j, t', hjk, rfl, hC, hT, hB⟩ := hrel
    clear hW0
    have CJ := hid hC
    have TJ := hid hT
    have BJ := hid hB
    clear hC hT hB
    by_cases hj : j < n
    · obtain ⟨⟨x0, x1, x2⟩, hx⟩ : ∃ x, ps[j]? = some x := ⟨_, List.getElem?_eq_getElem (by rw [← HL.out]; omega)⟩
      obtain ⟨gg, oo, cap', hv, _, hgl, _, hcs⟩ := (TJ.out.ls HP.out (fun q _ hq => HPP.out q hq)).get eP_len hx
      injection hv with hv1 hv2 hv3
      subst hv1
      have c0 := hcs 0 _ rfl
      have c1 := hcs 1 _ rfl
      have c2 := hcs 2 _ rfl
      dsimp only [Nat.add_zero] at c0 c1 c2
      have j0 : (0 : Int) ≤ (j : Int) := by omega
      have j1 : (j : Int) < (n : Int) := by omega
      have HX := hid hx
      obtain ⟨W5, hW5⟩ : ∃ W, W = wr.alloc (.cells #[.bool x0, .int .i64 x1, .int .i64 x2] 80) := ⟨_, rfl⟩
      have G5 := hid (show Gr wr W5 from by rw [hW5]; exact Ch.alloc (Gr.refl wr) _)
      have B5 := hid (gr_blk BJ.out G5.out)
      have HNO := hid (TJ.out.o _ (lt_of_block B0.out) (HHI.out _ (Nat.le_refl _)))
      have HWT := hid (wait_any (CJ.out.gr G5.out) (HGD.out j) (by omega) x1 s g (j : Int) x2 x0 HK.out)
      rw [hW5] at HWT B5
      clear hcs hv2 hv3 hx hgl
      go_wp2_with (first
        | (refine wpList_load_row rfl 38 (.tmp 4) rfl w.heap.size rfl _ _ _ _ B5.out Try.underlying38 rfl gid_size ?_)
        | (go_at_call 54; refine HWT.out.mono ?_; rintro e w6 ⟨rfl, t6, c6, n6⟩; rw [← hW5] at n6; have C6 := hid c6; have N6 := hid n6; clear c6 n6))
      go_roundg (gk - 1)
      case measure => omega
      case rel =>
        refine ⟨j + 1, t6, by omega, ?_, by rw [wfF_step HX.out]; exact C6.out, TJ.out.trans (Tn.ahead G5.out N6.out), ?_⟩
        · first | with_reducible rfl | simp
        · rw [← hW5] at B5
          exact (N6.out.c.block _ (lt_of_block B5.out) (fun q => q HNO.out)).trans B5.out
    · have jn : ¬ (j : Int) < (n : Int) := by omega
      have e : j = n := by omega
      subst e
      go_wp2
      go_end0
      exact ⟨rfl, t', CJ.out, Tn.ahead G0.out TJ.out⟩
end Go.Proofs.Ytalmiphddgmfbaa.Lt

namespace Go.Proofs.Ytalmiphddgmfbaa.Lt
open Go.RowKit Wd
attribute [local go_sem ↓] Go.wp_at_zero Go.wp_at_succ

set_option maxRecDepth 40000 in
set_option maxHeartbeats 4000000 in
theorem sel_wait {t : Nat → Tg} {w : World} {b : Nat} {cs : List Cn} {s g : Int} (hi : ∀ q, w.heap.size ≤ q → t q = .no) (ao : Option Addr) (n cap : Nat) (dv : Value) (l : List Int) (hO : ∀ W, Gr w W → Calls Try.prog 9 #[.int .i64 (n : Int), dv] W (OrR W n l)) (hW : ∀ W, Gr w W → Calls Try.prog 28 #[.pointer (some ⟨b, 0, none⟩), .agg #[.int .i64 s, .int .i64 g]] W fun e w' => e = .returned (.bool false) ∧ Gr W w') (hC : ∀ W, Gr w W → Calls Try.prog 42 #[.pointer (some ⟨b, 0, none⟩), .slice ao n cap] W fun e w' => e = .returned (.bool true) ∧ Gr W w') (hF : ∀ W, Gr w W → ∀ oo co, Ls eI (w.heap.size ≤ ·) W (.slice oo n co) l → Calls Try.prog 43 #[.pointer (some ⟨b, 0, none⟩), .slice ao n cap, .slice oo n co] W fun e w' => e = .returned (.int .i64 (-1)) ∧ Gr W w') (hA : ∀ W, Gr w W → Calls Try.prog 45 #[.pointer (some ⟨b, 0, none⟩), .agg #[.int .i64 s, .int .i64 g], .slice ao n cap] W (WfR t W b cs)) :
    Calls Try.prog 18 #[.pointer (some ⟨b, 0, none⟩), .agg #[.int .i64 s, .int .i64 g], .slice ao n cap, .bool false, dv] w fun e w' => e = .returned (.tuple #[.agg #[.int .i64 (-1), .bool false, .bool true, .int .i64 0, .bool false, .int .i64 0, .slice none 0 0], .int .i64 0]) ∧ ∃ t', Cs t' w' b cs ∧ Tn t t' w w' := by
  have HO := hid hO
  have HW := hid hW
  have HC := hid hC
  have HF := hid hF
  have HA := hid hA
  have HI := hid hi
  obtain ⟨W0, hW0⟩ : ∃ W0, W0 = (w.alloc (.cells #[.int .i64 s, .int .i64 g] 38)).alloc (.cells cz 52) := ⟨_, rfl⟩
  have G0 := hid (show Gr w W0 from by rw [hW0]; exact Ch.alloc (Ch.alloc (Gr.refl w) _) _)
  have B0 := hid (show W0.heap[w.heap.size]? = some (.cells #[.int .i64 s, .int .i64 g] 38 (0, 0)) from by rw [hW0]; exact al_blk (MapKept.heap_alloc w _).1 _)
  have Z0 := hid (show W0.heap[w.heap.size + 1]? = some (.cells cz 52 (0, 0)) from by rw [hW0]; exact al_at _ (by simp))
  clear hO hW hC hF hA hi
  go_enter Try.func18, Try.ntmps18
  go_wp2_with (first
    | (go_at_call 9; rw [← hW0]; refine (HO.out _ G0.out).mono ?_; rintro e w1 ⟨oo, co, rfl, o1, g1⟩; have G1 := hid (Gr.trans G0.out g1); have O1 := hid (o1.lst.mono (Q := fun q => w.heap.size ≤ q) (fun q _ hq => Nat.le_trans G0.out.size hq)); have B1 := hid (gr_blk B0.out g1); have Z1 := hid (gr_blk Z0.out g1); clear o1 g1)
    | (refine wpList_load_row rfl 38 (.tmp 6) rfl w.heap.size rfl _ _ _ _ B4.out Try.underlying38 rfl gid_size ?_)
    | (refine wpList_load_row rfl 38 (.tmp 6) rfl w.heap.size rfl _ _ _ _ B1.out Try.underlying38 rfl gid_size ?_)
    | (go_at_call 28; refine (HW.out _ G1.out).mono ?_; rintro e w2 ⟨rfl, g2⟩; have G2 := hid (Gr.trans G1.out g2); have O2 := hid (O1.out.gr g2); have B2 := hid (gr_blk B1.out g2); have Z2 := hid (gr_blk Z1.out g2); clear g2)
    | (go_at_call 42; refine (HC.out _ G2.out).mono ?_; rintro e w3 ⟨rfl, g3⟩; have G3 := hid (Gr.trans G2.out g3); have O3 := hid (O2.out.gr g3); have B3 := hid (gr_blk B2.out g3); have Z3 := hid (gr_blk Z2.out g3); clear g3)
    | (go_at_call 43; refine (HF.out _ G3.out _ _ O3.out).mono ?_; rintro e w4 ⟨rfl, g4⟩; have G4 := hid (Gr.trans G3.out g4); have O4 := hid (O3.out.gr g4); have B4 := hid (gr_blk B3.out g4); have Z4 := hid (gr_blk Z3.out g4); clear g4)
    | (go_at_call 45; refine (HA.out _ G4.out).mono ?_; rintro e w5 ⟨rfl, t5, c5, n5⟩; have N5 := hid (Tn.ahead G4.out n5); have C5 := hid c5; have Z5 := hid ((n5.c.block _ (lt_of_block Z4.out) (fun q => q (HI.out (w.heap.size + 1) (by omega)))).trans Z4.out); have T5 := hid (n5.o _ (lt_of_block Z4.out) (HI.out (w.heap.size + 1) (by omega))); clear c5 n5)
    | (refine st_row rfl 52 (.tmp 10) (.tmp 61) rfl (w.heap.size + 1) _ rfl rfl _ _ Z5.out cho_size rfl (one_cho _ _ _ _ _ _ _ _ _) ?_; intro w9 b9 k9; have M9 := hid b9; have K9 := hid k9; clear b9 k9))
  exact bodyPost_ret (results_cell_tmp2 rfl _ _ (w.heap.size + 1) _ rfl (run_loadVar_row _ _ _ _ _ _ _ M9.out Try.underlying52 rfl cho_size)) rfl ⟨rfl, t5, C5.out.ch K9.out (fun q e => by have e1 : q = w.heap.size + 1 := e; rw [e1]; exact T5.out), N5.out.own K9.out (by omega)⟩
/-- what a select does: the case, whether it is the default, what was moved and the channels -/
structure So where
  k : Int
  df : Bool
  o : Ot
def gzF (cs : List Cn) (ch : Int) (sd : Bool) : Bool := (gsF cs ch sd).1
def tzF (cs : List Cn) (ch : Int) : Int := (gsF cs ch true).2
theorem tzF_any (cs : List Cn) (ch : Int) (sd : Bool) : (gsF cs ch sd).2 = tzF cs ch := by
  unfold tzF gsF
  split <;> rfl
def selG (cs : List Cn) (s g : Int) (ps : List Pk) (df : Bool) (k : Int) : So :=
  if k = -1 then (if df = true then ⟨-1, true, ⟨cs, false, 0, false, 0, [], 0⟩⟩ else ⟨-1, false, ⟨wfF cs s g ps ps.length, true, 0, false, 0, [], 0⟩⟩)
  else match ps[k.toNat]? with
    | some p => ⟨k, false, if p.sd = true then sndF cs p.ch s g p.v else rcvF cs p.ch s g⟩
    | none => ⟨k, false, ⟨cs, false, 0, false, 0, [], 0⟩⟩
def selF (cs : List Cn) (s g : Int) (ps : List Pk) (df : Bool) (ds : List Int) : So :=
  if 16 < ps.length then ⟨-1, false, ⟨cs, false, 0, false, 0, [], 1⟩⟩
  else if ds.length < ps.length then ⟨-1, false, ⟨cs, false, 0, false, 0, [], 120⟩⟩
  else if 0 < pls cs s g then ⟨-1, false, ⟨cs, false, 0, false, 0, [], 111⟩⟩
  else if ps.all (fun p => tzF cs p.ch == 0) = true then selG cs s g ps df (fst1 (gzF cs) ps (ord (ds.take ps.length)))
  else ⟨-1, false, ⟨cs, false, 0, false, 4, [], 0⟩⟩
/-- what Select tells and leaves -/
def SoR (t : Nat → Tg) (w : World) (b : Nat) (r : So) (e : Ending) (w' : World) : Prop := ∃ mo mn mc, e = .returned (.tuple #[.agg #[.int .i64 r.k, .bool r.df, .bool r.o.wa, .int .i64 r.o.va, .bool r.o.ok, .int .i64 r.o.tr, .slice mo mn mc], .int .i64 r.o.er]) ∧ Ls eK (w.heap.size ≤ ·) w' (.slice mo mn mc) r.o.ks ∧ ∃ t', Cs t' w' b r.o.cs ∧ Tn t t' w w' ∧ ∀ q, Blk (.slice mo mn mc) q → t' q = .no
theorem blk_none {n c q : Nat} (h : Blk (.slice none n c) q) : False := by
  have h1 : (none : Option Nat) = some q := h
  cases h1
theorem so_gr {t : Nat → Tg} {w w' : World} {b : Nat} {cs : List Cn} {k : Int} {df wa : Bool} {tr er : Int} {e : Ending} (h : Cs t w b cs) (q : e = .returned (.tuple #[.agg #[.int .i64 k, .bool df, .bool wa, .int .i64 0, .bool false, .int .i64 tr, .slice none 0 0], .int .i64 er]) ∧ Gr w w') : SoR t w b ⟨k, df, ⟨cs, wa, 0, false, tr, [], er⟩⟩ e w' :=
  ⟨none, 0, 0, q.1, Ls.nil _ _ _, t, h.gr q.2, Tn.gr q.2, fun _ h => (blk_none h).elim⟩
theorem snd_er {cs : List Cn} {s g : Int} (h : ¬ 0 < pls cs s g) (ch v : Int) : (sndF cs ch s g v).er = 0 := by
  unfold sndF
  rw [if_neg h]
  rcases cAt_cases cs ch with ⟨i, d, e1, hc, e⟩ | ⟨_, e⟩ <;> rw [e]
  · dsimp only
    unfold sndI
    split <;> (try rfl)
    all_goals (split <;> (try rfl))
    all_goals (split <;> rfl)
  · rfl
theorem rcv_er {cs : List Cn} {s g : Int} (h : ¬ 0 < pls cs s g) (ch : Int) : (rcvF cs ch s g).er = 0 := by
  unfold rcvF
  rw [if_neg h]
  rcases cAt_cases cs ch with ⟨i, d, e1, hc, e⟩ | ⟨_, e⟩ <;> rw [e]
  · dsimp only
    unfold rcvI
    split <;> (try rfl)
    all_goals (split <;> (try rfl))
    all_goals (split <;> rfl)
  · rfl
theorem find_mem {α : Type} {p : α → Bool} {l : List α} {d : α} (h : (l.find? p).getD d ≠ d) : (l.find? p).getD d ∈ l ∧ p ((l.find? p).getD d) = true := by
  cases hf : l.find? p with
  | none => rw [hf] at h; exact (h rfl).elim
  | some x => exact ⟨List.mem_of_find?_eq_some hf, List.find?_some hf⟩
theorem fst1_mem {gz : Int → Bool → Bool} {ps : List Pk} {os : List Int} (h : fst1 gz ps os ≠ -1) : fst1 gz ps os ∈ os := by
  unfold fst1 at h ⊢
  exact (find_mem h).1
theorem fst1_goes {gz : Int → Bool → Bool} {ps : List Pk} {os : List Int} (h : fst1 gz ps os ≠ -1) : ∃ p, ps[(fst1 gz ps os).toNat]? = some p ∧ gz p.ch p.sd = true := by
  unfold fst1 at h
  have h2 := (find_mem h).2
  change (match ps[(fst1 gz ps os).toNat]? with | some p => gz p.ch p.sd | none => false) = true at h2
  cases hp : ps[(fst1 gz ps os).toNat]? with
  | none => rw [hp] at h2; cases h2
  | some p => rw [hp] at h2; exact ⟨p, rfl, h2⟩
theorem select_any {t : Nat → Tg} {w : World} {b N : Nat} {cs : List Cn} {s g : Int} (h : Cs t w b cs) (hG : Gd N cs) (hN : N + 16 < 4398046511104) (hk : Gok s g) (P Q : Nat → Prop) (v d : Value) (ps : List Pk) (df : Bool) (ds : List Int) (hps : Ls eP P w v ps) (hpP : ∀ q, P q → t q = .no) (hds : Ls eU Q w d ds) (hd : Dok ds) :
    Calls Try.prog 18 #[.pointer (some ⟨b, 0, none⟩), .agg #[.int .i64 s, .int .i64 g], v, .bool df, d] w (SoR t w b (selF cs s g ps df ds)) := by
  obtain ⟨ao, cap, rfl⟩ := hps.form
  obtain ⟨dp, dc, rfl⟩ := hds.form
  have hi := cs_hi h
  unfold selF
  by_cases h16 : 16 < ps.length
  · rw [if_pos h16]
    refine (sel_err (some ⟨b, 0, none⟩) ao _ cap df _ (er := 1) (by decide) (fun W _ => order_arg _ _ W (by omega))).mono ?_
    intro e w' q
    exact so_gr h q
  · rw [if_neg h16]
    by_cases hf : ds.length < ps.length
    · rw [if_pos hf]
      refine (sel_err (some ⟨b, 0, none⟩) ao _ cap df _ (er := 120) (by decide) (fun W _ => order_few _ _ dc dp W (by omega) hf)).mono ?_
      intro e w' q
      exact so_gr h q
    · rw [if_neg hf]
      have hO : ∀ W, Gr w W → Calls Try.prog 9 #[.int .i64 (ps.length : Int), .slice dp ds.length dc] W (OrR W ps.length (ord (ds.take ps.length))) := fun W p => order_ok Q W dp _ dc ds _ (hds.gr p) hd (by omega) (by omega)
      by_cases hp : 0 < pls cs s g
      · rw [if_pos hp]
        refine (sel_busy (some ⟨b, 0, none⟩) ao _ cap df _ _ hO (fun W p => (waits_any (h.gr p) hk).mono ?_)).mono ?_
        · rintro e w' ⟨rfl, q⟩
          exact ⟨by rw [decide_eq_true hp], q⟩
        · intro e w' q
          exact so_gr h q
      · rw [if_neg hp]
        have hWt : ∀ W, Gr w W → Calls Try.prog 28 #[.pointer (some ⟨b, 0, none⟩), .agg #[.int .i64 s, .int .i64 g]] W fun e w' => e = .returned (.bool false) ∧ Gr W w' := fun W p => (waits_any (h.gr p) hk).mono (by
          rintro e w' ⟨rfl, q⟩
          exact ⟨by rw [decide_eq_false hp], q⟩)
        have hGo : ∀ W, Gr w W → GoA (.pointer (some ⟨b, 0, none⟩)) W (gzF cs) (tzF cs) := fun W p V r ch sd => (goes_any (h.gr (Gr.trans p r)) hG.n ch sd).mono (by
          rintro e w' ⟨rfl, q⟩
          exact ⟨by rw [tzF_any]; rfl, q⟩)
        have hCa : ∀ W, Gr w W → Calls Try.prog 42 #[.pointer (some ⟨b, 0, none⟩), .slice ao ps.length cap] W fun e w' => e = .returned (.bool (ps.all (fun p => tzF cs p.ch == 0))) ∧ Gr W w' := fun W p => chall_any _ P W ao _ cap ps _ _ (hps.gr p) (by omega) (hGo W p)
        cases ha : ps.all (fun p => tzF cs p.ch == 0) with
        | false =>
          rw [if_neg (by simp)]
          rw [ha] at hCa
          exact (sel_trap (some ⟨b, 0, none⟩) ao _ cap df _ _ hO hWt hCa).mono (fun e w' q => so_gr h q)
        | true =>
          rw [if_pos rfl]
          rw [ha] at hCa
          have hol : (ord (ds.take ps.length)).length = ps.length := by rw [ord_len, List.length_take]; omega
          have hor : ∀ o ∈ ord (ds.take ps.length), 0 ≤ o ∧ o < (ps.length : Int) := fun o ho => by
            have := (ord_all (ds.take ps.length)).lt ho
            rw [hol] at this
            exact this
          have hFi : ∀ W, Gr w W → ∀ oo co, Ls eI (w.heap.size ≤ ·) W (.slice oo ps.length co) (ord (ds.take ps.length)) → Calls Try.prog 43 #[.pointer (some ⟨b, 0, none⟩), .slice ao ps.length cap, .slice oo ps.length co] W fun e w' => e = .returned (.int .i64 (fst1 (gzF cs) ps (ord (ds.take ps.length)))) ∧ Gr W w' := fun W p oo co l => first_any _ P _ W ao _ cap ps oo _ co _ _ _ (hps.gr p) l (by omega) hor (hGo W p)
          have hm := @fst1_mem (gzF cs) ps (ord (ds.take ps.length))
          obtain ⟨k, hkk⟩ : ∃ k, k = fst1 (gzF cs) ps (ord (ds.take ps.length)) := ⟨_, rfl⟩
          rw [← hkk] at hFi hm ⊢
          unfold selG
          by_cases hk1 : k = -1
          · subst hk1
            rw [if_pos rfl]
            cases df with
            | true =>
              rw [if_pos rfl]
              exact (sel_def (some ⟨b, 0, none⟩) ao _ cap _ _ hO hWt hCa hFi).mono (fun e w' q => so_gr h q)
            | false =>
              rw [if_neg (by simp)]
              refine (sel_wait hi ao _ cap _ _ hO hWt hCa hFi (fun W p => wfa_any (h.gr p) hG hN hk ao _ cap ps P (hps.gr p) hpP (by omega))).mono ?_
              rintro e w' ⟨h1, t', h2, h3⟩
              exact ⟨none, 0, 0, h1, Ls.nil _ _ _, t', h2, h3, fun _ h => (blk_none h).elim⟩
          · rw [if_neg hk1]
            obtain ⟨k0, k1⟩ := hor k (hm hk1)
            obtain ⟨k, rfl⟩ : ∃ j : Nat, k = (j : Int) := ⟨k.toNat, by omega⟩
            obtain ⟨⟨x0, x1, x2⟩, hx⟩ : ∃ x, ps[k]? = some x := ⟨_, List.getElem?_eq_getElem (by omega)⟩
            rw [Int.toNat_natCast, hx]
            dsimp only
            cases x0 with
            | true =>
              rw [if_pos rfl]
              have hS : ∀ W, Gr w W → ∀ V, Gr W V → Calls Try.prog 23 #[.pointer (some ⟨b, 0, none⟩), .int .i64 x1, .agg #[.int .i64 s, .int .i64 g], .int .i64 x2] V (MvR t V b (sndF cs x1 s g x2).cs (sndF cs x1 s g x2).wa (sndF cs x1 s g x2).va (sndF cs x1 s g x2).ok (sndF cs x1 s g x2).tr (sndF cs x1 s g x2).ks 0) := fun W p V r => (send_any (h.gr (Gr.trans p r)) hG (by omega) hk x1 x2).mono (fun e w' q => by unfold MvO at q; rw [snd_er hp] at q; exact q)
              refine (sel_goes ao _ cap ps df _ _ k true x1 x2 P hps hpP hx hi hO hWt hCa hFi (fun W p => carry_send (fun q hq => hi q (Nat.le_trans p.size hq)) (hS W p))).mono ?_
              rintro e w' ⟨mo, mn, mc, h1, h2, t', h3, h4, h5⟩
              exact ⟨mo, mn, mc, by rw [h1, snd_er hp], h2.lst, t', h3, h4, h5⟩
            | false =>
              rw [if_neg (by simp)]
              have hS : ∀ W, Gr w W → ∀ V, Gr W V → Calls Try.prog 25 #[.pointer (some ⟨b, 0, none⟩), .int .i64 x1, .agg #[.int .i64 s, .int .i64 g]] V (MvR t V b (rcvF cs x1 s g).cs (rcvF cs x1 s g).wa (rcvF cs x1 s g).va (rcvF cs x1 s g).ok (rcvF cs x1 s g).tr (rcvF cs x1 s g).ks 0) := fun W p V r => (recv_any (h.gr (Gr.trans p r)) hG (by omega) hk x1).mono (fun e w' q => by unfold MvO at q; rw [rcv_er hp] at q; exact q)
              refine (sel_goes ao _ cap ps df _ _ k false x1 x2 P hps hpP hx hi hO hWt hCa hFi (fun W p => carry_recv (fun q hq => hi q (Nat.le_trans p.size hq)) (hS W p))).mono ?_
              rintro e w' ⟨mo, mn, mc, h1, h2, t', h3, h4, h5⟩
              exact ⟨mo, mn, mc, by rw [h1, rcv_er hp], h2.lst, t', h3, h4, h5⟩
end Go.Proofs.Ytalmiphddgmfbaa.Lt

namespace Go.Proofs.Ytalmiphddgmfbaa.Lt
open Go.RowKit Wd
attribute [local go_sem ↓] Go.wp_at_zero Go.wp_at_succ

theorem rorder_arg (n : Int) (v : Value) (w : World) (h : ¬ (0 ≤ n ∧ n ≤ 16)) : Calls Try.prog 10 #[.int .i64 n, v] w fun e w' => e = .returned (.tuple #[.slice none 0 0, .int .i64 1]) ∧ w' = w := by
  by_cases h0 : n < 0
  · clear h
    go_enter Try.func10, Try.ntmps10
    go_wp2
    exact bodyPost_ret (v := .tuple #[.slice none 0 0, .int .i64 1]) (by simp [results, Try.results10, go_sem]) rfl ⟨rfl, rfl⟩
  · have h1 : 16 < n := by omega
    clear h
    go_enter Try.func10, Try.ntmps10
    go_wp2
    exact bodyPost_ret (v := .tuple #[.slice none 0 0, .int .i64 1]) (by simp [results, Try.results10, go_sem]) rfl ⟨rfl, rfl⟩
theorem rorder_few (n m cap : Nat) (ao : Option Addr) (w : World) (h : n ≤ 16) (hm : m < n) : Calls Try.prog 10 #[.int .i64 (n : Int), .slice ao m cap] w fun e w' => e = .returned (.tuple #[.slice none 0 0, .int .i64 120]) ∧ w' = w := by
  have d0 : ¬ (n : Int) < 0 := by omega
  have d1 : ¬ (16 : Int) < (n : Int) := by omega
  have d2 : (m : Int) < (n : Int) := by omega
  go_enter Try.func10, Try.ntmps10
  go_wp2
  exact bodyPost_ret (v := .tuple #[.slice none 0 0, .int .i64 120]) (by simp [results, Try.results10, go_sem]) rfl ⟨rfl, rfl⟩
/-- a step of Order in a list that grows -/
theorem so_ap (l : List Int) (d x : Int) (hx : (l ++ [(l.length : Int)])[(d % ((l.length : Int) + 1)).toNat]? = some x) :
    ((l ++ [(l.length : Int)]).set l.length x).set (d % ((l.length : Int) + 1)).toNat (l.length : Int) = so l d := by
  have hj := mod_lt l.length d
  unfold so
  generalize (d % ((l.length : Int) + 1)).toNat = j at hj hx ⊢
  have e1 : (l ++ [(l.length : Int)]).set l.length x = l ++ [x] := by
    rw [List.set_append_right _ _ (Nat.le_refl _), Nat.sub_self, List.set_cons_zero]
  rw [e1]
  by_cases h : j < l.length
  · rw [List.getElem?_append_left h] at hx
    rw [List.getD_eq_getElem?_getD, hx]
    rfl
  · have e : j = l.length := by omega
    subst e
    rw [List.set_append_right _ _ (Nat.le_refl _), List.set_append_right _ _ (Nat.le_refl _)]
    simp
theorem Ow.some1 {T base n cap : Nat} {ao : Option Addr} {w : World} {xs : List Int} (h : Ow eI 1 T base w (.slice ao n cap) xs) (hp : 0 < n) : ∃ g, ao = some ⟨g, 0, none⟩ ∧ base ≤ g := by
  have e := h.len.1
  obtain ⟨x, hx⟩ : ∃ x, xs[0]? = some x := ⟨_, List.getElem?_eq_getElem (by omega)⟩
  obtain ⟨g', cap', e, h1, -⟩ := h.get eI_len hx
  injection e with e1 e2 e3
  exact ⟨g', e1, h1⟩
set_option maxRecDepth 20000 in
set_option maxHeartbeats 4000000 in
theorem rorder_ok (P : Nat → Prop) (w : World) (ao : Option Addr) (m cap : Nat) (ds : List Int) (n : Nat) (h : Ls eU P w (.slice ao m cap) ds) (hd : Dok ds) (hn : n ≤ 16) (hm : n ≤ m) : Calls Try.prog 10 #[.int .i64 (n : Int), .slice ao m cap] w (OrR w n (ord (ds.take n))) := by
  have d0 : ¬ (n : Int) < 0 := by omega
  have d1 : ¬ (16 : Int) < (n : Int) := by omega
  have d2 : ¬ (m : Int) < (n : Int) := by omega
  have HL := hid h.len.1
  have HB := hid h
  have HD := hid hd
  clear h hd
  go_enter Try.func10, Try.ntmps10
  go_wp2_with fail
  go_loopg [6, 7] n (fun q v i wr => ∃ (j : Nat) (a : Option Addr) (c : Nat), j + q = n ∧ i = .int .i64 (j : Int) ∧ v = .slice a j c ∧ Ow eI 1 3 w.heap.size wr (.slice a j c) (ord (ds.take j)) ∧ Gr w wr)
  case atStart => exact ⟨0, none, 0, by omega, rfl, rfl, Ow.nil _ _ _ _ _, Gr.refl _⟩
  case round =>
    obtain ⟨j, a, c, hjk, rfl, rfl, hO, hG⟩ := hrel
    have HO := hid hO
    have HG := hid hG
    clear hO hG
    by_cases hj : j < n
    · obtain ⟨d, hx⟩ : ∃ x, ds[j]? = some x := ⟨_, List.getElem?_eq_getElem (by rw [← HL.out]; omega)⟩
      obtain ⟨gg, oo, cap', hv, _, hgl, _, hcs⟩ := (HB.out.gr HG.out).get eU_len hx
      injection hv with hv1 hv2 hv3
      subst hv1
      have c0 := hcs 0 _ rfl
      simp only [Nat.mul_one, Nat.add_zero] at c0
      have j0 : (0 : Int) ≤ (j : Int) := by omega
      have j1 : (j : Int) < (m : Int) := by omega
      have j2 : (j : Int) < (n : Int) := by omega
      have hdd := HD.out d (List.mem_of_getElem? hx)
      have hjj := mod_lt j d
      have hll : (ord (ds.take j)).length = j := by rw [ord_len, List.length_take]; have := HL.out; omega
      obtain ⟨jj, hjd⟩ : ∃ k, (d % ((j : Int) + 1)).toNat = k := ⟨_, rfl⟩
      rw [hjd] at hjj
      have dm : d.tmod ((j : Int) + 1) = (jj : Int) := by
        rw [Int.tmod_eq_emod_of_nonneg hdd.1]
        have := Int.emod_nonneg d (show ((j : Int) + 1) ≠ 0 by omega)
        omega
      have k0 : (0 : Int) ≤ (jj : Int) := by omega
      have k1 : (jj : Int) < ((j + 1 : Nat) : Int) := by omega
      have k2 : (j : Int) < ((j + 1 : Nat) : Int) := by omega
      have hT : ∀ x, (ord (ds.take j) ++ [(j : Int)])[jj]? = some x → ((ord (ds.take j) ++ [(j : Int)]).set j x).set jj (j : Int) = ord (ds.take (j + 1)) := fun x hxx => by
        rw [take_one hx, ord_snoc]
        have e := so_ap (ord (ds.take j)) d x (by rw [hll, hjd]; exact hxx)
        rw [hll, hjd] at e
        exact e
      have HT := hid hT
      have HLL := hid hll
      generalize ord (ds.take j) = zs at HO HT HLL
      clear hcs hv2 hv3 hx hdd hll hjd hT hgl
      have HS := hid HG.out.size
      go_upto_region 11 with (at_builtin; refine wpList_append_ow eI_len rfl (.tmp 33) (.tmp 35) _ 3 8 _ Try.underlying23 int_info rfl (by omega) rfl w.heap.size _ zs rfl (HO.out.alloc _) _ _ [(j : Int)] rfl (Ls.single wr (j : Int) 3 #[.int .i64 (j : Int)] rfl) (eI_one _) (j + 1) (by rw [HLL.out]; rfl) (by omega) (by unfold maxLen; omega) (by simp; have := HS.out; omega) (zs ++ [(j : Int)]) rfl ?_; intro ao5 cap5 w5 ow5 cw5 bl5; have O5 := hid ow5; have G5 := hid (show Gr w w5 from Ch.trans (Ch.alloc HG.out _) cw5 (fun q h => .inr (HO.out.blk h).1)); clear ow5 cw5 bl5)
      obtain ⟨g5, rfl, hg5⟩ := O5.out.some1 (by omega)
      have HG5 := hid hg5
      have hlen : (zs ++ [(j : Int)]).length = j + 1 := by rw [List.length_append, HLL.out]; rfl
      obtain ⟨x, hxx⟩ : ∃ x, (zs ++ [(j : Int)])[jj]? = some x := ⟨_, List.getElem?_eq_getElem (by rw [hlen]; omega)⟩
      obtain ⟨y, hyy⟩ : ∃ x, (zs ++ [(j : Int)])[j]? = some x := ⟨_, List.getElem?_eq_getElem (by rw [hlen]; omega)⟩
      obtain ⟨c1, g1, f1, -⟩ := O5.out.at1 hxx
      obtain ⟨c2, -, f2, s2⟩ := O5.out.at1 hyy
      have HO2 := hid (s2 x)
      have hzz : ∃ z, ((zs ++ [(j : Int)]).set j x)[jj]? = some z := ⟨_, List.getElem?_eq_getElem (by rw [List.length_set, hlen]; omega)⟩
      obtain ⟨z, hzz⟩ := hzz
      obtain ⟨c3, g3, f3, s3⟩ := HO2.out.at1 hzz
      have HN := hid (s3 (j : Int))
      have HT2 := hid (HT.out x hxx)
      clear hlen hxx hyy hzz s2 s3 hg5 c0 dm
      go_wp2_with fail
      go_roundg (gk - 1)
      case measure => omega
      case rel => exact ⟨j + 1, _, cap5, by omega, by simp, rfl, by rw [← HT2.out]; exact HN.out, Ch.fresh (Ch.fresh G5.out HG5.out _ _) HG5.out _ _⟩
    · have jn : ¬ (j : Int) < (n : Int) := by omega
      obtain rfl : j = n := by omega
      go_wp2
      exact bodyPost_ret (v := .tuple #[.slice a j c, .int .i64 0]) (by simp [results, Try.results10, go_sem]) rfl ⟨_, _, rfl, HO.out, HG.out⟩
end Go.Proofs.Ytalmiphddgmfbaa.Lt

namespace Go.Proofs.Ytalmiphddgmfbaa.Lt
open Go.RowKit Wd
attribute [local go_sem ↓] Go.wp_at_zero Go.wp_at_succ

abbrev nz : Array Value := #[.int .i64 (-1), .bool false, .bool false, .int .i64 0, .bool false, .int .i64 0, .slice none 0 0]
/-- what the document's Select tells -/
def RsR (P : Nat → Prop) (w : World) (r : So) (e : Ending) (w' : World) : Prop := ∃ v mo mn mc, e = .returned (.tuple #[v, .agg #[.int .i64 r.k, .bool r.df, .bool r.o.wa, .int .i64 r.o.va, .bool r.o.ok, .int .i64 r.o.tr, .slice mo mn mc], .int .i64 r.o.er]) ∧ Ls eK (w.heap.size ≤ ·) w' (.slice mo mn mc) r.o.ks ∧ Rds (fun q => P q ∨ w.heap.size ≤ q) w' v r.o.cs ∧ Gr w w'
/-- a block that holds what is told -/
structure Scz (A : Nat) (R : Array Value) (W : World) : Prop where
  bx : W.heap[A]? = some (.cells R 52 (0, 0))
theorem Scz.ch {A : Nat} {R : Array Value} {W W' : World} {S : Nat → Prop} (h : Scz A R W) (c : Ch S W W') (hn : ¬ S A) : Scz A R W' := ⟨(c.block _ (lt_of_block h.bx) hn).trans h.bx⟩
/-- a case's cells -/
structure Spk (gp o : Nat) (x0 : Bool) (x1 : Int) (W : World) : Prop where
  p0 : W.cell? ⟨gp, o, none⟩ = some (.bool x0)
  p1 : W.cell? ⟨gp, o + 1, none⟩ = some (.int .i64 x1)
  lt : gp < W.heap.size
theorem Spk.gr {gp o : Nat} {x0 : Bool} {x1 : Int} {W W' : World} (h : Spk gp o x0 x1 W) (g : Gr W W') : Spk gp o x0 x1 W' := ⟨(g.cell h.lt).trans h.p0, (g.cell h.lt).trans h.p1, Nat.lt_of_lt_of_le h.lt g.size⟩
/-- and one that is to wait -/
structure Spw (gp o : Nat) (x0 : Bool) (x1 : Int) (A : Nat) (R : Array Value) (W : World) : Prop where
  k : Spk gp o x0 x1 W
  bx : W.heap[A]? = some (.cells R 101 (0, 0))
theorem Spw.gr {gp o A : Nat} {x0 : Bool} {x1 : Int} {R : Array Value} {W W' : World} (h : Spw gp o x0 x1 A R W) (g : Gr W W') : Spw gp o x0 x1 A R W' := ⟨h.k.gr g, gr_blk h.bx g⟩
theorem set7 {w : World} {B : Nat} {x y a b c d e a' b' c' d' e' : Value} {T : TypeId} (h : w.heap[B]? = some (.cells #[x, y, a, b, c, d, e] T (0, 0))) :
    (((((w.setCell ⟨B, 2, none⟩ a').setCell ⟨B, 3, none⟩ b').setCell ⟨B, 4, none⟩ c').setCell ⟨B, 5, none⟩ d').setCell ⟨B, 6, none⟩ e').heap[B]? = some (.cells #[x, y, a', b', c', d', e'] T (0, 0)) := by
  have h1 : (w.setCell ⟨B, 2, none⟩ a').heap[B]? = some (.cells #[x, y, a', b, c, d, e] T (0, 0)) := by simpa using setCell_block h 2 a'
  have h2 : ((w.setCell ⟨B, 2, none⟩ a').setCell ⟨B, 3, none⟩ b').heap[B]? = some (.cells #[x, y, a', b', c, d, e] T (0, 0)) := by simpa using setCell_block h1 3 b'
  have h3 : (((w.setCell ⟨B, 2, none⟩ a').setCell ⟨B, 3, none⟩ b').setCell ⟨B, 4, none⟩ c').heap[B]? = some (.cells #[x, y, a', b', c', d, e] T (0, 0)) := by simpa using setCell_block h2 4 c'
  have h4 : ((((w.setCell ⟨B, 2, none⟩ a').setCell ⟨B, 3, none⟩ b').setCell ⟨B, 4, none⟩ c').setCell ⟨B, 5, none⟩ d').heap[B]? = some (.cells #[x, y, a', b', c', d', e] T (0, 0)) := by simpa using setCell_block h3 5 d'
  simpa using setCell_block h4 6 e'
theorem set7_ch (w : World) (B : Nat) (a' b' c' d' e' : Value) : Ch (Only B) w (((((w.setCell ⟨B, 2, none⟩ a').setCell ⟨B, 3, none⟩ b').setCell ⟨B, 4, none⟩ c').setCell ⟨B, 5, none⟩ d').setCell ⟨B, 6, none⟩ e') := (((((Ch.refl _ _).own _ _).own _ _).own _ _).own _ _).own _ _
set_option maxHeartbeats 4000000 in
set_option maxRecDepth 40000 in
theorem rsel_err (P : Nat → Prop) (w : World) (lo : Option Addr) (nl cl : Nat) (cs : List Cn) (s g : Int) (ao : Option Addr) (n cap : Nat) (ps : List Pk) (df : Bool) (dv : Value) (Q : Nat → Prop) (h : Rds P w (.slice lo nl cl) cs) (hps : Ls eP Q w (.slice ao n cap) ps) (er : Int) (her : er ≠ 0) (hO : ∀ W, Gr w W → Calls Try.prog 10 #[.int .i64 (n : Int), dv] W fun e w' => e = .returned (.tuple #[.slice none 0 0, .int .i64 er]) ∧ w' = W) : Calls Try.prog 19 #[.slice lo nl cl, .agg #[.int .i64 s, .int .i64 g], .slice ao n cap, .bool df, dv] w (RsR P w ⟨-1, false, ⟨cs, false, 0, false, 0, [], er⟩⟩) := by
  have HO := hid hO
  have e1 : (er == 0) = false := by simpa using her
  clear hO her
  have HR := hid h
  have HP := hid hps
  have HL := hid hps.len.1
  obtain ⟨W0, hW0⟩ : ∃ W0, W0 = ((w.alloc (.cells #[.int .i64 s, .int .i64 g] 38)).alloc (.cells cz 52)).alloc (.cells nz 52) := ⟨_, rfl⟩
  have G0 := hid (show Gr w W0 from by rw [hW0]; exact Ch.alloc (Ch.alloc (Ch.alloc (Gr.refl w) _) _) _)
  have B0 := hid (show W0.heap[w.heap.size]? = some (.cells #[.int .i64 s, .int .i64 g] 38 (0, 0)) from by rw [hW0]; exact al_blk (al_blk (MapKept.heap_alloc w _).1 _) _)
  have Z0 := hid (show W0.heap[w.heap.size + 1]? = some (.cells cz 52 (0, 0)) from by rw [hW0]; exact al_blk (al_at _ (by simp)) _)
  have N0 := hid (show W0.heap[w.heap.size + 2]? = some (.cells nz 52 (0, 0)) from by rw [hW0]; exact al_at _ (by simp))
  have HW0 := hid (show w.heap.size + 2 < W0.heap.size from lt_of_block N0.out)
  clear h hps
  go_enter Try.func19, Try.ntmps19
  go_upto_region 4 with (first
    | (go_at_call 10; rw [← hW0]; refine (HO.out _ G0.out).mono ?_; rintro e w1 ⟨rfl, hw1⟩; obtain ⟨w2, hw2⟩ : ∃ w2, w2 = W0 := ⟨_, rfl⟩; rw [hw1, ← hw2]; have GA := hid (show Gr W0 w2 from by rw [hw2]; exact Gr.refl _); clear hw1 hw2))
  clear hW0
  have hS0 : Scz (w.heap.size + 2) nz (World.drew w2) := ⟨gr_blk N0.out (Ch.drew GA.out)⟩
  have ZV := hid (show (World.drew w2).heap[w.heap.size + 1]? = some (.cells cz 52 (0, 0)) from gr_blk Z0.out (Ch.drew GA.out))
  have GV := hid (show Gr w (World.drew w2) from Ch.drew (Gr.trans G0.out GA.out))
  have HAA := hid (show w.heap.size + 1 < w.heap.size + 2 from by omega)
  refine wp_region_held_drew (S := Scz (w.heap.size + 2) nz) (by kernel_rfl) (by exact hS0) (fun _ => ?_)
  generalize World.drew w2 = V0 at hS0 ZV GV ⊢
  refine takeS_on (i := 0) 37 (v := ?hv1) rfl rfl (by kernel_rfl) (by kernel_rfl) (by kernel_rfl) (fun _ _ _ h => h) (by kernel_rfl) ?hh1 (by exact hS0) ?_
  case hh1 => (intro w' hSw; go_simp; try (with_reducible rfl))
  simp only [Act.put, List.setIfInBounds_toArray, List.set_cons_zero, List.set_cons_succ]
  refine takeS_on (i := 1) 38 (v := ?hv2) rfl rfl (by kernel_rfl) (by kernel_rfl) (by kernel_rfl) (fun _ _ _ h => h) (by kernel_rfl) ?hh2 (by exact hS0) ?_
  case hh2 => (intro w' hSw; refine Eq.trans (exec_row 52 (.tmp 13) rfl _ rfl _ _ _ _ hSw.bx Try.underlying52 rfl cho_size) ?_; with_reducible rfl)
  simp only [Act.put, List.setIfInBounds_toArray, List.set_cons_zero, List.set_cons_succ]
  refine takeS_on (i := 2) 39 (v := ?hv3) rfl rfl (by kernel_rfl) (by kernel_rfl) (by kernel_rfl) (fun _ _ _ h => h) (by kernel_rfl) ?hh3 (by exact hS0) ?_
  case hh3 => (intro w' hSw; go_simp; try (with_reducible rfl))
  simp only [Act.put, List.setIfInBounds_toArray, List.set_cons_zero, List.set_cons_succ]
  refine takeS_on (i := 3) 10 (v := ?hv4) rfl rfl (by kernel_rfl) (by kernel_rfl) (by kernel_rfl) (fun _ _ _ h => h) (by kernel_rfl) ?hh4 (by exact hS0) ?_
  case hh4 => (intro w' hSw; go_simp; try (with_reducible rfl))
  simp only [Act.put, List.setIfInBounds_toArray, List.set_cons_zero, List.set_cons_succ]
  refine wpAnyH_ready (rs := [4]) (by kernel_rfl) (by simp) (AllReadyH.cons rfl (fun K hK => ?_) AllReadyH.nil)
  rw [if_pos (by kernel_rfl)]
  refine op_rowC 52 (.tmp 11) (.tmp 38) rfl (w.heap.size + 1) _ rfl rfl _ _ ZV.out cho_size rfl (one_cho _ _ _ _ _ _ _ _ _) ?_
  intro w9 b9 k9
  have hS9 : Scz (w.heap.size + 2) nz w9 := hS0.ch k9 (fun e => by have e1 : (w.heap.size + 2) = w.heap.size + 1 := e; have := HAA.out; omega)
  have B9 := hid b9
  have K9 := hid k9
  clear b9 k9
  refine hK.out _ _ (by exact hS9) (fun _ => ?_)
  clear hK K
  refine takeS_on (i := 5) 12 (v := ?hv5) rfl rfl (by kernel_rfl) (by kernel_rfl) (by kernel_rfl) (fun _ _ _ h => h) (by kernel_rfl) ?hh5 (by exact hS9) ?_
  case hh5 => (intro w' hSw; go_simp; try (with_reducible rfl))
  simp only [Act.put, List.setIfInBounds_toArray]
  refine wpAnyH_done (by kernel_rfl) ?_ _
  go_wp2
  refine bodyPost_ret (results_tct rfl _ _ _ _ rfl (run_loadVar_row _ _ _ _ _ _ _ B9.out Try.underlying52 rfl cho_size)) rfl ?_
  exact ⟨_, none, 0, 0, rfl, Ls.nil _ _ _, (HR.out.gr (Ch.trans (show Ch NoB w V0 from GV.out) K9.out (fun q e => .inr (by have e1 : q = w.heap.size + 1 := e; omega)))).mono (fun _ _ p => .inl p), (Ch.trans (show Ch NoB w V0 from GV.out) K9.out (fun q e => .inr (by have e1 : q = w.heap.size + 1 := e; omega)))⟩

set_option maxHeartbeats 4000000 in
set_option maxRecDepth 40000 in
theorem rsel_busy (P : Nat → Prop) (w : World) (lo : Option Addr) (nl cl : Nat) (cs : List Cn) (s g : Int) (ao : Option Addr) (n cap : Nat) (ps : List Pk) (df : Bool) (dv : Value) (Q : Nat → Prop) (h : Rds P w (.slice lo nl cl) cs) (hps : Ls eP Q w (.slice ao n cap) ps) (l : List Int) (hb : Bd cs) (hn : cs.length ≤ 1024) (hp : 0 < pls cs s g) (hO : ∀ W, Gr w W → Calls Try.prog 10 #[.int .i64 (n : Int), dv] W (OrR W n l)) : Calls Try.prog 19 #[.slice lo nl cl, .agg #[.int .i64 s, .int .i64 g], .slice ao n cap, .bool df, dv] w (RsR P w ⟨-1, false, ⟨cs, false, 0, false, 0, [], 111⟩⟩) := by
  have HO := hid hO
  have HW := hid (fun (W : World) (p : Gr w W) => rwaits_any P W _ cs s g (h.gr p) hb (by omega))
  have HPL := hid (decide_eq_true hp)
  clear hO hp hn hb
  have HR := hid h
  have HP := hid hps
  have HL := hid hps.len.1
  obtain ⟨W0, hW0⟩ : ∃ W0, W0 = ((w.alloc (.cells #[.int .i64 s, .int .i64 g] 38)).alloc (.cells cz 52)).alloc (.cells nz 52) := ⟨_, rfl⟩
  have G0 := hid (show Gr w W0 from by rw [hW0]; exact Ch.alloc (Ch.alloc (Ch.alloc (Gr.refl w) _) _) _)
  have B0 := hid (show W0.heap[w.heap.size]? = some (.cells #[.int .i64 s, .int .i64 g] 38 (0, 0)) from by rw [hW0]; exact al_blk (al_blk (MapKept.heap_alloc w _).1 _) _)
  have Z0 := hid (show W0.heap[w.heap.size + 1]? = some (.cells cz 52 (0, 0)) from by rw [hW0]; exact al_blk (al_at _ (by simp)) _)
  have N0 := hid (show W0.heap[w.heap.size + 2]? = some (.cells nz 52 (0, 0)) from by rw [hW0]; exact al_at _ (by simp))
  have HW0 := hid (show w.heap.size + 2 < W0.heap.size from lt_of_block N0.out)
  clear h hps
  go_enter Try.func19, Try.ntmps19
  go_upto_region 7 with (first
    | (go_at_call 10; rw [← hW0]; refine (HO.out _ G0.out).mono ?_; rintro e w1 ⟨oo, co, rfl, o1, g1⟩; have G1 := hid g1; have O1 := hid o1; have B1 := hid (gr_blk B0.out g1); clear o1 g1)
    | (refine wpList_load_row rfl 38 (.tmp 6) rfl w.heap.size rfl _ _ _ _ B1.out Try.underlying38 rfl gid_size ?_)
    | (go_at_call 29; refine (HW.out _ (Gr.trans G0.out G1.out)).mono ?_; rw [HPL.out]; rintro e w2 ⟨rfl, g2⟩; have GA := hid (Gr.trans G1.out g2); have O2 := hid (O1.out.gr g2); clear g2))
  clear hW0
  have hS0 : Scz (w.heap.size + 2) nz (World.drew w2) := ⟨gr_blk N0.out (Ch.drew GA.out)⟩
  have ZV := hid (show (World.drew w2).heap[w.heap.size + 1]? = some (.cells cz 52 (0, 0)) from gr_blk Z0.out (Ch.drew GA.out))
  have GV := hid (show Gr w (World.drew w2) from Ch.drew (Gr.trans G0.out GA.out))
  have HAA := hid (show w.heap.size + 1 < w.heap.size + 2 from by omega)
  refine wp_region_held_drew (S := Scz (w.heap.size + 2) nz) (by kernel_rfl) (by exact hS0) (fun _ => ?_)
  generalize World.drew w2 = V0 at hS0 ZV GV ⊢
  refine takeS_on (i := 0) 44 (v := ?hv6) rfl rfl (by kernel_rfl) (by kernel_rfl) (by kernel_rfl) (fun _ _ _ h => h) (by kernel_rfl) ?hh6 (by exact hS0) ?_
  case hh6 => (intro w' hSw; go_simp; try (with_reducible rfl))
  simp only [Act.put, List.setIfInBounds_toArray, List.set_cons_zero, List.set_cons_succ]
  refine takeS_on (i := 1) 45 (v := ?hv7) rfl rfl (by kernel_rfl) (by kernel_rfl) (by kernel_rfl) (fun _ _ _ h => h) (by kernel_rfl) ?hh7 (by exact hS0) ?_
  case hh7 => (intro w' hSw; refine Eq.trans (exec_row 52 (.tmp 13) rfl _ rfl _ _ _ _ hSw.bx Try.underlying52 rfl cho_size) ?_; with_reducible rfl)
  simp only [Act.put, List.setIfInBounds_toArray, List.set_cons_zero, List.set_cons_succ]
  refine takeS_on (i := 2) 10 (v := ?hv8) rfl rfl (by kernel_rfl) (by kernel_rfl) (by kernel_rfl) (fun _ _ _ h => h) (by kernel_rfl) ?hh8 (by exact hS0) ?_
  case hh8 => (intro w' hSw; go_simp; try (with_reducible rfl))
  simp only [Act.put, List.setIfInBounds_toArray, List.set_cons_zero, List.set_cons_succ]
  refine wpAnyH_ready (rs := [3]) (by kernel_rfl) (by simp) (AllReadyH.cons rfl (fun K hK => ?_) AllReadyH.nil)
  rw [if_pos (by kernel_rfl)]
  refine op_rowC 52 (.tmp 11) (.tmp 45) rfl (w.heap.size + 1) _ rfl rfl _ _ ZV.out cho_size rfl (one_cho _ _ _ _ _ _ _ _ _) ?_
  intro w9 b9 k9
  have hS9 : Scz (w.heap.size + 2) nz w9 := hS0.ch k9 (fun e => by have e1 : (w.heap.size + 2) = w.heap.size + 1 := e; have := HAA.out; omega)
  have B9 := hid b9
  have K9 := hid k9
  clear b9 k9
  refine hK.out _ _ (by exact hS9) (fun _ => ?_)
  clear hK K
  refine takeS_on (i := 4) 12 (v := ?hv9) rfl rfl (by kernel_rfl) (by kernel_rfl) (by kernel_rfl) (fun _ _ _ h => h) (by kernel_rfl) ?hh9 (by exact hS9) ?_
  case hh9 => (intro w' hSw; go_simp; try (with_reducible rfl))
  simp only [Act.put, List.setIfInBounds_toArray]
  refine wpAnyH_done (by kernel_rfl) ?_ _
  go_wp2
  refine bodyPost_ret (results_tct rfl _ _ _ _ rfl (run_loadVar_row _ _ _ _ _ _ _ B9.out Try.underlying52 rfl cho_size)) rfl ?_
  exact ⟨_, none, 0, 0, rfl, Ls.nil _ _ _, (HR.out.gr (Ch.trans (show Ch NoB w V0 from GV.out) K9.out (fun q e => .inr (by have e1 : q = w.heap.size + 1 := e; omega)))).mono (fun _ _ p => .inl p), (Ch.trans (show Ch NoB w V0 from GV.out) K9.out (fun q e => .inr (by have e1 : q = w.heap.size + 1 := e; omega)))⟩

set_option maxHeartbeats 16000000 in
set_option maxRecDepth 40000 in
theorem rsel_walk (P : Nat → Prop) (w : World) (lo : Option Addr) (nl cl : Nat) (cs : List Cn) (s g : Int) (ao : Option Addr) (n cap : Nat) (ps : List Pk) (df : Bool) (dv : Value) (Q : Nat → Prop) (h : Rds P w (.slice lo nl cl) cs) (hps : Ls eP Q w (.slice ao n cap) ps) (N : Nat) (l : List Int) (hPl : ∀ q, P q → q < w.heap.size) (hG : Gd N cs) (hN : N + 16 < 4398046511104) (hk : Gok s g) (hn : n ≤ 16) (hp : ¬ 0 < pls cs s g) (hol : l.length = n) (hor : ∀ o ∈ l, 0 ≤ o ∧ o < (n : Int)) (hO : ∀ W, Gr w W → Calls Try.prog 10 #[.int .i64 (n : Int), dv] W (OrR W n l)) :
    Calls Try.prog 19 #[.slice lo nl cl, .agg #[.int .i64 s, .int .i64 g], .slice ao n cap, .bool df, dv] w (RsR P w (if ps.all (fun p => tzF cs p.ch == 0) = true then selG cs s g ps df (fst1 (gzF cs) ps l) else ⟨-1, false, ⟨cs, false, 0, false, 4, [], 0⟩⟩)) := by
  have HO := hid hO
  have HPL0 := hid hPl
  have HGD := hid hG
  have HWF := hid (hG.wf s g ps hk)
  have HPN := hid hp
  have HOL := hid hol
  have HOR := hid hor
  have HW := hid (fun (W : World) (p : Gr w W) => rwaits_any P W _ cs s g (h.gr p) (hG.bd (by omega)) hG.n)
  have HPL := hid (decide_eq_false hp)
  have HGO := hid (fun (W : World) (p : Gr w W) (ch : Int) (sd : Bool) => rgoes_any (h.gr p) hG.n ch sd)
  obtain ⟨RR, hRR⟩ : ∃ R, R = RsR P w (if ps.all (fun p => tzF cs p.ch == 0) = true then selG cs s g ps df (fst1 (gzF cs) ps l) else ⟨-1, false, ⟨cs, false, 0, false, 4, [], 0⟩⟩) := ⟨_, rfl⟩
  rw [← hRR]
  have HRR := hid hRR
  clear hRR hO hG hp hol hor hk hPl
  have HR := hid h
  have HP := hid hps
  have HL := hid hps.len.1
  obtain ⟨W0, hW0⟩ : ∃ W0, W0 = ((w.alloc (.cells #[.int .i64 s, .int .i64 g] 38)).alloc (.cells cz 52)).alloc (.cells nz 52) := ⟨_, rfl⟩
  have G0 := hid (show Gr w W0 from by rw [hW0]; exact Ch.alloc (Ch.alloc (Ch.alloc (Gr.refl w) _) _) _)
  have B0 := hid (show W0.heap[w.heap.size]? = some (.cells #[.int .i64 s, .int .i64 g] 38 (0, 0)) from by rw [hW0]; exact al_blk (al_blk (MapKept.heap_alloc w _).1 _) _)
  have Z0 := hid (show W0.heap[w.heap.size + 1]? = some (.cells cz 52 (0, 0)) from by rw [hW0]; exact al_blk (al_at _ (by simp)) _)
  have N0 := hid (show W0.heap[w.heap.size + 2]? = some (.cells nz 52 (0, 0)) from by rw [hW0]; exact al_at _ (by simp))
  have HW0 := hid (show w.heap.size + 2 < W0.heap.size from lt_of_block N0.out)
  clear h hps
  go_enter Try.func19, Try.ntmps19
  go_wp2_with (first
    | (go_at_call 10; rw [← hW0]; refine (HO.out _ G0.out).mono ?_; rintro e w1 ⟨oo, co, rfl, o1, g1⟩; have G1 := hid g1; have O1 := hid o1; have B1 := hid (gr_blk B0.out g1); clear o1 g1)
    | (refine wpList_load_row rfl 38 (.tmp 6) rfl w.heap.size rfl _ _ _ _ B1.out Try.underlying38 rfl gid_size ?_)
    | (go_at_call 29; refine (HW.out _ (Gr.trans G0.out G1.out)).mono ?_; rw [HPL.out]; rintro e w2 ⟨rfl, g2⟩; have GA := hid (Gr.trans G1.out g2); have O2 := hid (O1.out.gr g2); clear g2))
  clear hW0 B1 O1
  go_loopg [17] n (fun q i wr => ∃ (j : Nat), j + q = n ∧ i = .int .i64 (j : Int) ∧ (ps.take j).all (fun p => tzF cs p.ch == 0) = true ∧ Gr w2 wr)
  case atStart => exact ⟨0, by omega, rfl, rfl, Gr.refl _⟩
  case round =>
    obtain ⟨j, hjk, rfl, hT, hG⟩ := hrel
    have HT := hid hT
    have HG2 := hid hG
    have HG := hid (Gr.trans GA.out hG)
    clear hT hG
    by_cases hj : j < n
    · obtain ⟨⟨x0, x1, x2⟩, hx⟩ : ∃ x, ps[j]? = some x := ⟨_, List.getElem?_eq_getElem (by rw [← HL.out]; omega)⟩
      obtain ⟨gg, oo, cap', hv, _, hgl, _, hcs⟩ := (HP.out.gr (Gr.trans G0.out HG.out)).get eP_len hx
      injection hv with hv1 hv2 hv3
      subst hv1
      have c0 := hcs 0 _ rfl
      have c1 := hcs 1 _ rfl
      have c2 := hcs 2 _ rfl
      dsimp only [Nat.add_zero] at c0 c1 c2
      have j0 : (0 : Int) ≤ (j : Int) := by omega
      have j1 : (j : Int) < (n : Int) := by omega
      have HX := hid hx
      have HGL := hid hgl
      clear hcs hv2 hv3 hx hgl
      have HTK := hid (take_one HX.out)
      have C0 := hid c0
      have C1 := hid c1
      obtain ⟨z, hz⟩ : ∃ z, z = tzF cs x1 := ⟨_, rfl⟩
      have HZ := hid hz
      have hS0 : Spk gg (oo + j * 3) x0 x1 (World.drew wr) := ⟨C0.out, C1.out, HGL.out⟩
      have GW := hid (show Gr W0 (World.drew wr) from Ch.drew HG.out)
      have GV := hid (Gr.trans G0.out GW.out)
      have GX := hid (show Gr w2 (World.drew wr) from Ch.drew HG2.out)
      clear hz c0 c1 c2
      by_cases ez : z = 0
      · subst ez
        go_upto_region 11 with fail
        refine wp_region_held_drew (S := Spk gg (oo + j * 3) x0 x1) (by kernel_rfl) (by exact hS0) (fun _ => ?_)
        generalize World.drew wr = V0 at hS0 GV GW GX ⊢
        refine takeS_on (i := 0) 53 (v := ?hv14) rfl rfl (by kernel_rfl) (by kernel_rfl) (by kernel_rfl) (fun _ _ _ h => h) (by kernel_rfl) ?hh14 (by exact hS0) ?_
        case hh14 => (intro w' hSw; go_simp; try (with_reducible rfl))
        simp only [Act.put, List.setIfInBounds_toArray, List.set_cons_zero, List.set_cons_succ]
        refine takeS_on (i := 1) 54 (v := ?hv15) rfl rfl (by kernel_rfl) (by kernel_rfl) (by kernel_rfl) (fun _ _ _ h => h) (by kernel_rfl) ?hh15 (by exact hS0) ?_
        case hh15 => (intro w' hSw; go_simp; try (with_reducible rfl))
        simp only [Act.put, List.setIfInBounds_toArray, List.set_cons_zero, List.set_cons_succ]
        refine takeS_on (i := 2) 55 (v := ?hv16) rfl rfl (by kernel_rfl) (by kernel_rfl) (by kernel_rfl) (fun _ _ _ h => h) (by kernel_rfl) ?hh16 (by exact hS0) ?_
        case hh16 => (intro w' hSw; go_simp; try (with_reducible rfl))
        simp only [Act.put, List.setIfInBounds_toArray, List.set_cons_zero, List.set_cons_succ]
        refine takeS_on (i := 3) 56 (v := ?hv17) rfl rfl (by kernel_rfl) (by kernel_rfl) (by kernel_rfl) (fun _ _ _ h => h) (by kernel_rfl) ?hh17 (by exact hS0) ?_
        case hh17 => (intro w' hSw; go_simp; try (with_reducible rfl))
        simp only [Act.put, List.setIfInBounds_toArray, List.set_cons_zero, List.set_cons_succ]
        refine takeS_on (i := 4) 57 (v := ?hv18) rfl rfl (by kernel_rfl) (by kernel_rfl) (by kernel_rfl) (fun _ _ _ h => h) (by kernel_rfl) ?hh18 (by exact hS0) ?_
        case hh18 => (intro w' hSw; go_simp; try (with_reducible rfl))
        simp only [Act.put, List.setIfInBounds_toArray, List.set_cons_zero, List.set_cons_succ]
        refine takeS_on (i := 5) 58 (v := ?hv19) rfl rfl (by kernel_rfl) (by kernel_rfl) (by kernel_rfl) (fun _ _ _ h => h) (by kernel_rfl) ?hh19 (by exact hS0) ?_
        case hh19 => (intro w' hSw; have c0 := hSw.p0; have c1 := hSw.p1; go_simp; try (with_reducible rfl))
        simp only [Act.put, List.setIfInBounds_toArray, List.set_cons_zero, List.set_cons_succ]
        refine takeS_on (i := 6) 59 (v := ?hv20) rfl rfl (by kernel_rfl) (by kernel_rfl) (by kernel_rfl) (fun _ _ _ h => h) (by kernel_rfl) ?hh20 (by exact hS0) ?_
        case hh20 => (intro w' hSw; go_simp; try (with_reducible rfl))
        simp only [Act.put, List.setIfInBounds_toArray, List.set_cons_zero, List.set_cons_succ]
        refine takeS_on (i := 7) 60 (v := ?hv21) rfl rfl (by kernel_rfl) (by kernel_rfl) (by kernel_rfl) (fun _ _ _ h => h) (by kernel_rfl) ?hh21 (by exact hS0) ?_
        case hh21 => (intro w' hSw; go_simp; try (with_reducible rfl))
        simp only [Act.put, List.setIfInBounds_toArray, List.set_cons_zero, List.set_cons_succ]
        refine takeS_on (i := 8) 61 (v := ?hv22) rfl rfl (by kernel_rfl) (by kernel_rfl) (by kernel_rfl) (fun _ _ _ h => h) (by kernel_rfl) ?hh22 (by exact hS0) ?_
        case hh22 => (intro w' hSw; go_simp; try (with_reducible rfl))
        simp only [Act.put, List.setIfInBounds_toArray, List.set_cons_zero, List.set_cons_succ]
        refine takeS_on (i := 9) 62 (v := ?hv23) rfl rfl (by kernel_rfl) (by kernel_rfl) (by kernel_rfl) (fun _ _ _ h => h) (by kernel_rfl) ?hh23 (by exact hS0) ?_
        case hh23 => (intro w' hSw; go_simp; try (with_reducible rfl))
        simp only [Act.put, List.setIfInBounds_toArray, List.set_cons_zero, List.set_cons_succ]
        refine takeS_on (i := 10) 63 (v := ?hv24) rfl rfl (by kernel_rfl) (by kernel_rfl) (by kernel_rfl) (fun _ _ _ h => h) (by kernel_rfl) ?hh24 (by exact hS0) ?_
        case hh24 => (intro w' hSw; have c0 := hSw.p0; have c1 := hSw.p1; go_simp; try (with_reducible rfl))
        simp only [Act.put, List.setIfInBounds_toArray, List.set_cons_zero, List.set_cons_succ]
        refine wpAnyH_ready (rs := [11]) (by kernel_rfl) (by simp) (AllReadyH.cons rfl (fun K hK => ?_) AllReadyH.nil)
        go_simp
        refine (HGO.out _ GV.out x1 x0).mono ?_
        rw [tzF_any, ← HZ.out]
        rintro e w5 ⟨rfl, g5⟩
        have hS1 := hS0.gr g5
        have G5 := hid (Gr.trans GX.out g5)
        clear g5
        refine hK.out _ _ (by exact hS1) (fun _ => ?_)
        clear hK K
        refine takeS_on (i := 12) 52 (v := ?hv25) rfl rfl (by kernel_rfl) (by kernel_rfl) (by kernel_rfl) (fun _ _ _ h => h) (by kernel_rfl) ?hh25 (by exact hS1) ?_
        case hh25 => (intro w' hSw; go_simp; try (with_reducible rfl))
        simp only [Act.put, List.setIfInBounds_toArray, List.set_cons_zero, List.set_cons_succ]
        refine takeS_on (i := 13) 65 (v := ?hv26) rfl rfl (by kernel_rfl) (by kernel_rfl) (by kernel_rfl) (fun _ _ _ h => h) (by kernel_rfl) ?hh26 (by exact hS1) ?_
        case hh26 => (intro w' hSw; go_simp; try (with_reducible rfl))
        simp only [Act.put, List.setIfInBounds_toArray, List.set_cons_zero, List.set_cons_succ]
        refine takeS_on (i := 14) 66 (v := ?hv27) rfl rfl (by kernel_rfl) (by kernel_rfl) (by kernel_rfl) (fun _ _ _ h => h) (by kernel_rfl) ?hh27 (by exact hS1) ?_
        case hh27 => (intro w' hSw; go_simp; try (with_reducible rfl))
        simp only [Act.put, List.setIfInBounds_toArray, List.set_cons_zero, List.set_cons_succ]
        refine takeS_on (i := 15) 18 (v := ?hv28) rfl rfl (by kernel_rfl) (by kernel_rfl) (by kernel_rfl) (fun _ _ _ h => h) (by kernel_rfl) ?hh28 (by exact hS1) ?_
        case hh28 => (intro w' hSw; go_simp; try (with_reducible rfl))
        simp only [Act.put, List.setIfInBounds_toArray, List.set_cons_zero, List.set_cons_succ]
        refine takeS_on (i := 16) 19 (v := ?hv29) rfl rfl (by kernel_rfl) (by kernel_rfl) (by kernel_rfl) (fun _ _ _ h => h) (by kernel_rfl) ?hh29 (by exact hS1) ?_
        case hh29 => (intro w' hSw; go_simp; try (with_reducible rfl))
        simp only [Act.put, List.setIfInBounds_toArray, List.set_cons_zero, List.set_cons_succ]
        refine wpAnyH_done (by kernel_rfl) ?_ _

        go_wp2
        go_roundg (gk - 1)
        case measure => omega
        case rel =>
          refine ⟨j + 1, by omega, ?_, by rw [HTK.out, List.all_append, HT.out]; simp [← HZ.out], G5.out⟩
          first | with_reducible rfl | simp
      · have e1 : (z == 0) = false := by simpa using ez
        have HSEL := hid (show RR = RsR P w ⟨-1, false, ⟨cs, false, 0, false, 4, [], 0⟩⟩ from by
          rw [HRR.out, if_neg]
          rw [Bool.not_eq_true, List.all_eq_false]
          exact ⟨_, List.mem_of_getElem? HX.out, by rw [← HZ.out]; simpa using ez⟩)
        clear ez
        go_upto_region 11 with fail
        refine wp_region_held_drew (S := Spk gg (oo + j * 3) x0 x1) (by kernel_rfl) (by exact hS0) (fun _ => ?_)
        generalize World.drew wr = V0 at hS0 GV GW ⊢
        refine takeS_on (i := 0) 53 (v := ?hv30) rfl rfl (by kernel_rfl) (by kernel_rfl) (by kernel_rfl) (fun _ _ _ h => h) (by kernel_rfl) ?hh30 (by exact hS0) ?_
        case hh30 => (intro w' hSw; go_simp; try (with_reducible rfl))
        simp only [Act.put, List.setIfInBounds_toArray, List.set_cons_zero, List.set_cons_succ]
        refine takeS_on (i := 1) 54 (v := ?hv31) rfl rfl (by kernel_rfl) (by kernel_rfl) (by kernel_rfl) (fun _ _ _ h => h) (by kernel_rfl) ?hh31 (by exact hS0) ?_
        case hh31 => (intro w' hSw; go_simp; try (with_reducible rfl))
        simp only [Act.put, List.setIfInBounds_toArray, List.set_cons_zero, List.set_cons_succ]
        refine takeS_on (i := 2) 55 (v := ?hv32) rfl rfl (by kernel_rfl) (by kernel_rfl) (by kernel_rfl) (fun _ _ _ h => h) (by kernel_rfl) ?hh32 (by exact hS0) ?_
        case hh32 => (intro w' hSw; go_simp; try (with_reducible rfl))
        simp only [Act.put, List.setIfInBounds_toArray, List.set_cons_zero, List.set_cons_succ]
        refine takeS_on (i := 3) 56 (v := ?hv33) rfl rfl (by kernel_rfl) (by kernel_rfl) (by kernel_rfl) (fun _ _ _ h => h) (by kernel_rfl) ?hh33 (by exact hS0) ?_
        case hh33 => (intro w' hSw; go_simp; try (with_reducible rfl))
        simp only [Act.put, List.setIfInBounds_toArray, List.set_cons_zero, List.set_cons_succ]
        refine takeS_on (i := 4) 57 (v := ?hv34) rfl rfl (by kernel_rfl) (by kernel_rfl) (by kernel_rfl) (fun _ _ _ h => h) (by kernel_rfl) ?hh34 (by exact hS0) ?_
        case hh34 => (intro w' hSw; go_simp; try (with_reducible rfl))
        simp only [Act.put, List.setIfInBounds_toArray, List.set_cons_zero, List.set_cons_succ]
        refine takeS_on (i := 5) 58 (v := ?hv35) rfl rfl (by kernel_rfl) (by kernel_rfl) (by kernel_rfl) (fun _ _ _ h => h) (by kernel_rfl) ?hh35 (by exact hS0) ?_
        case hh35 => (intro w' hSw; have c0 := hSw.p0; have c1 := hSw.p1; go_simp; try (with_reducible rfl))
        simp only [Act.put, List.setIfInBounds_toArray, List.set_cons_zero, List.set_cons_succ]
        refine takeS_on (i := 6) 59 (v := ?hv36) rfl rfl (by kernel_rfl) (by kernel_rfl) (by kernel_rfl) (fun _ _ _ h => h) (by kernel_rfl) ?hh36 (by exact hS0) ?_
        case hh36 => (intro w' hSw; go_simp; try (with_reducible rfl))
        simp only [Act.put, List.setIfInBounds_toArray, List.set_cons_zero, List.set_cons_succ]
        refine takeS_on (i := 7) 60 (v := ?hv37) rfl rfl (by kernel_rfl) (by kernel_rfl) (by kernel_rfl) (fun _ _ _ h => h) (by kernel_rfl) ?hh37 (by exact hS0) ?_
        case hh37 => (intro w' hSw; go_simp; try (with_reducible rfl))
        simp only [Act.put, List.setIfInBounds_toArray, List.set_cons_zero, List.set_cons_succ]
        refine takeS_on (i := 8) 61 (v := ?hv38) rfl rfl (by kernel_rfl) (by kernel_rfl) (by kernel_rfl) (fun _ _ _ h => h) (by kernel_rfl) ?hh38 (by exact hS0) ?_
        case hh38 => (intro w' hSw; go_simp; try (with_reducible rfl))
        simp only [Act.put, List.setIfInBounds_toArray, List.set_cons_zero, List.set_cons_succ]
        refine takeS_on (i := 9) 62 (v := ?hv39) rfl rfl (by kernel_rfl) (by kernel_rfl) (by kernel_rfl) (fun _ _ _ h => h) (by kernel_rfl) ?hh39 (by exact hS0) ?_
        case hh39 => (intro w' hSw; go_simp; try (with_reducible rfl))
        simp only [Act.put, List.setIfInBounds_toArray, List.set_cons_zero, List.set_cons_succ]
        refine takeS_on (i := 10) 63 (v := ?hv40) rfl rfl (by kernel_rfl) (by kernel_rfl) (by kernel_rfl) (fun _ _ _ h => h) (by kernel_rfl) ?hh40 (by exact hS0) ?_
        case hh40 => (intro w' hSw; have c0 := hSw.p0; have c1 := hSw.p1; go_simp; try (with_reducible rfl))
        simp only [Act.put, List.setIfInBounds_toArray, List.set_cons_zero, List.set_cons_succ]
        refine wpAnyH_ready (rs := [11]) (by kernel_rfl) (by simp) (AllReadyH.cons rfl (fun K hK => ?_) AllReadyH.nil)
        go_simp
        refine (HGO.out _ GV.out x1 x0).mono ?_
        rw [tzF_any, ← HZ.out]
        rintro e w5 ⟨rfl, g5⟩
        have hS1 := hS0.gr g5
        have G5 := hid (Gr.trans GW.out g5)
        clear g5
        refine hK.out _ _ (by exact hS1) (fun _ => ?_)
        clear hK K
        refine takeS_on (i := 12) 52 (v := ?hv41) rfl rfl (by kernel_rfl) (by kernel_rfl) (by kernel_rfl) (fun _ _ _ h => h) (by kernel_rfl) ?hh41 (by exact hS1) ?_
        case hh41 => (intro w' hSw; go_simp; try (with_reducible rfl))
        simp only [Act.put, List.setIfInBounds_toArray, List.set_cons_zero, List.set_cons_succ]
        refine takeS_on (i := 13) 65 (v := ?hv42) rfl rfl (by kernel_rfl) (by kernel_rfl) (by kernel_rfl) (fun _ _ _ h => h) (by kernel_rfl) ?hh42 (by exact hS1) ?_
        case hh42 => (intro w' hSw; go_simp; try (with_reducible rfl))
        simp only [Act.put, List.setIfInBounds_toArray, List.set_cons_zero, List.set_cons_succ]
        refine takeS_on (i := 14) 66 (v := ?hv43) rfl rfl (by kernel_rfl) (by kernel_rfl) (by kernel_rfl) (fun _ _ _ h => h) (by kernel_rfl) ?hh43 (by exact hS1) ?_
        case hh43 => (intro w' hSw; go_simp; try (with_reducible rfl))
        simp only [Act.put, List.setIfInBounds_toArray, List.set_cons_zero, List.set_cons_succ]
        refine takeS_on (i := 15) 18 (v := ?hv44) rfl rfl (by kernel_rfl) (by kernel_rfl) (by kernel_rfl) (fun _ _ _ h => h) (by kernel_rfl) ?hh44 (by exact hS1) ?_
        case hh44 => (intro w' hSw; go_simp; try (with_reducible rfl))
        simp only [Act.put, List.setIfInBounds_toArray, List.set_cons_zero, List.set_cons_succ]
        refine takeS_on (i := 16) 19 (v := ?hv45) rfl rfl (by kernel_rfl) (by kernel_rfl) (by kernel_rfl) (fun _ _ _ h => h) (by kernel_rfl) ?hh45 (by exact hS1) ?_
        case hh45 => (intro w' hSw; go_simp; try (with_reducible rfl))
        simp only [Act.put, List.setIfInBounds_toArray, List.set_cons_zero, List.set_cons_succ]
        refine wpAnyH_done (by kernel_rfl) ?_ _

        have q5 := cell_of (gr_blk N0.out G5.out) 5
        have f5 := frozen_of (gr_blk N0.out G5.out) 5
        have l5 := lt_of_block (gr_blk N0.out G5.out)
        simp at q5
        go_upto_region 14 with fail
        obtain ⟨W7, hW7⟩ : ∃ W, W = w5.setCell ⟨w.heap.size + 2, 5, none⟩ (.int .i64 4) := ⟨_, rfl⟩
        have N7 := hid (show W7.heap[w.heap.size + 2]? = some (.cells #[.int .i64 (-1), .bool false, .bool false, .int .i64 0, .bool false, .int .i64 4, .slice none 0 0] 52 (0, 0)) from by rw [hW7]; simpa using setCell_block (gr_blk N0.out G5.out) 5 (.int .i64 4))
        have K7 := hid (show Ch (Only (w.heap.size + 2)) w5 W7 from by rw [hW7]; exact (Ch.refl _ _).own _ _)
        rw [← hW7]
        clear hW7 q5 f5
        have ZW := hid ((K7.out.block _ (lt_of_block (gr_blk Z0.out G5.out)) (fun e => by have e1 : w.heap.size + 1 = w.heap.size + 2 := e; omega)).trans (gr_blk Z0.out G5.out))
        have hS0 : Scz (w.heap.size + 2) #[.int .i64 (-1), .bool false, .bool false, .int .i64 0, .bool false, .int .i64 4, .slice none 0 0] (World.drew W7) := ⟨N7.out⟩
        have ZV := hid (show (World.drew W7).heap[w.heap.size + 1]? = some (.cells cz 52 (0, 0)) from ZW.out)
        have GV := hid (show Gr w (World.drew W7) from Ch.drew (Ch.trans (show Ch NoB w w5 from Gr.trans G0.out G5.out) K7.out (fun q e => .inr (by have e1 : q = w.heap.size + 2 := e; omega))))
        have HAA := hid (show w.heap.size + 1 < w.heap.size + 2 from by omega)
        refine wp_region_held_drew (S := Scz (w.heap.size + 2) #[.int .i64 (-1), .bool false, .bool false, .int .i64 0, .bool false, .int .i64 4, .slice none 0 0]) (by kernel_rfl) (by exact hS0) (fun _ => ?_)
        generalize World.drew W7 = V0 at hS0 ZV GV ⊢
        refine takeS_on (i := 0) 71 (v := ?hv10) rfl rfl (by kernel_rfl) (by kernel_rfl) (by kernel_rfl) (fun _ _ _ h => h) (by kernel_rfl) ?hh10 (by exact hS0) ?_
        case hh10 => (intro w' hSw; go_simp; try (with_reducible rfl))
        simp only [Act.put, List.setIfInBounds_toArray, List.set_cons_zero, List.set_cons_succ]
        refine takeS_on (i := 1) 72 (v := ?hv11) rfl rfl (by kernel_rfl) (by kernel_rfl) (by kernel_rfl) (fun _ _ _ h => h) (by kernel_rfl) ?hh11 (by exact hS0) ?_
        case hh11 => (intro w' hSw; refine Eq.trans (exec_row 52 (.tmp 13) rfl _ rfl _ _ _ _ hSw.bx Try.underlying52 rfl cho_size) ?_; with_reducible rfl)
        simp only [Act.put, List.setIfInBounds_toArray, List.set_cons_zero, List.set_cons_succ]
        refine takeS_on (i := 2) 10 (v := ?hv12) rfl rfl (by kernel_rfl) (by kernel_rfl) (by kernel_rfl) (fun _ _ _ h => h) (by kernel_rfl) ?hh12 (by exact hS0) ?_
        case hh12 => (intro w' hSw; go_simp; try (with_reducible rfl))
        simp only [Act.put, List.setIfInBounds_toArray, List.set_cons_zero, List.set_cons_succ]
        refine wpAnyH_ready (rs := [3]) (by kernel_rfl) (by simp) (AllReadyH.cons rfl (fun K hK => ?_) AllReadyH.nil)
        rw [if_pos (by kernel_rfl)]
        refine op_rowC 52 (.tmp 11) (.tmp 72) rfl (w.heap.size + 1) _ rfl rfl _ _ ZV.out cho_size rfl (one_cho _ _ _ _ _ _ _ _ _) ?_
        intro w9 b9 k9
        have hS9 : Scz (w.heap.size + 2) #[.int .i64 (-1), .bool false, .bool false, .int .i64 0, .bool false, .int .i64 4, .slice none 0 0] w9 := hS0.ch k9 (fun e => by have e1 : (w.heap.size + 2) = w.heap.size + 1 := e; have := HAA.out; omega)
        have B9 := hid b9
        have K9 := hid k9
        clear b9 k9
        refine hK.out _ _ (by exact hS9) (fun _ => ?_)
        clear hK K
        refine takeS_on (i := 4) 12 (v := ?hv13) rfl rfl (by kernel_rfl) (by kernel_rfl) (by kernel_rfl) (fun _ _ _ h => h) (by kernel_rfl) ?hh13 (by exact hS9) ?_
        case hh13 => (intro w' hSw; go_simp; try (with_reducible rfl))
        simp only [Act.put, List.setIfInBounds_toArray]
        refine wpAnyH_done (by kernel_rfl) ?_ _
        go_wp2
        refine bodyPost_ret (results_tct rfl _ _ _ _ rfl (run_loadVar_row _ _ _ _ _ _ _ B9.out Try.underlying52 rfl cho_size)) rfl ?_
        rw [HSEL.out]
        exact ⟨_, none, 0, 0, rfl, Ls.nil _ _ _, (HR.out.gr (Ch.trans (show Ch NoB w V0 from GV.out) K9.out (fun q e => .inr (by have e1 : q = w.heap.size + 1 := e; omega)))).mono (fun _ _ p => .inl p), (Ch.trans (show Ch NoB w V0 from GV.out) K9.out (fun q e => .inr (by have e1 : q = w.heap.size + 1 := e; omega)))⟩

    · have jn : ¬ (j : Int) < (n : Int) := by omega
      have HSL := hid (show RR = RsR P w (selG cs s g ps df (fst1 (gzF cs) ps l)) from by
        rw [HRR.out, if_pos]
        have := HT.out
        rwa [List.take_of_length_le (by rw [← HL.out]; omega)] at this)
      have OW := hid (O2.out.gr HG2.out)
      have GB := hid HG.out
      clear HG HG2 HT O2 GA G1 HW
      go_wp2_with fail
      go_loopg [0, 20] n (fun q v0 i wr => ∃ (j : Nat), j + q = n ∧ v0 = .slice lo nl cl ∧ i = .int .i64 (j : Int) ∧ (l.take j).find? (fun o => match ps[o.toNat]? with | some p => gzF cs p.ch p.sd | none => false) = none ∧ Gr W0 wr ∧ Ls eI (0 ≤ ·) wr (.slice oo n co) l)
      case atStart => exact ⟨0, by omega, rfl, rfl, rfl, GB.out, OW.out.lst.mono (fun _ _ _ => Nat.zero_le _)⟩
      case round =>
        clear hjk hj jn OW GB
        obtain ⟨j, hjk, rfl, rfl, hF, hG, hOl⟩ := hrel
        have HF := hid hF
        have HG := hid hG
        have HOL2 := hid hOl
        clear hF hG hOl
        by_cases hj : j < n
        · obtain ⟨k, hy⟩ : ∃ x, l[j]? = some x := ⟨_, List.getElem?_eq_getElem (by rw [HOL.out]; exact hj)⟩
          obtain ⟨gq, oq, capq, hvq, _, hgq, _, hcq⟩ := HOL2.out.get eI_len hy
          injection hvq with hvq1 hvq2 hvq3
          subst hvq1
          have hoo := HOR.out k (List.mem_of_getElem? hy)
          obtain ⟨k, rfl⟩ : ∃ i : Nat, k = (i : Int) := ⟨k.toNat, by omega⟩
          have hkn : k < n := by omega
          obtain ⟨⟨x0, x1, x2⟩, hx⟩ : ∃ x, ps[k]? = some x := ⟨_, List.getElem?_eq_getElem (by rw [← HL.out]; omega)⟩
          obtain ⟨gg, op, cap', hv, _, hgl, _, hcs⟩ := (HP.out.gr (Gr.trans G0.out HG.out)).get eP_len hx
          injection hv with hv1 hv2 hv3
          subst hv1
          have d0 := hcq 0 _ rfl
          simp only [Nat.mul_one, Nat.add_zero] at d0
          have c0 := hcs 0 _ rfl
          have c1 := hcs 1 _ rfl
          have c2 := hcs 2 _ rfl
          dsimp only [Nat.add_zero] at c0 c1 c2
          have j0 : (0 : Int) ≤ (j : Int) := by omega
          have j1 : (j : Int) < (n : Int) := by omega
          have k0 : (0 : Int) ≤ (k : Int) := by omega
          have k1 : (k : Int) < (n : Int) := by omega
          have HY := hid hy
          have HX := hid hx
          have HKT := hid (show (k : Int).toNat = k from Int.toNat_natCast k)
          obtain ⟨z, hz⟩ : ∃ z, z = gzF cs x1 x0 := ⟨_, rfl⟩
          have HZ := hid hz
          obtain ⟨W4, hW4⟩ : ∃ W, W = wr.alloc (.cells #[.bool x0, .int .i64 x1, .int .i64 x2] 80) := ⟨_, rfl⟩
          have G4 := hid (show Gr wr W4 from by rw [hW4]; exact Ch.alloc (Gr.refl wr) _)
          have PK4 := hid (show W4.heap[wr.heap.size]? = some (.cells #[.bool x0, .int .i64 x1, .int .i64 x2] 80 (0, 0)) from by rw [hW4]; exact (MapKept.heap_alloc wr _).1)
          have HGQ := hid hgq
          have HD0 := hid d0
          clear hcq hvq2 hvq3 hy hgq hcs hv2 hv3 hx hgl hoo hz
          cases z with
          | false =>
            have HF2 := hid (fst1_step HF.out HY.out (by rw [HKT.out]; exact HX.out) HZ.out.symm)
            go_wp2_with (go_at_call 46; rw [← hW4]; refine (HGO.out _ (Gr.trans G0.out (Gr.trans HG.out G4.out)) x1 x0).mono ?_; rw [tzF_any]; change ∀ _ _, _ = Ending.returned (.tuple #[.bool (gzF cs x1 x0), _]) ∧ _ → _; rw [← HZ.out]; rintro e w5 ⟨rfl, g5⟩; have G5 := hid (Gr.trans G4.out g5); clear g5)
            go_roundg (gk - 1)
            case measure => omega
            case rel =>
              refine ⟨j + 1, by omega, rfl, ?_, HF2.out, Gr.trans HG.out G5.out, HOL2.out.gr G5.out⟩
              first | with_reducible rfl | simp
          | true =>
            have HFS := hid (fst1_yes HF.out HY.out (by rw [HKT.out]; exact HX.out) HZ.out.symm)
            have HPL := hid (show ∀ q, P q → q < w.heap.size from HPL0.out)
            cases x0 with
            | true =>
              have HSEL := hid (show RR = RsR P w (selG cs s g ps df (k : Int)) from by rw [HSL.out, HFS.out])
              have HSF := hid (show selG cs s g ps df (k : Int) = ⟨(k : Int), false, sndF cs x1 s g x2⟩ from by unfold selG; rw [if_neg (by omega), HKT.out, HX.out]; rfl)
              clear HFS HSL
              go_upto_region 22 with (go_at_call 46; rw [← hW4]; refine (HGO.out _ (Gr.trans G0.out (Gr.trans HG.out G4.out)) x1 true).mono ?_; rw [tzF_any]; change ∀ _ _, _ = Ending.returned (.tuple #[.bool (gzF cs x1 true), _]) ∧ _ → _; rw [← HZ.out]; rintro e w5 ⟨rfl, g5⟩; have G5 := hid (Gr.trans HG.out (Gr.trans G4.out g5)); have PK := hid (gr_blk PK4.out g5); have d9 := ((Gr.trans G4.out g5).cell HGQ.out).trans HD0.out; clear g5)
              obtain ⟨W6, hW6⟩ : ∃ W, W = w5.alloc (.cells #[.int .i64 (k : Int), .bool false, .bool false, .int .i64 0, .bool false, .int .i64 0, .slice none 0 0] 52) := ⟨_, rfl⟩
              have G6 := hid (show Gr W0 W6 from by rw [hW6]; exact Ch.alloc G5.out _)
              have A6 := hid (show W6.heap[w5.heap.size]? = some (.cells #[.int .i64 (k : Int), .bool false, .bool false, .int .i64 0, .bool false, .int .i64 0, .slice none 0 0] 52 (0, 0)) from by rw [hW6]; exact (MapKept.heap_alloc w5 _).1)
              have B6 := hid (gr_blk B0.out G6.out)
              have P6 := hid (gr_blk PK.out (show Gr w5 W6 from by rw [hW6]; exact Ch.alloc (Gr.refl w5) _))
              obtain ⟨o, ho⟩ : ∃ o, o = (sndF cs x1 s g x2) := ⟨_, rfl⟩
              have HO2 := hid ho
              have HSN := hid (rsend_any _ W6 _ cs N x1 s g x2 (HR.out.gr (Gr.trans G0.out G6.out)) HGD.out (by omega))
              rw [← ho] at HSN
              have HER := hid (show o.er = 0 from by rw [ho]; exact snd_er HPN.out _ _)
              rw [hW6] at HSN B6 P6
              clear ho
              have q0 := cell_of P6.out 0
              have q1 := cell_of P6.out 1
              have q2 := cell_of P6.out 2
              have lq := lt_of_block P6.out
              simp at q0 q1 q2 lq
              go_upto_region 25 with (first
                | (refine wpList_load_row rfl 38 (.tmp 6) rfl w.heap.size rfl _ _ _ _ B6.out Try.underlying38 rfl gid_size ?_)
                | (go_at_call 24; refine HSN.out.mono ?_; rintro e w7 ⟨v7, mo, mn, mc, rfl, lk7, rd7, g7⟩; rw [← hW6] at lk7 rd7 g7; have LK7 := hid lk7; have RD7 := hid rd7; have G7 := hid g7; have A7 := hid (gr_blk A6.out g7); have f2 := frozen_of (gr_blk A6.out g7) 2; have f3 := frozen_of (gr_blk A6.out g7) 3; have f4 := frozen_of (gr_blk A6.out g7) 4; have f5 := frozen_of (gr_blk A6.out g7) 5; have f6 := frozen_of (gr_blk A6.out g7) 6; have d2 := cell_of (gr_blk A6.out g7) 2; have d3 := cell_of (gr_blk A6.out g7) 3; have d4 := cell_of (gr_blk A6.out g7) 4; have d5 := cell_of (gr_blk A6.out g7) 5; have d6 := cell_of (gr_blk A6.out g7) 6; have ld := lt_of_block (gr_blk A6.out g7); simp at d2 d3 d4 d5 d6; clear lk7 rd7 g7))
              obtain ⟨W8, hW8⟩ : ∃ W, W = ((((w7.setCell ⟨w5.heap.size, 2, none⟩ (.bool o.wa)).setCell ⟨w5.heap.size, 3, none⟩ (.int .i64 o.va)).setCell ⟨w5.heap.size, 4, none⟩ (.bool o.ok)).setCell ⟨w5.heap.size, 5, none⟩ (.int .i64 o.tr)).setCell ⟨w5.heap.size, 6, none⟩ (.slice mo mn mc) := ⟨_, rfl⟩
              have N8 := hid (show W8.heap[w5.heap.size]? = some (.cells #[.int .i64 (k : Int), .bool false, .bool o.wa, .int .i64 o.va, .bool o.ok, .int .i64 o.tr, .slice mo mn mc] 52 (0, 0)) from by rw [hW8]; exact set7 A7.out)
              have K8 := hid (show Ch (Only w5.heap.size) w7 W8 from by rw [hW8]; exact set7_ch _ _ _ _ _ _ _)
              rw [← hW8]
              clear hW8 hW6 q0 q1 q2 lq d2 d3 d4 d5 d6 f2 f3 f4 f5 f6 ld
              have S5 := hid (show w.heap.size + 3 ≤ w5.heap.size from by have h1 := G5.out.size; have h2 := lt_of_block N0.out; omega)
              have S6 := hid (show w5.heap.size < W6.heap.size from lt_of_block A6.out)
              have GF := hid (show Gr w W8 from Ch.trans (show Ch NoB w w7 from Gr.trans (Gr.trans G0.out G6.out) G7.out) K8.out (fun q e => .inr (by have e1 : q = w5.heap.size := e; have := S5.out; omega)))
              have ZW := hid ((K8.out.block _ (lt_of_block (gr_blk Z0.out (Gr.trans G6.out G7.out))) (fun e => by have e1 : w.heap.size + 1 = w5.heap.size := e; have := S5.out; omega)).trans (gr_blk Z0.out (Gr.trans G6.out G7.out)))
              have LK8 := hid (show Ls eK (fun q => W6.heap.size ≤ q) W8 (.slice mo mn mc) o.ks from LK7.out.ch K8.out (fun q _ hq e => by have e1 : q = w5.heap.size := e; have := S6.out; omega))
              have RD8 := hid (show Rds (fun q => (P q ∨ w.heap.size ≤ q) ∧ q ≠ w5.heap.size ∧ q ≠ w.heap.size + 1) W8 v7 o.cs from (RD7.out.mono (Q := fun q => (P q ∨ w.heap.size ≤ q) ∧ q ≠ w5.heap.size ∧ q ≠ w.heap.size + 1) (fun q hq hp => by
                rcases hp with hp | hp
                · have h1 := HPL.out q hp
                  have := S5.out
                  exact ⟨.inl hp, by omega, by omega⟩
                · have := S6.out
                  have := S5.out
                  exact ⟨.inr (by omega), by omega, by omega⟩)).ch K8.out (fun q _ hq e => hq.2.1 e))
              have hS0 : Scz w5.heap.size #[.int .i64 (k : Int), .bool false, .bool o.wa, .int .i64 o.va, .bool o.ok, .int .i64 o.tr, .slice mo mn mc] (World.drew W8) := ⟨N8.out⟩
              have ZV := hid (show (World.drew W8).heap[w.heap.size + 1]? = some (.cells cz 52 (0, 0)) from ZW.out)
              have GV := hid (show Gr w (World.drew W8) from Ch.drew GF.out)
              have HAA := hid (show w.heap.size + 1 < w5.heap.size from by have := S5.out; omega)
              have LKV := hid (LK8.out.gr (Ch.drew (Gr.refl W8)))
              have RDV := hid (RD8.out.gr (Ch.drew (Gr.refl W8)))
              have HS6 := hid (show w.heap.size + 3 ≤ W6.heap.size from by have := S5.out; have := S6.out; omega)
              refine wp_region_held_drew (S := Scz w5.heap.size #[.int .i64 (k : Int), .bool false, .bool o.wa, .int .i64 o.va, .bool o.ok, .int .i64 o.tr, .slice mo mn mc]) (by kernel_rfl) (by exact hS0) (fun _ => ?_)
              generalize World.drew W8 = V0 at hS0 ZV GV LKV RDV ⊢
              refine takeS_on (i := 0) 126 (v := ?hv46) rfl rfl (by kernel_rfl) (by kernel_rfl) (by kernel_rfl) (fun _ _ _ h => h) (by kernel_rfl) ?hh46 (by exact hS0) ?_
              case hh46 => (intro w' hSw; go_simp; try (with_reducible rfl))
              simp only [Act.put, List.setIfInBounds_toArray, List.set_cons_zero, List.set_cons_succ]
              refine takeS_on (i := 1) 127 (v := ?hv47) rfl rfl (by kernel_rfl) (by kernel_rfl) (by kernel_rfl) (fun _ _ _ h => h) (by kernel_rfl) ?hh47 (by exact hS0) ?_
              case hh47 => (intro w' hSw; refine Eq.trans (exec_row 52 (.tmp 24) rfl _ rfl _ _ _ _ hSw.bx Try.underlying52 rfl cho_size) ?_; with_reducible rfl)
              simp only [Act.put, List.setIfInBounds_toArray, List.set_cons_zero, List.set_cons_succ]
              refine takeS_on (i := 2) 10 (v := ?hv48) rfl rfl (by kernel_rfl) (by kernel_rfl) (by kernel_rfl) (fun _ _ _ h => h) (by kernel_rfl) ?hh48 (by exact hS0) ?_
              case hh48 => (intro w' hSw; go_simp; try (with_reducible rfl))
              simp only [Act.put, List.setIfInBounds_toArray, List.set_cons_zero, List.set_cons_succ]
              refine wpAnyH_ready (rs := [3]) (by kernel_rfl) (by simp) (AllReadyH.cons rfl (fun K hK => ?_) AllReadyH.nil)
              rw [if_pos (by kernel_rfl)]
              refine op_rowC 52 (.tmp 11) (.tmp 127) rfl (w.heap.size + 1) _ rfl rfl _ _ ZV.out cho_size rfl (one_cho _ _ _ _ _ _ _ _ _) ?_
              intro w9 b9 k9
              have hS9 : Scz w5.heap.size #[.int .i64 (k : Int), .bool false, .bool o.wa, .int .i64 o.va, .bool o.ok, .int .i64 o.tr, .slice mo mn mc] w9 := hS0.ch k9 (fun e => by have e1 : w5.heap.size = w.heap.size + 1 := e; have := HAA.out; omega)
              have B9 := hid b9
              have K9 := hid k9
              clear b9 k9
              refine hK.out _ _ (by exact hS9) (fun _ => ?_)
              clear hK K
              refine takeS_on (i := 4) 12 (v := ?hv49) rfl rfl (by kernel_rfl) (by kernel_rfl) (by kernel_rfl) (fun _ _ _ h => h) (by kernel_rfl) ?hh49 (by exact hS9) ?_
              case hh49 => (intro w' hSw; go_simp; try (with_reducible rfl))
              simp only [Act.put, List.setIfInBounds_toArray]
              refine wpAnyH_done (by kernel_rfl) ?_ _
              go_wp2
              refine bodyPost_ret (results_tct rfl _ _ _ _ rfl (run_loadVar_row _ _ _ _ _ _ _ B9.out Try.underlying52 rfl cho_size)) rfl ?_
              rw [HSEL.out, HSF.out, ← HO2.out]
              refine ⟨v7, mo, mn, mc, by dsimp only; rw [HER.out]; rfl, ?_, ?_, (Ch.trans (show Ch NoB w V0 from GV.out) K9.out (fun q e => .inr (by have e1 : q = w.heap.size + 1 := e; omega)))⟩
              · dsimp only
                exact (LKV.out.ch K9.out (fun q _ hq e => by have e1 : q = w.heap.size + 1 := e; have := HS6.out; omega)).mono (fun q _ hq => by have := HS6.out; omega)
              · dsimp only
                exact (RDV.out.ch K9.out (fun q _ hq e => hq.2.2 e)).mono (fun q _ hq => hq.1)

            | false =>
              have HSEL := hid (show RR = RsR P w (selG cs s g ps df (k : Int)) from by rw [HSL.out, HFS.out])
              have HSF := hid (show selG cs s g ps df (k : Int) = ⟨(k : Int), false, rcvF cs x1 s g⟩ from by unfold selG; rw [if_neg (by omega), HKT.out, HX.out]; rfl)
              clear HFS HSL
              go_upto_region 22 with (go_at_call 46; rw [← hW4]; refine (HGO.out _ (Gr.trans G0.out (Gr.trans HG.out G4.out)) x1 false).mono ?_; rw [tzF_any]; change ∀ _ _, _ = Ending.returned (.tuple #[.bool (gzF cs x1 false), _]) ∧ _ → _; rw [← HZ.out]; rintro e w5 ⟨rfl, g5⟩; have G5 := hid (Gr.trans HG.out (Gr.trans G4.out g5)); have PK := hid (gr_blk PK4.out g5); have d9 := ((Gr.trans G4.out g5).cell HGQ.out).trans HD0.out; clear g5)
              obtain ⟨W6, hW6⟩ : ∃ W, W = w5.alloc (.cells #[.int .i64 (k : Int), .bool false, .bool false, .int .i64 0, .bool false, .int .i64 0, .slice none 0 0] 52) := ⟨_, rfl⟩
              have G6 := hid (show Gr W0 W6 from by rw [hW6]; exact Ch.alloc G5.out _)
              have A6 := hid (show W6.heap[w5.heap.size]? = some (.cells #[.int .i64 (k : Int), .bool false, .bool false, .int .i64 0, .bool false, .int .i64 0, .slice none 0 0] 52 (0, 0)) from by rw [hW6]; exact (MapKept.heap_alloc w5 _).1)
              have B6 := hid (gr_blk B0.out G6.out)
              have P6 := hid (gr_blk PK.out (show Gr w5 W6 from by rw [hW6]; exact Ch.alloc (Gr.refl w5) _))
              obtain ⟨o, ho⟩ : ∃ o, o = (rcvF cs x1 s g) := ⟨_, rfl⟩
              have HO2 := hid ho
              have HSN := hid (rrecv_any _ W6 _ cs N x1 s g (HR.out.gr (Gr.trans G0.out G6.out)) HGD.out (by omega))
              rw [← ho] at HSN
              have HER := hid (show o.er = 0 from by rw [ho]; exact rcv_er HPN.out _)
              rw [hW6] at HSN B6 P6
              clear ho
              have q0 := cell_of P6.out 0
              have q1 := cell_of P6.out 1
              have q2 := cell_of P6.out 2
              have lq := lt_of_block P6.out
              simp at q0 q1 q2 lq
              go_upto_region 25 with (first
                | (refine wpList_load_row rfl 38 (.tmp 6) rfl w.heap.size rfl _ _ _ _ B6.out Try.underlying38 rfl gid_size ?_)
                | (go_at_call 26; refine HSN.out.mono ?_; rintro e w7 ⟨v7, mo, mn, mc, rfl, lk7, rd7, g7⟩; rw [← hW6] at lk7 rd7 g7; have LK7 := hid lk7; have RD7 := hid rd7; have G7 := hid g7; have A7 := hid (gr_blk A6.out g7); have f2 := frozen_of (gr_blk A6.out g7) 2; have f3 := frozen_of (gr_blk A6.out g7) 3; have f4 := frozen_of (gr_blk A6.out g7) 4; have f5 := frozen_of (gr_blk A6.out g7) 5; have f6 := frozen_of (gr_blk A6.out g7) 6; have d2 := cell_of (gr_blk A6.out g7) 2; have d3 := cell_of (gr_blk A6.out g7) 3; have d4 := cell_of (gr_blk A6.out g7) 4; have d5 := cell_of (gr_blk A6.out g7) 5; have d6 := cell_of (gr_blk A6.out g7) 6; have ld := lt_of_block (gr_blk A6.out g7); simp at d2 d3 d4 d5 d6; clear lk7 rd7 g7))
              obtain ⟨W8, hW8⟩ : ∃ W, W = ((((w7.setCell ⟨w5.heap.size, 2, none⟩ (.bool o.wa)).setCell ⟨w5.heap.size, 3, none⟩ (.int .i64 o.va)).setCell ⟨w5.heap.size, 4, none⟩ (.bool o.ok)).setCell ⟨w5.heap.size, 5, none⟩ (.int .i64 o.tr)).setCell ⟨w5.heap.size, 6, none⟩ (.slice mo mn mc) := ⟨_, rfl⟩
              have N8 := hid (show W8.heap[w5.heap.size]? = some (.cells #[.int .i64 (k : Int), .bool false, .bool o.wa, .int .i64 o.va, .bool o.ok, .int .i64 o.tr, .slice mo mn mc] 52 (0, 0)) from by rw [hW8]; exact set7 A7.out)
              have K8 := hid (show Ch (Only w5.heap.size) w7 W8 from by rw [hW8]; exact set7_ch _ _ _ _ _ _ _)
              rw [← hW8]
              clear hW8 hW6 q0 q1 q2 lq d2 d3 d4 d5 d6 f2 f3 f4 f5 f6 ld
              have S5 := hid (show w.heap.size + 3 ≤ w5.heap.size from by have h1 := G5.out.size; have h2 := lt_of_block N0.out; omega)
              have S6 := hid (show w5.heap.size < W6.heap.size from lt_of_block A6.out)
              have GF := hid (show Gr w W8 from Ch.trans (show Ch NoB w w7 from Gr.trans (Gr.trans G0.out G6.out) G7.out) K8.out (fun q e => .inr (by have e1 : q = w5.heap.size := e; have := S5.out; omega)))
              have ZW := hid ((K8.out.block _ (lt_of_block (gr_blk Z0.out (Gr.trans G6.out G7.out))) (fun e => by have e1 : w.heap.size + 1 = w5.heap.size := e; have := S5.out; omega)).trans (gr_blk Z0.out (Gr.trans G6.out G7.out)))
              have LK8 := hid (show Ls eK (fun q => W6.heap.size ≤ q) W8 (.slice mo mn mc) o.ks from LK7.out.ch K8.out (fun q _ hq e => by have e1 : q = w5.heap.size := e; have := S6.out; omega))
              have RD8 := hid (show Rds (fun q => (P q ∨ w.heap.size ≤ q) ∧ q ≠ w5.heap.size ∧ q ≠ w.heap.size + 1) W8 v7 o.cs from (RD7.out.mono (Q := fun q => (P q ∨ w.heap.size ≤ q) ∧ q ≠ w5.heap.size ∧ q ≠ w.heap.size + 1) (fun q hq hp => by
                rcases hp with hp | hp
                · have h1 := HPL.out q hp
                  have := S5.out
                  exact ⟨.inl hp, by omega, by omega⟩
                · have := S6.out
                  have := S5.out
                  exact ⟨.inr (by omega), by omega, by omega⟩)).ch K8.out (fun q _ hq e => hq.2.1 e))
              have hS0 : Scz w5.heap.size #[.int .i64 (k : Int), .bool false, .bool o.wa, .int .i64 o.va, .bool o.ok, .int .i64 o.tr, .slice mo mn mc] (World.drew W8) := ⟨N8.out⟩
              have ZV := hid (show (World.drew W8).heap[w.heap.size + 1]? = some (.cells cz 52 (0, 0)) from ZW.out)
              have GV := hid (show Gr w (World.drew W8) from Ch.drew GF.out)
              have HAA := hid (show w.heap.size + 1 < w5.heap.size from by have := S5.out; omega)
              have LKV := hid (LK8.out.gr (Ch.drew (Gr.refl W8)))
              have RDV := hid (RD8.out.gr (Ch.drew (Gr.refl W8)))
              have HS6 := hid (show w.heap.size + 3 ≤ W6.heap.size from by have := S5.out; have := S6.out; omega)
              refine wp_region_held_drew (S := Scz w5.heap.size #[.int .i64 (k : Int), .bool false, .bool o.wa, .int .i64 o.va, .bool o.ok, .int .i64 o.tr, .slice mo mn mc]) (by kernel_rfl) (by exact hS0) (fun _ => ?_)
              generalize World.drew W8 = V0 at hS0 ZV GV LKV RDV ⊢
              refine takeS_on (i := 0) 126 (v := ?hv50) rfl rfl (by kernel_rfl) (by kernel_rfl) (by kernel_rfl) (fun _ _ _ h => h) (by kernel_rfl) ?hh50 (by exact hS0) ?_
              case hh50 => (intro w' hSw; go_simp; try (with_reducible rfl))
              simp only [Act.put, List.setIfInBounds_toArray, List.set_cons_zero, List.set_cons_succ]
              refine takeS_on (i := 1) 127 (v := ?hv51) rfl rfl (by kernel_rfl) (by kernel_rfl) (by kernel_rfl) (fun _ _ _ h => h) (by kernel_rfl) ?hh51 (by exact hS0) ?_
              case hh51 => (intro w' hSw; refine Eq.trans (exec_row 52 (.tmp 24) rfl _ rfl _ _ _ _ hSw.bx Try.underlying52 rfl cho_size) ?_; with_reducible rfl)
              simp only [Act.put, List.setIfInBounds_toArray, List.set_cons_zero, List.set_cons_succ]
              refine takeS_on (i := 2) 10 (v := ?hv52) rfl rfl (by kernel_rfl) (by kernel_rfl) (by kernel_rfl) (fun _ _ _ h => h) (by kernel_rfl) ?hh52 (by exact hS0) ?_
              case hh52 => (intro w' hSw; go_simp; try (with_reducible rfl))
              simp only [Act.put, List.setIfInBounds_toArray, List.set_cons_zero, List.set_cons_succ]
              refine wpAnyH_ready (rs := [3]) (by kernel_rfl) (by simp) (AllReadyH.cons rfl (fun K hK => ?_) AllReadyH.nil)
              rw [if_pos (by kernel_rfl)]
              refine op_rowC 52 (.tmp 11) (.tmp 127) rfl (w.heap.size + 1) _ rfl rfl _ _ ZV.out cho_size rfl (one_cho _ _ _ _ _ _ _ _ _) ?_
              intro w9 b9 k9
              have hS9 : Scz w5.heap.size #[.int .i64 (k : Int), .bool false, .bool o.wa, .int .i64 o.va, .bool o.ok, .int .i64 o.tr, .slice mo mn mc] w9 := hS0.ch k9 (fun e => by have e1 : w5.heap.size = w.heap.size + 1 := e; have := HAA.out; omega)
              have B9 := hid b9
              have K9 := hid k9
              clear b9 k9
              refine hK.out _ _ (by exact hS9) (fun _ => ?_)
              clear hK K
              refine takeS_on (i := 4) 12 (v := ?hv53) rfl rfl (by kernel_rfl) (by kernel_rfl) (by kernel_rfl) (fun _ _ _ h => h) (by kernel_rfl) ?hh53 (by exact hS9) ?_
              case hh53 => (intro w' hSw; go_simp; try (with_reducible rfl))
              simp only [Act.put, List.setIfInBounds_toArray]
              refine wpAnyH_done (by kernel_rfl) ?_ _
              go_wp2
              refine bodyPost_ret (results_tct rfl _ _ _ _ rfl (run_loadVar_row _ _ _ _ _ _ _ B9.out Try.underlying52 rfl cho_size)) rfl ?_
              rw [HSEL.out, HSF.out, ← HO2.out]
              refine ⟨v7, mo, mn, mc, by dsimp only; rw [HER.out]; rfl, ?_, ?_, (Ch.trans (show Ch NoB w V0 from GV.out) K9.out (fun q e => .inr (by have e1 : q = w.heap.size + 1 := e; omega)))⟩
              · dsimp only
                exact (LKV.out.ch K9.out (fun q _ hq e => by have e1 : q = w.heap.size + 1 := e; have := HS6.out; omega)).mono (fun q _ hq => by have := HS6.out; omega)
              · dsimp only
                exact (RDV.out.ch K9.out (fun q _ hq e => hq.2.2 e)).mono (fun q _ hq => hq.1)

        · have jn : ¬ (j : Int) < (n : Int) := by omega
          have HFN := hid (show fst1 (gzF cs) ps l = -1 from by have := HF.out; rw [List.take_of_length_le (by rw [HOL.out]; omega)] at this; unfold fst1; exact congrArg (fun x : Option Int => x.getD (-1)) this)
          have q5 := cell_of (gr_blk N0.out HG.out) 1
          have f5 := frozen_of (gr_blk N0.out HG.out) 1
          have l5 := lt_of_block (gr_blk N0.out HG.out)
          simp at q5
          cases df with
          | true =>
            have HSEL := hid (show RR = RsR P w ⟨-1, true, ⟨cs, false, 0, false, 0, [], 0⟩⟩ from by rw [HSL.out, HFN.out]; rfl)
            go_upto_region 28 with fail
            obtain ⟨W7, hW7⟩ : ∃ W, W = World.setCell wr ⟨w.heap.size + 2, 1, none⟩ (.bool true) := ⟨_, rfl⟩
            have N7 := hid (show W7.heap[w.heap.size + 2]? = some (.cells #[.int .i64 (-1), .bool true, .bool false, .int .i64 0, .bool false, .int .i64 0, .slice none 0 0] 52 (0, 0)) from by rw [hW7]; simpa using setCell_block (gr_blk N0.out HG.out) 1 (.bool true))
            have K7 := hid (show Ch (Only (w.heap.size + 2)) wr W7 from by rw [hW7]; exact (Ch.refl _ _).own _ _)
            rw [← hW7]
            clear hW7 q5 f5
            have ZW := hid ((K7.out.block _ (lt_of_block (gr_blk Z0.out HG.out)) (fun e => by have e1 : w.heap.size + 1 = w.heap.size + 2 := e; omega)).trans (gr_blk Z0.out HG.out))
            have hS0 : Scz (w.heap.size + 2) #[.int .i64 (-1), .bool true, .bool false, .int .i64 0, .bool false, .int .i64 0, .slice none 0 0] (World.drew W7) := ⟨N7.out⟩
            have ZV := hid (show (World.drew W7).heap[w.heap.size + 1]? = some (.cells cz 52 (0, 0)) from ZW.out)
            have GV := hid (show Gr w (World.drew W7) from Ch.drew (Ch.trans (show Ch NoB w wr from Gr.trans G0.out HG.out) K7.out (fun q e => .inr (by have e1 : q = w.heap.size + 2 := e; omega))))
            have HAA := hid (show w.heap.size + 1 < w.heap.size + 2 from by omega)

            refine wp_region_held_drew (S := Scz (w.heap.size + 2) #[.int .i64 (-1), .bool true, .bool false, .int .i64 0, .bool false, .int .i64 0, .slice none 0 0]) (by kernel_rfl) (by exact hS0) (fun _ => ?_)
            generalize World.drew W7 = V0 at hS0 ZV GV ⊢
            refine takeS_on (i := 0) 130 (v := ?hv54) rfl rfl (by kernel_rfl) (by kernel_rfl) (by kernel_rfl) (fun _ _ _ h => h) (by kernel_rfl) ?hh54 (by exact hS0) ?_
            case hh54 => (intro w' hSw; go_simp; try (with_reducible rfl))
            simp only [Act.put, List.setIfInBounds_toArray, List.set_cons_zero, List.set_cons_succ]
            refine takeS_on (i := 1) 131 (v := ?hv55) rfl rfl (by kernel_rfl) (by kernel_rfl) (by kernel_rfl) (fun _ _ _ h => h) (by kernel_rfl) ?hh55 (by exact hS0) ?_
            case hh55 => (intro w' hSw; refine Eq.trans (exec_row 52 (.tmp 13) rfl _ rfl _ _ _ _ hSw.bx Try.underlying52 rfl cho_size) ?_; with_reducible rfl)
            simp only [Act.put, List.setIfInBounds_toArray, List.set_cons_zero, List.set_cons_succ]
            refine takeS_on (i := 2) 10 (v := ?hv56) rfl rfl (by kernel_rfl) (by kernel_rfl) (by kernel_rfl) (fun _ _ _ h => h) (by kernel_rfl) ?hh56 (by exact hS0) ?_
            case hh56 => (intro w' hSw; go_simp; try (with_reducible rfl))
            simp only [Act.put, List.setIfInBounds_toArray, List.set_cons_zero, List.set_cons_succ]
            refine wpAnyH_ready (rs := [3]) (by kernel_rfl) (by simp) (AllReadyH.cons rfl (fun K hK => ?_) AllReadyH.nil)
            rw [if_pos (by kernel_rfl)]
            refine op_rowC 52 (.tmp 11) (.tmp 131) rfl (w.heap.size + 1) _ rfl rfl _ _ ZV.out cho_size rfl (one_cho _ _ _ _ _ _ _ _ _) ?_
            intro w9 b9 k9
            have hS9 : Scz (w.heap.size + 2) #[.int .i64 (-1), .bool true, .bool false, .int .i64 0, .bool false, .int .i64 0, .slice none 0 0] w9 := hS0.ch k9 (fun e => by have e1 : (w.heap.size + 2) = w.heap.size + 1 := e; have := HAA.out; omega)
            have B9 := hid b9
            have K9 := hid k9
            clear b9 k9
            refine hK.out _ _ (by exact hS9) (fun _ => ?_)
            clear hK K
            refine takeS_on (i := 4) 12 (v := ?hv57) rfl rfl (by kernel_rfl) (by kernel_rfl) (by kernel_rfl) (fun _ _ _ h => h) (by kernel_rfl) ?hh57 (by exact hS9) ?_
            case hh57 => (intro w' hSw; go_simp; try (with_reducible rfl))
            simp only [Act.put, List.setIfInBounds_toArray]
            refine wpAnyH_done (by kernel_rfl) ?_ _
            go_wp2
            refine bodyPost_ret (results_tct rfl _ _ _ _ rfl (run_loadVar_row _ _ _ _ _ _ _ B9.out Try.underlying52 rfl cho_size)) rfl ?_
            rw [HSEL.out]
            exact ⟨_, none, 0, 0, rfl, Ls.nil _ _ _, (HR.out.gr (Ch.trans (show Ch NoB w V0 from GV.out) K9.out (fun q e => .inr (by have e1 : q = w.heap.size + 1 := e; omega)))).mono (fun _ _ p => .inl p), (Ch.trans (show Ch NoB w V0 from GV.out) K9.out (fun q e => .inr (by have e1 : q = w.heap.size + 1 := e; omega)))⟩

          | false =>
            have HSEL := hid (show RR = RsR P w ⟨-1, false, ⟨wfF cs s g ps n, true, 0, false, 0, [], 0⟩⟩ from by rw [HSL.out, HFN.out, HL.out]; rfl)
            have GB := hid HG.out
            clear q5 f5 l5 HG HF HSL HFN HOL2
            go_wp2_with fail
            go_loopg [0, 25] n (fun q v0 i wr => ∃ (j : Nat), j + q = n ∧ i = .int .i64 (j : Int) ∧ Rds (fun q => P q ∨ W0.heap.size ≤ q) wr v0 (wfF cs s g ps j) ∧ Gr W0 wr)
            case atStart => exact ⟨0, by omega, rfl, (HR.out.gr (Gr.trans G0.out GB.out)).mono (fun _ _ p => .inl p), GB.out⟩
            case round =>
              clear hjk hj jn GB
              obtain ⟨j, hjk, rfl, hR, hG⟩ := hrel
              have RJ := hid hR
              have HG := hid hG
              have BJ := hid (gr_blk B0.out HG.out)
              clear hR hG
              by_cases hj : j < n
              · obtain ⟨⟨x0, x1, x2⟩, hx⟩ : ∃ x, ps[j]? = some x := ⟨_, List.getElem?_eq_getElem (by rw [← HL.out]; omega)⟩
                obtain ⟨gg, oo, cap', hv, _, hgl, _, hcs⟩ := (HP.out.gr (Gr.trans G0.out HG.out)).get eP_len hx
                injection hv with hv1 hv2 hv3
                subst hv1
                have c0 := hcs 0 _ rfl
                have c1 := hcs 1 _ rfl
                have c2 := hcs 2 _ rfl
                dsimp only [Nat.add_zero] at c0 c1 c2
                have j0 : (0 : Int) ≤ (j : Int) := by omega
                have j1 : (j : Int) < (n : Int) := by omega
                have HX := hid hx
                have HGL := hid hgl
                clear hcs hv2 hv3 hx hgl
                have C0 := hid c0
                have C1 := hid c1
                cases x0 with
                | true =>
                  have HSD := hid (show true = true from rfl)
                  have lgg := HGL.out
                  go_upto_region 35 with (refine wpList_load_row rfl 38 (.tmp 6) rfl w.heap.size rfl _ _ _ _ BJ.out Try.underlying38 rfl gid_size ?_)
                  have HY := hid (show wtF (wfF cs s g ps j) x1 s g (j : Int) x2 true = wfF cs s g ps (j + 1) from by rw [wfF_step HX.out])
                  obtain ⟨W6, hW6⟩ : ∃ W, W = wr.alloc (.cells #[.int .i64 s, .int .i64 g, .int .i64 (j : Int), .int .i64 x2] 101) := ⟨_, rfl⟩
                  have G6 := hid (show Gr wr W6 from by rw [hW6]; exact Ch.alloc (Gr.refl wr) _)
                  have A6 := hid (show W6.heap[wr.heap.size]? = some (.cells #[.int .i64 s, .int .i64 g, .int .i64 (j : Int), .int .i64 x2] 101 (0, 0)) from by rw [hW6]; exact (MapKept.heap_alloc wr _).1)
                  rw [← hW6]
                  clear hW6
                  have hS0 : Spw gg (oo + j * 3) true x1 wr.heap.size #[.int .i64 s, .int .i64 g, .int .i64 (j : Int), .int .i64 x2] (World.drew W6) := ⟨Spk.gr (Spk.mk (by rw [HSD.out]; exact C0.out) C1.out HGL.out) (Ch.drew G6.out), A6.out⟩
                  have GW := hid (show Gr W0 (World.drew W6) from Gr.trans HG.out (Ch.drew G6.out))
                  have HWT := hid (rwait_any _ (World.drew W6) u0 (wfF cs s g ps j) (N + j) x1 s g (j : Int) x2 true (RJ.out.gr (Ch.drew G6.out)) (HWF.out j) (by omega))
                  rw [HSD.out] at hS0 HWT HY
                  refine wp_region_held_drew (S := Spw gg (oo + j * 3) true x1 wr.heap.size #[.int .i64 s, .int .i64 g, .int .i64 (j : Int), .int .i64 x2]) (by kernel_rfl) (by exact hS0) (fun _ => ?_)
                  generalize World.drew W6 = V0 at hS0 GW HWT ⊢
                  refine takeS_on (i := 0) 153 (v := ?hv58) rfl rfl (by kernel_rfl) (by kernel_rfl) (by kernel_rfl) (fun _ _ _ h => h) (by kernel_rfl) ?hh58 (by exact hS0) ?_
                  case hh58 => (intro w' hSw; go_simp; try (with_reducible rfl))
                  simp only [Act.put, List.setIfInBounds_toArray, List.set_cons_zero, List.set_cons_succ]
                  refine takeS_on (i := 1) 154 (v := ?hv59) rfl rfl (by kernel_rfl) (by kernel_rfl) (by kernel_rfl) (fun _ _ _ h => h) (by kernel_rfl) ?hh59 (by exact hS0) ?_
                  case hh59 => (intro w' hSw; go_simp; try (with_reducible rfl))
                  simp only [Act.put, List.setIfInBounds_toArray, List.set_cons_zero, List.set_cons_succ]
                  refine takeS_on (i := 2) 155 (v := ?hv60) rfl rfl (by kernel_rfl) (by kernel_rfl) (by kernel_rfl) (fun _ _ _ h => h) (by kernel_rfl) ?hh60 (by exact hS0) ?_
                  case hh60 => (intro w' hSw; go_simp; try (with_reducible rfl))
                  simp only [Act.put, List.setIfInBounds_toArray, List.set_cons_zero, List.set_cons_succ]
                  refine takeS_on (i := 3) 156 (v := ?hv61) rfl rfl (by kernel_rfl) (by kernel_rfl) (by kernel_rfl) (fun _ _ _ h => h) (by kernel_rfl) ?hh61 (by exact hS0) ?_
                  case hh61 => (intro w' hSw; go_simp; try (with_reducible rfl))
                  simp only [Act.put, List.setIfInBounds_toArray, List.set_cons_zero, List.set_cons_succ]
                  refine takeS_on (i := 4) 157 (v := ?hv62) rfl rfl (by kernel_rfl) (by kernel_rfl) (by kernel_rfl) (fun _ _ _ h => h) (by kernel_rfl) ?hh62 (by exact hS0) ?_
                  case hh62 => (intro w' hSw; go_simp; try (with_reducible rfl))
                  simp only [Act.put, List.setIfInBounds_toArray, List.set_cons_zero, List.set_cons_succ]
                  refine takeS_on (i := 5) 158 (v := ?hv63) rfl rfl (by kernel_rfl) (by kernel_rfl) (by kernel_rfl) (fun _ _ _ h => h) (by kernel_rfl) ?hh63 (by exact hS0) ?_
                  case hh63 => (intro w' hSw; have c0 := hSw.k.p0; have c1 := hSw.k.p1; go_simp; try (with_reducible rfl))
                  simp only [Act.put, List.setIfInBounds_toArray, List.set_cons_zero, List.set_cons_succ]
                  refine takeS_on (i := 6) 159 (v := ?hv64) rfl rfl (by kernel_rfl) (by kernel_rfl) (by kernel_rfl) (fun _ _ _ h => h) (by kernel_rfl) ?hh64 (by exact hS0) ?_
                  case hh64 => (intro w' hSw; refine Eq.trans (exec_row 101 (.tmp 26) rfl _ rfl _ _ _ _ hSw.bx Try.underlying101 rfl wtr_size) ?_; with_reducible rfl)
                  simp only [Act.put, List.setIfInBounds_toArray, List.set_cons_zero, List.set_cons_succ]
                  refine takeS_on (i := 7) 160 (v := ?hv65) rfl rfl (by kernel_rfl) (by kernel_rfl) (by kernel_rfl) (fun _ _ _ h => h) (by kernel_rfl) ?hh65 (by exact hS0) ?_
                  case hh65 => (intro w' hSw; go_simp; try (with_reducible rfl))
                  simp only [Act.put, List.setIfInBounds_toArray, List.set_cons_zero, List.set_cons_succ]
                  refine takeS_on (i := 8) 161 (v := ?hv66) rfl rfl (by kernel_rfl) (by kernel_rfl) (by kernel_rfl) (fun _ _ _ h => h) (by kernel_rfl) ?hh66 (by exact hS0) ?_
                  case hh66 => (intro w' hSw; go_simp; try (with_reducible rfl))
                  simp only [Act.put, List.setIfInBounds_toArray, List.set_cons_zero, List.set_cons_succ]
                  refine takeS_on (i := 9) 162 (v := ?hv67) rfl rfl (by kernel_rfl) (by kernel_rfl) (by kernel_rfl) (fun _ _ _ h => h) (by kernel_rfl) ?hh67 (by exact hS0) ?_
                  case hh67 => (intro w' hSw; go_simp; try (with_reducible rfl))
                  simp only [Act.put, List.setIfInBounds_toArray, List.set_cons_zero, List.set_cons_succ]
                  refine takeS_on (i := 10) 163 (v := ?hv68) rfl rfl (by kernel_rfl) (by kernel_rfl) (by kernel_rfl) (fun _ _ _ h => h) (by kernel_rfl) ?hh68 (by exact hS0) ?_
                  case hh68 => (intro w' hSw; go_simp; try (with_reducible rfl))
                  simp only [Act.put, List.setIfInBounds_toArray, List.set_cons_zero, List.set_cons_succ]
                  refine takeS_on (i := 11) 164 (v := ?hv69) rfl rfl (by kernel_rfl) (by kernel_rfl) (by kernel_rfl) (fun _ _ _ h => h) (by kernel_rfl) ?hh69 (by exact hS0) ?_
                  case hh69 => (intro w' hSw; have c0 := hSw.k.p0; have c1 := hSw.k.p1; go_simp; try (with_reducible rfl))
                  simp only [Act.put, List.setIfInBounds_toArray, List.set_cons_zero, List.set_cons_succ]
                  refine wpAnyH_ready (rs := [12]) (by kernel_rfl) (by simp) (AllReadyH.cons rfl (fun K hK => ?_) AllReadyH.nil)
                  go_simp
                  refine HWT.out.mono ?_
                  rintro e w5 ⟨v5, rfl, rd5, g5⟩
                  have hS1 := hS0.gr g5
                  have RD5 := hid rd5
                  have G5 := hid (Gr.trans GW.out g5)
                  have SV := hid GW.out.size
                  clear g5 rd5
                  refine hK.out _ _ (by exact hS1) (fun _ => ?_)
                  clear hK K
                  refine takeS_on (i := 13) 152 (v := ?hv70) rfl rfl (by kernel_rfl) (by kernel_rfl) (by kernel_rfl) (fun _ _ _ h => h) (by kernel_rfl) ?hh70 (by exact hS1) ?_
                  case hh70 => (intro w' hSw; go_simp; try (with_reducible rfl))
                  simp only [Act.put, List.setIfInBounds_toArray, List.set_cons_zero, List.set_cons_succ]
                  refine takeS_on (i := 14) 166 (v := ?hv71) rfl rfl (by kernel_rfl) (by kernel_rfl) (by kernel_rfl) (fun _ _ _ h => h) (by kernel_rfl) ?hh71 (by exact hS1) ?_
                  case hh71 => (intro w' hSw; go_simp; try (with_reducible rfl))
                  simp only [Act.put, List.setIfInBounds_toArray, List.set_cons_zero, List.set_cons_succ]
                  refine takeS_on (i := 15) 167 (v := ?hv72) rfl rfl (by kernel_rfl) (by kernel_rfl) (by kernel_rfl) (fun _ _ _ h => h) (by kernel_rfl) ?hh72 (by exact hS1) ?_
                  case hh72 => (intro w' hSw; go_simp; try (with_reducible rfl))
                  simp only [Act.put, List.setIfInBounds_toArray, List.set_cons_zero, List.set_cons_succ]
                  refine takeS_on (i := 16) 0 (v := ?hv73) rfl rfl (by kernel_rfl) (by kernel_rfl) (by kernel_rfl) (fun _ _ _ h => h) (by kernel_rfl) ?hh73 (by exact hS1) ?_
                  case hh73 => (intro w' hSw; go_simp; try (with_reducible rfl))
                  simp only [Act.put, List.setIfInBounds_toArray, List.set_cons_zero]
                  refine wpAnyH_done (by kernel_rfl) ?_ _
                  go_wp2
                  go_roundg (gk - 1)
                  case measure => omega
                  case rel =>
                    refine ⟨j + 1, by omega, ?_, ?_, G5.out⟩
                    · first | with_reducible rfl | simp
                    · rw [← HY.out]
                      exact RD5.out.mono (fun q _ hq => by
                        rcases hq with hq | hq
                        · exact hq
                        · exact .inr (Nat.le_trans SV.out hq))

                | false =>
                  have HSD := hid (show false = false from rfl)
                  have lgg := HGL.out
                  go_upto_region 35 with (refine wpList_load_row rfl 38 (.tmp 6) rfl w.heap.size rfl _ _ _ _ BJ.out Try.underlying38 rfl gid_size ?_)
                  have HY := hid (show wtF (wfF cs s g ps j) x1 s g (j : Int) 0 false = wfF cs s g ps (j + 1) from by rw [wfF_step HX.out]; unfold wtF; cases cAt (wfF cs s g ps j) x1 <;> rfl)
                  obtain ⟨W6, hW6⟩ : ∃ W, W = wr.alloc (.cells #[.int .i64 s, .int .i64 g, .int .i64 (j : Int), .int .i64 0] 101) := ⟨_, rfl⟩
                  have G6 := hid (show Gr wr W6 from by rw [hW6]; exact Ch.alloc (Gr.refl wr) _)
                  have A6 := hid (show W6.heap[wr.heap.size]? = some (.cells #[.int .i64 s, .int .i64 g, .int .i64 (j : Int), .int .i64 0] 101 (0, 0)) from by rw [hW6]; exact (MapKept.heap_alloc wr _).1)
                  rw [← hW6]
                  clear hW6
                  have hS0 : Spw gg (oo + j * 3) false x1 wr.heap.size #[.int .i64 s, .int .i64 g, .int .i64 (j : Int), .int .i64 0] (World.drew W6) := ⟨Spk.gr (Spk.mk (by rw [HSD.out]; exact C0.out) C1.out HGL.out) (Ch.drew G6.out), A6.out⟩
                  have GW := hid (show Gr W0 (World.drew W6) from Gr.trans HG.out (Ch.drew G6.out))
                  have HWT := hid (rwait_any _ (World.drew W6) u0 (wfF cs s g ps j) (N + j) x1 s g (j : Int) 0 false (RJ.out.gr (Ch.drew G6.out)) (HWF.out j) (by omega))
                  rw [HSD.out] at hS0 HWT HY
                  refine wp_region_held_drew (S := Spw gg (oo + j * 3) false x1 wr.heap.size #[.int .i64 s, .int .i64 g, .int .i64 (j : Int), .int .i64 0]) (by kernel_rfl) (by exact hS0) (fun _ => ?_)
                  generalize World.drew W6 = V0 at hS0 GW HWT ⊢
                  refine takeS_on (i := 0) 153 (v := ?hv74) rfl rfl (by kernel_rfl) (by kernel_rfl) (by kernel_rfl) (fun _ _ _ h => h) (by kernel_rfl) ?hh74 (by exact hS0) ?_
                  case hh74 => (intro w' hSw; go_simp; try (with_reducible rfl))
                  simp only [Act.put, List.setIfInBounds_toArray, List.set_cons_zero, List.set_cons_succ]
                  refine takeS_on (i := 1) 154 (v := ?hv75) rfl rfl (by kernel_rfl) (by kernel_rfl) (by kernel_rfl) (fun _ _ _ h => h) (by kernel_rfl) ?hh75 (by exact hS0) ?_
                  case hh75 => (intro w' hSw; go_simp; try (with_reducible rfl))
                  simp only [Act.put, List.setIfInBounds_toArray, List.set_cons_zero, List.set_cons_succ]
                  refine takeS_on (i := 2) 155 (v := ?hv76) rfl rfl (by kernel_rfl) (by kernel_rfl) (by kernel_rfl) (fun _ _ _ h => h) (by kernel_rfl) ?hh76 (by exact hS0) ?_
                  case hh76 => (intro w' hSw; go_simp; try (with_reducible rfl))
                  simp only [Act.put, List.setIfInBounds_toArray, List.set_cons_zero, List.set_cons_succ]
                  refine takeS_on (i := 3) 156 (v := ?hv77) rfl rfl (by kernel_rfl) (by kernel_rfl) (by kernel_rfl) (fun _ _ _ h => h) (by kernel_rfl) ?hh77 (by exact hS0) ?_
                  case hh77 => (intro w' hSw; go_simp; try (with_reducible rfl))
                  simp only [Act.put, List.setIfInBounds_toArray, List.set_cons_zero, List.set_cons_succ]
                  refine takeS_on (i := 4) 157 (v := ?hv78) rfl rfl (by kernel_rfl) (by kernel_rfl) (by kernel_rfl) (fun _ _ _ h => h) (by kernel_rfl) ?hh78 (by exact hS0) ?_
                  case hh78 => (intro w' hSw; go_simp; try (with_reducible rfl))
                  simp only [Act.put, List.setIfInBounds_toArray, List.set_cons_zero, List.set_cons_succ]
                  refine takeS_on (i := 5) 158 (v := ?hv79) rfl rfl (by kernel_rfl) (by kernel_rfl) (by kernel_rfl) (fun _ _ _ h => h) (by kernel_rfl) ?hh79 (by exact hS0) ?_
                  case hh79 => (intro w' hSw; have c0 := hSw.k.p0; have c1 := hSw.k.p1; go_simp; try (with_reducible rfl))
                  simp only [Act.put, List.setIfInBounds_toArray, List.set_cons_zero, List.set_cons_succ]
                  refine takeS_on (i := 6) 159 (v := ?hv80) rfl rfl (by kernel_rfl) (by kernel_rfl) (by kernel_rfl) (fun _ _ _ h => h) (by kernel_rfl) ?hh80 (by exact hS0) ?_
                  case hh80 => (intro w' hSw; refine Eq.trans (exec_row 101 (.tmp 26) rfl _ rfl _ _ _ _ hSw.bx Try.underlying101 rfl wtr_size) ?_; with_reducible rfl)
                  simp only [Act.put, List.setIfInBounds_toArray, List.set_cons_zero, List.set_cons_succ]
                  refine takeS_on (i := 7) 160 (v := ?hv81) rfl rfl (by kernel_rfl) (by kernel_rfl) (by kernel_rfl) (fun _ _ _ h => h) (by kernel_rfl) ?hh81 (by exact hS0) ?_
                  case hh81 => (intro w' hSw; go_simp; try (with_reducible rfl))
                  simp only [Act.put, List.setIfInBounds_toArray, List.set_cons_zero, List.set_cons_succ]
                  refine takeS_on (i := 8) 161 (v := ?hv82) rfl rfl (by kernel_rfl) (by kernel_rfl) (by kernel_rfl) (fun _ _ _ h => h) (by kernel_rfl) ?hh82 (by exact hS0) ?_
                  case hh82 => (intro w' hSw; go_simp; try (with_reducible rfl))
                  simp only [Act.put, List.setIfInBounds_toArray, List.set_cons_zero, List.set_cons_succ]
                  refine takeS_on (i := 9) 162 (v := ?hv83) rfl rfl (by kernel_rfl) (by kernel_rfl) (by kernel_rfl) (fun _ _ _ h => h) (by kernel_rfl) ?hh83 (by exact hS0) ?_
                  case hh83 => (intro w' hSw; go_simp; try (with_reducible rfl))
                  simp only [Act.put, List.setIfInBounds_toArray, List.set_cons_zero, List.set_cons_succ]
                  refine takeS_on (i := 10) 163 (v := ?hv84) rfl rfl (by kernel_rfl) (by kernel_rfl) (by kernel_rfl) (fun _ _ _ h => h) (by kernel_rfl) ?hh84 (by exact hS0) ?_
                  case hh84 => (intro w' hSw; go_simp; try (with_reducible rfl))
                  simp only [Act.put, List.setIfInBounds_toArray, List.set_cons_zero, List.set_cons_succ]
                  refine takeS_on (i := 11) 164 (v := ?hv85) rfl rfl (by kernel_rfl) (by kernel_rfl) (by kernel_rfl) (fun _ _ _ h => h) (by kernel_rfl) ?hh85 (by exact hS0) ?_
                  case hh85 => (intro w' hSw; have c0 := hSw.k.p0; have c1 := hSw.k.p1; go_simp; try (with_reducible rfl))
                  simp only [Act.put, List.setIfInBounds_toArray, List.set_cons_zero, List.set_cons_succ]
                  refine wpAnyH_ready (rs := [12]) (by kernel_rfl) (by simp) (AllReadyH.cons rfl (fun K hK => ?_) AllReadyH.nil)
                  go_simp
                  refine HWT.out.mono ?_
                  rintro e w5 ⟨v5, rfl, rd5, g5⟩
                  have hS1 := hS0.gr g5
                  have RD5 := hid rd5
                  have G5 := hid (Gr.trans GW.out g5)
                  have SV := hid GW.out.size
                  clear g5 rd5
                  refine hK.out _ _ (by exact hS1) (fun _ => ?_)
                  clear hK K
                  refine takeS_on (i := 13) 152 (v := ?hv86) rfl rfl (by kernel_rfl) (by kernel_rfl) (by kernel_rfl) (fun _ _ _ h => h) (by kernel_rfl) ?hh86 (by exact hS1) ?_
                  case hh86 => (intro w' hSw; go_simp; try (with_reducible rfl))
                  simp only [Act.put, List.setIfInBounds_toArray, List.set_cons_zero, List.set_cons_succ]
                  refine takeS_on (i := 14) 166 (v := ?hv87) rfl rfl (by kernel_rfl) (by kernel_rfl) (by kernel_rfl) (fun _ _ _ h => h) (by kernel_rfl) ?hh87 (by exact hS1) ?_
                  case hh87 => (intro w' hSw; go_simp; try (with_reducible rfl))
                  simp only [Act.put, List.setIfInBounds_toArray, List.set_cons_zero, List.set_cons_succ]
                  refine takeS_on (i := 15) 167 (v := ?hv88) rfl rfl (by kernel_rfl) (by kernel_rfl) (by kernel_rfl) (fun _ _ _ h => h) (by kernel_rfl) ?hh88 (by exact hS1) ?_
                  case hh88 => (intro w' hSw; go_simp; try (with_reducible rfl))
                  simp only [Act.put, List.setIfInBounds_toArray, List.set_cons_zero, List.set_cons_succ]
                  refine takeS_on (i := 16) 0 (v := ?hv89) rfl rfl (by kernel_rfl) (by kernel_rfl) (by kernel_rfl) (fun _ _ _ h => h) (by kernel_rfl) ?hh89 (by exact hS1) ?_
                  case hh89 => (intro w' hSw; go_simp; try (with_reducible rfl))
                  simp only [Act.put, List.setIfInBounds_toArray, List.set_cons_zero]
                  refine wpAnyH_done (by kernel_rfl) ?_ _
                  go_wp2
                  go_roundg (gk - 1)
                  case measure => omega
                  case rel =>
                    refine ⟨j + 1, by omega, ?_, ?_, G5.out⟩
                    · first | with_reducible rfl | simp
                    · rw [← HY.out]
                      exact RD5.out.mono (fun q _ hq => by
                        rcases hq with hq | hq
                        · exact hq
                        · exact .inr (Nat.le_trans SV.out hq))

              · have jn : ¬ (j : Int) < (n : Int) := by omega
                have e9 : j = n := by omega
                subst e9
                have q5 := cell_of (gr_blk N0.out HG.out) 2
                have f5 := frozen_of (gr_blk N0.out HG.out) 2
                have l5 := lt_of_block (gr_blk N0.out HG.out)
                simp at q5
                go_upto_region 37 with fail
                obtain ⟨W7, hW7⟩ : ∃ W, W = World.setCell wr ⟨w.heap.size + 2, 2, none⟩ (.bool true) := ⟨_, rfl⟩
                have N7 := hid (show W7.heap[w.heap.size + 2]? = some (.cells #[.int .i64 (-1), .bool false, .bool true, .int .i64 0, .bool false, .int .i64 0, .slice none 0 0] 52 (0, 0)) from by rw [hW7]; simpa using setCell_block (gr_blk N0.out HG.out) 2 (.bool true))
                have K7 := hid (show Ch (Only (w.heap.size + 2)) wr W7 from by rw [hW7]; exact (Ch.refl _ _).own _ _)
                rw [← hW7]
                clear hW7 q5 f5
                have ZW := hid ((K7.out.block _ (lt_of_block (gr_blk Z0.out HG.out)) (fun e => by have e1 : w.heap.size + 1 = w.heap.size + 2 := e; omega)).trans (gr_blk Z0.out HG.out))
                have hS0 : Scz (w.heap.size + 2) #[.int .i64 (-1), .bool false, .bool true, .int .i64 0, .bool false, .int .i64 0, .slice none 0 0] (World.drew W7) := ⟨N7.out⟩
                have ZV := hid (show (World.drew W7).heap[w.heap.size + 1]? = some (.cells cz 52 (0, 0)) from ZW.out)
                have GV := hid (show Gr w (World.drew W7) from Ch.drew (Ch.trans (show Ch NoB w wr from Gr.trans G0.out HG.out) K7.out (fun q e => .inr (by have e1 : q = w.heap.size + 2 := e; omega))))
                have HAA := hid (show w.heap.size + 1 < w.heap.size + 2 from by omega)

                have RDV := hid ((RJ.out.ch K7.out (fun q _ hq e => by
                  have e1 : q = w.heap.size + 2 := e
                  have := HW0.out
                  rcases hq with hq | hq
                  · have := HPL0.out q hq; omega
                  · omega)).gr (Ch.drew (Gr.refl W7)))
                refine wp_region_held_drew (S := Scz (w.heap.size + 2) #[.int .i64 (-1), .bool false, .bool true, .int .i64 0, .bool false, .int .i64 0, .slice none 0 0]) (by kernel_rfl) (by exact hS0) (fun _ => ?_)
                generalize World.drew W7 = V0 at hS0 ZV GV RDV ⊢
                refine takeS_on (i := 0) 170 (v := ?hv90) rfl rfl (by kernel_rfl) (by kernel_rfl) (by kernel_rfl) (fun _ _ _ h => h) (by kernel_rfl) ?hh90 (by exact hS0) ?_
                case hh90 => (intro w' hSw; go_simp; try (with_reducible rfl))
                simp only [Act.put, List.setIfInBounds_toArray, List.set_cons_zero, List.set_cons_succ]
                refine takeS_on (i := 1) 171 (v := ?hv91) rfl rfl (by kernel_rfl) (by kernel_rfl) (by kernel_rfl) (fun _ _ _ h => h) (by kernel_rfl) ?hh91 (by exact hS0) ?_
                case hh91 => (intro w' hSw; refine Eq.trans (exec_row 52 (.tmp 13) rfl _ rfl _ _ _ _ hSw.bx Try.underlying52 rfl cho_size) ?_; with_reducible rfl)
                simp only [Act.put, List.setIfInBounds_toArray, List.set_cons_zero, List.set_cons_succ]
                refine takeS_on (i := 2) 10 (v := ?hv92) rfl rfl (by kernel_rfl) (by kernel_rfl) (by kernel_rfl) (fun _ _ _ h => h) (by kernel_rfl) ?hh92 (by exact hS0) ?_
                case hh92 => (intro w' hSw; go_simp; try (with_reducible rfl))
                simp only [Act.put, List.setIfInBounds_toArray, List.set_cons_zero, List.set_cons_succ]
                refine wpAnyH_ready (rs := [3]) (by kernel_rfl) (by simp) (AllReadyH.cons rfl (fun K hK => ?_) AllReadyH.nil)
                rw [if_pos (by kernel_rfl)]
                refine op_rowC 52 (.tmp 11) (.tmp 171) rfl (w.heap.size + 1) _ rfl rfl _ _ ZV.out cho_size rfl (one_cho _ _ _ _ _ _ _ _ _) ?_
                intro w9 b9 k9
                have hS9 : Scz (w.heap.size + 2) #[.int .i64 (-1), .bool false, .bool true, .int .i64 0, .bool false, .int .i64 0, .slice none 0 0] w9 := hS0.ch k9 (fun e => by have e1 : (w.heap.size + 2) = w.heap.size + 1 := e; have := HAA.out; omega)
                have B9 := hid b9
                have K9 := hid k9
                clear b9 k9
                refine hK.out _ _ (by exact hS9) (fun _ => ?_)
                clear hK K
                refine takeS_on (i := 4) 12 (v := ?hv93) rfl rfl (by kernel_rfl) (by kernel_rfl) (by kernel_rfl) (fun _ _ _ h => h) (by kernel_rfl) ?hh93 (by exact hS9) ?_
                case hh93 => (intro w' hSw; go_simp; try (with_reducible rfl))
                simp only [Act.put, List.setIfInBounds_toArray]
                refine wpAnyH_done (by kernel_rfl) ?_ _
                go_wp2
                refine bodyPost_ret (results_tct rfl _ _ _ _ rfl (run_loadVar_row _ _ _ _ _ _ _ B9.out Try.underlying52 rfl cho_size)) rfl ?_
                rw [HSEL.out]
                refine ⟨_, none, 0, 0, rfl, Ls.nil _ _ _, (RDV.out.ch K9.out (fun q _ hq e => ?_)).mono (fun q _ hq => hq.imp id (fun h1 => by have := HW0.out; omega)), (Ch.trans (show Ch NoB w V0 from GV.out) K9.out (fun q e => .inr (by have e1 : q = w.heap.size + 1 := e; omega)))⟩
                have e1 : q = w.heap.size + 1 := e
                have := HW0.out
                rcases hq with hq | hq
                · have := HPL0.out q hq; omega
                · omega

end Go.Proofs.Ytalmiphddgmfbaa.Lt

namespace Go.Proofs.Ytalmiphddgmfbaa.Lt
open Go.RowKit Wd
attribute [local go_sem ↓] Go.wp_at_zero Go.wp_at_succ

set_option maxHeartbeats 4000000 in
set_option maxRecDepth 20000 in
theorem rsamec_any (P Q : Nat → Prop) (w : World) (k : Int) (df a b : Bool) (x t : Int) (po qo : Option Addr) (n pc qc : Nat) (ks : List Wk) (h : Ls eK P w (.slice po n pc) ks) (h2 : Ls eK Q w (.slice qo n qc) ks) (hn : n ≤ 2932031007402) :
    Calls Try.prog 20 #[.agg #[.int .i64 k, .bool df, .bool a, .int .i64 x, .bool b, .int .i64 t, .slice po n pc], .agg #[.int .i64 k, .bool df, .bool a, .int .i64 x, .bool b, .int .i64 t, .slice qo n qc]] w fun e w' => e = .returned (.bool true) ∧ Gr w w' := by
  obtain ⟨W0, hW0⟩ : ∃ W, W = (w.alloc (.cells #[.int .i64 k, .bool df, .bool a, .int .i64 x, .bool b, .int .i64 t, .slice po n pc] 52)).alloc (.cells #[.int .i64 k, .bool df, .bool a, .int .i64 x, .bool b, .int .i64 t, .slice qo n qc] 52) := ⟨_, rfl⟩
  have G0 := hid (show Gr w W0 from by rw [hW0]; exact Ch.alloc (Ch.alloc (Gr.refl w) _) _)
  have A0 := hid (show W0.heap[w.heap.size]? = some (.cells #[.int .i64 k, .bool df, .bool a, .int .i64 x, .bool b, .int .i64 t, .slice po n pc] 52 (0, 0)) from by rw [hW0]; exact al_blk (MapKept.heap_alloc w _).1 _)
  have B0 := hid (show W0.heap[w.heap.size + 1]? = some (.cells #[.int .i64 k, .bool df, .bool a, .int .i64 x, .bool b, .int .i64 t, .slice qo n qc] 52 (0, 0)) from by rw [hW0]; exact al_at _ (by simp))
  have HSM := hid (rsamem_any P Q W0 a b x t po qo n pc qc ks (h.gr G0.out) (h2.gr G0.out) hn)
  clear h h2 hn
  go_enter Try.func20, Try.ntmps20
  go_upto_region 1 with fail
  rw [← hW0]
  clear hW0
  have a0 := cell_of A0.out 0
  have a1 := cell_of A0.out 1
  have a2 := cell_of A0.out 2
  have a3 := cell_of A0.out 3
  have a4 := cell_of A0.out 4
  have a5 := cell_of A0.out 5
  have a6 := cell_of A0.out 6
  have b0 := cell_of B0.out 0
  have b1 := cell_of B0.out 1
  have b2 := cell_of B0.out 2
  have b3 := cell_of B0.out 3
  have b4 := cell_of B0.out 4
  have b5 := cell_of B0.out 5
  have b6 := cell_of B0.out 6
  simp at a0 a1 a2 a3 a4 a5 a6 b0 b1 b2 b3 b4 b5 b6
  go_wp2_with (first
    | (refine callG (by kernel_rfl) 27 #[.tmp 19, .tmp 21] #[50, 50] rfl #[.agg #[.bool a, .int .i64 x, .bool b, .int .i64 t, .slice po n pc], .agg #[.bool a, .int .i64 x, .bool b, .int .i64 t, .slice qo n qc]] (by kernel_rfl) HSM.out ?_; rintro e w5 ⟨rfl, g5⟩; refine ⟨_, rfl, ?_⟩; simp only [Act.put, List.setIfInBounds_toArray, List.set_cons_zero, List.set_cons_succ]; have G5 := hid (Gr.trans G0.out g5); clear g5))
  go_ret
  exact ⟨rfl, G5.out⟩
end Go.Proofs.Ytalmiphddgmfbaa.Lt

namespace Go.Proofs.Ytalmiphddgmfbaa.Lt
open Go.RowKit Wd
attribute [local go_sem ↓] Go.wp_at_zero Go.wp_at_succ

/-- would it not wait, by its handle? -/
def gzc (cs : List Cn) (ch : Int) (sd : Bool) : Bool := if 1 ≤ ch then (match cs[(ch - 1).toNat]? with | some c => goes c sd | none => false) else false
/-- the trap of a handle -/
def tzc (cs : List Cn) (ch : Int) : Int := if 0 ≤ ch ∧ ch ≤ (cs.length : Int) then 0 else 4
theorem goa_any {t : Nat → Tg} {w : World} {b : Nat} {cs : List Cn} (h : Cs t w b cs) (hn : cs.length ≤ 1024) : GoA (.pointer (some ⟨b, 0, none⟩)) w (gzc cs) (tzc cs) := by
  intro W g ch sd
  by_cases hc : 1 ≤ ch ∧ ch ≤ (cs.length : Int)
  · obtain ⟨i, rfl⟩ : ∃ i : Nat, ch = (i : Int) + 1 := ⟨(ch - 1).toNat, by omega⟩
    obtain ⟨c, hx⟩ : ∃ c, cs[i]? = some c := ⟨_, List.getElem?_eq_getElem (by omega)⟩
    have e1 : gzc cs ((i : Int) + 1) sd = goes c sd := by
      unfold gzc
      rw [if_pos (by omega), show ((i : Int) + 1 - 1).toNat = i by omega, hx]
    have e2 : tzc cs ((i : Int) + 1) = 0 := by unfold tzc; rw [if_pos (by omega)]
    rw [e1, e2]
    exact goes_yes (h.gr g) hx hn sd
  · have e1 : gzc cs ch sd = false := by
      unfold gzc
      by_cases h1 : 1 ≤ ch
      · rw [if_pos h1, List.getElem?_eq_none (by omega)]
      · rw [if_neg h1]
    have e2 : tzc cs ch = if ch = 0 then 0 else 4 := by
      unfold tzc
      by_cases h0 : ch = 0
      · rw [if_pos h0, if_pos (by omega)]
      · rw [if_neg h0, if_neg (by omega)]
    rw [e1, e2]
    exact goes_no (h.gr g) ch sd hc
theorem Tn.low {t t' : Nat → Tg} {w w1 w2 : World} (hT : ∀ q, q < w.heap.size → t q = .no) (g : Gr w w1) (n : Tn t t' w1 w2) : Gr w w2 ∧ ∀ q, q < w.heap.size → t' q = .no :=
  ⟨Ch.trans g n.c (fun q hq => by
    by_cases h1 : q < w.heap.size
    · exact (hq (hT q h1)).elim
    · exact .inr (by omega)), fun q hq => n.o q (Nat.lt_of_lt_of_le hq g.size) (hT q hq)⟩
theorem Cs.hi {t : Nat → Tg} {w : World} {b : Nat} {cs : List Cn} (h : Cs t w b cs) : ∀ q, w.heap.size ≤ q → t q = .no := by
  obtain ⟨k, v, xs, M, clock, h⟩ := h
  intro q hq
  rcases Classical.em (t q = .no) with e | e
  · exact e
  · have := h.hi q e; omega
set_option maxRecDepth 20000 in
set_option maxHeartbeats 4000000 in
theorem awake_any (w : World) : Calls Try.prog 12 #[] w fun e w' => e = .returned (.bool true) ∧ Gr w w' := by
  have HN := hid (new_any w)
  go_enter Try.func12, Try.ntmps12
  go_upto_region 2 with (first
    | (go_at_call 30; refine HN.out.mono ?_; rintro e w1 ⟨b, t1, rfl, c1, g1, z1⟩; have C1 := hid c1; have G1 := hid g1; have Z1 := hid z1; clear c1 g1 z1))
  have HM := hid (make_yes C1.out 1 (by decide))
  go_upto_region 3 with (first
    | (go_at_call 31; refine HM.out.mono ?_; rintro e w2 ⟨rfl, t2, c2, n2⟩; have C2 := hid (show Cs t2 w2 b [⟨1, [], [], [], false⟩] from c2); obtain ⟨g2, z2⟩ := Tn.low Z1.out G1.out n2; have G2 := hid g2; have Z2 := hid z2; clear c2 n2 g2 z2))
  obtain ⟨W3, hW3⟩ : ∃ W3, W3 = (w2.alloc (.cells #[.bool true, .int .i64 1, .int .i64 4] 80)).alloc (.cells #[.int .u64 9] 34) := ⟨_, rfl⟩
  have g3 : Gr w2 W3 := by rw [hW3]; exact Ch.alloc (Ch.alloc (Gr.refl _) _) _
  have C3 := hid (C2.out.gr g3)
  have hps : Ls eP (· = w2.heap.size) W3 (.slice (some ⟨w2.heap.size, 0, none⟩) 1 1) [⟨true, 1, 4⟩] := by rw [hW3]; exact (Ls.single w2 (Pk.mk true 1 4) 80 _ rfl).alloc _
  have hds : Ls eU (· = w2.heap.size + 1) W3 (.slice (some ⟨w2.heap.size + 1, 0, none⟩) 1 1) [9] := by
    rw [hW3]
    have := Ls.single (enc := eU) (w2.alloc (.cells #[.bool true, .int .i64 1, .int .i64 4] 80)) 9 34 #[.int .u64 9] rfl
    simpa using this
  have hno : ∀ q, w2.heap.size ≤ q → t2 q = .no := C2.out.hi
  have gk11 : Gok 1 1 := by unfold Gok; omega
  have HS := hid (sel_goes (t := t2) (w := W3) (b := b) (cs := [⟨1, [4], [], [], false⟩]) (s := 1) (g := 1) (wa := false) (va := 0) (ok := true) (tr := 0) (ks := []) _ 1 1 [⟨true, 1, 4⟩] false _ [0] 0 true 1 4 _ hps (fun q e => hno q (by omega)) rfl (fun q hq => hno q (by have := g3.size; omega))
    (fun W p => order_ok _ W _ 1 1 [9] 1 (hds.gr p) (by intro d hd; simp at hd; omega) (by omega) (by omega))
    (fun W p => waits_any (C3.out.gr p) gk11)
    (fun W p => chall_any _ _ W _ 1 1 _ _ _ (hps.gr p) (by omega) (goa_any (C3.out.gr p) (by decide)))
    (fun W p oo co l => first_any _ _ _ W _ 1 1 _ _ 1 co [0] _ _ (hps.gr p) l (by omega) (by intro o ho; simp at ho; omega) (goa_any (C3.out.gr p) (by decide)))
    (fun W p => carry_send (fun q hq => hno q (by have := g3.size; have := p.size; omega)) (fun W' p' => (send_room (i := 0) ((C3.out.gr p).gr p') gk11 rfl (by decide) 4 rfl rfl (by decide) (by decide) rfl).mono (fun e w' h => SnR.mv h))))
  have hsz : w2.heap.size ≤ W3.heap.size := g3.size
  have G3 := hid (Gr.trans G2.out g3)
  rw [hW3] at HS
  clear hps hds hno gk11 g3 HM HN hsz
  go_upto_region 4 with (first
    | (go_at_call 18; refine HS.out.mono ?_; rintro e w4 ⟨mo, mn, mc, rfl, -, t4, c4, n4, -⟩; rw [← hW3] at n4; have C4 := hid c4; obtain ⟨g4, z4⟩ := Tn.low Z2.out G3.out n4; have G4 := hid g4; clear c4 n4 g4 z4))
  have HL := hid (fun (W : World) (p : Gr w4 W) => len_yes (i := 0) (C4.out.gr p) rfl (by decide))
  have GA := hid (show Gr w4 (w4.alloc (.cells #[.int .i64 0, .bool false, .bool false, .int .i64 0, .bool true, .int .i64 0, .slice mo mn mc] 52)) from Ch.alloc (Gr.refl _) _)
  go_wp2_with (first
    | (go_at_call 32; refine (HL.out _ GA.out).mono ?_; rintro e w5 ⟨rfl, hw⟩; subst hw))
  go_ret
  exact ⟨rfl, Gr.trans G4.out GA.out⟩
end Go.Proofs.Ytalmiphddgmfbaa.Lt

namespace Go.Proofs.Ytalmiphddgmfbaa.Lt
open Go.RowKit Wd

theorem rselect_any {P Q R : Nat → Prop} {w : World} {v lv dv : Value} {N : Nat} {cs : List Cn} {s g : Int} {ps : List Pk} {ds : List Int} (h : Rds P w v cs) (hG : Gd N cs) (hN : N + 16 < 4398046511104) (hk : Gok s g) (hps : Ls eP Q w lv ps) (hds : Ls eU R w dv ds) (hd : Dok ds) (df : Bool) :
    Calls Try.prog 19 #[v, .agg #[.int .i64 s, .int .i64 g], lv, .bool df, dv] w (RsR P w (selF cs s g ps df ds)) := by
  have hlow : ∀ r, (∀ e w', RsR (fun q => P q ∧ q < w.heap.size) w r e w' → RsR P w r e w') := by
    rintro r e w' ⟨v', mo, mn, mc, h1, h2, h3, h4⟩
    exact ⟨v', mo, mn, mc, h1, h2, h3.mono (fun q _ hq => hq.imp (fun p => p.1) id), h4⟩
  have h' : Rds (fun q => P q ∧ q < w.heap.size) w v cs := h.mono (fun q hq hp => ⟨hp, hq⟩)
  obtain ⟨lo, cl, rfl⟩ := h.form
  obtain ⟨ao, cap, rfl⟩ := hps.form
  obtain ⟨dp, dc, rfl⟩ := hds.form
  unfold selF
  by_cases h16 : 16 < ps.length
  · rw [if_pos h16]
    exact (rsel_err _ w lo _ cl cs s g ao _ cap ps df _ Q h' hps 1 (by decide) (fun W _ => rorder_arg _ _ W (by omega))).mono (hlow _)
  · rw [if_neg h16]
    by_cases hf : ds.length < ps.length
    · rw [if_pos hf]
      exact (rsel_err _ w lo _ cl cs s g ao _ cap ps df _ Q h' hps 120 (by decide) (fun W _ => rorder_few _ _ dc dp W (by omega) hf)).mono (hlow _)
    · rw [if_neg hf]
      have hO : ∀ W, Gr w W → Calls Try.prog 10 #[.int .i64 (ps.length : Int), .slice dp ds.length dc] W (OrR W ps.length (ord (ds.take ps.length))) := fun W p => rorder_ok R W dp _ dc ds _ (hds.gr p) hd (by omega) (by omega)
      by_cases hp : 0 < pls cs s g
      · rw [if_pos hp]
        exact (rsel_busy _ w lo _ cl cs s g ao _ cap ps df _ Q h' hps _ (hG.bd (by omega)) hG.n hp hO).mono (hlow _)
      · rw [if_neg hp]
        have hol : (ord (ds.take ps.length)).length = ps.length := by rw [ord_len, List.length_take]; omega
        have hor : ∀ o ∈ ord (ds.take ps.length), 0 ≤ o ∧ o < (ps.length : Int) := fun o ho => by
          have := (ord_all (ds.take ps.length)).lt ho
          rw [hol] at this
          exact this
        exact (rsel_walk _ w lo _ cl cs s g ao _ cap ps df _ Q h' hps N _ (fun q hq => hq.2) hG hN hk (by omega) hp hol hor hO).mono (hlow _)
theorem Gd.sel {N : Nat} {cs : List Cn} (h : Gd N cs) {s g : Int} (hk : Gok s g) (ps : List Pk) (df : Bool) (ds : List Int) : Gd (N + 16) (selF cs s g ps df ds).o.cs := by
  have h0 : Gd (N + 16) cs := h.up (by omega)
  unfold selF
  split
  · exact h0
  · split
    · exact h0
    · split
      · exact h0
      · split
        · unfold selG
          split
          · split
            · exact h0
            · exact (h.wf s g ps hk ps.length).up (by omega)
          · split
            · dsimp only
              split
              · exact (h.snd _ _ _ _ hk).up (by omega)
              · exact (h.rcv _ _ _ hk).up (by omega)
            · exact h0
        · exact h0
theorem sel_ks (cs : List Cn) (s g : Int) (ps : List Pk) (df : Bool) (ds : List Int) : (selF cs s g ps df ds).o.ks.length ≤ 1 := by
  unfold selF
  split
  · simp
  · split
    · simp
    · split
      · simp
      · split
        · unfold selG
          split
          · split <;> simp
          · split
            · dsimp only
              split
              · exact snd_ks _ _ _ _ _
              · exact rcv_ks _ _ _ _
            · simp
        · simp
end Go.Proofs.Ytalmiphddgmfbaa.Lt

namespace Go.Proofs.Ytalmiphddgmfbaa.Lt
open Go.RowKit Wd

structure Th where
  s : Int
  g : Int
  sd : Bool
  ch : Int
  v : Int
def eT (x : Th) : List Value := [.int .i64 x.s, .int .i64 x.g, .bool x.sd, .int .i64 x.ch, .int .i64 x.v]
theorem eT_len (x : Th) : (eT x).length = 5 := rfl
def thO (cs : List Cn) (x : Th) : Ot := if x.sd = true then sndF cs x.ch x.s x.g x.v else rcvF cs x.ch x.s x.g
def thR (cs : List Cn) (l : List Th) : List Cn := l.foldl (fun cs x => (thO cs x).cs) cs
theorem thR_snoc (cs : List Cn) (l : List Th) (x : Th) : thR cs (l ++ [x]) = (thO (thR cs l) x).cs := by unfold thR; rw [List.foldl_append]; rfl
theorem Gd.th {N : Nat} {cs : List Cn} (h : Gd N cs) (l : List Th) (hk : ∀ x ∈ l, Gok x.s x.g) : Gd (N + l.length) (thR cs l) := by
  induction l generalizing cs N with
  | nil => exact h
  | cons x r ih =>
    have h1 : Gd (N + 1) (thO cs x).cs := by
      unfold thO
      split
      · exact h.snd _ _ _ _ (hk x (List.mem_cons_self ..))
      · exact h.rcv _ _ _ (hk x (List.mem_cons_self ..))
    have h2 := ih h1 (fun y hy => hk y (List.mem_cons_of_mem _ hy))
    rw [List.length_cons]
    exact h2.up (by omega)
end Go.Proofs.Ytalmiphddgmfbaa.Lt
