/-
  ChooseReady holds, where what it reads is small (the second form): for any states and any select the call returns true, and its arguments read afterwards as they read before.
-/
import Derived.Test.YtalmiphddgmfbabGnList
import Derived.Test.YtalmiphddgmfbabCnBase
import Derived.Test.YtalmiphddgmfbabCpSnd
import Derived.Deep.Cut
import Derived.Test.YtalmiphddgmfbabCnMe
import Derived.Test.YtalmiphddgmfbabCpLdm
import Derived.Test.YtalmiphddgmfbabCnLd
import Derived.Test.YtalmiphddgmfbabGnGrd
import Derived.ProofKit
import Derived.OpenShut
import Derived.Carry
import Derived.Lib.SmallJoins
import Derived.Deep.Slices
import Derived.JoinedCond
import Derived.Test.YtalmiphddgmfbabCpAny
import Derived.Test.YtalmiphddgmfbabCnMoved
namespace Go.Proofs.Ytalmiphddgmfbab.Lt
/-- one more case: where its draw puts it -/
def so (l : List Int) (d : Int) : List Int := (l ++ [l.getD (d % ((l.length : Int) + 1)).toNat 0]).set (d % ((l.length : Int) + 1)).toNat (l.length : Int)
/-- the order of draws -/
def ord (ds : List Int) : List Int := ds.foldl so []
theorem so_len (l : List Int) (d : Int) : (so l d).length = l.length + 1 := by simp [so]
theorem ord_snoc (ds : List Int) (d : Int) : ord (ds ++ [d]) = so (ord ds) d := by simp [ord, List.foldl_append]
theorem foldl_len (ds l : List Int) : (ds.foldl so l).length = l.length + ds.length := by
  induction ds generalizing l with
  | nil => rfl
  | cons d r ih => rw [List.foldl_cons, ih, so_len, List.length_cons]; omega
theorem ord_len (ds : List Int) : (ord ds).length = ds.length := by rw [ord, foldl_len]; simp
theorem mod_lt (n : Nat) (d : Int) : (d % ((n : Int) + 1)).toNat < n + 1 := by
  have h1 := Int.emod_nonneg d (show ((n : Int) + 1) ≠ 0 by omega)
  have h2 := Int.emod_lt_of_pos d (show (0 : Int) < (n : Int) + 1 by omega)
  omega
/-- each number below its length is in it -/
def All (l : List Int) : Prop := ∀ n : Nat, n < l.length → (n : Int) ∈ l
theorem so_mem {l : List Int} {d x : Int} : x ∈ so l d ↔ x ∈ l ∨ x = (l.length : Int) := by
  have hj := mod_lt l.length d
  unfold so
  generalize (d % ((l.length : Int) + 1)).toNat = j at hj ⊢
  constructor
  · intro h
    obtain ⟨i, hi⟩ := List.mem_iff_getElem?.1 h
    rw [List.getElem?_set] at hi
    split at hi
    · split at hi
      · injection hi with hi; exact .inr hi.symm
      · cases hi
    · rename_i hne
      rcases Nat.lt_or_ge i l.length with h1 | h1
      · rw [List.getElem?_append_left h1] at hi
        exact .inl (List.mem_of_getElem? hi)
      · rw [List.getElem?_append_right h1] at hi
        have e : i = l.length := by
          rcases Nat.eq_zero_or_pos (i - l.length) with e | e
          · omega
          · rw [List.getElem?_eq_none (by simp; omega)] at hi; cases hi
        subst e
        simp at hi
        have hj2 : j < l.length := by omega
        rw [List.getElem?_eq_getElem hj2] at hi
        simp at hi
        exact .inl (by rw [← hi]; exact List.getElem_mem _)
  · rintro (h | h)
    · obtain ⟨i, hi⟩ := List.mem_iff_getElem?.1 h
      have hl := (List.getElem?_eq_some_iff.1 hi).1
      by_cases e : i = j
      · subst e
        refine List.mem_iff_getElem?.2 ⟨l.length, ?_⟩
        rw [List.getElem?_set_ne (by omega), List.getElem?_append_right (Nat.le_refl _)]
        simp [hi]
      · refine List.mem_iff_getElem?.2 ⟨i, ?_⟩
        rw [List.getElem?_set_ne (fun h => e h.symm), List.getElem?_append_left hl]
        exact hi
    · refine List.mem_iff_getElem?.2 ⟨j, ?_⟩
      rw [List.getElem?_set_self (by simp; omega), h]
theorem so_all {l : List Int} (h : All l) (d : Int) : All (so l d) := by
  intro n hn
  rw [so_len] at hn
  rcases Nat.lt_or_ge n l.length with h1 | h1
  · exact so_mem.2 (.inl (h n h1))
  · exact so_mem.2 (.inr (by omega))
theorem foldl_all (ds l : List Int) (h : All l) : All (ds.foldl so l) := by
  induction ds generalizing l with
  | nil => exact h
  | cons d r ih => exact ih _ (so_all h d)
theorem ord_all (ds : List Int) : All (ord ds) := foldl_all _ _ (fun n h => by simp at h)
/-- pigeons: a list that has each number below its length has each once, and no other -/
theorem All.perm {l : List Int} (h : All l) : l.Perm ((List.range l.length).map (fun n : Nat => (n : Int))) := by
  have key : ∀ (k : Nat) (l : List Int), l.length = k → (∀ n : Nat, n < k → (n : Int) ∈ l) → l.Perm ((List.range k).map (fun n : Nat => (n : Int))) := by
    intro k
    induction k with
    | zero => intro l hl _; rw [List.eq_nil_of_length_eq_zero hl]; exact .refl _
    | succ k ih =>
      intro l hl hm
      have hk := hm k (by omega)
      have hp := List.perm_cons_erase hk
      have hl2 : (l.erase (k : Int)).length = k := by rw [List.length_erase_of_mem hk]; omega
      have := ih (l.erase (k : Int)) hl2 (fun n hn => (List.mem_erase_of_ne (by omega)).2 (hm n (by omega)))
      rw [List.range_succ, List.map_append]
      exact (hp.trans (this.cons _)).trans (List.perm_append_singleton _ _).symm
  exact key _ l rfl h
theorem All.nodup {l : List Int} (h : All l) : l.Nodup := by
  refine (h.perm.nodup_iff).2 ?_
  exact List.Pairwise.map _ (fun a b hab e => hab (by omega)) List.nodup_range
theorem All.count {l : List Int} (h : All l) {n : Nat} (hn : n < l.length) : l.count (n : Int) = 1 := by
  have := h.nodup.count (a := (n : Int))
  rw [this, if_pos (h n hn)]
theorem All.lt {l : List Int} (h : All l) {x : Int} (hx : x ∈ l) : 0 ≤ x ∧ x < (l.length : Int) := by
  have := h.perm.mem_iff.1 hx
  simp at this
  omega
theorem all_of_count {l : List Int} (h : ∀ n : Nat, n < l.length → l.count (n : Int) = 1) : All l := fun n hn => List.count_pos_iff.1 (by rw [h n hn]; omega)
/-- the last case taken out again: what stood in the last place stands where it stood -/
def un (l : List Int) : List Int := (l.set (l.idxOf ((l.length : Int) - 1)) (l.getD (l.length - 1) 0)).take (l.length - 1)
def drw : Nat → List Int → List Int
  | 0, _ => []
  | n + 1, l => drw n (un l) ++ [((l.idxOf ((l.length : Int) - 1) : Nat) : Int)]
/-- the draws of an order -/
def drs (l : List Int) : List Int := drw l.length l
theorem un_len {l : List Int} : (un l).length = l.length - 1 := by simp [un]
theorem drw_len (n : Nat) (l : List Int) : (drw n l).length = n := by
  induction n generalizing l with
  | zero => rfl
  | succ n ih => simp [drw, ih]
theorem drs_len (l : List Int) : (drs l).length = l.length := drw_len _ _
theorem un_all {l : List Int} (h : All l) : All (un l) := by
  intro n hn
  rw [un_len] at hn
  have hp : 0 < l.length := by omega
  have hk : ((l.length : Int) - 1) ∈ l := by have := h (l.length - 1) (by omega); rwa [show (((l.length - 1 : Nat)) : Int) = (l.length : Int) - 1 by omega] at this
  obtain ⟨i, hi⟩ := List.mem_iff_getElem?.1 (h n (by omega))
  have hil := (List.getElem?_eq_some_iff.1 hi).1
  have hx := List.idxOf_lt_length_of_mem hk
  have hge : l[l.idxOf ((l.length : Int) - 1)] = (l.length : Int) - 1 := List.getElem_idxOf hx
  unfold un
  by_cases e : i = l.length - 1
  · refine List.mem_iff_getElem?.2 ⟨l.idxOf ((l.length : Int) - 1), ?_⟩
    have hne : l.idxOf ((l.length : Int) - 1) ≠ l.length - 1 := by
      intro e2
      have : l[l.idxOf ((l.length : Int) - 1)]? = some (n : Int) := by rw [e2, ← e]; exact hi
      rw [List.getElem?_eq_getElem hx] at this
      injection this with this
      omega
    rw [List.getElem?_take_of_lt (by omega), List.getElem?_set_self hx]
    simp [← e, hi]
  · refine List.mem_iff_getElem?.2 ⟨i, ?_⟩
    rw [List.getElem?_take_of_lt (by omega), List.getElem?_set_ne]
    · exact hi
    · intro e2
      have : l[l.idxOf ((l.length : Int) - 1)]? = some (n : Int) := by rw [e2]; exact hi
      rw [List.getElem?_eq_getElem hx] at this
      injection this with this
      omega
/-- taken out and put in again -/
theorem so_un {l : List Int} (h : All l) (hp : 0 < l.length) : so (un l) ((l.idxOf ((l.length : Int) - 1) : Nat) : Int) = l := by
  have hk : ((l.length : Int) - 1) ∈ l := by have := h (l.length - 1) (by omega); rwa [show (((l.length - 1 : Nat)) : Int) = (l.length : Int) - 1 by omega] at this
  have hx := List.idxOf_lt_length_of_mem hk
  have hge : l[l.idxOf ((l.length : Int) - 1)] = (l.length : Int) - 1 := List.getElem_idxOf hx
  have hu := un_len (l := l)
  have hm : ((((l.idxOf ((l.length : Int) - 1) : Nat) : Int)) % (((un l).length : Int) + 1)).toNat = l.idxOf ((l.length : Int) - 1) := by
    rw [Int.emod_eq_of_lt (by omega) (by omega)]; omega
  unfold so
  rw [hm]
  generalize hj : l.idxOf ((l.length : Int) - 1) = j at *
  apply List.ext_getElem?
  intro i
  have hul : (un l).length = l.length - 1 := hu
  by_cases e : j = i
  · subst e
    rw [List.getElem?_set_self (by simp; omega), List.getElem?_eq_getElem hx, hge, hul]
    congr 1
    omega
  · rw [List.getElem?_set_ne e]
    rcases Nat.lt_or_ge i (l.length - 1) with h1 | h1
    · rw [List.getElem?_append_left (by omega)]
      unfold un
      rw [List.getElem?_take_of_lt h1, hj, List.getElem?_set_ne e]
    · rw [List.getElem?_append_right (by omega)]
      rcases Nat.eq_or_lt_of_le h1 with h2 | h2
      · rw [hul, ← h2, Nat.sub_self, List.getElem?_cons_zero]
        have h3 : (un l)[j]? = some (l.getD (l.length - 1) 0) := by
          unfold un
          rw [hj, List.getElem?_take_of_lt (by omega), List.getElem?_set_self hx]
        simp [List.getD_eq_getElem?_getD, h3]
        rw [List.getElem?_eq_getElem (show l.length - 1 < l.length by omega)]; simp
      · rw [List.getElem?_eq_none (by simp; omega), List.getElem?_eq_none (by omega)]
theorem ord_drs {l : List Int} (h : All l) : ord (drs l) = l := by
  have key : ∀ (n : Nat) (l : List Int), l.length = n → All l → ord (drw n l) = l := by
    intro n
    induction n with
    | zero => intro l hl _; rw [List.eq_nil_of_length_eq_zero hl]; rfl
    | succ n ih =>
      intro l hl h
      rw [drw, ord_snoc, ih (un l) (by rw [un_len]; omega) (un_all h), so_un h (by omega)]
  exact key _ l rfl h
/-- put in and taken out again -/
theorem idx_so {l : List Int} (h : All l) (d : Int) : (so l d).idxOf (l.length : Int) = (d % ((l.length : Int) + 1)).toNat := by
  have hj := mod_lt l.length d
  have hn := (so_all h d).nodup
  have h1 : (so l d)[(d % ((l.length : Int) + 1)).toNat]? = some (l.length : Int) := by
    unfold so
    rw [List.getElem?_set_self (by simp; omega)]
  obtain ⟨h2, h3⟩ := List.getElem?_eq_some_iff.1 h1
  have h4 : (so l d).idxOf (l.length : Int) < (so l d).length := List.idxOf_lt_length_of_mem (List.mem_of_getElem? h1)
  exact (List.getElem?_inj h4 hn).1 (by rw [h1, List.getElem?_eq_getElem h4, List.getElem_idxOf h4])
theorem un_so {l : List Int} (h : All l) (d : Int) : un (so l d) = l := by
  have hj := mod_lt l.length d
  have hi := idx_so h d
  have hl := so_len l d
  unfold un
  rw [hl]
  have e1 : (((l.length + 1 : Nat) : Int) - 1) = (l.length : Int) := by omega
  rw [e1, hi, Nat.add_sub_cancel]
  apply List.ext_getElem?
  intro i
  rcases Nat.lt_or_ge i l.length with h1 | h1
  · rw [List.getElem?_take_of_lt h1]
    by_cases e : (d % ((l.length : Int) + 1)).toNat = i
    · rw [e, List.getElem?_set_self (by omega)]
      have : (so l d)[l.length]? = l[i]? := by
        unfold so
        rw [e, List.getElem?_set_ne (by omega), List.getElem?_append_right (Nat.le_refl _)]
        simp [h1]
      rw [List.getD_eq_getElem?_getD, this, List.getElem?_eq_getElem h1]; rfl
    · rw [List.getElem?_set_ne e]
      unfold so
      rw [List.getElem?_set_ne e, List.getElem?_append_left h1]
  · rw [List.getElem?_eq_none (by simp; omega), List.getElem?_eq_none h1]
/-- each at most its place -/
def smd (k : Nat) (ds : List Int) : List Int := ds.mapIdx (fun i d => d % (((k + i : Nat) : Int) + 1))
theorem drs_so {l : List Int} (h : All l) (d : Int) : drs (so l d) = drs l ++ [d % ((l.length : Int) + 1)] := by
  unfold drs
  have e1 : ((((so l d).length : Nat) : Int) - 1) = (l.length : Int) := by rw [so_len]; omega
  rw [so_len]
  rw [drw, un_so h d, e1, idx_so h d]
  have h1 := Int.emod_nonneg d (show ((l.length : Int) + 1) ≠ 0 by omega)
  congr 2
  omega
/-- small draws: the i-th at most i -/
def Sml (ds : List Int) : Prop := ∀ (i : Nat) (d : Int), ds[i]? = some d → 0 ≤ d ∧ d ≤ (i : Int)
theorem drs_ord {ds : List Int} (h : Sml ds) : drs (ord ds) = ds := by
  have key : ∀ (n : Nat) (ds : List Int), ds.length = n → Sml ds → drs (ord ds) = ds := by
    intro n
    induction n with
    | zero => intro ds hl _; rw [List.eq_nil_of_length_eq_zero hl]; rfl
    | succ n ih =>
      intro ds hl h
      obtain ⟨r, d, rfl⟩ : ∃ r d, ds = r ++ [d] := ⟨ds.dropLast, ds.getLast (by intro e; rw [e] at hl; simp at hl), (List.dropLast_concat_getLast _).symm⟩
      have hr : r.length = n := by simp at hl; exact hl
      rw [ord_snoc, drs_so (ord_all r), ih r hr (fun i x hx => h i x (by rw [List.getElem?_append_left (List.getElem?_eq_some_iff.1 hx).1]; exact hx)), ord_len]
      have := h r.length d (by simp)
      rw [Int.emod_eq_of_lt this.1 (by omega)]
  exact key _ ds rfl h
theorem ord_inj {a b : List Int} (ha : Sml a) (hb : Sml b) (h : ord a = ord b) : a = b := by rw [← drs_ord ha, ← drs_ord hb, h]
end Go.Proofs.Ytalmiphddgmfbab.Lt

namespace Go.Proofs.Ytalmiphddgmfbab.Lt
open Go.RowKit Wd
attribute [local go_sem ↓] Go.wp_at_zero Go.wp_at_succ

/-- a draw's cell -/
def eU (n : Int) : List Value := [.int .u64 n]
theorem eU_len (n : Int) : (eU n).length = 1 := rfl
theorem eU_one (xs : List Int) : ∀ u ∈ xs.flatMap eU, u.oneCell' = true := by
  intro u hu
  rw [List.mem_flatMap] at hu
  obtain ⟨x, _, hx⟩ := hu
  simp only [eU, List.mem_cons, List.not_mem_nil, or_false] at hx
  rw [hx]
  rfl
/-- draws that can be -/
def Dok (ds : List Int) : Prop := ∀ d ∈ ds, 0 ≤ d ∧ d ≤ 18446744073709551615
theorem int_info : (Try.prog.info? 3).map (fun i => (i.zero, i.size, i.bytes)) = some (some (.int .i64 0), 1, 8) := by kernel_rfl
theorem u64_info : (Try.prog.info? 77).map (fun i => (i.zero, i.size, i.bytes)) = some (some (.int .u64 0), 1, 8) := by kernel_rfl
theorem zeros_cells (n : Nat) : (List.replicate n (0 : Int)).flatMap eI = List.replicate n (.int .i64 0) := by
  induction n with
  | zero => rfl
  | succ n ih => rw [List.replicate_succ, List.flatMap_cons, ih]; rfl
theorem zerosU_cells (n : Nat) : (List.replicate n (0 : Int)).flatMap eU = List.replicate n (.int .u64 0) := by
  induction n with
  | zero => rfl
  | succ n ih => rw [List.replicate_succ, List.flatMap_cons, ih]; rfl
/-- one of an owned list's numbers: its cell, and what is left when it is set -/
theorem Ow.at1 {T base g n cap : Nat} {w : World} {xs : List Int} {i : Nat} {x : Int} (h : Ow eI 1 T base w (.slice (some ⟨g, 0, none⟩) n cap) xs) (hx : xs[i]? = some x) :
    w.cell? ⟨g, i, none⟩ = some (.int .i64 x) ∧ g < w.heap.size ∧ w.frozen? ⟨g, i, none⟩ = false ∧ ∀ u, Ow eI 1 T base (w.setCell ⟨g, i, none⟩ (.int .i64 u)) (.slice (some ⟨g, 0, none⟩) n cap) (xs.set i u) := by
  obtain ⟨g', cap', e, -, h2, -, h4, h5, h6⟩ := h.get eI_len hx
  injection e with e1 e2 e3
  injection e1 with e1
  injection e1 with e1 _ _
  subst e1
  refine ⟨by simpa using h4 0 _ rfl, h2, h5 _, fun u => by simpa using h6 0 (.int .i64 u) u (by omega) rfl⟩
/-- the same of an owned list of draws -/
theorem Ow.at1U {T base g n cap : Nat} {w : World} {xs : List Int} {i : Nat} {x : Int} (h : Ow eU 1 T base w (.slice (some ⟨g, 0, none⟩) n cap) xs) (hx : xs[i]? = some x) :
    w.cell? ⟨g, i, none⟩ = some (.int .u64 x) ∧ g < w.heap.size ∧ w.frozen? ⟨g, i, none⟩ = false ∧ ∀ u, Ow eU 1 T base (w.setCell ⟨g, i, none⟩ (.int .u64 u)) (.slice (some ⟨g, 0, none⟩) n cap) (xs.set i u) := by
  obtain ⟨g', cap', e, -, h2, -, h4, h5, h6⟩ := h.get eU_len hx
  injection e with e1 e2 e3
  injection e1 with e1
  injection e1 with e1 _ _
  subst e1
  refine ⟨by simpa using h4 0 _ rfl, h2, h5 _, fun u => by simpa using h6 0 (.int .u64 u) u (by omega) rfl⟩
/-- a step of Order in a list that is made ahead -/
theorem so_in (l : List Int) (d x : Int) (k : Nat) (hx : (l ++ List.replicate (k + 1) 0)[(d % ((l.length : Int) + 1)).toNat]? = some x) :
    ((l ++ List.replicate (k + 1) 0).set l.length x).set (d % ((l.length : Int) + 1)).toNat (l.length : Int) = so l d ++ List.replicate k 0 := by
  have hj := mod_lt l.length d
  unfold so
  generalize (d % ((l.length : Int) + 1)).toNat = j at hj hx ⊢
  have e1 : (l ++ List.replicate (k + 1) 0).set l.length x = (l ++ [x]) ++ List.replicate k 0 := by
    rw [List.replicate_succ, List.set_append_right _ _ (Nat.le_refl _), Nat.sub_self, List.set_cons_zero]
    simp
  rw [e1, List.set_append_left _ _ (by simp; omega)]
  congr 1
  by_cases h : j < l.length
  · rw [List.getElem?_append_left h] at hx
    rw [List.getD_eq_getElem?_getD, hx]
    rfl
  · have e : j = l.length := by omega
    subst e
    rw [List.set_append_right _ _ (Nat.le_refl _), List.set_append_right _ _ (Nat.le_refl _)]
    simp
/-- an order that is told -/
def OrR (w : World) (n : Nat) (l : List Int) (e : Ending) (w' : World) : Prop := ∃ ao cap, e = .returned (.tuple #[.slice ao n cap, .int .i64 0]) ∧ Ow eI 1 3 w.heap.size w' (.slice ao n cap) l ∧ Gr w w'
theorem order_arg (n : Int) (v : Value) (w : World) (h : ¬ (0 ≤ n ∧ n ≤ 16)) : Calls Try.prog 16 #[.int .i64 n, v] w fun e w' => e = .returned (.tuple #[.slice none 0 0, .int .i64 1]) ∧ w' = w := by
  by_cases h0 : n < 0
  · clear h
    go_enter Try.func16, Try.ntmps16
    go_wp2
    exact bodyPost_ret (v := .tuple #[.slice none 0 0, .int .i64 1]) (by simp [results, Try.results16, go_sem]) rfl ⟨rfl, rfl⟩
  · have h1 : 16 < n := by omega
    clear h
    go_enter Try.func16, Try.ntmps16
    go_wp2
    exact bodyPost_ret (v := .tuple #[.slice none 0 0, .int .i64 1]) (by simp [results, Try.results16, go_sem]) rfl ⟨rfl, rfl⟩
theorem order_few (n m cap : Nat) (ao : Option Addr) (w : World) (h : n ≤ 16) (hm : m < n) : Calls Try.prog 16 #[.int .i64 (n : Int), .slice ao m cap] w fun e w' => e = .returned (.tuple #[.slice none 0 0, .int .i64 120]) ∧ w' = w := by
  have d0 : ¬ (n : Int) < 0 := by omega
  have d1 : ¬ (16 : Int) < (n : Int) := by omega
  have d2 : (m : Int) < (n : Int) := by omega
  go_enter Try.func16, Try.ntmps16
  go_wp2
  exact bodyPost_ret (v := .tuple #[.slice none 0 0, .int .i64 120]) (by simp [results, Try.results16, go_sem]) rfl ⟨rfl, rfl⟩
set_option maxRecDepth 20000 in
set_option maxHeartbeats 2000000 in
theorem order_ok (P : Nat → Prop) (w : World) (ao : Option Addr) (m cap : Nat) (ds : List Int) (n : Nat) (h : Ls eU P w (.slice ao m cap) ds) (hd : Dok ds) (hn : n ≤ 16) (hm : n ≤ m) : Calls Try.prog 16 #[.int .i64 (n : Int), .slice ao m cap] w (OrR w n (ord (ds.take n))) := by
  have d0 : ¬ (n : Int) < 0 := by omega
  have d1 : ¬ (16 : Int) < (n : Int) := by omega
  have d2 : ¬ (m : Int) < (n : Int) := by omega
  obtain ⟨i0, hi, hz0, hz1, hz2⟩ := info_parts int_info
  have HL := hid h.len.1
  have HB := hid h
  have HD := hid hd
  clear h hd
  go_enter Try.func16, Try.ntmps16
  go_wp2_with (first | (at_make; refine wpList_make_full _ rfl _ _ 50 rfl w.heap.size 3 i0 _ 1 Try.underlying50 hi hz0 hz1 _ _ _ _ n rfl rfl (by omega) (by omega) (by rw [hz2]; omega) (by unfold maxLen; omega) (by simp) ?_; intro w1 hown hgrow; have ho : Ow eI 1 3 w.heap.size w1 (.slice (some ⟨w.heap.size, 0, none⟩) n n) (List.replicate n 0) := (by have h2 := toList_madeCells_one (.int .i64 0) n; rw [Nat.mul_one] at hown; unfold Ow; rw [List.length_replicate, zeros_cells, ← h2]; exact hown); have HG1 := hid (show Gr w w1 from (Ch.refl NoB w).grown hgrow (fun k hk => by cases hk)); have HO1 := hid ho; clear ho hown hgrow))
  go_loopg [23] n (fun q i wr => ∃ (j : Nat), j + q = n ∧ i = .int .i64 (j : Int) ∧ Ow eI 1 3 w.heap.size wr (.slice (some ⟨w.heap.size, 0, none⟩) n n) (ord (ds.take j) ++ List.replicate (n - j) 0) ∧ Gr w wr)
  case atStart => exact ⟨0, by omega, rfl, HO1.out, HG1.out⟩
  case round =>
    obtain ⟨j, hjk, rfl, hO, hG⟩ := hrel
    have HO := hid hO
    have HG := hid hG
    clear hO hG
    by_cases hj : j < n
    · obtain ⟨d, hx⟩ : ∃ x, ds[j]? = some x := ⟨_, List.getElem?_eq_getElem (by rw [← HL.out]; omega)⟩
      obtain ⟨gg, oo, cap', hv, _, hgl, _, hcs⟩ := (HB.out.gr HG.out).get eU_len hx
      injection hv with hv1 hv2 hv3
      subst hv1
      have c0 := hcs 0 _ rfl
      simp only [Nat.mul_one, Nat.add_zero] at c0
      have j0 : (0 : Int) ≤ (j : Int) := by omega
      have j1 : (j : Int) < (m : Int) := by omega
      have j2 : (j : Int) < (n : Int) := by omega
      have hdd := HD.out d (List.mem_of_getElem? hx)
      have hjj := mod_lt j d
      have hll : (ord (ds.take j)).length = j := by rw [ord_len, List.length_take]; have := HL.out; omega
      obtain ⟨jj, hjd⟩ : ∃ k, (d % ((j : Int) + 1)).toNat = k := ⟨_, rfl⟩
      rw [hjd] at hjj
      have dm : d.tmod ((j : Int) + 1) = (jj : Int) := by
        rw [Int.tmod_eq_emod_of_nonneg hdd.1]
        have := Int.emod_nonneg d (show ((j : Int) + 1) ≠ 0 by omega)
        omega
      have k0 : (0 : Int) ≤ (jj : Int) := by omega
      have k1 : (jj : Int) < (n : Int) := by omega
      have hlen : (ord (ds.take j) ++ List.replicate (n - j) 0).length = n := by rw [List.length_append, hll, List.length_replicate]; omega
      obtain ⟨x, hxx⟩ : ∃ x, (ord (ds.take j) ++ List.replicate (n - j) 0)[jj]? = some x := ⟨_, List.getElem?_eq_getElem (by rw [hlen]; omega)⟩
      obtain ⟨y, hyy⟩ : ∃ x, (ord (ds.take j) ++ List.replicate (n - j) 0)[j]? = some x := ⟨_, List.getElem?_eq_getElem (by rw [hlen]; omega)⟩
      obtain ⟨c1, g1, f1, -⟩ := HO.out.at1 hxx
      obtain ⟨c2, -, f2, s2⟩ := HO.out.at1 hyy
      have HO2 := hid (s2 x)
      have hzz : ∃ z, ((ord (ds.take j) ++ List.replicate (n - j) 0).set j x)[jj]? = some z := ⟨_, List.getElem?_eq_getElem (by rw [List.length_set, hlen]; omega)⟩
      obtain ⟨z, hzz⟩ := hzz
      obtain ⟨c3, g3, f3, s3⟩ := HO2.out.at1 hzz
      have HN := hid (s3 (j : Int))
      have HT : Hid (((ord (ds.take j) ++ List.replicate (n - j) 0).set j x).set jj (j : Int) = ord (ds.take (j + 1)) ++ List.replicate (n - (j + 1)) 0) := hid (by
        rw [take_one hx, ord_snoc]
        have e := so_in (ord (ds.take j)) d x (n - (j + 1)) (by rw [hll, hjd, show n - (j + 1) + 1 = n - j by omega]; exact hxx)
        rw [hll, hjd, show n - (j + 1) + 1 = n - j by omega] at e
        exact e)
      clear hcs hv2 hv3 hx hdd hll hjd hlen hxx hyy hzz s2 s3
      go_wp2_with fail
      go_roundg (gk - 1)
      case measure => omega
      case rel => exact ⟨j + 1, by omega, by simp, by rw [← HT.out]; exact HN.out, Ch.fresh (Ch.fresh HG.out (Nat.le_refl _) _ _) (Nat.le_refl _) _ _⟩
    · have jn : ¬ (j : Int) < (n : Int) := by omega
      obtain rfl : j = n := by omega
      go_wp2
      refine bodyPost_ret (v := .tuple #[.slice (some ⟨w.heap.size, 0, none⟩) j j, .int .i64 0]) (by simp [results, Try.results16, go_sem]) rfl ⟨_, _, rfl, ?_, HG.out⟩
      have := HO.out
      rwa [Nat.sub_self, List.replicate_zero, List.append_nil] at this
end Go.Proofs.Ytalmiphddgmfbab.Lt

namespace Go.Proofs.Ytalmiphddgmfbab.Lt
open Go.RowKit Wd
attribute [local go_sem ↓] Go.wp_at_zero Go.wp_at_succ

/-- a case: whether it sends, its channel, its value -/
structure Pk where
  sd : Bool
  ch : Int
  v : Int
def eP (x : Pk) : List Value := [.bool x.sd, .int .i64 x.ch, .int .i64 x.v]
theorem eP_len (x : Pk) : (eP x).length = 3 := rfl
theorem eP_one (xs : List Pk) : ∀ u ∈ xs.flatMap eP, u.oneCell' = true := by
  intro u hu
  rw [List.mem_flatMap] at hu
  obtain ⟨x, _, hx⟩ := hu
  simp only [eP, List.mem_cons, List.not_mem_nil, or_false] at hx
  rcases hx with h | h | h <;> rw [h] <;> rfl
/-- Goes of these channels answers so -/
def GoA (cv : Value) (w : World) (gz : Int → Bool → Bool) (tz : Int → Int) : Prop := ∀ W, Gr w W → ∀ ch sd, Calls Try.prog 9 #[cv, .int .i64 ch, .bool sd] W fun e w' => e = .returned (.tuple #[.bool (gz ch sd), .int .i64 (tz ch)]) ∧ Gr W w'
set_option maxRecDepth 20000 in
set_option maxHeartbeats 2000000 in
theorem chall_any (cv : Option Addr) (P : Nat → Prop) (w : World) (ao : Option Addr) (n cap : Nat) (ps : List Pk) (gz : Int → Bool → Bool) (tz : Int → Int) (h : Ls eP P w (.slice ao n cap) ps) (hn : n ≤ 4398046511104) (hG : GoA (.pointer cv) w gz tz) : Calls Try.prog 28 #[.pointer cv, .slice ao n cap] w fun e w' => e = .returned (.bool (ps.all (fun p => tz p.ch == 0))) ∧ Gr w w' := by
  have HL := hid h.len.1
  have HB := hid h
  have HGo := hid hG
  clear h hG
  go_enter Try.func28, Try.ntmps28
  go_wp2_with fail
  go_loopg [11] n (fun q i wr => ∃ (j : Nat), j + q = n ∧ i = .int .i64 (j : Int) ∧ (ps.take j).all (fun p => tz p.ch == 0) = true ∧ Gr w wr)
  case atStart => exact ⟨0, by omega, rfl, rfl, Gr.refl _⟩
  case round =>
    obtain ⟨j, hjk, rfl, hN, hG⟩ := hrel
    have HN := hid hN
    have HG := hid hG
    clear hN hG
    by_cases hj : j < n
    · obtain ⟨⟨x0, x1, x2⟩, hx⟩ : ∃ x, ps[j]? = some x := ⟨_, List.getElem?_eq_getElem (by rw [← HL.out]; omega)⟩
      obtain ⟨gg, oo, cap', hv, _, hgl, _, hcs⟩ := (HB.out.gr HG.out).get eP_len hx
      injection hv with hv1 hv2 hv3
      subst hv1
      have c0 := hcs 0 _ rfl
      have c1 := hcs 1 _ rfl
      have c2 := hcs 2 _ rfl
      dsimp only [Nat.add_zero] at c0 c1 c2
      have j0 : (0 : Int) ≤ (j : Int) := by omega
      have j1 : (j : Int) < (n : Int) := by omega
      have HX := hid hx
      have G5 := hid (show Gr w (wr.alloc (.cells #[.bool x0, .int .i64 x1, .int .i64 x2] 39)) from Ch.alloc HG.out _)
      have HT := hid (take_one hx)
      obtain ⟨z, hz⟩ : ∃ z, z = tz x1 := ⟨_, rfl⟩
      have HZ := hid hz
      clear hcs hv2 hv3 hx hgl hz
      by_cases e : z = 0
      · have HE := hid e
        subst e
        go_wp2_with (go_at_call 9; refine (HGo.out _ G5.out x1 x0).mono ?_; rw [← HZ.out]; rintro e w5 ⟨rfl, g5⟩; have G6 := hid (Gr.trans G5.out g5); clear g5)
        go_roundg (gk - 1)
        case measure => omega
        case rel => exact ⟨j + 1, by omega, by simp, by rw [HT.out, List.all_append, HN.out]; simp [← HZ.out], G6.out⟩
      · have e1 : (z == 0) = false := by simpa using e
        have HI := hid (show ps.all (fun p => tz p.ch == 0) = false from by
          rw [List.all_eq_false]
          exact ⟨_, List.mem_of_getElem? HX.out, by rw [← HZ.out]; simpa using e⟩)
        clear e
        go_wp2_with (go_at_call 9; refine (HGo.out _ G5.out x1 x0).mono ?_; rw [← HZ.out]; rintro e w5 ⟨rfl, g5⟩; have G6 := hid (Gr.trans G5.out g5); clear g5)
        go_ret
        exact ⟨by rw [HI.out]; rfl, G6.out⟩
    · have jn : ¬ (j : Int) < (n : Int) := by omega
      have HI := hid (show ps.all (fun p => tz p.ch == 0) = true from by have := HN.out; rwa [List.take_of_length_le (by rw [← HL.out]; omega)] at this)
      go_wp2
      go_ret
      exact ⟨by rw [HI.out]; rfl, HG.out⟩
/-- the first that goes on, or -1 -/
def fst1 (gz : Int → Bool → Bool) (ps : List Pk) (os : List Int) : Int := (os.find? (fun o => match ps[o.toNat]? with | some p => gz p.ch p.sd | none => false)).getD (-1)
theorem fst1_yes {gz : Int → Bool → Bool} {ps : List Pk} {os : List Int} {j : Nat} {o : Int} {p : Pk} (hN : (os.take j).find? (fun o => match ps[o.toNat]? with | some p => gz p.ch p.sd | none => false) = none) (ho : os[j]? = some o) (hp : ps[o.toNat]? = some p) (hg : gz p.ch p.sd = true) : fst1 gz ps os = o := by
  unfold fst1
  have e : os = os.take j ++ (o :: os.drop (j + 1)) := by
    have hl := (List.getElem?_eq_some_iff.1 ho).1
    have := List.take_append_drop j os
    rw [List.drop_eq_getElem_cons hl] at this
    rw [(List.getElem?_eq_some_iff.1 ho).2] at this
    exact this.symm
  rw [e, List.find?_append, hN, List.find?_cons]
  simp [hp, hg]
theorem fst1_step {gz : Int → Bool → Bool} {ps : List Pk} {os : List Int} {j : Nat} {o : Int} {p : Pk} (hN : (os.take j).find? (fun o => match ps[o.toNat]? with | some p => gz p.ch p.sd | none => false) = none) (ho : os[j]? = some o) (hp : ps[o.toNat]? = some p) (hg : gz p.ch p.sd = false) : (os.take (j + 1)).find? (fun o => match ps[o.toNat]? with | some p => gz p.ch p.sd | none => false) = none := by
  rw [take_one ho, List.find?_append, hN]
  simp [hp, hg]
set_option maxRecDepth 20000 in
set_option maxHeartbeats 4000000 in
theorem first_any (cv : Option Addr) (P Q : Nat → Prop) (w : World) (ao : Option Addr) (n cap : Nat) (ps : List Pk) (oo : Option Addr) (m co : Nat) (os : List Int) (gz : Int → Bool → Bool) (tz : Int → Int) (h : Ls eP P w (.slice ao n cap) ps) (ho : Ls eI Q w (.slice oo m co) os) (hm : m ≤ 4398046511104) (hI : ∀ o ∈ os, 0 ≤ o ∧ o < (n : Int)) (hG : GoA (.pointer cv) w gz tz) : Calls Try.prog 29 #[.pointer cv, .slice ao n cap, .slice oo m co] w fun e w' => e = .returned (.int .i64 (fst1 gz ps os)) ∧ Gr w w' := by
  have HL := hid h.len.1
  have HM := hid ho.len.1
  have HB := hid h
  have HO := hid ho
  have HGo := hid hG
  have HI := hid hI
  clear h ho hG hI
  go_enter Try.func29, Try.ntmps29
  go_wp2_with fail
  go_loopg [13] m (fun q i wr => ∃ (j : Nat), j + q = m ∧ i = .int .i64 (j : Int) ∧ (os.take j).find? (fun o => match ps[o.toNat]? with | some p => gz p.ch p.sd | none => false) = none ∧ Gr w wr)
  case atStart => exact ⟨0, by omega, rfl, rfl, Gr.refl _⟩
  case round =>
    obtain ⟨j, hjk, rfl, hN, hG⟩ := hrel
    have HN := hid hN
    have HG := hid hG
    clear hN hG
    by_cases hj : j < m
    · obtain ⟨o, hx⟩ : ∃ x, os[j]? = some x := ⟨_, List.getElem?_eq_getElem (by rw [← HM.out]; omega)⟩
      obtain ⟨gg, ob, cap', hv, _, hgl, _, hcs⟩ := (HO.out.gr HG.out).get eI_len hx
      injection hv with hv1 hv2 hv3
      subst hv1
      have hoo := HI.out o (List.mem_of_getElem? hx)
      obtain ⟨k, rfl⟩ : ∃ k : Nat, o = (k : Int) := ⟨o.toNat, by omega⟩
      have hkn : k < n := by omega
      obtain ⟨⟨x0, x1, x2⟩, hy⟩ : ∃ x, ps[k]? = some x := ⟨_, List.getElem?_eq_getElem (by rw [← HL.out]; omega)⟩
      obtain ⟨gp, op, capp, hvp, _, hgp, _, hps⟩ := (HB.out.gr HG.out).get eP_len hy
      injection hvp with hvp1 hvp2 hvp3
      subst hvp1
      have d0 := hcs 0 _ rfl
      simp only [Nat.mul_one, Nat.add_zero] at d0
      have c0 := hps 0 _ rfl
      have c1 := hps 1 _ rfl
      dsimp only [Nat.add_zero] at c0 c1
      have j0 : (0 : Int) ≤ (j : Int) := by omega
      have j1 : (j : Int) < (m : Int) := by omega
      have k0 : (0 : Int) ≤ (k : Int) := by omega
      have k1 : (k : Int) < (n : Int) := by omega
      have HX := hid hx
      have HY := hid hy
      have HK := hid (show (k : Int).toNat = k from Int.toNat_natCast k)
      obtain ⟨z, hz⟩ : ∃ z, z = gz x1 x0 := ⟨_, rfl⟩
      have HZ := hid hz
      clear hcs hv2 hv3 hx hgl hz hps hvp2 hvp3 hy hgp hoo
      cases z with
      | true =>
        have HI2 := hid (fst1_yes HN.out HX.out (by rw [HK.out]; exact HY.out) HZ.out.symm)
        go_wp2_with fail
        go_region_with (go_at_call 9; refine (HGo.out _ (show Gr w wr.drew from Ch.drew HG.out) x1 x0).mono ?_; rw [← HZ.out]; rintro e w5 ⟨rfl, g5⟩; have G6 := hid (Gr.trans (show Gr w wr.drew from Ch.drew HG.out) g5); clear g5)
        all_goals go_wp2
        all_goals go_ret
        all_goals exact ⟨by rw [HI2.out]; rfl, G6.out⟩
      | false =>
        have HI2 := hid (fst1_step HN.out HX.out (by rw [HK.out]; exact HY.out) HZ.out.symm)
        go_wp2_with fail
        go_region_with (go_at_call 9; refine (HGo.out _ (show Gr w wr.drew from Ch.drew HG.out) x1 x0).mono ?_; rw [← HZ.out]; rintro e w5 ⟨rfl, g5⟩; have G6 := hid (Gr.trans (show Gr w wr.drew from Ch.drew HG.out) g5); clear g5)
        all_goals go_wp2
        all_goals go_roundg (gk - 1)
        all_goals first | omega | skip
        all_goals exact ⟨j + 1, by omega, by simp, HI2.out, G6.out⟩
    · have jn : ¬ (j : Int) < (m : Int) := by omega
      have HI2 := hid (show fst1 gz ps os = -1 from by have := HN.out; rw [List.take_of_length_le (by rw [← HM.out]; omega)] at this; unfold fst1; rw [this]; rfl)
      go_wp2
      go_ret
      exact ⟨by rw [HI2.out]; rfl, HG.out⟩
end Go.Proofs.Ytalmiphddgmfbab.Lt

namespace Go.Proofs.Ytalmiphddgmfbab.Lt
open Go.RowKit Wd
attribute [local go_sem ↓] Go.wp_at_zero Go.wp_at_succ

/-- what carryOut tells and leaves -/
def CaR (t : Nat → Tg) (w : World) (b : Nat) (cs : List Cn) (wa : Bool) (va : Int) (ok : Bool) (tr : Int) (ks : List Wk) (e : Ending) (w' : World) : Prop := ∃ mo mn mc, e = .returned (.agg #[.bool wa, .int .i64 va, .bool ok, .int .i64 tr, .slice mo mn mc]) ∧ Ow eK 6 114 w.heap.size w' (.slice mo mn mc) ks ∧ ∃ t', Cs t' w' b cs ∧ Tn t t' w w' ∧ ∀ q, Blk (.slice mo mn mc) q → t' q = .no
set_option maxRecDepth 20000 in
set_option maxHeartbeats 4000000 in
theorem carry_send {t : Nat → Tg} {w : World} {b : Nat} {cs : List Cn} {s g ch v : Int} {wa : Bool} {va : Int} {ok : Bool} {tr : Int} {ks : List Wk} (hi : ∀ q, w.heap.size ≤ q → t q = .no) (hS : ∀ W, Gr w W → Calls Try.prog 50 #[.pointer (some ⟨b, 0, none⟩), .int .i64 ch, .agg #[.int .i64 s, .int .i64 g], .int .i64 v] W (MvR t W b cs wa va ok tr ks 0)) :
    Calls Try.prog 30 #[.pointer (some ⟨b, 0, none⟩), .agg #[.int .i64 s, .int .i64 g], .agg #[.bool true, .int .i64 ch, .int .i64 v]] w (CaR t w b cs wa va ok tr ks) := by
  obtain ⟨W0, hW0⟩ : ∃ W0, W0 = ((w.alloc (.cells #[.int .i64 s, .int .i64 g] 24)).alloc (.cells #[.bool true, .int .i64 ch, .int .i64 v] 39)).alloc (.cells mz 43) := ⟨_, rfl⟩
  have g0 : Gr w W0 := by rw [hW0]; exact Ch.alloc (Ch.alloc (Ch.alloc (Gr.refl w) _) _) _
  have HS := hid (hS W0 g0)
  have hbx : W0.heap[w.heap.size]? = some (.cells #[.int .i64 s, .int .i64 g] 24 (0, 0)) := by rw [hW0]; exact al_blk (al_blk (MapKept.heap_alloc w _).1 _) _
  have hmv : W0.heap[w.heap.size + 2]? = some (.cells mz 43 (0, 0)) := by rw [hW0]; exact al_at _ (by simp)
  have HMV := hid hmv
  have HNO := hid (hi (w.heap.size + 2) (by omega))
  have G0 := hid g0
  rw [hW0] at HS hbx
  clear hS hmv hi g0
  go_enter Try.func30, Try.ntmps30
  go_wp2_with (first
    | (refine wpList_load_row rfl 24 (.tmp 4) rfl w.heap.size rfl _ _ _ _ hbx Try.underlying24 rfl gid_size ?_)
    | (go_at_call 50; refine HS.out.mono ?_; rintro e w1 ⟨mo, mn, mc, rfl, o1, t1, c1, n1, z1⟩; rw [← hW0] at o1 n1; have O1 := hid o1; have C1 := hid c1; have N1 := hid n1; have Z1 := hid z1; have M1 := hid ((n1.c.block _ (lt_of_block HMV.out) (fun q => q HNO.out)).trans HMV.out); have T1 := hid (n1.o _ (lt_of_block HMV.out) HNO.out); clear o1 c1 n1 z1)
    | (refine wpList_load_row rfl 43 (.tmp 7) rfl w1.heap.size rfl _ _ _ _ (MapKept.heap_alloc w1 (.cells #[.bool wa, .int .i64 va, .bool ok, .int .i64 tr, .slice mo mn mc] 43)).1 Try.underlying43 rfl mov_size ?_)
    | (refine st_row rfl 43 (.tmp 6) (.tmp 23) rfl (w.heap.size + 2) _ rfl rfl _ _ (al_blk M1.out _) mov_size rfl (one_mov _ _ _ _ _ _ _) ?_; intro w9 b9 k9; have M9 := hid b9; have K9 := hid k9; clear b9 k9))
  have GA : Gr w1 (w1.alloc (.cells #[.bool wa, .int .i64 va, .bool ok, .int .i64 tr, .slice mo mn mc] 43)) := Ch.alloc (Gr.refl w1) _
  refine bodyPost_ret (results_cell_row rfl _ _ (w.heap.size + 2) _ _ _ _ rfl M9.out Try.underlying43 rfl mov_size) rfl ⟨mo, mn, mc, rfl, ?_, t1, ?_, ((Tn.ahead G0.out N1.out).then GA).own K9.out (by omega), Z1.out⟩
  · refine ((O1.out.gr GA).ch K9.out (fun q hq e => ?_)).lower G0.out.size
    have e1 : q = w.heap.size + 2 := e
    have := (O1.out.blk hq).1
    have := lt_of_block HMV.out
    omega
  · exact (C1.out.gr GA).ch K9.out (fun q e => by have e1 : q = w.heap.size + 2 := e; rw [e1]; exact T1.out)
set_option maxRecDepth 20000 in
set_option maxHeartbeats 4000000 in
theorem carry_recv {t : Nat → Tg} {w : World} {b : Nat} {cs : List Cn} {s g ch v : Int} {wa : Bool} {va : Int} {ok : Bool} {tr : Int} {ks : List Wk} (hi : ∀ q, w.heap.size ≤ q → t q = .no) (hS : ∀ W, Gr w W → Calls Try.prog 51 #[.pointer (some ⟨b, 0, none⟩), .int .i64 ch, .agg #[.int .i64 s, .int .i64 g]] W (MvR t W b cs wa va ok tr ks 0)) :
    Calls Try.prog 30 #[.pointer (some ⟨b, 0, none⟩), .agg #[.int .i64 s, .int .i64 g], .agg #[.bool false, .int .i64 ch, .int .i64 v]] w (CaR t w b cs wa va ok tr ks) := by
  obtain ⟨W0, hW0⟩ : ∃ W0, W0 = ((w.alloc (.cells #[.int .i64 s, .int .i64 g] 24)).alloc (.cells #[.bool false, .int .i64 ch, .int .i64 v] 39)).alloc (.cells mz 43) := ⟨_, rfl⟩
  have g0 : Gr w W0 := by rw [hW0]; exact Ch.alloc (Ch.alloc (Ch.alloc (Gr.refl w) _) _) _
  have HS := hid (hS W0 g0)
  have hbx : W0.heap[w.heap.size]? = some (.cells #[.int .i64 s, .int .i64 g] 24 (0, 0)) := by rw [hW0]; exact al_blk (al_blk (MapKept.heap_alloc w _).1 _) _
  have hmv : W0.heap[w.heap.size + 2]? = some (.cells mz 43 (0, 0)) := by rw [hW0]; exact al_at _ (by simp)
  have HMV := hid hmv
  have HNO := hid (hi (w.heap.size + 2) (by omega))
  have G0 := hid g0
  rw [hW0] at HS hbx
  clear hS hmv hi g0
  go_enter Try.func30, Try.ntmps30
  go_wp2_with (first
    | (refine wpList_load_row rfl 24 (.tmp 4) rfl w.heap.size rfl _ _ _ _ hbx Try.underlying24 rfl gid_size ?_)
    | (go_at_call 51; refine HS.out.mono ?_; rintro e w1 ⟨mo, mn, mc, rfl, o1, t1, c1, n1, z1⟩; rw [← hW0] at o1 n1; have O1 := hid o1; have C1 := hid c1; have N1 := hid n1; have Z1 := hid z1; have M1 := hid ((n1.c.block _ (lt_of_block HMV.out) (fun q => q HNO.out)).trans HMV.out); have T1 := hid (n1.o _ (lt_of_block HMV.out) HNO.out); clear o1 c1 n1 z1)
    | (refine wpList_load_row rfl 43 (.tmp 9) rfl w1.heap.size rfl _ _ _ _ (MapKept.heap_alloc w1 (.cells #[.bool wa, .int .i64 va, .bool ok, .int .i64 tr, .slice mo mn mc] 43)).1 Try.underlying43 rfl mov_size ?_)
    | (refine st_row rfl 43 (.tmp 6) (.tmp 32) rfl (w.heap.size + 2) _ rfl rfl _ _ (al_blk M1.out _) mov_size rfl (one_mov _ _ _ _ _ _ _) ?_; intro w9 b9 k9; have M9 := hid b9; have K9 := hid k9; clear b9 k9))
  have GA : Gr w1 (w1.alloc (.cells #[.bool wa, .int .i64 va, .bool ok, .int .i64 tr, .slice mo mn mc] 43)) := Ch.alloc (Gr.refl w1) _
  refine bodyPost_ret (results_cell_row rfl _ _ (w.heap.size + 2) _ _ _ _ rfl M9.out Try.underlying43 rfl mov_size) rfl ⟨mo, mn, mc, rfl, ?_, t1, ?_, ((Tn.ahead G0.out N1.out).then GA).own K9.out (by omega), Z1.out⟩
  · refine ((O1.out.gr GA).ch K9.out (fun q hq e => ?_)).lower G0.out.size
    have e1 : q = w.heap.size + 2 := e
    have := (O1.out.blk hq).1
    have := lt_of_block HMV.out
    omega
  · exact (C1.out.gr GA).ch K9.out (fun q e => by have e1 : q = w.heap.size + 2 := e; rw [e1]; exact T1.out)
end Go.Proofs.Ytalmiphddgmfbab.Lt

namespace Go.Proofs.Ytalmiphddgmfbab.Lt
open Go.RowKit Wd
attribute [local go_sem ↓] Go.wp_at_zero Go.wp_at_succ

theorem cho_size : (Try.prog.info? 45).map (·.size) = some 7 := by kernel_rfl
theorem one_cho (x : Int) (y a : Bool) (b : Int) (c : Bool) (d : Int) (e : Option Addr) (n m : Nat) : (#[.int .i64 x, .bool y, .bool a, .int .i64 b, .bool c, .int .i64 d, .slice e n m] : Array Value).all (·.oneCell') = true := by simp [Value.oneCell']
abbrev cz : Array Value := #[.int .i64 0, .bool false, .bool false, .int .i64 0, .bool false, .int .i64 0, .slice none 0 0]
theorem op_rowC {o : Oper} {a : Act} {w : World} {K : Act → World → Prop} {Q : Exit → Act → World → Prop} (ty : TypeId) (x y : Operand) (ho : o.op = .store ty x y)
    (g : Nat) (cells : Array Value) (hx : a.eval x = .pointer (some ⟨g, 0, none⟩)) (hy : a.eval y = .agg cells)
    (t : TypeId) (old : Array Value) (hg : w.heap[g]? = some (.cells old t (0, 0))) (hi : (Try.prog.info? ty).map (·.size) = some cells.size)
    (hold : old.size = cells.size) (h1 : cells.all (·.oneCell') = true)
    (h : ∀ w', w'.heap[g]? = some (.cells cells t (0, 0)) → Ch (Only g) w w' → K (a.put o.dst undef) w') : o.wp Try.prog a w K Q :=
  wp_store_row ty x y ho g cells hx hy t old hg hi hold h1 (h _ (setRow_blk hg) (setRow_ch w g cells))
/-- what Select tells and leaves where a case goes on -/
def SeR (t : Nat → Tg) (w : World) (b : Nat) (cs : List Cn) (k : Nat) (wa : Bool) (va : Int) (ok : Bool) (tr : Int) (ks : List Wk) (e : Ending) (w' : World) : Prop := ∃ mo mn mc, e = .returned (.tuple #[.agg #[.int .i64 (k : Int), .bool false, .bool wa, .int .i64 va, .bool ok, .int .i64 tr, .slice mo mn mc], .int .i64 0]) ∧ Ow eK 6 114 w.heap.size w' (.slice mo mn mc) ks ∧ ∃ t', Cs t' w' b cs ∧ Tn t t' w w' ∧ ∀ q, Blk (.slice mo mn mc) q → t' q = .no
/-- in the last region of Select -/
structure SlC (w : World) (s g : Int) (gp o : Nat) (x0 : Bool) (x1 x2 : Int) (W : World) : Prop where
  bx : W.heap[w.heap.size]? = some (.cells #[.int .i64 s, .int .i64 g] 24 (0, 0))
  p0 : W.cell? ⟨gp, o, none⟩ = some (.bool x0)
  p1 : W.cell? ⟨gp, o + 1, none⟩ = some (.int .i64 x1)
  p2 : W.cell? ⟨gp, o + 2, none⟩ = some (.int .i64 x2)
  lt : gp < w.heap.size
  zl : w.heap.size ≤ W.heap.size
  u : True
theorem SlC.tn {t t' : Nat → Tg} {w W W' : World} {s g : Int} {gp o : Nat} {x0 : Bool} {x1 x2 : Int} (h : SlC w s g gp o x0 x1 x2 W) (n : Tn t t' W W') (hp : t gp = .no) (hi : t w.heap.size = .no) : SlC w s g gp o x0 x1 x2 W' :=
  ⟨(n.c.block _ (lt_of_block h.bx) (fun q => q hi)).trans h.bx, (n.c.cell (Nat.lt_of_lt_of_le h.lt h.zl) (fun q => q hp)).trans h.p0, (n.c.cell (Nat.lt_of_lt_of_le h.lt h.zl) (fun q => q hp)).trans h.p1, (n.c.cell (Nat.lt_of_lt_of_le h.lt h.zl) (fun q => q hp)).trans h.p2, h.lt, Nat.le_trans h.zl n.c.size, trivial⟩
theorem SlC.own {w W W' : World} {s g : Int} {gp o : Nat} {x0 : Bool} {x1 x2 : Int} (h : SlC w s g gp o x0 x1 x2 W) (k : Ch (Only (w.heap.size + 1)) W W') (hp : gp < w.heap.size) : SlC w s g gp o x0 x1 x2 W' :=
  ⟨(k.block _ (lt_of_block h.bx) (fun q => by have e : w.heap.size = w.heap.size + 1 := q; omega)).trans h.bx, (k.cell (Nat.lt_of_lt_of_le h.lt h.zl) (fun q => by have e : gp = w.heap.size + 1 := q; omega)).trans h.p0, (k.cell (Nat.lt_of_lt_of_le h.lt h.zl) (fun q => by have e : gp = w.heap.size + 1 := q; omega)).trans h.p1, (k.cell (Nat.lt_of_lt_of_le h.lt h.zl) (fun q => by have e : gp = w.heap.size + 1 := q; omega)).trans h.p2, h.lt, Nat.le_trans h.zl k.size, trivial⟩
set_option maxRecDepth 40000 in
set_option maxHeartbeats 8000000 in
theorem sel_goes {t : Nat → Tg} {w : World} {b : Nat} {cs : List Cn} {s g : Int} {wa : Bool} {va : Int} {ok : Bool} {tr : Int} {ks : List Wk} (ao : Option Addr) (n cap : Nat) (ps : List Pk) (df : Bool) (dv : Value) (l : List Int) (k : Nat) (x0 : Bool) (x1 x2 : Int) (P : Nat → Prop) (hps : Ls eP P w (.slice ao n cap) ps) (hpP : ∀ q, P q → t q = .no) (hk : ps[k]? = some ⟨x0, x1, x2⟩)
    (hi : ∀ q, w.heap.size ≤ q → t q = .no) (hO : ∀ W, Gr w W → Calls Try.prog 16 #[.int .i64 (n : Int), dv] W (OrR W n l))
    (hW : ∀ W, Gr w W → Calls Try.prog 10 #[.pointer (some ⟨b, 0, none⟩), .agg #[.int .i64 s, .int .i64 g]] W fun e w' => e = .returned (.bool false) ∧ Gr W w')
    (hC : ∀ W, Gr w W → Calls Try.prog 28 #[.pointer (some ⟨b, 0, none⟩), .slice ao n cap] W fun e w' => e = .returned (.bool true) ∧ Gr W w')
    (hF : ∀ W, Gr w W → ∀ oo co, Ls eI (w.heap.size ≤ ·) W (.slice oo n co) l → Calls Try.prog 29 #[.pointer (some ⟨b, 0, none⟩), .slice ao n cap, .slice oo n co] W fun e w' => e = .returned (.int .i64 (k : Int)) ∧ Gr W w')
    (hA : ∀ W, Gr w W → Calls Try.prog 30 #[.pointer (some ⟨b, 0, none⟩), .agg #[.int .i64 s, .int .i64 g], .agg #[.bool x0, .int .i64 x1, .int .i64 x2]] W (CaR t W b cs wa va ok tr ks)) :
    Calls Try.prog 11 #[.pointer (some ⟨b, 0, none⟩), .agg #[.int .i64 s, .int .i64 g], .slice ao n cap, .bool df, dv] w (SeR t w b cs k wa va ok tr ks) := by
  obtain ⟨gp, op, capp, hvp, hP1, hgp, _, hcs⟩ := hps.get eP_len hk
  injection hvp with hv1 hv2 hv3
  subst hv1
  have HP := hid (hpP gp hP1)
  have HGP := hid hgp
  have HPC := hid hcs
  have HI := hid hi
  have HKN := hid (show k < n from by have := (List.getElem?_eq_some_iff.1 hk).1; have := hps.len.1; omega)
  have HO := hid hO
  have HW := hid hW
  have HC := hid hC
  have HF := hid hF
  have HCA := hid hA
  obtain ⟨W0, hW0⟩ : ∃ W0, W0 = (w.alloc (.cells #[.int .i64 s, .int .i64 g] 24)).alloc (.cells cz 45) := ⟨_, rfl⟩
  have G0 := hid (show Gr w W0 from by rw [hW0]; exact Ch.alloc (Ch.alloc (Gr.refl w) _) _)
  have B0 := hid (show W0.heap[w.heap.size]? = some (.cells #[.int .i64 s, .int .i64 g] 24 (0, 0)) from by rw [hW0]; exact al_blk (MapKept.heap_alloc w _).1 _)
  have Z0 := hid (show W0.heap[w.heap.size + 1]? = some (.cells cz 45 (0, 0)) from by rw [hW0]; exact al_at _ (by simp))
  have k0 : (0 : Int) ≤ (k : Int) := by omega
  have k1 : (k : Int) < (n : Int) := by have := HKN.out; omega
  have k2 : ((k : Int) == -1) = false := by simp
  clear hps hpP hk hi hO hW hC hF hA hcs hv2 hv3 hP1 hgp
  go_enter Try.func11, Try.ntmps11
  go_upto_region 10 with (first
    | (go_at_call 16; rw [← hW0]; refine (HO.out _ G0.out).mono ?_; rintro e w1 ⟨oo, co, rfl, o1, g1⟩; have G1 := hid (Gr.trans G0.out g1); have O1 := hid (o1.lst.mono (Q := fun q => w.heap.size ≤ q) (fun q _ hq => Nat.le_trans G0.out.size hq)); have B1 := hid (gr_blk B0.out g1); have Z1 := hid (gr_blk Z0.out g1); clear o1 g1)
    | (refine wpList_load_row rfl 24 (.tmp 6) rfl w.heap.size rfl _ _ _ _ B1.out Try.underlying24 rfl gid_size ?_)
    | (go_at_call 10; refine (HW.out _ G1.out).mono ?_; rintro e w2 ⟨rfl, g2⟩; have G2 := hid (Gr.trans G1.out g2); have O2 := hid (O1.out.gr g2); have B2 := hid (gr_blk B1.out g2); have Z2 := hid (gr_blk Z1.out g2); clear g2)
    | (go_at_call 28; refine (HC.out _ G2.out).mono ?_; rintro e w3 ⟨rfl, g3⟩; have G3 := hid (Gr.trans G2.out g3); have O3 := hid (O2.out.gr g3); have B3 := hid (gr_blk B2.out g3); have Z3 := hid (gr_blk Z2.out g3); clear g3)
    | (go_at_call 29; refine (HF.out _ G3.out _ _ O3.out).mono ?_; rintro e w4 ⟨rfl, g4⟩; have G4 := hid (Gr.trans G3.out g4); have B4 := hid (gr_blk B3.out g4); have Z4 := hid (gr_blk Z3.out g4); clear g4))
  clear HO HW HC HF O1 O2 O3 B1 B2 B3 Z1 Z2 Z3 G1 G2 G3
  have hS0 : SlC w s g gp (op + k * 3) x0 x1 x2 (World.drew w4) := ⟨B4.out, by have := HPC.out 0 _ rfl; exact (G4.out.cell HGP.out).trans this, by have := HPC.out 1 _ rfl; exact (G4.out.cell HGP.out).trans this, by have := HPC.out 2 _ rfl; exact (G4.out.cell HGP.out).trans this, HGP.out, G4.out.size, trivial⟩
  have HZ5 := hid (show (World.drew w4).heap[w.heap.size + 1]? = some (.cells cz 45 (0, 0)) from Z4.out)
  have GV := hid (show Gr w (World.drew w4) from Ch.drew G4.out)
  refine wp_region_held_drew (S := SlC w s g gp (op + k * 3) x0 x1 x2) (by kernel_rfl) (by exact hS0) (fun _ => ?_)
  generalize World.drew w4 = V0 at hS0 HZ5 GV ⊢
  refine takeS_on (i := 0) 45 (v := ?v1) rfl rfl (by kernel_rfl) (by kernel_rfl) (by kernel_rfl) (fun _ _ _ h => h) (by kernel_rfl) ?hy1 (by exact hS0) ?_
  case hy1 => (intro w' hSw; go_simp; try (with_reducible rfl))
  simp only [Act.put, List.setIfInBounds_toArray, List.set_cons_zero, List.set_cons_succ]
  refine takeS_on (i := 1) 46 (v := ?v2) rfl rfl (by kernel_rfl) (by kernel_rfl) (by kernel_rfl) (fun _ _ _ h => h) (by kernel_rfl) ?hy2 (by exact hS0) ?_
  case hy2 => (intro w' hSw; go_simp; try (with_reducible rfl))
  simp only [Act.put, List.setIfInBounds_toArray, List.set_cons_zero, List.set_cons_succ]
  refine takeS_on (i := 2) 47 (v := ?v3) rfl rfl (by kernel_rfl) (by kernel_rfl) (by kernel_rfl) (fun _ _ _ h => h) (by kernel_rfl) ?hy3 (by exact hS0) ?_
  case hy3 => (intro w' hSw; refine Eq.trans (exec_row 24 (.tmp 6) rfl _ rfl _ _ _ _ hSw.bx Try.underlying24 rfl gid_size) ?_; with_reducible rfl)
  simp only [Act.put, List.setIfInBounds_toArray, List.set_cons_zero, List.set_cons_succ]
  refine takeS_on (i := 3) 48 (v := ?v4) rfl rfl (by kernel_rfl) (by kernel_rfl) (by kernel_rfl) (fun _ _ _ h => h) (by kernel_rfl) ?hy4 (by exact hS0) ?_
  case hy4 => (intro w' hSw; go_simp; try (with_reducible rfl))
  simp only [Act.put, List.setIfInBounds_toArray, List.set_cons_zero, List.set_cons_succ]
  refine takeS_on (i := 4) 49 (v := ?v5) rfl rfl (by kernel_rfl) (by kernel_rfl) (by kernel_rfl) (fun _ _ _ h => h) (by kernel_rfl) ?hy5 (by exact hS0) ?_
  case hy5 => (intro w' hSw; go_simp; try (with_reducible rfl))
  simp only [Act.put, List.setIfInBounds_toArray, List.set_cons_zero, List.set_cons_succ]
  refine takeS_on (i := 5) 50 (v := ?v6) rfl rfl (by kernel_rfl) (by kernel_rfl) (by kernel_rfl) (fun _ _ _ h => h) (by kernel_rfl) ?hy6 (by exact hS0) ?_
  case hy6 => (intro w' hSw; go_simp; try (with_reducible rfl))
  simp only [Act.put, List.setIfInBounds_toArray, List.set_cons_zero, List.set_cons_succ]
  refine takeS_on (i := 6) 51 (v := ?v7) rfl rfl (by kernel_rfl) (by kernel_rfl) (by kernel_rfl) (fun _ _ _ h => h) (by kernel_rfl) ?hy7 (by exact hS0) ?_
  case hy7 => (intro w' hSw; have c0 := hSw.p0; have c1 := hSw.p1; have c2 := hSw.p2; go_simp; try (with_reducible rfl))
  simp only [Act.put, List.setIfInBounds_toArray, List.set_cons_zero, List.set_cons_succ]
  refine wpAnyH_ready (rs := [7]) (by kernel_rfl) (by simp) (AllReadyH.cons rfl (fun K hK => ?_) AllReadyH.nil)
  go_simp
  refine (HCA.out _ GV.out).mono ?_
  rintro e w6 ⟨mo, mn, mc, rfl, o6, t6, c6, n6, z6⟩
  have hS1 : SlC w s g gp (op + k * 3) x0 x1 x2 w6 := hS0.tn n6 (HP.out) (HI.out _ (Nat.le_refl _))
  have O6 := hid o6
  have C6 := hid c6
  have N6 := hid (Tn.ahead GV.out n6)
  have Z6 := hid z6
  have T6 := hid (n6.o _ (lt_of_block HZ5.out) (HI.out (w.heap.size + 1) (by omega)))
  have HZ6 := hid ((n6.c.block _ (lt_of_block HZ5.out) (fun q => q (HI.out (w.heap.size + 1) (by omega)))).trans HZ5.out)
  have G6 := hid GV.out
  clear o6 c6 n6 z6
  refine hK.out _ _ (by exact hS1) (fun _ => ?_)
  clear hK K
  refine takeS_on (i := 8) 53 (v := ?v8) rfl rfl (by kernel_rfl) (by kernel_rfl) (by kernel_rfl) (fun _ _ _ h => h) (by kernel_rfl) ?hy8 (by exact hS1) ?_
  case hy8 => (intro w' hSw; go_simp; try (with_reducible rfl))
  simp only [Act.put, List.setIfInBounds_toArray, List.set_cons_zero, List.set_cons_succ]
  refine wpAnyH_ready (rs := [9]) (by kernel_rfl) (by simp) (AllReadyH.cons rfl (fun K hK => ?_) AllReadyH.nil)
  rw [if_pos (by kernel_rfl)]
  refine op_rowC 45 (.tmp 10) (.tmp 53) rfl (w.heap.size + 1) _ rfl rfl _ _ HZ6.out cho_size rfl (one_cho _ _ _ _ _ _ _ _ _) ?_
  intro w9 b9 k9
  have hS2 : SlC w s g gp (op + k * 3) x0 x1 x2 w9 := hS1.own k9 HGP.out
  have M9 := hid b9
  have K9 := hid k9
  clear b9 k9
  refine hK.out _ _ (by exact hS2) (fun _ => ?_)
  clear hK K
  refine takeS_on (i := 10) 11 (v := ?v9) rfl rfl (by kernel_rfl) (by kernel_rfl) (by kernel_rfl) (fun _ _ _ h => h) (by kernel_rfl) ?hy9 (by exact hS2) ?_
  case hy9 => (intro w' hSw; go_simp; try (with_reducible rfl))
  simp only [Act.put, List.setIfInBounds_toArray]
  refine wpAnyH_done (by kernel_rfl) ?_ _
  go_wp2
  exact bodyPost_ret (results_cell_tmp2 rfl _ _ (w.heap.size + 1) _ rfl (run_loadVar_row _ _ _ _ _ _ _ M9.out Try.underlying45 rfl cho_size)) rfl ⟨mo, mn, mc, rfl, ((O6.out.ch K9.out (fun q hq e => by have e1 : q = w.heap.size + 1 := e; have := (O6.out.blk hq).1; have := lt_of_block HZ5.out; omega)).lower G6.out.size), t6, C6.out.ch K9.out (fun q e => by have e1 : q = w.heap.size + 1 := e; rw [e1]; exact T6.out), N6.out.own K9.out (by omega), Z6.out⟩
end Go.Proofs.Ytalmiphddgmfbab.Lt

namespace Go.Proofs.Ytalmiphddgmfbab.Lt
open Go.RowKit Wd
attribute [local go_sem ↓] Go.wp_at_zero Go.wp_at_succ

set_option maxRecDepth 40000 in
set_option maxHeartbeats 4000000 in
theorem sel_err {w : World} {s g : Int} {er : Int} (cv : Option Addr) (ao : Option Addr) (n cap : Nat) (df : Bool) (dv : Value) (her : er ≠ 0) (hO : ∀ W, Gr w W → Calls Try.prog 16 #[.int .i64 (n : Int), dv] W fun e w' => e = .returned (.tuple #[.slice none 0 0, .int .i64 er]) ∧ w' = W) :
    Calls Try.prog 11 #[.pointer cv, .agg #[.int .i64 s, .int .i64 g], .slice ao n cap, .bool df, dv] w fun e w' => e = .returned (.tuple #[.agg #[.int .i64 (-1), .bool false, .bool false, .int .i64 0, .bool false, .int .i64 0, .slice none 0 0], .int .i64 er]) ∧ Gr w w' := by
  have HO := hid hO
  obtain ⟨W0, hW0⟩ : ∃ W0, W0 = (w.alloc (.cells #[.int .i64 s, .int .i64 g] 24)).alloc (.cells cz 45) := ⟨_, rfl⟩
  have G0 := hid (show Gr w W0 from by rw [hW0]; exact Ch.alloc (Ch.alloc (Gr.refl w) _) _)
  have B0 := hid (show W0.heap[w.heap.size]? = some (.cells #[.int .i64 s, .int .i64 g] 24 (0, 0)) from by rw [hW0]; exact al_blk (MapKept.heap_alloc w _).1 _)
  have Z0 := hid (show W0.heap[w.heap.size + 1]? = some (.cells cz 45 (0, 0)) from by rw [hW0]; exact al_at _ (by simp))
  clear hO
  have e1 : (er == 0) = false := by simpa using her
  clear her
  go_enter Try.func11, Try.ntmps11
  go_wp2_with (first
    | (go_at_call 16; rw [← hW0]; refine (HO.out _ G0.out).mono ?_; rintro e w1 ⟨rfl, hw1⟩; subst hw1; clear hW0; have G1 := hid G0.out; have B1 := hid B0.out; have Z1 := hid Z0.out)
    | (refine st_row rfl 45 (.tmp 10) (.tmp 25) rfl (w.heap.size + 1) _ rfl rfl _ _ Z1.out cho_size rfl (one_cho _ _ _ _ _ _ _ _ _) ?_; intro w9 b9 k9; have M9 := hid b9; have K9 := hid k9; clear b9 k9))
  exact bodyPost_ret (results_cell_tmp2 rfl _ _ (w.heap.size + 1) _ rfl (run_loadVar_row _ _ _ _ _ _ _ M9.out Try.underlying45 rfl cho_size)) rfl ⟨rfl, Ch.trans G1.out K9.out (fun q e => .inr (by have e1 : q = w.heap.size + 1 := e; omega))⟩
set_option maxRecDepth 40000 in
set_option maxHeartbeats 4000000 in
theorem sel_busy {w : World} {s g : Int} (cv : Option Addr) (ao : Option Addr) (n cap : Nat) (df : Bool) (dv : Value) (l : List Int) (hO : ∀ W, Gr w W → Calls Try.prog 16 #[.int .i64 (n : Int), dv] W (OrR W n l)) (hW : ∀ W, Gr w W → Calls Try.prog 10 #[.pointer cv, .agg #[.int .i64 s, .int .i64 g]] W fun e w' => e = .returned (.bool true) ∧ Gr W w') :
    Calls Try.prog 11 #[.pointer cv, .agg #[.int .i64 s, .int .i64 g], .slice ao n cap, .bool df, dv] w fun e w' => e = .returned (.tuple #[.agg #[.int .i64 (-1), .bool false, .bool false, .int .i64 0, .bool false, .int .i64 0, .slice none 0 0], .int .i64 111]) ∧ Gr w w' := by
  have HO := hid hO
  have HW := hid hW
  obtain ⟨W0, hW0⟩ : ∃ W0, W0 = (w.alloc (.cells #[.int .i64 s, .int .i64 g] 24)).alloc (.cells cz 45) := ⟨_, rfl⟩
  have G0 := hid (show Gr w W0 from by rw [hW0]; exact Ch.alloc (Ch.alloc (Gr.refl w) _) _)
  have B0 := hid (show W0.heap[w.heap.size]? = some (.cells #[.int .i64 s, .int .i64 g] 24 (0, 0)) from by rw [hW0]; exact al_blk (MapKept.heap_alloc w _).1 _)
  have Z0 := hid (show W0.heap[w.heap.size + 1]? = some (.cells cz 45 (0, 0)) from by rw [hW0]; exact al_at _ (by simp))
  clear hO hW
  go_enter Try.func11, Try.ntmps11
  go_wp2_with (first
    | (go_at_call 16; rw [← hW0]; refine (HO.out _ G0.out).mono ?_; rintro e w1 ⟨oo, co, rfl, o1, g1⟩; have G1 := hid (Gr.trans G0.out g1); have O1 := hid (o1.lst.mono (Q := fun q => w.heap.size ≤ q) (fun q _ hq => Nat.le_trans G0.out.size hq)); have B1 := hid (gr_blk B0.out g1); have Z1 := hid (gr_blk Z0.out g1); clear o1 g1)
    | (refine wpList_load_row rfl 24 (.tmp 6) rfl w.heap.size rfl _ _ _ _ B1.out Try.underlying24 rfl gid_size ?_)
    | (go_at_call 10; refine (HW.out _ G1.out).mono ?_; rintro e w2 ⟨rfl, g2⟩; have G2 := hid (Gr.trans G1.out g2); have O2 := hid (O1.out.gr g2); have B2 := hid (gr_blk B1.out g2); have Z2 := hid (gr_blk Z1.out g2); clear g2)
    | (refine st_row rfl 45 (.tmp 10) (.tmp 31) rfl (w.heap.size + 1) _ rfl rfl _ _ Z2.out cho_size rfl (one_cho _ _ _ _ _ _ _ _ _) ?_; intro w9 b9 k9; have M9 := hid b9; have K9 := hid k9; clear b9 k9))
  exact bodyPost_ret (results_cell_tmp2 rfl _ _ (w.heap.size + 1) _ rfl (run_loadVar_row _ _ _ _ _ _ _ M9.out Try.underlying45 rfl cho_size)) rfl ⟨rfl, Ch.trans G2.out K9.out (fun q e => .inr (by have e1 : q = w.heap.size + 1 := e; omega))⟩
set_option maxRecDepth 40000 in
set_option maxHeartbeats 4000000 in
theorem sel_trap {w : World} {s g : Int} (cv : Option Addr) (ao : Option Addr) (n cap : Nat) (df : Bool) (dv : Value) (l : List Int) (hO : ∀ W, Gr w W → Calls Try.prog 16 #[.int .i64 (n : Int), dv] W (OrR W n l)) (hW : ∀ W, Gr w W → Calls Try.prog 10 #[.pointer cv, .agg #[.int .i64 s, .int .i64 g]] W fun e w' => e = .returned (.bool false) ∧ Gr W w') (hC : ∀ W, Gr w W → Calls Try.prog 28 #[.pointer cv, .slice ao n cap] W fun e w' => e = .returned (.bool false) ∧ Gr W w') :
    Calls Try.prog 11 #[.pointer cv, .agg #[.int .i64 s, .int .i64 g], .slice ao n cap, .bool df, dv] w fun e w' => e = .returned (.tuple #[.agg #[.int .i64 (-1), .bool false, .bool false, .int .i64 0, .bool false, .int .i64 4, .slice none 0 0], .int .i64 0]) ∧ Gr w w' := by
  have HO := hid hO
  have HW := hid hW
  have HC := hid hC
  obtain ⟨W0, hW0⟩ : ∃ W0, W0 = (w.alloc (.cells #[.int .i64 s, .int .i64 g] 24)).alloc (.cells cz 45) := ⟨_, rfl⟩
  have G0 := hid (show Gr w W0 from by rw [hW0]; exact Ch.alloc (Ch.alloc (Gr.refl w) _) _)
  have B0 := hid (show W0.heap[w.heap.size]? = some (.cells #[.int .i64 s, .int .i64 g] 24 (0, 0)) from by rw [hW0]; exact al_blk (MapKept.heap_alloc w _).1 _)
  have Z0 := hid (show W0.heap[w.heap.size + 1]? = some (.cells cz 45 (0, 0)) from by rw [hW0]; exact al_at _ (by simp))
  clear hO hW hC
  go_enter Try.func11, Try.ntmps11
  go_wp2_with (first
    | (go_at_call 16; rw [← hW0]; refine (HO.out _ G0.out).mono ?_; rintro e w1 ⟨oo, co, rfl, o1, g1⟩; have G1 := hid (Gr.trans G0.out g1); have O1 := hid (o1.lst.mono (Q := fun q => w.heap.size ≤ q) (fun q _ hq => Nat.le_trans G0.out.size hq)); have B1 := hid (gr_blk B0.out g1); have Z1 := hid (gr_blk Z0.out g1); clear o1 g1)
    | (refine wpList_load_row rfl 24 (.tmp 6) rfl w.heap.size rfl _ _ _ _ B1.out Try.underlying24 rfl gid_size ?_)
    | (go_at_call 10; refine (HW.out _ G1.out).mono ?_; rintro e w2 ⟨rfl, g2⟩; have G2 := hid (Gr.trans G1.out g2); have O2 := hid (O1.out.gr g2); have B2 := hid (gr_blk B1.out g2); have Z2 := hid (gr_blk Z1.out g2); clear g2)
    | (go_at_call 28; refine (HC.out _ G2.out).mono ?_; rintro e w3 ⟨rfl, g3⟩; have G3 := hid (Gr.trans G2.out g3); have O3 := hid (O2.out.gr g3); have B3 := hid (gr_blk B2.out g3); have Z3 := hid (gr_blk Z2.out g3); clear g3)
    | (refine st_row rfl 45 (.tmp 10) (.tmp 38) rfl (w.heap.size + 1) _ rfl rfl _ _ Z3.out cho_size rfl (one_cho _ _ _ _ _ _ _ _ _) ?_; intro w9 b9 k9; have M9 := hid b9; have K9 := hid k9; clear b9 k9))
  exact bodyPost_ret (results_cell_tmp2 rfl _ _ (w.heap.size + 1) _ rfl (run_loadVar_row _ _ _ _ _ _ _ M9.out Try.underlying45 rfl cho_size)) rfl ⟨rfl, Ch.trans G3.out K9.out (fun q e => .inr (by have e1 : q = w.heap.size + 1 := e; omega))⟩
set_option maxRecDepth 40000 in
set_option maxHeartbeats 4000000 in
theorem sel_def {w : World} {s g : Int} (cv : Option Addr) (ao : Option Addr) (n cap : Nat) (dv : Value) (l : List Int) (hO : ∀ W, Gr w W → Calls Try.prog 16 #[.int .i64 (n : Int), dv] W (OrR W n l)) (hW : ∀ W, Gr w W → Calls Try.prog 10 #[.pointer cv, .agg #[.int .i64 s, .int .i64 g]] W fun e w' => e = .returned (.bool false) ∧ Gr W w') (hC : ∀ W, Gr w W → Calls Try.prog 28 #[.pointer cv, .slice ao n cap] W fun e w' => e = .returned (.bool true) ∧ Gr W w') (hF : ∀ W, Gr w W → ∀ oo co, Ls eI (w.heap.size ≤ ·) W (.slice oo n co) l → Calls Try.prog 29 #[.pointer cv, .slice ao n cap, .slice oo n co] W fun e w' => e = .returned (.int .i64 (-1)) ∧ Gr W w') :
    Calls Try.prog 11 #[.pointer cv, .agg #[.int .i64 s, .int .i64 g], .slice ao n cap, .bool true, dv] w fun e w' => e = .returned (.tuple #[.agg #[.int .i64 (-1), .bool true, .bool false, .int .i64 0, .bool false, .int .i64 0, .slice none 0 0], .int .i64 0]) ∧ Gr w w' := by
  have HO := hid hO
  have HW := hid hW
  have HC := hid hC
  have HF := hid hF
  obtain ⟨W0, hW0⟩ : ∃ W0, W0 = (w.alloc (.cells #[.int .i64 s, .int .i64 g] 24)).alloc (.cells cz 45) := ⟨_, rfl⟩
  have G0 := hid (show Gr w W0 from by rw [hW0]; exact Ch.alloc (Ch.alloc (Gr.refl w) _) _)
  have B0 := hid (show W0.heap[w.heap.size]? = some (.cells #[.int .i64 s, .int .i64 g] 24 (0, 0)) from by rw [hW0]; exact al_blk (MapKept.heap_alloc w _).1 _)
  have Z0 := hid (show W0.heap[w.heap.size + 1]? = some (.cells cz 45 (0, 0)) from by rw [hW0]; exact al_at _ (by simp))
  clear hO hW hC hF
  go_enter Try.func11, Try.ntmps11
  go_wp2_with (first
    | (go_at_call 16; rw [← hW0]; refine (HO.out _ G0.out).mono ?_; rintro e w1 ⟨oo, co, rfl, o1, g1⟩; have G1 := hid (Gr.trans G0.out g1); have O1 := hid (o1.lst.mono (Q := fun q => w.heap.size ≤ q) (fun q _ hq => Nat.le_trans G0.out.size hq)); have B1 := hid (gr_blk B0.out g1); have Z1 := hid (gr_blk Z0.out g1); clear o1 g1)
    | (refine wpList_load_row rfl 24 (.tmp 6) rfl w.heap.size rfl _ _ _ _ B1.out Try.underlying24 rfl gid_size ?_)
    | (go_at_call 10; refine (HW.out _ G1.out).mono ?_; rintro e w2 ⟨rfl, g2⟩; have G2 := hid (Gr.trans G1.out g2); have O2 := hid (O1.out.gr g2); have B2 := hid (gr_blk B1.out g2); have Z2 := hid (gr_blk Z1.out g2); clear g2)
    | (go_at_call 28; refine (HC.out _ G2.out).mono ?_; rintro e w3 ⟨rfl, g3⟩; have G3 := hid (Gr.trans G2.out g3); have O3 := hid (O2.out.gr g3); have B3 := hid (gr_blk B2.out g3); have Z3 := hid (gr_blk Z2.out g3); clear g3)
    | (go_at_call 29; refine (HF.out _ G3.out _ _ O3.out).mono ?_; rintro e w4 ⟨rfl, g4⟩; have G4 := hid (Gr.trans G3.out g4); have O4 := hid (O3.out.gr g4); have B4 := hid (gr_blk B3.out g4); have Z4 := hid (gr_blk Z3.out g4); clear g4)
    | (refine st_row rfl 45 (.tmp 10) (.tmp 55) rfl (w.heap.size + 1) _ rfl rfl _ _ Z4.out cho_size rfl (one_cho _ _ _ _ _ _ _ _ _) ?_; intro w9 b9 k9; have M9 := hid b9; have K9 := hid k9; clear b9 k9))
  exact bodyPost_ret (results_cell_tmp2 rfl _ _ (w.heap.size + 1) _ rfl (run_loadVar_row _ _ _ _ _ _ _ M9.out Try.underlying45 rfl cho_size)) rfl ⟨rfl, Ch.trans G4.out K9.out (fun q e => .inr (by have e1 : q = w.heap.size + 1 := e; omega))⟩
set_option maxRecDepth 40000 in
set_option maxHeartbeats 4000000 in
theorem sel_none {w : World} {s g : Int} (cv : Option Addr) (ao : Option Addr) (n cap : Nat) (dv : Value) (l : List Int) (hO : ∀ W, Gr w W → Calls Try.prog 16 #[.int .i64 (n : Int), dv] W (OrR W n l)) (hW : ∀ W, Gr w W → Calls Try.prog 10 #[.pointer cv, .agg #[.int .i64 s, .int .i64 g]] W fun e w' => e = .returned (.bool false) ∧ Gr W w') (hC : ∀ W, Gr w W → Calls Try.prog 28 #[.pointer cv, .slice ao n cap] W fun e w' => e = .returned (.bool true) ∧ Gr W w') (hF : ∀ W, Gr w W → ∀ oo co, Ls eI (w.heap.size ≤ ·) W (.slice oo n co) l → Calls Try.prog 29 #[.pointer cv, .slice ao n cap, .slice oo n co] W fun e w' => e = .returned (.int .i64 (-1)) ∧ Gr W w') (hA : ∀ W, Gr w W → Calls Try.prog 31 #[.pointer cv, .agg #[.int .i64 s, .int .i64 g], .slice ao n cap] W fun e w' => e = .returned (.tuple #[]) ∧ Gr W w') :
    Calls Try.prog 11 #[.pointer cv, .agg #[.int .i64 s, .int .i64 g], .slice ao n cap, .bool false, dv] w fun e w' => e = .returned (.tuple #[.agg #[.int .i64 (-1), .bool false, .bool true, .int .i64 0, .bool false, .int .i64 0, .slice none 0 0], .int .i64 0]) ∧ Gr w w' := by
  have HO := hid hO
  have HW := hid hW
  have HC := hid hC
  have HF := hid hF
  have HA := hid hA
  obtain ⟨W0, hW0⟩ : ∃ W0, W0 = (w.alloc (.cells #[.int .i64 s, .int .i64 g] 24)).alloc (.cells cz 45) := ⟨_, rfl⟩
  have G0 := hid (show Gr w W0 from by rw [hW0]; exact Ch.alloc (Ch.alloc (Gr.refl w) _) _)
  have B0 := hid (show W0.heap[w.heap.size]? = some (.cells #[.int .i64 s, .int .i64 g] 24 (0, 0)) from by rw [hW0]; exact al_blk (MapKept.heap_alloc w _).1 _)
  have Z0 := hid (show W0.heap[w.heap.size + 1]? = some (.cells cz 45 (0, 0)) from by rw [hW0]; exact al_at _ (by simp))
  clear hO hW hC hF hA
  go_enter Try.func11, Try.ntmps11
  go_wp2_with (first
    | (go_at_call 16; rw [← hW0]; refine (HO.out _ G0.out).mono ?_; rintro e w1 ⟨oo, co, rfl, o1, g1⟩; have G1 := hid (Gr.trans G0.out g1); have O1 := hid (o1.lst.mono (Q := fun q => w.heap.size ≤ q) (fun q _ hq => Nat.le_trans G0.out.size hq)); have B1 := hid (gr_blk B0.out g1); have Z1 := hid (gr_blk Z0.out g1); clear o1 g1)
    | (refine wpList_load_row rfl 24 (.tmp 6) rfl w.heap.size rfl _ _ _ _ B4.out Try.underlying24 rfl gid_size ?_)
    | (refine wpList_load_row rfl 24 (.tmp 6) rfl w.heap.size rfl _ _ _ _ B1.out Try.underlying24 rfl gid_size ?_)
    | (go_at_call 10; refine (HW.out _ G1.out).mono ?_; rintro e w2 ⟨rfl, g2⟩; have G2 := hid (Gr.trans G1.out g2); have O2 := hid (O1.out.gr g2); have B2 := hid (gr_blk B1.out g2); have Z2 := hid (gr_blk Z1.out g2); clear g2)
    | (go_at_call 28; refine (HC.out _ G2.out).mono ?_; rintro e w3 ⟨rfl, g3⟩; have G3 := hid (Gr.trans G2.out g3); have O3 := hid (O2.out.gr g3); have B3 := hid (gr_blk B2.out g3); have Z3 := hid (gr_blk Z2.out g3); clear g3)
    | (go_at_call 29; refine (HF.out _ G3.out _ _ O3.out).mono ?_; rintro e w4 ⟨rfl, g4⟩; have G4 := hid (Gr.trans G3.out g4); have O4 := hid (O3.out.gr g4); have B4 := hid (gr_blk B3.out g4); have Z4 := hid (gr_blk Z3.out g4); clear g4)
    | (go_at_call 31; refine (HA.out _ G4.out).mono ?_; rintro e w5 ⟨rfl, g5⟩; have G5 := hid (Gr.trans G4.out g5); have O5 := hid (O4.out.gr g5); have B5 := hid (gr_blk B4.out g5); have Z5 := hid (gr_blk Z4.out g5); clear g5)
    | (refine st_row rfl 45 (.tmp 10) (.tmp 61) rfl (w.heap.size + 1) _ rfl rfl _ _ Z5.out cho_size rfl (one_cho _ _ _ _ _ _ _ _ _) ?_; intro w9 b9 k9; have M9 := hid b9; have K9 := hid k9; clear b9 k9))
  exact bodyPost_ret (results_cell_tmp2 rfl _ _ (w.heap.size + 1) _ rfl (run_loadVar_row _ _ _ _ _ _ _ M9.out Try.underlying45 rfl cho_size)) rfl ⟨rfl, Ch.trans G5.out K9.out (fun q e => .inr (by have e1 : q = w.heap.size + 1 := e; omega))⟩
theorem wait_none (cv : Option Addr) (ao : Option Addr) (cap : Nat) (s g : Int) (w : World) : Calls Try.prog 31 #[.pointer cv, .agg #[.int .i64 s, .int .i64 g], .slice ao 0 cap] w fun e w' => e = .returned (.tuple #[]) ∧ Gr w w' := by
  go_enter Try.func31, Try.ntmps31
  go_wp2_with fail
  go_loopg [10] 0 (fun q i wr => i = .int .i64 0 ∧ Gr w wr)
  case atStart => exact ⟨rfl, Ch.alloc (Gr.refl w) _⟩
  case round =>
    obtain ⟨rfl, hG⟩ := hrel
    have HG := hid hG
    clear hG
    go_wp2
    go_end0
    exact ⟨rfl, HG.out⟩
end Go.Proofs.Ytalmiphddgmfbab.Lt

namespace Go.Proofs.Ytalmiphddgmfbab.Lt
open Go.RowKit Wd
attribute [local go_sem ↓] Go.wp_at_zero Go.wp_at_succ

theorem Gd.wt {N : Nat} {cs : List Cn} (h : Gd N cs) (ch s g c v : Int) (sd : Bool) (hk : Gok s g) : Gd (N + 1) (wtF cs ch s g c v sd) := by
  unfold wtF
  rcases cAt_cases cs ch with ⟨i, d, e1, hc, e⟩ | ⟨_, e⟩ <;> rw [e]
  · have mem := List.mem_of_getElem? hc
    dsimp only
    split
    · refine h.set hc (h.cap d mem) (h.v d mem) (by unfold wl; dsimp only; rw [List.length_append, List.length_singleton]; omega) ?_
      intro x hx
      dsimp only at hx
      rcases hx with hx | hx
      · rcases List.mem_append.1 hx with hx | hx
        · exact h.g d mem x (.inl hx)
        · rw [List.mem_singleton] at hx; subst hx; exact hk
      · exact h.g d mem x (.inr hx)
    · refine h.set hc (h.cap d mem) (h.v d mem) (by unfold wl; dsimp only; rw [List.length_append, List.length_singleton]; omega) ?_
      intro x hx
      dsimp only at hx
      rcases hx with hx | hx
      · exact h.g d mem x (.inl hx)
      · rcases List.mem_append.1 hx with hx | hx
        · exact h.g d mem x (.inr hx)
        · rw [List.mem_singleton] at hx; subst hx; exact hk
  · exact h.up (by omega)
/-- the channels where one waits for the first j cases -/
def wfF (cs : List Cn) (s g : Int) (ps : List Pk) : Nat → List Cn
  | 0 => cs
  | j + 1 => match ps[j]? with | some p => wtF (wfF cs s g ps j) p.ch s g (j : Int) p.v p.sd | none => wfF cs s g ps j
theorem wfF_step {cs : List Cn} {s g : Int} {ps : List Pk} {j : Nat} {p : Pk} (h : ps[j]? = some p) : wfF cs s g ps (j + 1) = wtF (wfF cs s g ps j) p.ch s g (j : Int) p.v p.sd := by
  rw [wfF, h]
theorem Gd.wf {N : Nat} {cs : List Cn} (h : Gd N cs) (s g : Int) (ps : List Pk) (hk : Gok s g) : ∀ j, Gd (N + j) (wfF cs s g ps j) := by
  intro j
  induction j with
  | zero => exact h
  | succ j ih =>
    rw [wfF]
    split
    · exact ih.wt _ _ _ _ _ _ hk
    · exact ih.up (by omega)
def WfR (t : Nat → Tg) (w : World) (b : Nat) (cs : List Cn) (e : Ending) (w' : World) : Prop := e = .returned (.tuple #[]) ∧ ∃ t', Cs t' w' b cs ∧ Tn t t' w w'
set_option maxRecDepth 40000 in
set_option maxHeartbeats 4000000 in
theorem wfa_any {t : Nat → Tg} {w : World} {b N : Nat} {cs : List Cn} {s g : Int} (h : Cs t w b cs) (hG : Gd N cs) (hN : N + 16 < 4398046511104) (hk : Gok s g) (ao : Option Addr) (n cap : Nat) (ps : List Pk) (P : Nat → Prop) (hps : Ls eP P w (.slice ao n cap) ps) (hpP : ∀ q, P q → t q = .no) (hn : n ≤ 16) :
    Calls Try.prog 31 #[.pointer (some ⟨b, 0, none⟩), .agg #[.int .i64 s, .int .i64 g], .slice ao n cap] w (WfR t w b (wfF cs s g ps n)) := by
  obtain ⟨W0, hW0⟩ : ∃ W0, W0 = w.alloc (.cells #[.int .i64 s, .int .i64 g] 24) := ⟨_, rfl⟩
  have G0 := hid (show Gr w W0 from by rw [hW0]; exact Ch.alloc (Gr.refl w) _)
  have B0 := hid (show W0.heap[w.heap.size]? = some (.cells #[.int .i64 s, .int .i64 g] 24 (0, 0)) from by rw [hW0]; exact (MapKept.heap_alloc w _).1)
  have HHI := hid (cs_hi h)
  have HC := hid (h.gr G0.out)
  have HP := hid (hps.gr G0.out)
  have HPP := hid hpP
  have HL := hid hps.len.1
  have HGD := hid (hG.wf s g ps hk)
  have HK := hid hk
  clear h hG hps hpP hk
  go_enter Try.func31, Try.ntmps31
  go_wp2_with fail
  go_loopg [10] n (fun q i wr => ∃ (j : Nat) (t' : Nat → Tg), j + q = n ∧ i = .int .i64 (j : Int) ∧ Cs t' wr b (wfF cs s g ps j) ∧ Tn t t' W0 wr ∧ wr.heap[w.heap.size]? = some (.cells #[.int .i64 s, .int .i64 g] 24 (0, 0)))
  case atStart => rw [← hW0]; exact ⟨0, t, by omega, rfl, HC.out, Tn.refl _ _, B0.out⟩
  case round =>
    obtain ⟨j, t', hjk, rfl, hC, hT, hB⟩ := hrel
    clear hW0
    have CJ := hid hC
    have TJ := hid hT
    have BJ := hid hB
    clear hC hT hB
    by_cases hj : j < n
    · obtain ⟨⟨x0, x1, x2⟩, hx⟩ : ∃ x, ps[j]? = some x := ⟨_, List.getElem?_eq_getElem (by rw [← HL.out]; omega)⟩
      obtain ⟨gg, oo, cap', hv, _, hgl, _, hcs⟩ := (TJ.out.ls HP.out (fun q _ hq => HPP.out q hq)).get eP_len hx
      injection hv with hv1 hv2 hv3
      subst hv1
      have c0 := hcs 0 _ rfl
      have c1 := hcs 1 _ rfl
      have c2 := hcs 2 _ rfl
      dsimp only [Nat.add_zero] at c0 c1 c2
      have j0 : (0 : Int) ≤ (j : Int) := by omega
      have j1 : (j : Int) < (n : Int) := by omega
      have HX := hid hx
      obtain ⟨W5, hW5⟩ : ∃ W, W = wr.alloc (.cells #[.bool x0, .int .i64 x1, .int .i64 x2] 39) := ⟨_, rfl⟩
      have G5 := hid (show Gr wr W5 from by rw [hW5]; exact Ch.alloc (Gr.refl wr) _)
      have B5 := hid (gr_blk BJ.out G5.out)
      have HNO := hid (TJ.out.o _ (lt_of_block B0.out) (HHI.out _ (Nat.le_refl _)))
      have HWT := hid (wait_any (CJ.out.gr G5.out) (HGD.out j) (by omega) x1 s g (j : Int) x2 x0 HK.out)
      rw [hW5] at HWT B5
      clear hcs hv2 hv3 hx hgl
      go_wp2_with (first
        | (refine wpList_load_row rfl 24 (.tmp 4) rfl w.heap.size rfl _ _ _ _ B5.out Try.underlying24 rfl gid_size ?_)
        | (go_at_call 52; refine HWT.out.mono ?_; rintro e w6 ⟨rfl, t6, c6, n6⟩; rw [← hW5] at n6; have C6 := hid c6; have N6 := hid n6; clear c6 n6))
      go_roundg (gk - 1)
      case measure => omega
      case rel =>
        refine ⟨j + 1, t6, by omega, ?_, by rw [wfF_step HX.out]; exact C6.out, TJ.out.trans (Tn.ahead G5.out N6.out), ?_⟩
        · first | with_reducible rfl | simp
        · rw [← hW5] at B5
          exact (N6.out.c.block _ (lt_of_block B5.out) (fun q => q HNO.out)).trans B5.out
    · have jn : ¬ (j : Int) < (n : Int) := by omega
      have e : j = n := by omega
      subst e
      go_wp2
      go_end0
      exact ⟨rfl, t', CJ.out, Tn.ahead G0.out TJ.out⟩
end Go.Proofs.Ytalmiphddgmfbab.Lt

namespace Go.Proofs.Ytalmiphddgmfbab.Lt
open Go.RowKit Wd
attribute [local go_sem ↓] Go.wp_at_zero Go.wp_at_succ

set_option maxRecDepth 40000 in
set_option maxHeartbeats 4000000 in
theorem sel_wait {t : Nat → Tg} {w : World} {b : Nat} {cs : List Cn} {s g : Int} (hi : ∀ q, w.heap.size ≤ q → t q = .no) (ao : Option Addr) (n cap : Nat) (dv : Value) (l : List Int) (hO : ∀ W, Gr w W → Calls Try.prog 16 #[.int .i64 (n : Int), dv] W (OrR W n l)) (hW : ∀ W, Gr w W → Calls Try.prog 10 #[.pointer (some ⟨b, 0, none⟩), .agg #[.int .i64 s, .int .i64 g]] W fun e w' => e = .returned (.bool false) ∧ Gr W w') (hC : ∀ W, Gr w W → Calls Try.prog 28 #[.pointer (some ⟨b, 0, none⟩), .slice ao n cap] W fun e w' => e = .returned (.bool true) ∧ Gr W w') (hF : ∀ W, Gr w W → ∀ oo co, Ls eI (w.heap.size ≤ ·) W (.slice oo n co) l → Calls Try.prog 29 #[.pointer (some ⟨b, 0, none⟩), .slice ao n cap, .slice oo n co] W fun e w' => e = .returned (.int .i64 (-1)) ∧ Gr W w') (hA : ∀ W, Gr w W → Calls Try.prog 31 #[.pointer (some ⟨b, 0, none⟩), .agg #[.int .i64 s, .int .i64 g], .slice ao n cap] W (WfR t W b cs)) :
    Calls Try.prog 11 #[.pointer (some ⟨b, 0, none⟩), .agg #[.int .i64 s, .int .i64 g], .slice ao n cap, .bool false, dv] w fun e w' => e = .returned (.tuple #[.agg #[.int .i64 (-1), .bool false, .bool true, .int .i64 0, .bool false, .int .i64 0, .slice none 0 0], .int .i64 0]) ∧ ∃ t', Cs t' w' b cs ∧ Tn t t' w w' := by
  have HO := hid hO
  have HW := hid hW
  have HC := hid hC
  have HF := hid hF
  have HA := hid hA
  have HI := hid hi
  obtain ⟨W0, hW0⟩ : ∃ W0, W0 = (w.alloc (.cells #[.int .i64 s, .int .i64 g] 24)).alloc (.cells cz 45) := ⟨_, rfl⟩
  have G0 := hid (show Gr w W0 from by rw [hW0]; exact Ch.alloc (Ch.alloc (Gr.refl w) _) _)
  have B0 := hid (show W0.heap[w.heap.size]? = some (.cells #[.int .i64 s, .int .i64 g] 24 (0, 0)) from by rw [hW0]; exact al_blk (MapKept.heap_alloc w _).1 _)
  have Z0 := hid (show W0.heap[w.heap.size + 1]? = some (.cells cz 45 (0, 0)) from by rw [hW0]; exact al_at _ (by simp))
  clear hO hW hC hF hA hi
  go_enter Try.func11, Try.ntmps11
  go_wp2_with (first
    | (go_at_call 16; rw [← hW0]; refine (HO.out _ G0.out).mono ?_; rintro e w1 ⟨oo, co, rfl, o1, g1⟩; have G1 := hid (Gr.trans G0.out g1); have O1 := hid (o1.lst.mono (Q := fun q => w.heap.size ≤ q) (fun q _ hq => Nat.le_trans G0.out.size hq)); have B1 := hid (gr_blk B0.out g1); have Z1 := hid (gr_blk Z0.out g1); clear o1 g1)
    | (refine wpList_load_row rfl 24 (.tmp 6) rfl w.heap.size rfl _ _ _ _ B4.out Try.underlying24 rfl gid_size ?_)
    | (refine wpList_load_row rfl 24 (.tmp 6) rfl w.heap.size rfl _ _ _ _ B1.out Try.underlying24 rfl gid_size ?_)
    | (go_at_call 10; refine (HW.out _ G1.out).mono ?_; rintro e w2 ⟨rfl, g2⟩; have G2 := hid (Gr.trans G1.out g2); have O2 := hid (O1.out.gr g2); have B2 := hid (gr_blk B1.out g2); have Z2 := hid (gr_blk Z1.out g2); clear g2)
    | (go_at_call 28; refine (HC.out _ G2.out).mono ?_; rintro e w3 ⟨rfl, g3⟩; have G3 := hid (Gr.trans G2.out g3); have O3 := hid (O2.out.gr g3); have B3 := hid (gr_blk B2.out g3); have Z3 := hid (gr_blk Z2.out g3); clear g3)
    | (go_at_call 29; refine (HF.out _ G3.out _ _ O3.out).mono ?_; rintro e w4 ⟨rfl, g4⟩; have G4 := hid (Gr.trans G3.out g4); have O4 := hid (O3.out.gr g4); have B4 := hid (gr_blk B3.out g4); have Z4 := hid (gr_blk Z3.out g4); clear g4)
    | (go_at_call 31; refine (HA.out _ G4.out).mono ?_; rintro e w5 ⟨rfl, t5, c5, n5⟩; have N5 := hid (Tn.ahead G4.out n5); have C5 := hid c5; have Z5 := hid ((n5.c.block _ (lt_of_block Z4.out) (fun q => q (HI.out (w.heap.size + 1) (by omega)))).trans Z4.out); have T5 := hid (n5.o _ (lt_of_block Z4.out) (HI.out (w.heap.size + 1) (by omega))); clear c5 n5)
    | (refine st_row rfl 45 (.tmp 10) (.tmp 61) rfl (w.heap.size + 1) _ rfl rfl _ _ Z5.out cho_size rfl (one_cho _ _ _ _ _ _ _ _ _) ?_; intro w9 b9 k9; have M9 := hid b9; have K9 := hid k9; clear b9 k9))
  exact bodyPost_ret (results_cell_tmp2 rfl _ _ (w.heap.size + 1) _ rfl (run_loadVar_row _ _ _ _ _ _ _ M9.out Try.underlying45 rfl cho_size)) rfl ⟨rfl, t5, C5.out.ch K9.out (fun q e => by have e1 : q = w.heap.size + 1 := e; rw [e1]; exact T5.out), N5.out.own K9.out (by omega)⟩
/-- what a select does: the case, whether it is the default, what was moved and the channels -/
structure So where
  k : Int
  df : Bool
  o : Ot
def gzF (cs : List Cn) (ch : Int) (sd : Bool) : Bool := (gsF cs ch sd).1
def tzF (cs : List Cn) (ch : Int) : Int := (gsF cs ch true).2
theorem tzF_any (cs : List Cn) (ch : Int) (sd : Bool) : (gsF cs ch sd).2 = tzF cs ch := by
  unfold tzF gsF
  split <;> rfl
def selG (cs : List Cn) (s g : Int) (ps : List Pk) (df : Bool) (k : Int) : So :=
  if k = -1 then (if df = true then ⟨-1, true, ⟨cs, false, 0, false, 0, [], 0⟩⟩ else ⟨-1, false, ⟨wfF cs s g ps ps.length, true, 0, false, 0, [], 0⟩⟩)
  else match ps[k.toNat]? with
    | some p => ⟨k, false, if p.sd = true then sndF cs p.ch s g p.v else rcvF cs p.ch s g⟩
    | none => ⟨k, false, ⟨cs, false, 0, false, 0, [], 0⟩⟩
def selF (cs : List Cn) (s g : Int) (ps : List Pk) (df : Bool) (ds : List Int) : So :=
  if 16 < ps.length then ⟨-1, false, ⟨cs, false, 0, false, 0, [], 1⟩⟩
  else if ds.length < ps.length then ⟨-1, false, ⟨cs, false, 0, false, 0, [], 120⟩⟩
  else if 0 < pls cs s g then ⟨-1, false, ⟨cs, false, 0, false, 0, [], 111⟩⟩
  else if ps.all (fun p => tzF cs p.ch == 0) = true then selG cs s g ps df (fst1 (gzF cs) ps (ord (ds.take ps.length)))
  else ⟨-1, false, ⟨cs, false, 0, false, 4, [], 0⟩⟩
/-- what Select tells and leaves -/
def SoR (t : Nat → Tg) (w : World) (b : Nat) (r : So) (e : Ending) (w' : World) : Prop := ∃ mo mn mc, e = .returned (.tuple #[.agg #[.int .i64 r.k, .bool r.df, .bool r.o.wa, .int .i64 r.o.va, .bool r.o.ok, .int .i64 r.o.tr, .slice mo mn mc], .int .i64 r.o.er]) ∧ Ls eK (w.heap.size ≤ ·) w' (.slice mo mn mc) r.o.ks ∧ ∃ t', Cs t' w' b r.o.cs ∧ Tn t t' w w' ∧ ∀ q, Blk (.slice mo mn mc) q → t' q = .no
theorem blk_none {n c q : Nat} (h : Blk (.slice none n c) q) : False := by
  have h1 : (none : Option Nat) = some q := h
  cases h1
theorem so_gr {t : Nat → Tg} {w w' : World} {b : Nat} {cs : List Cn} {k : Int} {df wa : Bool} {tr er : Int} {e : Ending} (h : Cs t w b cs) (q : e = .returned (.tuple #[.agg #[.int .i64 k, .bool df, .bool wa, .int .i64 0, .bool false, .int .i64 tr, .slice none 0 0], .int .i64 er]) ∧ Gr w w') : SoR t w b ⟨k, df, ⟨cs, wa, 0, false, tr, [], er⟩⟩ e w' :=
  ⟨none, 0, 0, q.1, Ls.nil _ _ _, t, h.gr q.2, Tn.gr q.2, fun _ h => (blk_none h).elim⟩
theorem snd_er {cs : List Cn} {s g : Int} (h : ¬ 0 < pls cs s g) (ch v : Int) : (sndF cs ch s g v).er = 0 := by
  unfold sndF
  rw [if_neg h]
  rcases cAt_cases cs ch with ⟨i, d, e1, hc, e⟩ | ⟨_, e⟩ <;> rw [e]
  · dsimp only
    unfold sndI
    split <;> (try rfl)
    all_goals (split <;> (try rfl))
    all_goals (split <;> rfl)
  · rfl
theorem rcv_er {cs : List Cn} {s g : Int} (h : ¬ 0 < pls cs s g) (ch : Int) : (rcvF cs ch s g).er = 0 := by
  unfold rcvF
  rw [if_neg h]
  rcases cAt_cases cs ch with ⟨i, d, e1, hc, e⟩ | ⟨_, e⟩ <;> rw [e]
  · dsimp only
    unfold rcvI
    split <;> (try rfl)
    all_goals (split <;> (try rfl))
    all_goals (split <;> rfl)
  · rfl
theorem find_mem {α : Type} {p : α → Bool} {l : List α} {d : α} (h : (l.find? p).getD d ≠ d) : (l.find? p).getD d ∈ l ∧ p ((l.find? p).getD d) = true := by
  cases hf : l.find? p with
  | none => rw [hf] at h; exact (h rfl).elim
  | some x => exact ⟨List.mem_of_find?_eq_some hf, List.find?_some hf⟩
theorem fst1_mem {gz : Int → Bool → Bool} {ps : List Pk} {os : List Int} (h : fst1 gz ps os ≠ -1) : fst1 gz ps os ∈ os := by
  unfold fst1 at h ⊢
  exact (find_mem h).1
theorem fst1_goes {gz : Int → Bool → Bool} {ps : List Pk} {os : List Int} (h : fst1 gz ps os ≠ -1) : ∃ p, ps[(fst1 gz ps os).toNat]? = some p ∧ gz p.ch p.sd = true := by
  unfold fst1 at h
  have h2 := (find_mem h).2
  change (match ps[(fst1 gz ps os).toNat]? with | some p => gz p.ch p.sd | none => false) = true at h2
  cases hp : ps[(fst1 gz ps os).toNat]? with
  | none => rw [hp] at h2; cases h2
  | some p => rw [hp] at h2; exact ⟨p, rfl, h2⟩
theorem select_any {t : Nat → Tg} {w : World} {b N : Nat} {cs : List Cn} {s g : Int} (h : Cs t w b cs) (hG : Gd N cs) (hN : N + 16 < 4398046511104) (hk : Gok s g) (P Q : Nat → Prop) (v d : Value) (ps : List Pk) (df : Bool) (ds : List Int) (hps : Ls eP P w v ps) (hpP : ∀ q, P q → t q = .no) (hds : Ls eU Q w d ds) (hd : Dok ds) :
    Calls Try.prog 11 #[.pointer (some ⟨b, 0, none⟩), .agg #[.int .i64 s, .int .i64 g], v, .bool df, d] w (SoR t w b (selF cs s g ps df ds)) := by
  obtain ⟨ao, cap, rfl⟩ := hps.form
  obtain ⟨dp, dc, rfl⟩ := hds.form
  have hi := cs_hi h
  unfold selF
  by_cases h16 : 16 < ps.length
  · rw [if_pos h16]
    refine (sel_err (some ⟨b, 0, none⟩) ao _ cap df _ (er := 1) (by decide) (fun W _ => order_arg _ _ W (by omega))).mono ?_
    intro e w' q
    exact so_gr h q
  · rw [if_neg h16]
    by_cases hf : ds.length < ps.length
    · rw [if_pos hf]
      refine (sel_err (some ⟨b, 0, none⟩) ao _ cap df _ (er := 120) (by decide) (fun W _ => order_few _ _ dc dp W (by omega) hf)).mono ?_
      intro e w' q
      exact so_gr h q
    · rw [if_neg hf]
      have hO : ∀ W, Gr w W → Calls Try.prog 16 #[.int .i64 (ps.length : Int), .slice dp ds.length dc] W (OrR W ps.length (ord (ds.take ps.length))) := fun W p => order_ok Q W dp _ dc ds _ (hds.gr p) hd (by omega) (by omega)
      by_cases hp : 0 < pls cs s g
      · rw [if_pos hp]
        refine (sel_busy (some ⟨b, 0, none⟩) ao _ cap df _ _ hO (fun W p => (waits_any (h.gr p) hk).mono ?_)).mono ?_
        · rintro e w' ⟨rfl, q⟩
          exact ⟨by rw [decide_eq_true hp], q⟩
        · intro e w' q
          exact so_gr h q
      · rw [if_neg hp]
        have hWt : ∀ W, Gr w W → Calls Try.prog 10 #[.pointer (some ⟨b, 0, none⟩), .agg #[.int .i64 s, .int .i64 g]] W fun e w' => e = .returned (.bool false) ∧ Gr W w' := fun W p => (waits_any (h.gr p) hk).mono (by
          rintro e w' ⟨rfl, q⟩
          exact ⟨by rw [decide_eq_false hp], q⟩)
        have hGo : ∀ W, Gr w W → GoA (.pointer (some ⟨b, 0, none⟩)) W (gzF cs) (tzF cs) := fun W p V r ch sd => (goes_any (h.gr (Gr.trans p r)) hG.n ch sd).mono (by
          rintro e w' ⟨rfl, q⟩
          exact ⟨by rw [tzF_any]; rfl, q⟩)
        have hCa : ∀ W, Gr w W → Calls Try.prog 28 #[.pointer (some ⟨b, 0, none⟩), .slice ao ps.length cap] W fun e w' => e = .returned (.bool (ps.all (fun p => tzF cs p.ch == 0))) ∧ Gr W w' := fun W p => chall_any _ P W ao _ cap ps _ _ (hps.gr p) (by omega) (hGo W p)
        cases ha : ps.all (fun p => tzF cs p.ch == 0) with
        | false =>
          rw [if_neg (by simp)]
          rw [ha] at hCa
          exact (sel_trap (some ⟨b, 0, none⟩) ao _ cap df _ _ hO hWt hCa).mono (fun e w' q => so_gr h q)
        | true =>
          rw [if_pos rfl]
          rw [ha] at hCa
          have hol : (ord (ds.take ps.length)).length = ps.length := by rw [ord_len, List.length_take]; omega
          have hor : ∀ o ∈ ord (ds.take ps.length), 0 ≤ o ∧ o < (ps.length : Int) := fun o ho => by
            have := (ord_all (ds.take ps.length)).lt ho
            rw [hol] at this
            exact this
          have hFi : ∀ W, Gr w W → ∀ oo co, Ls eI (w.heap.size ≤ ·) W (.slice oo ps.length co) (ord (ds.take ps.length)) → Calls Try.prog 29 #[.pointer (some ⟨b, 0, none⟩), .slice ao ps.length cap, .slice oo ps.length co] W fun e w' => e = .returned (.int .i64 (fst1 (gzF cs) ps (ord (ds.take ps.length)))) ∧ Gr W w' := fun W p oo co l => first_any _ P _ W ao _ cap ps oo _ co _ _ _ (hps.gr p) l (by omega) hor (hGo W p)
          have hm := @fst1_mem (gzF cs) ps (ord (ds.take ps.length))
          obtain ⟨k, hkk⟩ : ∃ k, k = fst1 (gzF cs) ps (ord (ds.take ps.length)) := ⟨_, rfl⟩
          rw [← hkk] at hFi hm ⊢
          unfold selG
          by_cases hk1 : k = -1
          · subst hk1
            rw [if_pos rfl]
            cases df with
            | true =>
              rw [if_pos rfl]
              exact (sel_def (some ⟨b, 0, none⟩) ao _ cap _ _ hO hWt hCa hFi).mono (fun e w' q => so_gr h q)
            | false =>
              rw [if_neg (by simp)]
              refine (sel_wait hi ao _ cap _ _ hO hWt hCa hFi (fun W p => wfa_any (h.gr p) hG hN hk ao _ cap ps P (hps.gr p) hpP (by omega))).mono ?_
              rintro e w' ⟨h1, t', h2, h3⟩
              exact ⟨none, 0, 0, h1, Ls.nil _ _ _, t', h2, h3, fun _ h => (blk_none h).elim⟩
          · rw [if_neg hk1]
            obtain ⟨k0, k1⟩ := hor k (hm hk1)
            obtain ⟨k, rfl⟩ : ∃ j : Nat, k = (j : Int) := ⟨k.toNat, by omega⟩
            obtain ⟨⟨x0, x1, x2⟩, hx⟩ : ∃ x, ps[k]? = some x := ⟨_, List.getElem?_eq_getElem (by omega)⟩
            rw [Int.toNat_natCast, hx]
            dsimp only
            cases x0 with
            | true =>
              rw [if_pos rfl]
              have hS : ∀ W, Gr w W → ∀ V, Gr W V → Calls Try.prog 50 #[.pointer (some ⟨b, 0, none⟩), .int .i64 x1, .agg #[.int .i64 s, .int .i64 g], .int .i64 x2] V (MvR t V b (sndF cs x1 s g x2).cs (sndF cs x1 s g x2).wa (sndF cs x1 s g x2).va (sndF cs x1 s g x2).ok (sndF cs x1 s g x2).tr (sndF cs x1 s g x2).ks 0) := fun W p V r => (send_any (h.gr (Gr.trans p r)) hG (by omega) hk x1 x2).mono (fun e w' q => by unfold MvO at q; rw [snd_er hp] at q; exact q)
              refine (sel_goes ao _ cap ps df _ _ k true x1 x2 P hps hpP hx hi hO hWt hCa hFi (fun W p => carry_send (fun q hq => hi q (Nat.le_trans p.size hq)) (hS W p))).mono ?_
              rintro e w' ⟨mo, mn, mc, h1, h2, t', h3, h4, h5⟩
              exact ⟨mo, mn, mc, by rw [h1, snd_er hp], h2.lst, t', h3, h4, h5⟩
            | false =>
              rw [if_neg (by simp)]
              have hS : ∀ W, Gr w W → ∀ V, Gr W V → Calls Try.prog 51 #[.pointer (some ⟨b, 0, none⟩), .int .i64 x1, .agg #[.int .i64 s, .int .i64 g]] V (MvR t V b (rcvF cs x1 s g).cs (rcvF cs x1 s g).wa (rcvF cs x1 s g).va (rcvF cs x1 s g).ok (rcvF cs x1 s g).tr (rcvF cs x1 s g).ks 0) := fun W p V r => (recv_any (h.gr (Gr.trans p r)) hG (by omega) hk x1).mono (fun e w' q => by unfold MvO at q; rw [rcv_er hp] at q; exact q)
              refine (sel_goes ao _ cap ps df _ _ k false x1 x2 P hps hpP hx hi hO hWt hCa hFi (fun W p => carry_recv (fun q hq => hi q (Nat.le_trans p.size hq)) (hS W p))).mono ?_
              rintro e w' ⟨mo, mn, mc, h1, h2, t', h3, h4, h5⟩
              exact ⟨mo, mn, mc, by rw [h1, rcv_er hp], h2.lst, t', h3, h4, h5⟩
end Go.Proofs.Ytalmiphddgmfbab.Lt

namespace Go.Proofs.Ytalmiphddgmfbab.Lt
open Go.RowKit Wd

theorem snd_goes {cs : List Cn} {ch s g v : Int} (h : gzF cs ch true = true) (hp : pls cs s g = 0) : (sndF cs ch s g v).wa = false ∧ pls (sndF cs ch s g v).cs s g = 0 := by
  unfold gzF gsF at h
  unfold sndF
  rw [if_neg (by omega)]
  rcases cAt_cases cs ch with ⟨i, c, e1, hc, e⟩ | ⟨_, e⟩
  · rw [e] at h ⊢
    dsimp only at h ⊢
    unfold goes at h
    unfold sndI
    cases hcl : c.cl with
    | true => exact ⟨rfl, hp⟩
    | false =>
      rw [hcl] at h
      simp only [Bool.false_eq_true, if_false] at h ⊢
      cases hrs : c.rs with
      | cons r rr => exact ⟨rfl, Nat.le_zero.1 (hp ▸ pls_lvs_le cs r.s r.g s g)⟩
      | nil =>
        rw [hrs] at h
        have hv : (c.vs.length : Int) < c.cap := by simpa using h
        dsimp only
        rw [if_pos hv]
        refine ⟨rfl, ?_⟩
        dsimp only
        rw [pls_set hc (by unfold Cn.pl; rw [hrs])]
        exact hp
  · rw [e] at h
    cases h
theorem rcv_goes {cs : List Cn} {ch s g : Int} (h : gzF cs ch false = true) (hp : pls cs s g = 0) : (rcvF cs ch s g).wa = false ∧ pls (rcvF cs ch s g).cs s g = 0 := by
  unfold gzF gsF at h
  unfold rcvF
  rw [if_neg (by omega)]
  rcases cAt_cases cs ch with ⟨i, c, e1, hc, e⟩ | ⟨_, e⟩
  · rw [e] at h ⊢
    dsimp only at h ⊢
    unfold goes at h
    unfold rcvI
    cases hss : c.ss with
    | cons x xx =>
      cases hvs : c.vs with
      | cons u us =>
        refine ⟨rfl, ?_⟩
        dsimp only
        rw [pls_set (lvs_get hc x.s x.g) (by unfold Cn.pl Cn.wo; rw [hss])]
        exact Nat.le_zero.1 (hp ▸ pls_lvs_le cs x.s x.g s g)
      | nil => exact ⟨rfl, Nat.le_zero.1 (hp ▸ pls_lvs_le cs x.s x.g s g)⟩
    | nil =>
      cases hvs : c.vs with
      | cons u us =>
        refine ⟨rfl, ?_⟩
        dsimp only
        rw [pls_set hc (by unfold Cn.pl; rw [hss])]
        exact hp
      | nil =>
        dsimp only
        cases hcl : c.cl with
        | true => rw [if_pos rfl]; exact ⟨rfl, hp⟩
        | false => rw [hcl, hss, hvs] at h; simp at h
  · rw [e] at h
    cases h
/-- is there such a channel -/
def inR (n : Nat) (ch : Int) : Bool := decide (1 ≤ ch ∧ ch ≤ (n : Int))
theorem wo_self (l : List Wt) (s g c v : Int) : (wo (l ++ [⟨s, g, c, v⟩]) s g).length = (wo l s g).length := by
  unfold wo
  rw [List.filter_append]
  simp
theorem wt_len (cs : List Cn) (ch s g c v : Int) (sd : Bool) : (wtF cs ch s g c v sd).length = cs.length := by
  unfold wtF
  split
  · rfl
  · split <;> rw [List.length_set]
theorem pls_wt (cs : List Cn) (ch s g c v : Int) (sd : Bool) : pls (wtF cs ch s g c v sd) s g = pls cs s g + (if inR cs.length ch = true then 1 else 0) := by
  unfold wtF inR
  rcases cAt_cases cs ch with ⟨i, d, e1, hc, e⟩ | ⟨hn, e⟩ <;> rw [e]
  · have hi := (List.getElem?_eq_some_iff.1 hc).1
    rw [if_pos (by rw [e1]; simp; omega)]
    dsimp only
    unfold pls
    split
    · have h1 := sum_set (f := fun c => c.pl s g) (d := ⟨d.cap, d.vs, d.ss ++ [⟨s, g, c, v⟩], d.rs, d.cl⟩) hc
      have h2 : (Cn.mk d.cap d.vs (d.ss ++ [⟨s, g, c, v⟩]) d.rs d.cl).pl s g = d.pl s g + 1 := by
        have := wo_le d.ss s g
        unfold Cn.pl
        dsimp only
        rw [wo_self, List.length_append, List.length_singleton]
        omega
      omega
    · have h1 := sum_set (f := fun c => c.pl s g) (d := ⟨d.cap, d.vs, d.ss, d.rs ++ [⟨s, g, c, 0⟩], d.cl⟩) hc
      have h2 : (Cn.mk d.cap d.vs d.ss (d.rs ++ [⟨s, g, c, 0⟩]) d.cl).pl s g = d.pl s g + 1 := by
        have := wo_le d.rs s g
        unfold Cn.pl
        dsimp only
        rw [wo_self, List.length_append, List.length_singleton]
        omega
      omega
  · rw [if_neg (by simpa using hn)]
    rfl
theorem wf_len (cs : List Cn) (s g : Int) (ps : List Pk) : ∀ j, (wfF cs s g ps j).length = cs.length := by
  intro j
  induction j with
  | zero => rfl
  | succ j ih =>
    rw [wfF]
    split
    · rw [wt_len, ih]
    · exact ih
theorem pls_wf (cs : List Cn) (s g : Int) (ps : List Pk) : ∀ j, j ≤ ps.length → (0 < pls (wfF cs s g ps j) s g ↔ 0 < pls cs s g ∨ (ps.take j).any (fun p => inR cs.length p.ch) = true) := by
  intro j
  induction j with
  | zero => intro _; rw [List.take_zero, wfF]; simp
  | succ j ih =>
    intro hj
    obtain ⟨p, hp⟩ : ∃ p, ps[j]? = some p := ⟨_, List.getElem?_eq_getElem (by omega)⟩
    rw [wfF_step hp, pls_wt, wf_len, take_one hp, List.any_append]
    have h1 := ih (by omega)
    cases hq : inR cs.length p.ch with
    | true => simp [hq]
    | false => simp [hq, h1]
theorem tz_in {cs : List Cn} {ch : Int} (h : tzF cs ch = 0) : inR cs.length ch = !(ch == 0) := by
  unfold tzF gsF at h
  unfold inR
  rcases cAt_cases cs ch with ⟨i, d, e1, hc, e⟩ | ⟨hn, e⟩
  · have hi := (List.getElem?_eq_some_iff.1 hc).1
    rw [decide_eq_true (by omega)]
    have : ch ≠ 0 := by omega
    simp [this]
  · rw [e] at h
    dsimp only at h
    rw [decide_eq_false hn]
    by_cases h0 : ch = 0
    · simp [h0]
    · rw [if_neg h0] at h; cases h
theorem fst1_all {gz : Int → Bool → Bool} {ps : List Pk} {os : List Int} (hA : All os) (hl : os.length = ps.length) (h : fst1 gz ps os = -1) : ∀ p ∈ ps, gz p.ch p.sd = false := by
  intro p hp
  obtain ⟨i, hi⟩ := List.mem_iff_getElem?.1 hp
  have hil := (List.getElem?_eq_some_iff.1 hi).1
  have hm := hA i (by omega)
  obtain ⟨j, hj⟩ := List.mem_iff_getElem?.1 hm
  cases hg : gz p.ch p.sd with
  | false => rfl
  | true =>
    exfalso
    unfold fst1 at h
    cases hf : os.find? (fun o => match ps[o.toNat]? with | some p => gz p.ch p.sd | none => false) with
    | none =>
      have := List.find?_eq_none.1 hf _ hm
      rw [Int.toNat_natCast, hi] at this
      exact this hg
    | some x =>
      have h2 : (os.find? (fun o => match ps[o.toNat]? with | some p => gz p.ch p.sd | none => false)).getD (-1) = -1 := h
      rw [hf] at h2
      have hx := hA.lt (List.mem_of_find?_eq_some hf)
      have : x = -1 := h2
      omega
/-- the classes of a select -/
theorem sel_classes (cs : List Cn) (s g : Int) (ps : List Pk) (df : Bool) (ds : List Int) :
    (¬ (ps.length ≤ 16 ∧ ps.length ≤ ds.length ∧ pls cs s g = 0) ∧ (selF cs s g ps df ds).k = -1 ∧ (selF cs s g ps df ds).df = false ∧ (selF cs s g ps df ds).o.wa = false ∧ ((16 < ps.length ∧ (selF cs s g ps df ds).o.er = 1) ∨ (¬ 16 < ps.length ∧ ds.length < ps.length ∧ (selF cs s g ps df ds).o.er = 120) ∨ (¬ 16 < ps.length ∧ ¬ ds.length < ps.length ∧ 0 < pls cs s g ∧ (selF cs s g ps df ds).o.er = 111))) ∨
    ((ps.length ≤ 16 ∧ ps.length ≤ ds.length ∧ pls cs s g = 0) ∧ (selF cs s g ps df ds).o.er = 0 ∧
      ((ps.all (fun p => tzF cs p.ch == 0) = false ∧ (selF cs s g ps df ds).k = -1 ∧ (selF cs s g ps df ds).df = false ∧ (selF cs s g ps df ds).o.tr = 4) ∨
       (ps.all (fun p => tzF cs p.ch == 0) = true ∧ ((∃ (i : Nat) (p : Pk), (selF cs s g ps df ds).k = (i : Int) ∧ ps[i]? = some p ∧ gzF cs p.ch p.sd = true ∧ (selF cs s g ps df ds).df = false ∧ (selF cs s g ps df ds).o.wa = false ∧ pls (selF cs s g ps df ds).o.cs s g = 0) ∨
        ((∀ p ∈ ps, gzF cs p.ch p.sd = false) ∧ (selF cs s g ps df ds).k = -1 ∧ (selF cs s g ps df ds).df = df ∧ (selF cs s g ps df ds).o.wa = !df ∧ decide (0 < pls (selF cs s g ps df ds).o.cs s g) = (ps.any (fun p => !(p.ch == 0)) && !df)))))) := by
  unfold selF
  by_cases h16 : 16 < ps.length
  · rw [if_pos h16]
    exact .inl ⟨fun h => by omega, rfl, rfl, rfl, .inl ⟨h16, rfl⟩⟩
  · rw [if_neg h16]
    by_cases hf : ds.length < ps.length
    · rw [if_pos hf]
      exact .inl ⟨fun h => by omega, rfl, rfl, rfl, .inr (.inl ⟨h16, hf, rfl⟩)⟩
    · rw [if_neg hf]
      by_cases hp : 0 < pls cs s g
      · rw [if_pos hp]
        exact .inl ⟨fun h => by omega, rfl, rfl, rfl, .inr (.inr ⟨h16, hf, hp, rfl⟩)⟩
      · rw [if_neg hp]
        have hp0 : pls cs s g = 0 := by omega
        refine .inr ⟨⟨by omega, by omega, hp0⟩, ?_⟩
        have hol : (ord (ds.take ps.length)).length = ps.length := by rw [ord_len, List.length_take]; omega
        have hA := ord_all (ds.take ps.length)
        cases ha : ps.all (fun p => tzF cs p.ch == 0) with
        | false =>
          rw [if_neg (by simp)]
          exact ⟨rfl, .inl ⟨rfl, rfl, rfl, rfl⟩⟩
        | true =>
          rw [if_pos rfl]
          have hg := @fst1_goes (gzF cs) ps (ord (ds.take ps.length))
          have hn := @fst1_all (gzF cs) ps (ord (ds.take ps.length)) hA hol
          have hm := @fst1_mem (gzF cs) ps (ord (ds.take ps.length))
          obtain ⟨k, hk⟩ : ∃ k, k = fst1 (gzF cs) ps (ord (ds.take ps.length)) := ⟨_, rfl⟩
          rw [← hk] at hg hn hm ⊢
          unfold selG
          by_cases hk1 : k = -1
          · rw [if_pos hk1]
            cases df with
            | true =>
              rw [if_pos rfl]
              refine ⟨rfl, .inr ⟨rfl, .inr ⟨hn hk1, rfl, rfl, rfl, ?_⟩⟩⟩
              dsimp only
              rw [hp0]
              simp
            | false =>
              rw [if_neg (by simp)]
              refine ⟨rfl, .inr ⟨rfl, .inr ⟨hn hk1, rfl, rfl, rfl, ?_⟩⟩⟩
              dsimp only
              have h1 := pls_wf cs s g ps ps.length (Nat.le_refl _)
              rw [List.take_length] at h1
              have h2 : ps.any (fun p => inR cs.length p.ch) = ps.any (fun p => !(p.ch == 0)) := by
                rw [Bool.eq_iff_iff, List.any_eq_true, List.any_eq_true]
                constructor
                · rintro ⟨p, hpp, q⟩
                  exact ⟨p, hpp, by rw [← tz_in (by have := List.all_eq_true.1 ha p hpp; simpa using this)]; exact q⟩
                · rintro ⟨p, hpp, q⟩
                  exact ⟨p, hpp, by rw [tz_in (by have := List.all_eq_true.1 ha p hpp; simpa using this)]; exact q⟩
              rw [h2] at h1
              cases hq : ps.any (fun p => !(p.ch == 0)) with
              | true => rw [hq] at h1; rw [decide_eq_true (h1.2 (.inr rfl))]; rfl
              | false =>
                rw [hq] at h1
                rw [decide_eq_false (fun h => by rcases h1.1 h with h | h; exact hp h; cases h)]
                rfl
          · rw [if_neg hk1]
            obtain ⟨p, hp1, hp2⟩ := hg hk1
            have hlt := hA.lt (hm hk1)
            obtain ⟨i, hi⟩ : ∃ i : Nat, k = (i : Int) := ⟨k.toNat, by omega⟩
            subst hi
            rw [Int.toNat_natCast] at hp1 ⊢
            rw [hp1]
            dsimp only
            rcases Bool.eq_false_or_eq_true p.sd with hsd | hsd
            · have hp3 := hp2
              rw [hsd] at hp3
              obtain ⟨q1, q2⟩ := snd_goes (s := s) (g := g) (v := p.v) hp3 hp0
              refine ⟨?_, .inr ⟨rfl, .inl ⟨i, p, rfl, hp1, hp2, rfl, ?_, ?_⟩⟩⟩
              · rw [if_pos hsd]; exact snd_er hp _ _
              · rw [if_pos hsd]; exact q1
              · rw [if_pos hsd]; exact q2
            · have hp3 := hp2
              rw [hsd] at hp3
              obtain ⟨q1, q2⟩ := rcv_goes (s := s) (g := g) hp3 hp0
              refine ⟨?_, .inr ⟨rfl, .inl ⟨i, p, rfl, hp1, hp2, rfl, ?_, ?_⟩⟩⟩
              · rw [if_neg (by rw [hsd]; simp)]; exact rcv_er hp _
              · rw [if_neg (by rw [hsd]; simp)]; exact q1
              · rw [if_neg (by rw [hsd]; simp)]; exact q2
end Go.Proofs.Ytalmiphddgmfbab.Lt

namespace Go.Proofs.Ytalmiphddgmfbab.Lt
open Go.RowKit Wd
attribute [local go_sem ↓] Go.wp_at_zero Go.wp_at_succ

/-- would it not wait, by its handle? -/
def gzc (cs : List Cn) (ch : Int) (sd : Bool) : Bool := if 1 ≤ ch then (match cs[(ch - 1).toNat]? with | some c => goes c sd | none => false) else false
/-- the trap of a handle -/
def tzc (cs : List Cn) (ch : Int) : Int := if 0 ≤ ch ∧ ch ≤ (cs.length : Int) then 0 else 4
theorem goa_any {t : Nat → Tg} {w : World} {b : Nat} {cs : List Cn} (h : Cs t w b cs) (hn : cs.length ≤ 1024) : GoA (.pointer (some ⟨b, 0, none⟩)) w (gzc cs) (tzc cs) := by
  intro W g ch sd
  by_cases hc : 1 ≤ ch ∧ ch ≤ (cs.length : Int)
  · obtain ⟨i, rfl⟩ : ∃ i : Nat, ch = (i : Int) + 1 := ⟨(ch - 1).toNat, by omega⟩
    obtain ⟨c, hx⟩ : ∃ c, cs[i]? = some c := ⟨_, List.getElem?_eq_getElem (by omega)⟩
    have e1 : gzc cs ((i : Int) + 1) sd = goes c sd := by
      unfold gzc
      rw [if_pos (by omega), show ((i : Int) + 1 - 1).toNat = i by omega, hx]
    have e2 : tzc cs ((i : Int) + 1) = 0 := by unfold tzc; rw [if_pos (by omega)]
    rw [e1, e2]
    exact goes_yes (h.gr g) hx hn sd
  · have e1 : gzc cs ch sd = false := by
      unfold gzc
      by_cases h1 : 1 ≤ ch
      · rw [if_pos h1, List.getElem?_eq_none (by omega)]
      · rw [if_neg h1]
    have e2 : tzc cs ch = if ch = 0 then 0 else 4 := by
      unfold tzc
      by_cases h0 : ch = 0
      · rw [if_pos h0, if_pos (by omega)]
      · rw [if_neg h0, if_neg (by omega)]
    rw [e1, e2]
    exact goes_no (h.gr g) ch sd hc
theorem Tn.low {t t' : Nat → Tg} {w w1 w2 : World} (hT : ∀ q, q < w.heap.size → t q = .no) (g : Gr w w1) (n : Tn t t' w1 w2) : Gr w w2 ∧ ∀ q, q < w.heap.size → t' q = .no :=
  ⟨Ch.trans g n.c (fun q hq => by
    by_cases h1 : q < w.heap.size
    · exact (hq (hT q h1)).elim
    · exact .inr (by omega)), fun q hq => n.o q (Nat.lt_of_lt_of_le hq g.size) (hT q hq)⟩
theorem Cs.hi {t : Nat → Tg} {w : World} {b : Nat} {cs : List Cn} (h : Cs t w b cs) : ∀ q, w.heap.size ≤ q → t q = .no := by
  obtain ⟨k, v, xs, M, clock, h⟩ := h
  intro q hq
  rcases Classical.em (t q = .no) with e | e
  · exact e
  · have := h.hi q e; omega
set_option maxRecDepth 20000 in
set_option maxHeartbeats 4000000 in
theorem awake_any (w : World) : Calls Try.prog 8 #[] w fun e w' => e = .returned (.bool true) ∧ Gr w w' := by
  have HN := hid (new_any w)
  go_enter Try.func8, Try.ntmps8
  go_upto_region 2 with (first
    | (go_at_call 12; refine HN.out.mono ?_; rintro e w1 ⟨b, t1, rfl, c1, g1, z1⟩; have C1 := hid c1; have G1 := hid g1; have Z1 := hid z1; clear c1 g1 z1))
  have HM := hid (make_yes C1.out 1 (by decide))
  go_upto_region 3 with (first
    | (go_at_call 13; refine HM.out.mono ?_; rintro e w2 ⟨rfl, t2, c2, n2⟩; have C2 := hid (show Cs t2 w2 b [⟨1, [], [], [], false⟩] from c2); obtain ⟨g2, z2⟩ := Tn.low Z1.out G1.out n2; have G2 := hid g2; have Z2 := hid z2; clear c2 n2 g2 z2))
  obtain ⟨W3, hW3⟩ : ∃ W3, W3 = (w2.alloc (.cells #[.bool true, .int .i64 1, .int .i64 4] 39)).alloc (.cells #[.int .u64 9] 77) := ⟨_, rfl⟩
  have g3 : Gr w2 W3 := by rw [hW3]; exact Ch.alloc (Ch.alloc (Gr.refl _) _) _
  have C3 := hid (C2.out.gr g3)
  have hps : Ls eP (· = w2.heap.size) W3 (.slice (some ⟨w2.heap.size, 0, none⟩) 1 1) [⟨true, 1, 4⟩] := by rw [hW3]; exact (Ls.single w2 (Pk.mk true 1 4) 39 _ rfl).alloc _
  have hds : Ls eU (· = w2.heap.size + 1) W3 (.slice (some ⟨w2.heap.size + 1, 0, none⟩) 1 1) [9] := by
    rw [hW3]
    have := Ls.single (enc := eU) (w2.alloc (.cells #[.bool true, .int .i64 1, .int .i64 4] 39)) 9 77 #[.int .u64 9] rfl
    simpa using this
  have hno : ∀ q, w2.heap.size ≤ q → t2 q = .no := C2.out.hi
  have gk11 : Gok 1 1 := by unfold Gok; omega
  have HS := hid (sel_goes (t := t2) (w := W3) (b := b) (cs := [⟨1, [4], [], [], false⟩]) (s := 1) (g := 1) (wa := false) (va := 0) (ok := true) (tr := 0) (ks := []) _ 1 1 [⟨true, 1, 4⟩] false _ [0] 0 true 1 4 _ hps (fun q e => hno q (by omega)) rfl (fun q hq => hno q (by have := g3.size; omega))
    (fun W p => order_ok _ W _ 1 1 [9] 1 (hds.gr p) (by intro d hd; simp at hd; omega) (by omega) (by omega))
    (fun W p => waits_any (C3.out.gr p) gk11)
    (fun W p => chall_any _ _ W _ 1 1 _ _ _ (hps.gr p) (by omega) (goa_any (C3.out.gr p) (by decide)))
    (fun W p oo co l => first_any _ _ _ W _ 1 1 _ _ 1 co [0] _ _ (hps.gr p) l (by omega) (by intro o ho; simp at ho; omega) (goa_any (C3.out.gr p) (by decide)))
    (fun W p => carry_send (fun q hq => hno q (by have := g3.size; have := p.size; omega)) (fun W' p' => (send_room (i := 0) ((C3.out.gr p).gr p') gk11 rfl (by decide) 4 rfl rfl (by decide) (by decide) rfl).mono (fun e w' h => SnR.mv h))))
  have hsz : w2.heap.size ≤ W3.heap.size := g3.size
  have G3 := hid (Gr.trans G2.out g3)
  rw [hW3] at HS
  clear hps hds hno gk11 g3 HM HN hsz
  go_upto_region 4 with (first
    | (go_at_call 11; refine HS.out.mono ?_; rintro e w4 ⟨mo, mn, mc, rfl, -, t4, c4, n4, -⟩; rw [← hW3] at n4; have C4 := hid c4; obtain ⟨g4, z4⟩ := Tn.low Z2.out G3.out n4; have G4 := hid g4; clear c4 n4 g4 z4))
  have HL := hid (fun (W : World) (p : Gr w4 W) => len_yes (i := 0) (C4.out.gr p) rfl (by decide))
  have GA := hid (show Gr w4 (w4.alloc (.cells #[.int .i64 0, .bool false, .bool false, .int .i64 0, .bool true, .int .i64 0, .slice mo mn mc] 45)) from Ch.alloc (Gr.refl _) _)
  go_wp2_with (first
    | (go_at_call 25; refine (HL.out _ GA.out).mono ?_; rintro e w5 ⟨rfl, hw⟩; subst hw))
  go_ret
  exact ⟨rfl, Gr.trans G4.out GA.out⟩
end Go.Proofs.Ytalmiphddgmfbab.Lt

namespace Go.Proofs.Ytalmiphddgmfbab.Lt
open Go.RowKit Wd
attribute [local go_sem ↓] Go.wp_at_zero Go.wp_at_succ

def eBl (b : Bool) : List Value := [.bool b]
theorem eBl_len (b : Bool) : (eBl b).length = 1 := rfl
theorem eBl_one (xs : List Bool) : ∀ u ∈ xs.flatMap eBl, u.oneCell' = true := by
  intro u hu
  rw [List.mem_flatMap] at hu
  obtain ⟨x, _, hx⟩ := hu
  simp only [eBl, List.mem_cons, List.not_mem_nil, or_false] at hx
  rw [hx]
  rfl
theorem bool_info : (Try.prog.info? 4).map (fun i => (i.zero, i.size, i.bytes)) = some (some (.bool false), 1, 1) := by kernel_rfl
/-- a case's cells, and where it is found -/
structure Srd (gp op B : Nat) (v : Value) (x0 : Bool) (x1 : Int) (W : World) : Prop where
  p0 : W.cell? ⟨gp, op, none⟩ = some (.bool x0)
  p1 : W.cell? ⟨gp, op + 1, none⟩ = some (.int .i64 x1)
  a2 : W.cell? ⟨B, 2, none⟩ = some v
  lp : gp < W.heap.size
  lb : B < W.heap.size
theorem Srd.gr {gp op B : Nat} {v : Value} {x0 : Bool} {x1 : Int} {W W' : World} (h : Srd gp op B v x0 x1 W) (k : Gr W W') : Srd gp op B v x0 x1 W' :=
  ⟨(k.cell h.lp).trans h.p0, (k.cell h.lp).trans h.p1, (k.cell h.lb).trans h.a2, Nat.lt_of_lt_of_le h.lp k.size, Nat.lt_of_lt_of_le h.lb k.size⟩
set_option maxRecDepth 40000 in
set_option maxHeartbeats 16000000 in
theorem ready_walk (P : Nat → Prop) (w : World) (lo ao dp : Option Addr) (n cap m ca k da : Nat) (cs : List Cn) (s g : Int) (df : Bool) (ps : List Pk) (ds : List Int) (h : Rds P w (.slice lo n cap) cs) (hb : Bd cs) (ht : tot cs ≤ 1048576) (hg : ∀ c ∈ cs, ∀ x, x ∈ c.ss ∨ x ∈ c.rs → Gok x.s x.g) (hk : Gok s g) (hps : Ls eP (· < w.heap.size) w (.slice ao m ca) ps) (hds : Ls eU (· < w.heap.size) w (.slice dp k da) ds) (hd : Dok ds) (hm : m ≤ 1048576) :
    Calls Try.prog 3 #[.slice lo n cap, .agg #[.int .i64 s, .int .i64 g, .slice ao m ca, .bool df, .slice dp k da]] w fun e w' => e = .returned (.bool true) ∧ Gr w w' := by
  obtain ⟨W0, hW0⟩ : ∃ W, W = w.alloc (.cells #[.int .i64 s, .int .i64 g, .slice ao m ca, .bool df, .slice dp k da] 28) := ⟨_, rfl⟩
  have G0 := hid (show Gr w W0 from by rw [hW0]; exact Ch.alloc (Gr.refl w) _)
  have BX := hid (show W0.heap[w.heap.size]? = some (.cells #[.int .i64 s, .int .i64 g, .slice ao m ca, .bool df, .slice dp k da] 28 (0, 0)) from by rw [hW0]; exact (MapKept.heap_alloc w _).1)
  have HLD := hid (load_any (h.gr G0.out) hb (by omega) hg)
  have HLV := hid awake_any
  have HPS := hid hps
  have HDS := hid hds
  have HPL := hid hps.len.1
  have HDL := hid hds.len.1
  have HDD := hid hd
  have HK := hid hk
  have HGO := hid hg
  have HTO := hid ht
  clear h hb ht hg hps hds hk hd
  cases hz : ldB cs with
  | false =>
    have HZ := hid hz
    clear hz
    rw [hW0] at HLD
    go_enter Try.func3, Try.ntmps3
    go_wp2_with (first
      | (go_at_call 7; refine HLD.out.mono ?_; rintro e w1 ⟨-, no1, g1⟩; rw [← hW0] at g1; obtain rfl := no1 HZ.out; have G1 := hid (Gr.trans G0.out g1); clear no1 g1)
      | (go_at_call 8; refine (HLV.out _).mono ?_; rintro e w3 ⟨rfl, g3⟩; have G3 := hid (Gr.trans G1.out g3); clear g3))
    go_ret
    exact ⟨rfl, G3.out⟩
  | true =>
    have HZ := hid hz
    clear hz
    have HG0 := hid (ldB_gd HZ.out HTO.out HGO.out)
    obtain ⟨o, ho⟩ : ∃ o, o = selF cs s g ps df ds := ⟨_, rfl⟩
    have HCL := hid (sel_classes cs s g ps df ds)
    rw [← ho] at HCL
    have HOO := hid ho
    clear ho
    rw [hW0] at HLD
    go_enter Try.func3, Try.ntmps3
    go_upto_region 4 with (go_at_call 7; refine HLD.out.mono ?_; rintro e w1 ⟨yes1, -, g1⟩; rw [← hW0] at g1 yes1; obtain ⟨b, t1, rfl, c1, z1⟩ := yes1 HZ.out; have G1 := hid g1; have C1 := hid c1; have Z1 := hid z1; clear yes1 g1 c1 z1)
    clear HLD hW0 HLV
    have SW := hid (show w.heap.size < W0.heap.size from lt_of_block BX.out)
    have HNX := hid (Z1.out w.heap.size (lt_of_block BX.out))
    have HGS := hid (fun (W : World) (p : Gr w1 W) (ch : Int) (sd : Bool) => goes_any (C1.out.gr p) HG0.out.n ch sd)
    go_wp2_with fail
    go_loopg [7, 8, 9] m (fun q v7 v8 v9 wr => ∃ (j : Nat) (ao7 : Option Addr) (c7 : Nat), j + q = m ∧ v7 = .slice ao7 j c7 ∧ v9 = .int .i64 (j : Int) ∧ v8 = .bool (!(ps.take j).all (fun p => tzF cs p.ch == 0)) ∧ Ow eBl 1 4 w1.heap.size wr (.slice ao7 j c7) ((ps.take j).map (fun p => gzF cs p.ch p.sd)) ∧ Gr w1 wr)
    case atStart => exact ⟨0, none, 0, by omega, rfl, rfl, rfl, Ow.nil _ _ _ _ _, Gr.refl _⟩
    case round =>
      obtain ⟨j, ao7, c7, hjq, rfl, rfl, hB, hO, hG⟩ := hrel
      have OJ := hid hO
      have GJ := hid hG
      have BXJ := hid (gr_blk BX.out (Gr.trans G1.out hG))
      have a2 := cell_of BXJ.out 2
      have la := lt_of_block BXJ.out
      simp at a2
      obtain ⟨bad, hbad⟩ : ∃ bd, bd = !(ps.take j).all (fun p => tzF cs p.ch == 0) := ⟨_, rfl⟩
      rw [← hbad] at hB
      subst hB
      have HBAD := hid hbad
      clear hO hG hbad
      by_cases hj : j < m
      · obtain ⟨⟨x0, x1, x2⟩, hx⟩ : ∃ x, ps[j]? = some x := ⟨_, List.getElem?_eq_getElem (by rw [← HPL.out]; exact hj)⟩
        obtain ⟨gp, oo, cap', hv, _, hgl, _, hcs⟩ := (HPS.out.gr (Gr.trans G0.out (Gr.trans G1.out GJ.out))).get eP_len hx
        injection hv with hv1 hv2 hv3
        subst hv1
        have hS0 : Srd gp (oo + j * 3) w.heap.size (.slice (some ⟨gp, oo, none⟩) m ca) x0 x1 (World.drew wr) := ⟨hcs 0 _ rfl, hcs 1 _ rfl, a2, hgl, la⟩
        have GV := hid (show Gr w1 (World.drew wr) from Ch.drew GJ.out)
        have GD := hid (show Gr wr (World.drew wr) from Ch.drew (Gr.refl wr))
        have j0 : (0 : Int) ≤ (j : Int) := by omega
        have j1 : (j : Int) < (m : Int) := by omega
        have HTK := hid (take_one hx)
        obtain ⟨z, hz⟩ : ∃ z, z = tzF cs x1 := ⟨_, rfl⟩
        obtain ⟨y, hy⟩ : ∃ y, y = gzF cs x1 x0 := ⟨_, rfl⟩
        have HZ := hid hz
        have HY := hid hy
        obtain ⟨zs, hzs⟩ : ∃ zs, zs = (ps.take j).map (fun p => gzF cs p.ch p.sd) := ⟨_, rfl⟩
        have HZS := hid hzs
        rw [← hzs] at OJ
        have HLL := hid (show zs.length = j from by rw [hzs, List.length_map, List.length_take, ← HPL.out]; omega)
        clear hcs hv2 hv3 hgl hx hz hy hzs
        go_upto_region 9 with fail
        clear a2 la
        refine wp_region_held_drew (S := Srd gp (oo + j * 3) w.heap.size (.slice (some ⟨gp, oo, none⟩) m ca) x0 x1) (by kernel_rfl) (by exact hS0) (fun _ => ?_)
        generalize World.drew wr = V0 at hS0 GV GD ⊢
        refine takeS_on (i := 0) 33 (v := ?hv1) rfl rfl (by kernel_rfl) (by kernel_rfl) (by kernel_rfl) (fun _ _ _ h => h) (by kernel_rfl) ?hh1 (by exact hS0) ?_
        case hh1 => (intro w' hSw; go_simp; try (with_reducible rfl))
        simp only [Act.put, List.setIfInBounds_toArray, List.set_cons_zero, List.set_cons_succ]
        refine takeS_on (i := 1) 34 (v := ?hv2) rfl rfl (by kernel_rfl) (by kernel_rfl) (by kernel_rfl) (fun _ _ _ h => h) (by kernel_rfl) ?hh2 (by exact hS0) ?_
        case hh2 => (intro w' hSw; go_simp; try (with_reducible rfl))
        simp only [Act.put, List.setIfInBounds_toArray, List.set_cons_zero, List.set_cons_succ]
        refine takeS_on (i := 2) 35 (v := ?hv3) rfl rfl (by kernel_rfl) (by kernel_rfl) (by kernel_rfl) (fun _ _ _ h => h) (by kernel_rfl) ?hh3 (by exact hS0) ?_
        case hh3 => (intro w' hSw; have c0 := hSw.p0; have c1 := hSw.p1; have a2 := hSw.a2; go_simp; try (with_reducible rfl))
        simp only [Act.put, List.setIfInBounds_toArray, List.set_cons_zero, List.set_cons_succ]
        refine takeS_on (i := 3) 36 (v := ?hv4) rfl rfl (by kernel_rfl) (by kernel_rfl) (by kernel_rfl) (fun _ _ _ h => h) (by kernel_rfl) ?hh4 (by exact hS0) ?_
        case hh4 => (intro w' hSw; go_simp; try (with_reducible rfl))
        simp only [Act.put, List.setIfInBounds_toArray, List.set_cons_zero, List.set_cons_succ]
        refine takeS_on (i := 4) 37 (v := ?hv5) rfl rfl (by kernel_rfl) (by kernel_rfl) (by kernel_rfl) (fun _ _ _ h => h) (by kernel_rfl) ?hh5 (by exact hS0) ?_
        case hh5 => (intro w' hSw; go_simp; try (with_reducible rfl))
        simp only [Act.put, List.setIfInBounds_toArray, List.set_cons_zero, List.set_cons_succ]
        refine takeS_on (i := 5) 38 (v := ?hv6) rfl rfl (by kernel_rfl) (by kernel_rfl) (by kernel_rfl) (fun _ _ _ h => h) (by kernel_rfl) ?hh6 (by exact hS0) ?_
        case hh6 => (intro w' hSw; go_simp; try (with_reducible rfl))
        simp only [Act.put, List.setIfInBounds_toArray, List.set_cons_zero, List.set_cons_succ]
        refine takeS_on (i := 6) 39 (v := ?hv7) rfl rfl (by kernel_rfl) (by kernel_rfl) (by kernel_rfl) (fun _ _ _ h => h) (by kernel_rfl) ?hh7 (by exact hS0) ?_
        case hh7 => (intro w' hSw; have c0 := hSw.p0; have c1 := hSw.p1; have a2 := hSw.a2; go_simp; try (with_reducible rfl))
        simp only [Act.put, List.setIfInBounds_toArray, List.set_cons_zero, List.set_cons_succ]
        refine takeS_on (i := 7) 40 (v := ?hv8) rfl rfl (by kernel_rfl) (by kernel_rfl) (by kernel_rfl) (fun _ _ _ h => h) (by kernel_rfl) ?hh8 (by exact hS0) ?_
        case hh8 => (intro w' hSw; go_simp; try (with_reducible rfl))
        simp only [Act.put, List.setIfInBounds_toArray, List.set_cons_zero, List.set_cons_succ]
        refine takeS_on (i := 8) 41 (v := ?hv9) rfl rfl (by kernel_rfl) (by kernel_rfl) (by kernel_rfl) (fun _ _ _ h => h) (by kernel_rfl) ?hh9 (by exact hS0) ?_
        case hh9 => (intro w' hSw; have c0 := hSw.p0; have c1 := hSw.p1; have a2 := hSw.a2; go_simp; try (with_reducible rfl))
        simp only [Act.put, List.setIfInBounds_toArray, List.set_cons_zero, List.set_cons_succ]
        refine takeS_on (i := 9) 42 (v := ?hv10) rfl rfl (by kernel_rfl) (by kernel_rfl) (by kernel_rfl) (fun _ _ _ h => h) (by kernel_rfl) ?hh10 (by exact hS0) ?_
        case hh10 => (intro w' hSw; go_simp; try (with_reducible rfl))
        simp only [Act.put, List.setIfInBounds_toArray, List.set_cons_zero, List.set_cons_succ]
        refine takeS_on (i := 10) 43 (v := ?hv11) rfl rfl (by kernel_rfl) (by kernel_rfl) (by kernel_rfl) (fun _ _ _ h => h) (by kernel_rfl) ?hh11 (by exact hS0) ?_
        case hh11 => (intro w' hSw; go_simp; try (with_reducible rfl))
        simp only [Act.put, List.setIfInBounds_toArray, List.set_cons_zero, List.set_cons_succ]
        refine takeS_on (i := 11) 44 (v := ?hv12) rfl rfl (by kernel_rfl) (by kernel_rfl) (by kernel_rfl) (fun _ _ _ h => h) (by kernel_rfl) ?hh12 (by exact hS0) ?_
        case hh12 => (intro w' hSw; go_simp; try (with_reducible rfl))
        simp only [Act.put, List.setIfInBounds_toArray, List.set_cons_zero, List.set_cons_succ]
        refine takeS_on (i := 12) 45 (v := ?hv13) rfl rfl (by kernel_rfl) (by kernel_rfl) (by kernel_rfl) (fun _ _ _ h => h) (by kernel_rfl) ?hh13 (by exact hS0) ?_
        case hh13 => (intro w' hSw; have c0 := hSw.p0; have c1 := hSw.p1; have a2 := hSw.a2; go_simp; try (with_reducible rfl))
        simp only [Act.put, List.setIfInBounds_toArray, List.set_cons_zero, List.set_cons_succ]
        refine wpAnyH_ready (rs := [13]) (by kernel_rfl) (by simp) (AllReadyH.cons rfl (fun K hK => ?_) AllReadyH.nil)
        go_simp
        refine (HGS.out _ GV.out x1 x0).mono ?_
        rw [tzF_any]
        change ∀ _ _, _ = Ending.returned (.tuple #[.bool (gzF cs x1 x0), _]) ∧ _ → _
        rw [← HZ.out, ← HY.out]
        rintro e w5 ⟨rfl, g5⟩
        have hS1 := hS0.gr g5
        have G5 := hid (Gr.trans GV.out g5)
        have OV := hid (OJ.out.gr (Gr.trans GD.out g5))
        clear g5
        refine hK.out _ _ (by exact hS1) (fun _ => ?_)
        clear hK K
        refine takeS_on (i := 14) 32 (v := ?hv14) rfl rfl (by kernel_rfl) (by kernel_rfl) (by kernel_rfl) (fun _ _ _ h => h) (by kernel_rfl) ?hh14 (by exact hS1) ?_
        case hh14 => (intro w' hSw; go_simp; try (with_reducible rfl))
        simp only [Act.put, List.setIfInBounds_toArray, List.set_cons_zero, List.set_cons_succ]
        refine takeS_on (i := 15) 47 (v := ?hv15) rfl rfl (by kernel_rfl) (by kernel_rfl) (by kernel_rfl) (fun _ _ _ h => h) (by kernel_rfl) ?hh15 (by exact hS1) ?_
        case hh15 => (intro w' hSw; go_simp; try (with_reducible rfl))
        simp only [Act.put, List.setIfInBounds_toArray, List.set_cons_zero, List.set_cons_succ]
        refine takeS_on (i := 16) 48 (v := ?hv16) rfl rfl (by kernel_rfl) (by kernel_rfl) (by kernel_rfl) (fun _ _ _ h => h) (by kernel_rfl) ?hh16 (by exact hS1) ?_
        case hh16 => (intro w' hSw; go_simp; try (with_reducible rfl))
        simp only [Act.put, List.setIfInBounds_toArray, List.set_cons_zero, List.set_cons_succ]
        refine takeS_on (i := 17) 10 (v := ?hv17) rfl rfl (by kernel_rfl) (by kernel_rfl) (by kernel_rfl) (fun _ _ _ h => h) (by kernel_rfl) ?hh17 (by exact hS1) ?_
        case hh17 => (intro w' hSw; go_simp; try (with_reducible rfl))
        simp only [Act.put, List.setIfInBounds_toArray, List.set_cons_zero, List.set_cons_succ]
        refine takeS_on (i := 18) 11 (v := ?hv18) rfl rfl (by kernel_rfl) (by kernel_rfl) (by kernel_rfl) (fun _ _ _ h => h) (by kernel_rfl) ?hh18 (by exact hS1) ?_
        case hh18 => (intro w' hSw; go_simp; try (with_reducible rfl))
        simp only [Act.put, List.setIfInBounds_toArray, List.set_cons_zero, List.set_cons_succ]
        refine wpAnyH_done (by kernel_rfl) ?_ _

        cases bad with
        | true =>
          have HB2 := hid (show (true : Bool) = !(ps.take (j + 1)).all (fun p => tzF cs p.ch == 0) from by rw [HTK.out, List.all_append]; have := HBAD.out; simp at this ⊢; exact .inl this)
          go_wp2_with (at_builtin; refine wpList_append_ow eBl_len rfl (.tmp 49) (.tmp 51) _ 4 1 _ Try.underlying34 bool_info rfl (by omega) rfl w1.heap.size _ zs rfl (OV.out.alloc _) _ _ [y] rfl (Ls.single w5 y 4 #[.bool y] rfl) (eBl_one _) (j + 1) (by rw [HLL.out]; rfl) (by omega) (by unfold maxLen; omega) (by simp; have := G5.out.size; omega) (zs ++ [y]) rfl ?_; intro ao5 cap5 w6 ow6 cw6 bl6; have O6 := hid ow6; have G6 := hid (show Gr w1 w6 from Ch.trans (Ch.alloc G5.out _) cw6 (fun q h => .inr (OV.out.blk h).1)); clear ow6 cw6 bl6)
          go_roundg (gk - 1)
          case measure => omega
          case rel =>
            refine ⟨j + 1, ao5, cap5, by omega, rfl, ?_, ?_, ?_, G6.out⟩
            · first | with_reducible rfl | simp
            · rw [← HB2.out]
            · rw [HTK.out, List.map_append, ← HZS.out]
              have := O6.out
              rw [HY.out] at this
              exact this
        | false =>
          by_cases ez : z = 0
          · subst ez
            have HB2 := hid (show (false : Bool) = !(ps.take (j + 1)).all (fun p => tzF cs p.ch == 0) from by rw [HTK.out, List.all_append]; have := HBAD.out; simp at this ⊢; exact ⟨this, HZ.out.symm⟩)
            go_wp2_with (at_builtin; refine wpList_append_ow eBl_len rfl (.tmp 49) (.tmp 51) _ 4 1 _ Try.underlying34 bool_info rfl (by omega) rfl w1.heap.size _ zs rfl (OV.out.alloc _) _ _ [y] rfl (Ls.single w5 y 4 #[.bool y] rfl) (eBl_one _) (j + 1) (by rw [HLL.out]; rfl) (by omega) (by unfold maxLen; omega) (by simp; have := G5.out.size; omega) (zs ++ [y]) rfl ?_; intro ao5 cap5 w6 ow6 cw6 bl6; have O6 := hid ow6; have G6 := hid (show Gr w1 w6 from Ch.trans (Ch.alloc G5.out _) cw6 (fun q h => .inr (OV.out.blk h).1)); clear ow6 cw6 bl6)
            go_roundg (gk - 1)
            case measure => omega
            case rel =>
              refine ⟨j + 1, ao5, cap5, by omega, rfl, ?_, ?_, ?_, G6.out⟩
              · first | with_reducible rfl | simp
              · rw [← HB2.out]
              · rw [HTK.out, List.map_append, ← HZS.out]
                have := O6.out
                rw [HY.out] at this
                exact this
          · have e1 : (z == 0) = false := by simpa using ez
            have HB2 := hid (show (true : Bool) = !(ps.take (j + 1)).all (fun p => tzF cs p.ch == 0) from by rw [HTK.out, List.all_append]; simp; exact .inr (by rw [← HZ.out]; exact ez))
            have HEZ := hid ez
            clear ez
            go_wp2_with (at_builtin; refine wpList_append_ow eBl_len rfl (.tmp 49) (.tmp 51) _ 4 1 _ Try.underlying34 bool_info rfl (by omega) rfl w1.heap.size _ zs rfl (OV.out.alloc _) _ _ [y] rfl (Ls.single w5 y 4 #[.bool y] rfl) (eBl_one _) (j + 1) (by rw [HLL.out]; rfl) (by omega) (by unfold maxLen; omega) (by simp; have := G5.out.size; omega) (zs ++ [y]) rfl ?_; intro ao5 cap5 w6 ow6 cw6 bl6; have O6 := hid ow6; have G6 := hid (show Gr w1 w6 from Ch.trans (Ch.alloc G5.out _) cw6 (fun q h => .inr (OV.out.blk h).1)); clear ow6 cw6 bl6)
            go_roundg (gk - 1)
            case measure => omega
            case rel =>
              refine ⟨j + 1, ao5, cap5, by omega, rfl, ?_, ?_, ?_, G6.out⟩
              · first | with_reducible rfl | simp
              · rw [← HB2.out]; simpa using HEZ.out
              · rw [HTK.out, List.map_append, ← HZS.out]
                have := O6.out
                rw [HY.out] at this
                exact this
      · have jn : ¬ (j : Int) < (m : Int) := by omega
        have ej : j = m := by omega
        subst ej
        rw [show ps.take j = ps from List.take_of_length_le (by rw [← HPL.out]; exact Nat.le_refl _)] at OJ HBAD
        have C2 := hid (C1.out.gr GJ.out)
        have GW := hid (Gr.trans G0.out (Gr.trans G1.out GJ.out))
        have HWT := hid (waits_any C2.out HK.out)
        obtain ⟨dw, hdw⟩ : ∃ dw, dw = decide (0 < pls cs s g) := ⟨_, rfl⟩
        rw [← hdw] at HWT
        have HDW := hid hdw
        clear hdw a2 la
        have a0 := cell_of BXJ.out 0
        have a1 := cell_of BXJ.out 1
        have a2 := cell_of BXJ.out 2
        have a3 := cell_of BXJ.out 3
        have a4 := cell_of BXJ.out 4
        have la := lt_of_block BXJ.out
        simp at a0 a1 a2 a3 a4
        go_upto_region 13 with (go_at_call 10; refine HWT.out.mono ?_; rintro e w3 ⟨rfl, g3⟩; have G3 := hid g3; clear g3)
        clear a0 a1 a2 a3 a4 la HWT
        have BX3 := hid (gr_blk BXJ.out G3.out)
        have C3 := hid (C2.out.gr G3.out)
        have a0 := cell_of BX3.out 0
        have a1 := cell_of BX3.out 1
        have a2 := cell_of BX3.out 2
        have a3 := cell_of BX3.out 3
        have a4 := cell_of BX3.out 4
        have la := lt_of_block BX3.out
        simp at a0 a1 a2 a3 a4
        have HSL := hid (select_any C3.out HG0.out (by omega) HK.out _ _ _ _ ps df ds (HPS.out.gr (Gr.trans GW.out G3.out)) (fun q hq => Z1.out q (Nat.lt_trans hq SW.out)) (HDS.out.gr (Gr.trans GW.out G3.out)) HDD.out)
        rw [← HOO.out] at HSL
        go_upto_region 14 with (go_at_call 11; refine HSL.out.mono ?_; rintro e w4 ⟨no, nn, nc, rfl, lk4, t4, c4, n4, -⟩; have C4 := hid c4; have N4 := hid n4; clear lk4 c4 n4)
        clear a0 a1 a2 a3 a4 la HSL
        obtain ⟨ok_, odf, ⟨ocs, owa, ova, ook, otr, oks, oer⟩⟩ := o
        dsimp only at HCL C4 ⊢
        obtain ⟨W5, hW5⟩ : ∃ W, W = w4.alloc (.cells #[.int .i64 ok_, .bool odf, .bool owa, .int .i64 ova, .bool ook, .int .i64 otr, .slice no nn nc] 45) := ⟨_, rfl⟩
        have G5 := hid (show Gr w4 W5 from by rw [hW5]; exact Ch.alloc (Gr.refl w4) _)
        have M5 := hid (show W5.heap[w4.heap.size]? = some (.cells #[.int .i64 ok_, .bool odf, .bool owa, .int .i64 ova, .bool ook, .int .i64 otr, .slice no nn nc] 45 (0, 0)) from by rw [hW5]; exact (MapKept.heap_alloc w4 _).1)
        rw [← hW5]
        clear hW5
        have BX5 := hid (gr_blk ((N4.out.c.block _ (lt_of_block BX3.out) (fun q => q HNX.out)).trans BX3.out) G5.out)
        obtain ⟨g4, z4⟩ := Tn.base Z1.out (Gr.trans G1.out (Gr.trans GJ.out G3.out)) N4.out
        have GF := hid (Gr.trans G0.out (Gr.trans g4 G5.out))
        have HHI := hid (cs_hi C1.out)
        have O5 := hid (((OJ.out.gr G3.out).ch N4.out.c (fun q hq hs => hs (HHI.out q ((OJ.out.gr G3.out).blk hq).1))).gr G5.out)
        have C5 := hid (C4.out.gr G5.out)
        have HW5 := hid (fun (W : World) (p : Gr W5 W) => waits_any (C5.out.gr p) HK.out)
        clear g4 z4 C4 N4 C3 C2 HOO HNX
        have a0 := cell_of BX5.out 0
        have a1 := cell_of BX5.out 1
        have a2 := cell_of BX5.out 2
        have a3 := cell_of BX5.out 3
        have a4 := cell_of BX5.out 4
        have la := lt_of_block BX5.out
        simp at a0 a1 a2 a3 a4
        have b0 := cell_of M5.out 0
        have b1 := cell_of M5.out 1
        have b2 := cell_of M5.out 2
        have b3 := cell_of M5.out 3
        have b4 := cell_of M5.out 4
        have b5 := cell_of M5.out 5
        have b6 := cell_of M5.out 6
        have lb := lt_of_block M5.out
        simp at b0 b1 b2 b3 b4 b5 b6
        have hjp : j = ps.length := HPL.out
        have hkp : k = ds.length := HDL.out
        have HJP := hid hjp
        have HKP := hid hkp
        clear hjp hkp
        rcases HCL.out with ⟨hng, e1, e2, e3, e4⟩ | ⟨hgd, e4, hrest⟩
        · subst e1 e2 e3
          clear hng HCL
          rcases e4 with ⟨q1, e4⟩ | ⟨q1, q2, e4⟩ | ⟨q1, q2, q3, e4⟩
          · subst e4
            have h16 : (16 : Int) < (j : Int) := by rw [HJP.out]; omega
            clear q1
            go_wp2_with (first
              | (refine notG (by kernel_rfl) (.tmp 100) false rfl rfl ?_; simp only [Act.put, List.setIfInBounds_toArray, List.set_cons_zero, List.set_cons_succ])
              | (refine notG (by kernel_rfl) (.tmp 106) false rfl rfl ?_; simp only [Act.put, List.setIfInBounds_toArray, List.set_cons_zero, List.set_cons_succ]))
            go_ret
            exact ⟨rfl, GF.out⟩
          · subst e4
            have h16 : ¬ (16 : Int) < (j : Int) := by rw [HJP.out]; omega
            have hkj : (k : Int) < (j : Int) := by rw [HJP.out, HKP.out]; omega
            clear q1 q2
            go_wp2_with (first
              | (refine notG (by kernel_rfl) (.tmp 100) false rfl rfl ?_; simp only [Act.put, List.setIfInBounds_toArray, List.set_cons_zero, List.set_cons_succ])
              | (refine notG (by kernel_rfl) (.tmp 106) false rfl rfl ?_; simp only [Act.put, List.setIfInBounds_toArray, List.set_cons_zero, List.set_cons_succ]))
            go_ret
            exact ⟨rfl, GF.out⟩
          · subst e4
            have h16 : ¬ (16 : Int) < (j : Int) := by rw [HJP.out]; omega
            have hkj : ¬ (k : Int) < (j : Int) := by rw [HJP.out, HKP.out]; omega
            obtain rfl : dw = true := by rw [HDW.out]; exact decide_eq_true q3
            clear q1 q2 q3
            go_wp2_with (first
              | (refine notG (by kernel_rfl) (.tmp 100) false rfl rfl ?_; simp only [Act.put, List.setIfInBounds_toArray, List.set_cons_zero, List.set_cons_succ])
              | (refine notG (by kernel_rfl) (.tmp 106) false rfl rfl ?_; simp only [Act.put, List.setIfInBounds_toArray, List.set_cons_zero, List.set_cons_succ]))
            go_ret
            exact ⟨rfl, GF.out⟩
        · subst e4
          obtain ⟨g1, g2, g3⟩ := hgd
          have h16 : ¬ (16 : Int) < (j : Int) := by rw [HJP.out]; omega
          have hkj : ¬ (k : Int) < (j : Int) := by rw [HJP.out, HKP.out]; omega
          obtain rfl : dw = false := by rw [HDW.out]; exact decide_eq_false (by omega)
          clear g1 g2 g3 HCL
          rcases hrest with ⟨hall, e1, e2, e3⟩ | ⟨hall, hrest⟩
          · subst e1 e2 e3
            obtain rfl : bad = true := by rw [HBAD.out, hall]; rfl
            have n3 : ¬ (j : Int) ≤ -1 := by omega
            clear hall
            go_wp2_with (refine notG (by kernel_rfl) (.tmp 136) false rfl rfl ?_; simp only [Act.put, List.setIfInBounds_toArray, List.set_cons_zero, List.set_cons_succ])
            go_ret
            exact ⟨rfl, GF.out⟩
          · obtain rfl : bad = false := by rw [HBAD.out, hall]; rfl
            clear hall
            rcases hrest with ⟨i, p, e1, hpi, hgz, e2, e3, hpl⟩ | ⟨hno, e1, e2, e3, hpl⟩
            · subst e1 e2 e3
              have hij : i < j := by have := (List.getElem?_eq_some_iff.1 hpi).1; rw [HJP.out]; exact this
              have n3 : ¬ (i : Int) < -1 := by omega
              have n4 : ¬ (j : Int) ≤ (i : Int) := by omega
              have i0 : (0 : Int) ≤ (i : Int) := by omega
              have i1 : (i : Int) < (j : Int) := by omega
              obtain ⟨gb, ob, cb, hv, _, hgl, _, hcs⟩ := O5.out.lst.get eBl_len (i := i) (a := true) (by rw [List.getElem?_map, hpi]; simp [hgz])
              injection hv with hv1 hv2 hv3
              subst hv1
              have c0 := hcs 0 _ rfl
              simp only [Nat.mul_one, Nat.add_zero] at c0
              have HPN := hid (show decide (0 < pls ocs s g) = false from by rw [hpl]; rfl)
              clear hcs hv2 hv3 hgl hpi hgz hpl
              go_wp2_with (first
                | (refine notG (by kernel_rfl) (.tmp 150) false rfl rfl ?_; simp only [Act.put, List.setIfInBounds_toArray, List.set_cons_zero, List.set_cons_succ])
                | (refine notG (by kernel_rfl) (.tmp 155) false rfl rfl ?_; simp only [Act.put, List.setIfInBounds_toArray, List.set_cons_zero, List.set_cons_succ])
                | (refine notG (by kernel_rfl) (.tmp 162) false rfl rfl ?_; simp only [Act.put, List.setIfInBounds_toArray, List.set_cons_zero, List.set_cons_succ])
                | (refine callG (by kernel_rfl) 10 #[.tmp 159, .tmp 161] _ rfl #[.pointer (some ⟨b, 0, none⟩), .agg #[.int .i64 s, .int .i64 g]] (by kernel_rfl) (HW5.out _ (Gr.refl _)) ?_; rw [HPN.out]; rintro e w6 ⟨rfl, g6⟩; refine ⟨_, rfl, ?_⟩; simp only [Act.put, List.setIfInBounds_toArray, List.set_cons_zero, List.set_cons_succ]; have G6 := hid g6; clear g6))
              go_ret
              exact ⟨rfl, Gr.trans GF.out G6.out⟩
            · subst e1
              have e2' := e2.symm
              clear e2
              subst e2'
              subst e3
              have n3 : ¬ (j : Int) ≤ -1 := by omega
              have HNO := hid hno
              have HPN := hid hpl
              clear hno hpl
              go_wp2_with fail
              go_loopg [15, 16] j (fun q v15 v16 wr => ∃ (i : Nat), i + q = j ∧ v16 = .int .i64 (i : Int) ∧ v15 = .bool ((ps.take i).any (fun p => !(p.ch == 0))) ∧ Gr W5 wr)
              case atStart => exact ⟨0, by omega, rfl, rfl, Gr.refl _⟩
              case round =>
                clear a0 a1 a2 a3 a4 la b0 b1 b2 b3 b4 b5 b6 lb
                obtain ⟨i, hiq, rfl, hB, hG⟩ := hrel
                have GI := hid hG
                obtain ⟨nm, hnm⟩ : ∃ nm, nm = (ps.take i).any (fun p => !(p.ch == 0)) := ⟨_, rfl⟩
                rw [← hnm] at hB
                subst hB
                have HNM := hid hnm
                clear hG hnm
                have BX6 := hid (gr_blk BX5.out GI.out)
                have M6 := hid (gr_blk M5.out GI.out)
                have a0 := cell_of BX6.out 0
                have a1 := cell_of BX6.out 1
                have a2 := cell_of BX6.out 2
                have a3 := cell_of BX6.out 3
                have a4 := cell_of BX6.out 4
                have la := lt_of_block BX6.out
                simp at a0 a1 a2 a3 a4
                have b0 := cell_of M6.out 0
                have b1 := cell_of M6.out 1
                have b2 := cell_of M6.out 2
                have b3 := cell_of M6.out 3
                have b4 := cell_of M6.out 4
                have b5 := cell_of M6.out 5
                have b6 := cell_of M6.out 6
                have lb := lt_of_block M6.out
                simp at b0 b1 b2 b3 b4 b5 b6
                by_cases hi : i < j
                · obtain ⟨⟨x0, x1, x2⟩, hx⟩ : ∃ x, ps[i]? = some x := ⟨_, List.getElem?_eq_getElem (by rw [← HJP.out]; exact hi)⟩
                  obtain ⟨gb, ob, cb, hv, _, hgl, _, hcs⟩ := (O5.out.gr GI.out).lst.get eBl_len (i := i) (a := false) (by rw [List.getElem?_map, hx]; simp [HNO.out _ (List.mem_of_getElem? hx)])
                  injection hv with hv1 hv2 hv3
                  subst hv1
                  obtain ⟨gp, oo, cap', hw, _, hgp, _, hcp⟩ := (HPS.out.gr (Gr.trans GF.out GI.out)).get eP_len hx
                  injection hw with hw1 hw2 hw3
                  subst hw1
                  have c0 := hcs 0 _ rfl
                  simp only [Nat.mul_one, Nat.add_zero] at c0
                  have p1 := hcp 1 _ rfl
                  dsimp only [Nat.add_zero] at p1
                  have i0 : (0 : Int) ≤ (i : Int) := by omega
                  have i1 : (i : Int) < (j : Int) := by omega
                  have HTK := hid (take_one hx)
                  clear hcs hv2 hv3 hgl hcp hw2 hw3 hgp hx
                  cases nm with
                  | true =>
                    go_wp2
                    go_roundg (gk - 1)
                    case measure => omega
                    case rel =>
                      refine ⟨i + 1, by omega, ?_, ?_, GI.out⟩
                      · first | with_reducible rfl | simp
                      · rw [HTK.out, List.any_append, ← HNM.out]; rfl
                  | false =>
                    by_cases ez : x1 = 0
                    · subst ez
                      go_wp2
                      go_roundg (gk - 1)
                      case measure => omega
                      case rel =>
                        refine ⟨i + 1, by omega, ?_, ?_, GI.out⟩
                        · first | with_reducible rfl | simp
                        · rw [HTK.out, List.any_append, ← HNM.out]; rfl
                    · have EZ := hid ez
                      have e9 : (x1 == 0) = false := by simpa using ez
                      clear ez
                      go_wp2
                      go_roundg (gk - 1)
                      case measure => omega
                      case rel =>
                        refine ⟨i + 1, by omega, ?_, ?_, GI.out⟩
                        · first | with_reducible rfl | simp
                        · rw [HTK.out, List.any_append, ← HNM.out]; first | (simp; exact EZ.out) | (simp; rfl)
                · have jn2 : ¬ (i : Int) < (j : Int) := by omega
                  have HPN2 := hid (show decide (0 < pls ocs s g) = (nm && !df) from by
                    rw [HPN.out, HNM.out, List.take_of_length_le (by rw [← HJP.out]; omega)])
                  cases df with
                  | true =>
                    have HP3 := hid (show decide (0 < pls ocs s g) = false from by rw [HPN2.out]; simp)
                    cases nm with
                    | true =>
                      go_wp2_with (first
                        | (refine notG (by kernel_rfl) (.tmp 195) true rfl rfl ?_; simp only [Act.put, List.setIfInBounds_toArray, List.set_cons_zero, List.set_cons_succ])
                        | (refine notG (by kernel_rfl) (.tmp 207) true rfl rfl ?_; simp only [Act.put, List.setIfInBounds_toArray, List.set_cons_zero, List.set_cons_succ])
                        | (refine callG (by kernel_rfl) 10 #[.tmp 200, .tmp 202] _ rfl #[.pointer (some ⟨b, 0, none⟩), .agg #[.int .i64 s, .int .i64 g]] (by kernel_rfl) (HW5.out _ GI.out) ?_; rw [HP3.out]; rintro e w6 ⟨rfl, g6⟩; refine ⟨_, rfl, ?_⟩; simp only [Act.put, List.setIfInBounds_toArray, List.set_cons_zero, List.set_cons_succ]; have G6 := hid (Gr.trans GI.out g6); have d3 := cell_of (gr_blk BX6.out g6) 3; have ld := lt_of_block (gr_blk BX6.out g6); simp at d3; clear g6))
                      go_ret
                      exact ⟨rfl, Gr.trans GF.out G6.out⟩
                    | false =>
                      go_wp2_with (first
                        | (refine notG (by kernel_rfl) (.tmp 195) true rfl rfl ?_; simp only [Act.put, List.setIfInBounds_toArray, List.set_cons_zero, List.set_cons_succ])
                        | (refine notG (by kernel_rfl) (.tmp 207) true rfl rfl ?_; simp only [Act.put, List.setIfInBounds_toArray, List.set_cons_zero, List.set_cons_succ])
                        | (refine callG (by kernel_rfl) 10 #[.tmp 200, .tmp 202] _ rfl #[.pointer (some ⟨b, 0, none⟩), .agg #[.int .i64 s, .int .i64 g]] (by kernel_rfl) (HW5.out _ GI.out) ?_; rw [HP3.out]; rintro e w6 ⟨rfl, g6⟩; refine ⟨_, rfl, ?_⟩; simp only [Act.put, List.setIfInBounds_toArray, List.set_cons_zero, List.set_cons_succ]; have G6 := hid (Gr.trans GI.out g6); have d3 := cell_of (gr_blk BX6.out g6) 3; have ld := lt_of_block (gr_blk BX6.out g6); simp at d3; clear g6))
                      go_ret
                      exact ⟨rfl, Gr.trans GF.out G6.out⟩
                  | false =>
                    cases nm with
                    | true =>
                      have HP3 := hid (show decide (0 < pls ocs s g) = true from by rw [HPN2.out]; rfl)
                      go_wp2_with (first
                        | (refine notG (by kernel_rfl) (.tmp 195) false rfl rfl ?_; simp only [Act.put, List.setIfInBounds_toArray, List.set_cons_zero, List.set_cons_succ])
                        | (refine notG (by kernel_rfl) (.tmp 207) false rfl rfl ?_; simp only [Act.put, List.setIfInBounds_toArray, List.set_cons_zero, List.set_cons_succ])
                        | (refine callG (by kernel_rfl) 10 #[.tmp 200, .tmp 202] _ rfl #[.pointer (some ⟨b, 0, none⟩), .agg #[.int .i64 s, .int .i64 g]] (by kernel_rfl) (HW5.out _ GI.out) ?_; rw [HP3.out]; rintro e w6 ⟨rfl, g6⟩; refine ⟨_, rfl, ?_⟩; simp only [Act.put, List.setIfInBounds_toArray, List.set_cons_zero, List.set_cons_succ]; have G6 := hid (Gr.trans GI.out g6); have d3 := cell_of (gr_blk BX6.out g6) 3; have ld := lt_of_block (gr_blk BX6.out g6); simp at d3; clear g6))
                      go_ret
                      exact ⟨rfl, Gr.trans GF.out G6.out⟩
                    | false =>
                      have HP3 := hid (show decide (0 < pls ocs s g) = false from by rw [HPN2.out]; rfl)
                      go_wp2_with (first
                        | (refine notG (by kernel_rfl) (.tmp 195) false rfl rfl ?_; simp only [Act.put, List.setIfInBounds_toArray, List.set_cons_zero, List.set_cons_succ])
                        | (refine notG (by kernel_rfl) (.tmp 207) false rfl rfl ?_; simp only [Act.put, List.setIfInBounds_toArray, List.set_cons_zero, List.set_cons_succ])
                        | (refine callG (by kernel_rfl) 10 #[.tmp 200, .tmp 202] _ rfl #[.pointer (some ⟨b, 0, none⟩), .agg #[.int .i64 s, .int .i64 g]] (by kernel_rfl) (HW5.out _ GI.out) ?_; rw [HP3.out]; rintro e w6 ⟨rfl, g6⟩; refine ⟨_, rfl, ?_⟩; simp only [Act.put, List.setIfInBounds_toArray, List.set_cons_zero, List.set_cons_succ]; have G6 := hid (Gr.trans GI.out g6); have d3 := cell_of (gr_blk BX6.out g6) 3; have ld := lt_of_block (gr_blk BX6.out g6); simp at d3; clear g6))
                      go_ret
                      exact ⟨rfl, Gr.trans GF.out G6.out⟩
theorem ready_any (v0 : Value) (cs : List Cn) (s g : Int) (df : Bool) (vp vd : Value) (ps : List Pk) (ds : List Int) (w : World) (h : Rds (· < w.heap.size) w v0 cs) (hb : Bd cs) (ht : tot cs ≤ 1048576) (hg : ∀ c ∈ cs, ∀ x, x ∈ c.ss ∨ x ∈ c.rs → Gok x.s x.g) (hk : Gok s g) (hps : Ls eP (· < w.heap.size) w vp ps) (hds : Ls eU (· < w.heap.size) w vd ds) (hd : Dok ds) (hm : ps.length ≤ 1048576) :
    Calls Try.prog 3 #[v0, .agg #[.int .i64 s, .int .i64 g, vp, .bool df, vd]] w fun e w' => e = .returned (.bool true) ∧ Gr w w' := by
  obtain ⟨lo, cap, rfl⟩ := h.form
  obtain ⟨ao, ca, rfl⟩ := hps.form
  obtain ⟨dp, da, rfl⟩ := hds.form
  exact ready_walk _ w lo ao dp _ cap _ ca _ da cs s g df ps ds h hb ht hg hk hps hds hd hm
end Go.Proofs.Ytalmiphddgmfbab.Lt

namespace Go.Proofs.Ytalmiphddgmfbab.Lt
open Go.ChangeShapes Go.WideShapes Go.ChangeAt Go.RowKit Go.Deep Go.Joins Wd
set_option maxRecDepth 100000

theorem own : ownKnob Try.prog.godebug = none := by kernel_rfl
theorem laid : laidOutB Try.prog = true := by kernel_rfl
theorem cellsI : Try.prog.cellsOf 3 = 1 := by kernel_rfl
theorem lt_of_cell {w : World} {b o : Nat} {v : Value} (h : w.cell? ⟨b, o, none⟩ = some v) : b < w.heap.size := by
  rcases Nat.lt_or_ge b w.heap.size with h1 | h1
  · exact h1
  · have : w.heap[b]? = none := Array.getElem?_eq_none h1
    simp [World.cell?, this] at h
theorem flat_inv {α : Type} {E : α → List Value} {K : Nat} (hK : ∀ x, (E x).length = K) : ∀ (xs : List α) (j : Nat) (x : Value), (xs.flatMap E)[j]? = some x → ∃ i k a, j = i * K + k ∧ xs[i]? = some a ∧ (E a)[k]? = some x := by
  intro xs
  induction xs with
  | nil => intro j x h; simp at h
  | cons a r ih =>
    intro j x h
    rw [List.flatMap_cons] at h
    rcases Nat.lt_or_ge j K with hj | hj
    · rw [List.getElem?_append_left (by rw [hK]; exact hj)] at h
      exact ⟨0, j, a, by omega, rfl, h⟩
    · rw [List.getElem?_append_right (by rw [hK]; exact hj), hK] at h
      obtain ⟨i, k, b, h1, h2, h3⟩ := ih _ _ h
      refine ⟨i + 1, k, b, ?_, h2, h3⟩
      rw [Nat.succ_mul]
      omega
theorem spot_none {w : World} {a : Addr} {v : Value} (h : w.cell? a = some v) : a.spot = none := by
  obtain ⟨g, o, sp⟩ := a
  cases sp with
  | none => rfl
  | some k => simp [World.cell?] at h; split at h <;> simp at h
section
variable {H : Type} {enc : TypeId × Value → H} {w : World} {base : Nat} {spare : Nat → Bool} {held : Bool}
/-- a slice of elements of K cells -/
theorem open_gen {α : Type} [Inhabited α] (E : α → List Value) {K : Nat} {t e : TypeId} {fuel : Nat} {c : Value} {y : DataW H × List MemPlace} (ht : Try.prog.underlying t = some (.slice e)) (hc : Try.prog.cellsOf e = K) (hK : ∀ x, (E x).length = K) (hK0 : 0 < K) (Q : α → DataW H → Prop)
    (he : ∀ n cs z, cs.length = K → DataW.trod enc Try.prog w base spare held n e cs = some z → ∃ x, cs = E x ∧ Q x z.1)
    (hf : DataW.trod enc Try.prog w base spare held fuel t [c] = some y) :
    ∃ xs : List α, Ls E (· < w.heap.size) w c xs ∧ ((xs = [] ∧ y.1 = .nil) ∨ ∃ el sp, y.1 = .slice el sp ∧ el.length = xs.length ∧ ∀ (i : Nat) (x : α), xs[i]? = some x → ∃ d, el[i]? = some d ∧ Q x d) := by
  rcases open_slice ht hf with ⟨h1, h2⟩ | ⟨a, len, cap, m, n, D, Pl, h1, hb, hl, hm, hmm, hd, hx⟩
  · injection h1 with h1
    subst h1
    exact ⟨[], Ls.nil _ _ _, .inl ⟨rfl, by rw [h2]⟩⟩
  · injection h1 with h1
    subst h1
    rw [hc] at hx
    have hlm : len ≤ m := by rw [hmm]; split <;> omega
    obtain ⟨X, hX⟩ := choose_lt (α := α) (n := len) (p := fun i x => (∀ j v, (E x)[j]? = some v → w.cell? ((a.add (i * K)).add j) = some v) ∧ Q x (D i)) (fun i hi => by
      obtain ⟨cs', h2, h3⟩ := hx i (by omega)
      obtain ⟨_, hlen, hcl⟩ := World.cells?_some h2
      obtain ⟨x, hcs, hq⟩ := he _ _ _ hlen h3
      subst hcs
      exact ⟨x, fun j v hv => (hcl j (by have := (List.getElem?_eq_some_iff.1 hv).1; omega)).trans hv, hq⟩)
    have gt : ∀ (i : Nat) (x : α), ((List.range len).map X)[i]? = some x → i < len ∧ x = X i := fun i x h => by
      rw [List.getElem?_map] at h
      rcases Nat.lt_or_ge i len with hi | hi
      · rw [List.getElem?_range hi] at h
        simp only [Option.map_some, Option.some.injEq] at h
        exact ⟨hi, h.symm⟩
      · rw [List.getElem?_eq_none (by simpa using hi)] at h
        cases h
    refine ⟨(List.range len).map X, ⟨some a, cap, by simp, ⟨by simpa using hl, fun e => by cases e⟩, ?_⟩, .inr ⟨_, _, by rw [hd], by simp, fun i x hi => ?_⟩⟩
    · rcases Nat.eq_zero_or_pos len with h0 | h0
      · left
        rw [h0]
        rfl
      · right
        obtain ⟨v0, hv0⟩ : ∃ v, (E (X 0))[0]? = some v := ⟨_, List.getElem?_eq_getElem (by rw [hK]; exact hK0)⟩
        have hz := (hX 0 h0).1 0 v0 hv0
        obtain ⟨g, o, sp⟩ := a
        have hsp : sp = none := by
          have e : ((⟨g, o, sp⟩ : Addr).add (0 * K)).add 0 = ⟨g, o, sp⟩ := by simp [Addr.add]
          rw [e] at hz
          exact spot_none hz
        subst hsp
        have hg : g < w.heap.size := by
          rw [add_none, add_none] at hz
          exact lt_of_cell hz
        refine ⟨g, o, rfl, hg, hg, fun j x hj => ?_⟩
        obtain ⟨i, k, b, rfl, h2, h3⟩ := flat_inv hK _ _ _ hj
        obtain ⟨hi, rfl⟩ := gt i b h2
        have := (hX i hi).1 k x h3
        rw [add_none, add_none] at this
        rwa [← Nat.add_assoc]
    · obtain ⟨h1, rfl⟩ := gt i x hi
      exact ⟨D i, by rw [List.getElem?_map, List.getElem?_range h1]; rfl, (hX i h1).2⟩
end
/-- a part's bulk is at most the whole's -/
theorem bulk_part {H : Type} {d : DataW H} {l : List (DataW H)} (h : d ∈ l) : Rows.uptoBulk d ≤ Rows.uptoBulkAll l := by
  induction l with
  | nil => cases h
  | cons x r ih =>
    simp only [Rows.uptoBulkAll]
    cases List.mem_cons.1 h with
    | inl e => subst e; omega
    | inr e => have := ih e; omega
theorem bulk_one {H : Type} (d : DataW H) : 1 ≤ Rows.uptoBulk d := by
  cases d with
  | lit l => cases l <;> simp [Rows.uptoBulk]
  | nil => simp [Rows.uptoBulk]
  | ptr d => simp [Rows.uptoBulk]
  | slice elems spare => simp [Rows.uptoBulk]
  | agg parts => simp [Rows.uptoBulk]
  | iface t d => simp [Rows.uptoBulk]
  | map entries => simp [Rows.uptoBulk]
  | held h => simp [Rows.uptoBulk]
theorem bulk_len {H : Type} (l : List (DataW H)) : l.length ≤ Rows.uptoBulkAll l := by
  induction l with
  | nil => simp [Rows.uptoBulkAll]
  | cons x r ih => have := bulk_one x; simp only [Rows.uptoBulkAll, List.length_cons]; omega
theorem bulk_slice {H : Type} (elems spare : List (DataW H)) : elems.length + spare.length + 1 ≤ Rows.uptoBulk (.slice elems spare) := by
  have h1 := bulk_len elems
  have h2 := bulk_len spare
  simp only [Rows.uptoBulk]
  omega

theorem post_law1 {H : Type} {enc : TypeId × Value → H} {f : Func} {s : ChangeSpec} {W W' : World} {v0 : Value} {d0 : DataW H} {p : List MemPlace} {t0 tb : TypeId}
    (hW : DataW.Whole enc Try.prog f.params.toList s.vars false W [v0] [d0] [] p) (hf : f.params.toList = [t0]) (hr : f.resultTypes = #[tb]) (hb : Try.prog.underlying tb = some .bool) (hs : s.vars = [])
    (hfn : s.fn H [d0] = { results := [.lit (.bool true)], args := [d0] }) (rd : Try.prog.readableRec t0 = true) (hl : t0 < Try.prog.types.size) (h0 : DataW.Trod enc Try.prog W 0 (fun _ => true) true t0 v0 d0 p)
    (k : Below W.heap.size W W') : s.post enc Try.prog f false true false false W #[v0] (.bool true) W' := by
  have hlt : ∀ x ∈ p, x.block < W.heap.size := fun x hx => hW.lt x hx
  refine ⟨[d0], [], p, [], p, [], hW, ?_, ?_, ?_, k.frame _, fun h => by cases h⟩
  · rw [hr, List.append_nil, hfn]
    exact trodAll_mk1 (shut_bool hb _)
  · rw [hf, List.append_nil, hfn]
    have := trodAll_mk1 (Below.trod laid rd hl h0 k hlt)
    simpa using this
  · rw [hs, List.append_nil, hfn]
    rfl
theorem post_law2 {H : Type} {enc : TypeId × Value → H} {f : Func} {s : ChangeSpec} {W W' : World} {v0 v1 : Value} {d0 d1 : DataW H} {p0 p1 : List MemPlace} {t0 t1 tb : TypeId}
    (hW : DataW.Whole enc Try.prog f.params.toList s.vars false W [v0, v1] [d0, d1] [] (p0 ++ p1)) (hf : f.params.toList = [t0, t1]) (hr : f.resultTypes = #[tb]) (hb : Try.prog.underlying tb = some .bool) (hs : s.vars = [])
    (hfn : s.fn H [d0, d1] = { results := [.lit (.bool true)], args := [d0, d1] }) (rd0 : Try.prog.readableRec t0 = true) (hl0 : t0 < Try.prog.types.size) (rd1 : Try.prog.readableRec t1 = true) (hl1 : t1 < Try.prog.types.size)
    (h0 : DataW.Trod enc Try.prog W 0 (fun _ => true) true t0 v0 d0 p0) (h1 : DataW.Trod enc Try.prog W 0 (fun _ => true) true t1 v1 d1 p1)
    (k : Below W.heap.size W W') : s.post enc Try.prog f false true false false W #[v0, v1] (.bool true) W' := by
  have hlt : ∀ x ∈ p0 ++ p1, x.block < W.heap.size := fun x hx => hW.lt x hx
  refine ⟨[d0, d1], [], p0 ++ p1, [], p0 ++ p1, [], hW, ?_, ?_, ?_, k.frame _, fun h => by cases h⟩
  · rw [hr, List.append_nil, hfn]
    exact trodAll_mk1 (shut_bool hb _)
  · rw [hf, List.append_nil, hfn]
    have := trodAll_mk2 (Below.trod laid rd0 hl0 h0 k (fun x hx => hlt x (List.mem_append_left _ hx))) (Below.trod laid rd1 hl1 h1 k (fun x hx => hlt x (List.mem_append_right _ hx)))
    simpa using this
  · rw [hs, List.append_nil, hfn]
    rfl
theorem post_law3 {H : Type} {enc : TypeId × Value → H} {f : Func} {s : ChangeSpec} {W W' : World} {v0 v1 v2 : Value} {d0 d1 d2 : DataW H} {p0 p1 p2 : List MemPlace} {t0 t1 t2 tb : TypeId}
    (hW : DataW.Whole enc Try.prog f.params.toList s.vars false W [v0, v1, v2] [d0, d1, d2] [] (p0 ++ p1 ++ p2)) (hf : f.params.toList = [t0, t1, t2]) (hr : f.resultTypes = #[tb]) (hb : Try.prog.underlying tb = some .bool) (hs : s.vars = [])
    (hfn : s.fn H [d0, d1, d2] = { results := [.lit (.bool true)], args := [d0, d1, d2] }) (rd0 : Try.prog.readableRec t0 = true) (hl0 : t0 < Try.prog.types.size) (rd1 : Try.prog.readableRec t1 = true) (hl1 : t1 < Try.prog.types.size) (rd2 : Try.prog.readableRec t2 = true) (hl2 : t2 < Try.prog.types.size)
    (h0 : DataW.Trod enc Try.prog W 0 (fun _ => true) true t0 v0 d0 p0) (h1 : DataW.Trod enc Try.prog W 0 (fun _ => true) true t1 v1 d1 p1) (h2 : DataW.Trod enc Try.prog W 0 (fun _ => true) true t2 v2 d2 p2)
    (k : Below W.heap.size W W') : s.post enc Try.prog f false true false false W #[v0, v1, v2] (.bool true) W' := by
  have hlt : ∀ x ∈ p0 ++ p1 ++ p2, x.block < W.heap.size := fun x hx => hW.lt x hx
  refine ⟨[d0, d1, d2], [], p0 ++ p1 ++ p2, [], p0 ++ p1 ++ p2, [], hW, ?_, ?_, ?_, k.frame _, fun h => by cases h⟩
  · rw [hr, List.append_nil, hfn]
    exact trodAll_mk1 (shut_bool hb _)
  · rw [hf, List.append_nil, hfn]
    have := trodAll_mk3 (Below.trod laid rd0 hl0 h0 k (fun x hx => hlt x (List.mem_append_left _ (List.mem_append_left _ hx)))) (Below.trod laid rd1 hl1 h1 k (fun x hx => hlt x (List.mem_append_left _ (List.mem_append_right _ hx)))) (Below.trod laid rd2 hl2 h2 k (fun x hx => hlt x (List.mem_append_right _ hx)))
    simpa using this
  · rw [hs, List.append_nil, hfn]
    rfl
/-- a list that is handed in -/
theorem open_sl {H : Type} {enc : TypeId × Value → H} {w : World} {base : Nat} {spare : Nat → Bool} {held : Bool} {α : Type} [Inhabited α] (E : α → List Value) {K B : Nat} {t e : TypeId} (hu : Try.prog.underlying t = some (.slice e)) (hc : Try.prog.cellsOf e = K) (hB : Try.prog.bytesOf e = B) (hK : ∀ x, (E x).length = K) (hK0 : 0 < K)
    (he : ∀ n cs (z : DataW H × List MemPlace), cs.length = K → DataW.trod enc Try.prog w base spare held n e cs = some z → ∃ x, cs = E x ∧ True)
    {r : Reach} {b0 : Nat} {v : Value} {d : DataW H} {p : List MemPlace} {ts : List TypeId} {ds : List (DataW H)} {j : Nat}
    (hv : Value.okWide Try.prog w r b0 t v) (h : DataW.Trod enc Try.prog w base spare held t v d p) (hz : (DataW.weightsEach Try.prog ts ds).all (· ≤ reachBytes) = true) (ht : ts[j]? = some t) (hd : ds[j]? = some d) :
    ∃ xs : List α, Ls E (· < w.heap.size) w v xs ∧ xs.length * B ≤ 140737488351232 := by
  obtain ⟨va, vl, vc, rfl⟩ := okWide_slice hu hv
  obtain ⟨fuel, hf⟩ := h
  have hf' : DataW.trod enc Try.prog w base spare held fuel t [.slice va vl vc] = some (d, p) := hf
  obtain ⟨xs, lx, sx⟩ := open_gen E hu hc hK hK0 (fun _ _ => True) he hf'
  refine ⟨xs, lx, ?_⟩
  rcases sx with ⟨e1, _⟩ | ⟨el, sp, e1, hle, _⟩
  · rw [e1]; simp
  · have e9 : d = .slice el sp := e1
    subst e9
    have := sized_slice hz ht hd hu
    rw [hB] at this
    have e' : reachBytes = 140737488351232 := by decide
    rw [e'] at this
    rw [← hle]
    have : el.length * B ≤ (el.length + sp.length) * B := Nat.mul_le_mul_right _ (by omega)
    omega
/-- the same, where all that is handed in is small -/
theorem open_slU {H : Type} {enc : TypeId × Value → H} {w : World} {base : Nat} {spare : Nat → Bool} {held : Bool} {α : Type} [Inhabited α] (E : α → List Value) {K : Nat} {t e : TypeId} (hu : Try.prog.underlying t = some (.slice e)) (hc : Try.prog.cellsOf e = K) (hK : ∀ x, (E x).length = K) (hK0 : 0 < K)
    (he : ∀ n cs (z : DataW H × List MemPlace), cs.length = K → DataW.trod enc Try.prog w base spare held n e cs = some z → ∃ x, cs = E x ∧ True)
    {r : Reach} {b0 : Nat} {v : Value} {d : DataW H} {p : List MemPlace} {ds : List (DataW H)}
    (hv : Value.okWide Try.prog w r b0 t v) (h : DataW.Trod enc Try.prog w base spare held t v d p) (hk : Rows.uptoSmall H ds = true) (hd : d ∈ ds) :
    ∃ xs : List α, Ls E (· < w.heap.size) w v xs ∧ xs.length ≤ 1048576 := by
  have hb : Rows.uptoBulkAll ds ≤ 1048576 := of_decide_eq_true hk
  have hb1 := Nat.le_trans (bulk_part hd) hb
  obtain ⟨va, vl, vc, rfl⟩ := okWide_slice hu hv
  obtain ⟨fuel, hf⟩ := h
  have hf' : DataW.trod enc Try.prog w base spare held fuel t [.slice va vl vc] = some (d, p) := hf
  obtain ⟨xs, lx, sx⟩ := open_gen E hu hc hK hK0 (fun _ _ => True) he hf'
  refine ⟨xs, lx, ?_⟩
  rcases sx with ⟨e1, _⟩ | ⟨el, sp, e1, hle, _⟩
  · rw [e1]; simp
  · have e9 : d = .slice el sp := e1
    subst e9
    have := bulk_slice el sp
    omega
end Go.Proofs.Ytalmiphddgmfbab.Lt

namespace Go.Proofs.Ytalmiphddgmfbab.Lt
open Go.ChangeShapes Go.WideShapes Go.ChangeAt Go.RowKit Go.Deep Go.Joins Wd
set_option maxRecDepth 100000

theorem cellsJ : Try.prog.cellsOf 2 = 1 := by kernel_rfl
theorem cellsB : Try.prog.cellsOf 4 = 1 := by kernel_rfl
def eBo (b : Bool) : List Value := [.bool b]
theorem eBo_len (b : Bool) : (eBo b).length = 1 := rfl
theorem wf_u8c {n : Int} (h : (Lit.int .u8 n).wf = true) : 0 ≤ n ∧ n ≤ 255 := by
  simp only [Lit.wf, IntKind.min, IntKind.max, IntKind.signed, IntKind.bits, Bool.and_eq_true] at h
  simp at h
  omega
section
variable {H : Type} {enc : TypeId × Value → H} {w : World} {base : Nat} {spare : Nat → Bool} {held : Bool}
theorem el_num (n : Nat) (cs : List Value) (z : DataW H × List MemPlace) (_hl : cs.length = 1) (h : DataW.trod enc Try.prog w base spare held n 2 cs = some z) : ∃ x : Int, cs = eI x ∧ True := by
  obtain ⟨x, e1, _, _⟩ := DataW.trod_int Try.underlying2 h
  exact ⟨x, by rw [e1]; rfl, trivial⟩
theorem el_bool (n : Nat) (cs : List Value) (z : DataW H × List MemPlace) (_hl : cs.length = 1) (h : DataW.trod enc Try.prog w base spare held n 4 cs = some z) : ∃ x : Bool, cs = eBo x ∧ True := by
  obtain ⟨x, e1, _⟩ := DataW.trod_bool Try.underlying4 h
  exact ⟨x, by rw [e1]; rfl, trivial⟩
end
end Go.Proofs.Ytalmiphddgmfbab.Lt

namespace Go.Proofs.Ytalmiphddgmfbab.Lt
open Go.ChangeShapes Go.WideShapes Go.ChangeAt Go.RowKit Go.Deep Go.Joins Wd
set_option maxRecDepth 100000

theorem cellsGd : Try.prog.cellsOf 24 = 2 := by kernel_rfl
theorem wf_i64c {n : Int} (h : (Lit.int .i64 n).wf = true) : -9223372036854775808 ≤ n ∧ n ≤ 9223372036854775807 := by
  simp only [Lit.wf, IntKind.min, IntKind.max, IntKind.signed, IntKind.bits, Bool.and_eq_true] at h
  simp at h
  omega
section
variable {H : Type} {enc : TypeId × Value → H} {w : World} {base : Nat} {spare : Nat → Bool} {held : Bool}
end
end Go.Proofs.Ytalmiphddgmfbab.Lt

namespace Go.Proofs.Ytalmiphddgmfbab.Lt
open Go.ChangeShapes Go.WideShapes Go.ChangeAt Go.RowKit Go.Deep Go.Joins Wd
set_option maxRecDepth 100000

theorem cellsWtr : Try.prog.cellsOf 95 = 4 := by kernel_rfl
theorem cellsChn : Try.prog.cellsOf 70 = 5 := by kernel_rfl
theorem cellsLJ : Try.prog.cellsOf 67 = 1 := by kernel_rfl
theorem cellsLW : Try.prog.cellsOf 68 = 1 := by kernel_rfl
/-- channels, one for each row -/
theorem pick_cs {H : Type} {K : Rw → Cn → Prop} : ∀ (xs : List Rw) (el : List (DataW H)), el.length = xs.length → (∀ (i : Nat) (x : Rw), xs[i]? = some x → ∃ d, el[i]? = some d ∧ ∃ c : Cn, K x c ∧ c.vs.length ≤ Rows.uptoBulk d ∧ wl c ≤ Rows.uptoBulk d) →
    ∃ cs : List Cn, xs.length = cs.length ∧ (∀ (i : Nat) (x : Rw) (c : Cn), xs[i]? = some x → cs[i]? = some c → K x c) ∧ tot cs ≤ Rows.uptoBulkAll el ∧ ∀ c ∈ cs, c.vs.length ≤ Rows.uptoBulkAll el := by
  intro xs
  induction xs with
  | nil => intro el _ _; exact ⟨[], rfl, fun i x c hx => by simp at hx, Nat.zero_le _, fun c hc => by cases hc⟩
  | cons x r ih =>
    intro el hl h
    cases el with
    | nil => simp at hl
    | cons d er =>
      obtain ⟨d0, e0, c, kc, h1, h2⟩ := h 0 x rfl
      rw [List.getElem?_cons_zero] at e0
      injection e0 with e0
      subst e0
      obtain ⟨cs, q1, q2, q3, q4⟩ := ih er (by simpa using hl) (fun i y hy => by
        obtain ⟨d1, e1, r1⟩ := h (i + 1) y (by rw [List.getElem?_cons_succ]; exact hy)
        rw [List.getElem?_cons_succ] at e1
        exact ⟨d1, e1, r1⟩)
      refine ⟨c :: cs, by rw [List.length_cons, List.length_cons, q1], ?_, ?_, ?_⟩
      · intro i y e hy he
        cases i with
        | zero =>
          rw [List.getElem?_cons_zero] at hy he
          injection hy with hy
          injection he with he
          subst hy he
          exact kc
        | succ i =>
          rw [List.getElem?_cons_succ] at hy he
          exact q2 i y e hy he
      · unfold tot at q3 ⊢
        rw [List.map_cons, List.sum_cons]
        simp only [Rows.uptoBulkAll]
        omega
      · intro e he
        simp only [Rows.uptoBulkAll]
        rcases List.mem_cons.1 he with q | q
        · subst q; omega
        · have := q4 e q; omega
section
variable {H : Type} {enc : TypeId × Value → H} {w : World} {base : Nat} {spare : Nat → Bool} {held : Bool}
theorem el_wt (n : Nat) (cs : List Value) (z : DataW H × List MemPlace) (hl : cs.length = 4) (h : DataW.trod enc Try.prog w base spare held n 95 cs = some z) : ∃ x : Wt, cs = eW x ∧ Gok x.s x.g := by
  obtain ⟨c0, c1, c2, c3, rfl⟩ : ∃ a b c d, cs = [a, b, c, d] := by
    match cs, hl with
    | [a, b, c, d], _ => exact ⟨a, b, c, d, rfl⟩
  obtain ⟨xs, n, _, _, _, hlen, hfs⟩ := DataW.trod_struct Try.underlying95 h
  match xs, hlen with
  | [y0, y1, y2], _ =>
    have h0 := hfs 0 _ rfl
    have h1 := hfs 1 _ rfl
    have h2 := hfs 2 _ rfl
    have h0' : DataW.trod enc Try.prog w base spare held n 24 [c0, c1] = some y0 := by simpa [Value.cells, cellsI, cellsJ, cellsGd] using h0
    have h1' : DataW.trod enc Try.prog w base spare held n 3 [c2] = some y1 := by simpa [Value.cells, cellsI, cellsJ, cellsGd] using h1
    have h2' : DataW.trod enc Try.prog w base spare held n 2 [c3] = some y2 := by simpa [Value.cells, cellsI, cellsJ, cellsGd] using h2
    obtain ⟨x2, e2, _, _⟩ := DataW.trod_int Try.underlying3 h1'
    obtain ⟨x3, e3, _, _⟩ := DataW.trod_int Try.underlying2 h2'
    obtain ⟨zs, m, _, _, _, hlen2, hgs⟩ := DataW.trod_struct Try.underlying24 h0'
    match zs, hlen2 with
    | [z0, z1], _ =>
      have k0 := hgs 0 _ rfl
      have k1 := hgs 1 _ rfl
      have k0' : DataW.trod enc Try.prog w base spare held m 3 [c0] = some z0 := by simpa [Value.cells, cellsI] using k0
      have k1' : DataW.trod enc Try.prog w base spare held m 3 [c1] = some z1 := by simpa [Value.cells, cellsI] using k1
      obtain ⟨x0, e0, _, w0⟩ := DataW.trod_int Try.underlying3 k0'
      obtain ⟨x1, e1, _, w1⟩ := DataW.trod_int Try.underlying3 k1'
      simp at e0 e1 e2 e3
      exact ⟨⟨x0, x1, x2, x3⟩, by rw [e0, e1, e2, e3]; rfl, wf_i64c w0, wf_i64c w1⟩
theorem len_bulk {α : Type} {xs : List α} {d : DataW H} {Q : α → DataW H → Prop} (h : (xs = [] ∧ d = .nil) ∨ ∃ el sp, d = .slice el sp ∧ el.length = xs.length ∧ ∀ (i : Nat) (x : α), xs[i]? = some x → ∃ d', el[i]? = some d' ∧ Q x d') : xs.length ≤ Rows.uptoBulk d ∧ ∀ x ∈ xs, ∃ d', Q x d' := by
  rcases h with ⟨e1, _⟩ | ⟨el, sp, e1, hle, hq⟩
  · rw [e1]; exact ⟨Nat.zero_le _, fun x hx => by cases hx⟩
  · rw [e1]
    have := bulk_slice el sp
    refine ⟨by omega, fun x hx => ?_⟩
    obtain ⟨i, hi⟩ := List.mem_iff_getElem?.1 hx
    obtain ⟨d', _, q⟩ := hq i x hi
    exact ⟨d', q⟩
theorem el_chan (n : Nat) (cs : List Value) (z : DataW H × List MemPlace) (hl : cs.length = 5) (h : DataW.trod enc Try.prog w base spare held n 70 cs = some z) :
    ∃ x : Rw, cs = eR x ∧ ∃ c : Cn, (Rd (· < w.heap.size) w x c ∧ ∀ y, y ∈ c.ss ∨ y ∈ c.rs → Gok y.s y.g) ∧ c.vs.length ≤ Rows.uptoBulk z.1 ∧ wl c ≤ Rows.uptoBulk z.1 := by
  have : Inhabited Wt := ⟨⟨0, 0, 0, 0⟩⟩
  obtain ⟨c0, c1, c2, c3, c4, rfl⟩ : ∃ a b c d e, cs = [a, b, c, d, e] := by
    match cs, hl with
    | [a, b, c, d, e], _ => exact ⟨a, b, c, d, e, rfl⟩
  obtain ⟨xs, n, _, hz, _, hlen, hfs⟩ := DataW.trod_struct Try.underlying70 h
  match xs, hlen with
  | [y0, y1, y2, y3, y4], _ =>
    have h0 := hfs 0 _ rfl
    have h1 := hfs 1 _ rfl
    have h2 := hfs 2 _ rfl
    have h3 := hfs 3 _ rfl
    have h4 := hfs 4 _ rfl
    have h0' : DataW.trod enc Try.prog w base spare held n 3 [c0] = some y0 := by simpa [Value.cells, cellsI, cellsLJ, cellsLW, cellsB] using h0
    have h1' : DataW.trod enc Try.prog w base spare held n 67 [c1] = some y1 := by simpa [Value.cells, cellsI, cellsLJ, cellsLW, cellsB] using h1
    have h2' : DataW.trod enc Try.prog w base spare held n 68 [c2] = some y2 := by simpa [Value.cells, cellsI, cellsLJ, cellsLW, cellsB] using h2
    have h3' : DataW.trod enc Try.prog w base spare held n 68 [c3] = some y3 := by simpa [Value.cells, cellsI, cellsLJ, cellsLW, cellsB] using h3
    have h4' : DataW.trod enc Try.prog w base spare held n 4 [c4] = some y4 := by simpa [Value.cells, cellsI, cellsLJ, cellsLW, cellsB] using h4
    obtain ⟨x0, e0, _, _⟩ := DataW.trod_int Try.underlying3 h0'
    obtain ⟨x4, e4, _⟩ := DataW.trod_bool Try.underlying4 h4'
    obtain ⟨vs, lv, sv⟩ := open_gen eI Try.underlying67 cellsJ eI_len (by omega) (fun _ _ => True) (fun n cs z hl h => el_num n cs z hl h) h1'
    obtain ⟨ss, ls, ts⟩ := open_gen eW Try.underlying68 cellsWtr eW_len (by omega) (fun x _ => Gok x.s x.g) (fun n cs z hl h => el_wt n cs z hl h) h2'
    obtain ⟨rs, lr, tr⟩ := open_gen eW Try.underlying68 cellsWtr eW_len (by omega) (fun x _ => Gok x.s x.g) (fun n cs z hl h => el_wt n cs z hl h) h3'
    have b1 := (len_bulk sv).1
    obtain ⟨b2, g2⟩ := len_bulk ts
    obtain ⟨b3, g3⟩ := len_bulk tr
    simp at e0 e4
    refine ⟨⟨x0, c1, c2, c3, x4⟩, by rw [e0, e4]; rfl, ⟨x0, vs, ss, rs, x4⟩, ⟨⟨rfl, rfl, lv, ls, lr⟩, ?_⟩, ?_, ?_⟩
    · intro y hy
      rcases hy with hy | hy
      · exact (g2 y hy).elim (fun _ q => q)
      · exact (g3 y hy).elim (fun _ q => q)
    · rw [hz]
      simp only [List.map_cons, List.map_nil, Rows.uptoBulk, Rows.uptoBulkAll]
      omega
    · rw [hz]
      unfold wl
      simp only [List.map_cons, List.map_nil, Rows.uptoBulk, Rows.uptoBulkAll]
      omega
/-- states that are handed in -/
theorem open_states {r : Reach} {b0 : Nat} {v : Value} {d : DataW H} {p : List MemPlace} {ds : List (DataW H)}
    (hv : Value.okWide Try.prog w r b0 22 v) (h : DataW.Trod enc Try.prog w base spare held 22 v d p) (hk : Rows.uptoSmall H ds = true) (hd : d ∈ ds) :
    ∃ cs : List Cn, Rds (· < w.heap.size) w v cs ∧ Bd cs ∧ tot cs ≤ 1048576 ∧ ∀ c ∈ cs, ∀ x, x ∈ c.ss ∨ x ∈ c.rs → Gok x.s x.g := by
  have : Inhabited Rw := ⟨⟨0, .slice none 0 0, .slice none 0 0, .slice none 0 0, false⟩⟩
  have hb : Rows.uptoBulkAll ds ≤ 1048576 := of_decide_eq_true hk
  have hb1 := Nat.le_trans (bulk_part hd) hb
  obtain ⟨va, vl, vc, rfl⟩ := okWide_slice Try.underlying22 hv
  obtain ⟨fuel, hf⟩ := h
  have hf' : DataW.trod enc Try.prog w base spare held fuel 22 [.slice va vl vc] = some (d, p) := hf
  obtain ⟨xs, lx, sx⟩ := open_gen eR Try.underlying22 cellsChn eR_len (by omega) (fun x d => ∃ c : Cn, (Rd (· < w.heap.size) w x c ∧ ∀ y, y ∈ c.ss ∨ y ∈ c.rs → Gok y.s y.g) ∧ c.vs.length ≤ Rows.uptoBulk d ∧ wl c ≤ Rows.uptoBulk d) (fun n cs z hl h => el_chan n cs z hl h) hf'
  have hx : ∃ (el : List (DataW H)), el.length = xs.length ∧ Rows.uptoBulkAll el ≤ 1048576 ∧ ∀ (i : Nat) (x : Rw), xs[i]? = some x → ∃ d, el[i]? = some d ∧ ∃ c : Cn, (Rd (· < w.heap.size) w x c ∧ ∀ y, y ∈ c.ss ∨ y ∈ c.rs → Gok y.s y.g) ∧ c.vs.length ≤ Rows.uptoBulk d ∧ wl c ≤ Rows.uptoBulk d := by
    rcases sx with ⟨e1, _⟩ | ⟨el, sp, e1, hle, hq⟩
    · exact ⟨[], by rw [e1]; rfl, by simp [Rows.uptoBulkAll], fun i x hx => by rw [e1] at hx; simp at hx⟩
    · have e9 : d = .slice el sp := e1
      subst e9
      refine ⟨el, hle, ?_, hq⟩
      simp only [Rows.uptoBulk] at hb1
      omega
  obtain ⟨el, hle, hel, hq⟩ := hx
  obtain ⟨cs, q1, q2, q3, q4⟩ := pick_cs (K := fun x c => Rd (· < w.heap.size) w x c ∧ ∀ y, y ∈ c.ss ∨ y ∈ c.rs → Gok y.s y.g) xs el hle hq
  have hln : cs.length ≤ 1048576 := by
    have := bulk_len el
    omega
  have hgk : ∀ c ∈ cs, ∀ x, x ∈ c.ss ∨ x ∈ c.rs → Gok x.s x.g := by
    intro c hc x hx
    obtain ⟨i, hi⟩ := List.mem_iff_getElem?.1 hc
    obtain ⟨y, hy⟩ : ∃ y, xs[i]? = some y := ⟨_, List.getElem?_eq_getElem (by rw [q1]; exact (List.getElem?_eq_some_iff.1 hi).1)⟩
    exact (q2 i y c hy hi).2 x hx
  have hwl : ∀ c ∈ cs, wl c ≤ 1048576 := fun c hc => Nat.le_trans (sum_mem (f := wl) hc) (Nat.le_trans q3 hel)
  refine ⟨cs, ⟨xs, lx, q1, fun i x c hx hc => (q2 i x c hx hc).1⟩, ⟨by omega, fun c hc => by have := q4 c hc; omega, fun c hc => by have := hwl c hc; unfold wl at this; omega, fun c hc => by have := hwl c hc; unfold wl at this; omega⟩, Nat.le_trans q3 hel, hgk⟩
end
end Go.Proofs.Ytalmiphddgmfbab.Lt

namespace Go.Proofs.Ytalmiphddgmfbab.Lt
open Go.ChangeShapes Go.WideShapes Go.ChangeAt Go.RowKit Go.Deep Go.Joins Wd
set_option maxRecDepth 100000

theorem cellsU : Try.prog.cellsOf 77 = 1 := by kernel_rfl
theorem bytesU : Try.prog.bytesOf 77 = 8 := by kernel_rfl
theorem bytesI : Try.prog.bytesOf 3 = 8 := by kernel_rfl
theorem wf_u64 {n : Int} (h : (Lit.int .u64 n).wf = true) : 0 ≤ n ∧ n ≤ 18446744073709551615 := by
  simp only [Lit.wf, IntKind.min, IntKind.max, IntKind.signed, IntKind.bits, Bool.and_eq_true] at h
  simp at h
  omega
section
variable {H : Type} {enc : TypeId × Value → H} {w : World} {base : Nat} {spare : Nat → Bool} {held : Bool}
theorem el_int (n : Nat) (cs : List Value) (z : DataW H × List MemPlace) (_hl : cs.length = 1) (h : DataW.trod enc Try.prog w base spare held n 3 cs = some z) : ∃ x : Int, cs = eI x ∧ True := by
  obtain ⟨x, e1, _, _⟩ := DataW.trod_int Try.underlying3 h
  exact ⟨x, by rw [e1]; rfl, trivial⟩
/-- draws that are handed in -/
theorem open_draws {r : Reach} {b0 : Nat} {v : Value} {d : DataW H} {p : List MemPlace} {ts : List TypeId} {ds : List (DataW H)} {j : Nat}
    (hv : Value.okWide Try.prog w r b0 26 v) (h : DataW.Trod enc Try.prog w base spare held 26 v d p) (hz : (DataW.weightsEach Try.prog ts ds).all (· ≤ reachBytes) = true) (ht : ts[j]? = some 26) (hd : ds[j]? = some d) :
    ∃ xs : List Int, Ls eU (· < w.heap.size) w v xs ∧ xs.length * 8 ≤ 140737488351232 ∧ Dok xs := by
  obtain ⟨va, vl, vc, rfl⟩ := okWide_slice Try.underlying26 hv
  obtain ⟨fuel, hf⟩ := h
  have hf' : DataW.trod enc Try.prog w base spare held fuel 26 [.slice va vl vc] = some (d, p) := hf
  obtain ⟨xs, lx, sx⟩ := open_gen eU Try.underlying26 cellsU eU_len (by omega) (fun x _ => 0 ≤ x ∧ x ≤ 18446744073709551615) (fun n cs z _ h => by
    obtain ⟨x, e1, _, hw⟩ := DataW.trod_int Try.underlying77 h
    exact ⟨x, by rw [e1]; rfl, wf_u64 hw⟩) hf'
  refine ⟨xs, lx, ?_, ?_⟩
  · rcases sx with ⟨e1, _⟩ | ⟨el, sp, e1, hle, _⟩
    · rw [e1]; simp
    · have e9 : d = .slice el sp := e1
      subst e9
      have := sized_slice hz ht hd Try.underlying26
      rw [bytesU] at this
      have e' : reachBytes = 140737488351232 := by decide
      rw [e'] at this
      rw [← hle]
      omega
  · intro x hx
    rcases sx with ⟨e1, _⟩ | ⟨el, sp, e1, hle, hq⟩
    · rw [e1] at hx; cases hx
    · obtain ⟨i, hi⟩ := List.mem_iff_getElem?.1 hx
      obtain ⟨_, _, h2⟩ := hq i x hi
      exact h2
end
end Go.Proofs.Ytalmiphddgmfbab.Lt

namespace Go.Proofs.Ytalmiphddgmfbab.Lt
open Go.ChangeShapes Go.WideShapes Go.ChangeAt Go.RowKit Go.Deep Go.Joins Wd
set_option maxRecDepth 100000

theorem cellsP : Try.prog.cellsOf 39 = 3 := by kernel_rfl
theorem cellsG : Try.prog.cellsOf 24 = 2 := by kernel_rfl
theorem cellsPs : Try.prog.cellsOf 25 = 1 := by kernel_rfl
theorem cellsDs : Try.prog.cellsOf 26 = 1 := by kernel_rfl
theorem cellsX : Try.prog.cellsOf 28 = 5 := by kernel_rfl
theorem wf_of {n : Int} (h : (Lit.int .i64 n).wf = true) : -9223372036854775808 ≤ n ∧ n ≤ 9223372036854775807 := wf_i64c h
section
variable {H : Type} {enc : TypeId × Value → H} {w : World} {base : Nat} {spare : Nat → Bool} {held : Bool}
theorem el_pick (n : Nat) (cs : List Value) (z : DataW H × List MemPlace) (hl : cs.length = 3) (h : DataW.trod enc Try.prog w base spare held n 39 cs = some z) : ∃ x : Pk, cs = eP x ∧ True := by
  obtain ⟨c0, c1, c2, rfl⟩ : ∃ a b c, cs = [a, b, c] := by
    match cs, hl with
    | [a, b, c], _ => exact ⟨a, b, c, rfl⟩
  obtain ⟨xs, n, _, _, _, hlen, hfs⟩ := DataW.trod_struct Try.underlying39 h
  match xs, hlen with
  | [y0, y1, y2], _ =>
    have h0 := hfs 0 _ rfl
    have h1 := hfs 1 _ rfl
    have h2 := hfs 2 _ rfl
    have h0' : DataW.trod enc Try.prog w base spare held n 4 [c0] = some y0 := by simpa [Value.cells, cellsB] using h0
    have h1' : DataW.trod enc Try.prog w base spare held n 2 [c1] = some y1 := by simpa [Value.cells, cellsJ] using h1
    have h2' : DataW.trod enc Try.prog w base spare held n 2 [c2] = some y2 := by simpa [Value.cells, cellsJ] using h2
    obtain ⟨x0, e0, _⟩ := DataW.trod_bool Try.underlying4 h0'
    obtain ⟨x1, e1, _, _⟩ := DataW.trod_int Try.underlying2 h1'
    obtain ⟨x2, e2, _, _⟩ := DataW.trod_int Try.underlying2 h2'
    simp at e0 e1 e2
    exact ⟨⟨x0, x1, x2⟩, by rw [e0, e1, e2]; rfl, trivial⟩
/-- a goroutine that is handed in -/
theorem el_gid (n : Nat) (cs : List Value) (z : DataW H × List MemPlace) (hl : cs.length = 2) (h : DataW.trod enc Try.prog w base spare held n 24 cs = some z) : ∃ s g : Int, cs = [.int .i64 s, .int .i64 g] ∧ Gok s g := by
  obtain ⟨c0, c1, rfl⟩ : ∃ a b, cs = [a, b] := by
    match cs, hl with
    | [a, b], _ => exact ⟨a, b, rfl⟩
  obtain ⟨xs, n, _, _, _, hlen, hfs⟩ := DataW.trod_struct Try.underlying24 h
  match xs, hlen with
  | [y0, y1], _ =>
    have h0 := hfs 0 _ rfl
    have h1 := hfs 1 _ rfl
    have h0' : DataW.trod enc Try.prog w base spare held n 3 [c0] = some y0 := by simpa [Value.cells, cellsI] using h0
    have h1' : DataW.trod enc Try.prog w base spare held n 3 [c1] = some y1 := by simpa [Value.cells, cellsI] using h1
    obtain ⟨x0, e0, _, w0⟩ := DataW.trod_int Try.underlying3 h0'
    obtain ⟨x1, e1, _, w1⟩ := DataW.trod_int Try.underlying3 h1'
    simp at e0 e1
    exact ⟨x0, x1, by rw [e0, e1], wf_of w0, wf_of w1⟩
/-- a select that is handed in -/
theorem open_askU {r : Reach} {b0 : Nat} {v : Value} {d : DataW H} {p : List MemPlace} (hv : Value.okWide Try.prog w r b0 28 v) (h : DataW.Trod enc Try.prog w base spare held 28 v d p) :
    ∃ (s g : Int) (vp : Value) (df : Bool) (vd : Value) (ps : List Pk) (xs : List Int), v = .agg #[.int .i64 s, .int .i64 g, vp, .bool df, vd] ∧ Gok s g ∧ Ls eP (· < w.heap.size) w vp ps ∧ Ls eU (· < w.heap.size) w vd xs ∧ Dok xs := by
  obtain ⟨vs, rfl, hsz⟩ := okWide_struct Try.underlying28 hv
  rw [cellsX] at hsz
  obtain ⟨fuel, hf⟩ := h
  obtain ⟨l⟩ := vs
  match l, hsz with
  | [c0, c1, c2, c3, c4], _ =>
    obtain ⟨ys, n, _, _, _, hlen, hfs⟩ := DataW.trod_struct Try.underlying28 hf
    match ys, hlen with
    | [y0, y1, y2, y3], _ =>
      have h0 := hfs 0 _ rfl
      have h1 := hfs 1 _ rfl
      have h2 := hfs 2 _ rfl
      have h3 := hfs 3 _ rfl
      have h0' : DataW.trod enc Try.prog w base spare held n 24 [c0, c1] = some y0 := by simpa [Value.cells, cellsG] using h0
      have h1' : DataW.trod enc Try.prog w base spare held n 25 [c2] = some y1 := by simpa [Value.cells, cellsPs] using h1
      have h2' : DataW.trod enc Try.prog w base spare held n 4 [c3] = some y2 := by simpa [Value.cells, cellsB] using h2
      have h3' : DataW.trod enc Try.prog w base spare held n 26 [c4] = some y3 := by simpa [Value.cells, cellsDs] using h3
      obtain ⟨s, g, e0, hg⟩ := el_gid n _ _ rfl h0'
      have : Inhabited Pk := ⟨⟨false, 0, 0⟩⟩
      obtain ⟨ps, lp, _⟩ := open_gen eP Try.underlying25 cellsP eP_len (by omega) (fun _ _ => True) (fun n cs z hl h => el_pick n cs z hl h) h1'
      obtain ⟨df, e2, _⟩ := DataW.trod_bool Try.underlying4 h2'
      obtain ⟨xs, lx, sx⟩ := open_gen eU Try.underlying26 cellsU eU_len (by omega) (fun x _ => 0 ≤ x ∧ x ≤ 18446744073709551615) (fun n cs z _ h => by
        obtain ⟨x, e1, _, hw⟩ := DataW.trod_int Try.underlying77 h
        exact ⟨x, by rw [e1]; rfl, wf_u64 hw⟩) h3'
      simp at e0 e2
      refine ⟨s, g, c2, df, c4, ps, xs, by rw [e0.1, e0.2, e2], hg, lp, lx, ?_⟩
      · intro x hx
        rcases sx with ⟨e1, _⟩ | ⟨el, sp, e1, hle, hq⟩
        · rw [e1] at hx; cases hx
        · obtain ⟨i, hi⟩ := List.mem_iff_getElem?.1 hx
          obtain ⟨_, _, h2⟩ := hq i x hi
          exact h2
end
end Go.Proofs.Ytalmiphddgmfbab.Lt

namespace Go.Proofs.Ytalmiphddgmfbab.Lt
open Go.RowKit Wd
attribute [local go_sem ↓] Go.wp_at_zero Go.wp_at_succ

theorem rorder_arg (n : Int) (v : Value) (w : World) (h : ¬ (0 ≤ n ∧ n ≤ 16)) : Calls Try.prog 37 #[.int .i64 n, v] w fun e w' => e = .returned (.tuple #[.slice none 0 0, .int .i64 1]) ∧ w' = w := by
  by_cases h0 : n < 0
  · clear h
    go_enter Try.func37, Try.ntmps37
    go_wp2
    exact bodyPost_ret (v := .tuple #[.slice none 0 0, .int .i64 1]) (by simp [results, Try.results37, go_sem]) rfl ⟨rfl, rfl⟩
  · have h1 : 16 < n := by omega
    clear h
    go_enter Try.func37, Try.ntmps37
    go_wp2
    exact bodyPost_ret (v := .tuple #[.slice none 0 0, .int .i64 1]) (by simp [results, Try.results37, go_sem]) rfl ⟨rfl, rfl⟩
theorem rorder_few (n m cap : Nat) (ao : Option Addr) (w : World) (h : n ≤ 16) (hm : m < n) : Calls Try.prog 37 #[.int .i64 (n : Int), .slice ao m cap] w fun e w' => e = .returned (.tuple #[.slice none 0 0, .int .i64 120]) ∧ w' = w := by
  have d0 : ¬ (n : Int) < 0 := by omega
  have d1 : ¬ (16 : Int) < (n : Int) := by omega
  have d2 : (m : Int) < (n : Int) := by omega
  go_enter Try.func37, Try.ntmps37
  go_wp2
  exact bodyPost_ret (v := .tuple #[.slice none 0 0, .int .i64 120]) (by simp [results, Try.results37, go_sem]) rfl ⟨rfl, rfl⟩
/-- a step of Order in a list that grows -/
theorem so_ap (l : List Int) (d x : Int) (hx : (l ++ [(l.length : Int)])[(d % ((l.length : Int) + 1)).toNat]? = some x) :
    ((l ++ [(l.length : Int)]).set l.length x).set (d % ((l.length : Int) + 1)).toNat (l.length : Int) = so l d := by
  have hj := mod_lt l.length d
  unfold so
  generalize (d % ((l.length : Int) + 1)).toNat = j at hj hx ⊢
  have e1 : (l ++ [(l.length : Int)]).set l.length x = l ++ [x] := by
    rw [List.set_append_right _ _ (Nat.le_refl _), Nat.sub_self, List.set_cons_zero]
  rw [e1]
  by_cases h : j < l.length
  · rw [List.getElem?_append_left h] at hx
    rw [List.getD_eq_getElem?_getD, hx]
    rfl
  · have e : j = l.length := by omega
    subst e
    rw [List.set_append_right _ _ (Nat.le_refl _), List.set_append_right _ _ (Nat.le_refl _)]
    simp
theorem Ow.some1 {T base n cap : Nat} {ao : Option Addr} {w : World} {xs : List Int} (h : Ow eI 1 T base w (.slice ao n cap) xs) (hp : 0 < n) : ∃ g, ao = some ⟨g, 0, none⟩ ∧ base ≤ g := by
  have e := h.len.1
  obtain ⟨x, hx⟩ : ∃ x, xs[0]? = some x := ⟨_, List.getElem?_eq_getElem (by omega)⟩
  obtain ⟨g', cap', e, h1, -⟩ := h.get eI_len hx
  injection e with e1 e2 e3
  exact ⟨g', e1, h1⟩
set_option maxRecDepth 20000 in
set_option maxHeartbeats 4000000 in
theorem rorder_ok (P : Nat → Prop) (w : World) (ao : Option Addr) (m cap : Nat) (ds : List Int) (n : Nat) (h : Ls eU P w (.slice ao m cap) ds) (hd : Dok ds) (hn : n ≤ 16) (hm : n ≤ m) : Calls Try.prog 37 #[.int .i64 (n : Int), .slice ao m cap] w (OrR w n (ord (ds.take n))) := by
  have d0 : ¬ (n : Int) < 0 := by omega
  have d1 : ¬ (16 : Int) < (n : Int) := by omega
  have d2 : ¬ (m : Int) < (n : Int) := by omega
  have HL := hid h.len.1
  have HB := hid h
  have HD := hid hd
  clear h hd
  go_enter Try.func37, Try.ntmps37
  go_wp2_with fail
  go_loopg [6, 7] n (fun q v i wr => ∃ (j : Nat) (a : Option Addr) (c : Nat), j + q = n ∧ i = .int .i64 (j : Int) ∧ v = .slice a j c ∧ Ow eI 1 3 w.heap.size wr (.slice a j c) (ord (ds.take j)) ∧ Gr w wr)
  case atStart => exact ⟨0, none, 0, by omega, rfl, rfl, Ow.nil _ _ _ _ _, Gr.refl _⟩
  case round =>
    obtain ⟨j, a, c, hjk, rfl, rfl, hO, hG⟩ := hrel
    have HO := hid hO
    have HG := hid hG
    clear hO hG
    by_cases hj : j < n
    · obtain ⟨d, hx⟩ : ∃ x, ds[j]? = some x := ⟨_, List.getElem?_eq_getElem (by rw [← HL.out]; omega)⟩
      obtain ⟨gg, oo, cap', hv, _, hgl, _, hcs⟩ := (HB.out.gr HG.out).get eU_len hx
      injection hv with hv1 hv2 hv3
      subst hv1
      have c0 := hcs 0 _ rfl
      simp only [Nat.mul_one, Nat.add_zero] at c0
      have j0 : (0 : Int) ≤ (j : Int) := by omega
      have j1 : (j : Int) < (m : Int) := by omega
      have j2 : (j : Int) < (n : Int) := by omega
      have hdd := HD.out d (List.mem_of_getElem? hx)
      have hjj := mod_lt j d
      have hll : (ord (ds.take j)).length = j := by rw [ord_len, List.length_take]; have := HL.out; omega
      obtain ⟨jj, hjd⟩ : ∃ k, (d % ((j : Int) + 1)).toNat = k := ⟨_, rfl⟩
      rw [hjd] at hjj
      have dm : d.tmod ((j : Int) + 1) = (jj : Int) := by
        rw [Int.tmod_eq_emod_of_nonneg hdd.1]
        have := Int.emod_nonneg d (show ((j : Int) + 1) ≠ 0 by omega)
        omega
      have k0 : (0 : Int) ≤ (jj : Int) := by omega
      have k1 : (jj : Int) < ((j + 1 : Nat) : Int) := by omega
      have k2 : (j : Int) < ((j + 1 : Nat) : Int) := by omega
      have hT : ∀ x, (ord (ds.take j) ++ [(j : Int)])[jj]? = some x → ((ord (ds.take j) ++ [(j : Int)]).set j x).set jj (j : Int) = ord (ds.take (j + 1)) := fun x hxx => by
        rw [take_one hx, ord_snoc]
        have e := so_ap (ord (ds.take j)) d x (by rw [hll, hjd]; exact hxx)
        rw [hll, hjd] at e
        exact e
      have HT := hid hT
      have HLL := hid hll
      generalize ord (ds.take j) = zs at HO HT HLL
      clear hcs hv2 hv3 hx hdd hll hjd hT hgl
      have HS := hid HG.out.size
      go_upto_region 11 with (at_builtin; refine wpList_append_ow eI_len rfl (.tmp 33) (.tmp 35) _ 3 8 _ Try.underlying50 int_info rfl (by omega) rfl w.heap.size _ zs rfl (HO.out.alloc _) _ _ [(j : Int)] rfl (Ls.single wr (j : Int) 3 #[.int .i64 (j : Int)] rfl) (eI_one _) (j + 1) (by rw [HLL.out]; rfl) (by omega) (by unfold maxLen; omega) (by simp; have := HS.out; omega) (zs ++ [(j : Int)]) rfl ?_; intro ao5 cap5 w5 ow5 cw5 bl5; have O5 := hid ow5; have G5 := hid (show Gr w w5 from Ch.trans (Ch.alloc HG.out _) cw5 (fun q h => .inr (HO.out.blk h).1)); clear ow5 cw5 bl5)
      obtain ⟨g5, rfl, hg5⟩ := O5.out.some1 (by omega)
      have HG5 := hid hg5
      have hlen : (zs ++ [(j : Int)]).length = j + 1 := by rw [List.length_append, HLL.out]; rfl
      obtain ⟨x, hxx⟩ : ∃ x, (zs ++ [(j : Int)])[jj]? = some x := ⟨_, List.getElem?_eq_getElem (by rw [hlen]; omega)⟩
      obtain ⟨y, hyy⟩ : ∃ x, (zs ++ [(j : Int)])[j]? = some x := ⟨_, List.getElem?_eq_getElem (by rw [hlen]; omega)⟩
      obtain ⟨c1, g1, f1, -⟩ := O5.out.at1 hxx
      obtain ⟨c2, -, f2, s2⟩ := O5.out.at1 hyy
      have HO2 := hid (s2 x)
      have hzz : ∃ z, ((zs ++ [(j : Int)]).set j x)[jj]? = some z := ⟨_, List.getElem?_eq_getElem (by rw [List.length_set, hlen]; omega)⟩
      obtain ⟨z, hzz⟩ := hzz
      obtain ⟨c3, g3, f3, s3⟩ := HO2.out.at1 hzz
      have HN := hid (s3 (j : Int))
      have HT2 := hid (HT.out x hxx)
      clear hlen hxx hyy hzz s2 s3 hg5 c0 dm
      go_wp2_with fail
      go_roundg (gk - 1)
      case measure => omega
      case rel => exact ⟨j + 1, _, cap5, by omega, by simp, rfl, by rw [← HT2.out]; exact HN.out, Ch.fresh (Ch.fresh G5.out HG5.out _ _) HG5.out _ _⟩
    · have jn : ¬ (j : Int) < (n : Int) := by omega
      obtain rfl : j = n := by omega
      go_wp2
      exact bodyPost_ret (v := .tuple #[.slice a j c, .int .i64 0]) (by simp [results, Try.results37, go_sem]) rfl ⟨_, _, rfl, HO.out, HG.out⟩
end Go.Proofs.Ytalmiphddgmfbab.Lt

namespace Go.Proofs.Ytalmiphddgmfbab.Lt
open Go.RowKit Wd
attribute [local go_sem ↓] Go.wp_at_zero Go.wp_at_succ

abbrev nz : Array Value := #[.int .i64 (-1), .bool false, .bool false, .int .i64 0, .bool false, .int .i64 0, .slice none 0 0]
/-- what the document's Select tells -/
def RsR (P : Nat → Prop) (w : World) (r : So) (e : Ending) (w' : World) : Prop := ∃ v mo mn mc, e = .returned (.tuple #[v, .agg #[.int .i64 r.k, .bool r.df, .bool r.o.wa, .int .i64 r.o.va, .bool r.o.ok, .int .i64 r.o.tr, .slice mo mn mc], .int .i64 r.o.er]) ∧ Ls eK (w.heap.size ≤ ·) w' (.slice mo mn mc) r.o.ks ∧ Rds (fun q => P q ∨ w.heap.size ≤ q) w' v r.o.cs ∧ Gr w w'
/-- a block that holds what is told -/
structure Scz (A : Nat) (R : Array Value) (W : World) : Prop where
  bx : W.heap[A]? = some (.cells R 45 (0, 0))
theorem Scz.ch {A : Nat} {R : Array Value} {W W' : World} {S : Nat → Prop} (h : Scz A R W) (c : Ch S W W') (hn : ¬ S A) : Scz A R W' := ⟨(c.block _ (lt_of_block h.bx) hn).trans h.bx⟩
/-- a case's cells -/
structure Spk (gp o : Nat) (x0 : Bool) (x1 : Int) (W : World) : Prop where
  p0 : W.cell? ⟨gp, o, none⟩ = some (.bool x0)
  p1 : W.cell? ⟨gp, o + 1, none⟩ = some (.int .i64 x1)
  lt : gp < W.heap.size
theorem Spk.gr {gp o : Nat} {x0 : Bool} {x1 : Int} {W W' : World} (h : Spk gp o x0 x1 W) (g : Gr W W') : Spk gp o x0 x1 W' := ⟨(g.cell h.lt).trans h.p0, (g.cell h.lt).trans h.p1, Nat.lt_of_lt_of_le h.lt g.size⟩
/-- and one that is to wait -/
structure Spw (gp o : Nat) (x0 : Bool) (x1 : Int) (A : Nat) (R : Array Value) (W : World) : Prop where
  k : Spk gp o x0 x1 W
  bx : W.heap[A]? = some (.cells R 95 (0, 0))
theorem Spw.gr {gp o A : Nat} {x0 : Bool} {x1 : Int} {R : Array Value} {W W' : World} (h : Spw gp o x0 x1 A R W) (g : Gr W W') : Spw gp o x0 x1 A R W' := ⟨h.k.gr g, gr_blk h.bx g⟩
theorem set7 {w : World} {B : Nat} {x y a b c d e a' b' c' d' e' : Value} {T : TypeId} (h : w.heap[B]? = some (.cells #[x, y, a, b, c, d, e] T (0, 0))) :
    (((((w.setCell ⟨B, 2, none⟩ a').setCell ⟨B, 3, none⟩ b').setCell ⟨B, 4, none⟩ c').setCell ⟨B, 5, none⟩ d').setCell ⟨B, 6, none⟩ e').heap[B]? = some (.cells #[x, y, a', b', c', d', e'] T (0, 0)) := by
  have h1 : (w.setCell ⟨B, 2, none⟩ a').heap[B]? = some (.cells #[x, y, a', b, c, d, e] T (0, 0)) := by simpa using setCell_block h 2 a'
  have h2 : ((w.setCell ⟨B, 2, none⟩ a').setCell ⟨B, 3, none⟩ b').heap[B]? = some (.cells #[x, y, a', b', c, d, e] T (0, 0)) := by simpa using setCell_block h1 3 b'
  have h3 : (((w.setCell ⟨B, 2, none⟩ a').setCell ⟨B, 3, none⟩ b').setCell ⟨B, 4, none⟩ c').heap[B]? = some (.cells #[x, y, a', b', c', d, e] T (0, 0)) := by simpa using setCell_block h2 4 c'
  have h4 : ((((w.setCell ⟨B, 2, none⟩ a').setCell ⟨B, 3, none⟩ b').setCell ⟨B, 4, none⟩ c').setCell ⟨B, 5, none⟩ d').heap[B]? = some (.cells #[x, y, a', b', c', d', e] T (0, 0)) := by simpa using setCell_block h3 5 d'
  simpa using setCell_block h4 6 e'
theorem set7_ch (w : World) (B : Nat) (a' b' c' d' e' : Value) : Ch (Only B) w (((((w.setCell ⟨B, 2, none⟩ a').setCell ⟨B, 3, none⟩ b').setCell ⟨B, 4, none⟩ c').setCell ⟨B, 5, none⟩ d').setCell ⟨B, 6, none⟩ e') := (((((Ch.refl _ _).own _ _).own _ _).own _ _).own _ _).own _ _
set_option maxHeartbeats 4000000 in
set_option maxRecDepth 40000 in
theorem rsel_err (P : Nat → Prop) (w : World) (lo : Option Addr) (nl cl : Nat) (cs : List Cn) (s g : Int) (ao : Option Addr) (n cap : Nat) (ps : List Pk) (df : Bool) (dv : Value) (Q : Nat → Prop) (h : Rds P w (.slice lo nl cl) cs) (hps : Ls eP Q w (.slice ao n cap) ps) (er : Int) (her : er ≠ 0) (hO : ∀ W, Gr w W → Calls Try.prog 37 #[.int .i64 (n : Int), dv] W fun e w' => e = .returned (.tuple #[.slice none 0 0, .int .i64 er]) ∧ w' = W) : Calls Try.prog 17 #[.slice lo nl cl, .agg #[.int .i64 s, .int .i64 g], .slice ao n cap, .bool df, dv] w (RsR P w ⟨-1, false, ⟨cs, false, 0, false, 0, [], er⟩⟩) := by
  have HO := hid hO
  have e1 : (er == 0) = false := by simpa using her
  clear hO her
  have HR := hid h
  have HP := hid hps
  have HL := hid hps.len.1
  obtain ⟨W0, hW0⟩ : ∃ W0, W0 = ((w.alloc (.cells #[.int .i64 s, .int .i64 g] 24)).alloc (.cells cz 45)).alloc (.cells nz 45) := ⟨_, rfl⟩
  have G0 := hid (show Gr w W0 from by rw [hW0]; exact Ch.alloc (Ch.alloc (Ch.alloc (Gr.refl w) _) _) _)
  have B0 := hid (show W0.heap[w.heap.size]? = some (.cells #[.int .i64 s, .int .i64 g] 24 (0, 0)) from by rw [hW0]; exact al_blk (al_blk (MapKept.heap_alloc w _).1 _) _)
  have Z0 := hid (show W0.heap[w.heap.size + 1]? = some (.cells cz 45 (0, 0)) from by rw [hW0]; exact al_blk (al_at _ (by simp)) _)
  have N0 := hid (show W0.heap[w.heap.size + 2]? = some (.cells nz 45 (0, 0)) from by rw [hW0]; exact al_at _ (by simp))
  have HW0 := hid (show w.heap.size + 2 < W0.heap.size from lt_of_block N0.out)
  clear h hps
  go_enter Try.func17, Try.ntmps17
  go_upto_region 4 with (first
    | (go_at_call 37; rw [← hW0]; refine (HO.out _ G0.out).mono ?_; rintro e w1 ⟨rfl, hw1⟩; obtain ⟨w2, hw2⟩ : ∃ w2, w2 = W0 := ⟨_, rfl⟩; rw [hw1, ← hw2]; have GA := hid (show Gr W0 w2 from by rw [hw2]; exact Gr.refl _); clear hw1 hw2))
  clear hW0
  have hS0 : Scz (w.heap.size + 2) nz (World.drew w2) := ⟨gr_blk N0.out (Ch.drew GA.out)⟩
  have ZV := hid (show (World.drew w2).heap[w.heap.size + 1]? = some (.cells cz 45 (0, 0)) from gr_blk Z0.out (Ch.drew GA.out))
  have GV := hid (show Gr w (World.drew w2) from Ch.drew (Gr.trans G0.out GA.out))
  have HAA := hid (show w.heap.size + 1 < w.heap.size + 2 from by omega)
  refine wp_region_held_drew (S := Scz (w.heap.size + 2) nz) (by kernel_rfl) (by exact hS0) (fun _ => ?_)
  generalize World.drew w2 = V0 at hS0 ZV GV ⊢
  refine takeS_on (i := 0) 37 (v := ?hv1) rfl rfl (by kernel_rfl) (by kernel_rfl) (by kernel_rfl) (fun _ _ _ h => h) (by kernel_rfl) ?hh1 (by exact hS0) ?_
  case hh1 => (intro w' hSw; go_simp; try (with_reducible rfl))
  simp only [Act.put, List.setIfInBounds_toArray, List.set_cons_zero, List.set_cons_succ]
  refine takeS_on (i := 1) 38 (v := ?hv2) rfl rfl (by kernel_rfl) (by kernel_rfl) (by kernel_rfl) (fun _ _ _ h => h) (by kernel_rfl) ?hh2 (by exact hS0) ?_
  case hh2 => (intro w' hSw; refine Eq.trans (exec_row 45 (.tmp 13) rfl _ rfl _ _ _ _ hSw.bx Try.underlying45 rfl cho_size) ?_; with_reducible rfl)
  simp only [Act.put, List.setIfInBounds_toArray, List.set_cons_zero, List.set_cons_succ]
  refine takeS_on (i := 2) 39 (v := ?hv3) rfl rfl (by kernel_rfl) (by kernel_rfl) (by kernel_rfl) (fun _ _ _ h => h) (by kernel_rfl) ?hh3 (by exact hS0) ?_
  case hh3 => (intro w' hSw; go_simp; try (with_reducible rfl))
  simp only [Act.put, List.setIfInBounds_toArray, List.set_cons_zero, List.set_cons_succ]
  refine takeS_on (i := 3) 10 (v := ?hv4) rfl rfl (by kernel_rfl) (by kernel_rfl) (by kernel_rfl) (fun _ _ _ h => h) (by kernel_rfl) ?hh4 (by exact hS0) ?_
  case hh4 => (intro w' hSw; go_simp; try (with_reducible rfl))
  simp only [Act.put, List.setIfInBounds_toArray, List.set_cons_zero, List.set_cons_succ]
  refine wpAnyH_ready (rs := [4]) (by kernel_rfl) (by simp) (AllReadyH.cons rfl (fun K hK => ?_) AllReadyH.nil)
  rw [if_pos (by kernel_rfl)]
  refine op_rowC 45 (.tmp 11) (.tmp 38) rfl (w.heap.size + 1) _ rfl rfl _ _ ZV.out cho_size rfl (one_cho _ _ _ _ _ _ _ _ _) ?_
  intro w9 b9 k9
  have hS9 : Scz (w.heap.size + 2) nz w9 := hS0.ch k9 (fun e => by have e1 : (w.heap.size + 2) = w.heap.size + 1 := e; have := HAA.out; omega)
  have B9 := hid b9
  have K9 := hid k9
  clear b9 k9
  refine hK.out _ _ (by exact hS9) (fun _ => ?_)
  clear hK K
  refine takeS_on (i := 5) 12 (v := ?hv5) rfl rfl (by kernel_rfl) (by kernel_rfl) (by kernel_rfl) (fun _ _ _ h => h) (by kernel_rfl) ?hh5 (by exact hS9) ?_
  case hh5 => (intro w' hSw; go_simp; try (with_reducible rfl))
  simp only [Act.put, List.setIfInBounds_toArray]
  refine wpAnyH_done (by kernel_rfl) ?_ _
  go_wp2
  refine bodyPost_ret (results_tct rfl _ _ _ _ rfl (run_loadVar_row _ _ _ _ _ _ _ B9.out Try.underlying45 rfl cho_size)) rfl ?_
  exact ⟨_, none, 0, 0, rfl, Ls.nil _ _ _, (HR.out.gr (Ch.trans (show Ch NoB w V0 from GV.out) K9.out (fun q e => .inr (by have e1 : q = w.heap.size + 1 := e; omega)))).mono (fun _ _ p => .inl p), (Ch.trans (show Ch NoB w V0 from GV.out) K9.out (fun q e => .inr (by have e1 : q = w.heap.size + 1 := e; omega)))⟩

set_option maxHeartbeats 4000000 in
set_option maxRecDepth 40000 in
theorem rsel_busy (P : Nat → Prop) (w : World) (lo : Option Addr) (nl cl : Nat) (cs : List Cn) (s g : Int) (ao : Option Addr) (n cap : Nat) (ps : List Pk) (df : Bool) (dv : Value) (Q : Nat → Prop) (h : Rds P w (.slice lo nl cl) cs) (hps : Ls eP Q w (.slice ao n cap) ps) (l : List Int) (hb : Bd cs) (hn : cs.length ≤ 1024) (hp : 0 < pls cs s g) (hO : ∀ W, Gr w W → Calls Try.prog 37 #[.int .i64 (n : Int), dv] W (OrR W n l)) : Calls Try.prog 17 #[.slice lo nl cl, .agg #[.int .i64 s, .int .i64 g], .slice ao n cap, .bool df, dv] w (RsR P w ⟨-1, false, ⟨cs, false, 0, false, 0, [], 111⟩⟩) := by
  have HO := hid hO
  have HW := hid (fun (W : World) (p : Gr w W) => rwaits_any P W _ cs s g (h.gr p) hb (by omega))
  have HPL := hid (decide_eq_true hp)
  clear hO hp hn hb
  have HR := hid h
  have HP := hid hps
  have HL := hid hps.len.1
  obtain ⟨W0, hW0⟩ : ∃ W0, W0 = ((w.alloc (.cells #[.int .i64 s, .int .i64 g] 24)).alloc (.cells cz 45)).alloc (.cells nz 45) := ⟨_, rfl⟩
  have G0 := hid (show Gr w W0 from by rw [hW0]; exact Ch.alloc (Ch.alloc (Ch.alloc (Gr.refl w) _) _) _)
  have B0 := hid (show W0.heap[w.heap.size]? = some (.cells #[.int .i64 s, .int .i64 g] 24 (0, 0)) from by rw [hW0]; exact al_blk (al_blk (MapKept.heap_alloc w _).1 _) _)
  have Z0 := hid (show W0.heap[w.heap.size + 1]? = some (.cells cz 45 (0, 0)) from by rw [hW0]; exact al_blk (al_at _ (by simp)) _)
  have N0 := hid (show W0.heap[w.heap.size + 2]? = some (.cells nz 45 (0, 0)) from by rw [hW0]; exact al_at _ (by simp))
  have HW0 := hid (show w.heap.size + 2 < W0.heap.size from lt_of_block N0.out)
  clear h hps
  go_enter Try.func17, Try.ntmps17
  go_upto_region 7 with (first
    | (go_at_call 37; rw [← hW0]; refine (HO.out _ G0.out).mono ?_; rintro e w1 ⟨oo, co, rfl, o1, g1⟩; have G1 := hid g1; have O1 := hid o1; have B1 := hid (gr_blk B0.out g1); clear o1 g1)
    | (refine wpList_load_row rfl 24 (.tmp 6) rfl w.heap.size rfl _ _ _ _ B1.out Try.underlying24 rfl gid_size ?_)
    | (go_at_call 38; refine (HW.out _ (Gr.trans G0.out G1.out)).mono ?_; rw [HPL.out]; rintro e w2 ⟨rfl, g2⟩; have GA := hid (Gr.trans G1.out g2); have O2 := hid (O1.out.gr g2); clear g2))
  clear hW0
  have hS0 : Scz (w.heap.size + 2) nz (World.drew w2) := ⟨gr_blk N0.out (Ch.drew GA.out)⟩
  have ZV := hid (show (World.drew w2).heap[w.heap.size + 1]? = some (.cells cz 45 (0, 0)) from gr_blk Z0.out (Ch.drew GA.out))
  have GV := hid (show Gr w (World.drew w2) from Ch.drew (Gr.trans G0.out GA.out))
  have HAA := hid (show w.heap.size + 1 < w.heap.size + 2 from by omega)
  refine wp_region_held_drew (S := Scz (w.heap.size + 2) nz) (by kernel_rfl) (by exact hS0) (fun _ => ?_)
  generalize World.drew w2 = V0 at hS0 ZV GV ⊢
  refine takeS_on (i := 0) 44 (v := ?hv6) rfl rfl (by kernel_rfl) (by kernel_rfl) (by kernel_rfl) (fun _ _ _ h => h) (by kernel_rfl) ?hh6 (by exact hS0) ?_
  case hh6 => (intro w' hSw; go_simp; try (with_reducible rfl))
  simp only [Act.put, List.setIfInBounds_toArray, List.set_cons_zero, List.set_cons_succ]
  refine takeS_on (i := 1) 45 (v := ?hv7) rfl rfl (by kernel_rfl) (by kernel_rfl) (by kernel_rfl) (fun _ _ _ h => h) (by kernel_rfl) ?hh7 (by exact hS0) ?_
  case hh7 => (intro w' hSw; refine Eq.trans (exec_row 45 (.tmp 13) rfl _ rfl _ _ _ _ hSw.bx Try.underlying45 rfl cho_size) ?_; with_reducible rfl)
  simp only [Act.put, List.setIfInBounds_toArray, List.set_cons_zero, List.set_cons_succ]
  refine takeS_on (i := 2) 10 (v := ?hv8) rfl rfl (by kernel_rfl) (by kernel_rfl) (by kernel_rfl) (fun _ _ _ h => h) (by kernel_rfl) ?hh8 (by exact hS0) ?_
  case hh8 => (intro w' hSw; go_simp; try (with_reducible rfl))
  simp only [Act.put, List.setIfInBounds_toArray, List.set_cons_zero, List.set_cons_succ]
  refine wpAnyH_ready (rs := [3]) (by kernel_rfl) (by simp) (AllReadyH.cons rfl (fun K hK => ?_) AllReadyH.nil)
  rw [if_pos (by kernel_rfl)]
  refine op_rowC 45 (.tmp 11) (.tmp 45) rfl (w.heap.size + 1) _ rfl rfl _ _ ZV.out cho_size rfl (one_cho _ _ _ _ _ _ _ _ _) ?_
  intro w9 b9 k9
  have hS9 : Scz (w.heap.size + 2) nz w9 := hS0.ch k9 (fun e => by have e1 : (w.heap.size + 2) = w.heap.size + 1 := e; have := HAA.out; omega)
  have B9 := hid b9
  have K9 := hid k9
  clear b9 k9
  refine hK.out _ _ (by exact hS9) (fun _ => ?_)
  clear hK K
  refine takeS_on (i := 4) 12 (v := ?hv9) rfl rfl (by kernel_rfl) (by kernel_rfl) (by kernel_rfl) (fun _ _ _ h => h) (by kernel_rfl) ?hh9 (by exact hS9) ?_
  case hh9 => (intro w' hSw; go_simp; try (with_reducible rfl))
  simp only [Act.put, List.setIfInBounds_toArray]
  refine wpAnyH_done (by kernel_rfl) ?_ _
  go_wp2
  refine bodyPost_ret (results_tct rfl _ _ _ _ rfl (run_loadVar_row _ _ _ _ _ _ _ B9.out Try.underlying45 rfl cho_size)) rfl ?_
  exact ⟨_, none, 0, 0, rfl, Ls.nil _ _ _, (HR.out.gr (Ch.trans (show Ch NoB w V0 from GV.out) K9.out (fun q e => .inr (by have e1 : q = w.heap.size + 1 := e; omega)))).mono (fun _ _ p => .inl p), (Ch.trans (show Ch NoB w V0 from GV.out) K9.out (fun q e => .inr (by have e1 : q = w.heap.size + 1 := e; omega)))⟩

set_option maxHeartbeats 16000000 in
set_option maxRecDepth 40000 in
theorem rsel_walk (P : Nat → Prop) (w : World) (lo : Option Addr) (nl cl : Nat) (cs : List Cn) (s g : Int) (ao : Option Addr) (n cap : Nat) (ps : List Pk) (df : Bool) (dv : Value) (Q : Nat → Prop) (h : Rds P w (.slice lo nl cl) cs) (hps : Ls eP Q w (.slice ao n cap) ps) (N : Nat) (l : List Int) (hPl : ∀ q, P q → q < w.heap.size) (hG : Gd N cs) (hN : N + 16 < 4398046511104) (hk : Gok s g) (hn : n ≤ 16) (hp : ¬ 0 < pls cs s g) (hol : l.length = n) (hor : ∀ o ∈ l, 0 ≤ o ∧ o < (n : Int)) (hO : ∀ W, Gr w W → Calls Try.prog 37 #[.int .i64 (n : Int), dv] W (OrR W n l)) :
    Calls Try.prog 17 #[.slice lo nl cl, .agg #[.int .i64 s, .int .i64 g], .slice ao n cap, .bool df, dv] w (RsR P w (if ps.all (fun p => tzF cs p.ch == 0) = true then selG cs s g ps df (fst1 (gzF cs) ps l) else ⟨-1, false, ⟨cs, false, 0, false, 4, [], 0⟩⟩)) := by
  have HO := hid hO
  have HPL0 := hid hPl
  have HGD := hid hG
  have HWF := hid (hG.wf s g ps hk)
  have HPN := hid hp
  have HOL := hid hol
  have HOR := hid hor
  have HW := hid (fun (W : World) (p : Gr w W) => rwaits_any P W _ cs s g (h.gr p) (hG.bd (by omega)) hG.n)
  have HPL := hid (decide_eq_false hp)
  have HGO := hid (fun (W : World) (p : Gr w W) (ch : Int) (sd : Bool) => rgoes_any (h.gr p) hG.n ch sd)
  obtain ⟨RR, hRR⟩ : ∃ R, R = RsR P w (if ps.all (fun p => tzF cs p.ch == 0) = true then selG cs s g ps df (fst1 (gzF cs) ps l) else ⟨-1, false, ⟨cs, false, 0, false, 4, [], 0⟩⟩) := ⟨_, rfl⟩
  rw [← hRR]
  have HRR := hid hRR
  clear hRR hO hG hp hol hor hk hPl
  have HR := hid h
  have HP := hid hps
  have HL := hid hps.len.1
  obtain ⟨W0, hW0⟩ : ∃ W0, W0 = ((w.alloc (.cells #[.int .i64 s, .int .i64 g] 24)).alloc (.cells cz 45)).alloc (.cells nz 45) := ⟨_, rfl⟩
  have G0 := hid (show Gr w W0 from by rw [hW0]; exact Ch.alloc (Ch.alloc (Ch.alloc (Gr.refl w) _) _) _)
  have B0 := hid (show W0.heap[w.heap.size]? = some (.cells #[.int .i64 s, .int .i64 g] 24 (0, 0)) from by rw [hW0]; exact al_blk (al_blk (MapKept.heap_alloc w _).1 _) _)
  have Z0 := hid (show W0.heap[w.heap.size + 1]? = some (.cells cz 45 (0, 0)) from by rw [hW0]; exact al_blk (al_at _ (by simp)) _)
  have N0 := hid (show W0.heap[w.heap.size + 2]? = some (.cells nz 45 (0, 0)) from by rw [hW0]; exact al_at _ (by simp))
  have HW0 := hid (show w.heap.size + 2 < W0.heap.size from lt_of_block N0.out)
  clear h hps
  go_enter Try.func17, Try.ntmps17
  go_wp2_with (first
    | (go_at_call 37; rw [← hW0]; refine (HO.out _ G0.out).mono ?_; rintro e w1 ⟨oo, co, rfl, o1, g1⟩; have G1 := hid g1; have O1 := hid o1; have B1 := hid (gr_blk B0.out g1); clear o1 g1)
    | (refine wpList_load_row rfl 24 (.tmp 6) rfl w.heap.size rfl _ _ _ _ B1.out Try.underlying24 rfl gid_size ?_)
    | (go_at_call 38; refine (HW.out _ (Gr.trans G0.out G1.out)).mono ?_; rw [HPL.out]; rintro e w2 ⟨rfl, g2⟩; have GA := hid (Gr.trans G1.out g2); have O2 := hid (O1.out.gr g2); clear g2))
  clear hW0 B1 O1
  go_loopg [17] n (fun q i wr => ∃ (j : Nat), j + q = n ∧ i = .int .i64 (j : Int) ∧ (ps.take j).all (fun p => tzF cs p.ch == 0) = true ∧ Gr w2 wr)
  case atStart => exact ⟨0, by omega, rfl, rfl, Gr.refl _⟩
  case round =>
    obtain ⟨j, hjk, rfl, hT, hG⟩ := hrel
    have HT := hid hT
    have HG2 := hid hG
    have HG := hid (Gr.trans GA.out hG)
    clear hT hG
    by_cases hj : j < n
    · obtain ⟨⟨x0, x1, x2⟩, hx⟩ : ∃ x, ps[j]? = some x := ⟨_, List.getElem?_eq_getElem (by rw [← HL.out]; omega)⟩
      obtain ⟨gg, oo, cap', hv, _, hgl, _, hcs⟩ := (HP.out.gr (Gr.trans G0.out HG.out)).get eP_len hx
      injection hv with hv1 hv2 hv3
      subst hv1
      have c0 := hcs 0 _ rfl
      have c1 := hcs 1 _ rfl
      have c2 := hcs 2 _ rfl
      dsimp only [Nat.add_zero] at c0 c1 c2
      have j0 : (0 : Int) ≤ (j : Int) := by omega
      have j1 : (j : Int) < (n : Int) := by omega
      have HX := hid hx
      have HGL := hid hgl
      clear hcs hv2 hv3 hx hgl
      have HTK := hid (take_one HX.out)
      have C0 := hid c0
      have C1 := hid c1
      obtain ⟨z, hz⟩ : ∃ z, z = tzF cs x1 := ⟨_, rfl⟩
      have HZ := hid hz
      have hS0 : Spk gg (oo + j * 3) x0 x1 (World.drew wr) := ⟨C0.out, C1.out, HGL.out⟩
      have GW := hid (show Gr W0 (World.drew wr) from Ch.drew HG.out)
      have GV := hid (Gr.trans G0.out GW.out)
      have GX := hid (show Gr w2 (World.drew wr) from Ch.drew HG2.out)
      clear hz c0 c1 c2
      by_cases ez : z = 0
      · subst ez
        go_upto_region 11 with fail
        refine wp_region_held_drew (S := Spk gg (oo + j * 3) x0 x1) (by kernel_rfl) (by exact hS0) (fun _ => ?_)
        generalize World.drew wr = V0 at hS0 GV GW GX ⊢
        refine takeS_on (i := 0) 53 (v := ?hv14) rfl rfl (by kernel_rfl) (by kernel_rfl) (by kernel_rfl) (fun _ _ _ h => h) (by kernel_rfl) ?hh14 (by exact hS0) ?_
        case hh14 => (intro w' hSw; go_simp; try (with_reducible rfl))
        simp only [Act.put, List.setIfInBounds_toArray, List.set_cons_zero, List.set_cons_succ]
        refine takeS_on (i := 1) 54 (v := ?hv15) rfl rfl (by kernel_rfl) (by kernel_rfl) (by kernel_rfl) (fun _ _ _ h => h) (by kernel_rfl) ?hh15 (by exact hS0) ?_
        case hh15 => (intro w' hSw; go_simp; try (with_reducible rfl))
        simp only [Act.put, List.setIfInBounds_toArray, List.set_cons_zero, List.set_cons_succ]
        refine takeS_on (i := 2) 55 (v := ?hv16) rfl rfl (by kernel_rfl) (by kernel_rfl) (by kernel_rfl) (fun _ _ _ h => h) (by kernel_rfl) ?hh16 (by exact hS0) ?_
        case hh16 => (intro w' hSw; go_simp; try (with_reducible rfl))
        simp only [Act.put, List.setIfInBounds_toArray, List.set_cons_zero, List.set_cons_succ]
        refine takeS_on (i := 3) 56 (v := ?hv17) rfl rfl (by kernel_rfl) (by kernel_rfl) (by kernel_rfl) (fun _ _ _ h => h) (by kernel_rfl) ?hh17 (by exact hS0) ?_
        case hh17 => (intro w' hSw; go_simp; try (with_reducible rfl))
        simp only [Act.put, List.setIfInBounds_toArray, List.set_cons_zero, List.set_cons_succ]
        refine takeS_on (i := 4) 57 (v := ?hv18) rfl rfl (by kernel_rfl) (by kernel_rfl) (by kernel_rfl) (fun _ _ _ h => h) (by kernel_rfl) ?hh18 (by exact hS0) ?_
        case hh18 => (intro w' hSw; go_simp; try (with_reducible rfl))
        simp only [Act.put, List.setIfInBounds_toArray, List.set_cons_zero, List.set_cons_succ]
        refine takeS_on (i := 5) 58 (v := ?hv19) rfl rfl (by kernel_rfl) (by kernel_rfl) (by kernel_rfl) (fun _ _ _ h => h) (by kernel_rfl) ?hh19 (by exact hS0) ?_
        case hh19 => (intro w' hSw; have c0 := hSw.p0; have c1 := hSw.p1; go_simp; try (with_reducible rfl))
        simp only [Act.put, List.setIfInBounds_toArray, List.set_cons_zero, List.set_cons_succ]
        refine takeS_on (i := 6) 59 (v := ?hv20) rfl rfl (by kernel_rfl) (by kernel_rfl) (by kernel_rfl) (fun _ _ _ h => h) (by kernel_rfl) ?hh20 (by exact hS0) ?_
        case hh20 => (intro w' hSw; go_simp; try (with_reducible rfl))
        simp only [Act.put, List.setIfInBounds_toArray, List.set_cons_zero, List.set_cons_succ]
        refine takeS_on (i := 7) 60 (v := ?hv21) rfl rfl (by kernel_rfl) (by kernel_rfl) (by kernel_rfl) (fun _ _ _ h => h) (by kernel_rfl) ?hh21 (by exact hS0) ?_
        case hh21 => (intro w' hSw; go_simp; try (with_reducible rfl))
        simp only [Act.put, List.setIfInBounds_toArray, List.set_cons_zero, List.set_cons_succ]
        refine takeS_on (i := 8) 61 (v := ?hv22) rfl rfl (by kernel_rfl) (by kernel_rfl) (by kernel_rfl) (fun _ _ _ h => h) (by kernel_rfl) ?hh22 (by exact hS0) ?_
        case hh22 => (intro w' hSw; go_simp; try (with_reducible rfl))
        simp only [Act.put, List.setIfInBounds_toArray, List.set_cons_zero, List.set_cons_succ]
        refine takeS_on (i := 9) 62 (v := ?hv23) rfl rfl (by kernel_rfl) (by kernel_rfl) (by kernel_rfl) (fun _ _ _ h => h) (by kernel_rfl) ?hh23 (by exact hS0) ?_
        case hh23 => (intro w' hSw; go_simp; try (with_reducible rfl))
        simp only [Act.put, List.setIfInBounds_toArray, List.set_cons_zero, List.set_cons_succ]
        refine takeS_on (i := 10) 63 (v := ?hv24) rfl rfl (by kernel_rfl) (by kernel_rfl) (by kernel_rfl) (fun _ _ _ h => h) (by kernel_rfl) ?hh24 (by exact hS0) ?_
        case hh24 => (intro w' hSw; have c0 := hSw.p0; have c1 := hSw.p1; go_simp; try (with_reducible rfl))
        simp only [Act.put, List.setIfInBounds_toArray, List.set_cons_zero, List.set_cons_succ]
        refine wpAnyH_ready (rs := [11]) (by kernel_rfl) (by simp) (AllReadyH.cons rfl (fun K hK => ?_) AllReadyH.nil)
        go_simp
        refine (HGO.out _ GV.out x1 x0).mono ?_
        rw [tzF_any, ← HZ.out]
        rintro e w5 ⟨rfl, g5⟩
        have hS1 := hS0.gr g5
        have G5 := hid (Gr.trans GX.out g5)
        clear g5
        refine hK.out _ _ (by exact hS1) (fun _ => ?_)
        clear hK K
        refine takeS_on (i := 12) 52 (v := ?hv25) rfl rfl (by kernel_rfl) (by kernel_rfl) (by kernel_rfl) (fun _ _ _ h => h) (by kernel_rfl) ?hh25 (by exact hS1) ?_
        case hh25 => (intro w' hSw; go_simp; try (with_reducible rfl))
        simp only [Act.put, List.setIfInBounds_toArray, List.set_cons_zero, List.set_cons_succ]
        refine takeS_on (i := 13) 65 (v := ?hv26) rfl rfl (by kernel_rfl) (by kernel_rfl) (by kernel_rfl) (fun _ _ _ h => h) (by kernel_rfl) ?hh26 (by exact hS1) ?_
        case hh26 => (intro w' hSw; go_simp; try (with_reducible rfl))
        simp only [Act.put, List.setIfInBounds_toArray, List.set_cons_zero, List.set_cons_succ]
        refine takeS_on (i := 14) 66 (v := ?hv27) rfl rfl (by kernel_rfl) (by kernel_rfl) (by kernel_rfl) (fun _ _ _ h => h) (by kernel_rfl) ?hh27 (by exact hS1) ?_
        case hh27 => (intro w' hSw; go_simp; try (with_reducible rfl))
        simp only [Act.put, List.setIfInBounds_toArray, List.set_cons_zero, List.set_cons_succ]
        refine takeS_on (i := 15) 18 (v := ?hv28) rfl rfl (by kernel_rfl) (by kernel_rfl) (by kernel_rfl) (fun _ _ _ h => h) (by kernel_rfl) ?hh28 (by exact hS1) ?_
        case hh28 => (intro w' hSw; go_simp; try (with_reducible rfl))
        simp only [Act.put, List.setIfInBounds_toArray, List.set_cons_zero, List.set_cons_succ]
        refine takeS_on (i := 16) 19 (v := ?hv29) rfl rfl (by kernel_rfl) (by kernel_rfl) (by kernel_rfl) (fun _ _ _ h => h) (by kernel_rfl) ?hh29 (by exact hS1) ?_
        case hh29 => (intro w' hSw; go_simp; try (with_reducible rfl))
        simp only [Act.put, List.setIfInBounds_toArray, List.set_cons_zero, List.set_cons_succ]
        refine wpAnyH_done (by kernel_rfl) ?_ _

        go_wp2
        go_roundg (gk - 1)
        case measure => omega
        case rel =>
          refine ⟨j + 1, by omega, ?_, by rw [HTK.out, List.all_append, HT.out]; simp [← HZ.out], G5.out⟩
          first | with_reducible rfl | simp
      · have e1 : (z == 0) = false := by simpa using ez
        have HSEL := hid (show RR = RsR P w ⟨-1, false, ⟨cs, false, 0, false, 4, [], 0⟩⟩ from by
          rw [HRR.out, if_neg]
          rw [Bool.not_eq_true, List.all_eq_false]
          exact ⟨_, List.mem_of_getElem? HX.out, by rw [← HZ.out]; simpa using ez⟩)
        clear ez
        go_upto_region 11 with fail
        refine wp_region_held_drew (S := Spk gg (oo + j * 3) x0 x1) (by kernel_rfl) (by exact hS0) (fun _ => ?_)
        generalize World.drew wr = V0 at hS0 GV GW ⊢
        refine takeS_on (i := 0) 53 (v := ?hv30) rfl rfl (by kernel_rfl) (by kernel_rfl) (by kernel_rfl) (fun _ _ _ h => h) (by kernel_rfl) ?hh30 (by exact hS0) ?_
        case hh30 => (intro w' hSw; go_simp; try (with_reducible rfl))
        simp only [Act.put, List.setIfInBounds_toArray, List.set_cons_zero, List.set_cons_succ]
        refine takeS_on (i := 1) 54 (v := ?hv31) rfl rfl (by kernel_rfl) (by kernel_rfl) (by kernel_rfl) (fun _ _ _ h => h) (by kernel_rfl) ?hh31 (by exact hS0) ?_
        case hh31 => (intro w' hSw; go_simp; try (with_reducible rfl))
        simp only [Act.put, List.setIfInBounds_toArray, List.set_cons_zero, List.set_cons_succ]
        refine takeS_on (i := 2) 55 (v := ?hv32) rfl rfl (by kernel_rfl) (by kernel_rfl) (by kernel_rfl) (fun _ _ _ h => h) (by kernel_rfl) ?hh32 (by exact hS0) ?_
        case hh32 => (intro w' hSw; go_simp; try (with_reducible rfl))
        simp only [Act.put, List.setIfInBounds_toArray, List.set_cons_zero, List.set_cons_succ]
        refine takeS_on (i := 3) 56 (v := ?hv33) rfl rfl (by kernel_rfl) (by kernel_rfl) (by kernel_rfl) (fun _ _ _ h => h) (by kernel_rfl) ?hh33 (by exact hS0) ?_
        case hh33 => (intro w' hSw; go_simp; try (with_reducible rfl))
        simp only [Act.put, List.setIfInBounds_toArray, List.set_cons_zero, List.set_cons_succ]
        refine takeS_on (i := 4) 57 (v := ?hv34) rfl rfl (by kernel_rfl) (by kernel_rfl) (by kernel_rfl) (fun _ _ _ h => h) (by kernel_rfl) ?hh34 (by exact hS0) ?_
        case hh34 => (intro w' hSw; go_simp; try (with_reducible rfl))
        simp only [Act.put, List.setIfInBounds_toArray, List.set_cons_zero, List.set_cons_succ]
        refine takeS_on (i := 5) 58 (v := ?hv35) rfl rfl (by kernel_rfl) (by kernel_rfl) (by kernel_rfl) (fun _ _ _ h => h) (by kernel_rfl) ?hh35 (by exact hS0) ?_
        case hh35 => (intro w' hSw; have c0 := hSw.p0; have c1 := hSw.p1; go_simp; try (with_reducible rfl))
        simp only [Act.put, List.setIfInBounds_toArray, List.set_cons_zero, List.set_cons_succ]
        refine takeS_on (i := 6) 59 (v := ?hv36) rfl rfl (by kernel_rfl) (by kernel_rfl) (by kernel_rfl) (fun _ _ _ h => h) (by kernel_rfl) ?hh36 (by exact hS0) ?_
        case hh36 => (intro w' hSw; go_simp; try (with_reducible rfl))
        simp only [Act.put, List.setIfInBounds_toArray, List.set_cons_zero, List.set_cons_succ]
        refine takeS_on (i := 7) 60 (v := ?hv37) rfl rfl (by kernel_rfl) (by kernel_rfl) (by kernel_rfl) (fun _ _ _ h => h) (by kernel_rfl) ?hh37 (by exact hS0) ?_
        case hh37 => (intro w' hSw; go_simp; try (with_reducible rfl))
        simp only [Act.put, List.setIfInBounds_toArray, List.set_cons_zero, List.set_cons_succ]
        refine takeS_on (i := 8) 61 (v := ?hv38) rfl rfl (by kernel_rfl) (by kernel_rfl) (by kernel_rfl) (fun _ _ _ h => h) (by kernel_rfl) ?hh38 (by exact hS0) ?_
        case hh38 => (intro w' hSw; go_simp; try (with_reducible rfl))
        simp only [Act.put, List.setIfInBounds_toArray, List.set_cons_zero, List.set_cons_succ]
        refine takeS_on (i := 9) 62 (v := ?hv39) rfl rfl (by kernel_rfl) (by kernel_rfl) (by kernel_rfl) (fun _ _ _ h => h) (by kernel_rfl) ?hh39 (by exact hS0) ?_
        case hh39 => (intro w' hSw; go_simp; try (with_reducible rfl))
        simp only [Act.put, List.setIfInBounds_toArray, List.set_cons_zero, List.set_cons_succ]
        refine takeS_on (i := 10) 63 (v := ?hv40) rfl rfl (by kernel_rfl) (by kernel_rfl) (by kernel_rfl) (fun _ _ _ h => h) (by kernel_rfl) ?hh40 (by exact hS0) ?_
        case hh40 => (intro w' hSw; have c0 := hSw.p0; have c1 := hSw.p1; go_simp; try (with_reducible rfl))
        simp only [Act.put, List.setIfInBounds_toArray, List.set_cons_zero, List.set_cons_succ]
        refine wpAnyH_ready (rs := [11]) (by kernel_rfl) (by simp) (AllReadyH.cons rfl (fun K hK => ?_) AllReadyH.nil)
        go_simp
        refine (HGO.out _ GV.out x1 x0).mono ?_
        rw [tzF_any, ← HZ.out]
        rintro e w5 ⟨rfl, g5⟩
        have hS1 := hS0.gr g5
        have G5 := hid (Gr.trans GW.out g5)
        clear g5
        refine hK.out _ _ (by exact hS1) (fun _ => ?_)
        clear hK K
        refine takeS_on (i := 12) 52 (v := ?hv41) rfl rfl (by kernel_rfl) (by kernel_rfl) (by kernel_rfl) (fun _ _ _ h => h) (by kernel_rfl) ?hh41 (by exact hS1) ?_
        case hh41 => (intro w' hSw; go_simp; try (with_reducible rfl))
        simp only [Act.put, List.setIfInBounds_toArray, List.set_cons_zero, List.set_cons_succ]
        refine takeS_on (i := 13) 65 (v := ?hv42) rfl rfl (by kernel_rfl) (by kernel_rfl) (by kernel_rfl) (fun _ _ _ h => h) (by kernel_rfl) ?hh42 (by exact hS1) ?_
        case hh42 => (intro w' hSw; go_simp; try (with_reducible rfl))
        simp only [Act.put, List.setIfInBounds_toArray, List.set_cons_zero, List.set_cons_succ]
        refine takeS_on (i := 14) 66 (v := ?hv43) rfl rfl (by kernel_rfl) (by kernel_rfl) (by kernel_rfl) (fun _ _ _ h => h) (by kernel_rfl) ?hh43 (by exact hS1) ?_
        case hh43 => (intro w' hSw; go_simp; try (with_reducible rfl))
        simp only [Act.put, List.setIfInBounds_toArray, List.set_cons_zero, List.set_cons_succ]
        refine takeS_on (i := 15) 18 (v := ?hv44) rfl rfl (by kernel_rfl) (by kernel_rfl) (by kernel_rfl) (fun _ _ _ h => h) (by kernel_rfl) ?hh44 (by exact hS1) ?_
        case hh44 => (intro w' hSw; go_simp; try (with_reducible rfl))
        simp only [Act.put, List.setIfInBounds_toArray, List.set_cons_zero, List.set_cons_succ]
        refine takeS_on (i := 16) 19 (v := ?hv45) rfl rfl (by kernel_rfl) (by kernel_rfl) (by kernel_rfl) (fun _ _ _ h => h) (by kernel_rfl) ?hh45 (by exact hS1) ?_
        case hh45 => (intro w' hSw; go_simp; try (with_reducible rfl))
        simp only [Act.put, List.setIfInBounds_toArray, List.set_cons_zero, List.set_cons_succ]
        refine wpAnyH_done (by kernel_rfl) ?_ _

        have q5 := cell_of (gr_blk N0.out G5.out) 5
        have f5 := frozen_of (gr_blk N0.out G5.out) 5
        have l5 := lt_of_block (gr_blk N0.out G5.out)
        simp at q5
        go_upto_region 14 with fail
        obtain ⟨W7, hW7⟩ : ∃ W, W = w5.setCell ⟨w.heap.size + 2, 5, none⟩ (.int .i64 4) := ⟨_, rfl⟩
        have N7 := hid (show W7.heap[w.heap.size + 2]? = some (.cells #[.int .i64 (-1), .bool false, .bool false, .int .i64 0, .bool false, .int .i64 4, .slice none 0 0] 45 (0, 0)) from by rw [hW7]; simpa using setCell_block (gr_blk N0.out G5.out) 5 (.int .i64 4))
        have K7 := hid (show Ch (Only (w.heap.size + 2)) w5 W7 from by rw [hW7]; exact (Ch.refl _ _).own _ _)
        rw [← hW7]
        clear hW7 q5 f5
        have ZW := hid ((K7.out.block _ (lt_of_block (gr_blk Z0.out G5.out)) (fun e => by have e1 : w.heap.size + 1 = w.heap.size + 2 := e; omega)).trans (gr_blk Z0.out G5.out))
        have hS0 : Scz (w.heap.size + 2) #[.int .i64 (-1), .bool false, .bool false, .int .i64 0, .bool false, .int .i64 4, .slice none 0 0] (World.drew W7) := ⟨N7.out⟩
        have ZV := hid (show (World.drew W7).heap[w.heap.size + 1]? = some (.cells cz 45 (0, 0)) from ZW.out)
        have GV := hid (show Gr w (World.drew W7) from Ch.drew (Ch.trans (show Ch NoB w w5 from Gr.trans G0.out G5.out) K7.out (fun q e => .inr (by have e1 : q = w.heap.size + 2 := e; omega))))
        have HAA := hid (show w.heap.size + 1 < w.heap.size + 2 from by omega)
        refine wp_region_held_drew (S := Scz (w.heap.size + 2) #[.int .i64 (-1), .bool false, .bool false, .int .i64 0, .bool false, .int .i64 4, .slice none 0 0]) (by kernel_rfl) (by exact hS0) (fun _ => ?_)
        generalize World.drew W7 = V0 at hS0 ZV GV ⊢
        refine takeS_on (i := 0) 71 (v := ?hv10) rfl rfl (by kernel_rfl) (by kernel_rfl) (by kernel_rfl) (fun _ _ _ h => h) (by kernel_rfl) ?hh10 (by exact hS0) ?_
        case hh10 => (intro w' hSw; go_simp; try (with_reducible rfl))
        simp only [Act.put, List.setIfInBounds_toArray, List.set_cons_zero, List.set_cons_succ]
        refine takeS_on (i := 1) 72 (v := ?hv11) rfl rfl (by kernel_rfl) (by kernel_rfl) (by kernel_rfl) (fun _ _ _ h => h) (by kernel_rfl) ?hh11 (by exact hS0) ?_
        case hh11 => (intro w' hSw; refine Eq.trans (exec_row 45 (.tmp 13) rfl _ rfl _ _ _ _ hSw.bx Try.underlying45 rfl cho_size) ?_; with_reducible rfl)
        simp only [Act.put, List.setIfInBounds_toArray, List.set_cons_zero, List.set_cons_succ]
        refine takeS_on (i := 2) 10 (v := ?hv12) rfl rfl (by kernel_rfl) (by kernel_rfl) (by kernel_rfl) (fun _ _ _ h => h) (by kernel_rfl) ?hh12 (by exact hS0) ?_
        case hh12 => (intro w' hSw; go_simp; try (with_reducible rfl))
        simp only [Act.put, List.setIfInBounds_toArray, List.set_cons_zero, List.set_cons_succ]
        refine wpAnyH_ready (rs := [3]) (by kernel_rfl) (by simp) (AllReadyH.cons rfl (fun K hK => ?_) AllReadyH.nil)
        rw [if_pos (by kernel_rfl)]
        refine op_rowC 45 (.tmp 11) (.tmp 72) rfl (w.heap.size + 1) _ rfl rfl _ _ ZV.out cho_size rfl (one_cho _ _ _ _ _ _ _ _ _) ?_
        intro w9 b9 k9
        have hS9 : Scz (w.heap.size + 2) #[.int .i64 (-1), .bool false, .bool false, .int .i64 0, .bool false, .int .i64 4, .slice none 0 0] w9 := hS0.ch k9 (fun e => by have e1 : (w.heap.size + 2) = w.heap.size + 1 := e; have := HAA.out; omega)
        have B9 := hid b9
        have K9 := hid k9
        clear b9 k9
        refine hK.out _ _ (by exact hS9) (fun _ => ?_)
        clear hK K
        refine takeS_on (i := 4) 12 (v := ?hv13) rfl rfl (by kernel_rfl) (by kernel_rfl) (by kernel_rfl) (fun _ _ _ h => h) (by kernel_rfl) ?hh13 (by exact hS9) ?_
        case hh13 => (intro w' hSw; go_simp; try (with_reducible rfl))
        simp only [Act.put, List.setIfInBounds_toArray]
        refine wpAnyH_done (by kernel_rfl) ?_ _
        go_wp2
        refine bodyPost_ret (results_tct rfl _ _ _ _ rfl (run_loadVar_row _ _ _ _ _ _ _ B9.out Try.underlying45 rfl cho_size)) rfl ?_
        rw [HSEL.out]
        exact ⟨_, none, 0, 0, rfl, Ls.nil _ _ _, (HR.out.gr (Ch.trans (show Ch NoB w V0 from GV.out) K9.out (fun q e => .inr (by have e1 : q = w.heap.size + 1 := e; omega)))).mono (fun _ _ p => .inl p), (Ch.trans (show Ch NoB w V0 from GV.out) K9.out (fun q e => .inr (by have e1 : q = w.heap.size + 1 := e; omega)))⟩

    · have jn : ¬ (j : Int) < (n : Int) := by omega
      have HSL := hid (show RR = RsR P w (selG cs s g ps df (fst1 (gzF cs) ps l)) from by
        rw [HRR.out, if_pos]
        have := HT.out
        rwa [List.take_of_length_le (by rw [← HL.out]; omega)] at this)
      have OW := hid (O2.out.gr HG2.out)
      have GB := hid HG.out
      clear HG HG2 HT O2 GA G1 HW
      go_wp2_with fail
      go_loopg [0, 20] n (fun q v0 i wr => ∃ (j : Nat), j + q = n ∧ v0 = .slice lo nl cl ∧ i = .int .i64 (j : Int) ∧ (l.take j).find? (fun o => match ps[o.toNat]? with | some p => gzF cs p.ch p.sd | none => false) = none ∧ Gr W0 wr ∧ Ls eI (0 ≤ ·) wr (.slice oo n co) l)
      case atStart => exact ⟨0, by omega, rfl, rfl, rfl, GB.out, OW.out.lst.mono (fun _ _ _ => Nat.zero_le _)⟩
      case round =>
        clear hjk hj jn OW GB
        obtain ⟨j, hjk, rfl, rfl, hF, hG, hOl⟩ := hrel
        have HF := hid hF
        have HG := hid hG
        have HOL2 := hid hOl
        clear hF hG hOl
        by_cases hj : j < n
        · obtain ⟨k, hy⟩ : ∃ x, l[j]? = some x := ⟨_, List.getElem?_eq_getElem (by rw [HOL.out]; exact hj)⟩
          obtain ⟨gq, oq, capq, hvq, _, hgq, _, hcq⟩ := HOL2.out.get eI_len hy
          injection hvq with hvq1 hvq2 hvq3
          subst hvq1
          have hoo := HOR.out k (List.mem_of_getElem? hy)
          obtain ⟨k, rfl⟩ : ∃ i : Nat, k = (i : Int) := ⟨k.toNat, by omega⟩
          have hkn : k < n := by omega
          obtain ⟨⟨x0, x1, x2⟩, hx⟩ : ∃ x, ps[k]? = some x := ⟨_, List.getElem?_eq_getElem (by rw [← HL.out]; omega)⟩
          obtain ⟨gg, op, cap', hv, _, hgl, _, hcs⟩ := (HP.out.gr (Gr.trans G0.out HG.out)).get eP_len hx
          injection hv with hv1 hv2 hv3
          subst hv1
          have d0 := hcq 0 _ rfl
          simp only [Nat.mul_one, Nat.add_zero] at d0
          have c0 := hcs 0 _ rfl
          have c1 := hcs 1 _ rfl
          have c2 := hcs 2 _ rfl
          dsimp only [Nat.add_zero] at c0 c1 c2
          have j0 : (0 : Int) ≤ (j : Int) := by omega
          have j1 : (j : Int) < (n : Int) := by omega
          have k0 : (0 : Int) ≤ (k : Int) := by omega
          have k1 : (k : Int) < (n : Int) := by omega
          have HY := hid hy
          have HX := hid hx
          have HKT := hid (show (k : Int).toNat = k from Int.toNat_natCast k)
          obtain ⟨z, hz⟩ : ∃ z, z = gzF cs x1 x0 := ⟨_, rfl⟩
          have HZ := hid hz
          obtain ⟨W4, hW4⟩ : ∃ W, W = wr.alloc (.cells #[.bool x0, .int .i64 x1, .int .i64 x2] 39) := ⟨_, rfl⟩
          have G4 := hid (show Gr wr W4 from by rw [hW4]; exact Ch.alloc (Gr.refl wr) _)
          have PK4 := hid (show W4.heap[wr.heap.size]? = some (.cells #[.bool x0, .int .i64 x1, .int .i64 x2] 39 (0, 0)) from by rw [hW4]; exact (MapKept.heap_alloc wr _).1)
          have HGQ := hid hgq
          have HD0 := hid d0
          clear hcq hvq2 hvq3 hy hgq hcs hv2 hv3 hx hgl hoo hz
          cases z with
          | false =>
            have HF2 := hid (fst1_step HF.out HY.out (by rw [HKT.out]; exact HX.out) HZ.out.symm)
            go_wp2_with (go_at_call 39; rw [← hW4]; refine (HGO.out _ (Gr.trans G0.out (Gr.trans HG.out G4.out)) x1 x0).mono ?_; rw [tzF_any]; change ∀ _ _, _ = Ending.returned (.tuple #[.bool (gzF cs x1 x0), _]) ∧ _ → _; rw [← HZ.out]; rintro e w5 ⟨rfl, g5⟩; have G5 := hid (Gr.trans G4.out g5); clear g5)
            go_roundg (gk - 1)
            case measure => omega
            case rel =>
              refine ⟨j + 1, by omega, rfl, ?_, HF2.out, Gr.trans HG.out G5.out, HOL2.out.gr G5.out⟩
              first | with_reducible rfl | simp
          | true =>
            have HFS := hid (fst1_yes HF.out HY.out (by rw [HKT.out]; exact HX.out) HZ.out.symm)
            have HPL := hid (show ∀ q, P q → q < w.heap.size from HPL0.out)
            cases x0 with
            | true =>
              have HSEL := hid (show RR = RsR P w (selG cs s g ps df (k : Int)) from by rw [HSL.out, HFS.out])
              have HSF := hid (show selG cs s g ps df (k : Int) = ⟨(k : Int), false, sndF cs x1 s g x2⟩ from by unfold selG; rw [if_neg (by omega), HKT.out, HX.out]; rfl)
              clear HFS HSL
              go_upto_region 22 with (go_at_call 39; rw [← hW4]; refine (HGO.out _ (Gr.trans G0.out (Gr.trans HG.out G4.out)) x1 true).mono ?_; rw [tzF_any]; change ∀ _ _, _ = Ending.returned (.tuple #[.bool (gzF cs x1 true), _]) ∧ _ → _; rw [← HZ.out]; rintro e w5 ⟨rfl, g5⟩; have G5 := hid (Gr.trans HG.out (Gr.trans G4.out g5)); have PK := hid (gr_blk PK4.out g5); have d9 := ((Gr.trans G4.out g5).cell HGQ.out).trans HD0.out; clear g5)
              obtain ⟨W6, hW6⟩ : ∃ W, W = w5.alloc (.cells #[.int .i64 (k : Int), .bool false, .bool false, .int .i64 0, .bool false, .int .i64 0, .slice none 0 0] 45) := ⟨_, rfl⟩
              have G6 := hid (show Gr W0 W6 from by rw [hW6]; exact Ch.alloc G5.out _)
              have A6 := hid (show W6.heap[w5.heap.size]? = some (.cells #[.int .i64 (k : Int), .bool false, .bool false, .int .i64 0, .bool false, .int .i64 0, .slice none 0 0] 45 (0, 0)) from by rw [hW6]; exact (MapKept.heap_alloc w5 _).1)
              have B6 := hid (gr_blk B0.out G6.out)
              have P6 := hid (gr_blk PK.out (show Gr w5 W6 from by rw [hW6]; exact Ch.alloc (Gr.refl w5) _))
              obtain ⟨o, ho⟩ : ∃ o, o = (sndF cs x1 s g x2) := ⟨_, rfl⟩
              have HO2 := hid ho
              have HSN := hid (rsend_any _ W6 _ cs N x1 s g x2 (HR.out.gr (Gr.trans G0.out G6.out)) HGD.out (by omega))
              rw [← ho] at HSN
              have HER := hid (show o.er = 0 from by rw [ho]; exact snd_er HPN.out _ _)
              rw [hW6] at HSN B6 P6
              clear ho
              have q0 := cell_of P6.out 0
              have q1 := cell_of P6.out 1
              have q2 := cell_of P6.out 2
              have lq := lt_of_block P6.out
              simp at q0 q1 q2 lq
              go_upto_region 25 with (first
                | (refine wpList_load_row rfl 24 (.tmp 6) rfl w.heap.size rfl _ _ _ _ B6.out Try.underlying24 rfl gid_size ?_)
                | (go_at_call 40; refine HSN.out.mono ?_; rintro e w7 ⟨v7, mo, mn, mc, rfl, lk7, rd7, g7⟩; rw [← hW6] at lk7 rd7 g7; have LK7 := hid lk7; have RD7 := hid rd7; have G7 := hid g7; have A7 := hid (gr_blk A6.out g7); have f2 := frozen_of (gr_blk A6.out g7) 2; have f3 := frozen_of (gr_blk A6.out g7) 3; have f4 := frozen_of (gr_blk A6.out g7) 4; have f5 := frozen_of (gr_blk A6.out g7) 5; have f6 := frozen_of (gr_blk A6.out g7) 6; have d2 := cell_of (gr_blk A6.out g7) 2; have d3 := cell_of (gr_blk A6.out g7) 3; have d4 := cell_of (gr_blk A6.out g7) 4; have d5 := cell_of (gr_blk A6.out g7) 5; have d6 := cell_of (gr_blk A6.out g7) 6; have ld := lt_of_block (gr_blk A6.out g7); simp at d2 d3 d4 d5 d6; clear lk7 rd7 g7))
              obtain ⟨W8, hW8⟩ : ∃ W, W = ((((w7.setCell ⟨w5.heap.size, 2, none⟩ (.bool o.wa)).setCell ⟨w5.heap.size, 3, none⟩ (.int .i64 o.va)).setCell ⟨w5.heap.size, 4, none⟩ (.bool o.ok)).setCell ⟨w5.heap.size, 5, none⟩ (.int .i64 o.tr)).setCell ⟨w5.heap.size, 6, none⟩ (.slice mo mn mc) := ⟨_, rfl⟩
              have N8 := hid (show W8.heap[w5.heap.size]? = some (.cells #[.int .i64 (k : Int), .bool false, .bool o.wa, .int .i64 o.va, .bool o.ok, .int .i64 o.tr, .slice mo mn mc] 45 (0, 0)) from by rw [hW8]; exact set7 A7.out)
              have K8 := hid (show Ch (Only w5.heap.size) w7 W8 from by rw [hW8]; exact set7_ch _ _ _ _ _ _ _)
              rw [← hW8]
              clear hW8 hW6 q0 q1 q2 lq d2 d3 d4 d5 d6 f2 f3 f4 f5 f6 ld
              have S5 := hid (show w.heap.size + 3 ≤ w5.heap.size from by have h1 := G5.out.size; have h2 := lt_of_block N0.out; omega)
              have S6 := hid (show w5.heap.size < W6.heap.size from lt_of_block A6.out)
              have GF := hid (show Gr w W8 from Ch.trans (show Ch NoB w w7 from Gr.trans (Gr.trans G0.out G6.out) G7.out) K8.out (fun q e => .inr (by have e1 : q = w5.heap.size := e; have := S5.out; omega)))
              have ZW := hid ((K8.out.block _ (lt_of_block (gr_blk Z0.out (Gr.trans G6.out G7.out))) (fun e => by have e1 : w.heap.size + 1 = w5.heap.size := e; have := S5.out; omega)).trans (gr_blk Z0.out (Gr.trans G6.out G7.out)))
              have LK8 := hid (show Ls eK (fun q => W6.heap.size ≤ q) W8 (.slice mo mn mc) o.ks from LK7.out.ch K8.out (fun q _ hq e => by have e1 : q = w5.heap.size := e; have := S6.out; omega))
              have RD8 := hid (show Rds (fun q => (P q ∨ w.heap.size ≤ q) ∧ q ≠ w5.heap.size ∧ q ≠ w.heap.size + 1) W8 v7 o.cs from (RD7.out.mono (Q := fun q => (P q ∨ w.heap.size ≤ q) ∧ q ≠ w5.heap.size ∧ q ≠ w.heap.size + 1) (fun q hq hp => by
                rcases hp with hp | hp
                · have h1 := HPL.out q hp
                  have := S5.out
                  exact ⟨.inl hp, by omega, by omega⟩
                · have := S6.out
                  have := S5.out
                  exact ⟨.inr (by omega), by omega, by omega⟩)).ch K8.out (fun q _ hq e => hq.2.1 e))
              have hS0 : Scz w5.heap.size #[.int .i64 (k : Int), .bool false, .bool o.wa, .int .i64 o.va, .bool o.ok, .int .i64 o.tr, .slice mo mn mc] (World.drew W8) := ⟨N8.out⟩
              have ZV := hid (show (World.drew W8).heap[w.heap.size + 1]? = some (.cells cz 45 (0, 0)) from ZW.out)
              have GV := hid (show Gr w (World.drew W8) from Ch.drew GF.out)
              have HAA := hid (show w.heap.size + 1 < w5.heap.size from by have := S5.out; omega)
              have LKV := hid (LK8.out.gr (Ch.drew (Gr.refl W8)))
              have RDV := hid (RD8.out.gr (Ch.drew (Gr.refl W8)))
              have HS6 := hid (show w.heap.size + 3 ≤ W6.heap.size from by have := S5.out; have := S6.out; omega)
              refine wp_region_held_drew (S := Scz w5.heap.size #[.int .i64 (k : Int), .bool false, .bool o.wa, .int .i64 o.va, .bool o.ok, .int .i64 o.tr, .slice mo mn mc]) (by kernel_rfl) (by exact hS0) (fun _ => ?_)
              generalize World.drew W8 = V0 at hS0 ZV GV LKV RDV ⊢
              refine takeS_on (i := 0) 126 (v := ?hv46) rfl rfl (by kernel_rfl) (by kernel_rfl) (by kernel_rfl) (fun _ _ _ h => h) (by kernel_rfl) ?hh46 (by exact hS0) ?_
              case hh46 => (intro w' hSw; go_simp; try (with_reducible rfl))
              simp only [Act.put, List.setIfInBounds_toArray, List.set_cons_zero, List.set_cons_succ]
              refine takeS_on (i := 1) 127 (v := ?hv47) rfl rfl (by kernel_rfl) (by kernel_rfl) (by kernel_rfl) (fun _ _ _ h => h) (by kernel_rfl) ?hh47 (by exact hS0) ?_
              case hh47 => (intro w' hSw; refine Eq.trans (exec_row 45 (.tmp 24) rfl _ rfl _ _ _ _ hSw.bx Try.underlying45 rfl cho_size) ?_; with_reducible rfl)
              simp only [Act.put, List.setIfInBounds_toArray, List.set_cons_zero, List.set_cons_succ]
              refine takeS_on (i := 2) 10 (v := ?hv48) rfl rfl (by kernel_rfl) (by kernel_rfl) (by kernel_rfl) (fun _ _ _ h => h) (by kernel_rfl) ?hh48 (by exact hS0) ?_
              case hh48 => (intro w' hSw; go_simp; try (with_reducible rfl))
              simp only [Act.put, List.setIfInBounds_toArray, List.set_cons_zero, List.set_cons_succ]
              refine wpAnyH_ready (rs := [3]) (by kernel_rfl) (by simp) (AllReadyH.cons rfl (fun K hK => ?_) AllReadyH.nil)
              rw [if_pos (by kernel_rfl)]
              refine op_rowC 45 (.tmp 11) (.tmp 127) rfl (w.heap.size + 1) _ rfl rfl _ _ ZV.out cho_size rfl (one_cho _ _ _ _ _ _ _ _ _) ?_
              intro w9 b9 k9
              have hS9 : Scz w5.heap.size #[.int .i64 (k : Int), .bool false, .bool o.wa, .int .i64 o.va, .bool o.ok, .int .i64 o.tr, .slice mo mn mc] w9 := hS0.ch k9 (fun e => by have e1 : w5.heap.size = w.heap.size + 1 := e; have := HAA.out; omega)
              have B9 := hid b9
              have K9 := hid k9
              clear b9 k9
              refine hK.out _ _ (by exact hS9) (fun _ => ?_)
              clear hK K
              refine takeS_on (i := 4) 12 (v := ?hv49) rfl rfl (by kernel_rfl) (by kernel_rfl) (by kernel_rfl) (fun _ _ _ h => h) (by kernel_rfl) ?hh49 (by exact hS9) ?_
              case hh49 => (intro w' hSw; go_simp; try (with_reducible rfl))
              simp only [Act.put, List.setIfInBounds_toArray]
              refine wpAnyH_done (by kernel_rfl) ?_ _
              go_wp2
              refine bodyPost_ret (results_tct rfl _ _ _ _ rfl (run_loadVar_row _ _ _ _ _ _ _ B9.out Try.underlying45 rfl cho_size)) rfl ?_
              rw [HSEL.out, HSF.out, ← HO2.out]
              refine ⟨v7, mo, mn, mc, by dsimp only; rw [HER.out]; rfl, ?_, ?_, (Ch.trans (show Ch NoB w V0 from GV.out) K9.out (fun q e => .inr (by have e1 : q = w.heap.size + 1 := e; omega)))⟩
              · dsimp only
                exact (LKV.out.ch K9.out (fun q _ hq e => by have e1 : q = w.heap.size + 1 := e; have := HS6.out; omega)).mono (fun q _ hq => by have := HS6.out; omega)
              · dsimp only
                exact (RDV.out.ch K9.out (fun q _ hq e => hq.2.2 e)).mono (fun q _ hq => hq.1)

            | false =>
              have HSEL := hid (show RR = RsR P w (selG cs s g ps df (k : Int)) from by rw [HSL.out, HFS.out])
              have HSF := hid (show selG cs s g ps df (k : Int) = ⟨(k : Int), false, rcvF cs x1 s g⟩ from by unfold selG; rw [if_neg (by omega), HKT.out, HX.out]; rfl)
              clear HFS HSL
              go_upto_region 22 with (go_at_call 39; rw [← hW4]; refine (HGO.out _ (Gr.trans G0.out (Gr.trans HG.out G4.out)) x1 false).mono ?_; rw [tzF_any]; change ∀ _ _, _ = Ending.returned (.tuple #[.bool (gzF cs x1 false), _]) ∧ _ → _; rw [← HZ.out]; rintro e w5 ⟨rfl, g5⟩; have G5 := hid (Gr.trans HG.out (Gr.trans G4.out g5)); have PK := hid (gr_blk PK4.out g5); have d9 := ((Gr.trans G4.out g5).cell HGQ.out).trans HD0.out; clear g5)
              obtain ⟨W6, hW6⟩ : ∃ W, W = w5.alloc (.cells #[.int .i64 (k : Int), .bool false, .bool false, .int .i64 0, .bool false, .int .i64 0, .slice none 0 0] 45) := ⟨_, rfl⟩
              have G6 := hid (show Gr W0 W6 from by rw [hW6]; exact Ch.alloc G5.out _)
              have A6 := hid (show W6.heap[w5.heap.size]? = some (.cells #[.int .i64 (k : Int), .bool false, .bool false, .int .i64 0, .bool false, .int .i64 0, .slice none 0 0] 45 (0, 0)) from by rw [hW6]; exact (MapKept.heap_alloc w5 _).1)
              have B6 := hid (gr_blk B0.out G6.out)
              have P6 := hid (gr_blk PK.out (show Gr w5 W6 from by rw [hW6]; exact Ch.alloc (Gr.refl w5) _))
              obtain ⟨o, ho⟩ : ∃ o, o = (rcvF cs x1 s g) := ⟨_, rfl⟩
              have HO2 := hid ho
              have HSN := hid (rrecv_any _ W6 _ cs N x1 s g (HR.out.gr (Gr.trans G0.out G6.out)) HGD.out (by omega))
              rw [← ho] at HSN
              have HER := hid (show o.er = 0 from by rw [ho]; exact rcv_er HPN.out _)
              rw [hW6] at HSN B6 P6
              clear ho
              have q0 := cell_of P6.out 0
              have q1 := cell_of P6.out 1
              have q2 := cell_of P6.out 2
              have lq := lt_of_block P6.out
              simp at q0 q1 q2 lq
              go_upto_region 25 with (first
                | (refine wpList_load_row rfl 24 (.tmp 6) rfl w.heap.size rfl _ _ _ _ B6.out Try.underlying24 rfl gid_size ?_)
                | (go_at_call 41; refine HSN.out.mono ?_; rintro e w7 ⟨v7, mo, mn, mc, rfl, lk7, rd7, g7⟩; rw [← hW6] at lk7 rd7 g7; have LK7 := hid lk7; have RD7 := hid rd7; have G7 := hid g7; have A7 := hid (gr_blk A6.out g7); have f2 := frozen_of (gr_blk A6.out g7) 2; have f3 := frozen_of (gr_blk A6.out g7) 3; have f4 := frozen_of (gr_blk A6.out g7) 4; have f5 := frozen_of (gr_blk A6.out g7) 5; have f6 := frozen_of (gr_blk A6.out g7) 6; have d2 := cell_of (gr_blk A6.out g7) 2; have d3 := cell_of (gr_blk A6.out g7) 3; have d4 := cell_of (gr_blk A6.out g7) 4; have d5 := cell_of (gr_blk A6.out g7) 5; have d6 := cell_of (gr_blk A6.out g7) 6; have ld := lt_of_block (gr_blk A6.out g7); simp at d2 d3 d4 d5 d6; clear lk7 rd7 g7))
              obtain ⟨W8, hW8⟩ : ∃ W, W = ((((w7.setCell ⟨w5.heap.size, 2, none⟩ (.bool o.wa)).setCell ⟨w5.heap.size, 3, none⟩ (.int .i64 o.va)).setCell ⟨w5.heap.size, 4, none⟩ (.bool o.ok)).setCell ⟨w5.heap.size, 5, none⟩ (.int .i64 o.tr)).setCell ⟨w5.heap.size, 6, none⟩ (.slice mo mn mc) := ⟨_, rfl⟩
              have N8 := hid (show W8.heap[w5.heap.size]? = some (.cells #[.int .i64 (k : Int), .bool false, .bool o.wa, .int .i64 o.va, .bool o.ok, .int .i64 o.tr, .slice mo mn mc] 45 (0, 0)) from by rw [hW8]; exact set7 A7.out)
              have K8 := hid (show Ch (Only w5.heap.size) w7 W8 from by rw [hW8]; exact set7_ch _ _ _ _ _ _ _)
              rw [← hW8]
              clear hW8 hW6 q0 q1 q2 lq d2 d3 d4 d5 d6 f2 f3 f4 f5 f6 ld
              have S5 := hid (show w.heap.size + 3 ≤ w5.heap.size from by have h1 := G5.out.size; have h2 := lt_of_block N0.out; omega)
              have S6 := hid (show w5.heap.size < W6.heap.size from lt_of_block A6.out)
              have GF := hid (show Gr w W8 from Ch.trans (show Ch NoB w w7 from Gr.trans (Gr.trans G0.out G6.out) G7.out) K8.out (fun q e => .inr (by have e1 : q = w5.heap.size := e; have := S5.out; omega)))
              have ZW := hid ((K8.out.block _ (lt_of_block (gr_blk Z0.out (Gr.trans G6.out G7.out))) (fun e => by have e1 : w.heap.size + 1 = w5.heap.size := e; have := S5.out; omega)).trans (gr_blk Z0.out (Gr.trans G6.out G7.out)))
              have LK8 := hid (show Ls eK (fun q => W6.heap.size ≤ q) W8 (.slice mo mn mc) o.ks from LK7.out.ch K8.out (fun q _ hq e => by have e1 : q = w5.heap.size := e; have := S6.out; omega))
              have RD8 := hid (show Rds (fun q => (P q ∨ w.heap.size ≤ q) ∧ q ≠ w5.heap.size ∧ q ≠ w.heap.size + 1) W8 v7 o.cs from (RD7.out.mono (Q := fun q => (P q ∨ w.heap.size ≤ q) ∧ q ≠ w5.heap.size ∧ q ≠ w.heap.size + 1) (fun q hq hp => by
                rcases hp with hp | hp
                · have h1 := HPL.out q hp
                  have := S5.out
                  exact ⟨.inl hp, by omega, by omega⟩
                · have := S6.out
                  have := S5.out
                  exact ⟨.inr (by omega), by omega, by omega⟩)).ch K8.out (fun q _ hq e => hq.2.1 e))
              have hS0 : Scz w5.heap.size #[.int .i64 (k : Int), .bool false, .bool o.wa, .int .i64 o.va, .bool o.ok, .int .i64 o.tr, .slice mo mn mc] (World.drew W8) := ⟨N8.out⟩
              have ZV := hid (show (World.drew W8).heap[w.heap.size + 1]? = some (.cells cz 45 (0, 0)) from ZW.out)
              have GV := hid (show Gr w (World.drew W8) from Ch.drew GF.out)
              have HAA := hid (show w.heap.size + 1 < w5.heap.size from by have := S5.out; omega)
              have LKV := hid (LK8.out.gr (Ch.drew (Gr.refl W8)))
              have RDV := hid (RD8.out.gr (Ch.drew (Gr.refl W8)))
              have HS6 := hid (show w.heap.size + 3 ≤ W6.heap.size from by have := S5.out; have := S6.out; omega)
              refine wp_region_held_drew (S := Scz w5.heap.size #[.int .i64 (k : Int), .bool false, .bool o.wa, .int .i64 o.va, .bool o.ok, .int .i64 o.tr, .slice mo mn mc]) (by kernel_rfl) (by exact hS0) (fun _ => ?_)
              generalize World.drew W8 = V0 at hS0 ZV GV LKV RDV ⊢
              refine takeS_on (i := 0) 126 (v := ?hv50) rfl rfl (by kernel_rfl) (by kernel_rfl) (by kernel_rfl) (fun _ _ _ h => h) (by kernel_rfl) ?hh50 (by exact hS0) ?_
              case hh50 => (intro w' hSw; go_simp; try (with_reducible rfl))
              simp only [Act.put, List.setIfInBounds_toArray, List.set_cons_zero, List.set_cons_succ]
              refine takeS_on (i := 1) 127 (v := ?hv51) rfl rfl (by kernel_rfl) (by kernel_rfl) (by kernel_rfl) (fun _ _ _ h => h) (by kernel_rfl) ?hh51 (by exact hS0) ?_
              case hh51 => (intro w' hSw; refine Eq.trans (exec_row 45 (.tmp 24) rfl _ rfl _ _ _ _ hSw.bx Try.underlying45 rfl cho_size) ?_; with_reducible rfl)
              simp only [Act.put, List.setIfInBounds_toArray, List.set_cons_zero, List.set_cons_succ]
              refine takeS_on (i := 2) 10 (v := ?hv52) rfl rfl (by kernel_rfl) (by kernel_rfl) (by kernel_rfl) (fun _ _ _ h => h) (by kernel_rfl) ?hh52 (by exact hS0) ?_
              case hh52 => (intro w' hSw; go_simp; try (with_reducible rfl))
              simp only [Act.put, List.setIfInBounds_toArray, List.set_cons_zero, List.set_cons_succ]
              refine wpAnyH_ready (rs := [3]) (by kernel_rfl) (by simp) (AllReadyH.cons rfl (fun K hK => ?_) AllReadyH.nil)
              rw [if_pos (by kernel_rfl)]
              refine op_rowC 45 (.tmp 11) (.tmp 127) rfl (w.heap.size + 1) _ rfl rfl _ _ ZV.out cho_size rfl (one_cho _ _ _ _ _ _ _ _ _) ?_
              intro w9 b9 k9
              have hS9 : Scz w5.heap.size #[.int .i64 (k : Int), .bool false, .bool o.wa, .int .i64 o.va, .bool o.ok, .int .i64 o.tr, .slice mo mn mc] w9 := hS0.ch k9 (fun e => by have e1 : w5.heap.size = w.heap.size + 1 := e; have := HAA.out; omega)
              have B9 := hid b9
              have K9 := hid k9
              clear b9 k9
              refine hK.out _ _ (by exact hS9) (fun _ => ?_)
              clear hK K
              refine takeS_on (i := 4) 12 (v := ?hv53) rfl rfl (by kernel_rfl) (by kernel_rfl) (by kernel_rfl) (fun _ _ _ h => h) (by kernel_rfl) ?hh53 (by exact hS9) ?_
              case hh53 => (intro w' hSw; go_simp; try (with_reducible rfl))
              simp only [Act.put, List.setIfInBounds_toArray]
              refine wpAnyH_done (by kernel_rfl) ?_ _
              go_wp2
              refine bodyPost_ret (results_tct rfl _ _ _ _ rfl (run_loadVar_row _ _ _ _ _ _ _ B9.out Try.underlying45 rfl cho_size)) rfl ?_
              rw [HSEL.out, HSF.out, ← HO2.out]
              refine ⟨v7, mo, mn, mc, by dsimp only; rw [HER.out]; rfl, ?_, ?_, (Ch.trans (show Ch NoB w V0 from GV.out) K9.out (fun q e => .inr (by have e1 : q = w.heap.size + 1 := e; omega)))⟩
              · dsimp only
                exact (LKV.out.ch K9.out (fun q _ hq e => by have e1 : q = w.heap.size + 1 := e; have := HS6.out; omega)).mono (fun q _ hq => by have := HS6.out; omega)
              · dsimp only
                exact (RDV.out.ch K9.out (fun q _ hq e => hq.2.2 e)).mono (fun q _ hq => hq.1)

        · have jn : ¬ (j : Int) < (n : Int) := by omega
          have HFN := hid (show fst1 (gzF cs) ps l = -1 from by have := HF.out; rw [List.take_of_length_le (by rw [HOL.out]; omega)] at this; unfold fst1; exact congrArg (fun x : Option Int => x.getD (-1)) this)
          have q5 := cell_of (gr_blk N0.out HG.out) 1
          have f5 := frozen_of (gr_blk N0.out HG.out) 1
          have l5 := lt_of_block (gr_blk N0.out HG.out)
          simp at q5
          cases df with
          | true =>
            have HSEL := hid (show RR = RsR P w ⟨-1, true, ⟨cs, false, 0, false, 0, [], 0⟩⟩ from by rw [HSL.out, HFN.out]; rfl)
            go_upto_region 28 with fail
            obtain ⟨W7, hW7⟩ : ∃ W, W = World.setCell wr ⟨w.heap.size + 2, 1, none⟩ (.bool true) := ⟨_, rfl⟩
            have N7 := hid (show W7.heap[w.heap.size + 2]? = some (.cells #[.int .i64 (-1), .bool true, .bool false, .int .i64 0, .bool false, .int .i64 0, .slice none 0 0] 45 (0, 0)) from by rw [hW7]; simpa using setCell_block (gr_blk N0.out HG.out) 1 (.bool true))
            have K7 := hid (show Ch (Only (w.heap.size + 2)) wr W7 from by rw [hW7]; exact (Ch.refl _ _).own _ _)
            rw [← hW7]
            clear hW7 q5 f5
            have ZW := hid ((K7.out.block _ (lt_of_block (gr_blk Z0.out HG.out)) (fun e => by have e1 : w.heap.size + 1 = w.heap.size + 2 := e; omega)).trans (gr_blk Z0.out HG.out))
            have hS0 : Scz (w.heap.size + 2) #[.int .i64 (-1), .bool true, .bool false, .int .i64 0, .bool false, .int .i64 0, .slice none 0 0] (World.drew W7) := ⟨N7.out⟩
            have ZV := hid (show (World.drew W7).heap[w.heap.size + 1]? = some (.cells cz 45 (0, 0)) from ZW.out)
            have GV := hid (show Gr w (World.drew W7) from Ch.drew (Ch.trans (show Ch NoB w wr from Gr.trans G0.out HG.out) K7.out (fun q e => .inr (by have e1 : q = w.heap.size + 2 := e; omega))))
            have HAA := hid (show w.heap.size + 1 < w.heap.size + 2 from by omega)

            refine wp_region_held_drew (S := Scz (w.heap.size + 2) #[.int .i64 (-1), .bool true, .bool false, .int .i64 0, .bool false, .int .i64 0, .slice none 0 0]) (by kernel_rfl) (by exact hS0) (fun _ => ?_)
            generalize World.drew W7 = V0 at hS0 ZV GV ⊢
            refine takeS_on (i := 0) 130 (v := ?hv54) rfl rfl (by kernel_rfl) (by kernel_rfl) (by kernel_rfl) (fun _ _ _ h => h) (by kernel_rfl) ?hh54 (by exact hS0) ?_
            case hh54 => (intro w' hSw; go_simp; try (with_reducible rfl))
            simp only [Act.put, List.setIfInBounds_toArray, List.set_cons_zero, List.set_cons_succ]
            refine takeS_on (i := 1) 131 (v := ?hv55) rfl rfl (by kernel_rfl) (by kernel_rfl) (by kernel_rfl) (fun _ _ _ h => h) (by kernel_rfl) ?hh55 (by exact hS0) ?_
            case hh55 => (intro w' hSw; refine Eq.trans (exec_row 45 (.tmp 13) rfl _ rfl _ _ _ _ hSw.bx Try.underlying45 rfl cho_size) ?_; with_reducible rfl)
            simp only [Act.put, List.setIfInBounds_toArray, List.set_cons_zero, List.set_cons_succ]
            refine takeS_on (i := 2) 10 (v := ?hv56) rfl rfl (by kernel_rfl) (by kernel_rfl) (by kernel_rfl) (fun _ _ _ h => h) (by kernel_rfl) ?hh56 (by exact hS0) ?_
            case hh56 => (intro w' hSw; go_simp; try (with_reducible rfl))
            simp only [Act.put, List.setIfInBounds_toArray, List.set_cons_zero, List.set_cons_succ]
            refine wpAnyH_ready (rs := [3]) (by kernel_rfl) (by simp) (AllReadyH.cons rfl (fun K hK => ?_) AllReadyH.nil)
            rw [if_pos (by kernel_rfl)]
            refine op_rowC 45 (.tmp 11) (.tmp 131) rfl (w.heap.size + 1) _ rfl rfl _ _ ZV.out cho_size rfl (one_cho _ _ _ _ _ _ _ _ _) ?_
            intro w9 b9 k9
            have hS9 : Scz (w.heap.size + 2) #[.int .i64 (-1), .bool true, .bool false, .int .i64 0, .bool false, .int .i64 0, .slice none 0 0] w9 := hS0.ch k9 (fun e => by have e1 : (w.heap.size + 2) = w.heap.size + 1 := e; have := HAA.out; omega)
            have B9 := hid b9
            have K9 := hid k9
            clear b9 k9
            refine hK.out _ _ (by exact hS9) (fun _ => ?_)
            clear hK K
            refine takeS_on (i := 4) 12 (v := ?hv57) rfl rfl (by kernel_rfl) (by kernel_rfl) (by kernel_rfl) (fun _ _ _ h => h) (by kernel_rfl) ?hh57 (by exact hS9) ?_
            case hh57 => (intro w' hSw; go_simp; try (with_reducible rfl))
            simp only [Act.put, List.setIfInBounds_toArray]
            refine wpAnyH_done (by kernel_rfl) ?_ _
            go_wp2
            refine bodyPost_ret (results_tct rfl _ _ _ _ rfl (run_loadVar_row _ _ _ _ _ _ _ B9.out Try.underlying45 rfl cho_size)) rfl ?_
            rw [HSEL.out]
            exact ⟨_, none, 0, 0, rfl, Ls.nil _ _ _, (HR.out.gr (Ch.trans (show Ch NoB w V0 from GV.out) K9.out (fun q e => .inr (by have e1 : q = w.heap.size + 1 := e; omega)))).mono (fun _ _ p => .inl p), (Ch.trans (show Ch NoB w V0 from GV.out) K9.out (fun q e => .inr (by have e1 : q = w.heap.size + 1 := e; omega)))⟩

          | false =>
            have HSEL := hid (show RR = RsR P w ⟨-1, false, ⟨wfF cs s g ps n, true, 0, false, 0, [], 0⟩⟩ from by rw [HSL.out, HFN.out, HL.out]; rfl)
            have GB := hid HG.out
            clear q5 f5 l5 HG HF HSL HFN HOL2
            go_wp2_with fail
            go_loopg [0, 25] n (fun q v0 i wr => ∃ (j : Nat), j + q = n ∧ i = .int .i64 (j : Int) ∧ Rds (fun q => P q ∨ W0.heap.size ≤ q) wr v0 (wfF cs s g ps j) ∧ Gr W0 wr)
            case atStart => exact ⟨0, by omega, rfl, (HR.out.gr (Gr.trans G0.out GB.out)).mono (fun _ _ p => .inl p), GB.out⟩
            case round =>
              clear hjk hj jn GB
              obtain ⟨j, hjk, rfl, hR, hG⟩ := hrel
              have RJ := hid hR
              have HG := hid hG
              have BJ := hid (gr_blk B0.out HG.out)
              clear hR hG
              by_cases hj : j < n
              · obtain ⟨⟨x0, x1, x2⟩, hx⟩ : ∃ x, ps[j]? = some x := ⟨_, List.getElem?_eq_getElem (by rw [← HL.out]; omega)⟩
                obtain ⟨gg, oo, cap', hv, _, hgl, _, hcs⟩ := (HP.out.gr (Gr.trans G0.out HG.out)).get eP_len hx
                injection hv with hv1 hv2 hv3
                subst hv1
                have c0 := hcs 0 _ rfl
                have c1 := hcs 1 _ rfl
                have c2 := hcs 2 _ rfl
                dsimp only [Nat.add_zero] at c0 c1 c2
                have j0 : (0 : Int) ≤ (j : Int) := by omega
                have j1 : (j : Int) < (n : Int) := by omega
                have HX := hid hx
                have HGL := hid hgl
                clear hcs hv2 hv3 hx hgl
                have C0 := hid c0
                have C1 := hid c1
                cases x0 with
                | true =>
                  have HSD := hid (show true = true from rfl)
                  have lgg := HGL.out
                  go_upto_region 35 with (refine wpList_load_row rfl 24 (.tmp 6) rfl w.heap.size rfl _ _ _ _ BJ.out Try.underlying24 rfl gid_size ?_)
                  have HY := hid (show wtF (wfF cs s g ps j) x1 s g (j : Int) x2 true = wfF cs s g ps (j + 1) from by rw [wfF_step HX.out])
                  obtain ⟨W6, hW6⟩ : ∃ W, W = wr.alloc (.cells #[.int .i64 s, .int .i64 g, .int .i64 (j : Int), .int .i64 x2] 95) := ⟨_, rfl⟩
                  have G6 := hid (show Gr wr W6 from by rw [hW6]; exact Ch.alloc (Gr.refl wr) _)
                  have A6 := hid (show W6.heap[wr.heap.size]? = some (.cells #[.int .i64 s, .int .i64 g, .int .i64 (j : Int), .int .i64 x2] 95 (0, 0)) from by rw [hW6]; exact (MapKept.heap_alloc wr _).1)
                  rw [← hW6]
                  clear hW6
                  have hS0 : Spw gg (oo + j * 3) true x1 wr.heap.size #[.int .i64 s, .int .i64 g, .int .i64 (j : Int), .int .i64 x2] (World.drew W6) := ⟨Spk.gr (Spk.mk (by rw [HSD.out]; exact C0.out) C1.out HGL.out) (Ch.drew G6.out), A6.out⟩
                  have GW := hid (show Gr W0 (World.drew W6) from Gr.trans HG.out (Ch.drew G6.out))
                  have HWT := hid (rwait_any _ (World.drew W6) u0 (wfF cs s g ps j) (N + j) x1 s g (j : Int) x2 true (RJ.out.gr (Ch.drew G6.out)) (HWF.out j) (by omega))
                  rw [HSD.out] at hS0 HWT HY
                  refine wp_region_held_drew (S := Spw gg (oo + j * 3) true x1 wr.heap.size #[.int .i64 s, .int .i64 g, .int .i64 (j : Int), .int .i64 x2]) (by kernel_rfl) (by exact hS0) (fun _ => ?_)
                  generalize World.drew W6 = V0 at hS0 GW HWT ⊢
                  refine takeS_on (i := 0) 153 (v := ?hv58) rfl rfl (by kernel_rfl) (by kernel_rfl) (by kernel_rfl) (fun _ _ _ h => h) (by kernel_rfl) ?hh58 (by exact hS0) ?_
                  case hh58 => (intro w' hSw; go_simp; try (with_reducible rfl))
                  simp only [Act.put, List.setIfInBounds_toArray, List.set_cons_zero, List.set_cons_succ]
                  refine takeS_on (i := 1) 154 (v := ?hv59) rfl rfl (by kernel_rfl) (by kernel_rfl) (by kernel_rfl) (fun _ _ _ h => h) (by kernel_rfl) ?hh59 (by exact hS0) ?_
                  case hh59 => (intro w' hSw; go_simp; try (with_reducible rfl))
                  simp only [Act.put, List.setIfInBounds_toArray, List.set_cons_zero, List.set_cons_succ]
                  refine takeS_on (i := 2) 155 (v := ?hv60) rfl rfl (by kernel_rfl) (by kernel_rfl) (by kernel_rfl) (fun _ _ _ h => h) (by kernel_rfl) ?hh60 (by exact hS0) ?_
                  case hh60 => (intro w' hSw; go_simp; try (with_reducible rfl))
                  simp only [Act.put, List.setIfInBounds_toArray, List.set_cons_zero, List.set_cons_succ]
                  refine takeS_on (i := 3) 156 (v := ?hv61) rfl rfl (by kernel_rfl) (by kernel_rfl) (by kernel_rfl) (fun _ _ _ h => h) (by kernel_rfl) ?hh61 (by exact hS0) ?_
                  case hh61 => (intro w' hSw; go_simp; try (with_reducible rfl))
                  simp only [Act.put, List.setIfInBounds_toArray, List.set_cons_zero, List.set_cons_succ]
                  refine takeS_on (i := 4) 157 (v := ?hv62) rfl rfl (by kernel_rfl) (by kernel_rfl) (by kernel_rfl) (fun _ _ _ h => h) (by kernel_rfl) ?hh62 (by exact hS0) ?_
                  case hh62 => (intro w' hSw; go_simp; try (with_reducible rfl))
                  simp only [Act.put, List.setIfInBounds_toArray, List.set_cons_zero, List.set_cons_succ]
                  refine takeS_on (i := 5) 158 (v := ?hv63) rfl rfl (by kernel_rfl) (by kernel_rfl) (by kernel_rfl) (fun _ _ _ h => h) (by kernel_rfl) ?hh63 (by exact hS0) ?_
                  case hh63 => (intro w' hSw; have c0 := hSw.k.p0; have c1 := hSw.k.p1; go_simp; try (with_reducible rfl))
                  simp only [Act.put, List.setIfInBounds_toArray, List.set_cons_zero, List.set_cons_succ]
                  refine takeS_on (i := 6) 159 (v := ?hv64) rfl rfl (by kernel_rfl) (by kernel_rfl) (by kernel_rfl) (fun _ _ _ h => h) (by kernel_rfl) ?hh64 (by exact hS0) ?_
                  case hh64 => (intro w' hSw; refine Eq.trans (exec_row 95 (.tmp 26) rfl _ rfl _ _ _ _ hSw.bx Try.underlying95 rfl wtr_size) ?_; with_reducible rfl)
                  simp only [Act.put, List.setIfInBounds_toArray, List.set_cons_zero, List.set_cons_succ]
                  refine takeS_on (i := 7) 160 (v := ?hv65) rfl rfl (by kernel_rfl) (by kernel_rfl) (by kernel_rfl) (fun _ _ _ h => h) (by kernel_rfl) ?hh65 (by exact hS0) ?_
                  case hh65 => (intro w' hSw; go_simp; try (with_reducible rfl))
                  simp only [Act.put, List.setIfInBounds_toArray, List.set_cons_zero, List.set_cons_succ]
                  refine takeS_on (i := 8) 161 (v := ?hv66) rfl rfl (by kernel_rfl) (by kernel_rfl) (by kernel_rfl) (fun _ _ _ h => h) (by kernel_rfl) ?hh66 (by exact hS0) ?_
                  case hh66 => (intro w' hSw; go_simp; try (with_reducible rfl))
                  simp only [Act.put, List.setIfInBounds_toArray, List.set_cons_zero, List.set_cons_succ]
                  refine takeS_on (i := 9) 162 (v := ?hv67) rfl rfl (by kernel_rfl) (by kernel_rfl) (by kernel_rfl) (fun _ _ _ h => h) (by kernel_rfl) ?hh67 (by exact hS0) ?_
                  case hh67 => (intro w' hSw; go_simp; try (with_reducible rfl))
                  simp only [Act.put, List.setIfInBounds_toArray, List.set_cons_zero, List.set_cons_succ]
                  refine takeS_on (i := 10) 163 (v := ?hv68) rfl rfl (by kernel_rfl) (by kernel_rfl) (by kernel_rfl) (fun _ _ _ h => h) (by kernel_rfl) ?hh68 (by exact hS0) ?_
                  case hh68 => (intro w' hSw; go_simp; try (with_reducible rfl))
                  simp only [Act.put, List.setIfInBounds_toArray, List.set_cons_zero, List.set_cons_succ]
                  refine takeS_on (i := 11) 164 (v := ?hv69) rfl rfl (by kernel_rfl) (by kernel_rfl) (by kernel_rfl) (fun _ _ _ h => h) (by kernel_rfl) ?hh69 (by exact hS0) ?_
                  case hh69 => (intro w' hSw; have c0 := hSw.k.p0; have c1 := hSw.k.p1; go_simp; try (with_reducible rfl))
                  simp only [Act.put, List.setIfInBounds_toArray, List.set_cons_zero, List.set_cons_succ]
                  refine wpAnyH_ready (rs := [12]) (by kernel_rfl) (by simp) (AllReadyH.cons rfl (fun K hK => ?_) AllReadyH.nil)
                  go_simp
                  refine HWT.out.mono ?_
                  rintro e w5 ⟨v5, rfl, rd5, g5⟩
                  have hS1 := hS0.gr g5
                  have RD5 := hid rd5
                  have G5 := hid (Gr.trans GW.out g5)
                  have SV := hid GW.out.size
                  clear g5 rd5
                  refine hK.out _ _ (by exact hS1) (fun _ => ?_)
                  clear hK K
                  refine takeS_on (i := 13) 152 (v := ?hv70) rfl rfl (by kernel_rfl) (by kernel_rfl) (by kernel_rfl) (fun _ _ _ h => h) (by kernel_rfl) ?hh70 (by exact hS1) ?_
                  case hh70 => (intro w' hSw; go_simp; try (with_reducible rfl))
                  simp only [Act.put, List.setIfInBounds_toArray, List.set_cons_zero, List.set_cons_succ]
                  refine takeS_on (i := 14) 166 (v := ?hv71) rfl rfl (by kernel_rfl) (by kernel_rfl) (by kernel_rfl) (fun _ _ _ h => h) (by kernel_rfl) ?hh71 (by exact hS1) ?_
                  case hh71 => (intro w' hSw; go_simp; try (with_reducible rfl))
                  simp only [Act.put, List.setIfInBounds_toArray, List.set_cons_zero, List.set_cons_succ]
                  refine takeS_on (i := 15) 167 (v := ?hv72) rfl rfl (by kernel_rfl) (by kernel_rfl) (by kernel_rfl) (fun _ _ _ h => h) (by kernel_rfl) ?hh72 (by exact hS1) ?_
                  case hh72 => (intro w' hSw; go_simp; try (with_reducible rfl))
                  simp only [Act.put, List.setIfInBounds_toArray, List.set_cons_zero, List.set_cons_succ]
                  refine takeS_on (i := 16) 0 (v := ?hv73) rfl rfl (by kernel_rfl) (by kernel_rfl) (by kernel_rfl) (fun _ _ _ h => h) (by kernel_rfl) ?hh73 (by exact hS1) ?_
                  case hh73 => (intro w' hSw; go_simp; try (with_reducible rfl))
                  simp only [Act.put, List.setIfInBounds_toArray, List.set_cons_zero]
                  refine wpAnyH_done (by kernel_rfl) ?_ _
                  go_wp2
                  go_roundg (gk - 1)
                  case measure => omega
                  case rel =>
                    refine ⟨j + 1, by omega, ?_, ?_, G5.out⟩
                    · first | with_reducible rfl | simp
                    · rw [← HY.out]
                      exact RD5.out.mono (fun q _ hq => by
                        rcases hq with hq | hq
                        · exact hq
                        · exact .inr (Nat.le_trans SV.out hq))

                | false =>
                  have HSD := hid (show false = false from rfl)
                  have lgg := HGL.out
                  go_upto_region 35 with (refine wpList_load_row rfl 24 (.tmp 6) rfl w.heap.size rfl _ _ _ _ BJ.out Try.underlying24 rfl gid_size ?_)
                  have HY := hid (show wtF (wfF cs s g ps j) x1 s g (j : Int) 0 false = wfF cs s g ps (j + 1) from by rw [wfF_step HX.out]; unfold wtF; cases cAt (wfF cs s g ps j) x1 <;> rfl)
                  obtain ⟨W6, hW6⟩ : ∃ W, W = wr.alloc (.cells #[.int .i64 s, .int .i64 g, .int .i64 (j : Int), .int .i64 0] 95) := ⟨_, rfl⟩
                  have G6 := hid (show Gr wr W6 from by rw [hW6]; exact Ch.alloc (Gr.refl wr) _)
                  have A6 := hid (show W6.heap[wr.heap.size]? = some (.cells #[.int .i64 s, .int .i64 g, .int .i64 (j : Int), .int .i64 0] 95 (0, 0)) from by rw [hW6]; exact (MapKept.heap_alloc wr _).1)
                  rw [← hW6]
                  clear hW6
                  have hS0 : Spw gg (oo + j * 3) false x1 wr.heap.size #[.int .i64 s, .int .i64 g, .int .i64 (j : Int), .int .i64 0] (World.drew W6) := ⟨Spk.gr (Spk.mk (by rw [HSD.out]; exact C0.out) C1.out HGL.out) (Ch.drew G6.out), A6.out⟩
                  have GW := hid (show Gr W0 (World.drew W6) from Gr.trans HG.out (Ch.drew G6.out))
                  have HWT := hid (rwait_any _ (World.drew W6) u0 (wfF cs s g ps j) (N + j) x1 s g (j : Int) 0 false (RJ.out.gr (Ch.drew G6.out)) (HWF.out j) (by omega))
                  rw [HSD.out] at hS0 HWT HY
                  refine wp_region_held_drew (S := Spw gg (oo + j * 3) false x1 wr.heap.size #[.int .i64 s, .int .i64 g, .int .i64 (j : Int), .int .i64 0]) (by kernel_rfl) (by exact hS0) (fun _ => ?_)
                  generalize World.drew W6 = V0 at hS0 GW HWT ⊢
                  refine takeS_on (i := 0) 153 (v := ?hv74) rfl rfl (by kernel_rfl) (by kernel_rfl) (by kernel_rfl) (fun _ _ _ h => h) (by kernel_rfl) ?hh74 (by exact hS0) ?_
                  case hh74 => (intro w' hSw; go_simp; try (with_reducible rfl))
                  simp only [Act.put, List.setIfInBounds_toArray, List.set_cons_zero, List.set_cons_succ]
                  refine takeS_on (i := 1) 154 (v := ?hv75) rfl rfl (by kernel_rfl) (by kernel_rfl) (by kernel_rfl) (fun _ _ _ h => h) (by kernel_rfl) ?hh75 (by exact hS0) ?_
                  case hh75 => (intro w' hSw; go_simp; try (with_reducible rfl))
                  simp only [Act.put, List.setIfInBounds_toArray, List.set_cons_zero, List.set_cons_succ]
                  refine takeS_on (i := 2) 155 (v := ?hv76) rfl rfl (by kernel_rfl) (by kernel_rfl) (by kernel_rfl) (fun _ _ _ h => h) (by kernel_rfl) ?hh76 (by exact hS0) ?_
                  case hh76 => (intro w' hSw; go_simp; try (with_reducible rfl))
                  simp only [Act.put, List.setIfInBounds_toArray, List.set_cons_zero, List.set_cons_succ]
                  refine takeS_on (i := 3) 156 (v := ?hv77) rfl rfl (by kernel_rfl) (by kernel_rfl) (by kernel_rfl) (fun _ _ _ h => h) (by kernel_rfl) ?hh77 (by exact hS0) ?_
                  case hh77 => (intro w' hSw; go_simp; try (with_reducible rfl))
                  simp only [Act.put, List.setIfInBounds_toArray, List.set_cons_zero, List.set_cons_succ]
                  refine takeS_on (i := 4) 157 (v := ?hv78) rfl rfl (by kernel_rfl) (by kernel_rfl) (by kernel_rfl) (fun _ _ _ h => h) (by kernel_rfl) ?hh78 (by exact hS0) ?_
                  case hh78 => (intro w' hSw; go_simp; try (with_reducible rfl))
                  simp only [Act.put, List.setIfInBounds_toArray, List.set_cons_zero, List.set_cons_succ]
                  refine takeS_on (i := 5) 158 (v := ?hv79) rfl rfl (by kernel_rfl) (by kernel_rfl) (by kernel_rfl) (fun _ _ _ h => h) (by kernel_rfl) ?hh79 (by exact hS0) ?_
                  case hh79 => (intro w' hSw; have c0 := hSw.k.p0; have c1 := hSw.k.p1; go_simp; try (with_reducible rfl))
                  simp only [Act.put, List.setIfInBounds_toArray, List.set_cons_zero, List.set_cons_succ]
                  refine takeS_on (i := 6) 159 (v := ?hv80) rfl rfl (by kernel_rfl) (by kernel_rfl) (by kernel_rfl) (fun _ _ _ h => h) (by kernel_rfl) ?hh80 (by exact hS0) ?_
                  case hh80 => (intro w' hSw; refine Eq.trans (exec_row 95 (.tmp 26) rfl _ rfl _ _ _ _ hSw.bx Try.underlying95 rfl wtr_size) ?_; with_reducible rfl)
                  simp only [Act.put, List.setIfInBounds_toArray, List.set_cons_zero, List.set_cons_succ]
                  refine takeS_on (i := 7) 160 (v := ?hv81) rfl rfl (by kernel_rfl) (by kernel_rfl) (by kernel_rfl) (fun _ _ _ h => h) (by kernel_rfl) ?hh81 (by exact hS0) ?_
                  case hh81 => (intro w' hSw; go_simp; try (with_reducible rfl))
                  simp only [Act.put, List.setIfInBounds_toArray, List.set_cons_zero, List.set_cons_succ]
                  refine takeS_on (i := 8) 161 (v := ?hv82) rfl rfl (by kernel_rfl) (by kernel_rfl) (by kernel_rfl) (fun _ _ _ h => h) (by kernel_rfl) ?hh82 (by exact hS0) ?_
                  case hh82 => (intro w' hSw; go_simp; try (with_reducible rfl))
                  simp only [Act.put, List.setIfInBounds_toArray, List.set_cons_zero, List.set_cons_succ]
                  refine takeS_on (i := 9) 162 (v := ?hv83) rfl rfl (by kernel_rfl) (by kernel_rfl) (by kernel_rfl) (fun _ _ _ h => h) (by kernel_rfl) ?hh83 (by exact hS0) ?_
                  case hh83 => (intro w' hSw; go_simp; try (with_reducible rfl))
                  simp only [Act.put, List.setIfInBounds_toArray, List.set_cons_zero, List.set_cons_succ]
                  refine takeS_on (i := 10) 163 (v := ?hv84) rfl rfl (by kernel_rfl) (by kernel_rfl) (by kernel_rfl) (fun _ _ _ h => h) (by kernel_rfl) ?hh84 (by exact hS0) ?_
                  case hh84 => (intro w' hSw; go_simp; try (with_reducible rfl))
                  simp only [Act.put, List.setIfInBounds_toArray, List.set_cons_zero, List.set_cons_succ]
                  refine takeS_on (i := 11) 164 (v := ?hv85) rfl rfl (by kernel_rfl) (by kernel_rfl) (by kernel_rfl) (fun _ _ _ h => h) (by kernel_rfl) ?hh85 (by exact hS0) ?_
                  case hh85 => (intro w' hSw; have c0 := hSw.k.p0; have c1 := hSw.k.p1; go_simp; try (with_reducible rfl))
                  simp only [Act.put, List.setIfInBounds_toArray, List.set_cons_zero, List.set_cons_succ]
                  refine wpAnyH_ready (rs := [12]) (by kernel_rfl) (by simp) (AllReadyH.cons rfl (fun K hK => ?_) AllReadyH.nil)
                  go_simp
                  refine HWT.out.mono ?_
                  rintro e w5 ⟨v5, rfl, rd5, g5⟩
                  have hS1 := hS0.gr g5
                  have RD5 := hid rd5
                  have G5 := hid (Gr.trans GW.out g5)
                  have SV := hid GW.out.size
                  clear g5 rd5
                  refine hK.out _ _ (by exact hS1) (fun _ => ?_)
                  clear hK K
                  refine takeS_on (i := 13) 152 (v := ?hv86) rfl rfl (by kernel_rfl) (by kernel_rfl) (by kernel_rfl) (fun _ _ _ h => h) (by kernel_rfl) ?hh86 (by exact hS1) ?_
                  case hh86 => (intro w' hSw; go_simp; try (with_reducible rfl))
                  simp only [Act.put, List.setIfInBounds_toArray, List.set_cons_zero, List.set_cons_succ]
                  refine takeS_on (i := 14) 166 (v := ?hv87) rfl rfl (by kernel_rfl) (by kernel_rfl) (by kernel_rfl) (fun _ _ _ h => h) (by kernel_rfl) ?hh87 (by exact hS1) ?_
                  case hh87 => (intro w' hSw; go_simp; try (with_reducible rfl))
                  simp only [Act.put, List.setIfInBounds_toArray, List.set_cons_zero, List.set_cons_succ]
                  refine takeS_on (i := 15) 167 (v := ?hv88) rfl rfl (by kernel_rfl) (by kernel_rfl) (by kernel_rfl) (fun _ _ _ h => h) (by kernel_rfl) ?hh88 (by exact hS1) ?_
                  case hh88 => (intro w' hSw; go_simp; try (with_reducible rfl))
                  simp only [Act.put, List.setIfInBounds_toArray, List.set_cons_zero, List.set_cons_succ]
                  refine takeS_on (i := 16) 0 (v := ?hv89) rfl rfl (by kernel_rfl) (by kernel_rfl) (by kernel_rfl) (fun _ _ _ h => h) (by kernel_rfl) ?hh89 (by exact hS1) ?_
                  case hh89 => (intro w' hSw; go_simp; try (with_reducible rfl))
                  simp only [Act.put, List.setIfInBounds_toArray, List.set_cons_zero]
                  refine wpAnyH_done (by kernel_rfl) ?_ _
                  go_wp2
                  go_roundg (gk - 1)
                  case measure => omega
                  case rel =>
                    refine ⟨j + 1, by omega, ?_, ?_, G5.out⟩
                    · first | with_reducible rfl | simp
                    · rw [← HY.out]
                      exact RD5.out.mono (fun q _ hq => by
                        rcases hq with hq | hq
                        · exact hq
                        · exact .inr (Nat.le_trans SV.out hq))

              · have jn : ¬ (j : Int) < (n : Int) := by omega
                have e9 : j = n := by omega
                subst e9
                have q5 := cell_of (gr_blk N0.out HG.out) 2
                have f5 := frozen_of (gr_blk N0.out HG.out) 2
                have l5 := lt_of_block (gr_blk N0.out HG.out)
                simp at q5
                go_upto_region 37 with fail
                obtain ⟨W7, hW7⟩ : ∃ W, W = World.setCell wr ⟨w.heap.size + 2, 2, none⟩ (.bool true) := ⟨_, rfl⟩
                have N7 := hid (show W7.heap[w.heap.size + 2]? = some (.cells #[.int .i64 (-1), .bool false, .bool true, .int .i64 0, .bool false, .int .i64 0, .slice none 0 0] 45 (0, 0)) from by rw [hW7]; simpa using setCell_block (gr_blk N0.out HG.out) 2 (.bool true))
                have K7 := hid (show Ch (Only (w.heap.size + 2)) wr W7 from by rw [hW7]; exact (Ch.refl _ _).own _ _)
                rw [← hW7]
                clear hW7 q5 f5
                have ZW := hid ((K7.out.block _ (lt_of_block (gr_blk Z0.out HG.out)) (fun e => by have e1 : w.heap.size + 1 = w.heap.size + 2 := e; omega)).trans (gr_blk Z0.out HG.out))
                have hS0 : Scz (w.heap.size + 2) #[.int .i64 (-1), .bool false, .bool true, .int .i64 0, .bool false, .int .i64 0, .slice none 0 0] (World.drew W7) := ⟨N7.out⟩
                have ZV := hid (show (World.drew W7).heap[w.heap.size + 1]? = some (.cells cz 45 (0, 0)) from ZW.out)
                have GV := hid (show Gr w (World.drew W7) from Ch.drew (Ch.trans (show Ch NoB w wr from Gr.trans G0.out HG.out) K7.out (fun q e => .inr (by have e1 : q = w.heap.size + 2 := e; omega))))
                have HAA := hid (show w.heap.size + 1 < w.heap.size + 2 from by omega)

                have RDV := hid ((RJ.out.ch K7.out (fun q _ hq e => by
                  have e1 : q = w.heap.size + 2 := e
                  have := HW0.out
                  rcases hq with hq | hq
                  · have := HPL0.out q hq; omega
                  · omega)).gr (Ch.drew (Gr.refl W7)))
                refine wp_region_held_drew (S := Scz (w.heap.size + 2) #[.int .i64 (-1), .bool false, .bool true, .int .i64 0, .bool false, .int .i64 0, .slice none 0 0]) (by kernel_rfl) (by exact hS0) (fun _ => ?_)
                generalize World.drew W7 = V0 at hS0 ZV GV RDV ⊢
                refine takeS_on (i := 0) 170 (v := ?hv90) rfl rfl (by kernel_rfl) (by kernel_rfl) (by kernel_rfl) (fun _ _ _ h => h) (by kernel_rfl) ?hh90 (by exact hS0) ?_
                case hh90 => (intro w' hSw; go_simp; try (with_reducible rfl))
                simp only [Act.put, List.setIfInBounds_toArray, List.set_cons_zero, List.set_cons_succ]
                refine takeS_on (i := 1) 171 (v := ?hv91) rfl rfl (by kernel_rfl) (by kernel_rfl) (by kernel_rfl) (fun _ _ _ h => h) (by kernel_rfl) ?hh91 (by exact hS0) ?_
                case hh91 => (intro w' hSw; refine Eq.trans (exec_row 45 (.tmp 13) rfl _ rfl _ _ _ _ hSw.bx Try.underlying45 rfl cho_size) ?_; with_reducible rfl)
                simp only [Act.put, List.setIfInBounds_toArray, List.set_cons_zero, List.set_cons_succ]
                refine takeS_on (i := 2) 10 (v := ?hv92) rfl rfl (by kernel_rfl) (by kernel_rfl) (by kernel_rfl) (fun _ _ _ h => h) (by kernel_rfl) ?hh92 (by exact hS0) ?_
                case hh92 => (intro w' hSw; go_simp; try (with_reducible rfl))
                simp only [Act.put, List.setIfInBounds_toArray, List.set_cons_zero, List.set_cons_succ]
                refine wpAnyH_ready (rs := [3]) (by kernel_rfl) (by simp) (AllReadyH.cons rfl (fun K hK => ?_) AllReadyH.nil)
                rw [if_pos (by kernel_rfl)]
                refine op_rowC 45 (.tmp 11) (.tmp 171) rfl (w.heap.size + 1) _ rfl rfl _ _ ZV.out cho_size rfl (one_cho _ _ _ _ _ _ _ _ _) ?_
                intro w9 b9 k9
                have hS9 : Scz (w.heap.size + 2) #[.int .i64 (-1), .bool false, .bool true, .int .i64 0, .bool false, .int .i64 0, .slice none 0 0] w9 := hS0.ch k9 (fun e => by have e1 : (w.heap.size + 2) = w.heap.size + 1 := e; have := HAA.out; omega)
                have B9 := hid b9
                have K9 := hid k9
                clear b9 k9
                refine hK.out _ _ (by exact hS9) (fun _ => ?_)
                clear hK K
                refine takeS_on (i := 4) 12 (v := ?hv93) rfl rfl (by kernel_rfl) (by kernel_rfl) (by kernel_rfl) (fun _ _ _ h => h) (by kernel_rfl) ?hh93 (by exact hS9) ?_
                case hh93 => (intro w' hSw; go_simp; try (with_reducible rfl))
                simp only [Act.put, List.setIfInBounds_toArray]
                refine wpAnyH_done (by kernel_rfl) ?_ _
                go_wp2
                refine bodyPost_ret (results_tct rfl _ _ _ _ rfl (run_loadVar_row _ _ _ _ _ _ _ B9.out Try.underlying45 rfl cho_size)) rfl ?_
                rw [HSEL.out]
                refine ⟨_, none, 0, 0, rfl, Ls.nil _ _ _, (RDV.out.ch K9.out (fun q _ hq e => ?_)).mono (fun q _ hq => hq.imp id (fun h1 => by have := HW0.out; omega)), (Ch.trans (show Ch NoB w V0 from GV.out) K9.out (fun q e => .inr (by have e1 : q = w.heap.size + 1 := e; omega)))⟩
                have e1 : q = w.heap.size + 1 := e
                have := HW0.out
                rcases hq with hq | hq
                · have := HPL0.out q hq; omega
                · omega

end Go.Proofs.Ytalmiphddgmfbab.Lt

namespace Go.Proofs.Ytalmiphddgmfbab.Lt
open Go.RowKit Wd
attribute [local go_sem ↓] Go.wp_at_zero Go.wp_at_succ

set_option maxHeartbeats 4000000 in
set_option maxRecDepth 20000 in
theorem rsamec_any (P Q : Nat → Prop) (w : World) (k : Int) (df a b : Bool) (x t : Int) (po qo : Option Addr) (n pc qc : Nat) (ks : List Wk) (h : Ls eK P w (.slice po n pc) ks) (h2 : Ls eK Q w (.slice qo n qc) ks) (hn : n ≤ 2932031007402) :
    Calls Try.prog 18 #[.agg #[.int .i64 k, .bool df, .bool a, .int .i64 x, .bool b, .int .i64 t, .slice po n pc], .agg #[.int .i64 k, .bool df, .bool a, .int .i64 x, .bool b, .int .i64 t, .slice qo n qc]] w fun e w' => e = .returned (.bool true) ∧ Gr w w' := by
  obtain ⟨W0, hW0⟩ : ∃ W, W = (w.alloc (.cells #[.int .i64 k, .bool df, .bool a, .int .i64 x, .bool b, .int .i64 t, .slice po n pc] 45)).alloc (.cells #[.int .i64 k, .bool df, .bool a, .int .i64 x, .bool b, .int .i64 t, .slice qo n qc] 45) := ⟨_, rfl⟩
  have G0 := hid (show Gr w W0 from by rw [hW0]; exact Ch.alloc (Ch.alloc (Gr.refl w) _) _)
  have A0 := hid (show W0.heap[w.heap.size]? = some (.cells #[.int .i64 k, .bool df, .bool a, .int .i64 x, .bool b, .int .i64 t, .slice po n pc] 45 (0, 0)) from by rw [hW0]; exact al_blk (MapKept.heap_alloc w _).1 _)
  have B0 := hid (show W0.heap[w.heap.size + 1]? = some (.cells #[.int .i64 k, .bool df, .bool a, .int .i64 x, .bool b, .int .i64 t, .slice qo n qc] 45 (0, 0)) from by rw [hW0]; exact al_at _ (by simp))
  have HSM := hid (rsamem_any P Q W0 a b x t po qo n pc qc ks (h.gr G0.out) (h2.gr G0.out) hn)
  clear h h2 hn
  go_enter Try.func18, Try.ntmps18
  go_upto_region 1 with fail
  rw [← hW0]
  clear hW0
  have a0 := cell_of A0.out 0
  have a1 := cell_of A0.out 1
  have a2 := cell_of A0.out 2
  have a3 := cell_of A0.out 3
  have a4 := cell_of A0.out 4
  have a5 := cell_of A0.out 5
  have a6 := cell_of A0.out 6
  have b0 := cell_of B0.out 0
  have b1 := cell_of B0.out 1
  have b2 := cell_of B0.out 2
  have b3 := cell_of B0.out 3
  have b4 := cell_of B0.out 4
  have b5 := cell_of B0.out 5
  have b6 := cell_of B0.out 6
  simp at a0 a1 a2 a3 a4 a5 a6 b0 b1 b2 b3 b4 b5 b6
  go_wp2_with (first
    | (refine callG (by kernel_rfl) 43 #[.tmp 19, .tmp 21] #[43, 43] rfl #[.agg #[.bool a, .int .i64 x, .bool b, .int .i64 t, .slice po n pc], .agg #[.bool a, .int .i64 x, .bool b, .int .i64 t, .slice qo n qc]] (by kernel_rfl) HSM.out ?_; rintro e w5 ⟨rfl, g5⟩; refine ⟨_, rfl, ?_⟩; simp only [Act.put, List.setIfInBounds_toArray, List.set_cons_zero, List.set_cons_succ]; have G5 := hid (Gr.trans G0.out g5); clear g5))
  go_ret
  exact ⟨rfl, G5.out⟩
end Go.Proofs.Ytalmiphddgmfbab.Lt

namespace Go.Proofs.Ytalmiphddgmfbab.Lt
open Go.RowKit Wd

theorem rselect_any {P Q R : Nat → Prop} {w : World} {v lv dv : Value} {N : Nat} {cs : List Cn} {s g : Int} {ps : List Pk} {ds : List Int} (h : Rds P w v cs) (hG : Gd N cs) (hN : N + 16 < 4398046511104) (hk : Gok s g) (hps : Ls eP Q w lv ps) (hds : Ls eU R w dv ds) (hd : Dok ds) (df : Bool) :
    Calls Try.prog 17 #[v, .agg #[.int .i64 s, .int .i64 g], lv, .bool df, dv] w (RsR P w (selF cs s g ps df ds)) := by
  have hlow : ∀ r, (∀ e w', RsR (fun q => P q ∧ q < w.heap.size) w r e w' → RsR P w r e w') := by
    rintro r e w' ⟨v', mo, mn, mc, h1, h2, h3, h4⟩
    exact ⟨v', mo, mn, mc, h1, h2, h3.mono (fun q _ hq => hq.imp (fun p => p.1) id), h4⟩
  have h' : Rds (fun q => P q ∧ q < w.heap.size) w v cs := h.mono (fun q hq hp => ⟨hp, hq⟩)
  obtain ⟨lo, cl, rfl⟩ := h.form
  obtain ⟨ao, cap, rfl⟩ := hps.form
  obtain ⟨dp, dc, rfl⟩ := hds.form
  unfold selF
  by_cases h16 : 16 < ps.length
  · rw [if_pos h16]
    exact (rsel_err _ w lo _ cl cs s g ao _ cap ps df _ Q h' hps 1 (by decide) (fun W _ => rorder_arg _ _ W (by omega))).mono (hlow _)
  · rw [if_neg h16]
    by_cases hf : ds.length < ps.length
    · rw [if_pos hf]
      exact (rsel_err _ w lo _ cl cs s g ao _ cap ps df _ Q h' hps 120 (by decide) (fun W _ => rorder_few _ _ dc dp W (by omega) hf)).mono (hlow _)
    · rw [if_neg hf]
      have hO : ∀ W, Gr w W → Calls Try.prog 37 #[.int .i64 (ps.length : Int), .slice dp ds.length dc] W (OrR W ps.length (ord (ds.take ps.length))) := fun W p => rorder_ok R W dp _ dc ds _ (hds.gr p) hd (by omega) (by omega)
      by_cases hp : 0 < pls cs s g
      · rw [if_pos hp]
        exact (rsel_busy _ w lo _ cl cs s g ao _ cap ps df _ Q h' hps _ (hG.bd (by omega)) hG.n hp hO).mono (hlow _)
      · rw [if_neg hp]
        have hol : (ord (ds.take ps.length)).length = ps.length := by rw [ord_len, List.length_take]; omega
        have hor : ∀ o ∈ ord (ds.take ps.length), 0 ≤ o ∧ o < (ps.length : Int) := fun o ho => by
          have := (ord_all (ds.take ps.length)).lt ho
          rw [hol] at this
          exact this
        exact (rsel_walk _ w lo _ cl cs s g ao _ cap ps df _ Q h' hps N _ (fun q hq => hq.2) hG hN hk (by omega) hp hol hor hO).mono (hlow _)
theorem Gd.sel {N : Nat} {cs : List Cn} (h : Gd N cs) {s g : Int} (hk : Gok s g) (ps : List Pk) (df : Bool) (ds : List Int) : Gd (N + 16) (selF cs s g ps df ds).o.cs := by
  have h0 : Gd (N + 16) cs := h.up (by omega)
  unfold selF
  split
  · exact h0
  · split
    · exact h0
    · split
      · exact h0
      · split
        · unfold selG
          split
          · split
            · exact h0
            · exact (h.wf s g ps hk ps.length).up (by omega)
          · split
            · dsimp only
              split
              · exact (h.snd _ _ _ _ hk).up (by omega)
              · exact (h.rcv _ _ _ hk).up (by omega)
            · exact h0
        · exact h0
theorem sel_ks (cs : List Cn) (s g : Int) (ps : List Pk) (df : Bool) (ds : List Int) : (selF cs s g ps df ds).o.ks.length ≤ 1 := by
  unfold selF
  split
  · simp
  · split
    · simp
    · split
      · simp
      · split
        · unfold selG
          split
          · split <;> simp
          · split
            · dsimp only
              split
              · exact snd_ks _ _ _ _ _
              · exact rcv_ks _ _ _ _
            · simp
        · simp
end Go.Proofs.Ytalmiphddgmfbab.Lt

namespace Go.Proofs.Ytalmiphddgmfbab.Lt
open Go.RowKit Wd

structure Th where
  s : Int
  g : Int
  sd : Bool
  ch : Int
  v : Int
def eT (x : Th) : List Value := [.int .i64 x.s, .int .i64 x.g, .bool x.sd, .int .i64 x.ch, .int .i64 x.v]
theorem eT_len (x : Th) : (eT x).length = 5 := rfl
def thO (cs : List Cn) (x : Th) : Ot := if x.sd = true then sndF cs x.ch x.s x.g x.v else rcvF cs x.ch x.s x.g
def thR (cs : List Cn) (l : List Th) : List Cn := l.foldl (fun cs x => (thO cs x).cs) cs
theorem thR_snoc (cs : List Cn) (l : List Th) (x : Th) : thR cs (l ++ [x]) = (thO (thR cs l) x).cs := by unfold thR; rw [List.foldl_append]; rfl
theorem Gd.th {N : Nat} {cs : List Cn} (h : Gd N cs) (l : List Th) (hk : ∀ x ∈ l, Gok x.s x.g) : Gd (N + l.length) (thR cs l) := by
  induction l generalizing cs N with
  | nil => exact h
  | cons x r ih =>
    have h1 : Gd (N + 1) (thO cs x).cs := by
      unfold thO
      split
      · exact h.snd _ _ _ _ (hk x (List.mem_cons_self ..))
      · exact h.rcv _ _ _ (hk x (List.mem_cons_self ..))
    have h2 := ih h1 (fun y hy => hk y (List.mem_cons_of_mem _ hy))
    rw [List.length_cons]
    exact h2.up (by omega)
end Go.Proofs.Ytalmiphddgmfbab.Lt

namespace Go.Proofs.Ytalmiphddgmfbab.Lt
open Go.ChangeShapes Go.WideShapes Go.ChangeAt Go.RowKit Go.Deep Go.Joins Wd
set_option maxRecDepth 100000

section
variable {H : Type} {enc : TypeId × Value → H} {w : World} {base : Nat} {spare : Nat → Bool} {held : Bool}
/-- a select that is handed in -/
theorem open_askB {r : Reach} {b0 : Nat} {v : Value} {d : DataW H} {p : List MemPlace} {ds : List (DataW H)} (hv : Value.okWide Try.prog w r b0 28 v) (h : DataW.Trod enc Try.prog w base spare held 28 v d p) (hk : Rows.uptoSmall H ds = true) (hd : d ∈ ds) :
    ∃ (s g : Int) (vp : Value) (df : Bool) (vd : Value) (ps : List Pk) (xs : List Int), v = .agg #[.int .i64 s, .int .i64 g, vp, .bool df, vd] ∧ Gok s g ∧ Ls eP (· < w.heap.size) w vp ps ∧ Ls eU (· < w.heap.size) w vd xs ∧ Dok xs ∧ ps.length ≤ 1048576 ∧ xs.length ≤ 1048576 := by
  have hb : Rows.uptoBulkAll ds ≤ 1048576 := of_decide_eq_true hk
  have hb1 := Nat.le_trans (bulk_part hd) hb
  obtain ⟨vs, rfl, hsz⟩ := okWide_struct Try.underlying28 hv
  rw [cellsX] at hsz
  obtain ⟨fuel, hf⟩ := h
  obtain ⟨l⟩ := vs
  match l, hsz with
  | [c0, c1, c2, c3, c4], _ =>
    obtain ⟨ys, n, _, hx9, _, hlen, hfs⟩ := DataW.trod_struct Try.underlying28 hf
    match ys, hlen with
    | [y0, y1, y2, y3], _ =>
      have h0 := hfs 0 _ rfl
      have h1 := hfs 1 _ rfl
      have h2 := hfs 2 _ rfl
      have h3 := hfs 3 _ rfl
      have h0' : DataW.trod enc Try.prog w base spare held n 24 [c0, c1] = some y0 := by simpa [Value.cells, cellsG] using h0
      have h1' : DataW.trod enc Try.prog w base spare held n 25 [c2] = some y1 := by simpa [Value.cells, cellsPs] using h1
      have h2' : DataW.trod enc Try.prog w base spare held n 4 [c3] = some y2 := by simpa [Value.cells, cellsB] using h2
      have h3' : DataW.trod enc Try.prog w base spare held n 26 [c4] = some y3 := by simpa [Value.cells, cellsDs] using h3
      obtain ⟨s, g, e0, hg⟩ := el_gid n _ _ rfl h0'
      have : Inhabited Pk := ⟨⟨false, 0, 0⟩⟩
      obtain ⟨ps, lp, sp⟩ := open_gen eP Try.underlying25 cellsP eP_len (by omega) (fun _ _ => True) (fun n cs z hl h => el_pick n cs z hl h) h1'
      obtain ⟨df, e2, _⟩ := DataW.trod_bool Try.underlying4 h2'
      obtain ⟨xs, lx, sx⟩ := open_gen eU Try.underlying26 cellsU eU_len (by omega) (fun x _ => 0 ≤ x ∧ x ≤ 18446744073709551615) (fun n cs z _ h => by
        obtain ⟨x, e1, _, hw⟩ := DataW.trod_int Try.underlying77 h
        exact ⟨x, by rw [e1]; rfl, wf_u64 hw⟩) h3'
      simp at e0 e2
      refine ⟨s, g, c2, df, c4, ps, xs, by rw [e0.1, e0.2, e2], hg, lp, lx, ?_, ?_⟩
      · intro x hx
        rcases sx with ⟨e1, _⟩ | ⟨el, sp, e1, hle, hq⟩
        · rw [e1] at hx; cases hx
        · obtain ⟨i, hi⟩ := List.mem_iff_getElem?.1 hx
          obtain ⟨_, _, h2⟩ := hq i x hi
          exact h2
      · have b1 := (len_bulk sp).1
        have b2 := (len_bulk sx).1
        have hdx : d = .agg [y0.1, y1.1, y2.1, y3.1] := by
          have := congrArg Prod.fst hx9
          simpa using this
        rw [hdx] at hb1
        simp only [Rows.uptoBulk, Rows.uptoBulkAll] at hb1
        omega
end
end Go.Proofs.Ytalmiphddgmfbab.Lt

namespace Go.Proofs.Ytalmiphddgmfbab.Lt
open Go.ChangeShapes Go.WideShapes Go.ChangeAt Go.RowKit Wd

set_option maxRecDepth 100000 in
theorem ready_lifted (os : Os) (started : os.Started) (H : Type) (enc : TypeId × Value → H) (F : Stop.Interp) :
    ReturnsInHanded {} Try.checked os 3 .any ((Rows.OpenSpec.upto Rows.chooseReadySpec).pre6 enc Try.prog Try.f3 Rows.chooseReadyUptoRow.domain false) (((Rows.OpenSpec.upto Rows.chooseReadySpec).at F).post enc Try.prog Try.f3 false true false false) := by
  refine returnsInHanded_of_cond (C := Try.checked) (s := Rows.OpenSpec.upto Rows.chooseReadySpec) (k := Rows.uptoSmall) rfl own started (by kernel_rfl) Try.func3
    (OpenSpec.witness (enc := enc) (C := Try.checked) (s := Rows.OpenSpec.upto Rows.chooseReadySpec) (k := Rows.uptoSmall) rfl false ⟨#[], #[.slice none 0 0, .agg #[.int .i64 0, .int .i64 0, .slice none 0 0, .bool false, .slice none 0 0]], []⟩ 8 (by kernel_rfl) (by kernel_rfl) (by kernel_rfl)
      (x := ([.nil, .agg [.agg [.lit (.int .i64 0), .lit (.int .i64 0)], .nil, .lit (.bool false), .nil]], [], [])) (by kernel_rfl) rfl (by kernel_rfl)) ?_
  intro W base args ds gs before hval0 hW _ hk _
  have hval : ∀ (j : Nat) t v, Try.f3.params[j]? = some t → args[j]? = some v → Value.okWide Try.prog W .any base t v := hval0
  have hW' := hW
  obtain ⟨p, q, hA0, hV, rfl, hfz, hnd⟩ := hW
  have hA : DataW.TrodAll enc Try.prog W 0 (fun _ => true) true Try.f3.params.toList args.toList ds p := hA0
  rw [Try.params3] at hA hval
  obtain ⟨v0, v1, d0, d1, p0, p1, rfl, rfl, rfl, h0, h1⟩ := trodAll_two hA
  obtain ⟨rfl, rfl⟩ := trodVars_none hV
  obtain ⟨cs0, rx0, bd0, tt0, gg0⟩ := open_states (hval 0 22 v0 rfl rfl) h0 hk (by simp)
  obtain ⟨s1, g1, ca1, df1, da1, ps1, xs1, rfl, gk1, lp1, lx1, ok1, bp1, bx1⟩ := open_askB (hval 1 28 v1 rfl rfl) h1 hk (by simp)
  clear hA0 hval0
  simp only [List.append_nil] at hW'
  refine (ready_any v0 cs0 s1 g1 df1 ca1 da1 ps1 xs1 W rx0 bd0 tt0 gg0 gk1 lp1 lx1 ok1 bp1).mono fun e W' ⟨he, hg⟩ => ?_
  subst he
  exact ⟨_, rfl, post_law2 hW' (by rw [Try.params3]) rfl Try.underlying4 rfl rfl (by kernel_rfl) (of_decide_eq_true (by kernel_rfl)) (by kernel_rfl) (of_decide_eq_true (by kernel_rfl)) h0 h1 (hg.below (fun _ x => x.elim) (Nat.le_refl _))⟩

theorem ready_holds : Rows.ChooseReadyUptoSaid :=
  OpenClaim.holds_of_cond 3 Try.f3 rfl rfl rfl rfl rfl rfl rfl ⟨rfl, rfl, rfl, rfl, rfl⟩ rfl rfl rfl rfl rfl (by kernel_rfl) Try.func3 (by kernel_rfl)
    (of_decide_eq_true (by kernel_rfl)) (by unfold Func.isWrapper; first | (rw [if_pos (by decide +kernel)]; kernel_rfl) | (rw [if_neg (by decide +kernel)]; exact ⟨rfl, rfl⟩))
    (fun os started H enc _ F => ready_lifted os started H enc F)
end Go.Proofs.Ytalmiphddgmfbab.Lt
