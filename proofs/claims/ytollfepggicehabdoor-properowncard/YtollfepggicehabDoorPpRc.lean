/-
  What can be come to by ways, the rising list of it, chains of ways; plain words without memory. No conditions.
-/
import Derived.Test.YtollfepggicehabDoorPpRNext
namespace Go.Proofs.YtollfepggicehabDoor.Lt
open Go.RowKit Wd

/-- b can be come to from a by ways -/
def Rc (wy : Int → List Int) (a b : Int) : Prop := ∀ S : Int → Prop, S a → (∀ x, S x → ∀ y, y ∈ wy x → S y) → S b
theorem Rc.self (wy : Int → List Int) (a : Int) : Rc wy a a := fun _ h _ => h
theorem Rc.next {wy : Int → List Int} {a b y : Int} (h : Rc wy a b) (hy : y ∈ wy b) : Rc wy a y := fun S h0 h1 => h1 b (h S h0 h1) y hy
theorem Rc.trans {wy : Int → List Int} {a b c : Int} (h : Rc wy a b) (k : Rc wy b c) : Rc wy a c := fun S h0 h1 => k S (h S h0 h1) h1
/-- rising -/
def Rs (xs : List Int) : Prop := xs.Pairwise (· < ·)
/-- the rising list of what can be come to below a number -/
def Rl (N : Nat) (wy : Int → List Int) (a : Int) (xs : List Int) : Prop := Rs xs ∧ ∀ x, x ∈ xs ↔ (0 ≤ x ∧ x < (N : Int)) ∧ Rc wy a x
theorem Rs.ext : ∀ {xs ys : List Int}, Rs xs → Rs ys → (∀ x, x ∈ xs ↔ x ∈ ys) → xs = ys := by
  intro xs
  induction xs with
  | nil =>
    intro ys _ _ he
    cases ys with
    | nil => rfl
    | cons y ys => exact absurd ((he y).2 (by simp)) (by simp)
  | cons x xs ih =>
    intro ys hx hy he
    cases ys with
    | nil => exact absurd ((he x).1 (by simp)) (by simp)
    | cons y ys =>
      have hx' : Rs xs ∧ ∀ z ∈ xs, x < z := ⟨(List.pairwise_cons.1 hx).2, (List.pairwise_cons.1 hx).1⟩
      have hy' : Rs ys ∧ ∀ z ∈ ys, y < z := ⟨(List.pairwise_cons.1 hy).2, (List.pairwise_cons.1 hy).1⟩
      have e : x = y := by
        have h1 := (he x).1 (by simp)
        have h2 := (he y).2 (by simp)
        simp only [List.mem_cons] at h1 h2
        rcases h1 with h1 | h1
        · exact h1
        · rcases h2 with h2 | h2
          · exact h2.symm
          · have := hx'.2 y h2
            have := hy'.2 x h1
            omega
      subst e
      rw [ih hx'.1 hy'.1 (fun z => ⟨fun hz => by
        have := (he z).1 (List.mem_cons_of_mem _ hz)
        simp only [List.mem_cons] at this
        rcases this with rfl | this
        · have := hx'.2 z hz; omega
        · exact this, fun hz => by
        have := (he z).2 (List.mem_cons_of_mem _ hz)
        simp only [List.mem_cons] at this
        rcases this with rfl | this
        · have := hy'.2 z hz; omega
        · exact this⟩)]
theorem Rl.uniq {N : Nat} {wy : Int → List Int} {a : Int} {xs ys : List Int} (h : Rl N wy a xs) (k : Rl N wy a ys) : xs = ys := Rs.ext h.1 k.1 (fun x => (h.2 x).trans (k.2 x).symm)
theorem range_rs (N : Nat) : Rs ((List.range N).map Int.ofNat) := by
  unfold Rs
  rw [List.pairwise_map]
  refine List.Pairwise.imp ?_ List.pairwise_lt_range
  intro a b h
  show (a : Int) < (b : Int)
  omega
theorem Rl.ex (N : Nat) (wy : Int → List Int) (a : Int) : ∃ xs, Rl N wy a xs := by
  classical
  refine ⟨((List.range N).map Int.ofNat).filter (fun x => decide (Rc wy a x)), (range_rs N).filter _, fun x => ?_⟩
  rw [List.mem_filter, decide_eq_true_eq, List.mem_map]
  constructor
  · rintro ⟨⟨k, hk, rfl⟩, h⟩
    exact ⟨⟨Int.natCast_nonneg _, by have := List.mem_range.1 hk; show (k : Int) < (N : Int); omega⟩, h⟩
  · rintro ⟨⟨h0, h1⟩, h⟩
    exact ⟨⟨x.toNat, List.mem_range.2 (by omega), by show ((x.toNat : Nat) : Int) = x; omega⟩, h⟩
/-- a list without repetition, sorted, is the rising one -/
theorem Rl.sorted {N : Nat} {wy : Int → List Int} {a : Int} {xs os : List Int} (h : Rl N wy a xs) (hn : os.Nodup) (hm : ∀ x, x ∈ os ↔ (0 ≤ x ∧ x < (N : Int)) ∧ Rc wy a x) : os.mergeSort (fun x y => decide (x ≤ y)) = xs := by
  have hp := List.mergeSort_perm os (fun x y => decide (x ≤ y))
  have hs : (os.mergeSort (fun x y => decide (x ≤ y))).Pairwise (fun x y => decide (x ≤ y) = true) := List.pairwise_mergeSort (fun a b c h1 h2 => by simp at h1 h2 ⊢; omega) (fun a b => by simp; omega) os
  refine Rs.ext ?_ h.1 (fun x => ((hp.mem_iff).trans (hm x)).trans (h.2 x).symm)
  have hn' := hp.nodup_iff.2 hn
  unfold Rs
  refine List.Pairwise.imp₂ ?_ hs hn'
  intro x y h1 h2
  have h1' : x ≤ y := by simpa using h1
  have h2' : x ≠ y := h2
  omega
/-- how many are false -/
def fz (bs : List Bool) : Nat := (bs.filter (fun b => !b)).length
theorem fz_set : ∀ (bs : List Bool) (i : Nat), bs[i]? = some false → fz (bs.set i true) + 1 = fz bs := by
  intro bs
  induction bs with
  | nil => intro i h; simp at h
  | cons b bs ih =>
    intro i h
    cases i with
    | zero =>
      simp only [List.getElem?_cons_zero, Option.some.injEq] at h
      subst h
      simp [fz]
    | succ i =>
      rw [List.getElem?_cons_succ] at h
      have := ih i h
      unfold fz at this ⊢
      cases b <;> simp [List.set_cons_succ] at this ⊢ <;> omega
theorem fz_same (bs : List Bool) (i : Nat) (h : bs[i]? = some true) : bs.set i true = bs := by
  refine List.ext_getElem? fun j => ?_
  rw [List.getElem?_set]
  split
  · rename_i e; subst e; rw [h]; simp [(List.getElem?_eq_some_iff.1 h).1]
  · rfl
theorem fz_le (bs : List Bool) : fz bs ≤ bs.length := List.length_filter_le _ _
theorem fz_rep (n : Nat) : fz (List.replicate n false) = n := by simp [fz]
/-- is number x true? -/
def bt (bs : List Bool) (x : Int) : Prop := 0 ≤ x ∧ bs[x.toNat]? = some true
theorem bt_nat (bs : List Bool) (i : Nat) : bt bs (i : Int) ↔ bs[i]? = some true := by unfold bt; constructor <;> intro h <;> simpa using h
theorem bt_lt {bs : List Bool} {x : Int} (h : bt bs x) : 0 ≤ x ∧ x < (bs.length : Int) := by
  have := (List.getElem?_eq_some_iff.1 h.2).1
  exact ⟨h.1, by have := h.1; omega⟩
theorem bt_set (bs : List Bool) (i : Nat) (hi : i < bs.length) (x : Int) : bt (bs.set i true) x ↔ x = (i : Int) ∨ bt bs x := by
  unfold bt
  by_cases h0 : 0 ≤ x
  · obtain ⟨k, rfl⟩ : ∃ k : Nat, x = (k : Int) := ⟨x.toNat, by omega⟩
    rw [Int.toNat_natCast, List.getElem?_set]
    by_cases e : i = k
    · subst e; simp [hi]
    · simp only [e, if_false]
      constructor
      · intro h; exact .inr h
      · rintro (h | h)
        · exact absurd (by omega) e
        · exact h
  · simp [h0]; omega
theorem bt_rep (n : Nat) (x : Int) : ¬ bt (List.replicate n false) x := by
  rintro ⟨_, h⟩
  rw [List.getElem?_replicate] at h
  split at h <;> simp at h
theorem bt_false {bs : List Bool} {i : Nat} (hi : i < bs.length) (h : ¬ bt bs (i : Int)) : bs[i]? = some false := by
  rw [bt_nat] at h
  rw [List.getElem?_eq_getElem hi] at h ⊢
  cases hb : bs[i] with
  | true => rw [hb] at h; exact absurd rfl h
  | false => rfl
/-- the numbers below k that are true -/
def rz (bs : List Bool) (k : Nat) : List Int := ((List.range k).filter (fun i => bs[i]?.getD false)).map Int.ofNat
theorem rz_succ (bs : List Bool) (k : Nat) : rz bs (k + 1) = if bs[k]?.getD false = true then rz bs k ++ [(k : Int)] else rz bs k := by
  unfold rz
  rw [List.range_succ, List.filter_append, List.map_append]
  cases h : bs[k]?.getD false <;> simp [h]
theorem rz_rs (bs : List Bool) (k : Nat) : Rs (rz bs k) := by
  unfold Rs rz
  rw [List.pairwise_map]
  refine List.Pairwise.imp ?_ (List.pairwise_lt_range.filter _)
  intro a b h
  show (a : Int) < (b : Int)
  omega
theorem rz_mem (bs : List Bool) (x : Int) : x ∈ rz bs bs.length ↔ bt bs x := by
  unfold rz
  rw [List.mem_map]
  constructor
  · rintro ⟨i, hi, rfl⟩
    rw [List.mem_filter, List.mem_range] at hi
    show bt bs ((i : Nat) : Int)
    rw [bt_nat, List.getElem?_eq_getElem hi.1]
    have := hi.2
    rw [List.getElem?_eq_getElem hi.1] at this
    simpa using this
  · intro h
    refine ⟨x.toNat, ?_, ?_⟩
    · rw [List.mem_filter, List.mem_range]
      have := bt_lt h
      exact ⟨by omega, by rw [h.2]; rfl⟩
    · show ((x.toNat : Nat) : Int) = x
      have := h.1
      omega
theorem rz_len (bs : List Bool) (k : Nat) : (rz bs k).length ≤ k := by
  unfold rz
  rw [List.length_map]
  exact Nat.le_trans (List.length_filter_le _ _) (by simp)
/-- true numbers that are closed and can be come to are the rising list -/
theorem Rl.bits {N : Nat} {wy : Int → List Int} {a : Int} {xs : List Int} {bs : List Bool} (h : Rl N wy a xs) (hl : bs.length = N) (h0 : bt bs a) (h1 : ∀ x, bt bs x → ∀ y, y ∈ wy x → bt bs y) (h2 : ∀ x, bt bs x → Rc wy a x) : rz bs N = xs ∧ ∀ x, bt bs x ↔ x ∈ xs := by
  have hm : ∀ x, bt bs x ↔ x ∈ xs := fun x => ⟨fun q => (h.2 x).2 ⟨by have := bt_lt q; rw [hl] at this; exact this, h2 x q⟩, fun q => ((h.2 x).1 q).2 (bt bs) h0 h1⟩
  refine ⟨?_, hm⟩
  subst hl
  exact Rs.ext (rz_rs _ _) h.1 (fun x => (rz_mem bs x).trans (hm x))
/-- a chain of so many ways -/
def Cn (wy : Int → List Int) : Nat → Int → Prop
  | 0, _ => True
  | n + 1, a => ∃ y, y ∈ wy a ∧ Cn wy n y
theorem Cn.less {wy : Int → List Int} : ∀ {n : Nat} {a : Int}, Cn wy (n + 1) a → Cn wy n a := by
  intro n
  induction n with
  | zero => intro a _; trivial
  | succ n ih =>
    rintro a ⟨y, hy, h⟩
    exact ⟨y, hy, ih h⟩
theorem Cn.le {wy : Int → List Int} {n m : Nat} {a : Int} (h : Cn wy n a) (hm : m ≤ n) : Cn wy m a := by
  obtain ⟨k, rfl⟩ : ∃ k, n = m + k := ⟨n - m, by omega⟩
  clear hm
  induction k with
  | zero => exact h
  | succ k ih => exact ih (Cn.less h)

theorem filt_le {p q : Int → Bool} (h : ∀ x, p x = true → q x = true) : ∀ l : List Int, (l.filter p).length ≤ (l.filter q).length ∧ ((l.filter p).length = (l.filter q).length → ∀ x ∈ l, q x = true → p x = true) := by
  intro l
  induction l with
  | nil => simp
  | cons a l ih =>
    rw [List.filter_cons, List.filter_cons]
    cases hp : p a with
    | true =>
      rw [h a hp]
      simp only [if_true, List.length_cons]
      refine ⟨by omega, fun e x hx hq => ?_⟩
      rcases List.mem_cons.1 hx with rfl | hx
      · exact hp
      · exact ih.2 (by omega) x hx hq
    | false =>
      cases hq' : q a with
      | true =>
        simp only [if_true, List.length_cons]
        refine ⟨by simp; omega, fun e => ?_⟩
        exfalso
        simp at e
        omega
      | false =>
        refine ⟨by simpa using ih.1, fun e x hx hq => ?_⟩
        rcases List.mem_cons.1 hx with rfl | hx
        · rw [hq'] at hq; cases hq
        · exact ih.2 (by simpa using e) x hx hq
theorem Cn.all {wy : Int → List Int} {l : List Int} (hc : ∀ x ∈ l, ∀ y, y ∈ wy x → y ∈ l) : ∀ x ∈ l, Cn wy l.length x → ∀ n, Cn wy n x := by
  classical
  have stable : ∀ k, (∀ x ∈ l, Cn wy k x → Cn wy (k + 1) x) → ∀ n, ∀ x ∈ l, Cn wy k x → Cn wy (k + n) x := by
    intro k hk n
    induction n with
    | zero => exact fun x _ h => h
    | succ n ih =>
      intro x hx h
      have step : ∀ m x, x ∈ l → Cn wy (k + m) x → Cn wy (k + m + 1) x := by
        intro m
        induction m with
        | zero => exact fun x hx h => hk x hx h
        | succ m ihm =>
          rintro x hx ⟨y, hy, h⟩
          exact ⟨y, hy, ihm y (hc x hx y hy) h⟩
      exact step n x hx (ih x hx h)
  have count : ∀ k, (∃ j, j < k ∧ ∀ x ∈ l, Cn wy j x → Cn wy (j + 1) x) ∨ k ≤ (l.filter (fun x => decide (¬ Cn wy k x))).length := by
    intro k
    induction k with
    | zero => exact .inr (Nat.zero_le _)
    | succ k ih =>
      rcases ih with ⟨j, hj, h⟩ | ih
      · exact .inl ⟨j, by omega, h⟩
      · have m := filt_le (p := fun x => decide (¬ Cn wy k x)) (q := fun x => decide (¬ Cn wy (k + 1) x)) (fun x hx => by
          simp only [decide_eq_true_eq] at hx ⊢
          exact fun q => hx (Cn.less q)) l
        by_cases e : (l.filter (fun x => decide (¬ Cn wy k x))).length = (l.filter (fun x => decide (¬ Cn wy (k + 1) x))).length
        · refine .inl ⟨k, by omega, fun x hx h => Classical.byContradiction fun q => ?_⟩
          have := m.2 e x hx (by simpa using q)
          simp only [decide_eq_true_eq] at this
          exact this h
        · exact .inr (by have := m.1; omega)
  intro x hx h n
  rcases count (l.length + 1) with ⟨j, hj, q⟩ | q
  · have h1 := stable j q n x hx (h.le (by omega))
    exact h1.le (by omega)
  · have := List.length_filter_le (fun x => decide (¬ Cn wy (l.length + 1) x)) l
    omega
/-- how deep -/
def Dp (wy : Int → List Int) (a : Int) (d : Int) : Prop := (0 ≤ d ∧ Cn wy d.toNat a ∧ ¬ Cn wy (d.toNat + 1) a) ∨ (d = -1 ∧ ∀ n, Cn wy n a)
theorem Dp.uniq {wy : Int → List Int} {a d e : Int} (h : Dp wy a d) (k : Dp wy a e) : d = e := by
  rcases h with ⟨h0, h1, h2⟩ | ⟨h0, h1⟩ <;> rcases k with ⟨k0, k1, k2⟩ | ⟨k0, k1⟩
  · rcases Nat.lt_trichotomy d.toNat e.toNat with q | q | q
    · exact absurd (k1.le (by omega)) h2
    · omega
    · exact absurd (h1.le (by omega)) k2
  · exact absurd (k1 _) h2
  · exact absurd (h1 _) k2
  · omega
theorem Dp.ex (wy : Int → List Int) (a : Int) : ∃ d, Dp wy a d := by
  classical
  by_cases h : ∀ n, Cn wy n a
  · exact ⟨-1, .inr ⟨rfl, h⟩⟩
  · have : ∃ n, ¬ Cn wy n a := Classical.byContradiction fun q => h fun n => Classical.byContradiction fun z => q ⟨n, z⟩
    obtain ⟨n, hn⟩ := this
    clear h
    induction n with
    | zero => exact absurd trivial hn
    | succ n ih =>
      by_cases h : Cn wy n a
      · exact ⟨(n : Int), .inl ⟨by omega, by simpa using h, by simpa using hn⟩⟩
      · exact ih h
end Go.Proofs.YtollfepggicehabDoor.Lt
