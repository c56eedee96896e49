/-
  What is answered ahead of all else, the program's asked and the document's looked; and the document's In. Conditions: the tables lie where they lie; words are words.
  What the program's In answers: as the document's. Conditions: the tables lie where they lie; words are words.
  What the document's next answers. Conditions: a place is a word's; words are words.
  What can be come to by ways, the rising list of it, chains of ways; plain words without memory. No conditions.
  What is known of a program that may be: where its words go on, what they name. Plain words without memory. No conditions.
-/
import Derived.Test.YtcdlhfodeckleaaDoorPpRm
namespace Go.Proofs.YtcdlhfodeckleaaDoor.Lt
open Go.RowKit Wd

/-- why nothing is told of number n of so many -/
def ask (cs : List Int) (fs : List (Int × Int)) (ts : List Tb) (n k : Int) : Int := if (chk cs fs ts).2 ≠ 0 then (chk cs fs ts).2 else if n < 0 ∨ k ≤ n then 1 else 0
theorem chk_len {cs : List Int} {fs : List (Int × Int)} {ts : List Tb} (h : (chk cs fs ts).2 = 0) : cs.length ≤ 4096 ∧ fs.length ≤ 256 ∧ ts.length ≤ 256 := by
  unfold chk at h
  split at h
  · cases h
  · omega
/-- what In answers -/
def inN (cs : List Int) (fs : List (Int × Int)) (ts : List Tb) (a : Int) : Int := if ask cs fs ts a (cs.length : Int) = 0 then inx fs a else 0
end Go.Proofs.YtcdlhfodeckleaaDoor.Lt

namespace Go.Proofs.YtcdlhfodeckleaaDoor.Lt
open Go.RowKit Wd

/-- does function j end behind the place? -/
def eF (fs : List (Int × Int)) (a : Int) (j : Nat) : Int := if a < (fs[j]?.getD (0, 0)).2 then 1 else 0
/-- the first that does, -1: none -/
def enx (fs : List (Int × Int)) (a : Int) : Int := if (fR (eF fs a) 0 fs.length).2 = 0 then -1 else (fR (eF fs a) 0 fs.length).1
/-- of functions that part the code the first that ends behind a place is the place's -/
theorem enx_inx {fs : List (Int × Int)} {nc : Nat} (hp : Prt fs nc) {a : Int} (h0 : 0 ≤ a) (h1 : a < (nc : Int)) : enx fs a = inx fs a := by
  obtain ⟨b, rfl⟩ : ∃ b : Nat, a = (b : Nat) := ⟨a.toNat, by omega⟩
  obtain ⟨j, f, hf, f1, f2⟩ := hp.has b (by omega)
  rw [(hp.inx hf (b : Int)).2 ⟨f1, f2⟩]
  have ev : ∀ (l : Nat) g, fs[l]? = some g → eF fs (b : Int) l = if (b : Int) < g.2 then 1 else 0 := fun l g hg => by unfold eF; rw [hg]; rfl
  have e : fR (eF fs (b : Int)) 0 fs.length = ((j : Int), eF fs (b : Int) j) := fR_at (Nat.zero_le _) (List.getElem?_eq_some_iff.1 hf).1 (fun l _ ql => by
    obtain ⟨g, hg⟩ : ∃ g, fs[l]? = some g := ⟨_, List.getElem?_eq_getElem (by have := (List.getElem?_eq_some_iff.1 hf).1; omega)⟩
    have := hp.mono j l g f ql hg hf
    rw [ev l g hg, if_neg (by omega)]) (by rw [ev j f hf, if_pos f2]; decide)
  unfold enx
  rw [e, ev j f hf, if_pos f2]
  rfl
end Go.Proofs.YtcdlhfodeckleaaDoor.Lt

namespace Go.Proofs.YtcdlhfodeckleaaDoor.Lt
open Go.RowKit Wd

/-- where an instruction at a place goes on, rising, each once -/
def nxt (i : Int × Int × Int × Int × Int) (a : Int) : List Int :=
  if i.1 = 17 then [i.2.2.2.2] else if en i.1 = true then [] else if hT i.1 = false ∨ i.2.2.2.2 = a + 1 then [a + 1] else if i.2.2.2.2 < a + 1 then [i.2.2.2.2, a + 1] else [a + 1, i.2.2.2.2]
/-- a list of numbers that the call owns is told -/
def NxQ (w : World) (xs : List Int) (e : Ending) (w' : World) : Prop := ∃ v, e = .returned v ∧ Ow eI 1 3 w.heap.size w' v xs ∧ Gr w w'
theorem ow_new {w q : World} (h : w.heap.size ≤ q.heap.size) (xs : List Int) (c : Array Value) (hc : c.toList = xs.flatMap eI) (n : Nat) (hn : n = xs.length) (hl : n ≤ 4) (b : Nat) (hb : b = q.heap.size) : Ow eI 1 3 w.heap.size (q.alloc (.cells c 3)) (.slice (some ⟨b, 0, none⟩) n n) xs := by
  subst hn hb
  have e1 : (xs.flatMap eI).length = xs.length * 1 := flat_len eI_len xs
  have e2 : c.size = xs.length := by rw [← Array.length_toList, hc, e1, Nat.mul_one]
  exact ⟨e1, .inr ⟨q.heap.size, xs.length, c, rfl, h, (MapKept.heap_alloc q _).1, Nat.le_refl _, by unfold maxLen; omega, by rw [e2, Nat.mul_one], by rw [hc, ← e1, List.take_length]⟩⟩
end Go.Proofs.YtcdlhfodeckleaaDoor.Lt

namespace Go.Proofs.YtcdlhfodeckleaaDoor.Lt
open Go.RowKit Wd

/-- b can be come to from a by ways -/
def Rc (wy : Int → List Int) (a b : Int) : Prop := ∀ S : Int → Prop, S a → (∀ x, S x → ∀ y, y ∈ wy x → S y) → S b
theorem Rc.self (wy : Int → List Int) (a : Int) : Rc wy a a := fun _ h _ => h
theorem Rc.next {wy : Int → List Int} {a b y : Int} (h : Rc wy a b) (hy : y ∈ wy b) : Rc wy a y := fun S h0 h1 => h1 b (h S h0 h1) y hy
theorem Rc.trans {wy : Int → List Int} {a b c : Int} (h : Rc wy a b) (k : Rc wy b c) : Rc wy a c := fun S h0 h1 => k S (h S h0 h1) h1
/-- rising -/
def RsL (xs : List Int) : Prop := xs.Pairwise (· < ·)
/-- the rising list of what can be come to below a number -/
def Rl (N : Nat) (wy : Int → List Int) (a : Int) (xs : List Int) : Prop := RsL xs ∧ ∀ x, x ∈ xs ↔ (0 ≤ x ∧ x < (N : Int)) ∧ Rc wy a x
theorem RsL.ext : ∀ {xs ys : List Int}, RsL xs → RsL ys → (∀ x, x ∈ xs ↔ x ∈ ys) → xs = ys := by
  intro xs
  induction xs with
  | nil =>
    intro ys _ _ he
    cases ys with
    | nil => rfl
    | cons y ys => exact absurd ((he y).2 (by simp)) (by simp)
  | cons x xs ih =>
    intro ys hx hy he
    cases ys with
    | nil => exact absurd ((he x).1 (by simp)) (by simp)
    | cons y ys =>
      have hx' : RsL xs ∧ ∀ z ∈ xs, x < z := ⟨(List.pairwise_cons.1 hx).2, (List.pairwise_cons.1 hx).1⟩
      have hy' : RsL ys ∧ ∀ z ∈ ys, y < z := ⟨(List.pairwise_cons.1 hy).2, (List.pairwise_cons.1 hy).1⟩
      have e : x = y := by
        have h1 := (he x).1 (by simp)
        have h2 := (he y).2 (by simp)
        simp only [List.mem_cons] at h1 h2
        rcases h1 with h1 | h1
        · exact h1
        · rcases h2 with h2 | h2
          · exact h2.symm
          · have := hx'.2 y h2
            have := hy'.2 x h1
            omega
      subst e
      rw [ih hx'.1 hy'.1 (fun z => ⟨fun hz => by
        have := (he z).1 (List.mem_cons_of_mem _ hz)
        simp only [List.mem_cons] at this
        rcases this with rfl | this
        · have := hx'.2 z hz; omega
        · exact this, fun hz => by
        have := (he z).2 (List.mem_cons_of_mem _ hz)
        simp only [List.mem_cons] at this
        rcases this with rfl | this
        · have := hy'.2 z hz; omega
        · exact this⟩)]
theorem Rl.uniq {N : Nat} {wy : Int → List Int} {a : Int} {xs ys : List Int} (h : Rl N wy a xs) (k : Rl N wy a ys) : xs = ys := RsL.ext h.1 k.1 (fun x => (h.2 x).trans (k.2 x).symm)
theorem range_rs (N : Nat) : RsL ((List.range N).map Int.ofNat) := by
  unfold RsL
  rw [List.pairwise_map]
  refine List.Pairwise.imp ?_ List.pairwise_lt_range
  intro a b h
  show (a : Int) < (b : Int)
  omega
theorem Rl.ex (N : Nat) (wy : Int → List Int) (a : Int) : ∃ xs, Rl N wy a xs := by
  classical
  refine ⟨((List.range N).map Int.ofNat).filter (fun x => decide (Rc wy a x)), (range_rs N).filter _, fun x => ?_⟩
  rw [List.mem_filter, decide_eq_true_eq, List.mem_map]
  constructor
  · rintro ⟨⟨k, hk, rfl⟩, h⟩
    exact ⟨⟨Int.natCast_nonneg _, by have := List.mem_range.1 hk; show (k : Int) < (N : Int); omega⟩, h⟩
  · rintro ⟨⟨h0, h1⟩, h⟩
    exact ⟨⟨x.toNat, List.mem_range.2 (by omega), by show ((x.toNat : Nat) : Int) = x; omega⟩, h⟩
/-- a list without repetition, sorted, is the rising one -/
theorem Rl.sorted {N : Nat} {wy : Int → List Int} {a : Int} {xs os : List Int} (h : Rl N wy a xs) (hn : os.Nodup) (hm : ∀ x, x ∈ os ↔ (0 ≤ x ∧ x < (N : Int)) ∧ Rc wy a x) : os.mergeSort (fun x y => decide (x ≤ y)) = xs := by
  have hp := List.mergeSort_perm os (fun x y => decide (x ≤ y))
  have hs : (os.mergeSort (fun x y => decide (x ≤ y))).Pairwise (fun x y => decide (x ≤ y) = true) := List.pairwise_mergeSort (fun a b c h1 h2 => by simp at h1 h2 ⊢; omega) (fun a b => by simp; omega) os
  refine RsL.ext ?_ h.1 (fun x => ((hp.mem_iff).trans (hm x)).trans (h.2 x).symm)
  have hn' := hp.nodup_iff.2 hn
  unfold RsL
  refine List.Pairwise.imp₂ ?_ hs hn'
  intro x y h1 h2
  have h1' : x ≤ y := by simpa using h1
  have h2' : x ≠ y := h2
  omega
/-- how many are false -/
def fz (bs : List Bool) : Nat := (bs.filter (fun b => !b)).length
theorem fz_set : ∀ (bs : List Bool) (i : Nat), bs[i]? = some false → fz (bs.set i true) + 1 = fz bs := by
  intro bs
  induction bs with
  | nil => intro i h; simp at h
  | cons b bs ih =>
    intro i h
    cases i with
    | zero =>
      simp only [List.getElem?_cons_zero, Option.some.injEq] at h
      subst h
      simp [fz]
    | succ i =>
      rw [List.getElem?_cons_succ] at h
      have := ih i h
      unfold fz at this ⊢
      cases b <;> simp [List.set_cons_succ] at this ⊢ <;> omega
theorem fz_same (bs : List Bool) (i : Nat) (h : bs[i]? = some true) : bs.set i true = bs := by
  refine List.ext_getElem? fun j => ?_
  rw [List.getElem?_set]
  split
  · rename_i e; subst e; rw [h]; simp [(List.getElem?_eq_some_iff.1 h).1]
  · rfl
theorem fz_le (bs : List Bool) : fz bs ≤ bs.length := List.length_filter_le _ _
theorem fz_rep (n : Nat) : fz (List.replicate n false) = n := by simp [fz]
/-- is number x true? -/
def bt (bs : List Bool) (x : Int) : Prop := 0 ≤ x ∧ bs[x.toNat]? = some true
theorem bt_nat (bs : List Bool) (i : Nat) : bt bs (i : Int) ↔ bs[i]? = some true := by unfold bt; constructor <;> intro h <;> simpa using h
theorem bt_lt {bs : List Bool} {x : Int} (h : bt bs x) : 0 ≤ x ∧ x < (bs.length : Int) := by
  have := (List.getElem?_eq_some_iff.1 h.2).1
  exact ⟨h.1, by have := h.1; omega⟩
theorem bt_set (bs : List Bool) (i : Nat) (hi : i < bs.length) (x : Int) : bt (bs.set i true) x ↔ x = (i : Int) ∨ bt bs x := by
  unfold bt
  by_cases h0 : 0 ≤ x
  · obtain ⟨k, rfl⟩ : ∃ k : Nat, x = (k : Int) := ⟨x.toNat, by omega⟩
    rw [Int.toNat_natCast, List.getElem?_set]
    by_cases e : i = k
    · subst e; simp [hi]
    · simp only [e, if_false]
      constructor
      · intro h; exact .inr h
      · rintro (h | h)
        · exact absurd (by omega) e
        · exact h
  · simp [h0]; omega
theorem bt_rep (n : Nat) (x : Int) : ¬ bt (List.replicate n false) x := by
  rintro ⟨_, h⟩
  rw [List.getElem?_replicate] at h
  split at h <;> simp at h
theorem bt_false {bs : List Bool} {i : Nat} (hi : i < bs.length) (h : ¬ bt bs (i : Int)) : bs[i]? = some false := by
  rw [bt_nat] at h
  rw [List.getElem?_eq_getElem hi] at h ⊢
  cases hb : bs[i] with
  | true => rw [hb] at h; exact absurd rfl h
  | false => rfl
/-- the numbers below k that are true -/
def rz (bs : List Bool) (k : Nat) : List Int := ((List.range k).filter (fun i => bs[i]?.getD false)).map Int.ofNat
theorem rz_succ (bs : List Bool) (k : Nat) : rz bs (k + 1) = if bs[k]?.getD false = true then rz bs k ++ [(k : Int)] else rz bs k := by
  unfold rz
  rw [List.range_succ, List.filter_append, List.map_append]
  cases h : bs[k]?.getD false <;> simp [h]
theorem rz_rs (bs : List Bool) (k : Nat) : RsL (rz bs k) := by
  unfold RsL rz
  rw [List.pairwise_map]
  refine List.Pairwise.imp ?_ (List.pairwise_lt_range.filter _)
  intro a b h
  show (a : Int) < (b : Int)
  omega
theorem rz_mem (bs : List Bool) (x : Int) : x ∈ rz bs bs.length ↔ bt bs x := by
  unfold rz
  rw [List.mem_map]
  constructor
  · rintro ⟨i, hi, rfl⟩
    rw [List.mem_filter, List.mem_range] at hi
    show bt bs ((i : Nat) : Int)
    rw [bt_nat, List.getElem?_eq_getElem hi.1]
    have := hi.2
    rw [List.getElem?_eq_getElem hi.1] at this
    simpa using this
  · intro h
    refine ⟨x.toNat, ?_, ?_⟩
    · rw [List.mem_filter, List.mem_range]
      have := bt_lt h
      exact ⟨by omega, by rw [h.2]; rfl⟩
    · show ((x.toNat : Nat) : Int) = x
      have := h.1
      omega
theorem rz_len (bs : List Bool) (k : Nat) : (rz bs k).length ≤ k := by
  unfold rz
  rw [List.length_map]
  exact Nat.le_trans (List.length_filter_le _ _) (by simp)
/-- true numbers that are closed and can be come to are the rising list -/
theorem Rl.bits {N : Nat} {wy : Int → List Int} {a : Int} {xs : List Int} {bs : List Bool} (h : Rl N wy a xs) (hl : bs.length = N) (h0 : bt bs a) (h1 : ∀ x, bt bs x → ∀ y, y ∈ wy x → bt bs y) (h2 : ∀ x, bt bs x → Rc wy a x) : rz bs N = xs ∧ ∀ x, bt bs x ↔ x ∈ xs := by
  have hm : ∀ x, bt bs x ↔ x ∈ xs := fun x => ⟨fun q => (h.2 x).2 ⟨by have := bt_lt q; rw [hl] at this; exact this, h2 x q⟩, fun q => ((h.2 x).1 q).2 (bt bs) h0 h1⟩
  refine ⟨?_, hm⟩
  subst hl
  exact RsL.ext (rz_rs _ _) h.1 (fun x => (rz_mem bs x).trans (hm x))
/-- a chain of so many ways -/
def Cn (wy : Int → List Int) : Nat → Int → Prop
  | 0, _ => True
  | n + 1, a => ∃ y, y ∈ wy a ∧ Cn wy n y
theorem Cn.less {wy : Int → List Int} : ∀ {n : Nat} {a : Int}, Cn wy (n + 1) a → Cn wy n a := by
  intro n
  induction n with
  | zero => intro a _; trivial
  | succ n ih =>
    rintro a ⟨y, hy, h⟩
    exact ⟨y, hy, ih h⟩
theorem Cn.le {wy : Int → List Int} {n m : Nat} {a : Int} (h : Cn wy n a) (hm : m ≤ n) : Cn wy m a := by
  obtain ⟨k, rfl⟩ : ∃ k, n = m + k := ⟨n - m, by omega⟩
  clear hm
  induction k with
  | zero => exact h
  | succ k ih => exact ih (Cn.less h)

theorem filt_le {p q : Int → Bool} (h : ∀ x, p x = true → q x = true) : ∀ l : List Int, (l.filter p).length ≤ (l.filter q).length ∧ ((l.filter p).length = (l.filter q).length → ∀ x ∈ l, q x = true → p x = true) := by
  intro l
  induction l with
  | nil => simp
  | cons a l ih =>
    rw [List.filter_cons, List.filter_cons]
    cases hp : p a with
    | true =>
      rw [h a hp]
      simp only [if_true, List.length_cons]
      refine ⟨by omega, fun e x hx hq => ?_⟩
      rcases List.mem_cons.1 hx with rfl | hx
      · exact hp
      · exact ih.2 (by omega) x hx hq
    | false =>
      cases hq' : q a with
      | true =>
        simp only [if_true, List.length_cons]
        refine ⟨by simp; omega, fun e => ?_⟩
        exfalso
        simp at e
        omega
      | false =>
        refine ⟨by simpa using ih.1, fun e x hx hq => ?_⟩
        rcases List.mem_cons.1 hx with rfl | hx
        · rw [hq'] at hq; cases hq
        · exact ih.2 (by simpa using e) x hx hq
theorem Cn.all {wy : Int → List Int} {l : List Int} (hc : ∀ x ∈ l, ∀ y, y ∈ wy x → y ∈ l) : ∀ x ∈ l, Cn wy l.length x → ∀ n, Cn wy n x := by
  classical
  have stable : ∀ k, (∀ x ∈ l, Cn wy k x → Cn wy (k + 1) x) → ∀ n, ∀ x ∈ l, Cn wy k x → Cn wy (k + n) x := by
    intro k hk n
    induction n with
    | zero => exact fun x _ h => h
    | succ n ih =>
      intro x hx h
      have step : ∀ m x, x ∈ l → Cn wy (k + m) x → Cn wy (k + m + 1) x := by
        intro m
        induction m with
        | zero => exact fun x hx h => hk x hx h
        | succ m ihm =>
          rintro x hx ⟨y, hy, h⟩
          exact ⟨y, hy, ihm y (hc x hx y hy) h⟩
      exact step n x hx (ih x hx h)
  have count : ∀ k, (∃ j, j < k ∧ ∀ x ∈ l, Cn wy j x → Cn wy (j + 1) x) ∨ k ≤ (l.filter (fun x => decide (¬ Cn wy k x))).length := by
    intro k
    induction k with
    | zero => exact .inr (Nat.zero_le _)
    | succ k ih =>
      rcases ih with ⟨j, hj, h⟩ | ih
      · exact .inl ⟨j, by omega, h⟩
      · have m := filt_le (p := fun x => decide (¬ Cn wy k x)) (q := fun x => decide (¬ Cn wy (k + 1) x)) (fun x hx => by
          simp only [decide_eq_true_eq] at hx ⊢
          exact fun q => hx (Cn.less q)) l
        by_cases e : (l.filter (fun x => decide (¬ Cn wy k x))).length = (l.filter (fun x => decide (¬ Cn wy (k + 1) x))).length
        · refine .inl ⟨k, by omega, fun x hx h => Classical.byContradiction fun q => ?_⟩
          have := m.2 e x hx (by simpa using q)
          simp only [decide_eq_true_eq] at this
          exact this h
        · exact .inr (by have := m.1; omega)
  intro x hx h n
  rcases count (l.length + 1) with ⟨j, hj, q⟩ | q
  · have h1 := stable j q n x hx (h.le (by omega))
    exact h1.le (by omega)
  · have := List.length_filter_le (fun x => decide (¬ Cn wy (l.length + 1) x)) l
    omega
/-- how deep -/
def Dp (wy : Int → List Int) (a : Int) (d : Int) : Prop := (0 ≤ d ∧ Cn wy d.toNat a ∧ ¬ Cn wy (d.toNat + 1) a) ∨ (d = -1 ∧ ∀ n, Cn wy n a)
theorem Dp.uniq {wy : Int → List Int} {a d e : Int} (h : Dp wy a d) (k : Dp wy a e) : d = e := by
  rcases h with ⟨h0, h1, h2⟩ | ⟨h0, h1⟩ <;> rcases k with ⟨k0, k1, k2⟩ | ⟨k0, k1⟩
  · rcases Nat.lt_trichotomy d.toNat e.toNat with q | q | q
    · exact absurd (k1.le (by omega)) h2
    · omega
    · exact absurd (h1.le (by omega)) k2
  · exact absurd (k1 _) h2
  · exact absurd (h1 _) k2
  · omega
theorem Dp.ex (wy : Int → List Int) (a : Int) : ∃ d, Dp wy a d := by
  classical
  by_cases h : ∀ n, Cn wy n a
  · exact ⟨-1, .inr ⟨rfl, h⟩⟩
  · have : ∃ n, ¬ Cn wy n a := Classical.byContradiction fun q => h fun n => Classical.byContradiction fun z => q ⟨n, z⟩
    obtain ⟨n, hn⟩ := this
    clear h
    induction n with
    | zero => exact absurd trivial hn
    | succ n ih =>
      by_cases h : Cn wy n a
      · exact ⟨(n : Int), .inl ⟨by omega, by simpa using h, by simpa using hn⟩⟩
      · exact ih h
end Go.Proofs.YtcdlhfodeckleaaDoor.Lt

namespace Go.Proofs.YtcdlhfodeckleaaDoor.Lt
open Go.RowKit Wd

theorem fR_zero {ef : Nat → Int} {b e : Nat} (h : (fR ef b e).2 = 0) : ∀ l, b ≤ l → l < e → ef l = 0 := by
  intro l h1 h2
  unfold fR at h
  cases hfd : (List.range' b (e - b)).find? (fun n => decide (ef n ≠ 0)) with
  | none =>
    have := List.find?_eq_none.1 hfd l (by rw [List.mem_range'_1]; omega)
    simpa using this
  | some m =>
    rw [hfd] at h
    have := List.find?_some hfd
    simp only at h
    simp [h] at this
theorem wF_none {cs : List Int} {nf nt : Nat} : ∀ (fs : List (Int × Int)), (wF cs nf nt fs).2 = 0 → ∀ f ∈ fs, ∀ a : Nat, f.1.toNat ≤ a → a < f.2.toNat → wA cs nf nt f a = 0 := by
  intro fs
  induction fs with
  | nil => intro _ f hf; cases hf
  | cons g r ih =>
    intro h f hf a h1 h2
    unfold wF at h
    split at h
    · rename_i q
      rcases List.mem_cons.1 hf with rfl | hf
      · exact fR_zero q a h1 h2
      · exact ih h f hf a h1 h2
    · rename_i q
      exact absurd h q
/-- a program that may be -/
structure May (cs : List Int) (fs : List (Int × Int)) (nt : Nat) : Prop where
  nc : cs.length ≤ 4096
  nf : fs.length ≤ 256
  p : Prt fs cs.length
  w : ∀ (j : Nat) (f : Int × Int) (a : Nat) (x : Int), fs[j]? = some f → f.1 ≤ (a : Int) → (a : Int) < f.2 → cs[a]? = some x → wE fs.length nt f (a : Nat) x = 0
theorem may_of {cs : List Int} {fs : List (Int × Int)} {ts : List Tb} (h : (chk cs fs ts).2 = 0) : May cs fs ts.length := by
  unfold chk at h
  split at h
  · cases h
  · rename_i z
    split at h
    · rename_i q; exact absurd h q
    · rename_i q
      have hp := prt_of (Classical.byContradiction q)
      split at h
      · rename_i q2; exact absurd h q2
      · refine ⟨by omega, by omega, hp, fun j f a x hf h1 h2 hx => ?_⟩
        have := wF_none fs h f (List.mem_of_getElem? hf) a (by omega) (by omega)
        unfold wA at this
        rw [hx] at this
        exact this
/-- where a word goes on -/
def wN (cs : List Int) (a : Int) : List Int := nxt (dI (cs[a.toNat]?.getD 0)) a
theorem wN_at {cs : List Int} {a : Nat} {x : Int} (h : cs[a]? = some x) : wN cs (a : Int) = nxt (dI x) (a : Int) := by
  unfold wN
  rw [Int.toNat_natCast, h]
  rfl
theorem nxt_mem {i : Int × Int × Int × Int × Int} {a y : Int} (h : y ∈ nxt i a) : (hT i.1 = true ∧ y = i.2.2.2.2) ∨ (en i.1 = false ∧ y = a + 1) := by
  unfold nxt at h
  split at h
  · rename_i e
    left
    refine ⟨by unfold hT; simp [e], by simpa using h⟩
  · split at h
    · cases h
    · rename_i e1
      have e1' : en i.1 = false := by simpa using e1
      split at h
      · exact .inr ⟨e1', by simpa using h⟩
      · rename_i e2
        have e2' : hT i.1 = true := Classical.byContradiction fun q => e2 (.inl (by simpa using q))
        split at h
        · simp only [List.mem_cons, List.not_mem_nil, or_false] at h
          rcases h with h | h
          · exact .inl ⟨e2', h⟩
          · exact .inr ⟨e1', h⟩
        · simp only [List.mem_cons, List.not_mem_nil, or_false] at h
          rcases h with h | h
          · exact .inr ⟨e1', h⟩
          · exact .inl ⟨e2', h⟩
/-- a word goes on within its function -/
theorem May.next {cs : List Int} {fs : List (Int × Int)} {nt : Nat} (h : May cs fs nt) {j : Nat} {f : Int × Int} (hf : fs[j]? = some f) {a : Int} (h1 : f.1 ≤ a) (h2 : a < f.2) {y : Int} (hy : y ∈ wN cs a) : f.1 ≤ y ∧ y < f.2 := by
  have hi := h.p.i f (List.mem_of_getElem? hf)
  obtain ⟨b, rfl⟩ : ∃ b : Nat, a = (b : Int) := ⟨a.toNat, by omega⟩
  have hb : b < cs.length := by omega
  have hx := List.getElem?_eq_getElem hb
  have hw := h.w j f b _ hf h1 h2 hx
  rw [wN_at hx] at hy
  generalize cs[b] = x at hw hy
  unfold wE at hw
  split at hw
  · cases hw
  · split at hw
    · cases hw
    · rename_i q
      split at hw
      · cases hw
      · split at hw
        · cases hw
        · split at hw
          · cases hw
          · rename_i q4
            rcases nxt_mem hy with ⟨e1, rfl⟩ | ⟨e1, rfl⟩
            · exact ⟨Classical.byContradiction fun z => q ⟨e1, .inl (by omega)⟩, Classical.byContradiction fun z => q ⟨e1, .inr (by omega)⟩⟩
            · have : ¬ (b : Int) = f.2 - 1 := fun z => q4 ⟨z, e1⟩
              omega
theorem May.rc {cs : List Int} {fs : List (Int × Int)} {nt : Nat} (h : May cs fs nt) {j : Nat} {f : Int × Int} (hf : fs[j]? = some f) {x : Int} (hx : Rc (wN cs) f.1 x) : f.1 ≤ x ∧ x < f.2 := by
  have hi := h.p.i f (List.mem_of_getElem? hf)
  exact hx (fun x => f.1 ≤ x ∧ x < f.2) ⟨Int.le_refl _, by omega⟩ (fun x q y hy => h.next hf q.1 q.2 hy)
/-- does an operation name a function? -/
def cO (sp : Bool) (o : Int) : Bool := decide (o = 20) || (sp && decide (o = 22))
/-- what a word names, if it does -/
def cW (cs : List Int) (sp : Bool) (x : Int) : Option Int := if cO sp (dI (cs[x.toNat]?.getD 0)).1 = true then some (dI (cs[x.toNat]?.getD 0)).2.2.2.2 else none
/-- what words name -/
def nmL (cs : List Int) (sp : Bool) (xs : List Int) : List Int := xs.filterMap (cW cs sp)
theorem nmL_snoc (cs : List Int) (sp : Bool) (xs : List Int) (x : Int) : nmL cs sp (xs ++ [x]) = if cO sp (dI (cs[x.toNat]?.getD 0)).1 = true then nmL cs sp xs ++ [(dI (cs[x.toNat]?.getD 0)).2.2.2.2] else nmL cs sp xs := by
  unfold nmL
  rw [List.filterMap_append]
  unfold cW
  by_cases h : cO sp (dI (cs[x.toNat]?.getD 0)).1 = true
  · simp [h]
  · simp [h]
theorem dI_imm {n : Int} (ho : (dI n).1 = 20 ∨ (dI n).1 = 22) : 0 ≤ (dI n).2.2.2.2 := by
  unfold dI at ho ⊢
  split at ho
  · rename_i q
    rw [if_pos q]
    simp only at ho ⊢
    unfold dE at q
    split at q
    · cases q
    · split at q
      · rename_i hf
        have hop : opOf n = 20 ∨ opOf n = 22 := by omega
        unfold fit fitB at hf
        rw [decide_eq_true_eq] at hf
        have h3 := hf.2.2.2.1
        have h4 : fl (sh (opOf n)) = 0 := by rcases hop with e | e <;> rw [e] <;> decide
        omega
      · cases q
  · omega
/-- what a word names is a function -/
theorem May.named {cs : List Int} {fs : List (Int × Int)} {nt : Nat} (h : May cs fs nt) {sp : Bool} {x y : Int} (hx : 0 ≤ x) (hl : x < (cs.length : Int)) (hy : cW cs sp x = some y) : 0 ≤ y ∧ y < (fs.length : Int) := by
  obtain ⟨b, rfl⟩ : ∃ b : Nat, x = (b : Int) := ⟨x.toNat, by omega⟩
  have hb : b < cs.length := by omega
  have hg := List.getElem?_eq_getElem hb
  obtain ⟨j, f, hf, f1, f2⟩ := h.p.has b hb
  have hw := h.w j f b _ hf f1 f2 hg
  unfold cW at hy
  rw [Int.toNat_natCast, hg] at hy
  simp only [Option.getD_some] at hy
  generalize cs[b] = n at hw hy
  split at hy
  · rename_i ho
    injection hy with hy
    have ho' : (dI n).1 = 20 ∨ (dI n).1 = 22 := by
      unfold cO at ho
      cases sp <;> simp at ho <;> omega
    have := dI_imm ho'
    subst hy
    refine ⟨this, ?_⟩
    unfold wE at hw
    split at hw
    · cases hw
    · split at hw
      · cases hw
      · split at hw
        · cases hw
        · rename_i q
          exact Classical.byContradiction fun z => q ⟨ho', by omega⟩
  · cases hy
/-- what the words of a function that can be come to name: given which these words are -/
def nmF (cs : List Int) (sp : Bool) (rch : Int → List Int) (f : Int) : List Int := nmL cs sp (rch f)
theorem nmL_mem {cs : List Int} {sp : Bool} {xs : List Int} {y : Int} : y ∈ nmL cs sp xs ↔ ∃ x ∈ xs, cW cs sp x = some y := by
  unfold nmL
  rw [List.mem_filterMap]
end Go.Proofs.YtcdlhfodeckleaaDoor.Lt
