/-
  The plain side of layer 17 (policy): edges, what Check tells of them, and where paths lead, as functions of lists and of numbers. No conditions but those that each theorem names.
-/
import Derived.Test.YtcoaefojamhloaaGnGrd
namespace Go.Proofs.Ytcoaefojamhloaa.Lt

/-- an edge -/
structure Eg where
  f : Int
  t : Int
def eE (x : Eg) : List Value := [.int .i64 x.f, .int .i64 x.t]
theorem eE_len (x : Eg) : (eE x).length = 2 := rfl
/-- is it a domain? -/
def dmB (n d : Int) : Bool := decide (0 ≤ d) && decide (d < n)
/-- may the edge be? -/
def egB (n : Int) (x : Eg) : Bool := dmB n x.f && dmB n x.t && decide (x.f ≠ x.t)
theorem dmB_iff {n d : Int} : dmB n d = true ↔ 0 ≤ d ∧ d < n := by simp [dmB]
theorem egB_iff {n : Int} {x : Eg} : egB n x = true ↔ (0 ≤ x.f ∧ x.f < n) ∧ (0 ≤ x.t ∧ x.t < n) ∧ x.f ≠ x.t := by simp [egB, dmB, and_assoc]
/-- the first edge that may not be -/
def chkL (n : Int) (j : Nat) : List Eg → Int × Int
  | [] => (0, 0)
  | x :: r => if egB n x = true then chkL n (j + 1) r else ((j : Int), 170)
def chkP (n : Int) (l : List Eg) : Int × Int := if n < 1 ∨ 16 < n then (0, 1) else chkL n 0 l
/-- the edges may be -/
def Okl (n : Int) (l : List Eg) : Prop := ∀ x ∈ l, egB n x = true
theorem chkL_ok {n : Int} : ∀ (l : List Eg) (j : Nat), (chkL n j l).2 = 0 → Okl n l ∧ chkL n j l = (0, 0) := by
  intro l
  induction l with
  | nil => intro j _; exact ⟨fun x h => (List.not_mem_nil h).elim, rfl⟩
  | cons y r ih =>
    intro j h
    unfold chkL at h ⊢
    by_cases hy : egB n y = true
    · rw [if_pos hy] at h ⊢
      refine ⟨fun x hx => ?_, (ih _ h).2⟩
      rcases List.mem_cons.1 hx with rfl | hx
      · exact hy
      · exact (ih _ h).1 x hx
    · rw [if_neg hy] at h
      exact absurd h (by simp)
theorem chkL_good {n : Int} : ∀ (l : List Eg) (j : Nat), Okl n l → chkL n j l = (0, 0) := by
  intro l
  induction l with
  | nil => intro j _; rfl
  | cons y r ih =>
    intro j h
    unfold chkL
    rw [if_pos (h y (List.mem_cons_self ..))]
    exact ih _ (fun x hx => h x (List.mem_cons_of_mem _ hx))
theorem chkP_ok {n : Int} {l : List Eg} (h : (chkP n l).2 = 0) : 1 ≤ n ∧ n ≤ 16 ∧ Okl n l ∧ chkP n l = (0, 0) := by
  unfold chkP at h ⊢
  by_cases hn : n < 1 ∨ 16 < n
  · rw [if_pos hn] at h
    exact absurd h (by decide)
  · rw [if_neg hn] at h ⊢
    exact ⟨by omega, by omega, (chkL_ok l 0 h).1, (chkL_ok l 0 h).2⟩
theorem chkP_good {n : Int} {l : List Eg} (h1 : 1 ≤ n) (h2 : n ≤ 16) (h : Okl n l) : chkP n l = (0, 0) := by
  unfold chkP
  rw [if_neg (by omega)]
  exact chkL_good l 0 h
theorem chkL_vals {n : Int} : ∀ (l : List Eg) (j : Nat), (chkL n j l).2 = 0 ∨ (chkL n j l).2 = 170 := by
  intro l
  induction l with
  | nil => intro j; exact .inl rfl
  | cons y r ih =>
    intro j
    unfold chkL
    by_cases hy : egB n y = true
    · rw [if_pos hy]; exact ih _
    · rw [if_neg hy]; exact .inr rfl
/-- why nothing is told -/
def wrgP (n : Int) (l : List Eg) (ds : List Int) : Int := if (chkP n l).2 = 0 then (if ds.all (dmB n) = true then 0 else 1) else (chkP n l).2
theorem wrgP_ok {n : Int} {l : List Eg} {ds : List Int} (h : wrgP n l ds = 0) : 1 ≤ n ∧ n ≤ 16 ∧ Okl n l ∧ ∀ d ∈ ds, 0 ≤ d ∧ d < n := by
  unfold wrgP at h
  by_cases h0 : (chkP n l).2 = 0
  · rw [if_pos h0] at h
    obtain ⟨a, b, c, _⟩ := chkP_ok h0
    refine ⟨a, b, c, ?_⟩
    by_cases h1 : ds.all (dmB n) = true
    · intro d hd
      exact dmB_iff.1 (List.all_eq_true.1 h1 d hd)
    · rw [if_neg h1] at h
      exact absurd h (by decide)
  · rw [if_neg h0] at h
    exact absurd h h0
theorem wrgP_good {n : Int} {l : List Eg} {ds : List Int} (h1 : 1 ≤ n) (h2 : n ≤ 16) (h : Okl n l) (hd : ∀ d ∈ ds, 0 ≤ d ∧ d < n) : wrgP n l ds = 0 := by
  unfold wrgP
  rw [chkP_good h1 h2 h, if_pos rfl, if_pos (List.all_eq_true.2 fun d hx => dmB_iff.2 (hd d hx))]
/-- an edge from one to another -/
def edgB (l : List Eg) (a b : Int) : Bool := l.any fun x => decide (x.f = a) && decide (x.t = b)

/-! ### relations -/
abbrev Rl := Nat → Nat → Bool
/-- each leads to itself -/
def dg (k : Nat) : Rl := fun i j => decide (i = j) && decide (i < k)
def addE (r : Rl) (x : Eg) : Rl := fun i j => r i j || (decide (i = x.f.toNat) && decide (j = x.t.toNat))
/-- one more is let in -/
def jn (o : Nat) (r : Rl) : Rl := fun i j => r i j || (r i o && r o j)
def wsh : Nat → Rl → Rl
  | 0, r => r
  | k + 1, r => jn k (wsh k r)
def strt (n : Nat) (l : List Eg) : Rl := l.foldl addE (dg n)
/-- what the program's table tells -/
def pthR (n : Nat) (l : List Eg) : Rl := wsh n (strt n l)
/-- a path -/
inductive Pt (l : List Eg) : Nat → Nat → Prop
  | refl (a : Nat) : Pt l a a
  | step {a b : Nat} (x : Eg) : Pt l a b → x ∈ l → x.f.toNat = b → Pt l a x.t.toNat
theorem Pt.trans {l : List Eg} {a b c : Nat} (h : Pt l a b) (k : Pt l b c) : Pt l a c := by
  induction k with
  | refl => exact h
  | step x _ hx e ih => exact Pt.step x ih hx e
theorem Pt.more {l l' : List Eg} (hl : ∀ x ∈ l, x ∈ l') {a b : Nat} (h : Pt l a b) : Pt l' a b := by
  induction h with
  | refl => exact Pt.refl _
  | step x _ hx e ih => exact Pt.step x ih (hl x hx) e
/-- where a path leads within the domains -/
theorem Pt.lt {n : Int} {l : List Eg} (hl : Okl n l) {a b : Nat} (h : Pt l a b) (ha : (a : Int) < n) : (b : Int) < n := by
  induction h with
  | refl => exact ha
  | step x _ hx e ih =>
    have := (egB_iff.1 (hl x hx)).2.1
    omega
theorem foldl_addE (l : List Eg) : ∀ (r : Rl) (i j : Nat), l.foldl addE r i j = true ↔ r i j = true ∨ ∃ x ∈ l, i = x.f.toNat ∧ j = x.t.toNat := by
  induction l with
  | nil => intro r i j; simp
  | cons y l ih =>
    intro r i j
    rw [List.foldl_cons, ih]
    simp only [addE, Bool.or_eq_true, Bool.and_eq_true, decide_eq_true_eq, List.mem_cons, exists_eq_or_imp, or_assoc]
theorem strt_iff {n : Nat} {l : List Eg} {i j : Nat} : strt n l i j = true ↔ (i = j ∧ i < n) ∨ ∃ x ∈ l, i = x.f.toNat ∧ j = x.t.toNat := by
  unfold strt
  rw [foldl_addE]
  simp [dg]
/-- all that is so is within the domains -/
def Wn (n : Nat) (r : Rl) : Prop := ∀ i j, r i j = true → i < n ∧ j < n
theorem Wn.strt {n : Nat} {l : List Eg} (hl : Okl (n : Int) l) : Wn n (strt n l) := by
  intro i j h
  rcases strt_iff.1 h with ⟨e, h⟩ | ⟨x, hx, e1, e2⟩
  · exact ⟨h, by omega⟩
  · have := egB_iff.1 (hl x hx)
    omega
theorem jn_iff {o : Nat} {r : Rl} {i j : Nat} : jn o r i j = true ↔ r i j = true ∨ (r i o = true ∧ r o j = true) := by simp [jn]
theorem Wn.jn {n o : Nat} {r : Rl} (h : Wn n r) : Wn n (jn o r) := by
  intro i j k
  rcases jn_iff.1 k with k | ⟨k1, k2⟩
  · exact h i j k
  · exact ⟨(h _ _ k1).1, (h _ _ k2).2⟩
theorem Wn.wsh {n : Nat} {r : Rl} (h : Wn n r) : ∀ k, Wn n (wsh k r)
  | 0 => h
  | k + 1 => (Wn.wsh h k).jn
theorem wsh_mono {r : Rl} {i j : Nat} (h : r i j = true) : ∀ k, wsh k r i j = true
  | 0 => h
  | k + 1 => jn_iff.2 (.inl (wsh_mono h k))
theorem wsh_sound {l : List Eg} {r : Rl} (h : ∀ i j, r i j = true → Pt l i j) : ∀ k i j, wsh k r i j = true → Pt l i j
  | 0, i, j, e => h i j e
  | k + 1, i, j, e => by
    rcases jn_iff.1 e with e | ⟨e1, e2⟩
    · exact wsh_sound h k i j e
    · exact (wsh_sound h k _ _ e1).trans (wsh_sound h k _ _ e2)
/-- paths go on through all that were let in -/
theorem wsh_trans (r : Rl) : ∀ k i m j, m < k → wsh k r i m = true → wsh k r m j = true → wsh k r i j = true
  | 0, i, m, j, h, _, _ => by omega
  | k + 1, i, m, j, h, a, b => by
    have ih := wsh_trans r k
    have a' := jn_iff.1 a
    have b' := jn_iff.1 b
    refine jn_iff.2 ?_
    by_cases hm : m = k
    · subst hm
      have a2 : wsh m r i m = true := a'.elim id (fun q => q.1)
      have b2 : wsh m r m j = true := b'.elim id (fun q => q.2)
      exact .inr ⟨a2, b2⟩
    · have hm' : m < k := by omega
      rcases a' with a | ⟨a1, a2⟩ <;> rcases b' with b | ⟨b1, b2⟩
      · exact .inl (ih i m j hm' a b)
      · exact .inr ⟨ih i m k hm' a b1, b2⟩
      · exact .inr ⟨a1, ih k m j hm' a2 b⟩
      · exact .inr ⟨a1, b2⟩
/-- the table tells just where paths lead -/
theorem pthR_iff {n : Nat} {l : List Eg} (hl : Okl (n : Int) l) {a b : Nat} (ha : a < n) : pthR n l a b = true ↔ Pt l a b := by
  refine ⟨wsh_sound (fun i j h => ?_) n a b, fun h => ?_⟩
  · rcases strt_iff.1 h with ⟨rfl, _⟩ | ⟨x, hx, rfl, rfl⟩
    · exact Pt.refl _
    · exact Pt.step x (Pt.refl _) hx rfl
  · induction h with
    | refl => exact wsh_mono (strt_iff.2 (.inl ⟨rfl, ha⟩)) n
    | step x h1 hx e ih =>
      subst e
      have hf := egB_iff.1 (hl x hx)
      exact wsh_trans _ n a x.f.toNat x.t.toNat (by omega) ih (wsh_mono (strt_iff.2 (.inr ⟨x, hx, rfl, rfl⟩)) n)

/-! ### the document's way -/
abbrev St := Nat → Bool
def upS (s : St) (k : Nat) : St := fun i => s i || decide (i = k)
def stS (s : St) (x : Eg) : St := if s x.f.toNat = true then upS s x.t.toNat else s
def rnd (l : List Eg) (s : St) : St := l.foldl stS s
def itS (l : List Eg) : Nat → St → St
  | 0, s => s
  | k + 1, s => rnd l (itS l k s)
theorem upS_iff {s : St} {k i : Nat} : upS s k i = true ↔ s i = true ∨ i = k := by simp [upS]
theorem stS_mono {s : St} {x : Eg} {i : Nat} (h : s i = true) : stS s x i = true := by
  unfold stS
  split
  · exact upS_iff.2 (.inl h)
  · exact h
theorem rnd_mono (l : List Eg) : ∀ {s : St} {i : Nat}, s i = true → rnd l s i = true := by
  induction l with
  | nil => intro s i h; exact h
  | cons x l ih => intro s i h; exact ih (s := stS s x) (stS_mono h)
theorem itS_mono {l : List Eg} {s : St} {i : Nat} (h : s i = true) : ∀ k, itS l k s i = true
  | 0 => h
  | k + 1 => rnd_mono l (itS_mono h k)
theorem rnd_sound {l' : List Eg} (a : Nat → Prop) (l : List Eg) (hl : ∀ x ∈ l, x ∈ l') : ∀ {s : St}, (∀ i, s i = true → ∃ k, a k ∧ Pt l' k i) → ∀ i, rnd l s i = true → ∃ k, a k ∧ Pt l' k i := by
  induction l with
  | nil => intro s h i e; exact h i e
  | cons x l ih =>
    intro s h i e
    refine ih (fun y hy => hl y (List.mem_cons_of_mem _ hy)) (s := stS s x) (fun i e => ?_) i e
    unfold stS at e
    by_cases hx : s x.f.toNat = true
    · rw [if_pos hx] at e
      rcases upS_iff.1 e with e | rfl
      · exact h i e
      · obtain ⟨k, hk, hp⟩ := h _ hx
        exact ⟨k, hk, Pt.step x hp (hl x (List.mem_cons_self ..)) rfl⟩
    · rw [if_neg hx] at e
      exact h i e
theorem itS_sound {l : List Eg} {s : St} : ∀ k i, itS l k s i = true → ∃ a, s a = true ∧ Pt l a i
  | 0, i, e => ⟨i, e, Pt.refl _⟩
  | k + 1, i, e => rnd_sound (fun a => s a = true) l (fun _ h => h) (itS_sound k) i e
/-- closed under all edges -/
def Cl (l : List Eg) (s : St) : Prop := ∀ x ∈ l, s x.f.toNat = true → s x.t.toNat = true
/-- a round of a set that is not closed finds one more -/
theorem rnd_more (l : List Eg) : ∀ {s : St}, ¬ Cl l s → ∃ x ∈ l, s x.t.toNat = false ∧ rnd l s x.t.toNat = true := by
  induction l with
  | nil => intro s h; exact absurd (fun x hx => (List.not_mem_nil hx).elim) h
  | cons y l ih =>
    intro s h
    by_cases hy : s y.f.toNat = true ∧ s y.t.toNat = false
    · refine ⟨y, List.mem_cons_self .., hy.2, rnd_mono l (s := stS s y) ?_⟩
      unfold stS
      rw [if_pos hy.1]
      exact upS_iff.2 (.inr rfl)
    · have e : stS s y = s := by
        unfold stS
        by_cases h1 : s y.f.toNat = true
        · rw [if_pos h1]
          have h2 : s y.t.toNat = true := by
            cases h3 : s y.t.toNat
            · exact absurd ⟨h1, h3⟩ hy
            · rfl
          funext i
          by_cases hi : i = y.t.toNat
          · subst hi; simp [upS, h2]
          · simp [upS, hi]
        · rw [if_neg h1]
      have h' : ¬ Cl l s := fun k => h (fun x hx e1 => by
        rcases List.mem_cons.1 hx with rfl | hx
        · cases h3 : s x.t.toNat
          · exact absurd ⟨e1, h3⟩ hy
          · rfl
        · exact k x hx e1)
      obtain ⟨x, hx, a, b⟩ := ih h'
      refine ⟨x, List.mem_cons_of_mem _ hx, a, ?_⟩
      show rnd l (stS s y) x.t.toNat = true
      rw [e]
      exact b
/-- how many are in -/
def cnt (s : St) : Nat → Nat
  | 0 => 0
  | n + 1 => cnt s n + if s n = true then 1 else 0
theorem cnt_le (s : St) : ∀ n, cnt s n ≤ n
  | 0 => Nat.le_refl _
  | n + 1 => by
    have := cnt_le s n
    unfold cnt
    split <;> omega
theorem cnt_mono {s t : St} (h : ∀ i, s i = true → t i = true) : ∀ n, cnt s n ≤ cnt t n
  | 0 => Nat.le_refl _
  | n + 1 => by
    have := cnt_mono h n
    unfold cnt
    by_cases hs : s n = true
    · rw [if_pos hs, if_pos (h n hs)]; omega
    · rw [if_neg hs]; split <;> omega
theorem cnt_lt {s t : St} (h : ∀ i, s i = true → t i = true) {k : Nat} (hs : s k = false) (ht : t k = true) : ∀ n, k < n → cnt s n < cnt t n
  | 0, hk => by omega
  | n + 1, hk => by
    unfold cnt
    by_cases e : k = n
    · subst e
      have := cnt_mono h k
      rw [if_neg (by rw [hs]; decide), if_pos ht]
      omega
    · have := cnt_lt h hs ht n (by omega)
      by_cases h1 : s n = true
      · rw [if_pos h1, if_pos (h n h1)]; omega
      · rw [if_neg h1]; split <;> omega
theorem cnt_pos {s : St} {k : Nat} (h : s k = true) : ∀ n, k < n → 1 ≤ cnt s n
  | 0, hk => by omega
  | n + 1, hk => by
    unfold cnt
    by_cases e : k = n
    · subst e; rw [if_pos h]; omega
    · have := cnt_pos h n (by omega); omega
theorem rnd_cl {l : List Eg} {s : St} (h : Cl l s) : rnd l s = s := by
  induction l with
  | nil => rfl
  | cons y l ih =>
    have e : stS s y = s := by
      unfold stS
      by_cases h1 : s y.f.toNat = true
      · rw [if_pos h1]
        have h2 := h y (List.mem_cons_self ..) h1
        funext i
        by_cases hi : i = y.t.toNat
        · subst hi; simp [upS, h2]
        · simp [upS, hi]
      · rw [if_neg h1]
    show rnd l (stS s y) = s
    rw [e]
    exact ih (fun x hx => h x (List.mem_cons_of_mem _ hx))
theorem itS_count {n : Nat} {l : List Eg} (hl : Okl (n : Int) l) {s : St} {a : Nat} (ha : a < n) (hs : s a = true) : ∀ k, Cl l (itS l k s) ∨ k + 1 ≤ cnt (itS l k s) n
  | 0 => .inr (cnt_pos hs n ha)
  | k + 1 => by
    by_cases hc : Cl l (itS l k s)
    · refine .inl ?_
      show Cl l (rnd l (itS l k s))
      rw [rnd_cl hc]
      exact hc
    · refine .inr ?_
      have h1 := (itS_count hl ha hs k).resolve_left hc
      obtain ⟨x, hx, e1, e2⟩ := rnd_more l hc
      have hx2 := egB_iff.1 (hl x hx)
      have := cnt_lt (s := itS l k s) (t := rnd l (itS l k s)) (fun i h => rnd_mono l h) e1 e2 n (by omega)
      show k + 1 + 1 ≤ cnt (rnd l (itS l k s)) n
      omega
/-- behind as many rounds as there are domains the set is closed -/
theorem itS_cl {n : Nat} {l : List Eg} (hl : Okl (n : Int) l) {s : St} {a : Nat} (ha : a < n) (hs : s a = true) : Cl l (itS l n s) := by
  rcases itS_count hl ha hs n with h | h
  · exact h
  · have := cnt_le (itS l n s) n
    omega
theorem cl_pt {l : List Eg} {s : St} (h : Cl l s) {a b : Nat} (hp : Pt l a b) (ha : s a = true) : s b = true := by
  induction hp with
  | refl => exact ha
  | step x _ hx e ih => exact h x hx (by rw [e]; exact ih)
def sgl (a : Nat) : St := fun i => decide (i = a)
theorem rch_iff {n : Nat} {l : List Eg} (hl : Okl (n : Int) l) {a b : Nat} (ha : a < n) : itS l n (sgl a) b = true ↔ Pt l a b := by
  refine ⟨fun h => ?_, fun h => cl_pt (itS_cl hl ha (by simp [sgl])) h (itS_mono (by simp [sgl]) n)⟩
  obtain ⟨k, hk, hp⟩ := itS_sound n b h
  have : k = a := by simpa [sgl] using hk
  subst this
  exact hp
/-- both ways tell the same -/
theorem rch_pth {n : Nat} {l : List Eg} (hl : Okl (n : Int) l) {a b : Nat} (ha : a < n) : itS l n (sgl a) b = pthR n l a b := by
  rw [Bool.eq_iff_iff, rch_iff hl ha, pthR_iff hl ha]

/-! ### the least one -/
def IsLst (p : St) (m : Nat) : Prop := p m = true ∧ ∀ j, j < m → p j = false
theorem IsLst.uniq {p : St} {a b : Nat} (h : IsLst p a) (k : IsLst p b) : a = b := by
  rcases Nat.lt_trichotomy a b with q | q | q
  · have := k.2 a q
    rw [h.1] at this
    cases this
  · exact q
  · have := h.2 b q
    rw [k.1] at this
    cases this
def lsF (p : St) : Nat → Nat → Nat
  | 0, k => k
  | f + 1, k => if p k = true then k else lsF p f (k + 1)
theorem lsF_spec {p : St} : ∀ (f k d : Nat), p d = true → k ≤ d → d ≤ k + f → (∀ j, j < k → p j = false) → IsLst p (lsF p f k)
  | 0, k, d, hp, h1, h2, h => by
    have : k = d := by omega
    subst this
    exact ⟨hp, h⟩
  | f + 1, k, d, hp, h1, h2, h => by
    unfold lsF
    by_cases hk : p k = true
    · rw [if_pos hk]; exact ⟨hk, h⟩
    · rw [if_neg hk]
      have hk' : p k = false := by simpa using hk
      refine lsF_spec f (k + 1) d hp ?_ (by omega) (fun j hj => ?_)
      · rcases Nat.lt_or_ge k d with q | q
        · exact q
        · have : k = d := by omega
          subst this
          exact absurd hp hk
      · by_cases e : j = k
        · subst e; exact hk'
        · exact h j (by omega)
/-- the least one to which and from which a path leads -/
def both (r : Rl) (d : Nat) : St := fun k => r d k && r k d
def grp (r : Rl) (d : Nat) : Nat := lsF (both r d) d 0
theorem grp_spec {r : Rl} {d : Nat} (h : r d d = true) : IsLst (both r d) (grp r d) := lsF_spec d 0 d (by simp [both, h]) (by omega) (by omega) (fun j hj => by omega)
theorem pth_refl {n : Nat} {l : List Eg} {d : Nat} (hd : d < n) : pthR n l d d = true := wsh_mono (strt_iff.2 (.inl ⟨rfl, hd⟩)) n
def grpL (n : Nat) (l : List Eg) : List Int := (List.range n).map fun d => (grp (pthR n l) d : Int)
def abvL (n : Nat) (l : List Eg) (of : Nat) : List Int := ((List.range n).filter fun d => pthR n l d of).map fun d : Nat => (d : Int)
end Go.Proofs.Ytcoaefojamhloaa.Lt
