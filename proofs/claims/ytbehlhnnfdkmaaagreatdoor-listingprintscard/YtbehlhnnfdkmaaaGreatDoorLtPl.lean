/-
  A program's text in plain words: its lines, and what is left of them once it is too long; why a program has none. No conditions.
-/
import Derived.Test.YtbehlhnnfdkmaaaGreatDoorLtCaseT
namespace Go.Proofs.YtbehlhnnfdkmaaaGreatDoor.Lt
open Go.RowKit Wd

/-- lines, one behind the other -/
def wls (T : ByteArray) (ls : List ByteArray) : ByteArray := ls.foldl wl T
theorem wls_snoc (T : ByteArray) (ls : List ByteArray) (s : ByteArray) : wls T (ls ++ [s]) = wl (wls T ls) s := by unfold wls; rw [List.foldl_append]; rfl
theorem wls_app (T : ByteArray) (ls ms : List ByteArray) : wls T (ls ++ ms) = wls (wls T ls) ms := by unfold wls; rw [List.foldl_append]
/-- what each of a list gives, by its number -/
def ixl {α β : Type} (g : Nat → α → List β) : Nat → List α → List β
  | _, [] => []
  | n, a :: r => g n a ++ ixl g (n + 1) r
theorem ixl_snoc {α β : Type} (g : Nat → α → List β) : ∀ (xs : List α) (n : Nat) (a : α), ixl g n (xs ++ [a]) = ixl g n xs ++ g (n + xs.length) a := by
  intro xs
  induction xs with
  | nil => intro n a; simp [ixl]
  | cons b r ih =>
    intro n a
    rw [List.cons_append]
    show g n b ++ ixl g (n + 1) (r ++ [a]) = (g n b ++ ixl g (n + 1) r) ++ g (n + (r.length + 1)) a
    rw [ih, List.append_assoc]
    congr 3
    omega
theorem ixl_take {α β : Type} (g : Nat → α → List β) {xs : List α} {j : Nat} {a : α} (h : xs[j]? = some a) : ixl g 0 (xs.take (j + 1)) = ixl g 0 (xs.take j) ++ g j a := by
  have hj : j < xs.length := (List.getElem?_eq_some_iff.1 h).1
  rw [take_one h, ixl_snoc]
  congr 2
  simp
  omega
/-- a table's first line -/
def hdT (n : Nat) (df : Bool) : ByteArray := if df = true then ({ data := #[116, 97, 98, 108, 101, 32] } ++ cal 3 (n : Nat)) ++ { data := #[32, 100, 101, 102, 97, 117, 108, 116] } else { data := #[116, 97, 98, 108, 101, 32] } ++ cal 3 (n : Nat)
/-- a table's lines -/
def tbL (n : Nat) (t : List Cs × Bool) : List ByteArray := hdT n t.2 :: t.1.map csT
/-- what a table says -/
def tT (t : Tb) : List Cs × Bool := (t.cs, t.df)
theorem tT_at {ts : List Tb} {j : Nat} {t : Tb} (h : ts[j]? = some t) : (ts.map tT)[j]? = some (tT t) := by rw [List.getElem?_map, h]; rfl

/-- a word's lines -/
def lbL (cs : List Int) (a : Nat) : List ByteArray := (if tg cs a = true then [cal 1 (a : Nat) ++ { data := #[58] }] else []) ++ [wT (cs[a]?.getD 0)]
/-- a function's lines -/
def fnL (cs : List Int) (n : Nat) (f : Int × Int) : List ByteArray := [{ data := #[102, 117, 110, 99, 32] } ++ cal 2 (n : Nat)] ++ (List.range' f.1.toNat (f.2 - f.1).toNat).flatMap (lbL cs)

/-- a line break -/
def nl : ByteArray := { data := #[10] }
/-- lines without an end to a text's length -/
def jl (T : ByteArray) (ls : List ByteArray) : ByteArray := ls.foldl (fun T s => (T ++ s) ++ nl) T
theorem jl_app (T : ByteArray) (ls ms : List ByteArray) : jl T (ls ++ ms) = jl (jl T ls) ms := by unfold jl; rw [List.foldl_append]
theorem jl_snoc (T : ByteArray) (ls : List ByteArray) (s : ByteArray) : jl T (ls ++ [s]) = (jl T ls ++ s) ++ nl := by unfold jl; rw [List.foldl_append]; rfl
theorem jl_one (T s : ByteArray) : jl T [s] = (T ++ s) ++ nl := rfl
theorem jl_le : ∀ (ls : List ByteArray) (T : ByteArray), T.size ≤ (jl T ls).size := by
  intro ls
  induction ls with
  | nil => intro T; exact Nat.le_refl _
  | cons s r ih =>
    intro T
    have := ih ((T ++ s) ++ nl)
    rw [ByteArray.size_append, ByteArray.size_append] at this
    show T.size ≤ (jl ((T ++ s) ++ nl) r).size
    omega
/-- lines of which some are left out once a text is too long -/
def gl (T : ByteArray) (g : Bool × List ByteArray) : ByteArray := if g.1 = true ∧ 262144 < T.size then T else jl T g.2
def gls (T : ByteArray) (gs : List (Bool × List ByteArray)) : ByteArray := gs.foldl gl T
theorem gls_app (T : ByteArray) (a b : List (Bool × List ByteArray)) : gls T (a ++ b) = gls (gls T a) b := by unfold gls; rw [List.foldl_append]
theorem gls_snoc (T : ByteArray) (a : List (Bool × List ByteArray)) (g : Bool × List ByteArray) : gls T (a ++ [g]) = gl (gls T a) g := by unfold gls; rw [List.foldl_append]; rfl
theorem gl_le (T : ByteArray) (g : Bool × List ByteArray) : T.size ≤ (gl T g).size := by
  unfold gl
  split
  · exact Nat.le_refl _
  · exact jl_le _ _
theorem gls_le : ∀ (gs : List (Bool × List ByteArray)) (T : ByteArray), T.size ≤ (gls T gs).size := by
  intro gs
  induction gs with
  | nil => intro T; exact Nat.le_refl _
  | cons g r ih => intro T; exact Nat.le_trans (gl_le T g) (ih _)
/-- what comes out is the whole text, or both are too long -/
theorem gls_jl : ∀ (gs : List (Bool × List ByteArray)) (T : ByteArray), ((jl T (gs.flatMap (·.2))).size ≤ 262144 → gls T gs = jl T (gs.flatMap (·.2))) ∧ (262144 < (jl T (gs.flatMap (·.2))).size → 262144 < (gls T gs).size) := by
  intro gs
  induction gs with
  | nil => intro T; exact ⟨fun _ => rfl, fun h => h⟩
  | cons g r ih =>
    intro T
    have e : jl T ((g :: r).flatMap (·.2)) = jl (jl T g.2) (r.flatMap (·.2)) := by rw [List.flatMap_cons, jl_app]
    rw [e]
    show (_ → gls (gl T g) r = _) ∧ (_ → 262144 < (gls (gl T g) r).size)
    by_cases hg : g.1 = true ∧ 262144 < T.size
    · have h1 := jl_le g.2 T
      have h2 := jl_le (r.flatMap (·.2)) (jl T g.2)
      have h3 : gl T g = T := by unfold gl; rw [if_pos hg]
      rw [h3]
      have h4 := gls_le r T
      exact ⟨fun h => by have := hg.2; omega, fun _ => by have := hg.2; omega⟩
    · have h3 : gl T g = jl T g.2 := by unfold gl; rw [if_neg hg]
      rw [h3]
      exact ih _
theorem gl_stop {T : ByteArray} (h : 262144 < T.size) : ∀ (gs : List (Bool × List ByteArray)), (∀ g ∈ gs, g.1 = true) → gls T gs = T := by
  intro gs
  induction gs with
  | nil => intro _; rfl
  | cons g r ih =>
    intro hg
    have e : gl T g = T := by unfold gl; rw [if_pos ⟨hg g (by simp), h⟩]
    show gls (gl T g) r = T
    rw [e]
    exact ih (fun g h => hg g (by simp [h]))
theorem wls_gls (T : ByteArray) (ls : List ByteArray) : wls T ls = gls T (ls.map (fun s => (true, [s]))) := by
  induction ls generalizing T with
  | nil => rfl
  | cons s r ih =>
    show wls (wl T s) r = gls (gl T (true, [s])) (r.map _)
    rw [ih]
    congr 1
    unfold wl gl jl
    simp only [true_and]
    rfl
/-- a whole text -/
def full (cs : List Int) (fs : List (Int × Int)) (tb : List (List Cs × Bool)) : ByteArray := jl { data := #[] } (ixl tbL 0 tb ++ ixl (fnL cs) 0 fs)
/-- the program's text -/
theorem wls_full (cs : List Int) (fs : List (Int × Int)) (tb : List (List Cs × Bool)) : ((full cs fs tb).size ≤ 262144 → wls (wls { data := #[] } (ixl tbL 0 tb)) (ixl (fnL cs) 0 fs) = full cs fs tb) ∧ (262144 < (full cs fs tb).size → 262144 < (wls (wls { data := #[] } (ixl tbL 0 tb)) (ixl (fnL cs) 0 fs)).size) := by
  rw [← wls_app, wls_gls]
  have := gls_jl ((ixl tbL 0 tb ++ ixl (fnL cs) 0 fs).map (fun s => (true, [s]))) { data := #[] }
  have e : ((ixl tbL 0 tb ++ ixl (fnL cs) 0 fs).map (fun s => (true, [s]))).flatMap (·.2) = ixl tbL 0 tb ++ ixl (fnL cs) 0 fs := by
    generalize ixl tbL 0 tb ++ ixl (fnL cs) 0 fs = l
    induction l with
    | nil => rfl
    | cons a r ih => simp [ih]
  rw [e] at this
  exact this

/-- the first of words that is refused -/
def fsE : List Int → Int
  | [] => 0
  | x :: r => if dE x = 0 then fsE r else dE x
/-- is all there that a function's words name? -/
def thW (nf nt : Nat) (f : Int × Int) (ws : List Int) : Bool := ws.all (fun x => decide (dE x = 0 → thr nf nt f (dI x) = true))
def thA (nf nt : Nat) (cs : List Int) (fs : List (Int × Int)) : Bool := fs.all (fun f => thW nf nt f (wf cs f))
/-- has a program a text, but for words that are refused and for its length? -/
def fts (cs : List Int) (fs : List (Int × Int)) (ts : List Tb) : Bool := ptd fs cs.length && cfs ts && thA fs.length ts.length cs fs
theorem fsE_app (a b : List Int) : fsE (a ++ b) = if fsE a = 0 then fsE b else fsE a := by
  induction a with
  | nil => rfl
  | cons x r ih =>
    show (if dE x = 0 then fsE (r ++ b) else dE x) = if (if dE x = 0 then fsE r else dE x) = 0 then fsE b else if dE x = 0 then fsE r else dE x
    by_cases h : dE x = 0
    · simp only [if_pos h]
      exact ih
    · simp only [if_neg h]
theorem fsE_zero {cs : List Int} : fsE cs = 0 ↔ ∀ x ∈ cs, dE x = 0 := by
  induction cs with
  | nil => simp [fsE]
  | cons x r ih =>
    show (if dE x = 0 then fsE r else dE x) = 0 ↔ _
    by_cases h : dE x = 0
    · simp [h, ih]
    · simp [h]
theorem ckW_is (nf nt : Nat) (f : Int × Int) : ∀ (ws : List Int) (u : Int), ckW nf nt f ws u = if thW nf nt f ws = true then some (if u = 0 then fsE ws else u) else none := by
  intro ws
  induction ws with
  | nil => intro u; unfold ckW thW fsE; simp
  | cons x r ih =>
    intro u
    unfold ckW
    by_cases h : dE x = 0 ∧ thr nf nt f (dI x) = false
    · rw [if_pos h, if_neg]
      unfold thW
      simp [h.1, h.2]
    · rw [if_neg h, ih]
      have e : thW nf nt f (x :: r) = thW nf nt f r := by
        unfold thW
        rw [List.all_cons]
        have : decide (dE x = 0 → thr nf nt f (dI x) = true) = true := decide_eq_true (fun q => by
          cases hq : thr nf nt f (dI x) with
          | true => rfl
          | false => exact absurd ⟨q, hq⟩ h)
        rw [this, Bool.true_and]
      rw [e]
      congr 2
      by_cases hu : u = 0
      · simp only [if_pos hu]
        show _ = if dE x = 0 then fsE r else dE x
        by_cases hd : dE x = 0
        · simp [hd]
        · simp [hd]
      · simp [hu]
theorem ckF_is (nf nt : Nat) (cs : List Int) : ∀ (fs : List (Int × Int)) (u : Int), ckF nf nt cs fs u = if thA nf nt cs fs = true then some (if u = 0 then fsE (fs.flatMap (wf cs)) else u) else none := by
  intro fs
  induction fs with
  | nil => intro u; unfold ckF thA; simp [fsE]
  | cons f r ih =>
    intro u
    unfold ckF
    rw [ckW_is]
    have e : thA nf nt cs (f :: r) = (thW nf nt f (wf cs f) && thA nf nt cs r) := by unfold thA; rw [List.all_cons]
    rw [e]
    cases h1 : thW nf nt f (wf cs f) with
    | false => rfl
    | true =>
      simp only [Bool.true_and, if_true]
      show ckF nf nt cs r _ = _
      rw [ih, List.flatMap_cons, fsE_app]
      congr 2
      by_cases hu : u = 0
      · simp [hu]
      · simp [hu]
theorem wf_part {cs : List Int} : ∀ (fs : List (Int × Int)) (a : Nat), pr fs (a : Int) = some (cs.length : Int) → fs.flatMap (wf cs) = cs.drop a := by
  intro fs
  induction fs with
  | nil =>
    intro a h
    injection h with h
    have : a = cs.length := by omega
    rw [this, List.drop_length]
    rfl
  | cons f r ih =>
    intro a h
    unfold pr at h
    split at h
    · rename_i q
      have hl := pr_le _ _ _ h
      obtain ⟨x1, x2⟩ := f
      simp only at q h hl
      obtain ⟨rfl, q2⟩ := q
      obtain ⟨y, rfl⟩ : ∃ y : Nat, x2 = (y : Nat) := ⟨x2.toNat, by omega⟩
      rw [List.flatMap_cons, ih y h]
      unfold wf
      simp only
      rw [show ((a : Nat) : Int).toNat = a by omega, show (((y : Nat) : Int) - ((a : Nat) : Int)).toNat = y - a by omega]
      have : cs.drop y = (cs.drop a).drop (y - a) := by rw [List.drop_drop]; congr 1; omega
      rw [this, List.take_append_drop]
    · cases h
theorem ptd_pr {fs : List (Int × Int)} {n : Nat} (h : ptd fs n = true) : pr fs 0 = some (n : Int) := by
  unfold ptd at h
  exact (of_decide_eq_true h).2
/-- why a program has no text is the same in both words -/
theorem chk_is (cs : List Int) (fs : List (Int × Int)) (ts : List Tb) : chk cs fs ts = if fts cs fs ts = true then fsE cs else 1 := by
  unfold chk fts
  cases h1 : ptd fs cs.length with
  | false => simp
  | true =>
    cases h2 : cfs ts with
    | false => simp
    | true =>
      have h3 := wf_part fs 0 (ptd_pr h1)
      rw [List.drop_zero] at h3
      simp only [Bool.true_and, and_self, if_true]
      rw [ckF_is, h3]
      cases h4 : thA fs.length ts.length cs fs <;> simp
theorem pr_in : ∀ (fs : List (Int × Int)) (a : Nat) (n : Int), pr fs (a : Int) = some n → ∀ f ∈ fs, (a : Int) ≤ f.1 ∧ f.1 < f.2 ∧ f.2 ≤ n := by
  intro fs
  induction fs with
  | nil => intro a n _ f hf; cases hf
  | cons g r ih =>
    intro a n h f hf
    unfold pr at h
    split at h
    · rename_i q
      have hl := pr_le _ _ _ h
      obtain ⟨x1, x2⟩ := g
      simp only at q h hl
      obtain ⟨rfl, q2⟩ := q
      obtain ⟨y, rfl⟩ : ∃ y : Nat, x2 = (y : Nat) := ⟨x2.toNat, by omega⟩
      rcases List.mem_cons.1 hf with rfl | hf
      · exact ⟨Int.le_refl _, by simp only; omega, hl⟩
      · have := ih y n h f hf
        exact ⟨by omega, this.2.1, this.2.2⟩
    · cases h
theorem thr_L {nf nt : Nat} {f : Int × Int} {x : Int} (h : thr nf nt f (dI x) = true) (k : knd (dI x).1 = 1) : f.1 ≤ (dI x).2.2.2.2 ∧ (dI x).2.2.2.2 < f.2 := by
  unfold thr at h
  rw [if_pos k] at h
  exact of_decide_eq_true h
/-- targets lie within -/
theorem tg_ok {cs : List Int} {fs : List (Int × Int)} {nf nt : Nat} (hp : pr fs 0 = some (cs.length : Int)) (h : thA nf nt cs fs = true) : TgOk cs cs.length := by
  intro x hx hd hk
  have e := wf_part fs 0 hp
  rw [List.drop_zero] at e
  rw [← e] at hx
  obtain ⟨f, hf, hx⟩ := List.mem_flatMap.1 hx
  have h1 := List.all_eq_true.1 h f hf
  have h2 := of_decide_eq_true (List.all_eq_true.1 h1 x hx) hd
  have h3 := thr_L h2 hk
  have h4 := pr_in fs 0 _ hp f hf
  omega
/-- what a word names lies in its own function: whose the place is -/
theorem tg_own {cs : List Int} {nf nt : Nat} : ∀ (fs : List (Int × Int)) (a : Nat), pr fs (a : Int) = some (cs.length : Int) → thA nf nt cs fs = true → ∀ f ∈ fs, ∀ k : Nat, f.1 ≤ (k : Int) → (k : Int) < f.2 → tg (fs.flatMap (wf cs)) k = tg (wf cs f) k := by
  intro fs
  induction fs with
  | nil => intro a _ _ f hf; cases hf
  | cons g r ih =>
    intro a h ht f hf k k1 k2
    unfold pr at h
    split at h
    · rename_i q
      have hl := pr_le _ _ _ h
      obtain ⟨x1, x2⟩ := g
      simp only at q h hl
      obtain ⟨rfl, q2⟩ := q
      obtain ⟨y, rfl⟩ : ∃ y : Nat, x2 = (y : Nat) := ⟨x2.toNat, by omega⟩
      have e : thA nf nt cs (((a : Int), (y : Int)) :: r) = (thW nf nt ((a : Int), (y : Int)) (wf cs ((a : Int), (y : Int))) && thA nf nt cs r) := by unfold thA; rw [List.all_cons]
      rw [e, Bool.and_eq_true] at ht
      have far : ∀ {f : Int × Int} {ws : List Int}, thW nf nt f ws = true → ¬ (f.1 ≤ (k : Int) ∧ (k : Int) < f.2) → tg ws k = false := fun {f ws} h1 h2 => by
        unfold tg
        rw [List.any_eq_false]
        intro x hx
        unfold tgw
        simp only [decide_eq_true_eq, not_and]
        intro d1 d2 d3
        have := thr_L (of_decide_eq_true (List.all_eq_true.1 h1 x hx) d1) d2
        rw [d3] at this
        exact h2 this
      have spl : tg (List.flatMap (wf cs) (((a : Int), (y : Int)) :: r)) k = (tg (wf cs ((a : Int), (y : Int))) k || tg (r.flatMap (wf cs)) k) := by
        rw [List.flatMap_cons]
        unfold tg
        rw [List.any_append]
      rw [spl]
      rcases List.mem_cons.1 hf with rfl | hf
      · have : tg (r.flatMap (wf cs)) k = false := by
          unfold tg
          rw [List.any_eq_false]
          intro x hx
          obtain ⟨f', hf', hx⟩ := List.mem_flatMap.1 hx
          have h1 := List.all_eq_true.1 ht.2 f' hf'
          have h2 := far h1 (fun q => by have := pr_in r y _ h f' hf'; simp only at k2; omega)
          unfold tg at h2
          rw [List.any_eq_false] at h2
          exact h2 x hx
        rw [this, Bool.or_false]
      · have := pr_in r y _ h f hf
        rw [far ht.1 (fun q => by simp only at q; omega), Bool.false_or]
        exact ih y h ht.2 f hf k k1 k2
    · cases h
end Go.Proofs.YtbehlhnnfdkmaaaGreatDoor.Lt
