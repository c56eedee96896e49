/-
  What the small functions of layer 8 answer, the program's and the document's. No conditions.
  What the program's checkTables and checkWords answer. Conditions: the tables lie where they lie; words are words.
  What the program's Check answers. Conditions: the tables lie where they lie; words are words.
  What the program's checkWords and Check answer. Conditions: the tables lie where they lie; words are words.
-/
import Derived.Test.YtcdlhfodeckleaaDoorPpBase
import Derived.Test.YtcdlhfodeckleaaDoorLtRegion
namespace Go.Proofs.YtcdlhfodeckleaaDoor.Lt
open Go.RowKit Wd

/-- is a number a register? -/
def rgB (n : Int) : Bool := decide (0 ≤ n ∧ n < 16)
/-- has an operation a target? -/
def hT (o : Int) : Bool := decide (o = 17 ∨ o = 18 ∨ o = 19)
/-- is it ending? -/
def en (o : Int) : Bool := decide (o = 17 ∨ o = 21 ∨ o = 24 ∨ o = 58)
theorem rreg_any (n : Int) (w : World) : Calls Tryd.prog 53 #[.int .i64 n] w fun e w' => e = .returned (.bool (rgB n)) ∧ w' = w := by
  unfold rgB
  by_cases h0 : 0 ≤ n
  · have d0 : decide (0 ≤ n) = true := decide_eq_true h0
    by_cases h1 : n < 16
    · have d1 : decide (n < 16) = true := decide_eq_true h1
      rw [decide_eq_true (show 0 ≤ n ∧ n < 16 from ⟨h0, h1⟩)]
      go_enter Tryd.func53, Tryd.ntmps53
      go_wp2
      go_ret
      exact ⟨rfl, rfl⟩
    · have d1 : decide (n < 16) = false := decide_eq_false h1
      rw [decide_eq_false (show ¬ (0 ≤ n ∧ n < 16) from fun q => h1 q.2)]
      go_enter Tryd.func53, Tryd.ntmps53
      go_wp2
      go_ret
      exact ⟨rfl, rfl⟩
  · have d0 : decide (0 ≤ n) = false := decide_eq_false h0
    rw [decide_eq_false (show ¬ (0 ≤ n ∧ n < 16) from fun q => h0 q.1)]
    go_enter Tryd.func53, Tryd.ntmps53
    go_wp2
    go_ret
    exact ⟨rfl, rfl⟩
theorem jumps_any (o : Int) (w : World) : Calls Tryd.prog 55 #[.int .i64 o] w fun e w' => e = .returned (.bool (hT o)) ∧ w' = w := by
  rcases (by omega : o = 17 ∨ o = 18 ∨ o = 19 ∨ (¬ o = 17 ∧ ¬ o = 18 ∧ ¬ o = 19)) with rfl | rfl | rfl | ⟨h0, h1, h2⟩
  case inr.inr.inr =>
    have e : hT o = false := by unfold hT; simp [h0, h1, h2]
    rw [e]
    have b0 : (o == 17) = false := by simpa using h0
    have b1 : (o == 18) = false := by simpa using h1
    have b2 : (o == 19) = false := by simpa using h2
    go_enter Tryd.func55, Tryd.ntmps55
    go_wp2
    go_ret
    exact ⟨rfl, rfl⟩
  all_goals
    go_enter Tryd.func55, Tryd.ntmps55
    go_wp2
    go_ret
    exact ⟨rfl, rfl⟩
theorem ends_any (o : Int) (w : World) : Calls Tryd.prog 56 #[.int .i64 o] w fun e w' => e = .returned (.bool (en o)) ∧ w' = w := by
  rcases (by omega : o = 17 ∨ o = 21 ∨ o = 24 ∨ o = 58 ∨ (¬ o = 17 ∧ ¬ o = 21 ∧ ¬ o = 24 ∧ ¬ o = 58)) with rfl | rfl | rfl | rfl | ⟨h0, h1, h2, h3⟩
  case inr.inr.inr.inr =>
    have e : en o = false := by unfold en; simp [h0, h1, h2, h3]
    rw [e]
    have b0 : (o == 17) = false := by simpa using h0
    have b1 : (o == 21) = false := by simpa using h1
    have b2 : (o == 24) = false := by simpa using h2
    have b3 : (o == 58) = false := by simpa using h3
    go_enter Tryd.func56, Tryd.ntmps56
    go_wp2
    go_ret
    exact ⟨rfl, rfl⟩
  all_goals
    go_enter Tryd.func56, Tryd.ntmps56
    go_wp2
    go_ret
    exact ⟨rfl, rfl⟩
/-- may a case be? -/
def cf (c : Cs) : Bool := rgB c.ch && rgB c.val && rgB c.ok && (!c.send || decide (c.ok = 0))
/-- the first number from b on, below e, that is refused, and why -/
def fR (ef : Nat → Int) (b e : Nat) : Int × Int := match (List.range' b (e - b)).find? (fun n => decide (ef n ≠ 0)) with
  | some n => ((n : Int), ef n)
  | none => (0, 0)
theorem fR_at {ef : Nat → Int} {b e j : Nat} (hb : b ≤ j) (hj : j < e) (h : ∀ l, b ≤ l → l < j → ef l = 0) (hn : ef j ≠ 0) : fR ef b e = ((j : Int), ef j) := by
  have e1 : List.range' b (e - b) = List.range' b (j - b) ++ (j :: List.range' (j + 1) (e - j - 1)) := by
    rw [show e - b = (j - b) + (1 + (e - j - 1)) by omega, ← List.range'_append_1, ← List.range'_append_1 (s := b + (j - b)), show b + (j - b) = j by omega]
    rfl
  unfold fR
  rw [e1, List.find?_append]
  have e2 : (List.range' b (j - b)).find? (fun n => decide (ef n ≠ 0)) = none := by
    rw [List.find?_eq_none]
    intro x hx
    have := List.mem_range'_1.1 hx
    simp [h x (by omega) (by omega)]
  rw [e2]
  simp [hn]
theorem fR_none {ef : Nat → Int} {b e : Nat} (h : ∀ l, b ≤ l → l < e → ef l = 0) : fR ef b e = (0, 0) := by
  unfold fR
  have e2 : (List.range' b (e - b)).find? (fun n => decide (ef n ≠ 0)) = none := by
    rw [List.find?_eq_none]
    intro x hx
    have := List.mem_range'_1.1 hx
    simp [h x (by omega) (by omega)]
  rw [e2]
end Go.Proofs.YtcdlhfodeckleaaDoor.Lt

namespace Go.Proofs.YtcdlhfodeckleaaDoor.Lt
open Go.RowKit Wd

/-- why a case may not be -/
def cE (t : List Cs) (k : Nat) : Int := match t[k]? with | some c => if cf c = true then 0 else 83 | none => 0
/-- why a table may not be -/
def tE (ts : List Tb) (n : Nat) : Int := match ts[n]? with | some t => if 16 < t.cs.length then 83 else (fR (cE t.cs) 0 t.cs.length).2 | none => 0
/-- what is wrong with a word of a function -/
def wE (nf nt : Nat) (f : Int × Int) (a x : Int) : Int :=
  if dE x ≠ 0 then 80 else if hT (dI x).1 = true ∧ ((dI x).2.2.2.2 < f.1 ∨ f.2 ≤ (dI x).2.2.2.2) then 82 else if ((dI x).1 = 20 ∨ (dI x).1 = 22) ∧ (nf : Int) ≤ (dI x).2.2.2.2 then 81 else if (dI x).1 = 34 ∧ (nt : Int) ≤ (dI x).2.2.2.2 then 83 else if a = f.2 - 1 ∧ en (dI x).1 = false then 84 else 0
end Go.Proofs.YtcdlhfodeckleaaDoor.Lt

namespace Go.Proofs.YtcdlhfodeckleaaDoor.Lt
open Go.RowKit Wd

/-- where the function ahead of number n ends -/
def eA (fs : List (Int × Int)) (n : Nat) : Int := if n = 0 then 0 else (fs[n - 1]?.getD (0, 0)).2
/-- why function n does not fit -/
def fB (fs : List (Int × Int)) (nc : Nat) (n : Nat) : Int := if (fs[n]?.getD (0, 0)).1 ≠ eA fs n ∨ (fs[n]?.getD (0, 0)).2 ≤ (fs[n]?.getD (0, 0)).1 ∨ (nc : Int) < (fs[n]?.getD (0, 0)).2 then 81 else 0
/-- do the functions part the code? -/
def cF (fs : List (Int × Int)) (nc : Nat) : Int × Int := if (fR (fB fs nc) 0 fs.length).2 = 0 ∧ (fs.length = 0 ∨ eA fs fs.length ≠ (nc : Int)) then ((fs.length : Int), 81) else fR (fB fs nc) 0 fs.length

end Go.Proofs.YtcdlhfodeckleaaDoor.Lt

namespace Go.Proofs.YtcdlhfodeckleaaDoor.Lt
open Go.RowKit Wd

/-- what is wrong with word a of a function -/
def wA (cs : List Int) (nf nt : Nat) (f : Int × Int) (a : Nat) : Int := match cs[a]? with | some x => wE nf nt f (a : Nat) x | none => 0
/-- the first word that is wrong, function by function -/
def wF (cs : List Int) (nf nt : Nat) : List (Int × Int) → Int × Int
  | [] => (0, 0)
  | f :: r => if (fR (wA cs nf nt f) f.1.toNat f.2.toNat).2 = 0 then wF cs nf nt r else fR (wA cs nf nt f) f.1.toNat f.2.toNat
theorem wF_cons {cs : List Int} {nf nt : Nat} {fs : List (Int × Int)} {j : Nat} {f : Int × Int} (h : fs[j]? = some f) : wF cs nf nt (fs.drop j) = if (fR (wA cs nf nt f) f.1.toNat f.2.toNat).2 = 0 then wF cs nf nt (fs.drop (j + 1)) else fR (wA cs nf nt f) f.1.toNat f.2.toNat := by
  obtain ⟨h1, h2⟩ := List.getElem?_eq_some_iff.1 h
  rw [List.drop_eq_getElem_cons h1, h2]
  rfl
/-- each function lies within the code -/
def Inn (fs : List (Int × Int)) (nc : Nat) : Prop := ∀ f ∈ fs, 0 ≤ f.1 ∧ f.1 < f.2 ∧ f.2 ≤ (nc : Int)
/-- what Check answers -/
def chk (cs : List Int) (fs : List (Int × Int)) (ts : List Tb) : Int × Int :=
  if 4096 < cs.length ∨ 256 < fs.length ∨ 256 < ts.length then (0, 2) else if (cF fs cs.length).2 ≠ 0 then cF fs cs.length else if (fR (tE ts) 0 ts.length).2 ≠ 0 then fR (tE ts) 0 ts.length else wF cs fs.length ts.length fs
theorem cF_in {fs : List (Int × Int)} {nc : Nat} (h : (cF fs nc).2 = 0) : Inn fs nc ∧ fs.length ≠ 0 ∧ eA fs fs.length = (nc : Int) ∧ ∀ n, n < fs.length → fB fs nc n = 0 := by
  unfold cF at h
  split at h
  · cases h
  · rename_i hn
    have h1 : ∀ n, n < fs.length → fB fs nc n = 0 := fun n hl => by
      rcases Nat.lt_or_ge 0 1 with _ | _
      · by_cases q : ∃ m, m < fs.length ∧ fB fs nc m ≠ 0
        · exfalso
          have hex : ∃ m, m < fs.length ∧ fB fs nc m ≠ 0 ∧ ∀ l, l < m → fB fs nc l = 0 := by
            obtain ⟨m, hm⟩ := q
            induction m using Nat.strongRecOn with
            | ind m ih =>
              by_cases q2 : ∃ l, l < m ∧ fB fs nc l ≠ 0
              · obtain ⟨l, l1, l2⟩ := q2
                exact ih l l1 ⟨by omega, l2⟩
              · exact ⟨m, hm.1, hm.2, fun l hl => Classical.byContradiction (fun e => q2 ⟨l, hl, e⟩)⟩
          obtain ⟨m, m1, m2, m3⟩ := hex
          rw [fR_at (ef := fB fs nc) (Nat.zero_le m) m1 (fun l _ q => m3 l q) m2] at h
          exact m2 h
        · exact Classical.byContradiction (fun e => q ⟨n, hl, e⟩)
      · omega
    have h2 : fs.length ≠ 0 ∧ eA fs fs.length = (nc : Int) := by
      refine ⟨fun e => hn ⟨h, .inl e⟩, Classical.byContradiction (fun e => hn ⟨h, .inr e⟩)⟩
    have hb : ∀ (n : Nat) (f : Int × Int), fs[n]? = some f → f.1 = eA fs n ∧ f.1 < f.2 ∧ f.2 ≤ (nc : Int) := fun n f hf => by
      have h3 := h1 n (List.getElem?_eq_some_iff.1 hf).1
      unfold fB at h3
      rw [hf] at h3
      simp only [Option.getD_some] at h3
      split at h3
      · cases h3
      · rename_i q
        refine ⟨?_, ?_, ?_⟩
        · exact Classical.byContradiction (fun e => q (.inl e))
        · have : ¬ f.2 ≤ f.1 := fun e => q (.inr (.inl e))
          omega
        · have : ¬ (nc : Int) < f.2 := fun e => q (.inr (.inr e))
          omega
    have h0 : ∀ (n : Nat) (f : Int × Int), fs[n]? = some f → 0 ≤ f.1 := by
      intro n
      induction n with
      | zero => intro f hf; have := (hb 0 f hf).1; unfold eA at this; simp at this; omega
      | succ n ih =>
        intro f hf
        have h4 := (hb (n + 1) f hf).1
        have hl : n < fs.length := by have := (List.getElem?_eq_some_iff.1 hf).1; omega
        obtain ⟨g, hg⟩ : ∃ g, fs[n]? = some g := ⟨_, List.getElem?_eq_getElem hl⟩
        have h5 := ih g hg
        have h6 := (hb n g hg).2.1
        unfold eA at h4
        rw [if_neg (by omega), show n + 1 - 1 = n by omega, hg] at h4
        simp only [Option.getD_some] at h4
        omega
    refine ⟨fun f hf => ?_, h2.1, h2.2, h1⟩
    obtain ⟨n, hn⟩ := List.getElem?_of_mem hf
    exact ⟨h0 n f hn, (hb n f hn).2.1, (hb n f hn).2.2⟩

end Go.Proofs.YtcdlhfodeckleaaDoor.Lt
