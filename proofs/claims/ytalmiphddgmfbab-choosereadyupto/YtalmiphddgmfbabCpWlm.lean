/-
  Whom a close wakes, in plain words; what a call may turn besides its own blocks. No conditions.
  What the program's wakeAll of layer 11 answers and leaves. Conditions: goroutines' numbers are ints, lists are not too long.
-/
import Derived.Test.YtalmiphddgmfbabCpRv
import Derived.Deep.Cut
namespace Go.Proofs.Ytalmiphddgmfbab.Lt
open Go.RowKit Wd

/-- each of them leaves -/
def lvl (l : List Wt) (cs : List Cn) : List Cn := l.foldl (fun cs x => lvs cs x.s x.g) cs
theorem lvl_nil (cs : List Cn) : lvl [] cs = cs := rfl
theorem lvl_cons (x : Wt) (l : List Wt) (cs : List Cn) : lvl (x :: l) cs = lvl l (lvs cs x.s x.g) := rfl
theorem lvl_snoc (l : List Wt) (x : Wt) (cs : List Cn) : lvl (l ++ [x]) cs = lvs (lvl l cs) x.s x.g := by unfold lvl; rw [List.foldl_append]; rfl
theorem lvl_app (l m : List Wt) (cs : List Cn) : lvl (l ++ m) cs = lvl m (lvl l cs) := by unfold lvl; rw [List.foldl_append]
theorem lvs_len (cs : List Cn) (s g : Int) : (lvs cs s g).length = cs.length := List.length_map _
theorem lvl_len (l : List Wt) : ∀ cs : List Cn, (lvl l cs).length = cs.length := by
  induction l with
  | nil => intro cs; rfl
  | cons x r ih => intro cs; rw [lvl_cons, ih, lvs_len]
/-- who of them waits is woken, one behind the other -/
def wkF : List Cn → List Wt → List Wt
  | _, [] => []
  | fs, x :: r => if 0 < pls fs x.s x.g then x :: wkF (lvs fs x.s x.g) r else wkF fs r
/-- what one is told -/
def toK (tr : Int) (x : Wt) : Wk := ⟨x.s, x.g, x.c, 0, false, tr⟩
theorem wkF_len : ∀ (l : List Wt) (fs : List Cn), (wkF fs l).length ≤ l.length := by
  intro l
  induction l with
  | nil => intro fs; exact Nat.le_refl _
  | cons x r ih =>
    intro fs
    unfold wkF
    split
    · have := ih (lvs fs x.s x.g); simp only [List.length_cons]; omega
    · have := ih fs; simp only [List.length_cons]; omega
theorem wo_le (l : List Wt) (s g : Int) : (wo l s g).length ≤ l.length := List.length_filter_le _ _
theorem Bw.lvs {cs : List Cn} (h : Bw cs) (s g : Int) : Bw (lvs cs s g) := by
  intro d hd
  obtain ⟨c, hc, rfl⟩ := List.mem_map.1 hd
  have := h c hc
  exact ⟨Nat.le_trans (wo_le _ _ _) this.1, Nat.le_trans (wo_le _ _ _) this.2⟩
theorem Bw.lvl {cs : List Cn} (h : Bw cs) (l : List Wt) : Bw (lvl l cs) := by
  induction l generalizing cs with
  | nil => exact h
  | cons x r ih => rw [lvl_cons]; exact ih (h.lvs _ _)
theorem pls_other {cs : List Cn} {s g s' g' : Int} (h : ¬ (s' = s ∧ g' = g)) : pls (lvs cs s g) s' g' = pls cs s' g' := by
  rw [← plA_len s' g' 0, plA_lvs h, plA_len]
theorem pls_lvs_le (cs : List Cn) (s g s' g' : Int) : pls (lvs cs s g) s' g' ≤ pls cs s' g' := by
  rcases Classical.em (s' = s ∧ g' = g) with e | e
  · rw [e.1, e.2, pls_lvs]; exact Nat.zero_le _
  · rw [pls_other e]; exact Nat.le_refl _
theorem pls_lvl_le (l : List Wt) (s g : Int) : ∀ cs : List Cn, pls (lvl l cs) s g ≤ pls cs s g := by
  induction l with
  | nil => intro cs; exact Nat.le_refl _
  | cons x r ih => intro cs; rw [lvl_cons]; exact Nat.le_trans (ih _) (pls_lvs_le _ _ _ _ _)
/-- the channels, some of them emptied -/
def Cov (cs fs : List Cn) : Prop := fs.length = cs.length ∧ ∀ (i : Nat) (c f : Cn), cs[i]? = some c → fs[i]? = some f → c = f ∨ (c.ss = [] ∧ c.rs = [])
theorem Cov.lvs {cs fs : List Cn} (h : Cov cs fs) (s g : Int) : Cov (lvs cs s g) (lvs fs s g) := by
  refine ⟨by rw [lvs_len, lvs_len]; exact h.1, fun i c f hc hf => ?_⟩
  unfold Lt.lvs at hc hf
  rw [List.getElem?_map] at hc hf
  cases e1 : cs[i]? with
  | none => rw [e1] at hc; cases hc
  | some c1 =>
    cases e2 : fs[i]? with
    | none => rw [e2] at hf; cases hf
    | some f1 =>
      rw [e1] at hc
      rw [e2] at hf
      injection hc with hc
      injection hf with hf
      subst hc hf
      rcases h.2 i c1 f1 e1 e2 with e | ⟨e, e'⟩
      · exact .inl (by rw [e])
      · refine .inr ⟨?_, ?_⟩
        · show wo c1.ss s g = []
          rw [e]; rfl
        · show wo c1.rs s g = []
          rw [e']; rfl
theorem Cov.lvl {cs fs : List Cn} (h : Cov cs fs) (l : List Wt) : Cov (lvl l cs) (lvl l fs) := by
  induction l generalizing cs fs with
  | nil => exact h
  | cons x r ih => rw [lvl_cons, lvl_cons]; exact ih (h.lvs _ _)
theorem Cov.cv {cs fs : List Cn} (h : Cov cs fs) (s g : Int) : ∀ (i : Nat) (c f : Cn), cs[i]? = some c → fs[i]? = some f → 0 < c.pl s g → 0 < f.pl s g := by
  intro i c f hc hf hz
  rcases h.2 i c f hc hf with e | ⟨e, e'⟩
  · rw [← e]; exact hz
  · unfold Cn.pl at hz
    rw [e, e'] at hz
    simp [wo] at hz
/-- what a call may turn that also writes new blocks of its caller's -/
structure Tb (B : Nat) (t t' : Nat → Tg) (w w' : World) : Prop where
  c : Ch (fun q => t q ≠ .no ∨ B ≤ q) w w'
  o : ∀ q, q < w.heap.size → t q = .no → t' q = .no
section
variable {B : Nat} {t t1 t2 : Nat → Tg} {w w1 w2 : World}
theorem Tb.refl (B : Nat) (t : Nat → Tg) (w : World) : Tb B t t w w := ⟨Ch.refl _ _, fun _ _ h => h⟩
theorem Tb.tn (h : Tb B t t1 w w1) (k : Tn t1 t2 w1 w2) : Tb B t t2 w w2 :=
  ⟨h.c.trans k.c (fun q hq => by
    by_cases h1 : q < w.heap.size
    · exact .inl (.inl (fun e => hq (h.o q h1 e)))
    · exact .inr (by omega)), fun q hq e => k.o q (Nat.lt_of_lt_of_le hq h.c.size) (h.o q hq e)⟩
theorem Tb.gr (h : Tb B t t1 w w1) (g : Gr w1 w2) : Tb B t t1 w w2 := ⟨h.c.trans g (fun _ q => q.elim), h.o⟩
theorem Tb.bl {S : Nat → Prop} (h : Tb B t t1 w w1) (k : Ch S w1 w2) (hS : ∀ q, S q → B ≤ q) : Tb B t t1 w w2 := ⟨h.c.trans k (fun q hq => .inl (.inr (hS q hq))), h.o⟩
theorem Tb.ls {α : Type} {enc : α → List Value} {P : Nat → Prop} {v : Value} {ys : List α} (h : Tb B t t1 w w1) (l : Ls enc P w v ys) (hP : ∀ q, q < w.heap.size → P q → t q = .no ∧ q < B) : Ls enc P w1 v ys :=
  l.ch h.c (fun q hq hp hs => by
    obtain ⟨h1, h2⟩ := hP q hq hp
    rcases hs with h3 | h3
    · exact h3 h1
    · omega)
end
theorem Tn.tb {B : Nat} {t t1 t2 : Nat → Tg} {w w1 w2 : World} (h : Tn t t1 w w1) (k : Tb B t1 t2 w1 w2) (hB : w.heap.size ≤ B) : Tn t t2 w w2 :=
  ⟨h.c.trans k.c (fun q hq => by
    by_cases h1 : q < w.heap.size
    · rcases hq with hq | hq
      · exact .inl (fun e => hq (h.o q h1 e))
      · omega
    · exact .inr (by omega)), fun q hq e => k.o q (Nat.lt_of_lt_of_le hq h.c.size) (h.o q hq e)⟩
theorem wok_info : (Try.prog.info? 114).map (fun i => (i.zero, i.size, i.bytes)) = some (some (.agg #[.int .i64 0, .int .i64 0, .int .i64 0, .int .i64 0, .bool false, .int .i64 0]), 6, 48) := by kernel_rfl
theorem wkF_step {fs : List Cn} {ws : List Wt} {j : Nat} {x : Wt} (hx : ws[j]? = some x) : wkF fs (ws.drop j) = if 0 < pls fs x.s x.g then x :: wkF (lvs fs x.s x.g) (ws.drop (j + 1)) else wkF fs (ws.drop (j + 1)) := by
  have : ws.drop j = x :: ws.drop (j + 1) := by
    have hj := (List.getElem?_eq_some_iff.1 hx)
    rw [← hj.2]
    exact List.drop_eq_getElem_cons hj.1
  rw [this, wkF]
end Go.Proofs.Ytalmiphddgmfbab.Lt

namespace Go.Proofs.Ytalmiphddgmfbab.Lt
open Go.RowKit Wd
attribute [local go_sem ↓] Go.wp_at_zero Go.wp_at_succ

/-- what wakeAll tells and leaves -/
def WlR (t : Nat → Tg) (w : World) (b : Nat) (v : Value) (cs fs : List Cn) (B : Nat) (ks : List Wk) (wk : List Wt) (e : Ending) (w' : World) : Prop := ∃ mo mn mc, e = .returned (.slice mo mn mc) ∧ Ow eK 6 114 B w' (.slice mo mn mc) ks ∧ ∃ t', Ct t' w' b v (lvl wk cs) (lvl wk fs) ∧ Tb B t t' w w' ∧ ∀ q, Blk (.slice mo mn mc) q → t' q = .no
end Go.Proofs.Ytalmiphddgmfbab.Lt
