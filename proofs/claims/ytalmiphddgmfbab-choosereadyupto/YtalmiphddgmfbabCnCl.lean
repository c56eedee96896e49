/-
  What the document's Close of layer 11 answers. Conditions: the lists are not too long.
-/
import Derived.Test.YtalmiphddgmfbabCnRv2
import Derived.Test.YtalmiphddgmfbabCpAny
import Derived.Deep.Cut
namespace Go.Proofs.Ytalmiphddgmfbab.Lt
open Go.RowKit Wd
attribute [local go_sem ↓] Go.wp_at_zero Go.wp_at_succ

theorem results_tc {fn : Func} {p a : Tmp} {ty : TypeId} (h : fn.results = #[.tmp a, .cell p ty]) (tmps : Array Value) (w : World) (g : Nat) (cs : Array Value)
    (hp : tmps.getD p undef = .pointer (some ⟨g, 0, none⟩)) (hl : (loadVar ty ⟨g, 0, none⟩).run Try.prog w = .ok (.agg cs) w) :
    (results fn tmps).run Try.prog w = .ok (.tuple #[tmps.getD a undef, .agg cs]) w := by
  have hp' : tmps[p]?.getD undef = .pointer (some ⟨g, 0, none⟩) := by simpa using hp
  simp [results, h, hp', asAddr, hl]
/-- what Close tells that wakes -/
def ClK (w : World) (cs : List Cn) (ks : List Wk) (e : Ending) (w' : World) : Prop := ∃ v mo mn mc, e = .returned (.tuple #[v, .agg #[.bool false, .int .i64 0, .bool false, .int .i64 0, .slice mo mn mc]]) ∧ Ow eK 6 114 w.heap.size w' (.slice mo mn mc) ks ∧ Nx w.heap.size w' v cs ∧ Gr w w'
theorem Bd.lvs {cs : List Cn} (h : Bd cs) (s g : Int) : Bd (lvs cs s g) := by
  refine ⟨by rw [lvs_len]; exact h.n, ?_, ?_, ?_⟩
  · intro d hd
    obtain ⟨c, hc, rfl⟩ := List.mem_map.1 hd
    exact h.v c hc
  · intro d hd
    obtain ⟨c, hc, rfl⟩ := List.mem_map.1 hd
    exact Nat.le_trans (wo_le _ _ _) (h.s c hc)
  · intro d hd
    obtain ⟨c, hc, rfl⟩ := List.mem_map.1 hd
    exact Nat.le_trans (wo_le _ _ _) (h.r c hc)
theorem Bd.lvl {cs : List Cn} (h : Bd cs) (l : List Wt) : Bd (lvl l cs) := by
  induction l generalizing cs with
  | nil => exact h
  | cons x r ih => rw [lvl_cons]; exact ih (h.lvs _ _)
theorem Bd.sh2 {cs : List Cn} {i : Nat} {c : Cn} (h : Bd cs) {hc : cs[i]? = some c} : Bd (sh2 cs i c) := by
  have m := List.mem_of_getElem? hc
  refine ⟨by unfold Lt.sh2; rw [List.length_set]; exact h.n, ?_, ?_, ?_⟩ <;> intro d hd <;> rcases List.mem_or_eq_of_mem_set hd with e | e
  · exact h.v d e
  · subst e; exact h.v c m
  · exact h.s d e
  · subst e; exact h.s c m
  · exact h.r d e
  · subst e; exact h.r c m
theorem wo_cons_self (x : Wt) (r : List Wt) : wo (x :: r) x.s x.g = wo r x.s x.g := by unfold wo; rw [List.filter_cons]; simp
/-- who does not wait is not woken -/
theorem wkF_wo : ∀ (l : List Wt) (fs : List Cn) (s g : Int), pls fs s g = 0 → wkF fs l = wkF fs (wo l s g) := by
  intro l
  induction l with
  | nil => intro fs s g _; rfl
  | cons x r ih =>
    intro fs s g h
    have e1 : wo (x :: r) s g = if (x.s == s && x.g == g) = true then wo r s g else x :: wo r s g := by
      unfold wo
      rw [List.filter_cons]
      cases hb : (x.s == s && x.g == g) <;> simp
    rw [e1]
    by_cases hx : (x.s == s && x.g == g) = true
    · rw [if_pos hx]
      have : x.s = s ∧ x.g = g := by simpa using hx
      rw [wkF, if_neg (by rw [this.1, this.2]; omega)]
      exact ih fs s g h
    · rw [if_neg hx, wkF, wkF]
      split
      · rw [ih (lvs fs x.s x.g) s g (by have := pls_lvs_le fs x.s x.g s g; omega)]
      · exact ih fs s g h
theorem lvl_wk : ∀ (l : List Wt) (cs : List Cn) (k : Nat) (d f : Cn), cs[k]? = some d → (lvl l cs)[k]? = some f → ∀ fs : List Cn, (∀ x ∈ l, pls fs x.s x.g = 0) → wkF fs f.ss = wkF fs d.ss := by
  intro l
  induction l with
  | nil =>
    intro cs k d f h1 h2 fs _
    rw [lvl_nil, h1] at h2
    injection h2 with h2
    rw [h2]
  | cons x r ih =>
    intro cs k d f h1 h2 fs hx
    rw [lvl_cons] at h2
    rw [ih _ k (d.wo x.s x.g) f (lvs_get h1 _ _) h2 fs (fun y hy => hx y (List.mem_cons_of_mem _ hy))]
    exact (wkF_wo d.ss fs x.s x.g (hx x List.mem_cons_self)).symm
theorem wkF_sub : ∀ (l : List Wt) (fs : List Cn) (x : Wt), x ∈ wkF fs l → x ∈ l := by
  intro l
  induction l with
  | nil => intro fs x h; cases h
  | cons y r ih =>
    intro fs x h
    rw [wkF] at h
    split at h
    · rcases List.mem_cons.1 h with e | e
      · rw [e]; exact List.mem_cons_self
      · exact List.mem_cons_of_mem _ (ih _ x e)
    · exact List.mem_cons_of_mem _ (ih _ x h)
end Go.Proofs.Ytalmiphddgmfbab.Lt
