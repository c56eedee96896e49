/-
  What the program's Leave of layer 11 answers and leaves. Conditions: a goroutine's numbers are ints, lists are not too long.
-/
import Derived.Test.YtalmiphddgmfbabCpWo2
import Derived.Test.YtalmiphddgmfbabCpSet
import Derived.Test.YtalmiphddgmfbabCpWt
namespace Go.Proofs.Ytalmiphddgmfbab.Lt
open Go.RowKit Wd
attribute [local go_sem ↓] Go.wp_at_zero Go.wp_at_succ

/-- lists are not too long -/
def Bw (cs : List Cn) : Prop := ∀ c ∈ cs, c.ss.length ≤ 4398046511104 ∧ c.rs.length ≤ 4398046511104
/-- what a goroutine has in the map, with its list -/
theorem Pm.lookL {t : Nat → Tg} {w : World} {k : Nat} {M : List Me} {clock : Nat} {cs : List Cn} {s g : Int} (h : Pm t w k M clock cs) (hk : Gok s g) : ∃ (ao : Option Addr) (n cap : Nat) (hs : List Int), n = pls cs s g ∧ hs.Perm (plA s g 0 cs) ∧ Ow eI 1 2 0 w (.slice ao n cap) hs ∧ (∀ q, Blk (.slice ao n cap) q → t q = .pl s g) ∧ ∀ W, MAt W k M clock → (Instr.lookup 72 (.map (some k)) (.agg #[.int .i64 s, .int .i64 g]) false).run Try.prog W = .ok (.slice ao n cap) W := by
  rcases look_G h.at_ h.ok hk with ⟨_, hn⟩ | ⟨j, v, b, _, hj⟩
  · have h0 := h.no s g hn
    refine ⟨none, 0, 0, [], h0.symm, ?_, Ow.nil _ _ _ _ _, (fun q hq => by cases hq), fun W hW => ?_⟩
    · rw [List.eq_nil_of_length_eq_zero (show (plA s g 0 cs).length = 0 by rw [plA_len]; exact h0)]
    · rcases look_G hW h.ok hk with ⟨h1, _⟩ | ⟨j, v, b, _, hj⟩
      · exact h1
      · exact (hn _ (List.mem_of_getElem? hj) ⟨rfl, rfl⟩).elim
  · obtain ⟨hs, h1, h2, h3⟩ := h.f _ (List.mem_of_getElem? hj)
    obtain ⟨ao, cap, e⟩ := h1.form
    dsimp only at e h1 h2 h3
    subst e
    refine ⟨ao, hs.length, cap, hs, by rw [h3.length_eq, plA_len], h3, h1, h2, fun W hW => ?_⟩
    rcases look_G hW h.ok hk with ⟨_, hn⟩ | ⟨j', v', b', h4, hj'⟩
    · exact (hn _ (List.mem_of_getElem? hj) ⟨rfl, rfl⟩).elim
    · have ej := oneG h.one hj hj' ⟨rfl, rfl⟩
      subst ej
      rw [hj] at hj'
      simp only [Option.some.injEq, Me.mk.injEq, true_and] at hj'
      rw [← hj'.1] at h4
      exact h4
theorem wo_other {ws : List Wt} {s g s' g' : Int} (h : ¬ (s' = s ∧ g' = g)) : (wo ws s g).length - (wo (wo ws s g) s' g').length = ws.length - (wo ws s' g').length := by
  induction ws with
  | nil => rfl
  | cons x r ih =>
    unfold wo at ih ⊢
    have l1 := List.length_filter_le (fun x : Wt => !(x.s == s' && x.g == g')) r
    have l2 := List.length_filter_le (fun x : Wt => !(x.s == s' && x.g == g')) (r.filter (fun x => !(x.s == s && x.g == g)))
    by_cases h1 : (x.s == s && x.g == g) = true
    · have h2 : (x.s == s' && x.g == g') = false := by
        simp only [Bool.and_eq_true, beq_iff_eq] at h1
        simp only [Bool.and_eq_false_iff, beq_eq_false_iff_ne]
        rcases Classical.em (x.s = s') with e | e
        · exact .inr (fun e2 => h ⟨by rw [← e, h1.1], by rw [← e2, h1.2]⟩)
        · exact .inl e
      simp only [List.filter_cons, h1, h2, Bool.not_true, Bool.not_false, if_true, List.length_cons]
      simp only [Bool.false_eq_true, if_false]
      omega
    · have h1' : (x.s == s && x.g == g) = false := by simpa using h1
      by_cases h2 : (x.s == s' && x.g == g') = true
      · simp only [List.filter_cons, h1', h2, Bool.not_true, Bool.not_false, if_true, List.length_cons, Bool.false_eq_true, if_false]
        omega
      · have h2' : (x.s == s' && x.g == g') = false := by simpa using h2
        simp only [List.filter_cons, h1', h2', Bool.not_false, if_true, List.length_cons]
        omega
theorem wo_same (ws : List Wt) (s g : Int) : wo (wo ws s g) s g = wo ws s g := by
  unfold wo
  rw [List.filter_filter]
  congr 1
  funext x
  simp
theorem pl_other {c : Cn} {s g s' g' : Int} (h : ¬ (s' = s ∧ g' = g)) : (c.wo s g).pl s' g' = c.pl s' g' := by
  unfold Cn.pl Cn.wo
  dsimp only
  rw [wo_other h, wo_other h]
theorem pl_self (c : Cn) (s g : Int) : (c.wo s g).pl s g = 0 := by
  unfold Cn.pl Cn.wo
  dsimp only
  rw [wo_same, wo_same]
  simp
theorem plA_lvs {s g s' g' : Int} (h : ¬ (s' = s ∧ g' = g)) : ∀ (i : Nat) (cs : List Cn), plA s' g' i (lvs cs s g) = plA s' g' i cs
  | _, [] => rfl
  | i, c :: r => by
    show plA s' g' i (c.wo s g :: lvs r s g) = _
    rw [plA, plA, pl_other h, plA_lvs h (i + 1) r]
theorem pls_lvs (cs : List Cn) (s g : Int) : pls (lvs cs s g) s g = 0 := by
  induction cs with
  | nil => rfl
  | cons c r ih =>
    unfold pls lvs at ih ⊢
    rw [List.map_cons, List.map_cons, List.sum_cons, ih, pl_self]
/-- behind delete: the map of the others -/
theorem Pm.del {t : Nat → Tg} {w : World} {k : Nat} {M M' : List Me} {clock : Nat} {cs : List Cn} {s g : Int} (h : Pm t w k M clock cs) (tk : t k = .mp) (hs : M'.Sublist M) (hn : NoG M' s g) (hm : ∀ e ∈ M, ¬ (e.s = s ∧ e.g = g) → e ∈ M') : Pm t (putM w k M' clock) k M' clock (lvs cs s g) :=
  ⟨putM_at h.at_.lt _ _, fun e he => h.ok e (hs.subset he), h.one.sublist (hs.map _), fun e he => by
    obtain ⟨l, h1, h2, h3⟩ := h.f e (hs.subset he)
    exact ⟨l, h1.ch (putM_ch w k M' clock) (fun q hq hk => by have e1 : q = k := hk; have := h2 q hq; rw [e1, tk] at this; cases this), h2, by rw [plA_lvs (fun e1 => hn e he e1)]; exact h3⟩, fun s' g' hq => by
    rcases Classical.em (s' = s ∧ g' = g) with e | e
    · rw [e.1, e.2]; exact pls_lvs _ _ _
    · rw [← plA_len s' g' 0, plA_lvs e, plA_len]
      exact h.no s' g' (fun x hx hxe => hq x (hm x hx (fun hxs => e ⟨hxe.1.symm.trans hxs.1, hxe.2.symm.trans hxs.2⟩)) hxe), h.st.1.sublist (hs.map _), fun e he => h.st.2 e (hs.subset he)⟩
/-- some of the channels are without a goroutine -/
def Prt (cs ds : List Cn) (s g : Int) (hs : List Int) : Prop := ds.length = cs.length ∧ ∀ (i : Nat) (c : Cn), cs[i]? = some c → ds[i]? = some (if ((i + 1 : Nat) : Int) ∈ hs then c.wo s g else c)
theorem Prt.end_ {cs ds : List Cn} {s g : Int} {hs : List Int} (h : Prt cs ds s g hs) (hp : hs.Perm (plA s g 0 cs)) : ds = lvs cs s g := by
  apply List.ext_getElem?
  intro i
  unfold lvs
  rw [List.getElem?_map]
  cases hc : cs[i]? with
  | none => rw [List.getElem?_eq_none (by rw [h.1]; exact List.getElem?_eq_none_iff.1 hc)]; rfl
  | some c =>
    rw [h.2 i c hc]
    show some _ = some (c.wo s g)
    congr 1
    by_cases e : ((i + 1 : Nat) : Int) ∈ hs
    · rw [if_pos e]
    · rw [if_neg e]
      have hz : c.pl s g = 0 := by
        rcases Nat.eq_zero_or_pos (c.pl s g) with z | z
        · exact z
        · exact (e (hp.mem_iff.2 (plA_mem.2 ⟨i, c, hc, z, by rw [Nat.zero_add]⟩))).elim
      unfold Cn.pl at hz
      unfold Cn.wo
      have f1 : wo c.ss s g = c.ss := by
        have l := List.length_filter_le (fun x : Wt => !(x.s == s && x.g == g)) c.ss
        have : (c.ss.filter (fun x : Wt => !(x.s == s && x.g == g))).length = c.ss.length := by unfold wo at hz; omega
        exact List.filter_eq_self.2 (List.length_filter_eq_length_iff.1 this)
      have f2 : wo c.rs s g = c.rs := by
        have l := List.length_filter_le (fun x : Wt => !(x.s == s && x.g == g)) c.rs
        have : (c.rs.filter (fun x : Wt => !(x.s == s && x.g == g))).length = c.rs.length := by unfold wo at hz; omega
        exact List.filter_eq_self.2 (List.length_filter_eq_length_iff.1 this)
      rw [f1, f2]
end Go.Proofs.Ytalmiphddgmfbab.Lt
