/-
  Going over a frame on one processor: who has it at each place, and for how long still. No conditions but those that each theorem names.
-/
import Derived.Test.YtbghagpjkkmhpaaTbMath
import Derived.Test.YtbghagpjkkmhpaaTbOwn0
import Derived.Test.YtbghagpjkkmhpaaTbFold
import Derived.Test.YtbghagpjkkmhpaaTbHasP
namespace Go.Proofs.Ytbghagpjkkmhpaa.Lt

def oD (F : Int) (l : List Sl) (t : Int) : Int := (slt F l t).elim (-1) Sl.d
def lN (F : Int) (l : List Sl) (t : Int) : Int := (slt F l t).elim 0 fun x => Tk.leN t F x.s (x.l - x.p)
theorem row_at {F : Int} {L : List (List Sl)} {P : Nat} {l : List Sl} (hc : (chk F L 16).2.2 = 0) (hl : L[P]? = some l) (t : Int) : ownE F L P = 0 ∧ ownD F L t P = oD F l t ∧ lftN F L t P = lN F l t := by
  have hP : P < L.length := (List.getElem?_eq_some_iff.1 hl).1
  have h0 : ownE F L P = 0 := by unfold ownE lkE; rw [if_pos hc, if_neg (by omega)]
  refine ⟨h0, ?_, ?_⟩
  · unfold ownD rowAt oD
    rw [if_pos h0, Int.toNat_natCast, hl]
    rfl
  · unfold lftN sat rowAt lN
    rw [if_pos h0, Int.toNat_natCast, hl]
    rfl
theorem lN_some {F : Int} {L : List (List Sl)} (hg : Good F L) {l : List Sl} (hl : l ∈ L) {t : Int} {x : Sl} (h : slt F l t = some x) : oD F l t = x.d ∧ 0 ≤ x.d ∧ lN F l t = (if x.s + x.l - x.p ≤ t % F then 0 else x.s + x.l - x.p - t % F) := by
  obtain ⟨k1, k2, k3⟩ := slt_mem h
  obtain ⟨a, b, c, d⟩ := hg.slot l hl x k1
  have e := (hg.rg l hl x k1).2.2.2.1
  refine ⟨by unfold oD; rw [h]; rfl, b, ?_⟩
  unfold lN
  rw [h]
  exact (lft_run a d e k2).2
theorem lN_none {F : Int} {l : List Sl} {t : Int} (h : slt F l t = none) : oD F l t = -1 ∧ lN F l t = 0 := by
  unfold oD lN
  rw [h]
  exact ⟨rfl, rfl⟩
theorem lN_bd {F : Int} {L : List (List Sl)} (hg : Good F L) {l : List Sl} (hl : l ∈ L) (t : Int) : 0 ≤ lN F l t ∧ lN F l t ≤ 65536 ∧ -1 ≤ oD F l t ∧ (oD F l t = -1 → lN F l t = 0) := by
  cases h : slt F l t with
  | none =>
    obtain ⟨a, b⟩ := lN_none h
    omega
  | some x =>
    obtain ⟨a, b, c⟩ := lN_some hg hl h
    obtain ⟨k1, k2, k3⟩ := slt_mem h
    obtain ⟨⟨d1, d2, d3⟩, _, _, d⟩ := hg.slot l hl x k1
    have e := (hg.rg l hl x k1).2.2.2.1
    have := hg.f2
    split at c <;> omega
/-- one tick on, one less is left -/
theorem lN_next {F : Int} {L : List (List Sl)} (hg : Good F L) {l : List Sl} (hl : l ∈ L) {i : Nat} (hi : (i : Int) < F) (h : 1 < lN F l (i : Int)) : lN F l (((i + 1 : Nat)) : Int) = lN F l (i : Int) - 1 := by
  cases hs : slt F l (i : Int) with
  | none =>
    obtain ⟨a, b⟩ := lN_none hs
    omega
  | some x =>
    obtain ⟨a, b, c⟩ := lN_some hg hl hs
    obtain ⟨k1, k2, k3⟩ := slt_mem hs
    obtain ⟨⟨d1, d2, d3⟩, _, _, d⟩ := hg.slot l hl x k1
    have e := (hg.rg l hl x k1).2.2.2.1
    rw [mod_small (by omega) hi] at k2 k3 c
    have hlt : (((i + 1 : Nat)) : Int) < F := by
      split at c <;> omega
    have hm2 : (((i + 1 : Nat)) : Int) % F = ((i + 1 : Nat) : Int) := mod_small (by omega) hlt
    have hin : inT F ((i + 1 : Nat) : Int) x = true := by
      unfold inT Tk.insB
      rw [hm2]
      refine decide_eq_true ⟨by omega, ?_⟩
      split at c <;> omega
    have hs2 : slt F l ((i + 1 : Nat) : Int) = some x := by
      have h1 : x ∈ l.filter (inT F ((i + 1 : Nat) : Int)) := List.mem_filter.2 ⟨k1, hin⟩
      rw [fil_slt (hg.apart l hl)] at h1
      exact Option.mem_toList.1 h1
    obtain ⟨_, _, c2⟩ := lN_some hg hl hs2
    rw [hm2] at c2
    rw [c, c2]
    rw [c] at h
    split at h
    · omega
    · rename_i q
      rw [if_neg q, if_neg (by omega)]
      omega
def fO (F : Int) (l : List Sl) (dm : Int) (i : Nat) : Int := if oD F l i = dm then 1 else 0
def fR (F : Int) (l : List Sl) (dm : Int) (i : Nat) : Int := if oD F l i = dm ∧ 0 < lN F l i then 1 else 0
theorem sm_01 {f : Nat → Int} (h : ∀ i, 0 ≤ f i ∧ f i ≤ 1) : ∀ n : Nat, 0 ≤ sm n f ∧ sm n f ≤ n := by
  intro n
  induction n with
  | zero => exact ⟨Int.le_refl _, Int.le_refl _⟩
  | succ n ih =>
    have := h n
    show 0 ≤ sm n f + f n ∧ sm n f + f n ≤ ((n + 1 : Nat) : Int)
    omega
theorem fO_bd (F : Int) (l : List Sl) (dm : Int) (i : Nat) : 0 ≤ fO F l dm i ∧ fO F l dm i ≤ 1 := by unfold fO; split <;> decide
theorem fR_bd (F : Int) (l : List Sl) (dm : Int) (i : Nat) : 0 ≤ fR F l dm i ∧ fR F l dm i ≤ 1 := by unfold fR; split <;> decide
theorem cnt_own {F : Int} {Fn : Nat} (hF : F = Fn) {L : List (List Sl)} (hg : Good F L) {l : List Sl} (hl : l ∈ L) {dm : Int} (hd : 0 ≤ dm) : sm Fn (fO F l dm) = ls l (fun x => if x.d = dm then x.l else 0) := by
  rw [← own_count hF hg hl dm]
  refine sm_congr Fn fun i hi => ?_
  unfold fO
  cases h : slt F l (i : Int) with
  | none =>
    rw [(lN_none h).1, if_neg (by omega)]
    rfl
  | some x =>
    rw [(lN_some hg hl h).1]
    rfl
theorem cnt_run {F : Int} {Fn : Nat} (hF : F = Fn) {L : List (List Sl)} (hg : Good F L) {l : List Sl} (hl : l ∈ L) {dm : Int} (hd : 0 ≤ dm) : sm Fn (fR F l dm) = ls l (fun x => if x.d = dm then x.l - x.p else 0) := by
  rw [← run_count hF hg hl dm]
  refine sm_congr Fn fun i hi => ?_
  unfold fR
  cases h : slt F l (i : Int) with
  | none =>
    rw [(lN_none h).1, if_neg (by omega)]
    rfl
  | some x =>
    obtain ⟨a, b, c⟩ := lN_some hg hl h
    rw [mod_small (by omega) (by omega)] at c
    rw [a, c]
    show _ = if x.d = dm ∧ (i : Int) < x.s + x.l - x.p then (1 : Int) else 0
    by_cases q : x.s + x.l - x.p ≤ (i : Int)
    · rw [if_pos q, if_neg (by omega), if_neg (by omega)]
    · rw [if_neg q]
      by_cases e : x.d = dm
      · rw [if_pos ⟨e, by omega⟩, if_pos ⟨e, by omega⟩]
      · rw [if_neg (fun k => e k.1), if_neg (fun k => e k.1)]
theorem own_le {F : Int} {Fn : Nat} (hF : F = Fn) {L : List (List Sl)} (hg : Good F L) {l : List Sl} (hl : l ∈ L) {dm : Int} (hd : 0 ≤ dm) (q : Nat) : 0 ≤ ls (l.take q) (fun x => if x.d = dm then x.l else 0) ∧ ls (l.take q) (fun x => if x.d = dm then x.l else 0) ≤ 65536 := by
  have hnn : ∀ x ∈ l, 0 ≤ (if x.d = dm then x.l else 0) := fun x hx => by
    have := (hg.slot l hl x hx).1.1
    split <;> omega
  refine ⟨ls_nonneg fun x hx => hnn x (List.mem_of_mem_take hx), ?_⟩
  have h1 := cnt_own hF hg hl hd
  have h2 := (sm_01 (fO_bd F l dm) Fn).2
  have h3 : ls l (fun x => if x.d = dm then x.l else 0) = ls (l.take q) (fun x => if x.d = dm then x.l else 0) + ls (l.drop q) (fun x => if x.d = dm then x.l else 0) := by rw [← ls_app, List.take_append_drop]
  have h4 : 0 ≤ ls (l.drop q) (fun x => if x.d = dm then x.l else 0) := ls_nonneg fun x hx => hnn x (List.mem_of_mem_drop hx)
  have := hg.f2
  omega
theorem ls_take_snoc {α : Type} (f : α → Int) {l : List α} {q : Nat} {x : α} (h : l[q]? = some x) : ls (l.take (q + 1)) f = ls (l.take q) f + f x := by
  rw [List.take_add_one, h, Option.toList_some, ls_app, ls_cons, ls_nil]
  omega
end Go.Proofs.Ytbghagpjkkmhpaa.Lt
