/-
  At how many of the first ticks a domain has something: told by windows, and by its Ps at each place. No conditions but those that each theorem names.
-/
import Derived.Test.YtbghagpjkkmhpaaTbTckP
import Derived.Test.YtbghagpjkkmhpaaTbHasP
import Derived.Test.YtbghagpjkkmhpaaTbCntP
namespace Go.Proofs.Ytbghagpjkkmhpaa.Lt
open Tk (insN pas pas_succ pas_zero pas_end coN bef bef_bd coN_eq mayE)

/-- a domain has something at a place -/
def h1N (F : Int) (L : List (List Sl)) (dm : Int) (i : Nat) : Int := if 0 < (hasP F L (i : Int) dm).length then 1 else 0
theorem h1N_bd (F : Int) (L : List (List Sl)) (dm : Int) (i : Nat) : 0 ≤ h1N F L dm i ∧ h1N F L dm i ≤ 1 := by unfold h1N; split <;> decide
/-- a whole window -/
def wf2 (x : Sl) : Int × Int := (x.s, x.l)
/-- what Ticks tells -/
def tckN (Fn : Nat) (L : List (List Sl)) (dm : Int) (N : Nat) : Int := ((N / Fn : Nat) : Int) * sm Fn (h1N (Fn : Int) L dm) + sm (N % Fn) (h1N (Fn : Int) L dm)
theorem cov_has {F : Int} {L : List (List Sl)} (hg : Good F L) (dm : Int) (i : Nat) (hi : (i : Int) < F) {ws : List (Int × Int)} (hp : ws.Perm ((dsl L dm).map wf2)) : cv1 ws i = h1N F L dm i := by
  unfold cv1 h1N
  rw [cov_perm hp]
  have e : cov ((dsl L dm).map wf2) i = true ↔ 0 < (hasP F L (i : Int) dm).length := by
    unfold cov
    rw [List.any_map, List.any_eq_true, List.length_pos_iff_exists_mem]
    constructor
    · rintro ⟨x, hx, hq⟩
      have hq := of_decide_eq_true hq
      obtain ⟨⟨l, hl, hxl⟩, hd⟩ := dsl_mem hx
      obtain ⟨P, hP, e⟩ := List.getElem_of_mem hl
      refine ⟨P, hasP_mem.2 ⟨l, by rw [List.getElem?_eq_getElem hP, e], ?_⟩⟩
      have hin : inT F (i : Int) x = true := by
        unfold inT Tk.insB
        rw [mod_small (by omega) hi]
        exact decide_eq_true hq
      have h1 : x ∈ l.filter (inT F (i : Int)) := List.mem_filter.2 ⟨hxl, hin⟩
      rw [fil_slt (hg.apart l hl)] at h1
      unfold hasB
      rw [Option.mem_toList.1 h1]
      exact decide_eq_true hd
    · rintro ⟨P, hP⟩
      obtain ⟨l, hl, hb⟩ := hasP_mem.1 hP
      unfold hasB at hb
      cases hs : slt F l (i : Int) with
      | none => rw [hs] at hb; cases hb
      | some x =>
        rw [hs] at hb
        obtain ⟨k1, k2, k3⟩ := slt_mem hs
        rw [mod_small (by omega) hi] at k2 k3
        refine ⟨x, ?_, decide_eq_true ⟨k2, k3⟩⟩
        unfold dsl
        rw [List.mem_filter, List.mem_flatten]
        exact ⟨⟨l, List.mem_of_getElem? hl, k1⟩, hb⟩
  by_cases c : cov ((dsl L dm).map wf2) i = true
  · rw [if_pos c, if_pos (e.1 c)]
  · rw [if_neg c, if_neg (fun q => c (e.2 q))]
theorem coN0 {F s l : Int} (N : Nat) (hN : (N : Int) ≤ 18446744073709551615) (hs : 0 ≤ s) (hl : 1 ≤ l) (hf : s + l ≤ F) : coN 0 N F s l = (N : Int) / F * l + pas ((N : Int) % F) s l ∧ 0 ≤ coN 0 N F s l := by
  have hm : mayE s l F = 0 := Tk.may_of hs hl hf
  have e : coN 0 N F s l = bef N F s l := by
    rcases Nat.eq_zero_or_pos N with h | h
    · subst h
      unfold coN bef
      rw [show ((0 : Nat) : Int) = 0 from rfl, if_pos hm, if_pos rfl]
      rw [Int.zero_ediv, Int.zero_emod, pas_zero s l hs, Int.zero_mul]
      rfl
    · rw [coN_eq hm hs (by omega) (by omega), Int.zero_add]
      unfold bef
      rw [Int.zero_ediv, Int.zero_emod, pas_zero s l hs]
      omega
  rw [e]
  exact ⟨rfl, (bef_bd N F s l (by omega) hs hl hf).1⟩
/-- the windows' counts, added up -/
theorem tck_eq {Fn : Nat} {L : List (List Sl)} (hg : Good (Fn : Int) L) (dm : Int) (N : Nat) (hN : (N : Int) ≤ 18446744073709551615) {ws : List (Int × Int)} (hp : ws.Perm ((dsl L dm).map wf2)) (hs : ws.Pairwise (fun a b => a.1 ≤ b.1)) :
    ls (aprt 0 ws) (fun q => coN 0 N (Fn : Int) q.1 q.2) = tckN Fn L dm N := by
  have hf1 := hg.f1
  have hin : ∀ q ∈ aprt 0 ws, 0 ≤ q.1 ∧ 1 ≤ q.2 ∧ q.1 + q.2 ≤ (Fn : Int) := fun q hq => by
    obtain ⟨a, b, p, hpm, e⟩ := aprt_mem ws 0 q hq
    obtain ⟨x, hx, rfl⟩ := List.mem_map.1 (hp.mem_iff.1 hpm)
    obtain ⟨k1, k2, k3, k4, k5⟩ := hg.dsl hx
    unfold wf2 at e
    exact ⟨a, b, by omega⟩
  have h1 : ls (aprt 0 ws) (fun q => coN 0 N (Fn : Int) q.1 q.2) = ls (aprt 0 ws) (fun q => (N : Int) / Fn * pas Fn q.1 q.2) + ls (aprt 0 ws) (fun q => pas ((N % Fn : Nat) : Int) q.1 q.2) := by
    have e : ls (aprt 0 ws) (fun q => coN 0 N (Fn : Int) q.1 q.2) = ls (aprt 0 ws) (fun q => (N : Int) / Fn * pas Fn q.1 q.2 + pas ((N % Fn : Nat) : Int) q.1 q.2) := ls_congr fun q hq => by
      obtain ⟨a, b, c⟩ := hin q hq
      rw [(coN0 N hN a b c).1, pas_end _ _ _ b c, Int.natCast_emod]
    rw [e]
    generalize aprt 0 ws = zs
    clear e hin
    induction zs with
    | nil => rfl
    | cons x r ih => rw [ls_cons, ls_cons, ls_cons, ih]; omega
  have h2 : ls (aprt 0 ws) (fun q => (N : Int) / Fn * pas Fn q.1 q.2) = (N : Int) / Fn * ls (aprt 0 ws) (fun q => pas Fn q.1 q.2) := by
    generalize aprt 0 ws = zs
    induction zs with
    | nil => rw [ls_nil, ls_nil, Int.mul_zero]
    | cons x r ih => rw [ls_cons, ls_cons, ih, Int.mul_add]
  have hmod : N % Fn < Fn := Nat.mod_lt _ (by omega)
  rw [h1, h2, aprt_pas hs Fn, aprt_pas hs (N % Fn)]
  unfold tckN
  rw [Int.natCast_ediv]
  congr 1
  · congr 1
    exact sm_congr Fn fun i hi => cov_has hg dm i (by omega) hp
  · exact sm_congr (N % Fn) fun i hi => cov_has hg dm i (by omega) hp
theorem tck_bd (Fn : Nat) (L : List (List Sl)) (dm : Int) (N : Nat) : 0 ≤ tckN Fn L dm N ∧ tckN Fn L dm N ≤ N := by
  obtain ⟨a, b⟩ := sm_01 (h1N_bd (Fn : Int) L dm) Fn
  obtain ⟨c, d⟩ := sm_01 (h1N_bd (Fn : Int) L dm) (N % Fn)
  have h1 : 0 ≤ ((N / Fn : Nat) : Int) * sm Fn (h1N (Fn : Int) L dm) := Int.mul_nonneg (Int.natCast_nonneg _) a
  have h2 : ((N / Fn : Nat) : Int) * sm Fn (h1N (Fn : Int) L dm) ≤ ((N / Fn : Nat) : Int) * Fn := Int.mul_le_mul_of_nonneg_left b (Int.natCast_nonneg _)
  have h3 : ((N / Fn : Nat) : Int) * Fn + ((N % Fn : Nat) : Int) = N := by
    rw [← Int.natCast_mul, ← Int.natCast_add, Nat.mul_comm, Nat.div_add_mod]
  unfold tckN
  omega
end Go.Proofs.Ytbghagpjkkmhpaa.Lt
