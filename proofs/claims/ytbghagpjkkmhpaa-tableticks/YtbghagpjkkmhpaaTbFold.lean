/-
  Share and Longest as folds over a domain's slots. Conditions: the table may be.
-/
import Derived.Test.YtbghagpjkkmhpaaTbVis
namespace Go.Proofs.Ytbghagpjkkmhpaa.Lt

def shF (m : Int) (x : Sl) : Int := m + (x.l - x.p)
def lgF (m : Int) (x : Sl) : Int := if m < x.l - x.p then x.l - x.p else m
/-- a step that adds at most a frame -/
def Stp (f : Int → Sl → Int) : Prop := ∀ m x, 0 ≤ m → 0 ≤ x.l - x.p → m ≤ f m x ∧ f m x ≤ m + (x.l - x.p)
theorem shF_stp : Stp shF := fun m x _ _ => by unfold shF; omega
theorem lgF_stp : Stp lgF := fun m x _ _ => by unfold lgF; split <;> omega
def fo (f : Int → Sl → Int) (s : Int) (l : List Sl) : Int := l.foldl f s
theorem fo_nil (f : Int → Sl → Int) (s : Int) : fo f s [] = s := rfl
theorem fo_cons (f : Int → Sl → Int) (s : Int) (x : Sl) (r : List Sl) : fo f s (x :: r) = fo f (f s x) r := rfl
theorem fo_app (f : Int → Sl → Int) (s : Int) (a b : List Sl) : fo f s (a ++ b) = fo f (fo f s a) b := List.foldl_append
theorem fo_bd {f : Int → Sl → Int} (hf : Stp f) : ∀ (l : List Sl) (s : Int), 0 ≤ s → (∀ x ∈ l, 0 ≤ x.l - x.p ∧ x.l - x.p ≤ 65536) → s ≤ fo f s l ∧ fo f s l ≤ s + l.length * 65536 := by
  intro l
  induction l with
  | nil => intro s _ _; simp [fo]
  | cons x r ih =>
    intro s h0 h
    obtain ⟨a, b⟩ := h x (by simp)
    obtain ⟨c, d⟩ := hf s x h0 a
    obtain ⟨e, g⟩ := ih (f s x) (by omega) (fun y hy => h y (by simp [hy]))
    rw [fo_cons, List.length_cons]
    omega
theorem fo_sh (l : List Sl) : ∀ s, fo shF s l = s + ls l (fun x => x.l - x.p) := by
  induction l with
  | nil => intro s; rw [ls_nil, fo_nil]; omega
  | cons x r ih => intro s; rw [fo_cons, ih, ls_cons]; unfold shF; omega
theorem fo_shr (L : List (List Sl)) (dm : Int) : fo shF 0 (dsl L dm) = shr L dm := by rw [fo_sh]; unfold shr; omega
/-- the fold over the slots seen so far -/
def vf (f : Int → Sl → Int) (vs : List (Nat × Sl)) : Int := fo f 0 (vs.map Prod.snd)
theorem vf_snoc (f : Int → Sl → Int) (vs : List (Nat × Sl)) (P : Nat) (x : Sl) : vf f (vs ++ [(P, x)]) = f (vf f vs) x := by
  unfold vf
  rw [List.map_append, fo_app]
  rfl
theorem vf_all (f : Int → Sl → Int) (L : List (List Sl)) (dm : Int) : vf f (vis L dm) = fo f 0 (dsl L dm) := by
  unfold vf
  rw [vis_snd]
theorem vf_bd {f : Int → Sl → Int} (hf : Stp f) {F : Int} {L : List (List Sl)} (hg : Good F L) {dm : Int} {vs : List (Nat × Sl)} (h : vs <+: vis L dm) : 0 ≤ vf f vs ∧ vf f vs ≤ 4294967296 := by
  have hl := h.length_le
  have h2 := vis_len hg dm
  have h3 := hg.f2
  obtain ⟨a, b⟩ := fo_bd hf (vs.map Prod.snd) 0 (Int.le_refl _) (fun x hx => by
    rw [List.mem_map] at hx
    obtain ⟨q, hq, rfl⟩ := hx
    have hm : q.2 ∈ dsl L dm := by rw [← vis_snd]; exact List.mem_map_of_mem (h.subset hq)
    obtain ⟨k1, k2, k3, k4, k5⟩ := hg.dsl hm
    omega)
  rw [List.length_map] at b
  have h4 : (vs.length : Int) * 65536 ≤ 65536 * 65536 := Int.mul_le_mul_of_nonneg_right (by omega) (by decide)
  unfold vf
  omega
theorem dsl_cons (l : List Sl) (r : List (List Sl)) (dm : Int) : dsl (l :: r) dm = (l.filter fun x => decide (x.d = dm)) ++ dsl r dm := by
  unfold dsl
  rw [List.flatten_cons, List.filter_append]
theorem fil_in {dm : Int} {x : Sl} {r : List Sl} (h : x.d = dm) : (x :: r).filter (fun x => decide (x.d = dm)) = x :: r.filter (fun x => decide (x.d = dm)) := by
  rw [List.filter_cons, if_pos (by simpa using h)]
theorem fil_out {dm : Int} {x : Sl} {r : List Sl} (h : x.d ≠ dm) : (x :: r).filter (fun x => decide (x.d = dm)) = r.filter (fun x => decide (x.d = dm)) := by
  rw [List.filter_cons, if_neg (by simpa using h)]
end Go.Proofs.Ytbghagpjkkmhpaa.Lt
