/-
  The slots of a domain with their processors, in the order in which they are gone over. No conditions but those that each theorem names.
-/
import Derived.Test.YtbghagpjkkmhpaaTbMath
namespace Go.Proofs.Ytbghagpjkkmhpaa.Lt

def visR (dm : Int) (P : Nat) (l : List Sl) : List (Nat × Sl) := (l.filter fun x => decide (x.d = dm)).map fun x => (P, x)
def visL (dm : Int) : Nat → List (List Sl) → List (Nat × Sl)
  | _, [] => []
  | i, l :: r => visR dm i l ++ visL dm (i + 1) r
def vis (L : List (List Sl)) (dm : Int) : List (Nat × Sl) := visL dm 0 L
theorem visR_nil (dm : Int) (P : Nat) : visR dm P [] = [] := rfl
theorem visR_in {dm : Int} {P : Nat} {x : Sl} {r : List Sl} (h : x.d = dm) : visR dm P (x :: r) = (P, x) :: visR dm P r := by
  unfold visR
  rw [List.filter_cons, if_pos (by simpa using h), List.map_cons]
theorem visR_out {dm : Int} {P : Nat} {x : Sl} {r : List Sl} (h : x.d ≠ dm) : visR dm P (x :: r) = visR dm P r := by
  unfold visR
  rw [List.filter_cons, if_neg (by simpa using h)]
theorem visR_len (dm : Int) (P : Nat) (l : List Sl) : (visR dm P l).length ≤ l.length := by
  unfold visR
  rw [List.length_map]
  exact List.length_filter_le _ _
theorem visR_snd (dm : Int) (P : Nat) (l : List Sl) : (visR dm P l).map Prod.snd = l.filter fun x => decide (x.d = dm) := by
  unfold visR
  rw [List.map_map]
  exact (List.map_congr_left fun x _ => rfl).trans (List.map_id _)
theorem visL_snd (dm : Int) : ∀ (L : List (List Sl)) (i : Nat), (visL dm i L).map Prod.snd = dsl L dm := by
  intro L
  induction L with
  | nil => intro i; rfl
  | cons l r ih =>
    intro i
    show (visR dm i l ++ visL dm (i + 1) r).map Prod.snd = _
    unfold dsl
    rw [List.map_append, visR_snd, ih, List.flatten_cons, List.filter_append]
    rfl
theorem vis_snd (L : List (List Sl)) (dm : Int) : (vis L dm).map Prod.snd = dsl L dm := visL_snd dm L 0
theorem visL_len {dm : Int} {B : Nat} : ∀ (L : List (List Sl)) (i : Nat), (∀ l ∈ L, l.length ≤ B) → (visL dm i L).length ≤ L.length * B := by
  intro L
  induction L with
  | nil => intro i _; simp [visL]
  | cons l r ih =>
    intro i h
    show (visR dm i l ++ visL dm (i + 1) r).length ≤ _
    rw [List.length_append, List.length_cons, Nat.add_mul]
    have h1 := visR_len dm i l
    have h2 := h l (by simp)
    have h3 := ih (i + 1) (fun x hx => h x (by simp [hx]))
    omega
theorem vis_len {F : Int} {L : List (List Sl)} (hg : Good F L) (dm : Int) : (vis L dm).length ≤ 65536 := by
  have h := visL_len (dm := dm) (B := 1024) L 0 hg.len
  have := hg.n2
  have h2 : L.length * 1024 ≤ 64 * 1024 := Nat.mul_le_mul_right _ this
  unfold vis
  omega
/-- of a domain's slots, those seen so far, as windows less their pads -/
theorem vis_pre {L : List (List Sl)} {dm : Int} {vs : List (Nat × Sl)} {q : Nat × Sl} (h : (vs ++ [q]) <+: vis L dm) : q.2 ∈ dsl L dm ∧ (vs.length < (vis L dm).length) := by
  have h1 := h.length_le
  rw [List.length_append, List.length_singleton] at h1
  refine ⟨?_, by omega⟩
  rw [← vis_snd]
  exact List.mem_map_of_mem (h.subset (by simp))
end Go.Proofs.Ytbghagpjkkmhpaa.Lt
