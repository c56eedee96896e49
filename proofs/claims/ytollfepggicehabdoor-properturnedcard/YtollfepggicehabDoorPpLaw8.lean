/-
  What Check answers of a program of which a function's end was moved, or a word turned. No conditions.
-/
import Derived.Test.YtollfepggicehabDoorPpRCheck
namespace Go.Proofs.YtollfepggicehabDoor.Lt
open Go.RowKit Wd

theorem cF_moved {fs : List (Int × Int)} {nc m : Nat} {b e : Int} (h : (cF fs nc).2 = 0) (hm : fs.length = m + 1) (hl : fs[m]? = some (b, e)) : cF (fs.set m (b, e - 1)) nc = ((m : Int), 81) ∨ cF (fs.set m (b, e - 1)) nc = (((m + 1 : Nat) : Int), 81) := by
  have hp := prt_of h
  obtain ⟨_, _, h3, h4⟩ := cF_in h
  have he : e = (nc : Int) := by rw [hm, eA_succ hl] at h3; exact h3
  have hlen : (fs.set m (b, e - 1)).length = m + 1 := by rw [List.length_set]; exact hm
  have hg : ∀ l, l < m → (fs.set m (b, e - 1))[l]? = fs[l]? := fun l q => List.getElem?_set_ne (by omega)
  have hgm : (fs.set m (b, e - 1))[m]? = some (b, e - 1) := by rw [List.getElem?_set_self (by omega)]
  have hA : ∀ l, l ≤ m → eA (fs.set m (b, e - 1)) l = eA fs l := fun l q => by
    unfold eA
    by_cases z : l = 0
    · rw [if_pos z, if_pos z]
    · rw [if_neg z, if_neg z, hg (l - 1) (by omega)]
  have hz : ∀ l, l < m → fB (fs.set m (b, e - 1)) nc l = 0 := fun l q => by
    have := h4 l (by omega)
    unfold fB at this ⊢
    rw [hg l q, hA l (by omega)]
    exact this
  have hb := hp.b m (b, e) hl
  have hi := hp.i (b, e) (List.mem_of_getElem? hl)
  simp only at hb hi
  by_cases q : e - 1 ≤ b
  · left
    have h8 : fB (fs.set m (b, e - 1)) nc m = 81 := by
      unfold fB
      rw [hgm]
      simp only [Option.getD_some]
      rw [if_pos (.inr (.inl q))]
    unfold cF
    rw [hlen, fR_at (j := m) (Nat.zero_le _) (by omega) (fun l _ z => hz l z) (by rw [h8]; decide), h8]
    simp
  · right
    have h8 : fB (fs.set m (b, e - 1)) nc m = 0 := by
      unfold fB
      rw [hgm, hA m (Nat.le_refl _)]
      simp only [Option.getD_some]
      rw [if_neg (fun z => by rcases z with z | z | z <;> omega)]
    unfold cF
    rw [hlen, fR_none (fun l _ z => by
      by_cases e9 : l = m
      · rw [e9]; exact h8
      · exact hz l (by omega))]
    have e10 : eA (fs.set m (b, e - 1)) (m + 1) ≠ (nc : Int) := by rw [eA_succ hgm]; simp only; omega
    rw [if_pos ⟨rfl, .inr e10⟩]
theorem chk_parts {cs : List Int} {fs : List (Int × Int)} {ts : List Tb} (h : (chk cs fs ts).2 = 0) : ¬ (4096 < cs.length ∨ 256 < fs.length ∨ 256 < ts.length) ∧ (cF fs cs.length).2 = 0 := by
  unfold chk at h
  split at h
  · cases h
  · rename_i q
    refine ⟨q, ?_⟩
    split at h
    · rename_i z
      exact absurd h z
    · rename_i z
      exact Classical.byContradiction z
/-- with the last function's end moved a program may not be -/
theorem chk_moved {cs : List Int} {fs : List (Int × Int)} {ts : List Tb} {m : Nat} {b e : Int} (h : (chk cs fs ts).2 = 0) (hm : fs.length = m + 1) (hl : fs[m]? = some (b, e)) : chk cs (fs.set m (b, e - 1)) ts = ((m : Int), 81) ∨ chk cs (fs.set m (b, e - 1)) ts = (((m + 1 : Nat) : Int), 81) := by
  obtain ⟨h1, h2⟩ := chk_parts h
  have e1 : chk cs (fs.set m (b, e - 1)) ts = cF (fs.set m (b, e - 1)) cs.length := by
    unfold chk
    rw [List.length_set, if_neg h1, if_pos]
    rcases cF_moved h2 hm hl with z | z <;> rw [z] <;> simp
  rw [e1]
  exact cF_moved h2 hm hl
theorem wE_codes (nf nt : Nat) (f : Int × Int) (a x : Int) : wE nf nt f a x = 0 ∨ wE nf nt f a x = 80 ∨ wE nf nt f a x = 81 ∨ wE nf nt f a x = 82 ∨ wE nf nt f a x = 83 ∨ wE nf nt f a x = 84 := by
  unfold wE
  split
  · omega
  · split
    · omega
    · split
      · omega
      · split
        · omega
        · split <;> omega
theorem fR_code {ef : Nat → Int} {b e : Nat} {Q : Int → Prop} (h : ∀ n, Q (ef n)) (h0 : Q 0) : Q (fR ef b e).2 := by
  unfold fR
  split
  · exact h _
  · exact h0
theorem wF_code {cs : List Int} {nf nt : Nat} : ∀ fs : List (Int × Int), (wF cs nf nt fs).2 = 0 ∨ (wF cs nf nt fs).2 = 80 ∨ (wF cs nf nt fs).2 = 81 ∨ (wF cs nf nt fs).2 = 82 ∨ (wF cs nf nt fs).2 = 83 ∨ (wF cs nf nt fs).2 = 84 := by
  intro fs
  induction fs with
  | nil => exact .inl rfl
  | cons f r ih =>
    show (if (fR (wA cs nf nt f) f.1.toNat f.2.toNat).2 = 0 then wF cs nf nt r else fR (wA cs nf nt f) f.1.toNat f.2.toNat).2 = 0 ∨ _
    have key : (fR (wA cs nf nt f) f.1.toNat f.2.toNat).2 = 0 ∨ (fR (wA cs nf nt f) f.1.toNat f.2.toNat).2 = 80 ∨ (fR (wA cs nf nt f) f.1.toNat f.2.toNat).2 = 81 ∨ (fR (wA cs nf nt f) f.1.toNat f.2.toNat).2 = 82 ∨ (fR (wA cs nf nt f) f.1.toNat f.2.toNat).2 = 83 ∨ (fR (wA cs nf nt f) f.1.toNat f.2.toNat).2 = 84 :=
      fR_code (Q := fun c => c = 0 ∨ c = 80 ∨ c = 81 ∨ c = 82 ∨ c = 83 ∨ c = 84) (fun n => by
        unfold wA
        split
        · exact wE_codes _ _ _ _ _
        · exact .inl rfl) (.inl rfl)
    show (wF cs nf nt (f :: r)).2 = 0 ∨ (wF cs nf nt (f :: r)).2 = 80 ∨ (wF cs nf nt (f :: r)).2 = 81 ∨ (wF cs nf nt (f :: r)).2 = 82 ∨ (wF cs nf nt (f :: r)).2 = 83 ∨ (wF cs nf nt (f :: r)).2 = 84
    unfold wF
    split
    · exact ih
    · exact key
/-- of a program of which a word was turned Check tells one of six -/
theorem chk_code {cs cs' : List Int} {fs : List (Int × Int)} {ts : List Tb} (h : (chk cs fs ts).2 = 0) (hl : cs'.length = cs.length) : (chk cs' fs ts).2 = 0 ∨ (chk cs' fs ts).2 = 80 ∨ (chk cs' fs ts).2 = 81 ∨ (chk cs' fs ts).2 = 82 ∨ (chk cs' fs ts).2 = 83 ∨ (chk cs' fs ts).2 = 84 := by
  obtain ⟨h1, h2⟩ := chk_parts h
  unfold chk
  rw [hl, if_neg h1, if_neg (by rw [h2]; decide)]
  split
  · have := fR_code (ef := tE ts) (b := 0) (e := ts.length) (Q := fun c => c = 0 ∨ c = 83) (fun n => by
      cases hx : ts[n]? with
      | none => left; unfold tE; rw [hx]
      | some t => rw [tE_ok hx]; split <;> simp) (.inl rfl)
    rcases this with z | z
    · exact .inl z
    · exact .inr (.inr (.inr (.inr (.inl z))))
  · exact wF_code fs
end Go.Proofs.YtollfepggicehabDoor.Lt
