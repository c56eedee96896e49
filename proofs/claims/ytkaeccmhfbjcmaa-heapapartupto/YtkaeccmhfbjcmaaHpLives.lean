/-
  What lives answers: the program's heap of one tells it. What was pushed, dropped and told, in plain lists. No conditions.
-/
import Derived.Test.YtkaeccmhfbjcmaaHpLs
import Derived.Handy
namespace Go.Proofs.Ytkaeccmhfbjcmaa.Hp
open Go.RowKit
attribute [local go_sem ↓] Go.wp_at_zero Go.wp_at_succ

theorem push_any (T : Nat → Prop) (b : Nat) (xs : List W3) (nx wh va : Int) (w : World) (h : Hh T w b xs nx) (h0 : 0 ≤ nx) (hnx : nx < 4294967296) (hn : xs.length < 4294967296) :
    Calls Try.prog 11 #[.pointer (some ⟨b, 0, none⟩), .int .u64 wh, .int .i64 va] w fun e w' => Pushed T w b xs ⟨wh, nx, va⟩ nx e w' := by
  rcases h.st with ⟨rfl, h1, h2⟩ | ⟨g, km, cap, M, clock, h1, h2⟩
  · exact push_fresh T b nx wh va w h h1 h2 h0 hnx
  · exact push_made T b g km cap xs M clock nx wh va w h h1 h2 h0 hnx hn

set_option maxHeartbeats 1000000 in
theorem lives_any (w : World) : Calls Try.prog 8 #[] w fun e w' => e = .returned (.bool true) ∧ Ch NoB w w' := by
  go_enter Try.func8, Try.ntmps8
  go_wp2_with fail
  refine (new_any _).mono ?_
  rintro e w1 ⟨b, rfl, hb, h1, g1⟩
  have H1 := hid h1
  have HG1 := hid g1
  clear h1 g1
  go_wp2_with fail
  refine (push_any _ b [] 0 4 9 w1 H1.out (by omega) (by omega) (by simp)).mono ?_
  rintro e w2 ⟨rfl, ys, p2, T2, h2, g2, t2⟩
  have ey : ys = [(⟨4, 0, 9⟩ : W3)] := List.perm_singleton.1 p2
  subst ey
  have HG2 := hid (HG1.out.trans g2 (fun q e => .inr (by have e1 : q = b := e; omega)))
  have HT2 := hid (show ∀ q, T2 q → w.heap.size ≤ q from fun q e => (t2 q e).elim (fun e => by have e1 : q = b := e; omega) (fun e => Nat.le_trans HG1.out.size e))
  have H2 := hid h2
  clear p2 h2 g2 t2
  go_wp2_with fail
  refine (pop_some T2 b _ _ ⟨4, 0, 9⟩ w2 H2.out rfl (by simp)).mono ?_
  rintro e w3 ⟨rfl, zs, p3, T3, h3, g3, t3⟩
  have HG3 := hid (HG2.out.trans g3 (fun q e => .inr (HT2.out q e)))
  clear p3 h3 g3 t3
  go_wp2
  go_ret
  exact ⟨rfl, HG3.out⟩

/-- behind j pushes -/
structure PA (ws : List Int) (j : Nat) (xs : List W3) : Prop where
  m : ∀ z, z ∈ xs ↔ ∃ (i : Nat) (u : Int), i < j ∧ ws[i]? = some u ∧ z = ⟨u, (i : Int), (i : Int)⟩
  l : xs.length = j
theorem PA.nil (ws : List Int) : PA ws 0 [] := ⟨fun z => ⟨fun h => by simp at h, fun ⟨i, u, h, _⟩ => by omega⟩, rfl⟩
theorem PA.push {ws : List Int} {j : Nat} {xs ys : List W3} {u : Int} (h : PA ws j xs) (hu : ws[j]? = some u) (p : ys.Perm (⟨u, (j : Int), (j : Int)⟩ :: xs)) : PA ws (j + 1) ys := by
  refine ⟨fun z => ?_, by rw [p.length_eq, List.length_cons, h.l]⟩
  rw [p.mem_iff, List.mem_cons, h.m]
  constructor
  · rintro (rfl | ⟨i, v, h1, h2, h3⟩)
    · exact ⟨j, u, by omega, hu, rfl⟩
    · exact ⟨i, v, by omega, h2, h3⟩
  · rintro ⟨i, v, h1, h2, h3⟩
    by_cases e : i = j
    · subst e
      rw [hu] at h2
      injection h2 with h2
      subst h2
      exact .inl h3
    · exact .inr ⟨i, v, by omega, h2, h3⟩
/-- where some are gone -/
def PB (ws : List Int) (gone : List Bool) (xs : List W3) : Prop := ∀ z, z ∈ xs ↔ ∃ (i : Nat) (u : Int), ws[i]? = some u ∧ gone[i]? = some false ∧ z = ⟨u, (i : Int), (i : Int)⟩
theorem PA.pb {ws : List Int} {xs : List W3} (h : PA ws ws.length xs) : PB ws (List.replicate ws.length false) xs := fun z => by
  rw [h.m]
  constructor
  · rintro ⟨i, u, h1, h2, h3⟩
    exact ⟨i, u, h2, by rw [List.getElem?_replicate, if_pos h1], h3⟩
  · rintro ⟨i, u, h2, _, h3⟩
    exact ⟨i, u, (List.getElem?_eq_some_iff.1 h2).1, h2, h3⟩
theorem PB.del {ws : List Int} {gone : List Bool} {xs ys : List W3} {i : Nat} {u : Int} (h : PB ws gone xs) (hn : Nn xs) (hg : gone[i]? = some false) (p : xs.Perm (⟨u, (i : Int), (i : Int)⟩ :: ys)) : PB ws (gone.set i true) ys := by
  have hl : i < gone.length := (List.getElem?_eq_some_iff.1 hg).1
  have hn2 : Nn ((⟨u, (i : Int), (i : Int)⟩ : W3) :: ys) := hn.perm p.symm
  unfold Nn at hn2
  rw [List.map_cons, List.nodup_cons] at hn2
  intro z
  constructor
  · intro hz
    obtain ⟨k, v, h1, h2, h3⟩ := (h z).1 (p.mem_iff.2 (List.mem_cons_of_mem _ hz))
    have hk : i ≠ k := fun e => hn2.1 (List.mem_map.2 ⟨z, hz, by rw [h3, e]⟩)
    exact ⟨k, v, h1, by rw [List.getElem?_set_ne hk]; exact h2, h3⟩
  · rintro ⟨k, v, h1, h2, h3⟩
    have hk : i ≠ k := fun e => by
      subst e
      rw [List.getElem?_set_self hl] at h2
      cases h2
    rw [List.getElem?_set_ne hk] at h2
    have h4 := p.mem_iff.1 ((h z).2 ⟨k, v, h1, h2, h3⟩)
    rw [List.mem_cons] at h4
    rcases h4 with h4 | h4
    · rw [h3] at h4
      injection h4 with _ h5
      omega
    · exact h4
theorem PB.out {ws : List Int} {gone : List Bool} {xs : List W3} {d : Int} (h : PB ws gone xs) (hd : ∀ i : Nat, d = (i : Int) → gone[i]? ≠ some false) : ∀ x ∈ xs, x.n ≠ d := fun x hx e => by
  obtain ⟨i, u, _, h2, h3⟩ := (h x).1 hx
  rw [h3] at e
  exact hd i e.symm h2
/-- all behind what was told last -/
def Behind (lw ln : Int) (xs : List W3) : Prop := ∀ z ∈ xs, lt ⟨lw, ln, 0⟩ z = true
theorem behind_next {xs ys : List W3} {x : W3} (hr : ∀ (i : Nat) (y : W3), xs[i]? = some y → lt y x = false) (hn : Nn xs) (p : xs.Perm (x :: ys)) : Behind x.w x.n ys := fun z hz => by
  have hn2 : Nn (x :: ys) := hn.perm p.symm
  unfold Nn at hn2
  rw [List.map_cons, List.nodup_cons] at hn2
  obtain ⟨i, hi⟩ := List.mem_iff_getElem?.1 (p.mem_iff.2 (List.mem_cons_of_mem _ hz))
  have h1 := lt_total (hr i z hi) (fun e => hn2.1 (List.mem_map.2 ⟨z, hz, e⟩))
  have h2 := of_decide_eq_true h1
  exact decide_eq_true h2
end Go.Proofs.Ytkaeccmhfbjcmaa.Hp
