/-
  What the statements on paths lean on: paths go on, closed sets have all that they lead to, more edges take no path away. No conditions but those that each theorem names.
-/
import Derived.Test.YtcoaefojamhloaaPyAsk
namespace Go.Proofs.Ytcoaefojamhloaa.Lt
open Go.RowKit Wd

theorem mod_way (a : Int) (N : Nat) (h : 0 < N) (hN : N ≤ 16) : ∃ (u : Int) (X : Nat), a.tmod (N : Int) = u ∧ -16 < u ∧ u < 16 ∧ (u + (N : Int)).tmod (N : Int) = (X : Int) ∧ X < N := by
  have h1 : a.tmod (N : Int) < (N : Int) := Int.tmod_lt_of_pos a (by omega)
  have h2 : -(N : Int) < a.tmod (N : Int) := by
    have := Int.tmod_lt_of_pos (-a) (show (0 : Int) < (N : Int) by omega)
    rw [Int.neg_tmod] at this
    omega
  have h3 : (a.tmod (N : Int) + (N : Int)).tmod (N : Int) = (a.tmod (N : Int) + (N : Int)) % (N : Int) := Int.tmod_eq_emod_of_nonneg (by omega)
  have h4 := Int.emod_nonneg (a.tmod (N : Int) + (N : Int)) (show (N : Int) ≠ 0 by omega)
  have h5 := Int.emod_lt_of_pos (a.tmod (N : Int) + (N : Int)) (show (0 : Int) < (N : Int) by omega)
  exact ⟨_, ((a.tmod (N : Int) + (N : Int)) % (N : Int)).toNat, rfl, by omega, by omega, by rw [h3]; omega, by omega⟩
theorem wrap_way {u : Int} {N : Nat} (h1 : -16 < u) (h2 : u < 16) (h3 : N ≤ 16) : IntKind.i64.wrap (u + (N : Int)) = u + (N : Int) := by
  simp only [IntKind.wrap, IntKind.bits, IntKind.signed]
  simp
  omega
/-- what Path tells where all may be -/
theorem pthE_ok {N : Nat} {l : List Eg} (h1 : 1 ≤ N) (h2 : N ≤ 16) (hl : Okl (N : Int) l) {X Y : Nat} (hX : X < N) (hY : Y < N) : pthE (N : Int) l (X : Int) (Y : Int) = .returned (.tuple #[.bool (pthR N l X Y), .int .i64 0]) := by
  have h0 : wrgP (N : Int) l [(X : Int), (Y : Int)] = 0 := wrgP_good (by omega) (by omega) hl (fun d hd => by
    simp only [List.mem_cons, List.not_mem_nil, or_false] at hd
    rcases hd with rfl | rfl <;> omega)
  unfold pthE pthB
  rw [h0, if_pos rfl]
  simp
theorem wrgP_err {n : Int} {l : List Eg} {ds : List Int} (h : (chkP n l).2 ≠ 0) : wrgP n l ds = (chkP n l).2 := if_neg h
theorem pthE_err {n : Int} {l : List Eg} {x y : Int} (h : (chkP n l).2 ≠ 0) : pthE n l x y = .returned (.tuple #[.bool false, .int .i64 (chkP n l).2]) := by
  unfold pthE pthB
  rw [wrgP_err h, if_neg h]
theorem pthR_trans {N : Nat} {l : List Eg} (hl : Okl (N : Int) l) {a b c : Nat} (ha : a < N) (hb : b < N) (h1 : pthR N l a b = true) (h2 : pthR N l b c = true) : pthR N l a c = true :=
  (pthR_iff hl ha).2 (((pthR_iff hl ha).1 h1).trans ((pthR_iff hl hb).1 h2))
theorem pthR_edge {N : Nat} {l : List Eg} (hl : Okl (N : Int) l) {x : Eg} (hx : x ∈ l) : pthR N l x.f.toNat x.t.toNat = true := by
  have := egB_iff.1 (hl x hx)
  exact (pthR_iff hl (by omega)).2 (Pt.step x (Pt.refl _) hx rfl)
/-- a set that has one, closed, has all to which a path leads from it -/
theorem cl_pth {N : Nat} {l : List Eg} (hl : Okl (N : Int) l) {s : St} {a d : Nat} (ha : a < N) (hs : s a = true) (h : pthR N l a d = true) : itS l N s d = true :=
  cl_pt (itS_cl hl ha hs) ((pthR_iff hl ha).1 h) (itS_mono hs N)
theorem okl_app {n : Int} {l k : List Eg} : Okl n (l ++ k) ↔ Okl n l ∧ Okl n k := by
  unfold Okl
  constructor
  · exact fun h => ⟨fun x hx => h x (List.mem_append_left _ hx), fun x hx => h x (List.mem_append_right _ hx)⟩
  · rintro ⟨h1, h2⟩ x hx
    exact (List.mem_append.1 hx).elim (h1 x) (h2 x)
theorem pthR_more {N : Nat} {l k : List Eg} (hl : Okl (N : Int) (l ++ k)) {a b : Nat} (ha : a < N) (h : pthR N l a b = true) : pthR N (l ++ k) a b = true :=
  (pthR_iff hl ha).2 (((pthR_iff (okl_app.1 hl).1 ha).1 h).more fun _ hx => List.mem_append_left _ hx)
/-- more edges: what is refused is refused as before, or for an edge -/
theorem wrg_more (n x : Int) (l k : List Eg) : wrgP n l [x] = wrgP n (l ++ k) [x] ∨ wrgP n (l ++ k) [x] = 170 := by
  by_cases hn : n < 1 ∨ 16 < n
  · left
    have e : ∀ l, chkP n l = (0, 1) := fun _ => if_pos hn
    unfold wrgP
    rw [e, e]
  · have e : ∀ l, chkP n l = chkL n 0 l := fun _ => if_neg hn
    have v : ∀ l, (chkP n l).2 = 0 ∨ (chkP n l).2 = 170 := fun l => by rw [e]; exact chkL_vals l 0
    rcases v (l ++ k) with h1 | h1
    · have ok := (chkP_ok h1).2.2.1
      have h2 : (chkP n l).2 = 0 := by rw [chkP_good (by omega) (by omega) (okl_app.1 ok).1]
      left
      unfold wrgP
      rw [h1, h2]
    · right
      unfold wrgP
      rw [if_neg (by rw [h1]; decide), h1]
end Go.Proofs.Ytcoaefojamhloaa.Lt
