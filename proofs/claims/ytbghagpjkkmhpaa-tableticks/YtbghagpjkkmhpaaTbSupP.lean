/-
  How often windows have each place, counted by their beginnings and ends; the least sum of so many numbers of a ring. No conditions but those that each theorem names.
-/
import Derived.Test.YtbghagpjkkmhpaaTbMath
namespace Go.Proofs.Ytbghagpjkkmhpaa.Lt
open Tk (insN)

def bgN (ws : List (Int × Int)) (i : Int) : Int := ls ws fun q => if q.1 = i then 1 else 0
def enN (ws : List (Int × Int)) (i : Int) : Int := ls ws fun q => if q.1 + q.2 = i then 1 else 0
def cvN (ws : List (Int × Int)) (i : Int) : Int := ls ws fun q => insN i q.1 q.2
/-- the first n numbers of a function -/
def fl (n : Nat) (f : Int → Int) : List Int := (List.range n).map fun (i : Nat) => f (i : Int)
theorem fl_len (n : Nat) (f : Int → Int) : (fl n f).length = n := by simp [fl]
theorem fl_get {n i : Nat} (f : Int → Int) (h : i < n) : (fl n f)[i]? = some (f (i : Int)) := by
  unfold fl
  rw [List.getElem?_map, List.getElem?_range h]
  rfl
theorem fl_congr {n : Nat} {f g : Int → Int} (h : ∀ i : Nat, i < n → f (i : Int) = g (i : Int)) : fl n f = fl n g := by
  unfold fl
  refine List.map_congr_left fun i hi => ?_
  exact h i (List.mem_range.1 hi)
theorem fl_set {n s : Nat} {f g : Int → Int} (hs : s < n) {u : Int} (hu : u = g s) (h : ∀ i : Nat, i < n → i ≠ s → f (i : Int) = g (i : Int)) : (fl n f).set s u = fl n g := by
  refine List.ext_getElem? fun i => ?_
  by_cases hi : i < n
  · rw [fl_get g hi]
    by_cases e : i = s
    · subst e
      rw [List.getElem?_set_self (by rw [fl_len]; exact hi), hu]
    · rw [List.getElem?_set_ne (fun q => e q.symm), fl_get f hi, h i hi e]
  · rw [List.getElem?_eq_none (by rw [List.length_set, fl_len]; omega), List.getElem?_eq_none (by rw [fl_len]; omega)]
theorem bgN_snoc (ws : List (Int × Int)) (q : Int × Int) (i : Int) : bgN (ws ++ [q]) i = bgN ws i + if q.1 = i then 1 else 0 := by
  unfold bgN
  rw [ls_app, ls_cons, ls_nil]
  omega
theorem enN_snoc (ws : List (Int × Int)) (q : Int × Int) (i : Int) : enN (ws ++ [q]) i = enN ws i + if q.1 + q.2 = i then 1 else 0 := by
  unfold enN
  rw [ls_app, ls_cons, ls_nil]
  omega
theorem bgN_bd (ws : List (Int × Int)) (i : Int) : 0 ≤ bgN ws i ∧ bgN ws i ≤ ws.length := by
  constructor
  · exact ls_nonneg fun q _ => by split <;> decide
  · have : bgN ws i ≤ ws.length * 1 := ls_const fun q _ => by split <;> decide
    omega
theorem enN_bd (ws : List (Int × Int)) (i : Int) : 0 ≤ enN ws i ∧ enN ws i ≤ ws.length := by
  constructor
  · exact ls_nonneg fun q _ => by split <;> decide
  · have : enN ws i ≤ ws.length * 1 := ls_const fun q _ => by split <;> decide
    omega
theorem cvN_bd (ws : List (Int × Int)) (i : Int) : 0 ≤ cvN ws i ∧ cvN ws i ≤ ws.length := by
  constructor
  · exact ls_nonneg fun q _ => by unfold insN; split <;> decide
  · have : cvN ws i ≤ ws.length * 1 := ls_const fun q _ => by unfold insN; split <;> decide
    omega
/-- what has a place: what had the one ahead, and what begins there, but for what ends there -/
theorem cvN_step : ∀ {ws : List (Int × Int)} {i : Int}, (∀ q ∈ ws, 0 ≤ q.1 ∧ 1 ≤ q.2) → 0 ≤ i → cvN ws i = cvN ws (i - 1) + (bgN ws i - enN ws i) := by
  intro ws i h hi
  induction ws with
  | nil => rfl
  | cons q r ih =>
    unfold cvN bgN enN at *
    rw [ls_cons, ls_cons, ls_cons, ls_cons, ih fun x hx => h x (by simp [hx])]
    obtain ⟨h1, h2⟩ := h q (by simp)
    unfold insN
    have : (if q.1 ≤ i ∧ i < q.1 + q.2 then (1 : Int) else 0) = (if q.1 ≤ i - 1 ∧ i - 1 < q.1 + q.2 then 1 else 0) + ((if q.1 = i then 1 else 0) - (if q.1 + q.2 = i then 1 else 0)) := by
      by_cases a : q.1 = i
      · rw [if_pos a, if_pos ⟨by omega, by omega⟩, if_neg (by omega), if_neg (by omega)]; rfl
      · rw [if_neg a]
        by_cases b : q.1 + q.2 = i
        · rw [if_pos b, if_neg (by omega), if_pos ⟨by omega, by omega⟩]; rfl
        · rw [if_neg b]
          by_cases c : q.1 ≤ i ∧ i < q.1 + q.2
          · rw [if_pos c, if_pos ⟨by omega, by omega⟩]; rfl
          · rw [if_neg c, if_neg (by omega)]; rfl
    rw [this]
    omega
theorem cvN_neg : ∀ {ws : List (Int × Int)}, (∀ q ∈ ws, 0 ≤ q.1 ∧ 1 ≤ q.2) → cvN ws (-1) = 0 := by
  intro ws h
  unfold cvN
  refine (ls_congr (g := fun _ => 0) fun q hq => ?_).trans (ls_zero ws)
  unfold insN
  rw [if_neg (by have := (h q hq).1; omega)]
/-- a slot's part in which its domain can run, as a window -/
def wn (x : Sl) : Int × Int := (x.s, x.l - x.p)
theorem ls_map {α β : Type} (f : β → Int) (g : α → β) (l : List α) : ls (l.map g) f = ls l (fun x => f (g x)) := by
  unfold ls
  rw [List.map_map]
  rfl
theorem cvN_crw (L : List (List Sl)) (dm : Int) (i : Nat) : cvN ((dsl L dm).map wn) i = crw L dm i := by
  unfold cvN crw
  rw [ls_map]
  rfl
theorem lens_shr (L : List (List Sl)) (dm : Int) : ls ((dsl L dm).map wn) Prod.snd = shr L dm := by
  unfold shr
  rw [ls_map]
  rfl
/-- the least of a ring's sums, seen up to its own beginning once more -/
theorem isMn_wrap {n : Nat} {f : Nat → Int} {a : Int} (hn : 1 ≤ n) (hf : f n = f 0) (h : IsMn (n + 1) f a) : IsMn n f a := by
  obtain ⟨h1, i, hi, h2⟩ := h
  refine ⟨fun j hj => h1 j (by omega), ?_⟩
  rcases Nat.lt_or_ge i n with h3 | h3
  · exact ⟨i, h3, h2⟩
  · have : i = n := by omega
    subst this
    exact ⟨0, by omega, h2.trans hf⟩
/-- one place on: what comes in, less what goes out -/
theorem sup_shift (Fn : Nat) (L : List (List Sl)) (dm : Int) (i n : Nat) : sup Fn L dm (i + 1) n = sup Fn L dm i n + (crw L dm ((i + n) % Fn) - crw L dm (i % Fn)) := by
  have h1 := sup_add Fn L dm i 1 n
  have h2 := sup_add Fn L dm i n 1
  rw [Nat.add_comm 1 n, h2, sup_one, sup_one] at h1
  omega
theorem sup_end (Fn : Nat) (L : List (List Sl)) (dm : Int) (n : Nat) : sup Fn L dm Fn n = sup Fn L dm 0 n := by
  rw [← sup_mod Fn L dm Fn n, Nat.mod_self]
/-- the first sums -/
theorem sup_first {Fn : Nat} {L : List (List Sl)} {dm : Int} {n : Nat} (h : n ≤ Fn) : sup Fn L dm 0 n = sm n (crw L dm) :=
  sm_congr n fun j hj => by rw [Nat.zero_add, Nat.mod_eq_of_lt (by omega)]
end Go.Proofs.Ytbghagpjkkmhpaa.Lt
