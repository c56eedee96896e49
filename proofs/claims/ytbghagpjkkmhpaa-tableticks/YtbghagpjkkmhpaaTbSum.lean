/-
  Sums over the places of a frame: of a list of slots that do not meet the one that a tick is inside, as a sum over all of them; how many places some windows have. No conditions but those that each theorem names.
-/
import Derived.Test.YtbghagpjkkmhpaaTbPlain
namespace Go.Proofs.Ytbghagpjkkmhpaa.Lt
open Tk (insB insN leN mayE U pas pas_succ pas_zero pas_end)

/-- f 0 + .. + f (n - 1) -/
def sm : Nat → (Nat → Int) → Int
  | 0, _ => 0
  | n + 1, f => sm n f + f n
theorem sm_congr {f g : Nat → Int} : ∀ n, (∀ i, i < n → f i = g i) → sm n f = sm n g := by
  intro n
  induction n with
  | zero => intro _; rfl
  | succ n ih => intro h; show sm n f + f n = sm n g + g n; rw [ih (fun i hi => h i (by omega)), h n (by omega)]
theorem sm_add (f g : Nat → Int) : ∀ n, sm n (fun i => f i + g i) = sm n f + sm n g := by
  intro n
  induction n with
  | zero => rfl
  | succ n ih => show sm n _ + (f n + g n) = sm n f + f n + (sm n g + g n); rw [ih]; omega
theorem sm_zero : ∀ n, sm n (fun _ => 0) = 0 := by
  intro n
  induction n with
  | zero => rfl
  | succ n ih => show sm n _ + 0 = 0; rw [ih]; rfl
theorem sm_le {f g : Nat → Int} : ∀ n, (∀ i, i < n → f i ≤ g i) → sm n f ≤ sm n g := by
  intro n
  induction n with
  | zero => intro _; exact Int.le_refl _
  | succ n ih => intro h; show sm n f + f n ≤ sm n g + g n; have := ih (fun i hi => h i (by omega)); have := h n (by omega); omega
theorem sm_nonneg {f : Nat → Int} (n : Nat) (h : ∀ i, i < n → 0 ≤ f i) : 0 ≤ sm n f := by
  have := sm_le (f := fun _ => 0) n h
  rwa [sm_zero] at this
theorem sm_cut (f : Nat → Int) (n : Nat) : ∀ m, sm (n + m) f = sm n f + sm m (fun j => f (n + j)) := by
  intro m
  induction m with
  | zero => show sm n f = sm n f + 0; omega
  | succ m ih => show sm (n + m) f + f (n + m) = sm n f + (sm m _ + f (n + m)); rw [ih]; omega
section
variable {α : Type}
/-- the sum of what a list's elements give -/
def ls (l : List α) (f : α → Int) : Int := (l.map f).sum
theorem ls_nil {f : α → Int} : ls [] f = 0 := rfl
theorem ls_cons {f : α → Int} (x : α) (r : List α) : ls (x :: r) f = f x + ls r f := by simp [ls]
theorem ls_app {f : α → Int} (a b : List α) : ls (a ++ b) f = ls a f + ls b f := by simp [ls]
theorem ls_congr {f g : α → Int} : ∀ {l : List α}, (∀ x ∈ l, f x = g x) → ls l f = ls l g := by
  intro l
  induction l with
  | nil => intro _; rfl
  | cons x r ih => intro h; rw [ls_cons, ls_cons, h x (by simp), ih (fun y hy => h y (by simp [hy]))]
theorem ls_le {f g : α → Int} : ∀ {l : List α}, (∀ x ∈ l, f x ≤ g x) → ls l f ≤ ls l g := by
  intro l
  induction l with
  | nil => intro _; exact Int.le_refl _
  | cons x r ih => intro h; rw [ls_cons, ls_cons]; have := h x (by simp); have := ih (fun y hy => h y (by simp [hy])); omega
theorem ls_zero (l : List α) : ls l (fun _ => 0) = 0 := by
  induction l with
  | nil => rfl
  | cons x r ih => rw [ls_cons, ih]; rfl
theorem ls_nonneg {f : α → Int} {l : List α} (h : ∀ x ∈ l, 0 ≤ f x) : 0 ≤ ls l f := by
  have := ls_le (f := fun _ => 0) h
  rwa [ls_zero] at this
theorem ls_const {f : α → Int} {c : Int} : ∀ {l : List α}, (∀ x ∈ l, f x ≤ c) → ls l f ≤ l.length * c := by
  intro l
  induction l with
  | nil => intro _; simp [ls]
  | cons x r ih => intro h; rw [ls_cons, List.length_cons]; have := h x (by simp); have := ih (fun y hy => h y (by simp [hy])); rw [Int.natCast_add, Int.add_mul]; omega
theorem ls_filter {f : α → Int} (p : α → Bool) (l : List α) : ls (l.filter p) f = ls l (fun x => if p x = true then f x else 0) := by
  induction l with
  | nil => rfl
  | cons x r ih =>
    rw [List.filter_cons, ls_cons]
    cases h : p x
    · simp [ih]
    · simp [ls_cons, ih]
theorem ls_flat {f : α → Int} (L : List (List α)) : ls L.flatten f = ls L (fun l => ls l f) := by
  induction L with
  | nil => rfl
  | cons x r ih => rw [List.flatten_cons, ls_app, ls_cons, ih]
/-- sums in either order -/
theorem sm_ls (f : Nat → α → Int) (l : List α) : ∀ n, sm n (fun i => ls l (f i)) = ls l (fun x => sm n (fun i => f i x)) := by
  intro n
  induction n with
  | zero => exact (ls_zero l).symm
  | succ n ih =>
    show sm n _ + ls l (f n) = ls l (fun x => sm n (fun i => f i x) + f n x)
    rw [ih]
    clear ih
    induction l with
    | nil => rfl
    | cons x r ih => rw [ls_cons, ls_cons, ls_cons, ← ih]; omega
end
/-- how many of the first places a window has -/
theorem sm_ins (s l : Int) (hs : 0 ≤ s) (hl : 1 ≤ l) : ∀ n : Nat, sm n (fun i => insN i s l) = pas n s l := by
  intro n
  induction n with
  | zero => show (0 : Int) = pas ((0 : Nat) : Int) s l; rw [show (((0 : Nat) : Int)) = 0 from rfl, pas_zero s l hs]
  | succ n ih => show sm n _ + insN n s l = _; rw [ih, Int.natCast_succ, pas_succ _ _ _ hl]
theorem sm_ins_all (F : Nat) (s l : Int) (hs : 0 ≤ s) (hl : 1 ≤ l) (hf : s + l ≤ F) : sm F (fun i => insN i s l) = l := by
  rw [sm_ins s l hs hl, pas_end _ _ _ hl hf]
/-- of slots that do not meet, the one that a place is inside -/
theorem find_sum {F t : Int} (g : Sl → Int) : ∀ {l : List Sl}, l.Pairwise (fun a b => a.s + a.l ≤ b.s) → (slt F l t).elim 0 g = ls l (fun x => if inT F t x = true then g x else 0) := by
  intro l
  induction l with
  | nil => intro _; rfl
  | cons x r ih =>
    intro hp
    rw [ls_cons]
    obtain ⟨h1, h2⟩ := List.pairwise_cons.1 hp
    unfold slt
    rw [List.find?_cons]
    cases hx : inT F t x
    · have := ih h2
      unfold slt at this
      simp [this]
    · have hz : ls r (fun x => if inT F t x = true then g x else 0) = 0 := by
        refine (ls_congr (g := fun _ => 0) fun y hy => ?_).trans (ls_zero r)
        have h3 := h1 y hy
        have : inT F t y = false := by
          simp only [inT, insB, decide_eq_true_eq, decide_eq_false_iff_not] at hx ⊢
          omega
        simp [this]
      simp [hz]
theorem slt_mem {F t : Int} {l : List Sl} {x : Sl} (h : slt F l t = some x) : x ∈ l ∧ x.s ≤ t % F ∧ t % F < x.s + x.l := by
  have h1 := List.mem_of_find?_eq_some h
  have h2 := List.find?_some h
  simp only [inT, insB, decide_eq_true_eq] at h2
  exact ⟨h1, h2⟩
/-- the slots of a domain, by their processors -/
def dsl (L : List (List Sl)) (dm : Int) : List Sl := L.flatten.filter (fun x => decide (x.d = dm))
def shr (L : List (List Sl)) (dm : Int) : Int := ls (dsl L dm) (fun x => x.l - x.p)
/-- how many windows, less their pads, of a domain have a place -/
def crw (L : List (List Sl)) (dm : Int) (i : Nat) : Int := ls (dsl L dm) (fun x => insN i x.s (x.l - x.p))
theorem dsl_mem {L : List (List Sl)} {dm : Int} {x : Sl} (h : x ∈ dsl L dm) : (∃ l ∈ L, x ∈ l) ∧ x.d = dm := by
  unfold dsl at h
  rw [List.mem_filter, List.mem_flatten] at h
  exact ⟨h.1, by simpa using h.2⟩
theorem Good.dsl {F : Int} {L : List (List Sl)} (h : Good F L) {dm : Int} {x : Sl} (hx : x ∈ dsl L dm) : 0 ≤ x.s ∧ 1 ≤ x.l ∧ x.s + x.l ≤ F ∧ x.p < x.l ∧ 0 ≤ x.p := by
  obtain ⟨⟨l, hl, hm⟩, _⟩ := dsl_mem hx
  obtain ⟨⟨a, b, c⟩, d⟩ := h.slot l hl x hm
  exact ⟨d.2.2, a, b, c, (h.rg l hl x hm).2.2.2.1⟩
end Go.Proofs.Ytbghagpjkkmhpaa.Lt
