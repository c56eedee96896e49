/-
  What follows for a table that may be: how many places of a frame a domain owns, on how many processors it can run at a place, and on how much it can count in some ticks. Conditions: the table may be.
-/
import Derived.Test.YtbghagpjkkmhpaaTbSum
namespace Go.Proofs.Ytbghagpjkkmhpaa.Lt
open Tk (insB insN leN mayE U pas pas_succ pas_zero pas_end)

theorem mod_small {i F : Int} (h0 : 0 ≤ i) (h : i < F) : i % F = i := Int.emod_eq_of_lt h0 h
/-- what the slot at a place gives, summed over a frame, where it hangs on the slot and the window that it has -/
theorem frame_sum {F : Int} {Fn : Nat} (hF : F = Fn) {l : List Sl} (hp : l.Pairwise (fun a b => a.s + a.l ≤ b.s)) (g : Nat → Sl → Int) :
    sm Fn (fun i => (slt F l i).elim 0 (g i)) = ls l (fun x => sm Fn (fun i => if x.s ≤ i ∧ (i : Int) < x.s + x.l then g i x else 0)) := by
  rw [← sm_ls]
  refine sm_congr Fn fun i hi => ?_
  rw [find_sum (g i) hp]
  refine ls_congr fun x _ => ?_
  simp only [inT, insB, decide_eq_true_eq]
  rw [mod_small (i := (i : Int)) (by omega) (by omega)]
theorem ls_if {l : List Sl} (f : Sl → Int) (dm : Int) : ls l (fun x => if x.d = dm then f x else 0) = ls (l.filter fun x => decide (x.d = dm)) f := by
  rw [ls_filter]
  simp
/-- how many places of a frame a domain owns on a processor -/
theorem own_count {F : Int} {Fn : Nat} (hF : F = Fn) {L : List (List Sl)} (hg : Good F L) {l : List Sl} (hl : l ∈ L) (dm : Int) :
    sm Fn (fun i => (slt F l i).elim 0 fun x => if x.d = dm then 1 else 0) = ls l (fun x => if x.d = dm then x.l else 0) := by
  rw [frame_sum hF (hg.apart l hl) (fun _ x => if x.d = dm then 1 else 0)]
  refine ls_congr fun x hx => ?_
  obtain ⟨⟨a, b, c⟩, _, _, d⟩ := hg.slot l hl x hx
  by_cases hd : x.d = dm
  · simp only [if_pos hd]
    exact sm_ins_all Fn x.s x.l d a (by omega)
  · simp only [if_neg hd]
    refine Eq.trans (sm_congr Fn fun i _ => ?_) (sm_zero Fn)
    split <;> rfl
/-- how many places of a frame a domain can run on a processor -/
theorem run_count {F : Int} {Fn : Nat} (hF : F = Fn) {L : List (List Sl)} (hg : Good F L) {l : List Sl} (hl : l ∈ L) (dm : Int) :
    sm Fn (fun i => (slt F l i).elim 0 fun x => if x.d = dm ∧ (i : Int) < x.s + x.l - x.p then 1 else 0) = ls l (fun x => if x.d = dm then x.l - x.p else 0) := by
  rw [frame_sum hF (hg.apart l hl) (fun i x => if x.d = dm ∧ (i : Int) < x.s + x.l - x.p then 1 else 0)]
  refine ls_congr fun x hx => ?_
  obtain ⟨⟨a, b, c⟩, _, _, d⟩ := hg.slot l hl x hx
  have hpd : 0 ≤ x.p := (hg.rg l hl x hx).2.2.2.1
  by_cases hd : x.d = dm
  · simp only [hd, true_and, if_true]
    refine Eq.trans (sm_congr Fn fun i _ => ?_) (sm_ins_all Fn x.s (x.l - x.p) d (by omega) (by omega))
    unfold insN
    by_cases h1 : (i : Int) < x.s + x.l - x.p
    · rw [if_pos h1]
      by_cases h2 : x.s ≤ (i : Int)
      · rw [if_pos ⟨h2, by omega⟩, if_pos ⟨h2, by omega⟩]
      · rw [if_neg (fun q => h2 q.1), if_neg (fun q => h2 q.1)]
    · rw [if_neg h1, if_neg (fun q : x.s ≤ (i : Int) ∧ (i : Int) < x.s + (x.l - x.p) => h1 (by omega))]
      split <;> rfl
  · simp only [hd, false_and, if_false]
    refine Eq.trans (sm_congr Fn fun i _ => ?_) (sm_zero Fn)
    split <;> rfl
theorem dsl_sum (L : List (List Sl)) (dm : Int) (f : Sl → Int) : ls (dsl L dm) f = ls L (fun l => ls l (fun x => if x.d = dm then f x else 0)) := by
  unfold dsl
  rw [← ls_if, ls_flat]
/-- on how many processors a domain can run at a place -/
theorem run_at {F : Int} {L : List (List Sl)} (hg : Good F L) (dm : Int) (i : Nat) (hi : (i : Int) < F) :
    ls L (fun l => (slt F l i).elim 0 fun x => if x.d = dm ∧ (i : Int) < x.s + x.l - x.p then 1 else 0) = crw L dm i := by
  unfold crw
  rw [dsl_sum]
  refine ls_congr fun l hl => ?_
  rw [find_sum _ (hg.apart l hl)]
  refine ls_congr fun x hx => ?_
  have hpd : 0 ≤ x.p := (hg.rg l hl x hx).2.2.2.1
  simp only [inT, insB, decide_eq_true_eq, insN]
  rw [mod_small (by omega) hi]
  by_cases hd : x.d = dm
  · simp only [hd, true_and, if_true]
    by_cases h1 : x.s ≤ (i : Int) ∧ (i : Int) < x.s + x.l
    · rw [if_pos h1]
      by_cases h2 : (i : Int) < x.s + x.l - x.p
      · rw [if_pos h2, if_pos ⟨h1.1, by omega⟩]
      · rw [if_neg h2, if_neg (fun q => h2 (by omega))]
    · rw [if_neg h1, if_neg (fun q => h1 ⟨q.1, by omega⟩)]
  · simp [hd]
theorem crw_bd {F : Int} {L : List (List Sl)} (hg : Good F L) (dm : Int) (i : Nat) (hi : (i : Int) < F) : 0 ≤ crw L dm i ∧ crw L dm i ≤ 64 := by
  have h := run_at hg dm i hi
  constructor
  · unfold crw
    refine ls_nonneg fun x _ => ?_
    exact (Tk.insN_bd _ _ _).1
  · rw [← h]
    have h1 : ls L (fun l => (slt F l i).elim 0 fun x => if x.d = dm ∧ (i : Int) < x.s + x.l - x.p then 1 else 0) ≤ L.length * 1 := ls_const fun l _ => by
      cases slt F l i with
      | none => show (0 : Int) ≤ 1; decide
      | some x => show (if _ then (1 : Int) else 0) ≤ 1; split <;> decide
    have := hg.n2
    omega
/-- a frame's sum is what the windows have -/
theorem crw_sum {F : Int} {Fn : Nat} (hF : F = Fn) {L : List (List Sl)} (hg : Good F L) (dm : Int) : sm Fn (crw L dm) = shr L dm := by
  unfold crw shr
  rw [sm_ls]
  refine ls_congr fun x hx => ?_
  obtain ⟨a, b, c, d, e⟩ := hg.dsl hx
  exact sm_ins_all Fn x.s (x.l - x.p) a (by omega) (by omega)
/-- on how much a domain can count in so many ticks from a place -/
def sup (Fn : Nat) (L : List (List Sl)) (dm : Int) (i n : Nat) : Int := sm n (fun j => crw L dm ((i + j) % Fn))
theorem sup_mod (Fn : Nat) (L : List (List Sl)) (dm : Int) (i n : Nat) : sup Fn L dm (i % Fn) n = sup Fn L dm i n :=
  sm_congr n fun j _ => by rw [Nat.mod_add_mod]
theorem sup_add (Fn : Nat) (L : List (List Sl)) (dm : Int) (i n m : Nat) : sup Fn L dm i (n + m) = sup Fn L dm i n + sup Fn L dm (i + n) m := by
  unfold sup
  rw [sm_cut]
  congr 1
  exact sm_congr m fun j _ => by rw [Nat.add_assoc]
theorem sup_one (Fn : Nat) (L : List (List Sl)) (dm : Int) (i : Nat) : sup Fn L dm i 1 = crw L dm (i % Fn) := by
  show (0 : Int) + crw L dm ((i + 0) % Fn) = _
  rw [Int.zero_add, Nat.add_zero]
/-- a frame's ticks have the same wherever they begin -/
theorem sup_frame {F : Int} {Fn : Nat} (hF : F = Fn) {L : List (List Sl)} (hg : Good F L) (dm : Int) : ∀ i, sup Fn L dm i Fn = shr L dm := by
  have hf1 : 1 ≤ Fn := by have := hg.f1; omega
  intro i
  induction i with
  | zero =>
    rw [← crw_sum hF hg dm]
    refine sm_congr Fn fun j hj => ?_
    rw [Nat.zero_add, Nat.mod_eq_of_lt hj]
  | succ i ih =>
    have h1 := sup_add Fn L dm i 1 Fn
    have h2 := sup_add Fn L dm i Fn 1
    rw [Nat.add_comm 1 Fn, h2, ih, sup_one, sup_one, Nat.add_mod_right] at h1
    omega
theorem sup_frames {F : Int} {Fn : Nat} (hF : F = Fn) {L : List (List Sl)} (hg : Good F L) (dm : Int) (i : Nat) : ∀ q r, sup Fn L dm i (q * Fn + r) = q * shr L dm + sup Fn L dm i r := by
  intro q
  induction q with
  | zero => intro r; simp
  | succ q ih =>
    intro r
    have e : (q + 1) * Fn + r = (q * Fn + r) + Fn := by rw [Nat.add_mul]; omega
    rw [e, sup_add, ih, sup_frame hF hg, Int.natCast_succ, Int.add_mul]
    omega
theorem sup_nonneg {F : Int} {Fn : Nat} (hF : F = Fn) {L : List (List Sl)} (hg : Good F L) (dm : Int) (i n : Nat) : 0 ≤ sup Fn L dm i n ∧ sup Fn L dm i n ≤ 64 * n := by
  have hf1 : 1 ≤ Fn := by have := hg.f1; omega
  have hb : ∀ j, j < n → 0 ≤ crw L dm ((i + j) % Fn) ∧ crw L dm ((i + j) % Fn) ≤ 64 := fun j _ => crw_bd hg dm _ (by have := Nat.mod_lt (i + j) (show 0 < Fn by omega); omega)
  refine ⟨sm_nonneg n fun j hj => (hb j hj).1, ?_⟩
  have : sup Fn L dm i n ≤ sm n (fun _ => 64) := sm_le n fun j hj => (hb j hj).2
  have e : ∀ n : Nat, sm n (fun _ => 64) = 64 * n := by
    intro n
    induction n with
    | zero => rfl
    | succ n ih => show sm n _ + 64 = _; rw [ih]; omega
  rw [e] at this
  exact this
/-- the least of some numbers -/
def IsMn (n : Nat) (f : Nat → Int) (m : Int) : Prop := (∀ i, i < n → m ≤ f i) ∧ ∃ i, i < n ∧ m = f i
theorem IsMn.uniq {n : Nat} {f : Nat → Int} {a b : Int} (h : IsMn n f a) (k : IsMn n f b) : a = b := by
  obtain ⟨h1, i, hi, h2⟩ := h
  obtain ⟨k1, j, hj, k2⟩ := k
  have := h1 j hj
  have := k1 i hi
  omega
theorem IsMn.congr {n : Nat} {f g : Nat → Int} {a : Int} (h : IsMn n f a) (e : ∀ i, i < n → f i = g i) : IsMn n g a :=
  ⟨fun i hi => by rw [← e i hi]; exact h.1 i hi, by obtain ⟨i, hi, h2⟩ := h.2; exact ⟨i, hi, by rw [← e i hi]; exact h2⟩⟩
theorem IsMn.step {n : Nat} {f : Nat → Int} {a : Int} (h : IsMn n f a) (m : Int) (hm : m = if f n < a then f n else a) : IsMn (n + 1) f m := by
  obtain ⟨h1, i, hi, h2⟩ := h
  subst hm
  split
  · refine ⟨fun j hj => ?_, n, by omega, rfl⟩
    rcases Nat.lt_or_ge j n with h3 | h3
    · have := h1 j h3; omega
    · have : j = n := by omega
      subst this; omega
  · refine ⟨fun j hj => ?_, i, by omega, h2⟩
    rcases Nat.lt_or_ge j n with h3 | h3
    · exact h1 j h3
    · have : j = n := by omega
      subst this; omega
theorem isMn_one (f : Nat → Int) : IsMn 1 f (f 0) := by
  refine ⟨fun i hi => ?_, 0, by omega, rfl⟩
  have : i = 0 := by omega
  subst this
  exact Int.le_refl _
theorem isMn_ex (f : Nat → Int) : ∀ n, 1 ≤ n → ∃ m, IsMn n f m := by
  intro n
  induction n with
  | zero => intro h; omega
  | succ n ih =>
    intro _
    rcases Nat.eq_zero_or_pos n with rfl | h
    · exact ⟨_, isMn_one f⟩
    · obtain ⟨m, hm⟩ := ih h
      exact ⟨_, hm.step _ rfl⟩
/-- what Supply tells of n ticks -/
def IsSp (Fn : Nat) (L : List (List Sl)) (dm : Int) (n : Nat) (m : Int) : Prop := IsMn Fn (fun i => sup Fn L dm i n) m
theorem IsSp.of_rest {F : Int} {Fn : Nat} (hF : F = Fn) {L : List (List Sl)} (hg : Good F L) {dm : Int} {n : Nat} {a : Int} (h : IsSp Fn L dm (n % Fn) a) : IsSp Fn L dm n ((n / Fn : Nat) * shr L dm + a) := by
  have e : ∀ i, sup Fn L dm i n = (n / Fn : Nat) * shr L dm + sup Fn L dm i (n % Fn) := fun i => by
    have := sup_frames hF hg dm i (n / Fn) (n % Fn)
    rwa [Nat.mul_comm, Nat.div_add_mod] at this
  obtain ⟨h1, i, hi, h2⟩ := h
  refine ⟨fun j hj => ?_, i, hi, ?_⟩
  · show _ ≤ sup Fn L dm j n
    rw [e j]
    have := h1 j hj
    have : a ≤ sup Fn L dm j (n % Fn) := this
    omega
  · show _ = sup Fn L dm i n
    rw [e i, h2]
/-- from any tick on there is at least that much -/
theorem IsSp.le {Fn : Nat} {L : List (List Sl)} {dm : Int} {n : Nat} {a : Int} (h : IsSp Fn L dm n a) (hf : 1 ≤ Fn) (i : Nat) : a ≤ sup Fn L dm i n := by
  rw [← sup_mod]
  exact h.1 _ (Nat.mod_lt _ (by omega))
/-- of two stretches together at least that of both -/
theorem IsSp.add {Fn : Nat} {L : List (List Sl)} {dm : Int} {n m : Nat} {a b c : Int} (ha : IsSp Fn L dm n a) (hb : IsSp Fn L dm m b) (hc : IsSp Fn L dm (n + m) c) (hf : 1 ≤ Fn) : a + b ≤ c := by
  obtain ⟨_, i, hi, e⟩ := hc
  have e : c = sup Fn L dm i (n + m) := e
  rw [e, sup_add]
  have := ha.le hf i
  have := hb.le hf (i + n)
  omega
/-- of frames as many times what the windows have -/
theorem IsSp.frames {F : Int} {Fn : Nat} (hF : F = Fn) {L : List (List Sl)} (hg : Good F L) {dm : Int} {q : Nat} {a : Int} (h : IsSp Fn L dm (q * Fn) a) : a = q * shr L dm := by
  obtain ⟨_, i, hi, e⟩ := h
  have e : a = sup Fn L dm i (q * Fn + 0) := e
  rw [e, sup_frames hF hg]
  show _ + (0 : Int) = _
  omega
theorem IsSp.bd {F : Int} {Fn : Nat} (hF : F = Fn) {L : List (List Sl)} (hg : Good F L) {dm : Int} {n : Nat} {a : Int} (h : IsSp Fn L dm n a) : 0 ≤ a ∧ a ≤ 64 * n := by
  obtain ⟨_, i, hi, e⟩ := h
  rw [e]
  exact sup_nonneg hF hg dm i n
end Go.Proofs.Ytbghagpjkkmhpaa.Lt
