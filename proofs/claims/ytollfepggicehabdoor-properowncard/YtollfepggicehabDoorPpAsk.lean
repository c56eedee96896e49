/-
  What is answered ahead of all else, the program's asked and the document's looked; and the document's In. Conditions: the tables lie where they lie; words are words.
-/
import Derived.Test.YtollfepggicehabDoorPpRCheck
namespace Go.Proofs.YtollfepggicehabDoor.Lt
open Go.RowKit Wd

/-- why nothing is told of number n of so many -/
def ask (cs : List Int) (fs : List (Int × Int)) (ts : List Tb) (n k : Int) : Int := if (chk cs fs ts).2 ≠ 0 then (chk cs fs ts).2 else if n < 0 ∨ k ≤ n then 1 else 0
set_option maxRecDepth 20000 in
theorem asked_any (P : Nat → Prop) (w : World) (ia ib ic : Value) (cs : List Int) (fs : List (Int × Int)) (ts : List Tb) (h : Pin P w ia ib ic cs fs ts) (hu : U32s cs) (hg : Glb w) (n k : Int) :
    Calls Tryd.prog 17 #[.agg #[ia, ib, ic], .int .i64 n, .int .i64 k] w fun e w' => e = .returned (.int .i64 (ask cs fs ts n k)) ∧ Gr w w' := by
  have HC := hid (fun (W : World) (p : Gr w W) => check_any P W ia ib ic cs fs ts (h.gr p) hu (hg.gr p))
  obtain ⟨aoc, cac, hia⟩ := h.c.form
  obtain ⟨aof, caf, hib⟩ := h.f.form
  obtain ⟨aot, cat, hic⟩ := h.t.form
  generalize cs.length = nc at hia
  generalize fs.length = nf at hib
  generalize ts.length = nt at hic
  obtain ⟨R, hR⟩ : ∃ r, r = ask cs fs ts n k := ⟨_, rfl⟩
  rw [← hR]
  unfold ask at hR
  have HR := hid hR
  generalize chk cs fs ts = Q at HC HR
  obtain ⟨r1, r2⟩ := Q
  simp only at HC HR
  subst hia hib hic
  have K1 := hid (Gr.alloc (Gr.refl w) #[.slice aoc nc cac, .slice aof nf caf, .slice aot nt cat] 26)
  clear h hu hg hR
  by_cases h2 : r2 = 0
  · subst h2
    by_cases h0 : n < 0
    · have d0 : decide (n < 0) = true := decide_eq_true h0
      have hr : R = 1 := by rw [HR.out]; simp [h0]
      subst hr
      go_enter Tryd.func17, Tryd.ntmps17
      go_wp2_with (go_at_call 12; refine (HC.out _ K1.out).mono ?_; rintro e w1 ⟨rfl, g1⟩; have G1 := hid (Gr.trans K1.out g1); clear g1)
      go_ret
      exact ⟨rfl, G1.out⟩
    · have d0 : decide (n < 0) = false := decide_eq_false h0
      by_cases h1 : k ≤ n
      · have d1 : decide (k ≤ n) = true := decide_eq_true h1
        have hr : R = 1 := by rw [HR.out]; simp [h1]
        subst hr
        go_enter Tryd.func17, Tryd.ntmps17
        go_wp2_with (go_at_call 12; refine (HC.out _ K1.out).mono ?_; rintro e w1 ⟨rfl, g1⟩; have G1 := hid (Gr.trans K1.out g1); clear g1)
        go_ret
        exact ⟨rfl, G1.out⟩
      · have d1 : decide (k ≤ n) = false := decide_eq_false h1
        have hr : R = 0 := by rw [HR.out]; simp [h0, h1]
        subst hr
        go_enter Tryd.func17, Tryd.ntmps17
        go_wp2_with (go_at_call 12; refine (HC.out _ K1.out).mono ?_; rintro e w1 ⟨rfl, g1⟩; have G1 := hid (Gr.trans K1.out g1); clear g1)
        go_ret
        exact ⟨rfl, G1.out⟩
  · have h2' : (r2 == 0) = false := by simpa using h2
    have hr : R = r2 := by rw [HR.out]; simp [h2]
    subst hr
    go_enter Tryd.func17, Tryd.ntmps17
    go_wp2_with (go_at_call 12; refine (HC.out _ K1.out).mono ?_; rintro e w1 ⟨rfl, g1⟩; have G1 := hid (Gr.trans K1.out g1); clear g1)
    go_ret
    exact ⟨rfl, G1.out⟩
set_option maxRecDepth 20000 in
theorem looked_any (P : Nat → Prop) (w : World) (ia ib ic : Value) (cs : List Int) (fs : List (Int × Int)) (ts : List Tb) (h : Pin P w ia ib ic cs fs ts) (hu : U32s cs) (n k : Int) :
    Calls Tryd.prog 33 #[.agg #[ia, ib, ic], .int .i64 n, .int .i64 k] w fun e w' => e = .returned (.int .i64 (ask cs fs ts n k)) ∧ Gr w w' := by
  have HC := hid (fun (W : World) (p : Gr w W) => rcheck_any P W ia ib ic cs fs ts (h.gr p) hu)
  obtain ⟨aoc, cac, hia⟩ := h.c.form
  obtain ⟨aof, caf, hib⟩ := h.f.form
  obtain ⟨aot, cat, hic⟩ := h.t.form
  generalize cs.length = nc at hia
  generalize fs.length = nf at hib
  generalize ts.length = nt at hic
  obtain ⟨R, hR⟩ : ∃ r, r = ask cs fs ts n k := ⟨_, rfl⟩
  rw [← hR]
  unfold ask at hR
  have HR := hid hR
  generalize chk cs fs ts = Q at HC HR
  obtain ⟨r1, r2⟩ := Q
  simp only at HC HR
  subst hia hib hic
  have K1 := hid (Gr.alloc (Gr.refl w) #[.slice aoc nc cac, .slice aof nf caf, .slice aot nt cat] 26)
  clear h hu hR
  by_cases h2 : r2 = 0
  · subst h2
    by_cases h0 : n < 0
    · have d0 : decide (n < 0) = true := decide_eq_true h0
      have hr : R = 1 := by rw [HR.out]; simp [h0]
      subst hr
      go_enter Tryd.func33, Tryd.ntmps33
      go_wp2_with (go_at_call 13; refine (HC.out _ K1.out).mono ?_; rintro e w1 ⟨rfl, g1⟩; have G1 := hid (Gr.trans K1.out g1); clear g1)
      go_ret
      exact ⟨rfl, G1.out⟩
    · have d0 : decide (n < 0) = false := decide_eq_false h0
      by_cases h1 : k ≤ n
      · have d1 : decide (k ≤ n) = true := decide_eq_true h1
        have hr : R = 1 := by rw [HR.out]; simp [h1]
        subst hr
        go_enter Tryd.func33, Tryd.ntmps33
        go_wp2_with (go_at_call 13; refine (HC.out _ K1.out).mono ?_; rintro e w1 ⟨rfl, g1⟩; have G1 := hid (Gr.trans K1.out g1); clear g1)
        go_ret
        exact ⟨rfl, G1.out⟩
      · have d1 : decide (k ≤ n) = false := decide_eq_false h1
        have hr : R = 0 := by rw [HR.out]; simp [h0, h1]
        subst hr
        go_enter Tryd.func33, Tryd.ntmps33
        go_wp2_with (go_at_call 13; refine (HC.out _ K1.out).mono ?_; rintro e w1 ⟨rfl, g1⟩; have G1 := hid (Gr.trans K1.out g1); clear g1)
        go_ret
        exact ⟨rfl, G1.out⟩
  · have h2' : (r2 == 0) = false := by simpa using h2
    have hr : R = r2 := by rw [HR.out]; simp [h2]
    subst hr
    go_enter Tryd.func33, Tryd.ntmps33
    go_wp2_with (go_at_call 13; refine (HC.out _ K1.out).mono ?_; rintro e w1 ⟨rfl, g1⟩; have G1 := hid (Gr.trans K1.out g1); clear g1)
    go_ret
    exact ⟨rfl, G1.out⟩
theorem chk_len {cs : List Int} {fs : List (Int × Int)} {ts : List Tb} (h : (chk cs fs ts).2 = 0) : cs.length ≤ 4096 ∧ fs.length ≤ 256 ∧ ts.length ≤ 256 := by
  unfold chk at h
  split at h
  · cases h
  · omega
/-- what In answers -/
def inN (cs : List Int) (fs : List (Int × Int)) (ts : List Tb) (a : Int) : Int := if ask cs fs ts a (cs.length : Int) = 0 then inx fs a else 0
end Go.Proofs.YtollfepggicehabDoor.Lt
