/-
  What is answered ahead of all else, the program's asked and the document's looked; and the document's In. Conditions: the tables lie where they lie; words are words.
-/
import Derived.Test.YtollfepggicehaaDoorPpRCheck
namespace Go.Proofs.YtollfepggicehaaDoor.Lt
open Go.RowKit Wd

/-- why nothing is told of number n of so many -/
def ask (cs : List Int) (fs : List (Int × Int)) (ts : List Tb) (n k : Int) : Int := if (chk cs fs ts).2 ≠ 0 then (chk cs fs ts).2 else if n < 0 ∨ k ≤ n then 1 else 0
set_option maxRecDepth 20000 in
theorem asked_any (P : Nat → Prop) (w : World) (ia ib ic : Value) (cs : List Int) (fs : List (Int × Int)) (ts : List Tb) (h : Pin P w ia ib ic cs fs ts) (hu : U32s cs) (hg : Glb w) (n k : Int) :
    Calls Tryd.prog 31 #[.agg #[ia, ib, ic], .int .i64 n, .int .i64 k] w fun e w' => e = .returned (.int .i64 (ask cs fs ts n k)) ∧ Gr w w' := by
  have HC := hid (fun (W : World) (p : Gr w W) => check_any P W ia ib ic cs fs ts (h.gr p) hu (hg.gr p))
  obtain ⟨aoc, cac, hia⟩ := h.c.form
  obtain ⟨aof, caf, hib⟩ := h.f.form
  obtain ⟨aot, cat, hic⟩ := h.t.form
  generalize cs.length = nc at hia
  generalize fs.length = nf at hib
  generalize ts.length = nt at hic
  obtain ⟨R, hR⟩ : ∃ r, r = ask cs fs ts n k := ⟨_, rfl⟩
  rw [← hR]
  unfold ask at hR
  have HR := hid hR
  generalize chk cs fs ts = Q at HC HR
  obtain ⟨r1, r2⟩ := Q
  simp only at HC HR
  subst hia hib hic
  have K1 := hid (Gr.alloc (Gr.refl w) #[.slice aoc nc cac, .slice aof nf caf, .slice aot nt cat] 26)
  clear h hu hg hR
  by_cases h2 : r2 = 0
  · subst h2
    by_cases h0 : n < 0
    · have d0 : decide (n < 0) = true := decide_eq_true h0
      have hr : R = 1 := by rw [HR.out]; simp [h0]
      subst hr
      go_enter Tryd.func31, Tryd.ntmps31
      go_wp2_with (go_at_call 9; refine (HC.out _ K1.out).mono ?_; rintro e w1 ⟨rfl, g1⟩; have G1 := hid (Gr.trans K1.out g1); clear g1)
      go_ret
      exact ⟨rfl, G1.out⟩
    · have d0 : decide (n < 0) = false := decide_eq_false h0
      by_cases h1 : k ≤ n
      · have d1 : decide (k ≤ n) = true := decide_eq_true h1
        have hr : R = 1 := by rw [HR.out]; simp [h1]
        subst hr
        go_enter Tryd.func31, Tryd.ntmps31
        go_wp2_with (go_at_call 9; refine (HC.out _ K1.out).mono ?_; rintro e w1 ⟨rfl, g1⟩; have G1 := hid (Gr.trans K1.out g1); clear g1)
        go_ret
        exact ⟨rfl, G1.out⟩
      · have d1 : decide (k ≤ n) = false := decide_eq_false h1
        have hr : R = 0 := by rw [HR.out]; simp [h0, h1]
        subst hr
        go_enter Tryd.func31, Tryd.ntmps31
        go_wp2_with (go_at_call 9; refine (HC.out _ K1.out).mono ?_; rintro e w1 ⟨rfl, g1⟩; have G1 := hid (Gr.trans K1.out g1); clear g1)
        go_ret
        exact ⟨rfl, G1.out⟩
  · have h2' : (r2 == 0) = false := by simpa using h2
    have hr : R = r2 := by rw [HR.out]; simp [h2]
    subst hr
    go_enter Tryd.func31, Tryd.ntmps31
    go_wp2_with (go_at_call 9; refine (HC.out _ K1.out).mono ?_; rintro e w1 ⟨rfl, g1⟩; have G1 := hid (Gr.trans K1.out g1); clear g1)
    go_ret
    exact ⟨rfl, G1.out⟩
set_option maxRecDepth 20000 in
theorem looked_any (P : Nat → Prop) (w : World) (ia ib ic : Value) (cs : List Int) (fs : List (Int × Int)) (ts : List Tb) (h : Pin P w ia ib ic cs fs ts) (hu : U32s cs) (n k : Int) :
    Calls Tryd.prog 34 #[.agg #[ia, ib, ic], .int .i64 n, .int .i64 k] w fun e w' => e = .returned (.int .i64 (ask cs fs ts n k)) ∧ Gr w w' := by
  have HC := hid (fun (W : World) (p : Gr w W) => rcheck_any P W ia ib ic cs fs ts (h.gr p) hu)
  obtain ⟨aoc, cac, hia⟩ := h.c.form
  obtain ⟨aof, caf, hib⟩ := h.f.form
  obtain ⟨aot, cat, hic⟩ := h.t.form
  generalize cs.length = nc at hia
  generalize fs.length = nf at hib
  generalize ts.length = nt at hic
  obtain ⟨R, hR⟩ : ∃ r, r = ask cs fs ts n k := ⟨_, rfl⟩
  rw [← hR]
  unfold ask at hR
  have HR := hid hR
  generalize chk cs fs ts = Q at HC HR
  obtain ⟨r1, r2⟩ := Q
  simp only at HC HR
  subst hia hib hic
  have K1 := hid (Gr.alloc (Gr.refl w) #[.slice aoc nc cac, .slice aof nf caf, .slice aot nt cat] 26)
  clear h hu hR
  by_cases h2 : r2 = 0
  · subst h2
    by_cases h0 : n < 0
    · have d0 : decide (n < 0) = true := decide_eq_true h0
      have hr : R = 1 := by rw [HR.out]; simp [h0]
      subst hr
      go_enter Tryd.func34, Tryd.ntmps34
      go_wp2_with (go_at_call 10; refine (HC.out _ K1.out).mono ?_; rintro e w1 ⟨rfl, g1⟩; have G1 := hid (Gr.trans K1.out g1); clear g1)
      go_ret
      exact ⟨rfl, G1.out⟩
    · have d0 : decide (n < 0) = false := decide_eq_false h0
      by_cases h1 : k ≤ n
      · have d1 : decide (k ≤ n) = true := decide_eq_true h1
        have hr : R = 1 := by rw [HR.out]; simp [h1]
        subst hr
        go_enter Tryd.func34, Tryd.ntmps34
        go_wp2_with (go_at_call 10; refine (HC.out _ K1.out).mono ?_; rintro e w1 ⟨rfl, g1⟩; have G1 := hid (Gr.trans K1.out g1); clear g1)
        go_ret
        exact ⟨rfl, G1.out⟩
      · have d1 : decide (k ≤ n) = false := decide_eq_false h1
        have hr : R = 0 := by rw [HR.out]; simp [h0, h1]
        subst hr
        go_enter Tryd.func34, Tryd.ntmps34
        go_wp2_with (go_at_call 10; refine (HC.out _ K1.out).mono ?_; rintro e w1 ⟨rfl, g1⟩; have G1 := hid (Gr.trans K1.out g1); clear g1)
        go_ret
        exact ⟨rfl, G1.out⟩
  · have h2' : (r2 == 0) = false := by simpa using h2
    have hr : R = r2 := by rw [HR.out]; simp [h2]
    subst hr
    go_enter Tryd.func34, Tryd.ntmps34
    go_wp2_with (go_at_call 10; refine (HC.out _ K1.out).mono ?_; rintro e w1 ⟨rfl, g1⟩; have G1 := hid (Gr.trans K1.out g1); clear g1)
    go_ret
    exact ⟨rfl, G1.out⟩
theorem chk_len {cs : List Int} {fs : List (Int × Int)} {ts : List Tb} (h : (chk cs fs ts).2 = 0) : cs.length ≤ 4096 ∧ fs.length ≤ 256 ∧ ts.length ≤ 256 := by
  unfold chk at h
  split at h
  · cases h
  · omega
/-- what In answers -/
def inN (cs : List Int) (fs : List (Int × Int)) (ts : List Tb) (a : Int) : Int := if ask cs fs ts a (cs.length : Int) = 0 then inx fs a else 0
set_option maxRecDepth 20000 in
theorem rIn_any (P : Nat → Prop) (w : World) (ia ib ic : Value) (cs : List Int) (fs : List (Int × Int)) (ts : List Tb) (h : Pin P w ia ib ic cs fs ts) (hu : U32s cs) (a : Int) :
    Calls Tryd.prog 13 #[.agg #[ia, ib, ic], .int .i64 a] w fun e w' => e = .returned (.tuple #[.int .i64 (inN cs fs ts a), .int .i64 (ask cs fs ts a (cs.length : Int))]) ∧ Gr w w' := by
  have HL := hid (fun (W : World) (p : Gr w W) => looked_any P W ia ib ic cs fs ts (h.gr p) hu a (cs.length : Int))
  have HLEN := hid (show ask cs fs ts a (cs.length : Int) = 0 → fs.length ≤ 256 from fun q => by
    unfold ask at q
    split at q
    · rename_i z; exact absurd q z
    · rename_i z
      have := (chk_len (Classical.byContradiction z)).2.1
      omega)
  have HF := hid h.f
  obtain ⟨aoc, cac, hia⟩ := h.c.form
  obtain ⟨aof, caf, hib⟩ := h.f.form
  obtain ⟨aot, cat, hic⟩ := h.t.form
  unfold inN
  obtain ⟨nc, hnc⟩ : ∃ n, n = cs.length := ⟨_, rfl⟩
  obtain ⟨nf, hnf⟩ : ∃ n, n = fs.length := ⟨_, rfl⟩
  rw [← hnc] at hia HL HLEN ⊢
  rw [← hnf] at hib HLEN
  generalize ts.length = nt at hic
  generalize ask cs fs ts a (nc : Int) = E at HL HLEN ⊢
  subst hia hib hic
  have HI := hid (fun (q : nf ≤ 256) (W : World) (p : Gr w W) => rin_any P W aoc aof aot nc nf nt cac caf cat fs (HF.out.gr p) a q)
  generalize inx fs a = ix at HI ⊢
  have K1 := hid (Gr.alloc (Gr.refl w) #[.slice aoc nc cac, .slice aof nf caf, .slice aot nt cat] 26)
  have B1 := hid (MapKept.heap_alloc w (.cells #[.slice aoc nc cac, .slice aof nf caf, .slice aot nt cat] 26)).1
  clear h hu hnc hnf
  by_cases hE : E = 0
  · subst hE
    have hl := (show nf ≤ 256 by first | exact HLEN.out rfl | exact HLEN.out trivial)
    simp only [if_true]
    go_enter Tryd.func13, Tryd.ntmps13
    go_wp2_with (first | (go_at_call 34; refine (HL.out _ K1.out).mono ?_; rintro e w1 ⟨rfl, g1⟩; have G1 := hid (Gr.trans K1.out g1); have b1 := gr_blk B1.out g1; have l1 := lt_of_block b1; have p0 : w1.cell? ⟨w.heap.size, 0, none⟩ = some (.slice aoc nc cac) := (cell_of b1 0).trans rfl; have p1 : w1.cell? ⟨w.heap.size, 1, none⟩ = some (.slice aof nf caf) := (cell_of b1 1).trans rfl; have p2 : w1.cell? ⟨w.heap.size, 2, none⟩ = some (.slice aot nt cat) := (cell_of b1 2).trans rfl; clear g1 b1) | (go_at_call 35; refine (HI.out hl _ G1.out).mono ?_; rintro e w2 ⟨rfl, g2⟩; have G2 := hid (Gr.trans G1.out g2); clear g2))
    go_ret2
    exact ⟨rfl, G2.out⟩
  · have hE' : (E == 0) = false := by simpa using hE
    rw [if_neg hE]
    go_enter Tryd.func13, Tryd.ntmps13
    go_wp2_with (go_at_call 34; refine (HL.out _ K1.out).mono ?_; rintro e w1 ⟨rfl, g1⟩; have G1 := hid (Gr.trans K1.out g1); clear g1)
    go_ret2
    exact ⟨rfl, G1.out⟩
end Go.Proofs.YtollfepggicehaaDoor.Lt
