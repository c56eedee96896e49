/-
  What the document's wrong answers. Conditions: the functions part the code; words are words.
-/
import Derived.Test.YtollfepggicehabDoorPpRef
namespace Go.Proofs.YtollfepggicehabDoor.Lt
open Go.RowKit Wd

/-- functions part the code: each begins where the one ahead ends, and has a word -/
structure Prt (fs : List (Int × Int)) (nc : Nat) : Prop where
  i : Inn fs nc
  b : ∀ (n : Nat) (f : Int × Int), fs[n]? = some f → f.1 = eA fs n
  z : fs.length ≠ 0
  e : eA fs fs.length = (nc : Int)
theorem prt_of {fs : List (Int × Int)} {nc : Nat} (h : (cF fs nc).2 = 0) : Prt fs nc := by
  obtain ⟨h1, h2, h3, h4⟩ := cF_in h
  refine ⟨h1, fun n f hf => ?_, h2, h3⟩
  have h5 := h4 n (List.getElem?_eq_some_iff.1 hf).1
  unfold fB at h5
  rw [hf] at h5
  simp only [Option.getD_some] at h5
  split at h5
  · cases h5
  · rename_i q
    exact Classical.byContradiction (fun e => q (.inl e))
theorem Prt.mono {fs : List (Int × Int)} {nc : Nat} (h : Prt fs nc) : ∀ (k j : Nat) (f g : Int × Int), j < k → fs[j]? = some f → fs[k]? = some g → f.2 ≤ g.1 := by
  intro k
  induction k with
  | zero => intro j f g q; omega
  | succ k ih =>
    intro j f g q hf hg
    have h1 := h.b _ _ hg
    obtain ⟨m, hm⟩ : ∃ m, fs[k]? = some m := ⟨_, List.getElem?_eq_getElem (by have := (List.getElem?_eq_some_iff.1 hg).1; omega)⟩
    rw [eA_succ hm] at h1
    by_cases e : j = k
    · subst e
      rw [hf] at hm
      injection hm with hm
      rw [hm]
      omega
    · have h2 := ih j f m (by omega) hf hm
      have h3 := h.i _ (List.mem_of_getElem? hm)
      omega
/-- a place lies in a function just if that is its number -/
theorem Prt.inx {fs : List (Int × Int)} {nc : Nat} (h : Prt fs nc) {j : Nat} {f : Int × Int} (hf : fs[j]? = some f) (a : Int) : inx fs a = (j : Int) ↔ (f.1 ≤ a ∧ a < f.2) := by
  have ev : ∀ l g, fs[l]? = some g → iF fs a l = if g.1 ≤ a ∧ a < g.2 then 1 else 0 := fun l g hg => by unfold iF; rw [hg]; rfl
  have hj := (List.getElem?_eq_some_iff.1 hf).1
  constructor
  · intro q
    unfold Lt.inx at q
    split at q
    · omega
    · rename_i hn
      unfold fR at q hn
      cases hfd : (List.range' 0 (fs.length - 0)).find? (fun n => decide (iF fs a n ≠ 0)) with
      | none => rw [hfd] at hn; exact absurd rfl hn
      | some m =>
        rw [hfd] at q
        simp only at q
        have hm : m = j := by omega
        have := List.find?_some hfd
        rw [hm, ev j f hf] at this
        by_cases hh : f.1 ≤ a ∧ a < f.2
        · exact hh
        · simp [hh] at this
  · intro q
    have e : fR (iF fs a) 0 fs.length = ((j : Int), iF fs a j) := fR_at (Nat.zero_le _) hj (fun l _ ql => by
      obtain ⟨g, hg⟩ : ∃ g, fs[l]? = some g := ⟨_, List.getElem?_eq_getElem (by omega)⟩
      have := h.mono j l g f ql hg hf
      rw [ev l g hg, if_neg (fun z => by omega)]) (by rw [ev j f hf, if_pos q]; decide)
    unfold Lt.inx
    rw [e, ev j f hf, if_pos q]
    rfl
/-- every place has its function -/
theorem Prt.has {fs : List (Int × Int)} {nc : Nat} (h : Prt fs nc) (a : Nat) (ha : a < nc) : ∃ (j : Nat) (f : Int × Int), fs[j]? = some f ∧ f.1 ≤ (a : Int) ∧ (a : Int) < f.2 := by
  have key : ∀ n, n ≤ fs.length → (a : Int) < eA fs n → ∃ (j : Nat) (f : Int × Int), fs[j]? = some f ∧ f.1 ≤ (a : Int) ∧ (a : Int) < f.2 := by
    intro n
    induction n with
    | zero => intro _ q; unfold eA at q; simp at q; omega
    | succ n ih =>
      intro hn q
      obtain ⟨f, hf⟩ : ∃ f, fs[n]? = some f := ⟨_, List.getElem?_eq_getElem (by omega)⟩
      rw [eA_succ hf] at q
      by_cases z : (a : Int) < f.1
      · exact ih (by omega) (by rw [← h.b n f hf]; exact z)
      · exact ⟨n, f, hf, by omega, q⟩
  exact key fs.length (Nat.le_refl _) (by rw [h.e]; omega)

set_option maxHeartbeats 8000000 in
set_option maxRecDepth 20000 in
theorem rwrong_any (P : Nat → Prop) (w : World) (aoc aof aot : Option Addr) (nc nf nt cac caf cat : Nat) (cs : List Int) (fs : List (Int × Int)) (h : Ls eU P w (.slice aoc nc cac) cs) (hf : Ls eG P w (.slice aof nf caf) fs) (hu : U32s cs) (hp : Prt fs nc) (hl : nf ≤ 256) (hc : nc ≤ 4096) (j : Nat) (x y : Int) (hj : fs[j]? = some (x, y)) (a : Nat) (n : Int) (hx : cs[a]? = some n) (hin : x ≤ (a : Int) ∧ (a : Int) < y) :
    Calls Tryd.prog 32 #[.agg #[.slice aoc nc cac, .slice aof nf caf, .slice aot nt cat], .int .i64 (a : Nat)] w fun e w' => e = .returned (.int .i64 (wE nf nt (x, y) (a : Nat) n)) ∧ Gr w w' := by
  obtain ⟨u0, u1⟩ := hu n (List.mem_of_getElem? hx)
  have HD := hid (fun (W : World) => rdecode_all n u0 u1 W)
  have hlen : a < nc := by rw [h.len.1]; exact (List.getElem?_eq_some_iff.1 hx).1
  have hjl : j < nf := by rw [hf.len.1]; exact (List.getElem?_eq_some_iff.1 hj).1
  have HI := hid (fun (W : World) (p : Gr w W) (b : Int) => rin_any P W aoc aof aot nc nf nt cac caf cat fs (hf.gr p) b hl)
  have HIX := hid (fun (b : Int) => hp.inx hj b)
  have hIA := (hp.inx hj (a : Int)).2 hin
  have hiy := hp.i _ (List.mem_of_getElem? hj)
  simp only at hiy HIX
  obtain ⟨g, o, cap', hv, _, hgl, _, hcs⟩ := h.get eU_len hx
  injection hv with hv1 hv2 hv3
  subst hv1
  obtain ⟨gf, of_, capf, hv, _, hglf, _, hcsf⟩ := hf.get eG_len hj
  injection hv with hw1 hw2 hw3
  subst hw1
  have c0 := hcs 0 _ rfl
  rw [Nat.mul_one, Nat.add_zero] at c0
  have HT1 := hid (show ∀ W, Gr w W → W.cell? ⟨gf, of_ + j * 2 + 1, none⟩ = some (.int .i64 y) from fun W k => (k.cell hglf).trans (hcsf 1 _ rfl))
  have HLF := hid (show ∀ W, Gr w W → gf < W.heap.size from fun W k => Nat.lt_of_lt_of_le hglf k.size)
  have HH := hid (fun (o : Int) (W : World) => jumps_any o W)
  have HN := hid (fun (o : Int) (W : World) => ends_any o W)
  have K1 := hid (Gr.alloc (Gr.refl w) #[.slice (some ⟨g, o, none⟩) nc cac, .slice (some ⟨gf, of_, none⟩) nf caf, .slice aot nt cat] 26)
  have B1 := hid (MapKept.heap_alloc w (.cells #[.slice (some ⟨g, o, none⟩) nc cac, .slice (some ⟨gf, of_, none⟩) nf caf, .slice aot nt cat] 26)).1
  have q0 : (0 : Int) ≤ (a : Int) := by omega
  have q1 : (a : Int) < (nc : Int) := by omega
  have jj0 : (0 : Int) ≤ (j : Int) := by omega
  have jj1 : (j : Int) < (nf : Int) := by omega
  obtain ⟨R, hR⟩ : ∃ r, r = wE nf nt (x, y) (a : Nat) n := ⟨_, rfl⟩
  rw [← hR]
  unfold wE at hR
  have HR := hid hR
  unfold iV at HD
  generalize dI n = I at HD HR
  generalize dE n = E at HD HR
  obtain ⟨o1, o2, o3, o4, im⟩ := I
  simp only at HD HR
  have HII := hid (fun (W : World) (p : Gr w W) => HI.out W p im)
  have HIA := hid (fun (W : World) (p : Gr w W) => HI.out W p (a : Int))
  rw [hIA] at HIA
  have hix := HIX.out im
  generalize inx fs im = ix at HII hix
  obtain ⟨hy0, hy1, hy2⟩ := hiy
  clear hR hv2 hv3 hcs hx h u0 u1 hu hf hp hj hw2 hw3 hcsf HI HIX hIA hglf
  by_cases hE : E = 0
  · subst hE
    cases k1 : hT o1 with
    | false =>
      clear hix HII
      by_cases c2 : o1 = 20 ∨ o1 = 22
      · by_cases i2 : (nf : Int) ≤ im
        · have j2 : decide ((nf : Int) ≤ im) = true := decide_eq_true i2
          rcases c2 with rfl | rfl
          · have hr : R = 81 := by rw [HR.out]; simp [k1, i2]
            subst hr
            go_enter Tryd.func32, Tryd.ntmps32
            go_wp2_with (first | (go_at_call 10; refine (HD.out _).mono ?_; rintro e w3 ⟨rfl, g3⟩; have G4 := hid (Gr.alloc (Gr.trans K1.out g3) #[.int .i64 (20 : Int), .int .i64 o2, .int .i64 o3, .int .i64 o4, .int .i64 im] 37); have b1 := gr_blk B1.out g3; have BB := hid (al_blk b1 (.cells #[.int .i64 (20 : Int), .int .i64 o2, .int .i64 o3, .int .i64 o4, .int .i64 im] 37)); have BI := hid (MapKept.heap_alloc w3 (.cells #[.int .i64 (20 : Int), .int .i64 o2, .int .i64 o3, .int .i64 o4, .int .i64 im] 37)).1; have lm := lt_of_block b1; have m0 : w3.cell? ⟨w.heap.size, 0, none⟩ = some (.slice (some ⟨g, o, none⟩) nc cac) := (cell_of b1 0).trans rfl; have m1 : w3.cell? ⟨w.heap.size, 1, none⟩ = some (.slice (some ⟨gf, of_, none⟩) nf caf) := (cell_of b1 1).trans rfl; have m2 : w3.cell? ⟨w.heap.size, 2, none⟩ = some (.slice aot nt cat) := (cell_of b1 2).trans rfl; clear g3 b1) | (go_at_call 51; refine (HII.out _ G5.out).mono ?_; rintro e w6 ⟨rfl, g6⟩; have G6 := hid (Gr.trans G5.out g6); have b6 := gr_blk B5.out g6; have i6 := gr_blk I5.out g6; have lv := lt_of_block b6; have v0 : w6.cell? ⟨w.heap.size, 0, none⟩ = some (.slice (some ⟨g, o, none⟩) nc cac) := (cell_of b6 0).trans rfl; have v1 : w6.cell? ⟨w.heap.size, 1, none⟩ = some (.slice (some ⟨gf, of_, none⟩) nf caf) := (cell_of b6 1).trans rfl; have v2 : w6.cell? ⟨w.heap.size, 2, none⟩ = some (.slice aot nt cat) := (cell_of b6 2).trans rfl; have u0 : w6.cell? ⟨w3.heap.size, 0, none⟩ = some (.int .i64 (20 : Int)) := (cell_of i6 0).trans rfl; have u4 : w6.cell? ⟨w3.heap.size, 4, none⟩ = some (.int .i64 im) := (cell_of i6 4).trans rfl; have lj := lt_of_block i6; have y6 := HT1.out w6 G6.out; have lf6 := HLF.out w6 G6.out; clear g6 b6 i6) | (go_at_call 51; refine (HIA.out _ G4.out).mono ?_; rintro e w5 ⟨rfl, g5⟩; have G5 := hid (Gr.trans G4.out g5); have b5 := gr_blk BB.out g5; have B5 := hid b5; have i5 := gr_blk BI.out g5; have I5 := hid i5; have ls := lt_of_block b5; have s0 : w5.cell? ⟨w.heap.size, 0, none⟩ = some (.slice (some ⟨g, o, none⟩) nc cac) := (cell_of b5 0).trans rfl; have s1 : w5.cell? ⟨w.heap.size, 1, none⟩ = some (.slice (some ⟨gf, of_, none⟩) nf caf) := (cell_of b5 1).trans rfl; have s2 : w5.cell? ⟨w.heap.size, 2, none⟩ = some (.slice aot nt cat) := (cell_of b5 2).trans rfl; have t0 : w5.cell? ⟨w3.heap.size, 0, none⟩ = some (.int .i64 (20 : Int)) := (cell_of i5 0).trans rfl; have t4 : w5.cell? ⟨w3.heap.size, 4, none⟩ = some (.int .i64 im) := (cell_of i5 4).trans rfl; have li := lt_of_block i5; have y5 := HT1.out w5 G5.out; have lf5 := HLF.out w5 G5.out; clear g5 b5 i5) | (go_at_call 52; refine (HH.out _ _).mono ?_; rintro e w4 ⟨rfl, hw⟩; have hw := hw.symm; subst hw) | (go_at_call 53; refine (HN.out _ _).mono ?_; rintro e w4 ⟨rfl, hw⟩; have hw := hw.symm; subst hw))
            go_ret
            exact ⟨rfl, G5.out⟩
          · have hr : R = 81 := by rw [HR.out]; simp [k1, i2]
            subst hr
            go_enter Tryd.func32, Tryd.ntmps32
            go_wp2_with (first | (go_at_call 10; refine (HD.out _).mono ?_; rintro e w3 ⟨rfl, g3⟩; have G4 := hid (Gr.alloc (Gr.trans K1.out g3) #[.int .i64 (22 : Int), .int .i64 o2, .int .i64 o3, .int .i64 o4, .int .i64 im] 37); have b1 := gr_blk B1.out g3; have BB := hid (al_blk b1 (.cells #[.int .i64 (22 : Int), .int .i64 o2, .int .i64 o3, .int .i64 o4, .int .i64 im] 37)); have BI := hid (MapKept.heap_alloc w3 (.cells #[.int .i64 (22 : Int), .int .i64 o2, .int .i64 o3, .int .i64 o4, .int .i64 im] 37)).1; have lm := lt_of_block b1; have m0 : w3.cell? ⟨w.heap.size, 0, none⟩ = some (.slice (some ⟨g, o, none⟩) nc cac) := (cell_of b1 0).trans rfl; have m1 : w3.cell? ⟨w.heap.size, 1, none⟩ = some (.slice (some ⟨gf, of_, none⟩) nf caf) := (cell_of b1 1).trans rfl; have m2 : w3.cell? ⟨w.heap.size, 2, none⟩ = some (.slice aot nt cat) := (cell_of b1 2).trans rfl; clear g3 b1) | (go_at_call 51; refine (HII.out _ G5.out).mono ?_; rintro e w6 ⟨rfl, g6⟩; have G6 := hid (Gr.trans G5.out g6); have b6 := gr_blk B5.out g6; have i6 := gr_blk I5.out g6; have lv := lt_of_block b6; have v0 : w6.cell? ⟨w.heap.size, 0, none⟩ = some (.slice (some ⟨g, o, none⟩) nc cac) := (cell_of b6 0).trans rfl; have v1 : w6.cell? ⟨w.heap.size, 1, none⟩ = some (.slice (some ⟨gf, of_, none⟩) nf caf) := (cell_of b6 1).trans rfl; have v2 : w6.cell? ⟨w.heap.size, 2, none⟩ = some (.slice aot nt cat) := (cell_of b6 2).trans rfl; have u0 : w6.cell? ⟨w3.heap.size, 0, none⟩ = some (.int .i64 (22 : Int)) := (cell_of i6 0).trans rfl; have u4 : w6.cell? ⟨w3.heap.size, 4, none⟩ = some (.int .i64 im) := (cell_of i6 4).trans rfl; have lj := lt_of_block i6; have y6 := HT1.out w6 G6.out; have lf6 := HLF.out w6 G6.out; clear g6 b6 i6) | (go_at_call 51; refine (HIA.out _ G4.out).mono ?_; rintro e w5 ⟨rfl, g5⟩; have G5 := hid (Gr.trans G4.out g5); have b5 := gr_blk BB.out g5; have B5 := hid b5; have i5 := gr_blk BI.out g5; have I5 := hid i5; have ls := lt_of_block b5; have s0 : w5.cell? ⟨w.heap.size, 0, none⟩ = some (.slice (some ⟨g, o, none⟩) nc cac) := (cell_of b5 0).trans rfl; have s1 : w5.cell? ⟨w.heap.size, 1, none⟩ = some (.slice (some ⟨gf, of_, none⟩) nf caf) := (cell_of b5 1).trans rfl; have s2 : w5.cell? ⟨w.heap.size, 2, none⟩ = some (.slice aot nt cat) := (cell_of b5 2).trans rfl; have t0 : w5.cell? ⟨w3.heap.size, 0, none⟩ = some (.int .i64 (22 : Int)) := (cell_of i5 0).trans rfl; have t4 : w5.cell? ⟨w3.heap.size, 4, none⟩ = some (.int .i64 im) := (cell_of i5 4).trans rfl; have li := lt_of_block i5; have y5 := HT1.out w5 G5.out; have lf5 := HLF.out w5 G5.out; clear g5 b5 i5) | (go_at_call 52; refine (HH.out _ _).mono ?_; rintro e w4 ⟨rfl, hw⟩; have hw := hw.symm; subst hw) | (go_at_call 53; refine (HN.out _ _).mono ?_; rintro e w4 ⟨rfl, hw⟩; have hw := hw.symm; subst hw))
            go_ret
            exact ⟨rfl, G5.out⟩
        · have j2 : decide ((nf : Int) ≤ im) = false := decide_eq_false i2
          rcases c2 with rfl | rfl
          · by_cases c4 : (a : Int) = y - 1
            · obtain rfl : y = (a : Int) + 1 := by omega
              clear c4
              have k4 : en (20 : Int) = false := rfl
              have hr : R = 84 := by rw [HR.out]; simp [k1, i2, k4]
              subst hr
              go_enter Tryd.func32, Tryd.ntmps32
              go_wp2_with (first | (go_at_call 10; refine (HD.out _).mono ?_; rintro e w3 ⟨rfl, g3⟩; have G4 := hid (Gr.alloc (Gr.trans K1.out g3) #[.int .i64 (20 : Int), .int .i64 o2, .int .i64 o3, .int .i64 o4, .int .i64 im] 37); have b1 := gr_blk B1.out g3; have BB := hid (al_blk b1 (.cells #[.int .i64 (20 : Int), .int .i64 o2, .int .i64 o3, .int .i64 o4, .int .i64 im] 37)); have BI := hid (MapKept.heap_alloc w3 (.cells #[.int .i64 (20 : Int), .int .i64 o2, .int .i64 o3, .int .i64 o4, .int .i64 im] 37)).1; have lm := lt_of_block b1; have m0 : w3.cell? ⟨w.heap.size, 0, none⟩ = some (.slice (some ⟨g, o, none⟩) nc cac) := (cell_of b1 0).trans rfl; have m1 : w3.cell? ⟨w.heap.size, 1, none⟩ = some (.slice (some ⟨gf, of_, none⟩) nf caf) := (cell_of b1 1).trans rfl; have m2 : w3.cell? ⟨w.heap.size, 2, none⟩ = some (.slice aot nt cat) := (cell_of b1 2).trans rfl; clear g3 b1) | (go_at_call 51; refine (HII.out _ G5.out).mono ?_; rintro e w6 ⟨rfl, g6⟩; have G6 := hid (Gr.trans G5.out g6); have b6 := gr_blk B5.out g6; have i6 := gr_blk I5.out g6; have lv := lt_of_block b6; have v0 : w6.cell? ⟨w.heap.size, 0, none⟩ = some (.slice (some ⟨g, o, none⟩) nc cac) := (cell_of b6 0).trans rfl; have v1 : w6.cell? ⟨w.heap.size, 1, none⟩ = some (.slice (some ⟨gf, of_, none⟩) nf caf) := (cell_of b6 1).trans rfl; have v2 : w6.cell? ⟨w.heap.size, 2, none⟩ = some (.slice aot nt cat) := (cell_of b6 2).trans rfl; have u0 : w6.cell? ⟨w3.heap.size, 0, none⟩ = some (.int .i64 (20 : Int)) := (cell_of i6 0).trans rfl; have u4 : w6.cell? ⟨w3.heap.size, 4, none⟩ = some (.int .i64 im) := (cell_of i6 4).trans rfl; have lj := lt_of_block i6; have y6 := HT1.out w6 G6.out; have lf6 := HLF.out w6 G6.out; clear g6 b6 i6) | (go_at_call 51; refine (HIA.out _ G4.out).mono ?_; rintro e w5 ⟨rfl, g5⟩; have G5 := hid (Gr.trans G4.out g5); have b5 := gr_blk BB.out g5; have B5 := hid b5; have i5 := gr_blk BI.out g5; have I5 := hid i5; have ls := lt_of_block b5; have s0 : w5.cell? ⟨w.heap.size, 0, none⟩ = some (.slice (some ⟨g, o, none⟩) nc cac) := (cell_of b5 0).trans rfl; have s1 : w5.cell? ⟨w.heap.size, 1, none⟩ = some (.slice (some ⟨gf, of_, none⟩) nf caf) := (cell_of b5 1).trans rfl; have s2 : w5.cell? ⟨w.heap.size, 2, none⟩ = some (.slice aot nt cat) := (cell_of b5 2).trans rfl; have t0 : w5.cell? ⟨w3.heap.size, 0, none⟩ = some (.int .i64 (20 : Int)) := (cell_of i5 0).trans rfl; have t4 : w5.cell? ⟨w3.heap.size, 4, none⟩ = some (.int .i64 im) := (cell_of i5 4).trans rfl; have li := lt_of_block i5; have y5 := HT1.out w5 G5.out; have lf5 := HLF.out w5 G5.out; clear g5 b5 i5) | (go_at_call 52; refine (HH.out _ _).mono ?_; rintro e w4 ⟨rfl, hw⟩; have hw := hw.symm; subst hw) | (go_at_call 53; refine (HN.out _ _).mono ?_; rintro e w4 ⟨rfl, hw⟩; have hw := hw.symm; subst hw))
              go_ret
              exact ⟨rfl, G5.out⟩
            · have c4' : ((a : Int) == y - 1) = false := by simpa using c4
              have hr : R = 0 := by rw [HR.out]; simp [k1, i2, c4]
              subst hr
              go_enter Tryd.func32, Tryd.ntmps32
              go_wp2_with (first | (go_at_call 10; refine (HD.out _).mono ?_; rintro e w3 ⟨rfl, g3⟩; have G4 := hid (Gr.alloc (Gr.trans K1.out g3) #[.int .i64 (20 : Int), .int .i64 o2, .int .i64 o3, .int .i64 o4, .int .i64 im] 37); have b1 := gr_blk B1.out g3; have BB := hid (al_blk b1 (.cells #[.int .i64 (20 : Int), .int .i64 o2, .int .i64 o3, .int .i64 o4, .int .i64 im] 37)); have BI := hid (MapKept.heap_alloc w3 (.cells #[.int .i64 (20 : Int), .int .i64 o2, .int .i64 o3, .int .i64 o4, .int .i64 im] 37)).1; have lm := lt_of_block b1; have m0 : w3.cell? ⟨w.heap.size, 0, none⟩ = some (.slice (some ⟨g, o, none⟩) nc cac) := (cell_of b1 0).trans rfl; have m1 : w3.cell? ⟨w.heap.size, 1, none⟩ = some (.slice (some ⟨gf, of_, none⟩) nf caf) := (cell_of b1 1).trans rfl; have m2 : w3.cell? ⟨w.heap.size, 2, none⟩ = some (.slice aot nt cat) := (cell_of b1 2).trans rfl; clear g3 b1) | (go_at_call 51; refine (HII.out _ G5.out).mono ?_; rintro e w6 ⟨rfl, g6⟩; have G6 := hid (Gr.trans G5.out g6); have b6 := gr_blk B5.out g6; have i6 := gr_blk I5.out g6; have lv := lt_of_block b6; have v0 : w6.cell? ⟨w.heap.size, 0, none⟩ = some (.slice (some ⟨g, o, none⟩) nc cac) := (cell_of b6 0).trans rfl; have v1 : w6.cell? ⟨w.heap.size, 1, none⟩ = some (.slice (some ⟨gf, of_, none⟩) nf caf) := (cell_of b6 1).trans rfl; have v2 : w6.cell? ⟨w.heap.size, 2, none⟩ = some (.slice aot nt cat) := (cell_of b6 2).trans rfl; have u0 : w6.cell? ⟨w3.heap.size, 0, none⟩ = some (.int .i64 (20 : Int)) := (cell_of i6 0).trans rfl; have u4 : w6.cell? ⟨w3.heap.size, 4, none⟩ = some (.int .i64 im) := (cell_of i6 4).trans rfl; have lj := lt_of_block i6; have y6 := HT1.out w6 G6.out; have lf6 := HLF.out w6 G6.out; clear g6 b6 i6) | (go_at_call 51; refine (HIA.out _ G4.out).mono ?_; rintro e w5 ⟨rfl, g5⟩; have G5 := hid (Gr.trans G4.out g5); have b5 := gr_blk BB.out g5; have B5 := hid b5; have i5 := gr_blk BI.out g5; have I5 := hid i5; have ls := lt_of_block b5; have s0 : w5.cell? ⟨w.heap.size, 0, none⟩ = some (.slice (some ⟨g, o, none⟩) nc cac) := (cell_of b5 0).trans rfl; have s1 : w5.cell? ⟨w.heap.size, 1, none⟩ = some (.slice (some ⟨gf, of_, none⟩) nf caf) := (cell_of b5 1).trans rfl; have s2 : w5.cell? ⟨w.heap.size, 2, none⟩ = some (.slice aot nt cat) := (cell_of b5 2).trans rfl; have t0 : w5.cell? ⟨w3.heap.size, 0, none⟩ = some (.int .i64 (20 : Int)) := (cell_of i5 0).trans rfl; have t4 : w5.cell? ⟨w3.heap.size, 4, none⟩ = some (.int .i64 im) := (cell_of i5 4).trans rfl; have li := lt_of_block i5; have y5 := HT1.out w5 G5.out; have lf5 := HLF.out w5 G5.out; clear g5 b5 i5) | (go_at_call 52; refine (HH.out _ _).mono ?_; rintro e w4 ⟨rfl, hw⟩; have hw := hw.symm; subst hw) | (go_at_call 53; refine (HN.out _ _).mono ?_; rintro e w4 ⟨rfl, hw⟩; have hw := hw.symm; subst hw))
              go_ret
              exact ⟨rfl, G5.out⟩
          · by_cases c4 : (a : Int) = y - 1
            · obtain rfl : y = (a : Int) + 1 := by omega
              clear c4
              have k4 : en (22 : Int) = false := rfl
              have hr : R = 84 := by rw [HR.out]; simp [k1, i2, k4]
              subst hr
              go_enter Tryd.func32, Tryd.ntmps32
              go_wp2_with (first | (go_at_call 10; refine (HD.out _).mono ?_; rintro e w3 ⟨rfl, g3⟩; have G4 := hid (Gr.alloc (Gr.trans K1.out g3) #[.int .i64 (22 : Int), .int .i64 o2, .int .i64 o3, .int .i64 o4, .int .i64 im] 37); have b1 := gr_blk B1.out g3; have BB := hid (al_blk b1 (.cells #[.int .i64 (22 : Int), .int .i64 o2, .int .i64 o3, .int .i64 o4, .int .i64 im] 37)); have BI := hid (MapKept.heap_alloc w3 (.cells #[.int .i64 (22 : Int), .int .i64 o2, .int .i64 o3, .int .i64 o4, .int .i64 im] 37)).1; have lm := lt_of_block b1; have m0 : w3.cell? ⟨w.heap.size, 0, none⟩ = some (.slice (some ⟨g, o, none⟩) nc cac) := (cell_of b1 0).trans rfl; have m1 : w3.cell? ⟨w.heap.size, 1, none⟩ = some (.slice (some ⟨gf, of_, none⟩) nf caf) := (cell_of b1 1).trans rfl; have m2 : w3.cell? ⟨w.heap.size, 2, none⟩ = some (.slice aot nt cat) := (cell_of b1 2).trans rfl; clear g3 b1) | (go_at_call 51; refine (HII.out _ G5.out).mono ?_; rintro e w6 ⟨rfl, g6⟩; have G6 := hid (Gr.trans G5.out g6); have b6 := gr_blk B5.out g6; have i6 := gr_blk I5.out g6; have lv := lt_of_block b6; have v0 : w6.cell? ⟨w.heap.size, 0, none⟩ = some (.slice (some ⟨g, o, none⟩) nc cac) := (cell_of b6 0).trans rfl; have v1 : w6.cell? ⟨w.heap.size, 1, none⟩ = some (.slice (some ⟨gf, of_, none⟩) nf caf) := (cell_of b6 1).trans rfl; have v2 : w6.cell? ⟨w.heap.size, 2, none⟩ = some (.slice aot nt cat) := (cell_of b6 2).trans rfl; have u0 : w6.cell? ⟨w3.heap.size, 0, none⟩ = some (.int .i64 (22 : Int)) := (cell_of i6 0).trans rfl; have u4 : w6.cell? ⟨w3.heap.size, 4, none⟩ = some (.int .i64 im) := (cell_of i6 4).trans rfl; have lj := lt_of_block i6; have y6 := HT1.out w6 G6.out; have lf6 := HLF.out w6 G6.out; clear g6 b6 i6) | (go_at_call 51; refine (HIA.out _ G4.out).mono ?_; rintro e w5 ⟨rfl, g5⟩; have G5 := hid (Gr.trans G4.out g5); have b5 := gr_blk BB.out g5; have B5 := hid b5; have i5 := gr_blk BI.out g5; have I5 := hid i5; have ls := lt_of_block b5; have s0 : w5.cell? ⟨w.heap.size, 0, none⟩ = some (.slice (some ⟨g, o, none⟩) nc cac) := (cell_of b5 0).trans rfl; have s1 : w5.cell? ⟨w.heap.size, 1, none⟩ = some (.slice (some ⟨gf, of_, none⟩) nf caf) := (cell_of b5 1).trans rfl; have s2 : w5.cell? ⟨w.heap.size, 2, none⟩ = some (.slice aot nt cat) := (cell_of b5 2).trans rfl; have t0 : w5.cell? ⟨w3.heap.size, 0, none⟩ = some (.int .i64 (22 : Int)) := (cell_of i5 0).trans rfl; have t4 : w5.cell? ⟨w3.heap.size, 4, none⟩ = some (.int .i64 im) := (cell_of i5 4).trans rfl; have li := lt_of_block i5; have y5 := HT1.out w5 G5.out; have lf5 := HLF.out w5 G5.out; clear g5 b5 i5) | (go_at_call 52; refine (HH.out _ _).mono ?_; rintro e w4 ⟨rfl, hw⟩; have hw := hw.symm; subst hw) | (go_at_call 53; refine (HN.out _ _).mono ?_; rintro e w4 ⟨rfl, hw⟩; have hw := hw.symm; subst hw))
              go_ret
              exact ⟨rfl, G5.out⟩
            · have c4' : ((a : Int) == y - 1) = false := by simpa using c4
              have hr : R = 0 := by rw [HR.out]; simp [k1, i2, c4]
              subst hr
              go_enter Tryd.func32, Tryd.ntmps32
              go_wp2_with (first | (go_at_call 10; refine (HD.out _).mono ?_; rintro e w3 ⟨rfl, g3⟩; have G4 := hid (Gr.alloc (Gr.trans K1.out g3) #[.int .i64 (22 : Int), .int .i64 o2, .int .i64 o3, .int .i64 o4, .int .i64 im] 37); have b1 := gr_blk B1.out g3; have BB := hid (al_blk b1 (.cells #[.int .i64 (22 : Int), .int .i64 o2, .int .i64 o3, .int .i64 o4, .int .i64 im] 37)); have BI := hid (MapKept.heap_alloc w3 (.cells #[.int .i64 (22 : Int), .int .i64 o2, .int .i64 o3, .int .i64 o4, .int .i64 im] 37)).1; have lm := lt_of_block b1; have m0 : w3.cell? ⟨w.heap.size, 0, none⟩ = some (.slice (some ⟨g, o, none⟩) nc cac) := (cell_of b1 0).trans rfl; have m1 : w3.cell? ⟨w.heap.size, 1, none⟩ = some (.slice (some ⟨gf, of_, none⟩) nf caf) := (cell_of b1 1).trans rfl; have m2 : w3.cell? ⟨w.heap.size, 2, none⟩ = some (.slice aot nt cat) := (cell_of b1 2).trans rfl; clear g3 b1) | (go_at_call 51; refine (HII.out _ G5.out).mono ?_; rintro e w6 ⟨rfl, g6⟩; have G6 := hid (Gr.trans G5.out g6); have b6 := gr_blk B5.out g6; have i6 := gr_blk I5.out g6; have lv := lt_of_block b6; have v0 : w6.cell? ⟨w.heap.size, 0, none⟩ = some (.slice (some ⟨g, o, none⟩) nc cac) := (cell_of b6 0).trans rfl; have v1 : w6.cell? ⟨w.heap.size, 1, none⟩ = some (.slice (some ⟨gf, of_, none⟩) nf caf) := (cell_of b6 1).trans rfl; have v2 : w6.cell? ⟨w.heap.size, 2, none⟩ = some (.slice aot nt cat) := (cell_of b6 2).trans rfl; have u0 : w6.cell? ⟨w3.heap.size, 0, none⟩ = some (.int .i64 (22 : Int)) := (cell_of i6 0).trans rfl; have u4 : w6.cell? ⟨w3.heap.size, 4, none⟩ = some (.int .i64 im) := (cell_of i6 4).trans rfl; have lj := lt_of_block i6; have y6 := HT1.out w6 G6.out; have lf6 := HLF.out w6 G6.out; clear g6 b6 i6) | (go_at_call 51; refine (HIA.out _ G4.out).mono ?_; rintro e w5 ⟨rfl, g5⟩; have G5 := hid (Gr.trans G4.out g5); have b5 := gr_blk BB.out g5; have B5 := hid b5; have i5 := gr_blk BI.out g5; have I5 := hid i5; have ls := lt_of_block b5; have s0 : w5.cell? ⟨w.heap.size, 0, none⟩ = some (.slice (some ⟨g, o, none⟩) nc cac) := (cell_of b5 0).trans rfl; have s1 : w5.cell? ⟨w.heap.size, 1, none⟩ = some (.slice (some ⟨gf, of_, none⟩) nf caf) := (cell_of b5 1).trans rfl; have s2 : w5.cell? ⟨w.heap.size, 2, none⟩ = some (.slice aot nt cat) := (cell_of b5 2).trans rfl; have t0 : w5.cell? ⟨w3.heap.size, 0, none⟩ = some (.int .i64 (22 : Int)) := (cell_of i5 0).trans rfl; have t4 : w5.cell? ⟨w3.heap.size, 4, none⟩ = some (.int .i64 im) := (cell_of i5 4).trans rfl; have li := lt_of_block i5; have y5 := HT1.out w5 G5.out; have lf5 := HLF.out w5 G5.out; clear g5 b5 i5) | (go_at_call 52; refine (HH.out _ _).mono ?_; rintro e w4 ⟨rfl, hw⟩; have hw := hw.symm; subst hw) | (go_at_call 53; refine (HN.out _ _).mono ?_; rintro e w4 ⟨rfl, hw⟩; have hw := hw.symm; subst hw))
              go_ret
              exact ⟨rfl, G5.out⟩
      · have c2' : ¬ o1 = 20 ∧ ¬ o1 = 22 := by omega
        obtain ⟨ca, cb⟩ := c2'
        have ca' : (o1 == 20) = false := by simpa using ca
        have cb' : (o1 == 22) = false := by simpa using cb
        by_cases c3 : o1 = 34
        · subst c3
          by_cases i3 : (nt : Int) ≤ im
          · have j3 : decide ((nt : Int) ≤ im) = true := decide_eq_true i3
            have hr : R = 83 := by rw [HR.out]; simp [k1, i3]
            subst hr
            go_enter Tryd.func32, Tryd.ntmps32
            go_wp2_with (first | (go_at_call 10; refine (HD.out _).mono ?_; rintro e w3 ⟨rfl, g3⟩; have G4 := hid (Gr.alloc (Gr.trans K1.out g3) #[.int .i64 (34 : Int), .int .i64 o2, .int .i64 o3, .int .i64 o4, .int .i64 im] 37); have b1 := gr_blk B1.out g3; have BB := hid (al_blk b1 (.cells #[.int .i64 (34 : Int), .int .i64 o2, .int .i64 o3, .int .i64 o4, .int .i64 im] 37)); have BI := hid (MapKept.heap_alloc w3 (.cells #[.int .i64 (34 : Int), .int .i64 o2, .int .i64 o3, .int .i64 o4, .int .i64 im] 37)).1; have lm := lt_of_block b1; have m0 : w3.cell? ⟨w.heap.size, 0, none⟩ = some (.slice (some ⟨g, o, none⟩) nc cac) := (cell_of b1 0).trans rfl; have m1 : w3.cell? ⟨w.heap.size, 1, none⟩ = some (.slice (some ⟨gf, of_, none⟩) nf caf) := (cell_of b1 1).trans rfl; have m2 : w3.cell? ⟨w.heap.size, 2, none⟩ = some (.slice aot nt cat) := (cell_of b1 2).trans rfl; clear g3 b1) | (go_at_call 51; refine (HII.out _ G5.out).mono ?_; rintro e w6 ⟨rfl, g6⟩; have G6 := hid (Gr.trans G5.out g6); have b6 := gr_blk B5.out g6; have i6 := gr_blk I5.out g6; have lv := lt_of_block b6; have v0 : w6.cell? ⟨w.heap.size, 0, none⟩ = some (.slice (some ⟨g, o, none⟩) nc cac) := (cell_of b6 0).trans rfl; have v1 : w6.cell? ⟨w.heap.size, 1, none⟩ = some (.slice (some ⟨gf, of_, none⟩) nf caf) := (cell_of b6 1).trans rfl; have v2 : w6.cell? ⟨w.heap.size, 2, none⟩ = some (.slice aot nt cat) := (cell_of b6 2).trans rfl; have u0 : w6.cell? ⟨w3.heap.size, 0, none⟩ = some (.int .i64 (34 : Int)) := (cell_of i6 0).trans rfl; have u4 : w6.cell? ⟨w3.heap.size, 4, none⟩ = some (.int .i64 im) := (cell_of i6 4).trans rfl; have lj := lt_of_block i6; have y6 := HT1.out w6 G6.out; have lf6 := HLF.out w6 G6.out; clear g6 b6 i6) | (go_at_call 51; refine (HIA.out _ G4.out).mono ?_; rintro e w5 ⟨rfl, g5⟩; have G5 := hid (Gr.trans G4.out g5); have b5 := gr_blk BB.out g5; have B5 := hid b5; have i5 := gr_blk BI.out g5; have I5 := hid i5; have ls := lt_of_block b5; have s0 : w5.cell? ⟨w.heap.size, 0, none⟩ = some (.slice (some ⟨g, o, none⟩) nc cac) := (cell_of b5 0).trans rfl; have s1 : w5.cell? ⟨w.heap.size, 1, none⟩ = some (.slice (some ⟨gf, of_, none⟩) nf caf) := (cell_of b5 1).trans rfl; have s2 : w5.cell? ⟨w.heap.size, 2, none⟩ = some (.slice aot nt cat) := (cell_of b5 2).trans rfl; have t0 : w5.cell? ⟨w3.heap.size, 0, none⟩ = some (.int .i64 (34 : Int)) := (cell_of i5 0).trans rfl; have t4 : w5.cell? ⟨w3.heap.size, 4, none⟩ = some (.int .i64 im) := (cell_of i5 4).trans rfl; have li := lt_of_block i5; have y5 := HT1.out w5 G5.out; have lf5 := HLF.out w5 G5.out; clear g5 b5 i5) | (go_at_call 52; refine (HH.out _ _).mono ?_; rintro e w4 ⟨rfl, hw⟩; have hw := hw.symm; subst hw) | (go_at_call 53; refine (HN.out _ _).mono ?_; rintro e w4 ⟨rfl, hw⟩; have hw := hw.symm; subst hw))
            go_ret
            exact ⟨rfl, G5.out⟩
          · have j3 : decide ((nt : Int) ≤ im) = false := decide_eq_false i3
            by_cases c4 : (a : Int) = y - 1
            · obtain rfl : y = (a : Int) + 1 := by omega
              clear c4
              have k4 : en (34 : Int) = false := rfl
              have hr : R = 84 := by rw [HR.out]; simp [k1, i3, k4]
              subst hr
              go_enter Tryd.func32, Tryd.ntmps32
              go_wp2_with (first | (go_at_call 10; refine (HD.out _).mono ?_; rintro e w3 ⟨rfl, g3⟩; have G4 := hid (Gr.alloc (Gr.trans K1.out g3) #[.int .i64 (34 : Int), .int .i64 o2, .int .i64 o3, .int .i64 o4, .int .i64 im] 37); have b1 := gr_blk B1.out g3; have BB := hid (al_blk b1 (.cells #[.int .i64 (34 : Int), .int .i64 o2, .int .i64 o3, .int .i64 o4, .int .i64 im] 37)); have BI := hid (MapKept.heap_alloc w3 (.cells #[.int .i64 (34 : Int), .int .i64 o2, .int .i64 o3, .int .i64 o4, .int .i64 im] 37)).1; have lm := lt_of_block b1; have m0 : w3.cell? ⟨w.heap.size, 0, none⟩ = some (.slice (some ⟨g, o, none⟩) nc cac) := (cell_of b1 0).trans rfl; have m1 : w3.cell? ⟨w.heap.size, 1, none⟩ = some (.slice (some ⟨gf, of_, none⟩) nf caf) := (cell_of b1 1).trans rfl; have m2 : w3.cell? ⟨w.heap.size, 2, none⟩ = some (.slice aot nt cat) := (cell_of b1 2).trans rfl; clear g3 b1) | (go_at_call 51; refine (HII.out _ G5.out).mono ?_; rintro e w6 ⟨rfl, g6⟩; have G6 := hid (Gr.trans G5.out g6); have b6 := gr_blk B5.out g6; have i6 := gr_blk I5.out g6; have lv := lt_of_block b6; have v0 : w6.cell? ⟨w.heap.size, 0, none⟩ = some (.slice (some ⟨g, o, none⟩) nc cac) := (cell_of b6 0).trans rfl; have v1 : w6.cell? ⟨w.heap.size, 1, none⟩ = some (.slice (some ⟨gf, of_, none⟩) nf caf) := (cell_of b6 1).trans rfl; have v2 : w6.cell? ⟨w.heap.size, 2, none⟩ = some (.slice aot nt cat) := (cell_of b6 2).trans rfl; have u0 : w6.cell? ⟨w3.heap.size, 0, none⟩ = some (.int .i64 (34 : Int)) := (cell_of i6 0).trans rfl; have u4 : w6.cell? ⟨w3.heap.size, 4, none⟩ = some (.int .i64 im) := (cell_of i6 4).trans rfl; have lj := lt_of_block i6; have y6 := HT1.out w6 G6.out; have lf6 := HLF.out w6 G6.out; clear g6 b6 i6) | (go_at_call 51; refine (HIA.out _ G4.out).mono ?_; rintro e w5 ⟨rfl, g5⟩; have G5 := hid (Gr.trans G4.out g5); have b5 := gr_blk BB.out g5; have B5 := hid b5; have i5 := gr_blk BI.out g5; have I5 := hid i5; have ls := lt_of_block b5; have s0 : w5.cell? ⟨w.heap.size, 0, none⟩ = some (.slice (some ⟨g, o, none⟩) nc cac) := (cell_of b5 0).trans rfl; have s1 : w5.cell? ⟨w.heap.size, 1, none⟩ = some (.slice (some ⟨gf, of_, none⟩) nf caf) := (cell_of b5 1).trans rfl; have s2 : w5.cell? ⟨w.heap.size, 2, none⟩ = some (.slice aot nt cat) := (cell_of b5 2).trans rfl; have t0 : w5.cell? ⟨w3.heap.size, 0, none⟩ = some (.int .i64 (34 : Int)) := (cell_of i5 0).trans rfl; have t4 : w5.cell? ⟨w3.heap.size, 4, none⟩ = some (.int .i64 im) := (cell_of i5 4).trans rfl; have li := lt_of_block i5; have y5 := HT1.out w5 G5.out; have lf5 := HLF.out w5 G5.out; clear g5 b5 i5) | (go_at_call 52; refine (HH.out _ _).mono ?_; rintro e w4 ⟨rfl, hw⟩; have hw := hw.symm; subst hw) | (go_at_call 53; refine (HN.out _ _).mono ?_; rintro e w4 ⟨rfl, hw⟩; have hw := hw.symm; subst hw))
              go_ret
              exact ⟨rfl, G5.out⟩
            · have c4' : ((a : Int) == y - 1) = false := by simpa using c4
              have hr : R = 0 := by rw [HR.out]; simp [k1, i3, c4]
              subst hr
              go_enter Tryd.func32, Tryd.ntmps32
              go_wp2_with (first | (go_at_call 10; refine (HD.out _).mono ?_; rintro e w3 ⟨rfl, g3⟩; have G4 := hid (Gr.alloc (Gr.trans K1.out g3) #[.int .i64 (34 : Int), .int .i64 o2, .int .i64 o3, .int .i64 o4, .int .i64 im] 37); have b1 := gr_blk B1.out g3; have BB := hid (al_blk b1 (.cells #[.int .i64 (34 : Int), .int .i64 o2, .int .i64 o3, .int .i64 o4, .int .i64 im] 37)); have BI := hid (MapKept.heap_alloc w3 (.cells #[.int .i64 (34 : Int), .int .i64 o2, .int .i64 o3, .int .i64 o4, .int .i64 im] 37)).1; have lm := lt_of_block b1; have m0 : w3.cell? ⟨w.heap.size, 0, none⟩ = some (.slice (some ⟨g, o, none⟩) nc cac) := (cell_of b1 0).trans rfl; have m1 : w3.cell? ⟨w.heap.size, 1, none⟩ = some (.slice (some ⟨gf, of_, none⟩) nf caf) := (cell_of b1 1).trans rfl; have m2 : w3.cell? ⟨w.heap.size, 2, none⟩ = some (.slice aot nt cat) := (cell_of b1 2).trans rfl; clear g3 b1) | (go_at_call 51; refine (HII.out _ G5.out).mono ?_; rintro e w6 ⟨rfl, g6⟩; have G6 := hid (Gr.trans G5.out g6); have b6 := gr_blk B5.out g6; have i6 := gr_blk I5.out g6; have lv := lt_of_block b6; have v0 : w6.cell? ⟨w.heap.size, 0, none⟩ = some (.slice (some ⟨g, o, none⟩) nc cac) := (cell_of b6 0).trans rfl; have v1 : w6.cell? ⟨w.heap.size, 1, none⟩ = some (.slice (some ⟨gf, of_, none⟩) nf caf) := (cell_of b6 1).trans rfl; have v2 : w6.cell? ⟨w.heap.size, 2, none⟩ = some (.slice aot nt cat) := (cell_of b6 2).trans rfl; have u0 : w6.cell? ⟨w3.heap.size, 0, none⟩ = some (.int .i64 (34 : Int)) := (cell_of i6 0).trans rfl; have u4 : w6.cell? ⟨w3.heap.size, 4, none⟩ = some (.int .i64 im) := (cell_of i6 4).trans rfl; have lj := lt_of_block i6; have y6 := HT1.out w6 G6.out; have lf6 := HLF.out w6 G6.out; clear g6 b6 i6) | (go_at_call 51; refine (HIA.out _ G4.out).mono ?_; rintro e w5 ⟨rfl, g5⟩; have G5 := hid (Gr.trans G4.out g5); have b5 := gr_blk BB.out g5; have B5 := hid b5; have i5 := gr_blk BI.out g5; have I5 := hid i5; have ls := lt_of_block b5; have s0 : w5.cell? ⟨w.heap.size, 0, none⟩ = some (.slice (some ⟨g, o, none⟩) nc cac) := (cell_of b5 0).trans rfl; have s1 : w5.cell? ⟨w.heap.size, 1, none⟩ = some (.slice (some ⟨gf, of_, none⟩) nf caf) := (cell_of b5 1).trans rfl; have s2 : w5.cell? ⟨w.heap.size, 2, none⟩ = some (.slice aot nt cat) := (cell_of b5 2).trans rfl; have t0 : w5.cell? ⟨w3.heap.size, 0, none⟩ = some (.int .i64 (34 : Int)) := (cell_of i5 0).trans rfl; have t4 : w5.cell? ⟨w3.heap.size, 4, none⟩ = some (.int .i64 im) := (cell_of i5 4).trans rfl; have li := lt_of_block i5; have y5 := HT1.out w5 G5.out; have lf5 := HLF.out w5 G5.out; clear g5 b5 i5) | (go_at_call 52; refine (HH.out _ _).mono ?_; rintro e w4 ⟨rfl, hw⟩; have hw := hw.symm; subst hw) | (go_at_call 53; refine (HN.out _ _).mono ?_; rintro e w4 ⟨rfl, hw⟩; have hw := hw.symm; subst hw))
              go_ret
              exact ⟨rfl, G5.out⟩
        · have c3' : (o1 == 34) = false := by simpa using c3
          by_cases c4 : (a : Int) = y - 1
          · obtain rfl : y = (a : Int) + 1 := by omega
            clear c4
            cases k4 : en o1 with
            | false =>
              have hr : R = 84 := by rw [HR.out]; simp [k1, ca, cb, c3, k4]
              subst hr
              go_enter Tryd.func32, Tryd.ntmps32
              go_wp2_with (first | (go_at_call 10; refine (HD.out _).mono ?_; rintro e w3 ⟨rfl, g3⟩; have G4 := hid (Gr.alloc (Gr.trans K1.out g3) #[.int .i64 o1, .int .i64 o2, .int .i64 o3, .int .i64 o4, .int .i64 im] 37); have b1 := gr_blk B1.out g3; have BB := hid (al_blk b1 (.cells #[.int .i64 o1, .int .i64 o2, .int .i64 o3, .int .i64 o4, .int .i64 im] 37)); have BI := hid (MapKept.heap_alloc w3 (.cells #[.int .i64 o1, .int .i64 o2, .int .i64 o3, .int .i64 o4, .int .i64 im] 37)).1; have lm := lt_of_block b1; have m0 : w3.cell? ⟨w.heap.size, 0, none⟩ = some (.slice (some ⟨g, o, none⟩) nc cac) := (cell_of b1 0).trans rfl; have m1 : w3.cell? ⟨w.heap.size, 1, none⟩ = some (.slice (some ⟨gf, of_, none⟩) nf caf) := (cell_of b1 1).trans rfl; have m2 : w3.cell? ⟨w.heap.size, 2, none⟩ = some (.slice aot nt cat) := (cell_of b1 2).trans rfl; clear g3 b1) | (go_at_call 51; refine (HII.out _ G5.out).mono ?_; rintro e w6 ⟨rfl, g6⟩; have G6 := hid (Gr.trans G5.out g6); have b6 := gr_blk B5.out g6; have i6 := gr_blk I5.out g6; have lv := lt_of_block b6; have v0 : w6.cell? ⟨w.heap.size, 0, none⟩ = some (.slice (some ⟨g, o, none⟩) nc cac) := (cell_of b6 0).trans rfl; have v1 : w6.cell? ⟨w.heap.size, 1, none⟩ = some (.slice (some ⟨gf, of_, none⟩) nf caf) := (cell_of b6 1).trans rfl; have v2 : w6.cell? ⟨w.heap.size, 2, none⟩ = some (.slice aot nt cat) := (cell_of b6 2).trans rfl; have u0 : w6.cell? ⟨w3.heap.size, 0, none⟩ = some (.int .i64 o1) := (cell_of i6 0).trans rfl; have u4 : w6.cell? ⟨w3.heap.size, 4, none⟩ = some (.int .i64 im) := (cell_of i6 4).trans rfl; have lj := lt_of_block i6; have y6 := HT1.out w6 G6.out; have lf6 := HLF.out w6 G6.out; clear g6 b6 i6) | (go_at_call 51; refine (HIA.out _ G4.out).mono ?_; rintro e w5 ⟨rfl, g5⟩; have G5 := hid (Gr.trans G4.out g5); have b5 := gr_blk BB.out g5; have B5 := hid b5; have i5 := gr_blk BI.out g5; have I5 := hid i5; have ls := lt_of_block b5; have s0 : w5.cell? ⟨w.heap.size, 0, none⟩ = some (.slice (some ⟨g, o, none⟩) nc cac) := (cell_of b5 0).trans rfl; have s1 : w5.cell? ⟨w.heap.size, 1, none⟩ = some (.slice (some ⟨gf, of_, none⟩) nf caf) := (cell_of b5 1).trans rfl; have s2 : w5.cell? ⟨w.heap.size, 2, none⟩ = some (.slice aot nt cat) := (cell_of b5 2).trans rfl; have t0 : w5.cell? ⟨w3.heap.size, 0, none⟩ = some (.int .i64 o1) := (cell_of i5 0).trans rfl; have t4 : w5.cell? ⟨w3.heap.size, 4, none⟩ = some (.int .i64 im) := (cell_of i5 4).trans rfl; have li := lt_of_block i5; have y5 := HT1.out w5 G5.out; have lf5 := HLF.out w5 G5.out; clear g5 b5 i5) | (go_at_call 52; refine (HH.out _ _).mono ?_; rintro e w4 ⟨rfl, hw⟩; have hw := hw.symm; subst hw) | (go_at_call 53; refine (HN.out _ _).mono ?_; rintro e w4 ⟨rfl, hw⟩; have hw := hw.symm; subst hw))
              go_ret
              exact ⟨rfl, G5.out⟩
            | true =>
              have hr : R = 0 := by rw [HR.out]; simp [k1, ca, cb, c3, k4]
              subst hr
              go_enter Tryd.func32, Tryd.ntmps32
              go_wp2_with (first | (go_at_call 10; refine (HD.out _).mono ?_; rintro e w3 ⟨rfl, g3⟩; have G4 := hid (Gr.alloc (Gr.trans K1.out g3) #[.int .i64 o1, .int .i64 o2, .int .i64 o3, .int .i64 o4, .int .i64 im] 37); have b1 := gr_blk B1.out g3; have BB := hid (al_blk b1 (.cells #[.int .i64 o1, .int .i64 o2, .int .i64 o3, .int .i64 o4, .int .i64 im] 37)); have BI := hid (MapKept.heap_alloc w3 (.cells #[.int .i64 o1, .int .i64 o2, .int .i64 o3, .int .i64 o4, .int .i64 im] 37)).1; have lm := lt_of_block b1; have m0 : w3.cell? ⟨w.heap.size, 0, none⟩ = some (.slice (some ⟨g, o, none⟩) nc cac) := (cell_of b1 0).trans rfl; have m1 : w3.cell? ⟨w.heap.size, 1, none⟩ = some (.slice (some ⟨gf, of_, none⟩) nf caf) := (cell_of b1 1).trans rfl; have m2 : w3.cell? ⟨w.heap.size, 2, none⟩ = some (.slice aot nt cat) := (cell_of b1 2).trans rfl; clear g3 b1) | (go_at_call 51; refine (HII.out _ G5.out).mono ?_; rintro e w6 ⟨rfl, g6⟩; have G6 := hid (Gr.trans G5.out g6); have b6 := gr_blk B5.out g6; have i6 := gr_blk I5.out g6; have lv := lt_of_block b6; have v0 : w6.cell? ⟨w.heap.size, 0, none⟩ = some (.slice (some ⟨g, o, none⟩) nc cac) := (cell_of b6 0).trans rfl; have v1 : w6.cell? ⟨w.heap.size, 1, none⟩ = some (.slice (some ⟨gf, of_, none⟩) nf caf) := (cell_of b6 1).trans rfl; have v2 : w6.cell? ⟨w.heap.size, 2, none⟩ = some (.slice aot nt cat) := (cell_of b6 2).trans rfl; have u0 : w6.cell? ⟨w3.heap.size, 0, none⟩ = some (.int .i64 o1) := (cell_of i6 0).trans rfl; have u4 : w6.cell? ⟨w3.heap.size, 4, none⟩ = some (.int .i64 im) := (cell_of i6 4).trans rfl; have lj := lt_of_block i6; have y6 := HT1.out w6 G6.out; have lf6 := HLF.out w6 G6.out; clear g6 b6 i6) | (go_at_call 51; refine (HIA.out _ G4.out).mono ?_; rintro e w5 ⟨rfl, g5⟩; have G5 := hid (Gr.trans G4.out g5); have b5 := gr_blk BB.out g5; have B5 := hid b5; have i5 := gr_blk BI.out g5; have I5 := hid i5; have ls := lt_of_block b5; have s0 : w5.cell? ⟨w.heap.size, 0, none⟩ = some (.slice (some ⟨g, o, none⟩) nc cac) := (cell_of b5 0).trans rfl; have s1 : w5.cell? ⟨w.heap.size, 1, none⟩ = some (.slice (some ⟨gf, of_, none⟩) nf caf) := (cell_of b5 1).trans rfl; have s2 : w5.cell? ⟨w.heap.size, 2, none⟩ = some (.slice aot nt cat) := (cell_of b5 2).trans rfl; have t0 : w5.cell? ⟨w3.heap.size, 0, none⟩ = some (.int .i64 o1) := (cell_of i5 0).trans rfl; have t4 : w5.cell? ⟨w3.heap.size, 4, none⟩ = some (.int .i64 im) := (cell_of i5 4).trans rfl; have li := lt_of_block i5; have y5 := HT1.out w5 G5.out; have lf5 := HLF.out w5 G5.out; clear g5 b5 i5) | (go_at_call 52; refine (HH.out _ _).mono ?_; rintro e w4 ⟨rfl, hw⟩; have hw := hw.symm; subst hw) | (go_at_call 53; refine (HN.out _ _).mono ?_; rintro e w4 ⟨rfl, hw⟩; have hw := hw.symm; subst hw))
              go_ret
              exact ⟨rfl, G5.out⟩
          · have c4' : ((a : Int) == y - 1) = false := by simpa using c4
            have hr : R = 0 := by rw [HR.out]; simp [k1, ca, cb, c3, c4]
            subst hr
            go_enter Tryd.func32, Tryd.ntmps32
            go_wp2_with (first | (go_at_call 10; refine (HD.out _).mono ?_; rintro e w3 ⟨rfl, g3⟩; have G4 := hid (Gr.alloc (Gr.trans K1.out g3) #[.int .i64 o1, .int .i64 o2, .int .i64 o3, .int .i64 o4, .int .i64 im] 37); have b1 := gr_blk B1.out g3; have BB := hid (al_blk b1 (.cells #[.int .i64 o1, .int .i64 o2, .int .i64 o3, .int .i64 o4, .int .i64 im] 37)); have BI := hid (MapKept.heap_alloc w3 (.cells #[.int .i64 o1, .int .i64 o2, .int .i64 o3, .int .i64 o4, .int .i64 im] 37)).1; have lm := lt_of_block b1; have m0 : w3.cell? ⟨w.heap.size, 0, none⟩ = some (.slice (some ⟨g, o, none⟩) nc cac) := (cell_of b1 0).trans rfl; have m1 : w3.cell? ⟨w.heap.size, 1, none⟩ = some (.slice (some ⟨gf, of_, none⟩) nf caf) := (cell_of b1 1).trans rfl; have m2 : w3.cell? ⟨w.heap.size, 2, none⟩ = some (.slice aot nt cat) := (cell_of b1 2).trans rfl; clear g3 b1) | (go_at_call 51; refine (HII.out _ G5.out).mono ?_; rintro e w6 ⟨rfl, g6⟩; have G6 := hid (Gr.trans G5.out g6); have b6 := gr_blk B5.out g6; have i6 := gr_blk I5.out g6; have lv := lt_of_block b6; have v0 : w6.cell? ⟨w.heap.size, 0, none⟩ = some (.slice (some ⟨g, o, none⟩) nc cac) := (cell_of b6 0).trans rfl; have v1 : w6.cell? ⟨w.heap.size, 1, none⟩ = some (.slice (some ⟨gf, of_, none⟩) nf caf) := (cell_of b6 1).trans rfl; have v2 : w6.cell? ⟨w.heap.size, 2, none⟩ = some (.slice aot nt cat) := (cell_of b6 2).trans rfl; have u0 : w6.cell? ⟨w3.heap.size, 0, none⟩ = some (.int .i64 o1) := (cell_of i6 0).trans rfl; have u4 : w6.cell? ⟨w3.heap.size, 4, none⟩ = some (.int .i64 im) := (cell_of i6 4).trans rfl; have lj := lt_of_block i6; have y6 := HT1.out w6 G6.out; have lf6 := HLF.out w6 G6.out; clear g6 b6 i6) | (go_at_call 51; refine (HIA.out _ G4.out).mono ?_; rintro e w5 ⟨rfl, g5⟩; have G5 := hid (Gr.trans G4.out g5); have b5 := gr_blk BB.out g5; have B5 := hid b5; have i5 := gr_blk BI.out g5; have I5 := hid i5; have ls := lt_of_block b5; have s0 : w5.cell? ⟨w.heap.size, 0, none⟩ = some (.slice (some ⟨g, o, none⟩) nc cac) := (cell_of b5 0).trans rfl; have s1 : w5.cell? ⟨w.heap.size, 1, none⟩ = some (.slice (some ⟨gf, of_, none⟩) nf caf) := (cell_of b5 1).trans rfl; have s2 : w5.cell? ⟨w.heap.size, 2, none⟩ = some (.slice aot nt cat) := (cell_of b5 2).trans rfl; have t0 : w5.cell? ⟨w3.heap.size, 0, none⟩ = some (.int .i64 o1) := (cell_of i5 0).trans rfl; have t4 : w5.cell? ⟨w3.heap.size, 4, none⟩ = some (.int .i64 im) := (cell_of i5 4).trans rfl; have li := lt_of_block i5; have y5 := HT1.out w5 G5.out; have lf5 := HLF.out w5 G5.out; clear g5 b5 i5) | (go_at_call 52; refine (HH.out _ _).mono ?_; rintro e w4 ⟨rfl, hw⟩; have hw := hw.symm; subst hw) | (go_at_call 53; refine (HN.out _ _).mono ?_; rintro e w4 ⟨rfl, hw⟩; have hw := hw.symm; subst hw))
            go_ret
            exact ⟨rfl, G5.out⟩
    | true =>
      by_cases i9 : (nc : Int) ≤ im
      · have j9 : decide ((nc : Int) ≤ im) = true := decide_eq_true i9
        have i8 : y ≤ im := by omega
        clear hix
        have hr : R = 82 := by rw [HR.out]; simp [k1, i8]
        subst hr
        go_enter Tryd.func32, Tryd.ntmps32
        go_wp2_with (first | (go_at_call 10; refine (HD.out _).mono ?_; rintro e w3 ⟨rfl, g3⟩; have G4 := hid (Gr.alloc (Gr.trans K1.out g3) #[.int .i64 o1, .int .i64 o2, .int .i64 o3, .int .i64 o4, .int .i64 im] 37); have b1 := gr_blk B1.out g3; have BB := hid (al_blk b1 (.cells #[.int .i64 o1, .int .i64 o2, .int .i64 o3, .int .i64 o4, .int .i64 im] 37)); have BI := hid (MapKept.heap_alloc w3 (.cells #[.int .i64 o1, .int .i64 o2, .int .i64 o3, .int .i64 o4, .int .i64 im] 37)).1; have lm := lt_of_block b1; have m0 : w3.cell? ⟨w.heap.size, 0, none⟩ = some (.slice (some ⟨g, o, none⟩) nc cac) := (cell_of b1 0).trans rfl; have m1 : w3.cell? ⟨w.heap.size, 1, none⟩ = some (.slice (some ⟨gf, of_, none⟩) nf caf) := (cell_of b1 1).trans rfl; have m2 : w3.cell? ⟨w.heap.size, 2, none⟩ = some (.slice aot nt cat) := (cell_of b1 2).trans rfl; clear g3 b1) | (go_at_call 51; refine (HII.out _ G5.out).mono ?_; rintro e w6 ⟨rfl, g6⟩; have G6 := hid (Gr.trans G5.out g6); have b6 := gr_blk B5.out g6; have i6 := gr_blk I5.out g6; have lv := lt_of_block b6; have v0 : w6.cell? ⟨w.heap.size, 0, none⟩ = some (.slice (some ⟨g, o, none⟩) nc cac) := (cell_of b6 0).trans rfl; have v1 : w6.cell? ⟨w.heap.size, 1, none⟩ = some (.slice (some ⟨gf, of_, none⟩) nf caf) := (cell_of b6 1).trans rfl; have v2 : w6.cell? ⟨w.heap.size, 2, none⟩ = some (.slice aot nt cat) := (cell_of b6 2).trans rfl; have u0 : w6.cell? ⟨w3.heap.size, 0, none⟩ = some (.int .i64 o1) := (cell_of i6 0).trans rfl; have u4 : w6.cell? ⟨w3.heap.size, 4, none⟩ = some (.int .i64 im) := (cell_of i6 4).trans rfl; have lj := lt_of_block i6; have y6 := HT1.out w6 G6.out; have lf6 := HLF.out w6 G6.out; clear g6 b6 i6) | (go_at_call 51; refine (HIA.out _ G4.out).mono ?_; rintro e w5 ⟨rfl, g5⟩; have G5 := hid (Gr.trans G4.out g5); have b5 := gr_blk BB.out g5; have B5 := hid b5; have i5 := gr_blk BI.out g5; have I5 := hid i5; have ls := lt_of_block b5; have s0 : w5.cell? ⟨w.heap.size, 0, none⟩ = some (.slice (some ⟨g, o, none⟩) nc cac) := (cell_of b5 0).trans rfl; have s1 : w5.cell? ⟨w.heap.size, 1, none⟩ = some (.slice (some ⟨gf, of_, none⟩) nf caf) := (cell_of b5 1).trans rfl; have s2 : w5.cell? ⟨w.heap.size, 2, none⟩ = some (.slice aot nt cat) := (cell_of b5 2).trans rfl; have t0 : w5.cell? ⟨w3.heap.size, 0, none⟩ = some (.int .i64 o1) := (cell_of i5 0).trans rfl; have t4 : w5.cell? ⟨w3.heap.size, 4, none⟩ = some (.int .i64 im) := (cell_of i5 4).trans rfl; have li := lt_of_block i5; have y5 := HT1.out w5 G5.out; have lf5 := HLF.out w5 G5.out; clear g5 b5 i5) | (go_at_call 52; refine (HH.out _ _).mono ?_; rintro e w4 ⟨rfl, hw⟩; have hw := hw.symm; subst hw) | (go_at_call 53; refine (HN.out _ _).mono ?_; rintro e w4 ⟨rfl, hw⟩; have hw := hw.symm; subst hw))
        go_ret
        exact ⟨rfl, G5.out⟩
      · have j9 : decide ((nc : Int) ≤ im) = false := decide_eq_false i9
        by_cases i1 : ix = (j : Int)
        · obtain ⟨ia, ib⟩ := hix.1 i1
          have na : ¬ im < x := by omega
          have nb : ¬ y ≤ im := by omega
          subst i1
          clear hix ia ib
          have hop := of_decide_eq_true k1
          have ca : ¬ o1 = 20 := by omega
          have cb : ¬ o1 = 22 := by omega
          have c3 : ¬ o1 = 34 := by omega
          have ca' : (o1 == 20) = false := by simpa using ca
          have cb' : (o1 == 22) = false := by simpa using cb
          have c3' : (o1 == 34) = false := by simpa using c3
          clear hop
          by_cases c4 : (a : Int) = y - 1
          · obtain rfl : y = (a : Int) + 1 := by omega
            clear c4
            cases k4 : en o1 with
            | false =>
              have hr : R = 84 := by rw [HR.out]; simp [k1, na, nb, ca, cb, c3, k4]
              subst hr
              go_enter Tryd.func32, Tryd.ntmps32
              go_wp2_with (first | (go_at_call 10; refine (HD.out _).mono ?_; rintro e w3 ⟨rfl, g3⟩; have G4 := hid (Gr.alloc (Gr.trans K1.out g3) #[.int .i64 o1, .int .i64 o2, .int .i64 o3, .int .i64 o4, .int .i64 im] 37); have b1 := gr_blk B1.out g3; have BB := hid (al_blk b1 (.cells #[.int .i64 o1, .int .i64 o2, .int .i64 o3, .int .i64 o4, .int .i64 im] 37)); have BI := hid (MapKept.heap_alloc w3 (.cells #[.int .i64 o1, .int .i64 o2, .int .i64 o3, .int .i64 o4, .int .i64 im] 37)).1; have lm := lt_of_block b1; have m0 : w3.cell? ⟨w.heap.size, 0, none⟩ = some (.slice (some ⟨g, o, none⟩) nc cac) := (cell_of b1 0).trans rfl; have m1 : w3.cell? ⟨w.heap.size, 1, none⟩ = some (.slice (some ⟨gf, of_, none⟩) nf caf) := (cell_of b1 1).trans rfl; have m2 : w3.cell? ⟨w.heap.size, 2, none⟩ = some (.slice aot nt cat) := (cell_of b1 2).trans rfl; clear g3 b1) | (go_at_call 51; refine (HII.out _ G5.out).mono ?_; rintro e w6 ⟨rfl, g6⟩; have G6 := hid (Gr.trans G5.out g6); have b6 := gr_blk B5.out g6; have i6 := gr_blk I5.out g6; have lv := lt_of_block b6; have v0 : w6.cell? ⟨w.heap.size, 0, none⟩ = some (.slice (some ⟨g, o, none⟩) nc cac) := (cell_of b6 0).trans rfl; have v1 : w6.cell? ⟨w.heap.size, 1, none⟩ = some (.slice (some ⟨gf, of_, none⟩) nf caf) := (cell_of b6 1).trans rfl; have v2 : w6.cell? ⟨w.heap.size, 2, none⟩ = some (.slice aot nt cat) := (cell_of b6 2).trans rfl; have u0 : w6.cell? ⟨w3.heap.size, 0, none⟩ = some (.int .i64 o1) := (cell_of i6 0).trans rfl; have u4 : w6.cell? ⟨w3.heap.size, 4, none⟩ = some (.int .i64 im) := (cell_of i6 4).trans rfl; have lj := lt_of_block i6; have y6 := HT1.out w6 G6.out; have lf6 := HLF.out w6 G6.out; clear g6 b6 i6) | (go_at_call 51; refine (HIA.out _ G4.out).mono ?_; rintro e w5 ⟨rfl, g5⟩; have G5 := hid (Gr.trans G4.out g5); have b5 := gr_blk BB.out g5; have B5 := hid b5; have i5 := gr_blk BI.out g5; have I5 := hid i5; have ls := lt_of_block b5; have s0 : w5.cell? ⟨w.heap.size, 0, none⟩ = some (.slice (some ⟨g, o, none⟩) nc cac) := (cell_of b5 0).trans rfl; have s1 : w5.cell? ⟨w.heap.size, 1, none⟩ = some (.slice (some ⟨gf, of_, none⟩) nf caf) := (cell_of b5 1).trans rfl; have s2 : w5.cell? ⟨w.heap.size, 2, none⟩ = some (.slice aot nt cat) := (cell_of b5 2).trans rfl; have t0 : w5.cell? ⟨w3.heap.size, 0, none⟩ = some (.int .i64 o1) := (cell_of i5 0).trans rfl; have t4 : w5.cell? ⟨w3.heap.size, 4, none⟩ = some (.int .i64 im) := (cell_of i5 4).trans rfl; have li := lt_of_block i5; have y5 := HT1.out w5 G5.out; have lf5 := HLF.out w5 G5.out; clear g5 b5 i5) | (go_at_call 52; refine (HH.out _ _).mono ?_; rintro e w4 ⟨rfl, hw⟩; have hw := hw.symm; subst hw) | (go_at_call 53; refine (HN.out _ _).mono ?_; rintro e w4 ⟨rfl, hw⟩; have hw := hw.symm; subst hw))
              go_ret
              exact ⟨rfl, G6.out⟩
            | true =>
              have hr : R = 0 := by rw [HR.out]; simp [k1, na, nb, ca, cb, c3, k4]
              subst hr
              go_enter Tryd.func32, Tryd.ntmps32
              go_wp2_with (first | (go_at_call 10; refine (HD.out _).mono ?_; rintro e w3 ⟨rfl, g3⟩; have G4 := hid (Gr.alloc (Gr.trans K1.out g3) #[.int .i64 o1, .int .i64 o2, .int .i64 o3, .int .i64 o4, .int .i64 im] 37); have b1 := gr_blk B1.out g3; have BB := hid (al_blk b1 (.cells #[.int .i64 o1, .int .i64 o2, .int .i64 o3, .int .i64 o4, .int .i64 im] 37)); have BI := hid (MapKept.heap_alloc w3 (.cells #[.int .i64 o1, .int .i64 o2, .int .i64 o3, .int .i64 o4, .int .i64 im] 37)).1; have lm := lt_of_block b1; have m0 : w3.cell? ⟨w.heap.size, 0, none⟩ = some (.slice (some ⟨g, o, none⟩) nc cac) := (cell_of b1 0).trans rfl; have m1 : w3.cell? ⟨w.heap.size, 1, none⟩ = some (.slice (some ⟨gf, of_, none⟩) nf caf) := (cell_of b1 1).trans rfl; have m2 : w3.cell? ⟨w.heap.size, 2, none⟩ = some (.slice aot nt cat) := (cell_of b1 2).trans rfl; clear g3 b1) | (go_at_call 51; refine (HII.out _ G5.out).mono ?_; rintro e w6 ⟨rfl, g6⟩; have G6 := hid (Gr.trans G5.out g6); have b6 := gr_blk B5.out g6; have i6 := gr_blk I5.out g6; have lv := lt_of_block b6; have v0 : w6.cell? ⟨w.heap.size, 0, none⟩ = some (.slice (some ⟨g, o, none⟩) nc cac) := (cell_of b6 0).trans rfl; have v1 : w6.cell? ⟨w.heap.size, 1, none⟩ = some (.slice (some ⟨gf, of_, none⟩) nf caf) := (cell_of b6 1).trans rfl; have v2 : w6.cell? ⟨w.heap.size, 2, none⟩ = some (.slice aot nt cat) := (cell_of b6 2).trans rfl; have u0 : w6.cell? ⟨w3.heap.size, 0, none⟩ = some (.int .i64 o1) := (cell_of i6 0).trans rfl; have u4 : w6.cell? ⟨w3.heap.size, 4, none⟩ = some (.int .i64 im) := (cell_of i6 4).trans rfl; have lj := lt_of_block i6; have y6 := HT1.out w6 G6.out; have lf6 := HLF.out w6 G6.out; clear g6 b6 i6) | (go_at_call 51; refine (HIA.out _ G4.out).mono ?_; rintro e w5 ⟨rfl, g5⟩; have G5 := hid (Gr.trans G4.out g5); have b5 := gr_blk BB.out g5; have B5 := hid b5; have i5 := gr_blk BI.out g5; have I5 := hid i5; have ls := lt_of_block b5; have s0 : w5.cell? ⟨w.heap.size, 0, none⟩ = some (.slice (some ⟨g, o, none⟩) nc cac) := (cell_of b5 0).trans rfl; have s1 : w5.cell? ⟨w.heap.size, 1, none⟩ = some (.slice (some ⟨gf, of_, none⟩) nf caf) := (cell_of b5 1).trans rfl; have s2 : w5.cell? ⟨w.heap.size, 2, none⟩ = some (.slice aot nt cat) := (cell_of b5 2).trans rfl; have t0 : w5.cell? ⟨w3.heap.size, 0, none⟩ = some (.int .i64 o1) := (cell_of i5 0).trans rfl; have t4 : w5.cell? ⟨w3.heap.size, 4, none⟩ = some (.int .i64 im) := (cell_of i5 4).trans rfl; have li := lt_of_block i5; have y5 := HT1.out w5 G5.out; have lf5 := HLF.out w5 G5.out; clear g5 b5 i5) | (go_at_call 52; refine (HH.out _ _).mono ?_; rintro e w4 ⟨rfl, hw⟩; have hw := hw.symm; subst hw) | (go_at_call 53; refine (HN.out _ _).mono ?_; rintro e w4 ⟨rfl, hw⟩; have hw := hw.symm; subst hw))
              go_ret
              exact ⟨rfl, G6.out⟩
          · have c4' : ((a : Int) == y - 1) = false := by simpa using c4
            have hr : R = 0 := by rw [HR.out]; simp [k1, na, nb, ca, cb, c3, c4]
            subst hr
            go_enter Tryd.func32, Tryd.ntmps32
            go_wp2_with (first | (go_at_call 10; refine (HD.out _).mono ?_; rintro e w3 ⟨rfl, g3⟩; have G4 := hid (Gr.alloc (Gr.trans K1.out g3) #[.int .i64 o1, .int .i64 o2, .int .i64 o3, .int .i64 o4, .int .i64 im] 37); have b1 := gr_blk B1.out g3; have BB := hid (al_blk b1 (.cells #[.int .i64 o1, .int .i64 o2, .int .i64 o3, .int .i64 o4, .int .i64 im] 37)); have BI := hid (MapKept.heap_alloc w3 (.cells #[.int .i64 o1, .int .i64 o2, .int .i64 o3, .int .i64 o4, .int .i64 im] 37)).1; have lm := lt_of_block b1; have m0 : w3.cell? ⟨w.heap.size, 0, none⟩ = some (.slice (some ⟨g, o, none⟩) nc cac) := (cell_of b1 0).trans rfl; have m1 : w3.cell? ⟨w.heap.size, 1, none⟩ = some (.slice (some ⟨gf, of_, none⟩) nf caf) := (cell_of b1 1).trans rfl; have m2 : w3.cell? ⟨w.heap.size, 2, none⟩ = some (.slice aot nt cat) := (cell_of b1 2).trans rfl; clear g3 b1) | (go_at_call 51; refine (HII.out _ G5.out).mono ?_; rintro e w6 ⟨rfl, g6⟩; have G6 := hid (Gr.trans G5.out g6); have b6 := gr_blk B5.out g6; have i6 := gr_blk I5.out g6; have lv := lt_of_block b6; have v0 : w6.cell? ⟨w.heap.size, 0, none⟩ = some (.slice (some ⟨g, o, none⟩) nc cac) := (cell_of b6 0).trans rfl; have v1 : w6.cell? ⟨w.heap.size, 1, none⟩ = some (.slice (some ⟨gf, of_, none⟩) nf caf) := (cell_of b6 1).trans rfl; have v2 : w6.cell? ⟨w.heap.size, 2, none⟩ = some (.slice aot nt cat) := (cell_of b6 2).trans rfl; have u0 : w6.cell? ⟨w3.heap.size, 0, none⟩ = some (.int .i64 o1) := (cell_of i6 0).trans rfl; have u4 : w6.cell? ⟨w3.heap.size, 4, none⟩ = some (.int .i64 im) := (cell_of i6 4).trans rfl; have lj := lt_of_block i6; have y6 := HT1.out w6 G6.out; have lf6 := HLF.out w6 G6.out; clear g6 b6 i6) | (go_at_call 51; refine (HIA.out _ G4.out).mono ?_; rintro e w5 ⟨rfl, g5⟩; have G5 := hid (Gr.trans G4.out g5); have b5 := gr_blk BB.out g5; have B5 := hid b5; have i5 := gr_blk BI.out g5; have I5 := hid i5; have ls := lt_of_block b5; have s0 : w5.cell? ⟨w.heap.size, 0, none⟩ = some (.slice (some ⟨g, o, none⟩) nc cac) := (cell_of b5 0).trans rfl; have s1 : w5.cell? ⟨w.heap.size, 1, none⟩ = some (.slice (some ⟨gf, of_, none⟩) nf caf) := (cell_of b5 1).trans rfl; have s2 : w5.cell? ⟨w.heap.size, 2, none⟩ = some (.slice aot nt cat) := (cell_of b5 2).trans rfl; have t0 : w5.cell? ⟨w3.heap.size, 0, none⟩ = some (.int .i64 o1) := (cell_of i5 0).trans rfl; have t4 : w5.cell? ⟨w3.heap.size, 4, none⟩ = some (.int .i64 im) := (cell_of i5 4).trans rfl; have li := lt_of_block i5; have y5 := HT1.out w5 G5.out; have lf5 := HLF.out w5 G5.out; clear g5 b5 i5) | (go_at_call 52; refine (HH.out _ _).mono ?_; rintro e w4 ⟨rfl, hw⟩; have hw := hw.symm; subst hw) | (go_at_call 53; refine (HN.out _ _).mono ?_; rintro e w4 ⟨rfl, hw⟩; have hw := hw.symm; subst hw))
            go_ret
            exact ⟨rfl, G6.out⟩
        · have hno : im < x ∨ y ≤ im := by
            rcases Int.lt_or_le im x with q | q
            · exact .inl q
            · rcases Int.lt_or_le im y with q2 | q2
              · exact absurd (hix.2 ⟨q, q2⟩) i1
              · exact .inr q2
          have i1' : (ix == (j : Int)) = false := by simpa using i1
          clear hix
          have HNO := hid hno
          clear hno
          have hr : R = 82 := by rw [HR.out]; have hno := HNO.out; simp [k1, hno]
          subst hr
          go_enter Tryd.func32, Tryd.ntmps32
          go_wp2_with (first | (go_at_call 10; refine (HD.out _).mono ?_; rintro e w3 ⟨rfl, g3⟩; have G4 := hid (Gr.alloc (Gr.trans K1.out g3) #[.int .i64 o1, .int .i64 o2, .int .i64 o3, .int .i64 o4, .int .i64 im] 37); have b1 := gr_blk B1.out g3; have BB := hid (al_blk b1 (.cells #[.int .i64 o1, .int .i64 o2, .int .i64 o3, .int .i64 o4, .int .i64 im] 37)); have BI := hid (MapKept.heap_alloc w3 (.cells #[.int .i64 o1, .int .i64 o2, .int .i64 o3, .int .i64 o4, .int .i64 im] 37)).1; have lm := lt_of_block b1; have m0 : w3.cell? ⟨w.heap.size, 0, none⟩ = some (.slice (some ⟨g, o, none⟩) nc cac) := (cell_of b1 0).trans rfl; have m1 : w3.cell? ⟨w.heap.size, 1, none⟩ = some (.slice (some ⟨gf, of_, none⟩) nf caf) := (cell_of b1 1).trans rfl; have m2 : w3.cell? ⟨w.heap.size, 2, none⟩ = some (.slice aot nt cat) := (cell_of b1 2).trans rfl; clear g3 b1) | (go_at_call 51; refine (HII.out _ G5.out).mono ?_; rintro e w6 ⟨rfl, g6⟩; have G6 := hid (Gr.trans G5.out g6); have b6 := gr_blk B5.out g6; have i6 := gr_blk I5.out g6; have lv := lt_of_block b6; have v0 : w6.cell? ⟨w.heap.size, 0, none⟩ = some (.slice (some ⟨g, o, none⟩) nc cac) := (cell_of b6 0).trans rfl; have v1 : w6.cell? ⟨w.heap.size, 1, none⟩ = some (.slice (some ⟨gf, of_, none⟩) nf caf) := (cell_of b6 1).trans rfl; have v2 : w6.cell? ⟨w.heap.size, 2, none⟩ = some (.slice aot nt cat) := (cell_of b6 2).trans rfl; have u0 : w6.cell? ⟨w3.heap.size, 0, none⟩ = some (.int .i64 o1) := (cell_of i6 0).trans rfl; have u4 : w6.cell? ⟨w3.heap.size, 4, none⟩ = some (.int .i64 im) := (cell_of i6 4).trans rfl; have lj := lt_of_block i6; have y6 := HT1.out w6 G6.out; have lf6 := HLF.out w6 G6.out; clear g6 b6 i6) | (go_at_call 51; refine (HIA.out _ G4.out).mono ?_; rintro e w5 ⟨rfl, g5⟩; have G5 := hid (Gr.trans G4.out g5); have b5 := gr_blk BB.out g5; have B5 := hid b5; have i5 := gr_blk BI.out g5; have I5 := hid i5; have ls := lt_of_block b5; have s0 : w5.cell? ⟨w.heap.size, 0, none⟩ = some (.slice (some ⟨g, o, none⟩) nc cac) := (cell_of b5 0).trans rfl; have s1 : w5.cell? ⟨w.heap.size, 1, none⟩ = some (.slice (some ⟨gf, of_, none⟩) nf caf) := (cell_of b5 1).trans rfl; have s2 : w5.cell? ⟨w.heap.size, 2, none⟩ = some (.slice aot nt cat) := (cell_of b5 2).trans rfl; have t0 : w5.cell? ⟨w3.heap.size, 0, none⟩ = some (.int .i64 o1) := (cell_of i5 0).trans rfl; have t4 : w5.cell? ⟨w3.heap.size, 4, none⟩ = some (.int .i64 im) := (cell_of i5 4).trans rfl; have li := lt_of_block i5; have y5 := HT1.out w5 G5.out; have lf5 := HLF.out w5 G5.out; clear g5 b5 i5) | (go_at_call 52; refine (HH.out _ _).mono ?_; rintro e w4 ⟨rfl, hw⟩; have hw := hw.symm; subst hw) | (go_at_call 53; refine (HN.out _ _).mono ?_; rintro e w4 ⟨rfl, hw⟩; have hw := hw.symm; subst hw))
          go_ret
          exact ⟨rfl, G6.out⟩
  · have hE' : (E == 0) = false := by simpa using hE
    clear hix HII
    have hr : R = 80 := by rw [HR.out]; simp [hE]
    subst hr
    go_enter Tryd.func32, Tryd.ntmps32
    go_wp2_with (first | (go_at_call 10; refine (HD.out _).mono ?_; rintro e w3 ⟨rfl, g3⟩; have G4 := hid (Gr.alloc (Gr.trans K1.out g3) #[.int .i64 o1, .int .i64 o2, .int .i64 o3, .int .i64 o4, .int .i64 im] 37); have b1 := gr_blk B1.out g3; have BB := hid (al_blk b1 (.cells #[.int .i64 o1, .int .i64 o2, .int .i64 o3, .int .i64 o4, .int .i64 im] 37)); have BI := hid (MapKept.heap_alloc w3 (.cells #[.int .i64 o1, .int .i64 o2, .int .i64 o3, .int .i64 o4, .int .i64 im] 37)).1; have lm := lt_of_block b1; have m0 : w3.cell? ⟨w.heap.size, 0, none⟩ = some (.slice (some ⟨g, o, none⟩) nc cac) := (cell_of b1 0).trans rfl; have m1 : w3.cell? ⟨w.heap.size, 1, none⟩ = some (.slice (some ⟨gf, of_, none⟩) nf caf) := (cell_of b1 1).trans rfl; have m2 : w3.cell? ⟨w.heap.size, 2, none⟩ = some (.slice aot nt cat) := (cell_of b1 2).trans rfl; clear g3 b1) | (go_at_call 51; refine (HII.out _ G5.out).mono ?_; rintro e w6 ⟨rfl, g6⟩; have G6 := hid (Gr.trans G5.out g6); have b6 := gr_blk B5.out g6; have i6 := gr_blk I5.out g6; have lv := lt_of_block b6; have v0 : w6.cell? ⟨w.heap.size, 0, none⟩ = some (.slice (some ⟨g, o, none⟩) nc cac) := (cell_of b6 0).trans rfl; have v1 : w6.cell? ⟨w.heap.size, 1, none⟩ = some (.slice (some ⟨gf, of_, none⟩) nf caf) := (cell_of b6 1).trans rfl; have v2 : w6.cell? ⟨w.heap.size, 2, none⟩ = some (.slice aot nt cat) := (cell_of b6 2).trans rfl; have u0 : w6.cell? ⟨w3.heap.size, 0, none⟩ = some (.int .i64 o1) := (cell_of i6 0).trans rfl; have u4 : w6.cell? ⟨w3.heap.size, 4, none⟩ = some (.int .i64 im) := (cell_of i6 4).trans rfl; have lj := lt_of_block i6; have y6 := HT1.out w6 G6.out; have lf6 := HLF.out w6 G6.out; clear g6 b6 i6) | (go_at_call 51; refine (HIA.out _ G4.out).mono ?_; rintro e w5 ⟨rfl, g5⟩; have G5 := hid (Gr.trans G4.out g5); have b5 := gr_blk BB.out g5; have B5 := hid b5; have i5 := gr_blk BI.out g5; have I5 := hid i5; have ls := lt_of_block b5; have s0 : w5.cell? ⟨w.heap.size, 0, none⟩ = some (.slice (some ⟨g, o, none⟩) nc cac) := (cell_of b5 0).trans rfl; have s1 : w5.cell? ⟨w.heap.size, 1, none⟩ = some (.slice (some ⟨gf, of_, none⟩) nf caf) := (cell_of b5 1).trans rfl; have s2 : w5.cell? ⟨w.heap.size, 2, none⟩ = some (.slice aot nt cat) := (cell_of b5 2).trans rfl; have t0 : w5.cell? ⟨w3.heap.size, 0, none⟩ = some (.int .i64 o1) := (cell_of i5 0).trans rfl; have t4 : w5.cell? ⟨w3.heap.size, 4, none⟩ = some (.int .i64 im) := (cell_of i5 4).trans rfl; have li := lt_of_block i5; have y5 := HT1.out w5 G5.out; have lf5 := HLF.out w5 G5.out; clear g5 b5 i5) | (go_at_call 52; refine (HH.out _ _).mono ?_; rintro e w4 ⟨rfl, hw⟩; have hw := hw.symm; subst hw) | (go_at_call 53; refine (HN.out _ _).mono ?_; rintro e w4 ⟨rfl, hw⟩; have hw := hw.symm; subst hw))
    go_ret
    exact ⟨rfl, G4.out⟩
end Go.Proofs.YtollfepggicehabDoor.Lt
