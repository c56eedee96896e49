/-
  What the program's checkWords and Check answer. Conditions: the tables lie where they lie; words are words.
-/
import Derived.Test.YtollfepggicehabDoorPpTabs
import Derived.Test.YtollfepggicehabDoorPpFuncs
namespace Go.Proofs.YtollfepggicehabDoor.Lt
open Go.RowKit Wd

/-- what is wrong with word a of a function -/
def wA (cs : List Int) (nf nt : Nat) (f : Int × Int) (a : Nat) : Int := match cs[a]? with | some x => wE nf nt f (a : Nat) x | none => 0
/-- the first word that is wrong, function by function -/
def wF (cs : List Int) (nf nt : Nat) : List (Int × Int) → Int × Int
  | [] => (0, 0)
  | f :: r => if (fR (wA cs nf nt f) f.1.toNat f.2.toNat).2 = 0 then wF cs nf nt r else fR (wA cs nf nt f) f.1.toNat f.2.toNat
theorem wF_cons {cs : List Int} {nf nt : Nat} {fs : List (Int × Int)} {j : Nat} {f : Int × Int} (h : fs[j]? = some f) : wF cs nf nt (fs.drop j) = if (fR (wA cs nf nt f) f.1.toNat f.2.toNat).2 = 0 then wF cs nf nt (fs.drop (j + 1)) else fR (wA cs nf nt f) f.1.toNat f.2.toNat := by
  obtain ⟨h1, h2⟩ := List.getElem?_eq_some_iff.1 h
  rw [List.drop_eq_getElem_cons h1, h2]
  rfl
/-- each function lies within the code -/
def Inn (fs : List (Int × Int)) (nc : Nat) : Prop := ∀ f ∈ fs, 0 ≤ f.1 ∧ f.1 < f.2 ∧ f.2 ≤ (nc : Int)
theorem wordsC_any (P : Nat → Prop) (w : World) (X Y : Nat) (aoc aof aot : Option Addr) (nc nf nt cac caf cat : Nat) (cs : List Int) (x y : Nat) (hX : w.heap[X]? = some (.cells #[.slice aoc nc cac, .slice aof nf caf, .slice aot nt cat] 26 (0, 0))) (hY : w.heap[Y]? = some (.cells #[.int .i64 (x : Nat), .int .i64 (y : Nat)] 45 (0, 0))) (h : Ls eU P w (.slice aoc nc cac) cs) (hu : U32s cs) (hg : Glb w) (hy : y ≤ nc) (hl : nc ≤ 4398046511104) (n : Nat) (hn : n < y) :
    Calls Tryd.prog 48 #[.int .i64 (n : Nat), .pointer (some ⟨X, 0, none⟩), .pointer (some ⟨Y, 0, none⟩)] w fun e w' => e = .returned (.int .i64 (wA cs nf nt ((x : Nat), (y : Nat)) n)) ∧ Gr w w' := by
  obtain ⟨m, hx⟩ : ∃ f, cs[n]? = some f := ⟨_, List.getElem?_eq_getElem (by rw [← h.len.1]; omega)⟩
  have e : wA cs nf nt ((x : Nat), (y : Nat)) n = wE nf nt ((x : Nat), (y : Nat)) (n : Nat) m := by unfold wA; rw [hx]
  rw [e]
  have HW := hid (fun (W : World) (p : Gr w W) => checkWord_any P W aoc aof aot nc nf nt cac caf cat cs (h.gr p) hu (hg.gr p) (x : Nat) (y : Nat) ⟨by omega, by omega⟩ n m hx)
  generalize wE nf nt ((x : Nat), (y : Nat)) (n : Nat) m = R at HW ⊢
  have p0 : w.cell? ⟨X, 0, none⟩ = some (.slice aoc nc cac) := (cell_of hX 0).trans rfl
  have p1 : w.cell? ⟨X, 1, none⟩ = some (.slice aof nf caf) := (cell_of hX 1).trans rfl
  have p2 : w.cell? ⟨X, 2, none⟩ = some (.slice aot nt cat) := (cell_of hX 2).trans rfl
  have f0 : w.cell? ⟨Y, 0, none⟩ = some (.int .i64 (x : Nat)) := (cell_of hY 0).trans rfl
  have f1 : w.cell? ⟨Y, 1, none⟩ = some (.int .i64 (y : Nat)) := (cell_of hY 1).trans rfl
  clear e hx hu hg h hX hY
  go_enter Tryd.func48, Tryd.ntmps48
  go_wp2_with (go_at_call 49; refine (HW.out _ (Gr.refl _)).mono ?_; rintro e w1 ⟨rfl, g1⟩)
  go_ret
  exact ⟨rfl, g1⟩

set_option maxHeartbeats 1000000 in
set_option maxRecDepth 20000 in
theorem checkWords_any (P : Nat → Prop) (w : World) (vc vf vt : Value) (cs : List Int) (fs : List (Int × Int)) (ts : List Tb) (h : Pin P w vc vf vt cs fs ts) (hcl : cs.length ≤ 4398046511104) (hfl : fs.length ≤ 4398046511104) (hi : Inn fs cs.length) (hu : U32s cs) (hg : Glb w) :
    Calls Tryd.prog 29 #[.agg #[vc, vf, vt]] w fun e w' => e = .returned (.tuple #[.int .i64 (wF cs fs.length ts.length fs).1, .int .i64 (wF cs fs.length ts.length fs).2]) ∧ Gr w w' := by
  obtain ⟨aoc, cac, hia⟩ := h.c.form
  obtain ⟨aof, caf, hib⟩ := h.f.form
  obtain ⟨aot, cat, hic⟩ := h.t.form
  have HC := hid h.c
  have HF := hid h.f
  have HU := hid hu
  have HG := hid hg
  have HI := hid hi
  obtain ⟨A, hA⟩ : ∃ x, x = (wF cs fs.length ts.length fs).1 := ⟨_, rfl⟩
  obtain ⟨B, hB⟩ : ∃ x, x = (wF cs fs.length ts.length fs).2 := ⟨_, rfl⟩
  rw [← hA, ← hB]
  obtain ⟨nc, hnc⟩ : ∃ n, n = cs.length := ⟨_, rfl⟩
  obtain ⟨nf, hnf⟩ : ∃ n, n = fs.length := ⟨_, rfl⟩
  generalize ts.length = nt at hic hA hB
  rw [← hnf] at hA hB hib hfl
  rw [← hnc] at hia hcl HI
  have HA := hid hA
  have HB := hid hB
  have HNF := hid hnf
  subst hia hib hic
  have K1 := hid (Gr.alloc (Gr.refl w) #[.slice aoc nc cac, .slice aof nf caf, .slice aot nt cat] 26)
  have B1 := hid (MapKept.heap_alloc w (.cells #[.slice aoc nc cac, .slice aof nf caf, .slice aot nt cat] 26)).1
  clear h hu hg hi hA hB hnc hnf
  go_enter Tryd.func29, Tryd.ntmps29
  go_wp2_with fail
  go_loopg [11] nf (fun m i wq => ∃ j : Nat, j + m = nf ∧ i = .int .i64 ((j : Nat) : Int) ∧ wF cs nf nt fs = wF cs nf nt (fs.drop j) ∧ Gr w wq ∧ wq.heap[w.heap.size]? = some (.cells #[.slice aoc nc cac, .slice aof nf caf, .slice aot nt cat] 26 (0, 0)))
  case atStart => exact ⟨0, by omega, rfl, rfl, K1.out, B1.out⟩
  case round =>
    clear K1 B1
    obtain ⟨j, hjk, rfl, hw, hgr, hbk⟩ := hrel
    have HW := hid hw
    have HR := hid hgr
    have HK := hid hbk
    have lk := lt_of_block hbk
    clear hw hgr hbk
    by_cases hj : j < nf
    · obtain ⟨⟨x1, x2⟩, hx⟩ : ∃ f, fs[j]? = some f := ⟨_, List.getElem?_eq_getElem (by rw [← HNF.out]; exact hj)⟩
      obtain ⟨i0, i1, i2⟩ := HI.out _ (List.mem_of_getElem? hx)
      simp only at i0 i1 i2
      obtain ⟨x, rfl⟩ : ∃ y : Nat, x1 = (y : Nat) := ⟨x1.toNat, by omega⟩
      obtain ⟨y, rfl⟩ : ∃ y : Nat, x2 = (y : Nat) := ⟨x2.toNat, by omega⟩
      have HX := hid (wF_cons (cs := cs) (nf := nf) (nt := nt) hx)
      simp only [Int.toNat_natCast] at HX
      obtain ⟨g, o, cap', hv, _, hgl, _, hcs⟩ := HF.out.get eG_len hx
      injection hv with hv1 hv2 hv3
      subst hv1
      have c0 := (HR.out.cell hgl).trans (hcs 0 _ rfl)
      have c1 := (HR.out.cell hgl).trans (hcs 1 _ rfl)
      rw [Nat.add_zero] at c0
      have gs := HR.out.size
      have lg : g < wr.heap.size := by omega
      have j0 : (0 : Int) ≤ (j : Int) := by omega
      have j1 : (j : Int) < (nf : Int) := by omega
      have hyn : y ≤ nc := by omega
      have KA := hid (Gr.alloc HR.out #[.int .i64 (x : Nat), .int .i64 (y : Nat)] 45)
      have BA := hid (MapKept.heap_alloc wr (.cells #[.int .i64 (x : Nat), .int .i64 (y : Nat)] 45)).1
      have BK := hid (al_blk HK.out (.cells #[.int .i64 (x : Nat), .int .i64 (y : Nat)] 45))
      have HFI := hid (fun (W : World) (p : Gr w W) (Y : Nat) (q : W.heap[w.heap.size]? = some (.cells #[.slice aoc nc cac, .slice (some ⟨g, o, none⟩) nf caf, .slice aot nt cat] 26 (0, 0))) (r : W.heap[Y]? = some (.cells #[.int .i64 (x : Nat), .int .i64 (y : Nat)] 45 (0, 0))) => first_words W w.heap.size Y x y (by omega) (wA cs nf nt ((x : Nat), (y : Nat))) (fun n W2 _ n2 p2 => wordsC_any P W2 w.heap.size Y aoc _ aot nc nf nt cac caf cat cs x y (gr_blk q p2) (gr_blk r p2) (HC.out.gr (Gr.trans p p2)) HU.out (HG.out.gr (Gr.trans p p2)) hyn hcl n n2))
      generalize fR (wA cs nf nt ((x : Nat), (y : Nat))) x y = r at HFI HX
      obtain ⟨r1, r2⟩ := r
      simp only at HFI HX
      clear hv2 hv3 hcs hx hgl i0 i1 i2
      by_cases h2 : r2 = 0
      · subst h2
        have HY := hid (show wF cs nf nt fs = wF cs nf nt (fs.drop (j + 1)) by rw [HW.out, HX.out]; simp)
        go_wp2_with (go_at_call 42; refine (HFI.out _ KA.out _ BK.out BA.out).mono ?_; rintro e w1 ⟨rfl, g1⟩; have G1 := hid (Gr.trans KA.out g1); have K2 := hid (gr_blk BK.out g1); clear g1)
        go_roundg (gk - 1)
        case measure => omega
        case rel => exact ⟨j + 1, by omega, by simp, HY.out, G1.out, K2.out⟩
      · have h2' : (r2 == 0) = false := by simpa using h2
        have ha : A = r1 := by rw [HA.out, HW.out, HX.out, if_neg h2]
        have hb : B = r2 := by rw [HB.out, HW.out, HX.out, if_neg h2]
        subst ha hb
        go_wp2_with (go_at_call 42; refine (HFI.out _ KA.out _ BK.out BA.out).mono ?_; rintro e w1 ⟨rfl, g1⟩; have G1 := hid (Gr.trans KA.out g1); clear g1)
        go_ret2
        exact ⟨rfl, G1.out⟩
    · have jn : ¬ (j : Int) < (nf : Int) := by omega
      have hd : fs.drop j = [] := by rw [show j = fs.length by rw [← HNF.out]; omega]; exact List.drop_length
      have ha : A = 0 := by rw [HA.out, HW.out, hd]; rfl
      have hb : B = 0 := by rw [HB.out, HW.out, hd]; rfl
      subst ha hb
      clear hd
      go_wp2
      go_ret2
      exact ⟨rfl, HR.out⟩

/-- what Check answers -/
def chk (cs : List Int) (fs : List (Int × Int)) (ts : List Tb) : Int × Int :=
  if 4096 < cs.length ∨ 256 < fs.length ∨ 256 < ts.length then (0, 2) else if (cF fs cs.length).2 ≠ 0 then cF fs cs.length else if (fR (tE ts) 0 ts.length).2 ≠ 0 then fR (tE ts) 0 ts.length else wF cs fs.length ts.length fs
theorem cF_in {fs : List (Int × Int)} {nc : Nat} (h : (cF fs nc).2 = 0) : Inn fs nc ∧ fs.length ≠ 0 ∧ eA fs fs.length = (nc : Int) ∧ ∀ n, n < fs.length → fB fs nc n = 0 := by
  unfold cF at h
  split at h
  · cases h
  · rename_i hn
    have h1 : ∀ n, n < fs.length → fB fs nc n = 0 := fun n hl => by
      rcases Nat.lt_or_ge 0 1 with _ | _
      · by_cases q : ∃ m, m < fs.length ∧ fB fs nc m ≠ 0
        · exfalso
          have hex : ∃ m, m < fs.length ∧ fB fs nc m ≠ 0 ∧ ∀ l, l < m → fB fs nc l = 0 := by
            obtain ⟨m, hm⟩ := q
            induction m using Nat.strongRecOn with
            | ind m ih =>
              by_cases q2 : ∃ l, l < m ∧ fB fs nc l ≠ 0
              · obtain ⟨l, l1, l2⟩ := q2
                exact ih l l1 ⟨by omega, l2⟩
              · exact ⟨m, hm.1, hm.2, fun l hl => Classical.byContradiction (fun e => q2 ⟨l, hl, e⟩)⟩
          obtain ⟨m, m1, m2, m3⟩ := hex
          rw [fR_at (ef := fB fs nc) (Nat.zero_le m) m1 (fun l _ q => m3 l q) m2] at h
          exact m2 h
        · exact Classical.byContradiction (fun e => q ⟨n, hl, e⟩)
      · omega
    have h2 : fs.length ≠ 0 ∧ eA fs fs.length = (nc : Int) := by
      refine ⟨fun e => hn ⟨h, .inl e⟩, Classical.byContradiction (fun e => hn ⟨h, .inr e⟩)⟩
    have hb : ∀ (n : Nat) (f : Int × Int), fs[n]? = some f → f.1 = eA fs n ∧ f.1 < f.2 ∧ f.2 ≤ (nc : Int) := fun n f hf => by
      have h3 := h1 n (List.getElem?_eq_some_iff.1 hf).1
      unfold fB at h3
      rw [hf] at h3
      simp only [Option.getD_some] at h3
      split at h3
      · cases h3
      · rename_i q
        refine ⟨?_, ?_, ?_⟩
        · exact Classical.byContradiction (fun e => q (.inl e))
        · have : ¬ f.2 ≤ f.1 := fun e => q (.inr (.inl e))
          omega
        · have : ¬ (nc : Int) < f.2 := fun e => q (.inr (.inr e))
          omega
    have h0 : ∀ (n : Nat) (f : Int × Int), fs[n]? = some f → 0 ≤ f.1 := by
      intro n
      induction n with
      | zero => intro f hf; have := (hb 0 f hf).1; unfold eA at this; simp at this; omega
      | succ n ih =>
        intro f hf
        have h4 := (hb (n + 1) f hf).1
        have hl : n < fs.length := by have := (List.getElem?_eq_some_iff.1 hf).1; omega
        obtain ⟨g, hg⟩ : ∃ g, fs[n]? = some g := ⟨_, List.getElem?_eq_getElem hl⟩
        have h5 := ih g hg
        have h6 := (hb n g hg).2.1
        unfold eA at h4
        rw [if_neg (by omega), show n + 1 - 1 = n by omega, hg] at h4
        simp only [Option.getD_some] at h4
        omega
    refine ⟨fun f hf => ?_, h2.1, h2.2, h1⟩
    obtain ⟨n, hn⟩ := List.getElem?_of_mem hf
    exact ⟨h0 n f hn, (hb n f hn).2.1, (hb n f hn).2.2⟩

set_option maxHeartbeats 1000000 in
set_option maxRecDepth 20000 in
theorem check_any (P : Nat → Prop) (w : World) (vc vf vt : Value) (cs : List Int) (fs : List (Int × Int)) (ts : List Tb) (h : Pin P w vc vf vt cs fs ts) (hu : U32s cs) (hg : Glb w) :
    Calls Tryd.prog 12 #[.agg #[vc, vf, vt]] w fun e w' => e = .returned (.tuple #[.int .i64 (chk cs fs ts).1, .int .i64 (chk cs fs ts).2]) ∧ Gr w w' := by
  have HFU := hid (fun (W : World) (p : Gr w W) q => checkFuncs_any P W vc vf vt cs fs ts (h.gr p) q)
  have HTA := hid (fun (W : World) (p : Gr w W) q => checkTables_any P W vc vf vt cs fs ts (h.gr p) q)
  have HWO := hid (fun (W : World) (p : Gr w W) q1 q2 q3 => checkWords_any P W vc vf vt cs fs ts (h.gr p) q1 q2 q3 hu (hg.gr p))
  have HIN := hid (fun (q : (cF fs cs.length).2 = 0) => (cF_in q).1)
  obtain ⟨aoc, cac, hia⟩ := h.c.form
  obtain ⟨aof, caf, hib⟩ := h.f.form
  obtain ⟨aot, cat, hic⟩ := h.t.form
  obtain ⟨A, hA⟩ : ∃ x, x = (chk cs fs ts).1 := ⟨_, rfl⟩
  obtain ⟨B, hB⟩ : ∃ x, x = (chk cs fs ts).2 := ⟨_, rfl⟩
  rw [← hA, ← hB]
  unfold chk at hA hB
  generalize cF fs cs.length = F at HFU HIN hA hB
  generalize fR (tE ts) 0 ts.length = T at HTA hA hB
  generalize wF cs fs.length ts.length fs = W0 at HWO hA hB
  generalize cs.length = nc at hia hA hB HIN HWO
  generalize fs.length = nf at hib hA hB HFU HWO
  generalize ts.length = nt at hic hA hB HTA
  obtain ⟨F1, F2⟩ := F
  obtain ⟨T1, T2⟩ := T
  obtain ⟨W1, W2⟩ := W0
  simp only at HFU HTA HWO HIN hA hB
  have HA := hid hA
  have HB := hid hB
  subst hia hib hic
  have K1 := hid (Gr.alloc (Gr.refl w) #[.slice aoc nc cac, .slice aof nf caf, .slice aot nt cat] 26)
  have B1 := hid (MapKept.heap_alloc w (.cells #[.slice aoc nc cac, .slice aof nf caf, .slice aot nt cat] 26)).1
  clear h hu hg hA hB
  by_cases h1 : 4096 < nc
  · have i1 : (4096 : Int) < (nc : Int) := by omega
    have d1 : decide ((4096 : Int) < (nc : Int)) = true := decide_eq_true i1
    have ha : A = 0 := by rw [HA.out]; simp [h1]
    have hb : B = 2 := by rw [HB.out]; simp [h1]
    subst ha hb
    go_enter Tryd.func12, Tryd.ntmps12
    go_wp2_with fail
    go_ret2
    exact ⟨rfl, K1.out⟩
  · have i1 : ¬ (4096 : Int) < (nc : Int) := by omega
    have d1 : decide ((4096 : Int) < (nc : Int)) = false := decide_eq_false i1
    by_cases h2 : 256 < nf
    · have i2 : (256 : Int) < (nf : Int) := by omega
      have d2 : decide ((256 : Int) < (nf : Int)) = true := decide_eq_true i2
      have ha : A = 0 := by rw [HA.out]; simp [h1, h2]
      have hb : B = 2 := by rw [HB.out]; simp [h1, h2]
      subst ha hb
      go_enter Tryd.func12, Tryd.ntmps12
      go_wp2_with fail
      go_ret2
      exact ⟨rfl, K1.out⟩
    · have i2 : ¬ (256 : Int) < (nf : Int) := by omega
      have d2 : decide ((256 : Int) < (nf : Int)) = false := decide_eq_false i2
      by_cases h3 : 256 < nt
      · have i3 : (256 : Int) < (nt : Int) := by omega
        have d3 : decide ((256 : Int) < (nt : Int)) = true := decide_eq_true i3
        have ha : A = 0 := by rw [HA.out]; simp [h1, h2, h3]
        have hb : B = 2 := by rw [HB.out]; simp [h1, h2, h3]
        subst ha hb
        go_enter Tryd.func12, Tryd.ntmps12
        go_wp2_with fail
        go_ret2
        exact ⟨rfl, K1.out⟩
      · have i3 : ¬ (256 : Int) < (nt : Int) := by omega
        have d3 : decide ((256 : Int) < (nt : Int)) = false := decide_eq_false i3
        by_cases k1 : F2 = 0
        · subst k1
          by_cases k2 : T2 = 0
          · subst k2
            have ha : A = W1 := by rw [HA.out]; simp [h1, h2, h3]
            have hb : B = W2 := by rw [HB.out]; simp [h1, h2, h3]
            subst ha hb
            go_enter Tryd.func12, Tryd.ntmps12
            go_wp2_with (first | (go_at_call 27; refine (HFU.out _ K1.out (by omega)).mono ?_; rintro e w1 ⟨rfl, g1⟩; have G1 := hid (Gr.trans K1.out g1); have B2 := hid (gr_blk B1.out g1); have b1 := B2.out; have l1 := lt_of_block b1; have p0 : w1.cell? ⟨w.heap.size, 0, none⟩ = some (.slice aoc nc cac) := (cell_of b1 0).trans rfl; have p1 : w1.cell? ⟨w.heap.size, 1, none⟩ = some (.slice aof nf caf) := (cell_of b1 1).trans rfl; have p2 : w1.cell? ⟨w.heap.size, 2, none⟩ = some (.slice aot nt cat) := (cell_of b1 2).trans rfl; clear g1 b1) | (go_at_call 28; refine (HTA.out _ G1.out (by omega)).mono ?_; rintro e w2 ⟨rfl, g2⟩; have G2 := hid (Gr.trans G1.out g2); have b2 := gr_blk B2.out g2; have l2 := lt_of_block b2; have r0 : w2.cell? ⟨w.heap.size, 0, none⟩ = some (.slice aoc nc cac) := (cell_of b2 0).trans rfl; have r1 : w2.cell? ⟨w.heap.size, 1, none⟩ = some (.slice aof nf caf) := (cell_of b2 1).trans rfl; have r2 : w2.cell? ⟨w.heap.size, 2, none⟩ = some (.slice aot nt cat) := (cell_of b2 2).trans rfl; clear g2 b2) | (go_at_call 29; refine (HWO.out _ G2.out (by omega) (by omega) (by first | exact HIN.out rfl | exact HIN.out trivial)).mono ?_; rintro e w3 ⟨rfl, g3⟩; have G3 := hid (Gr.trans G2.out g3); clear g3))
            go_ret2
            exact ⟨rfl, G3.out⟩
          · have k2' : (T2 == 0) = false := by simpa using k2
            have ha : A = T1 := by rw [HA.out]; simp [h1, h2, h3, k2]
            have hb : B = T2 := by rw [HB.out]; simp [h1, h2, h3, k2]
            subst ha hb
            go_enter Tryd.func12, Tryd.ntmps12
            go_wp2_with (first | (go_at_call 27; refine (HFU.out _ K1.out (by omega)).mono ?_; rintro e w1 ⟨rfl, g1⟩; have G1 := hid (Gr.trans K1.out g1); have B2 := hid (gr_blk B1.out g1); have b1 := B2.out; have l1 := lt_of_block b1; have p0 : w1.cell? ⟨w.heap.size, 0, none⟩ = some (.slice aoc nc cac) := (cell_of b1 0).trans rfl; have p1 : w1.cell? ⟨w.heap.size, 1, none⟩ = some (.slice aof nf caf) := (cell_of b1 1).trans rfl; have p2 : w1.cell? ⟨w.heap.size, 2, none⟩ = some (.slice aot nt cat) := (cell_of b1 2).trans rfl; clear g1 b1) | (go_at_call 28; refine (HTA.out _ G1.out (by omega)).mono ?_; rintro e w2 ⟨rfl, g2⟩; have G2 := hid (Gr.trans G1.out g2); have b2 := gr_blk B2.out g2; have l2 := lt_of_block b2; have r0 : w2.cell? ⟨w.heap.size, 0, none⟩ = some (.slice aoc nc cac) := (cell_of b2 0).trans rfl; have r1 : w2.cell? ⟨w.heap.size, 1, none⟩ = some (.slice aof nf caf) := (cell_of b2 1).trans rfl; have r2 : w2.cell? ⟨w.heap.size, 2, none⟩ = some (.slice aot nt cat) := (cell_of b2 2).trans rfl; clear g2 b2))
            go_ret2
            exact ⟨rfl, G2.out⟩
        · have k1' : (F2 == 0) = false := by simpa using k1
          have ha : A = F1 := by rw [HA.out]; simp [h1, h2, h3, k1]
          have hb : B = F2 := by rw [HB.out]; simp [h1, h2, h3, k1]
          subst ha hb
          go_enter Tryd.func12, Tryd.ntmps12
          go_wp2_with (go_at_call 27; refine (HFU.out _ K1.out (by omega)).mono ?_; rintro e w1 ⟨rfl, g1⟩; have G1 := hid (Gr.trans K1.out g1); have B2 := hid (gr_blk B1.out g1); have b1 := B2.out; have l1 := lt_of_block b1; have p0 : w1.cell? ⟨w.heap.size, 0, none⟩ = some (.slice aoc nc cac) := (cell_of b1 0).trans rfl; have p1 : w1.cell? ⟨w.heap.size, 1, none⟩ = some (.slice aof nf caf) := (cell_of b1 1).trans rfl; have p2 : w1.cell? ⟨w.heap.size, 2, none⟩ = some (.slice aot nt cat) := (cell_of b1 2).trans rfl; clear g1 b1)
          go_ret2
          exact ⟨rfl, G1.out⟩
end Go.Proofs.YtollfepggicehabDoor.Lt
