/-
  What the program's checkTables and checkWords answer. Conditions: the tables lie where they lie; words are words.
-/
import Derived.Test.YtollfepggicehabDoorPpSmall
namespace Go.Proofs.YtollfepggicehabDoor.Lt
open Go.RowKit Wd

/-- why a case may not be -/
def cE (t : List Cs) (k : Nat) : Int := match t[k]? with | some c => if cf c = true then 0 else 83 | none => 0
/-- why a table may not be -/
def tE (ts : List Tb) (n : Nat) : Int := match ts[n]? with | some t => if 16 < t.cs.length then 83 else (fR (cE t.cs) 0 t.cs.length).2 | none => 0
theorem casesC_any (P : Nat → Prop) (w : World) (X : Nat) (v : Value) (cs : List Cs) (hX : w.heap[X]? = some (.cells #[v] 66 (0, 0))) (h : Ls eC P w v cs) (n : Nat) (hn : n < cs.length) :
    Calls Tryd.prog 46 #[.int .i64 (n : Nat), .pointer (some ⟨X, 0, none⟩)] w fun e w' => e = .returned (.int .i64 (cE cs n)) ∧ Gr w w' := by
  obtain ⟨c, hx⟩ : ∃ c, cs[n]? = some c := ⟨_, List.getElem?_eq_getElem hn⟩
  have HE := hid (show cE cs n = if cf c = true then 0 else 83 by unfold cE; rw [hx])
  have HC := hid (fun (W : World) => checkCase_any c W)
  rw [HE.out]
  generalize (if cf c = true then (0 : Int) else 83) = R at HC ⊢
  obtain ⟨g, o, cap, hv, _, hgl, _, hcs⟩ := h.get eC_len hx
  obtain ⟨m, hm⟩ : ∃ m, m = cs.length := ⟨_, rfl⟩
  rw [← hm] at hv hn
  subst hv
  have c0 := hcs 0 _ rfl
  have c1 := hcs 1 _ rfl
  have c2 := hcs 2 _ rfl
  have c3 := hcs 3 _ rfl
  rw [Nat.add_zero] at c0
  have p0 : w.cell? ⟨X, 0, none⟩ = some (.slice (some ⟨g, o, none⟩) m cap) := (cell_of hX 0).trans rfl
  have n0 : (0 : Int) ≤ (n : Int) := by omega
  have n1 : (n : Int) < (m : Int) := by omega
  clear hm hcs hx h hX HE
  go_enter Tryd.func46, Tryd.ntmps46
  go_wp2_with (go_at_call 47; refine (HC.out _).mono ?_; rintro e w1 ⟨rfl, g1⟩)
  go_ret
  exact ⟨rfl, g1⟩
set_option maxRecDepth 20000 in
theorem tablesC_any (P : Nat → Prop) (w : World) (X : Nat) (aoc aof aot : Option Addr) (nc nf nt cac caf cat : Nat) (ts : List Tb) (hX : w.heap[X]? = some (.cells #[.slice aoc nc cac, .slice aof nf caf, .slice aot nt cat] 26 (0, 0))) (ht : Ls eT P w (.slice aot nt cat) ts) (hc : ∀ t ∈ ts, Ls eC P w t.cv t.cs) (n : Nat) (hn : n < nt) :
    Calls Tryd.prog 45 #[.int .i64 (n : Nat), .pointer (some ⟨X, 0, none⟩)] w fun e w' => e = .returned (.int .i64 (tE ts n)) ∧ Gr w w' := by
  have HL := hid ht.len.1
  obtain ⟨t, hx⟩ : ∃ f, ts[n]? = some f := ⟨_, List.getElem?_eq_getElem (by rw [← HL.out]; exact hn)⟩
  have HE := hid (show tE ts n = if 16 < t.cs.length then 83 else (fR (cE t.cs) 0 t.cs.length).2 by unfold tE; rw [hx])
  rw [HE.out]
  have hcs' := hc t (List.mem_of_getElem? hx)
  obtain ⟨aq, cq, hcv⟩ := hcs'.form
  obtain ⟨nq, hnq⟩ : ∃ m, m = t.cs.length := ⟨_, rfl⟩
  have HFI := hid (fun (W : World) (p : Gr w W) (X : Nat) (q : W.heap[X]? = some (.cells #[t.cv] 66 (0, 0))) (hl : t.cs.length ≤ 4398046511104) => first_cases W X 0 t.cs.length hl (cE t.cs) (fun n W2 _ n2 p2 => casesC_any P W2 X t.cv t.cs (gr_blk q p2) (hcs'.gr (Gr.trans p p2)) n n2))
  rw [← hnq] at hcv HFI ⊢
  rw [hcv] at HFI
  generalize fR (cE t.cs) 0 nq = r at HFI ⊢
  obtain ⟨r1, r2⟩ := r
  simp only at HFI ⊢
  obtain ⟨g, o, cap', hv, _, hgl, _, hcs⟩ := ht.get eT_len hx
  injection hv with hv1 hv2 hv3
  subst hv1
  have c0 := hcs 0 _ rfl
  rw [Nat.add_zero, hcv] at c0
  have p2 : w.cell? ⟨X, 2, none⟩ = some (.slice (some ⟨g, o, none⟩) nt cat) := (cell_of hX 2).trans rfl
  have n0 : (0 : Int) ≤ (n : Int) := by omega
  have n1 : (n : Int) < (nt : Int) := by omega
  have lX := lt_of_block hX
  have KA := hid (Gr.alloc (Gr.refl w) #[.slice aq nq cq] 66)
  have BA := hid (MapKept.heap_alloc w (.cells #[.slice aq nq cq] 66)).1
  clear HE hv2 hv3 hcs hx ht hc hcs' hcv hnq hX
  by_cases h16 : 16 < nq
  · rw [if_pos h16]
    have h16' : (16 : Int) < (nq : Int) := by omega
    go_enter Tryd.func45, Tryd.ntmps45
    go_wp2
    go_ret
    exact ⟨rfl, KA.out⟩
  · rw [if_neg h16]
    have h16' : ¬ (16 : Int) < (nq : Int) := by omega
    go_enter Tryd.func45, Tryd.ntmps45
    go_wp2_with (go_at_call 42; refine (HFI.out _ KA.out _ BA.out (by omega)).mono ?_; rintro e w1 ⟨rfl, g1⟩; have G1 := hid (Gr.trans KA.out g1); clear g1)
    go_ret
    exact ⟨rfl, G1.out⟩
set_option maxRecDepth 20000 in
theorem checkTables_any (P : Nat → Prop) (w : World) (vc vf vt : Value) (cs : List Int) (fs : List (Int × Int)) (ts : List Tb) (h : Pin P w vc vf vt cs fs ts) (hl : ts.length ≤ 4398046511104) :
    Calls Tryd.prog 28 #[.agg #[vc, vf, vt]] w fun e w' => e = .returned (.tuple #[.int .i64 (fR (tE ts) 0 ts.length).1, .int .i64 (fR (tE ts) 0 ts.length).2]) ∧ Gr w w' := by
  obtain ⟨aoc, cac, hia⟩ := h.c.form
  obtain ⟨aof, caf, hib⟩ := h.f.form
  obtain ⟨aot, cat, hic⟩ := h.t.form
  have HT := hid h.t
  have HC := hid h.cs
  generalize cs.length = nc at hia
  generalize fs.length = nf at hib
  obtain ⟨nt, hnt⟩ : ∃ n, n = ts.length := ⟨_, rfl⟩
  rw [← hnt] at hic hl ⊢
  subst hia hib hic
  have K1 := hid (Gr.alloc (Gr.refl w) #[.slice aoc nc cac, .slice aof nf caf, .slice aot nt cat] 26)
  have B1 := hid (MapKept.heap_alloc w (.cells #[.slice aoc nc cac, .slice aof nf caf, .slice aot nt cat] 26)).1
  have HFI := hid (fun (W : World) (p : Gr w W) (q : W.heap[w.heap.size]? = some (.cells #[.slice aoc nc cac, .slice aof nf caf, .slice aot nt cat] 26 (0, 0))) => first_tables W w.heap.size 0 nt hl (tE ts) (fun n W2 _ n2 p2 => tablesC_any P W2 w.heap.size aoc aof aot nc nf nt cac caf cat ts (gr_blk q p2) (HT.out.gr (Gr.trans p p2)) (fun t ht => (HC.out t ht).gr (Gr.trans p p2)) n n2))
  generalize fR (tE ts) 0 nt = r at HFI ⊢
  obtain ⟨r1, r2⟩ := r
  simp only at HFI ⊢
  clear h hnt
  go_enter Tryd.func28, Tryd.ntmps28
  go_wp2_with (go_at_call 42; refine (HFI.out _ K1.out B1.out).mono ?_; rintro e w1 ⟨rfl, g1⟩; have G1 := hid (Gr.trans K1.out g1); clear g1)
  go_ret2
  exact ⟨rfl, G1.out⟩

/-- what is wrong with a word of a function -/
def wE (nf nt : Nat) (f : Int × Int) (a x : Int) : Int :=
  if dE x ≠ 0 then 80 else if hT (dI x).1 = true ∧ ((dI x).2.2.2.2 < f.1 ∨ f.2 ≤ (dI x).2.2.2.2) then 82 else if ((dI x).1 = 20 ∨ (dI x).1 = 22) ∧ (nf : Int) ≤ (dI x).2.2.2.2 then 81 else if (dI x).1 = 34 ∧ (nt : Int) ≤ (dI x).2.2.2.2 then 83 else if a = f.2 - 1 ∧ en (dI x).1 = false then 84 else 0
set_option maxHeartbeats 2000000 in
set_option maxRecDepth 20000 in
theorem checkWord_any (P : Nat → Prop) (w : World) (aoc aof aot : Option Addr) (nc nf nt cac caf cat : Nat) (cs : List Int) (h : Ls eU P w (.slice aoc nc cac) cs) (hu : U32s cs) (hg : Glb w) (x y : Int) (hy : 0 < y ∧ y ≤ 4398046511104) (a : Nat) (n : Int) (hx : cs[a]? = some n) :
    Calls Tryd.prog 49 #[.agg #[.slice aoc nc cac, .slice aof nf caf, .slice aot nt cat], .agg #[.int .i64 x, .int .i64 y], .int .i64 (a : Nat)] w fun e w' => e = .returned (.int .i64 (wE nf nt (x, y) (a : Nat) n)) ∧ Gr w w' := by
  obtain ⟨u0, u1⟩ := hu n (List.mem_of_getElem? hx)
  have HD := hid (fun (W : World) (q : Glb W) => decode_all n u0 u1 W q)
  have hlen : a < nc := by rw [h.len.1]; exact (List.getElem?_eq_some_iff.1 hx).1
  obtain ⟨g, o, cap', hv, _, hgl, _, hcs⟩ := h.get eU_len hx
  injection hv with hv1 hv2 hv3
  subst hv1
  have c0 := hcs 0 _ rfl
  rw [Nat.mul_one, Nat.add_zero] at c0
  have HG := hid hg
  have HH := hid (fun (o : Int) (W : World) => hast_any o W)
  have HN := hid (fun (o : Int) (W : World) => ending_any o W)
  have K1 := hid (Gr.alloc (Gr.alloc (Gr.refl w) #[.slice (some ⟨g, o, none⟩) nc cac, .slice aof nf caf, .slice aot nt cat] 26) #[.int .i64 x, .int .i64 y] 45)
  have B1 := hid (show ((w.alloc (.cells #[.slice (some ⟨g, o, none⟩) nc cac, .slice aof nf caf, .slice aot nt cat] 26)).alloc (.cells #[.int .i64 x, .int .i64 y] 45)).heap[w.heap.size]? = some (.cells #[.slice (some ⟨g, o, none⟩) nc cac, .slice aof nf caf, .slice aot nt cat] 26 (0, 0)) from al_blk (MapKept.heap_alloc w _).1 _)
  have B2 := hid (show ((w.alloc (.cells #[.slice (some ⟨g, o, none⟩) nc cac, .slice aof nf caf, .slice aot nt cat] 26)).alloc (.cells #[.int .i64 x, .int .i64 y] 45)).heap[w.heap.size + 1]? = some (.cells #[.int .i64 x, .int .i64 y] 45 (0, 0)) by simpa using (MapKept.heap_alloc (w.alloc (.cells #[.slice (some ⟨g, o, none⟩) nc cac, .slice aof nf caf, .slice aot nt cat] 26)) (.cells #[.int .i64 x, .int .i64 y] 45)).1)
  have q0 : (0 : Int) ≤ (a : Int) := by omega
  have q1 : (a : Int) < (nc : Int) := by omega
  obtain ⟨R, hR⟩ : ∃ r, r = wE nf nt (x, y) (a : Nat) n := ⟨_, rfl⟩
  rw [← hR]
  unfold wE at hR
  have HR := hid hR
  unfold iV at HD
  generalize dI n = I at HD HR
  generalize dE n = E at HD HR
  obtain ⟨o1, o2, o3, o4, im⟩ := I
  simp only at HD HR
  obtain ⟨hy0, hy1⟩ := hy
  clear hR hv2 hv3 hcs hx h u0 u1 hu hg
  by_cases hE : E = 0
  · subst hE
    cases k1 : hT o1 with
    | false =>
      by_cases c2 : o1 = 20 ∨ o1 = 22
      · by_cases i2 : (nf : Int) ≤ im
        · have j2 : decide ((nf : Int) ≤ im) = true := decide_eq_true i2
          rcases c2 with rfl | rfl
          · have hr : R = 81 := by rw [HR.out]; simp [k1, i2]
            subst hr
            go_enter Tryd.func49, Tryd.ntmps49
            go_wp2_with (first | (go_at_call 38; refine (HD.out _ (HG.out.gr K1.out)).mono ?_; rintro e w3 ⟨rfl, g3⟩; have G4 := hid (Gr.alloc (Gr.trans K1.out g3) #[.int .i64 (20 : Int), .int .i64 o2, .int .i64 o3, .int .i64 o4, .int .i64 im] 37); have b1 := gr_blk B1.out g3; have b2 := gr_blk B2.out g3; have l1 := lt_of_block b1; have l2 := lt_of_block b2; have m0 : w3.cell? ⟨w.heap.size, 0, none⟩ = some (.slice (some ⟨g, o, none⟩) nc cac) := (cell_of b1 0).trans rfl; have m1 : w3.cell? ⟨w.heap.size, 1, none⟩ = some (.slice aof nf caf) := (cell_of b1 1).trans rfl; have m2 : w3.cell? ⟨w.heap.size, 2, none⟩ = some (.slice aot nt cat) := (cell_of b1 2).trans rfl; have f0 : w3.cell? ⟨w.heap.size + 1, 0, none⟩ = some (.int .i64 x) := (cell_of b2 0).trans rfl; have f1 : w3.cell? ⟨w.heap.size + 1, 1, none⟩ = some (.int .i64 y) := (cell_of b2 1).trans rfl; clear g3 b1 b2) | (go_at_call 62; refine (HH.out _ _).mono ?_; rintro e w4 ⟨rfl, hw⟩; have hw := hw.symm; subst hw) | (go_at_call 63; refine (HN.out _ _).mono ?_; rintro e w4 ⟨rfl, hw⟩; have hw := hw.symm; subst hw))
            go_ret
            exact ⟨rfl, G4.out⟩
          · have hr : R = 81 := by rw [HR.out]; simp [k1, i2]
            subst hr
            go_enter Tryd.func49, Tryd.ntmps49
            go_wp2_with (first | (go_at_call 38; refine (HD.out _ (HG.out.gr K1.out)).mono ?_; rintro e w3 ⟨rfl, g3⟩; have G4 := hid (Gr.alloc (Gr.trans K1.out g3) #[.int .i64 (22 : Int), .int .i64 o2, .int .i64 o3, .int .i64 o4, .int .i64 im] 37); have b1 := gr_blk B1.out g3; have b2 := gr_blk B2.out g3; have l1 := lt_of_block b1; have l2 := lt_of_block b2; have m0 : w3.cell? ⟨w.heap.size, 0, none⟩ = some (.slice (some ⟨g, o, none⟩) nc cac) := (cell_of b1 0).trans rfl; have m1 : w3.cell? ⟨w.heap.size, 1, none⟩ = some (.slice aof nf caf) := (cell_of b1 1).trans rfl; have m2 : w3.cell? ⟨w.heap.size, 2, none⟩ = some (.slice aot nt cat) := (cell_of b1 2).trans rfl; have f0 : w3.cell? ⟨w.heap.size + 1, 0, none⟩ = some (.int .i64 x) := (cell_of b2 0).trans rfl; have f1 : w3.cell? ⟨w.heap.size + 1, 1, none⟩ = some (.int .i64 y) := (cell_of b2 1).trans rfl; clear g3 b1 b2) | (go_at_call 62; refine (HH.out _ _).mono ?_; rintro e w4 ⟨rfl, hw⟩; have hw := hw.symm; subst hw) | (go_at_call 63; refine (HN.out _ _).mono ?_; rintro e w4 ⟨rfl, hw⟩; have hw := hw.symm; subst hw))
            go_ret
            exact ⟨rfl, G4.out⟩
        · have j2 : decide ((nf : Int) ≤ im) = false := decide_eq_false i2
          rcases c2 with rfl | rfl
          · by_cases c4 : (a : Int) = y - 1
            · obtain rfl : y = (a : Int) + 1 := by omega
              clear c4
              have k4 : en (20 : Int) = false := rfl
              have hr : R = 84 := by rw [HR.out]; simp [k1, i2, k4]
              subst hr
              go_enter Tryd.func49, Tryd.ntmps49
              go_wp2_with (first | (go_at_call 38; refine (HD.out _ (HG.out.gr K1.out)).mono ?_; rintro e w3 ⟨rfl, g3⟩; have G4 := hid (Gr.alloc (Gr.trans K1.out g3) #[.int .i64 (20 : Int), .int .i64 o2, .int .i64 o3, .int .i64 o4, .int .i64 im] 37); have b1 := gr_blk B1.out g3; have b2 := gr_blk B2.out g3; have l1 := lt_of_block b1; have l2 := lt_of_block b2; have m0 : w3.cell? ⟨w.heap.size, 0, none⟩ = some (.slice (some ⟨g, o, none⟩) nc cac) := (cell_of b1 0).trans rfl; have m1 : w3.cell? ⟨w.heap.size, 1, none⟩ = some (.slice aof nf caf) := (cell_of b1 1).trans rfl; have m2 : w3.cell? ⟨w.heap.size, 2, none⟩ = some (.slice aot nt cat) := (cell_of b1 2).trans rfl; have f0 : w3.cell? ⟨w.heap.size + 1, 0, none⟩ = some (.int .i64 x) := (cell_of b2 0).trans rfl; have f1 : w3.cell? ⟨w.heap.size + 1, 1, none⟩ = some (.int .i64 ((a : Int) + 1)) := (cell_of b2 1).trans rfl; clear g3 b1 b2) | (go_at_call 62; refine (HH.out _ _).mono ?_; rintro e w4 ⟨rfl, hw⟩; have hw := hw.symm; subst hw) | (go_at_call 63; refine (HN.out _ _).mono ?_; rintro e w4 ⟨rfl, hw⟩; have hw := hw.symm; subst hw))
              go_ret
              exact ⟨rfl, G4.out⟩
            · have c4' : ((a : Int) == y - 1) = false := by simpa using c4
              have hr : R = 0 := by rw [HR.out]; simp [k1, i2, c4]
              subst hr
              go_enter Tryd.func49, Tryd.ntmps49
              go_wp2_with (first | (go_at_call 38; refine (HD.out _ (HG.out.gr K1.out)).mono ?_; rintro e w3 ⟨rfl, g3⟩; have G4 := hid (Gr.alloc (Gr.trans K1.out g3) #[.int .i64 (20 : Int), .int .i64 o2, .int .i64 o3, .int .i64 o4, .int .i64 im] 37); have b1 := gr_blk B1.out g3; have b2 := gr_blk B2.out g3; have l1 := lt_of_block b1; have l2 := lt_of_block b2; have m0 : w3.cell? ⟨w.heap.size, 0, none⟩ = some (.slice (some ⟨g, o, none⟩) nc cac) := (cell_of b1 0).trans rfl; have m1 : w3.cell? ⟨w.heap.size, 1, none⟩ = some (.slice aof nf caf) := (cell_of b1 1).trans rfl; have m2 : w3.cell? ⟨w.heap.size, 2, none⟩ = some (.slice aot nt cat) := (cell_of b1 2).trans rfl; have f0 : w3.cell? ⟨w.heap.size + 1, 0, none⟩ = some (.int .i64 x) := (cell_of b2 0).trans rfl; have f1 : w3.cell? ⟨w.heap.size + 1, 1, none⟩ = some (.int .i64 y) := (cell_of b2 1).trans rfl; clear g3 b1 b2) | (go_at_call 62; refine (HH.out _ _).mono ?_; rintro e w4 ⟨rfl, hw⟩; have hw := hw.symm; subst hw) | (go_at_call 63; refine (HN.out _ _).mono ?_; rintro e w4 ⟨rfl, hw⟩; have hw := hw.symm; subst hw))
              go_ret
              exact ⟨rfl, G4.out⟩
          · by_cases c4 : (a : Int) = y - 1
            · obtain rfl : y = (a : Int) + 1 := by omega
              clear c4
              have k4 : en (22 : Int) = false := rfl
              have hr : R = 84 := by rw [HR.out]; simp [k1, i2, k4]
              subst hr
              go_enter Tryd.func49, Tryd.ntmps49
              go_wp2_with (first | (go_at_call 38; refine (HD.out _ (HG.out.gr K1.out)).mono ?_; rintro e w3 ⟨rfl, g3⟩; have G4 := hid (Gr.alloc (Gr.trans K1.out g3) #[.int .i64 (22 : Int), .int .i64 o2, .int .i64 o3, .int .i64 o4, .int .i64 im] 37); have b1 := gr_blk B1.out g3; have b2 := gr_blk B2.out g3; have l1 := lt_of_block b1; have l2 := lt_of_block b2; have m0 : w3.cell? ⟨w.heap.size, 0, none⟩ = some (.slice (some ⟨g, o, none⟩) nc cac) := (cell_of b1 0).trans rfl; have m1 : w3.cell? ⟨w.heap.size, 1, none⟩ = some (.slice aof nf caf) := (cell_of b1 1).trans rfl; have m2 : w3.cell? ⟨w.heap.size, 2, none⟩ = some (.slice aot nt cat) := (cell_of b1 2).trans rfl; have f0 : w3.cell? ⟨w.heap.size + 1, 0, none⟩ = some (.int .i64 x) := (cell_of b2 0).trans rfl; have f1 : w3.cell? ⟨w.heap.size + 1, 1, none⟩ = some (.int .i64 ((a : Int) + 1)) := (cell_of b2 1).trans rfl; clear g3 b1 b2) | (go_at_call 62; refine (HH.out _ _).mono ?_; rintro e w4 ⟨rfl, hw⟩; have hw := hw.symm; subst hw) | (go_at_call 63; refine (HN.out _ _).mono ?_; rintro e w4 ⟨rfl, hw⟩; have hw := hw.symm; subst hw))
              go_ret
              exact ⟨rfl, G4.out⟩
            · have c4' : ((a : Int) == y - 1) = false := by simpa using c4
              have hr : R = 0 := by rw [HR.out]; simp [k1, i2, c4]
              subst hr
              go_enter Tryd.func49, Tryd.ntmps49
              go_wp2_with (first | (go_at_call 38; refine (HD.out _ (HG.out.gr K1.out)).mono ?_; rintro e w3 ⟨rfl, g3⟩; have G4 := hid (Gr.alloc (Gr.trans K1.out g3) #[.int .i64 (22 : Int), .int .i64 o2, .int .i64 o3, .int .i64 o4, .int .i64 im] 37); have b1 := gr_blk B1.out g3; have b2 := gr_blk B2.out g3; have l1 := lt_of_block b1; have l2 := lt_of_block b2; have m0 : w3.cell? ⟨w.heap.size, 0, none⟩ = some (.slice (some ⟨g, o, none⟩) nc cac) := (cell_of b1 0).trans rfl; have m1 : w3.cell? ⟨w.heap.size, 1, none⟩ = some (.slice aof nf caf) := (cell_of b1 1).trans rfl; have m2 : w3.cell? ⟨w.heap.size, 2, none⟩ = some (.slice aot nt cat) := (cell_of b1 2).trans rfl; have f0 : w3.cell? ⟨w.heap.size + 1, 0, none⟩ = some (.int .i64 x) := (cell_of b2 0).trans rfl; have f1 : w3.cell? ⟨w.heap.size + 1, 1, none⟩ = some (.int .i64 y) := (cell_of b2 1).trans rfl; clear g3 b1 b2) | (go_at_call 62; refine (HH.out _ _).mono ?_; rintro e w4 ⟨rfl, hw⟩; have hw := hw.symm; subst hw) | (go_at_call 63; refine (HN.out _ _).mono ?_; rintro e w4 ⟨rfl, hw⟩; have hw := hw.symm; subst hw))
              go_ret
              exact ⟨rfl, G4.out⟩
      · have c2' : ¬ o1 = 20 ∧ ¬ o1 = 22 := by omega
        obtain ⟨ca, cb⟩ := c2'
        have ca' : (o1 == 20) = false := by simpa using ca
        have cb' : (o1 == 22) = false := by simpa using cb
        by_cases c3 : o1 = 34
        · subst c3
          by_cases i3 : (nt : Int) ≤ im
          · have j3 : decide ((nt : Int) ≤ im) = true := decide_eq_true i3
            have hr : R = 83 := by rw [HR.out]; simp [k1, i3]
            subst hr
            go_enter Tryd.func49, Tryd.ntmps49
            go_wp2_with (first | (go_at_call 38; refine (HD.out _ (HG.out.gr K1.out)).mono ?_; rintro e w3 ⟨rfl, g3⟩; have G4 := hid (Gr.alloc (Gr.trans K1.out g3) #[.int .i64 (34 : Int), .int .i64 o2, .int .i64 o3, .int .i64 o4, .int .i64 im] 37); have b1 := gr_blk B1.out g3; have b2 := gr_blk B2.out g3; have l1 := lt_of_block b1; have l2 := lt_of_block b2; have m0 : w3.cell? ⟨w.heap.size, 0, none⟩ = some (.slice (some ⟨g, o, none⟩) nc cac) := (cell_of b1 0).trans rfl; have m1 : w3.cell? ⟨w.heap.size, 1, none⟩ = some (.slice aof nf caf) := (cell_of b1 1).trans rfl; have m2 : w3.cell? ⟨w.heap.size, 2, none⟩ = some (.slice aot nt cat) := (cell_of b1 2).trans rfl; have f0 : w3.cell? ⟨w.heap.size + 1, 0, none⟩ = some (.int .i64 x) := (cell_of b2 0).trans rfl; have f1 : w3.cell? ⟨w.heap.size + 1, 1, none⟩ = some (.int .i64 y) := (cell_of b2 1).trans rfl; clear g3 b1 b2) | (go_at_call 62; refine (HH.out _ _).mono ?_; rintro e w4 ⟨rfl, hw⟩; have hw := hw.symm; subst hw) | (go_at_call 63; refine (HN.out _ _).mono ?_; rintro e w4 ⟨rfl, hw⟩; have hw := hw.symm; subst hw))
            go_ret
            exact ⟨rfl, G4.out⟩
          · have j3 : decide ((nt : Int) ≤ im) = false := decide_eq_false i3
            by_cases c4 : (a : Int) = y - 1
            · obtain rfl : y = (a : Int) + 1 := by omega
              clear c4
              have k4 : en (34 : Int) = false := rfl
              have hr : R = 84 := by rw [HR.out]; simp [k1, i3, k4]
              subst hr
              go_enter Tryd.func49, Tryd.ntmps49
              go_wp2_with (first | (go_at_call 38; refine (HD.out _ (HG.out.gr K1.out)).mono ?_; rintro e w3 ⟨rfl, g3⟩; have G4 := hid (Gr.alloc (Gr.trans K1.out g3) #[.int .i64 (34 : Int), .int .i64 o2, .int .i64 o3, .int .i64 o4, .int .i64 im] 37); have b1 := gr_blk B1.out g3; have b2 := gr_blk B2.out g3; have l1 := lt_of_block b1; have l2 := lt_of_block b2; have m0 : w3.cell? ⟨w.heap.size, 0, none⟩ = some (.slice (some ⟨g, o, none⟩) nc cac) := (cell_of b1 0).trans rfl; have m1 : w3.cell? ⟨w.heap.size, 1, none⟩ = some (.slice aof nf caf) := (cell_of b1 1).trans rfl; have m2 : w3.cell? ⟨w.heap.size, 2, none⟩ = some (.slice aot nt cat) := (cell_of b1 2).trans rfl; have f0 : w3.cell? ⟨w.heap.size + 1, 0, none⟩ = some (.int .i64 x) := (cell_of b2 0).trans rfl; have f1 : w3.cell? ⟨w.heap.size + 1, 1, none⟩ = some (.int .i64 ((a : Int) + 1)) := (cell_of b2 1).trans rfl; clear g3 b1 b2) | (go_at_call 62; refine (HH.out _ _).mono ?_; rintro e w4 ⟨rfl, hw⟩; have hw := hw.symm; subst hw) | (go_at_call 63; refine (HN.out _ _).mono ?_; rintro e w4 ⟨rfl, hw⟩; have hw := hw.symm; subst hw))
              go_ret
              exact ⟨rfl, G4.out⟩
            · have c4' : ((a : Int) == y - 1) = false := by simpa using c4
              have hr : R = 0 := by rw [HR.out]; simp [k1, i3, c4]
              subst hr
              go_enter Tryd.func49, Tryd.ntmps49
              go_wp2_with (first | (go_at_call 38; refine (HD.out _ (HG.out.gr K1.out)).mono ?_; rintro e w3 ⟨rfl, g3⟩; have G4 := hid (Gr.alloc (Gr.trans K1.out g3) #[.int .i64 (34 : Int), .int .i64 o2, .int .i64 o3, .int .i64 o4, .int .i64 im] 37); have b1 := gr_blk B1.out g3; have b2 := gr_blk B2.out g3; have l1 := lt_of_block b1; have l2 := lt_of_block b2; have m0 : w3.cell? ⟨w.heap.size, 0, none⟩ = some (.slice (some ⟨g, o, none⟩) nc cac) := (cell_of b1 0).trans rfl; have m1 : w3.cell? ⟨w.heap.size, 1, none⟩ = some (.slice aof nf caf) := (cell_of b1 1).trans rfl; have m2 : w3.cell? ⟨w.heap.size, 2, none⟩ = some (.slice aot nt cat) := (cell_of b1 2).trans rfl; have f0 : w3.cell? ⟨w.heap.size + 1, 0, none⟩ = some (.int .i64 x) := (cell_of b2 0).trans rfl; have f1 : w3.cell? ⟨w.heap.size + 1, 1, none⟩ = some (.int .i64 y) := (cell_of b2 1).trans rfl; clear g3 b1 b2) | (go_at_call 62; refine (HH.out _ _).mono ?_; rintro e w4 ⟨rfl, hw⟩; have hw := hw.symm; subst hw) | (go_at_call 63; refine (HN.out _ _).mono ?_; rintro e w4 ⟨rfl, hw⟩; have hw := hw.symm; subst hw))
              go_ret
              exact ⟨rfl, G4.out⟩
        · have c3' : (o1 == 34) = false := by simpa using c3
          by_cases c4 : (a : Int) = y - 1
          · obtain rfl : y = (a : Int) + 1 := by omega
            clear c4
            cases k4 : en o1 with
            | false =>
              have hr : R = 84 := by rw [HR.out]; simp [k1, ca, cb, c3, k4]
              subst hr
              go_enter Tryd.func49, Tryd.ntmps49
              go_wp2_with (first | (go_at_call 38; refine (HD.out _ (HG.out.gr K1.out)).mono ?_; rintro e w3 ⟨rfl, g3⟩; have G4 := hid (Gr.alloc (Gr.trans K1.out g3) #[.int .i64 o1, .int .i64 o2, .int .i64 o3, .int .i64 o4, .int .i64 im] 37); have b1 := gr_blk B1.out g3; have b2 := gr_blk B2.out g3; have l1 := lt_of_block b1; have l2 := lt_of_block b2; have m0 : w3.cell? ⟨w.heap.size, 0, none⟩ = some (.slice (some ⟨g, o, none⟩) nc cac) := (cell_of b1 0).trans rfl; have m1 : w3.cell? ⟨w.heap.size, 1, none⟩ = some (.slice aof nf caf) := (cell_of b1 1).trans rfl; have m2 : w3.cell? ⟨w.heap.size, 2, none⟩ = some (.slice aot nt cat) := (cell_of b1 2).trans rfl; have f0 : w3.cell? ⟨w.heap.size + 1, 0, none⟩ = some (.int .i64 x) := (cell_of b2 0).trans rfl; have f1 : w3.cell? ⟨w.heap.size + 1, 1, none⟩ = some (.int .i64 ((a : Int) + 1)) := (cell_of b2 1).trans rfl; clear g3 b1 b2) | (go_at_call 62; refine (HH.out _ _).mono ?_; rintro e w4 ⟨rfl, hw⟩; have hw := hw.symm; subst hw) | (go_at_call 63; refine (HN.out _ _).mono ?_; rintro e w4 ⟨rfl, hw⟩; have hw := hw.symm; subst hw))
              go_ret
              exact ⟨rfl, G4.out⟩
            | true =>
              have hr : R = 0 := by rw [HR.out]; simp [k1, ca, cb, c3, k4]
              subst hr
              go_enter Tryd.func49, Tryd.ntmps49
              go_wp2_with (first | (go_at_call 38; refine (HD.out _ (HG.out.gr K1.out)).mono ?_; rintro e w3 ⟨rfl, g3⟩; have G4 := hid (Gr.alloc (Gr.trans K1.out g3) #[.int .i64 o1, .int .i64 o2, .int .i64 o3, .int .i64 o4, .int .i64 im] 37); have b1 := gr_blk B1.out g3; have b2 := gr_blk B2.out g3; have l1 := lt_of_block b1; have l2 := lt_of_block b2; have m0 : w3.cell? ⟨w.heap.size, 0, none⟩ = some (.slice (some ⟨g, o, none⟩) nc cac) := (cell_of b1 0).trans rfl; have m1 : w3.cell? ⟨w.heap.size, 1, none⟩ = some (.slice aof nf caf) := (cell_of b1 1).trans rfl; have m2 : w3.cell? ⟨w.heap.size, 2, none⟩ = some (.slice aot nt cat) := (cell_of b1 2).trans rfl; have f0 : w3.cell? ⟨w.heap.size + 1, 0, none⟩ = some (.int .i64 x) := (cell_of b2 0).trans rfl; have f1 : w3.cell? ⟨w.heap.size + 1, 1, none⟩ = some (.int .i64 ((a : Int) + 1)) := (cell_of b2 1).trans rfl; clear g3 b1 b2) | (go_at_call 62; refine (HH.out _ _).mono ?_; rintro e w4 ⟨rfl, hw⟩; have hw := hw.symm; subst hw) | (go_at_call 63; refine (HN.out _ _).mono ?_; rintro e w4 ⟨rfl, hw⟩; have hw := hw.symm; subst hw))
              go_ret
              exact ⟨rfl, G4.out⟩
          · have c4' : ((a : Int) == y - 1) = false := by simpa using c4
            have hr : R = 0 := by rw [HR.out]; simp [k1, ca, cb, c3, c4]
            subst hr
            go_enter Tryd.func49, Tryd.ntmps49
            go_wp2_with (first | (go_at_call 38; refine (HD.out _ (HG.out.gr K1.out)).mono ?_; rintro e w3 ⟨rfl, g3⟩; have G4 := hid (Gr.alloc (Gr.trans K1.out g3) #[.int .i64 o1, .int .i64 o2, .int .i64 o3, .int .i64 o4, .int .i64 im] 37); have b1 := gr_blk B1.out g3; have b2 := gr_blk B2.out g3; have l1 := lt_of_block b1; have l2 := lt_of_block b2; have m0 : w3.cell? ⟨w.heap.size, 0, none⟩ = some (.slice (some ⟨g, o, none⟩) nc cac) := (cell_of b1 0).trans rfl; have m1 : w3.cell? ⟨w.heap.size, 1, none⟩ = some (.slice aof nf caf) := (cell_of b1 1).trans rfl; have m2 : w3.cell? ⟨w.heap.size, 2, none⟩ = some (.slice aot nt cat) := (cell_of b1 2).trans rfl; have f0 : w3.cell? ⟨w.heap.size + 1, 0, none⟩ = some (.int .i64 x) := (cell_of b2 0).trans rfl; have f1 : w3.cell? ⟨w.heap.size + 1, 1, none⟩ = some (.int .i64 y) := (cell_of b2 1).trans rfl; clear g3 b1 b2) | (go_at_call 62; refine (HH.out _ _).mono ?_; rintro e w4 ⟨rfl, hw⟩; have hw := hw.symm; subst hw) | (go_at_call 63; refine (HN.out _ _).mono ?_; rintro e w4 ⟨rfl, hw⟩; have hw := hw.symm; subst hw))
            go_ret
            exact ⟨rfl, G4.out⟩
    | true =>
      by_cases i0 : im < x
      · have j0 : decide (im < x) = true := decide_eq_true i0
        have hr : R = 82 := by rw [HR.out]; simp [k1, i0]
        subst hr
        go_enter Tryd.func49, Tryd.ntmps49
        go_wp2_with (first | (go_at_call 38; refine (HD.out _ (HG.out.gr K1.out)).mono ?_; rintro e w3 ⟨rfl, g3⟩; have G4 := hid (Gr.alloc (Gr.trans K1.out g3) #[.int .i64 o1, .int .i64 o2, .int .i64 o3, .int .i64 o4, .int .i64 im] 37); have b1 := gr_blk B1.out g3; have b2 := gr_blk B2.out g3; have l1 := lt_of_block b1; have l2 := lt_of_block b2; have m0 : w3.cell? ⟨w.heap.size, 0, none⟩ = some (.slice (some ⟨g, o, none⟩) nc cac) := (cell_of b1 0).trans rfl; have m1 : w3.cell? ⟨w.heap.size, 1, none⟩ = some (.slice aof nf caf) := (cell_of b1 1).trans rfl; have m2 : w3.cell? ⟨w.heap.size, 2, none⟩ = some (.slice aot nt cat) := (cell_of b1 2).trans rfl; have f0 : w3.cell? ⟨w.heap.size + 1, 0, none⟩ = some (.int .i64 x) := (cell_of b2 0).trans rfl; have f1 : w3.cell? ⟨w.heap.size + 1, 1, none⟩ = some (.int .i64 y) := (cell_of b2 1).trans rfl; clear g3 b1 b2) | (go_at_call 62; refine (HH.out _ _).mono ?_; rintro e w4 ⟨rfl, hw⟩; have hw := hw.symm; subst hw) | (go_at_call 63; refine (HN.out _ _).mono ?_; rintro e w4 ⟨rfl, hw⟩; have hw := hw.symm; subst hw))
        go_ret
        exact ⟨rfl, G4.out⟩
      · have j0 : decide (im < x) = false := decide_eq_false i0
        by_cases i1 : y ≤ im
        · have j1 : decide (y ≤ im) = true := decide_eq_true i1
          have hr : R = 82 := by rw [HR.out]; simp [k1, i0, i1]
          subst hr
          go_enter Tryd.func49, Tryd.ntmps49
          go_wp2_with (first | (go_at_call 38; refine (HD.out _ (HG.out.gr K1.out)).mono ?_; rintro e w3 ⟨rfl, g3⟩; have G4 := hid (Gr.alloc (Gr.trans K1.out g3) #[.int .i64 o1, .int .i64 o2, .int .i64 o3, .int .i64 o4, .int .i64 im] 37); have b1 := gr_blk B1.out g3; have b2 := gr_blk B2.out g3; have l1 := lt_of_block b1; have l2 := lt_of_block b2; have m0 : w3.cell? ⟨w.heap.size, 0, none⟩ = some (.slice (some ⟨g, o, none⟩) nc cac) := (cell_of b1 0).trans rfl; have m1 : w3.cell? ⟨w.heap.size, 1, none⟩ = some (.slice aof nf caf) := (cell_of b1 1).trans rfl; have m2 : w3.cell? ⟨w.heap.size, 2, none⟩ = some (.slice aot nt cat) := (cell_of b1 2).trans rfl; have f0 : w3.cell? ⟨w.heap.size + 1, 0, none⟩ = some (.int .i64 x) := (cell_of b2 0).trans rfl; have f1 : w3.cell? ⟨w.heap.size + 1, 1, none⟩ = some (.int .i64 y) := (cell_of b2 1).trans rfl; clear g3 b1 b2) | (go_at_call 62; refine (HH.out _ _).mono ?_; rintro e w4 ⟨rfl, hw⟩; have hw := hw.symm; subst hw) | (go_at_call 63; refine (HN.out _ _).mono ?_; rintro e w4 ⟨rfl, hw⟩; have hw := hw.symm; subst hw))
          go_ret
          exact ⟨rfl, G4.out⟩
        · have j1 : decide (y ≤ im) = false := decide_eq_false i1
          have hop := of_decide_eq_true k1
          have ca : ¬ o1 = 20 := by omega
          have cb : ¬ o1 = 22 := by omega
          have c3 : ¬ o1 = 34 := by omega
          have ca' : (o1 == 20) = false := by simpa using ca
          have cb' : (o1 == 22) = false := by simpa using cb
          have c3' : (o1 == 34) = false := by simpa using c3
          clear hop
          by_cases c4 : (a : Int) = y - 1
          · obtain rfl : y = (a : Int) + 1 := by omega
            clear c4
            cases k4 : en o1 with
            | false =>
              have hr : R = 84 := by rw [HR.out]; simp [k1, i0, i1, ca, cb, c3, k4]
              subst hr
              go_enter Tryd.func49, Tryd.ntmps49
              go_wp2_with (first | (go_at_call 38; refine (HD.out _ (HG.out.gr K1.out)).mono ?_; rintro e w3 ⟨rfl, g3⟩; have G4 := hid (Gr.alloc (Gr.trans K1.out g3) #[.int .i64 o1, .int .i64 o2, .int .i64 o3, .int .i64 o4, .int .i64 im] 37); have b1 := gr_blk B1.out g3; have b2 := gr_blk B2.out g3; have l1 := lt_of_block b1; have l2 := lt_of_block b2; have m0 : w3.cell? ⟨w.heap.size, 0, none⟩ = some (.slice (some ⟨g, o, none⟩) nc cac) := (cell_of b1 0).trans rfl; have m1 : w3.cell? ⟨w.heap.size, 1, none⟩ = some (.slice aof nf caf) := (cell_of b1 1).trans rfl; have m2 : w3.cell? ⟨w.heap.size, 2, none⟩ = some (.slice aot nt cat) := (cell_of b1 2).trans rfl; have f0 : w3.cell? ⟨w.heap.size + 1, 0, none⟩ = some (.int .i64 x) := (cell_of b2 0).trans rfl; have f1 : w3.cell? ⟨w.heap.size + 1, 1, none⟩ = some (.int .i64 ((a : Int) + 1)) := (cell_of b2 1).trans rfl; clear g3 b1 b2) | (go_at_call 62; refine (HH.out _ _).mono ?_; rintro e w4 ⟨rfl, hw⟩; have hw := hw.symm; subst hw) | (go_at_call 63; refine (HN.out _ _).mono ?_; rintro e w4 ⟨rfl, hw⟩; have hw := hw.symm; subst hw))
              go_ret
              exact ⟨rfl, G4.out⟩
            | true =>
              have hr : R = 0 := by rw [HR.out]; simp [k1, i0, i1, ca, cb, c3, k4]
              subst hr
              go_enter Tryd.func49, Tryd.ntmps49
              go_wp2_with (first | (go_at_call 38; refine (HD.out _ (HG.out.gr K1.out)).mono ?_; rintro e w3 ⟨rfl, g3⟩; have G4 := hid (Gr.alloc (Gr.trans K1.out g3) #[.int .i64 o1, .int .i64 o2, .int .i64 o3, .int .i64 o4, .int .i64 im] 37); have b1 := gr_blk B1.out g3; have b2 := gr_blk B2.out g3; have l1 := lt_of_block b1; have l2 := lt_of_block b2; have m0 : w3.cell? ⟨w.heap.size, 0, none⟩ = some (.slice (some ⟨g, o, none⟩) nc cac) := (cell_of b1 0).trans rfl; have m1 : w3.cell? ⟨w.heap.size, 1, none⟩ = some (.slice aof nf caf) := (cell_of b1 1).trans rfl; have m2 : w3.cell? ⟨w.heap.size, 2, none⟩ = some (.slice aot nt cat) := (cell_of b1 2).trans rfl; have f0 : w3.cell? ⟨w.heap.size + 1, 0, none⟩ = some (.int .i64 x) := (cell_of b2 0).trans rfl; have f1 : w3.cell? ⟨w.heap.size + 1, 1, none⟩ = some (.int .i64 ((a : Int) + 1)) := (cell_of b2 1).trans rfl; clear g3 b1 b2) | (go_at_call 62; refine (HH.out _ _).mono ?_; rintro e w4 ⟨rfl, hw⟩; have hw := hw.symm; subst hw) | (go_at_call 63; refine (HN.out _ _).mono ?_; rintro e w4 ⟨rfl, hw⟩; have hw := hw.symm; subst hw))
              go_ret
              exact ⟨rfl, G4.out⟩
          · have c4' : ((a : Int) == y - 1) = false := by simpa using c4
            have hr : R = 0 := by rw [HR.out]; simp [k1, i0, i1, ca, cb, c3, c4]
            subst hr
            go_enter Tryd.func49, Tryd.ntmps49
            go_wp2_with (first | (go_at_call 38; refine (HD.out _ (HG.out.gr K1.out)).mono ?_; rintro e w3 ⟨rfl, g3⟩; have G4 := hid (Gr.alloc (Gr.trans K1.out g3) #[.int .i64 o1, .int .i64 o2, .int .i64 o3, .int .i64 o4, .int .i64 im] 37); have b1 := gr_blk B1.out g3; have b2 := gr_blk B2.out g3; have l1 := lt_of_block b1; have l2 := lt_of_block b2; have m0 : w3.cell? ⟨w.heap.size, 0, none⟩ = some (.slice (some ⟨g, o, none⟩) nc cac) := (cell_of b1 0).trans rfl; have m1 : w3.cell? ⟨w.heap.size, 1, none⟩ = some (.slice aof nf caf) := (cell_of b1 1).trans rfl; have m2 : w3.cell? ⟨w.heap.size, 2, none⟩ = some (.slice aot nt cat) := (cell_of b1 2).trans rfl; have f0 : w3.cell? ⟨w.heap.size + 1, 0, none⟩ = some (.int .i64 x) := (cell_of b2 0).trans rfl; have f1 : w3.cell? ⟨w.heap.size + 1, 1, none⟩ = some (.int .i64 y) := (cell_of b2 1).trans rfl; clear g3 b1 b2) | (go_at_call 62; refine (HH.out _ _).mono ?_; rintro e w4 ⟨rfl, hw⟩; have hw := hw.symm; subst hw) | (go_at_call 63; refine (HN.out _ _).mono ?_; rintro e w4 ⟨rfl, hw⟩; have hw := hw.symm; subst hw))
            go_ret
            exact ⟨rfl, G4.out⟩
  · have hE' : (E == 0) = false := by simpa using hE
    have hr : R = 80 := by rw [HR.out]; simp [hE]
    subst hr
    go_enter Tryd.func49, Tryd.ntmps49
    go_wp2_with (first | (go_at_call 38; refine (HD.out _ (HG.out.gr K1.out)).mono ?_; rintro e w3 ⟨rfl, g3⟩; have G4 := hid (Gr.alloc (Gr.trans K1.out g3) #[.int .i64 o1, .int .i64 o2, .int .i64 o3, .int .i64 o4, .int .i64 im] 37); have b1 := gr_blk B1.out g3; have b2 := gr_blk B2.out g3; have l1 := lt_of_block b1; have l2 := lt_of_block b2; have m0 : w3.cell? ⟨w.heap.size, 0, none⟩ = some (.slice (some ⟨g, o, none⟩) nc cac) := (cell_of b1 0).trans rfl; have m1 : w3.cell? ⟨w.heap.size, 1, none⟩ = some (.slice aof nf caf) := (cell_of b1 1).trans rfl; have m2 : w3.cell? ⟨w.heap.size, 2, none⟩ = some (.slice aot nt cat) := (cell_of b1 2).trans rfl; have f0 : w3.cell? ⟨w.heap.size + 1, 0, none⟩ = some (.int .i64 x) := (cell_of b2 0).trans rfl; have f1 : w3.cell? ⟨w.heap.size + 1, 1, none⟩ = some (.int .i64 y) := (cell_of b2 1).trans rfl; clear g3 b1 b2) | (go_at_call 62; refine (HH.out _ _).mono ?_; rintro e w4 ⟨rfl, hw⟩; have hw := hw.symm; subst hw) | (go_at_call 63; refine (HN.out _ _).mono ?_; rintro e w4 ⟨rfl, hw⟩; have hw := hw.symm; subst hw))
    go_ret
    exact ⟨rfl, G4.out⟩
end Go.Proofs.YtollfepggicehabDoor.Lt
