/-
  What ListingPrints answers of any program. Conditions: the tables lie where they lie; words are words; lists are no longer than the reach lets be.
-/
import Derived.Test.YtbehlhnnfdkmaaaGreatDoorLtLives
import Derived.Test.YtbehlhnnfdkmaaaGreatDoorLtTwin
import Derived.Test.YtbehlhnnfdkmaaaGreatDoorLtPrint
import Derived.Test.YtbehlhnnfdkmaaaGreatDoorLtRPrint
namespace Go.Proofs.YtbehlhnnfdkmaaaGreatDoor.Lt
open Go.RowKit Wd

/-- how many cases there are in all -/
def sq (ts : List Tb) : Nat := (ts.map (fun t => t.cs.length)).sum
/-- is a program too long for any text? -/
def LgR (w : World) (cs : List Int) (ts : List Tb) (e : Ending) (w' : World) : Prop := ∃ B : Bool, e = .returned (.bool B) ∧ (B = false → cs.length + ts.length + sq ts ≤ 262144) ∧ Gr w w'
theorem sq_take {ts : List Tb} {j : Nat} {t : Tb} (h : ts[j]? = some t) : sq (ts.take (j + 1)) = sq (ts.take j) + t.cs.length := by
  unfold sq
  rw [take_one h, List.map_append, List.sum_append]
  simp
theorem ixl_sq : ∀ (ts : List Tb) (n : Nat), (ixl tbL n (ts.map tT)).length = ts.length + sq ts := by
  intro ts
  induction ts with
  | nil => intro n; rfl
  | cons t r ih =>
    intro n
    show (tbL n (tT t) ++ ixl tbL (n + 1) (r.map tT)).length = _
    rw [List.length_append, ih]
    unfold tbL sq tT
    simp
    omega

set_option maxHeartbeats 1000000 in
set_option maxRecDepth 20000 in
theorem tooLong_any (P : Nat → Prop) (w : World) (vc vf vt : Value) (cs : List Int) (fs : List (Int × Int)) (ts : List Tb) (h : Pin P w vc vf vt cs fs ts) (hcl : cs.length ≤ 35184372088832) (htl : ts.length ≤ 4398046511104) (hq : ∀ t ∈ ts, t.cs.length ≤ 4398046511104) :
    Calls Tryz.prog 16 #[.agg #[vc, vf, vt]] w (LgR w cs ts) := by
  obtain ⟨aoc, cac, hia⟩ := h.c.form
  obtain ⟨aof, caf, hib⟩ := h.f.form
  obtain ⟨aot, cat, hic⟩ := h.t.form
  have HT := hid h.t
  have HC := hid h.cs
  have HQ := hid hq
  obtain ⟨nc, hnc⟩ : ∃ n, n = cs.length := ⟨_, rfl⟩
  obtain ⟨nt, hnt⟩ : ∃ n, n = ts.length := ⟨_, rfl⟩
  rw [← hnc] at hia hcl
  rw [← hnt] at hic htl
  generalize fs.length = nf at hib
  have HNC := hid hnc
  have HNT := hid hnt
  subst hia hib hic
  have K1 := hid (Gr.alloc (Gr.refl w) #[.slice aoc nc cac, .slice aof nf caf, .slice aot nt cat] 26)
  have B1 := hid (MapKept.heap_alloc w (.cells #[.slice aoc nc cac, .slice aof nf caf, .slice aot nt cat] 26)).1
  clear h hq hnc hnt
  go_enter Tryz.func16, Tryz.ntmps16
  go_wp2_with fail
  go_loopg [3, 4] nt (fun m a i wq => ∃ (j n : Nat), j + m = nt ∧ a = .int .i64 ((n : Nat) : Int) ∧ i = .int .i64 ((j : Nat) : Int) ∧ n = nc + nt + sq (ts.take j) ∧ n ≤ 50000000000000 ∧ Gr w wq ∧ wq.heap[w.heap.size]? = some (.cells #[.slice aoc nc cac, .slice aof nf caf, .slice aot nt cat] 26 (0, 0)))
  case atStart => exact ⟨0, nc + nt, by omega, by simp, rfl, rfl, by omega, K1.out, B1.out⟩
  case round =>
    clear K1 B1
    obtain ⟨j, n, hjk, rfl, rfl, hn, hnb, hgr, hbk⟩ := hrel
    have HN := hid hn
    have HG := hid hgr
    have HK := hid hbk
    have lk := lt_of_block hbk
    have n2 : wr.cell? ⟨w.heap.size, 2, none⟩ = some (.slice aot nt cat) := (cell_of hbk 2).trans rfl
    clear hn hgr hbk
    by_cases hj : j < nt
    · have j0 : (0 : Int) ≤ (j : Int) := by omega
      have j1 : (j : Int) < (nt : Int) := by omega
      have d1 : decide ((j : Int) < (nt : Int)) = true := decide_eq_true j1
      by_cases hz : n ≤ 262144
      · have hz' : (n : Int) ≤ 262144 := by omega
        have dz : decide ((n : Int) ≤ 262144) = true := decide_eq_true hz'
        obtain ⟨t, hx⟩ : ∃ x, ts[j]? = some x := ⟨_, List.getElem?_eq_getElem (by rw [← HNT.out]; exact hj)⟩
        have HX := hid (sq_take hx)
        have hm := List.mem_of_getElem? hx
        obtain ⟨g, o, cap', hv, _, hgl, hcap, hcs⟩ := HT.out.get eT_len hx
        injection hv with hv1 hv2 hv3
        subst hv1
        obtain ⟨nq, hnq⟩ : ∃ n, n = t.cs.length := ⟨_, rfl⟩
        have hq := HQ.out t hm
        obtain ⟨aq, cq, hcv⟩ := (HC.out t hm).form
        rw [← hnq] at hcv hq HX
        have c0 := (HG.out.cell hgl).trans (hcs 0 _ rfl)
        rw [Nat.add_zero, hcv] at c0
        have gs := HG.out.size
        have lg : g < wr.heap.size := by omega
        clear hv2 hv3 hcs hx hcap hgl hnq hcv hm
        go_wp2_with fail
        go_roundg (gk - 1)
        case measure => omega
        case rel => exact ⟨j + 1, n + nq, by omega, by simp, by simp, by rw [HX.out, HN.out]; omega, by omega, HG.out, HK.out⟩
      · have hz' : ¬ (n : Int) ≤ 262144 := by omega
        have dz : decide ((n : Int) ≤ 262144) = false := decide_eq_false hz'
        have hz2 : (262144 : Int) < (n : Int) := by omega
        go_wp2
        go_ret
        exact ⟨true, rfl, fun q => Bool.noConfusion q, HG.out⟩
    · have jn : ¬ (j : Int) < (nt : Int) := by omega
      have d1 : decide ((j : Int) < (nt : Int)) = false := decide_eq_false jn
      by_cases hz : n ≤ 262144
      · have hz2 : ¬ (262144 : Int) < (n : Int) := by omega
        have HR := hid (show cs.length + ts.length + sq ts ≤ 262144 by
          have := HN.out
          rw [show j = ts.length by rw [← HNT.out]; omega, List.take_length] at this
          rw [← HNC.out, ← HNT.out]
          omega)
        go_wp2
        go_ret
        exact ⟨false, rfl, fun _ => HR.out, HG.out⟩
      · have hz2 : (262144 : Int) < (n : Int) := by omega
        go_wp2
        go_ret
        exact ⟨true, rfl, fun q => Bool.noConfusion q, HG.out⟩

theorem cfs_map (ts : List Tb) : cfs ts = (ts.map tT).all (fun p => p.1.all cf) := by
  unfold cfs
  rw [List.all_map]
  rfl
/-- what is printed hangs on what the tables say alone -/
theorem prE_map {cs : List Int} {fs : List (Int × Int)} {ts us : List Tb} (h : us.map tT = ts.map tT) : prE cs fs us = prE cs fs ts ∧ prT cs fs us = prT cs fs ts := by
  have hl : us.length = ts.length := by rw [← List.length_map (f := tT), h, List.length_map]
  have hc : chk cs fs us = chk cs fs ts := by unfold chk; rw [cfs_map, cfs_map, h, hl]
  unfold prE prT
  rw [hc, h]
  exact ⟨rfl, rfl⟩
/-- Print of a program's copy -/
theorem print_twin (w w1 : World) (cs : List Int) (fs : List (Int × Int)) (ts us : List Tb) (vc vf vt : Value) (hm : us.map (fun t => (t.cs, t.df)) = ts.map (fun t => (t.cs, t.df))) (oc : Ow eU 1 39 (w.heap.size + 3) w1 vc cs) (of_ : Ow eG 2 41 (w.heap.size + 3) w1 vf fs) (ot : Ow eT 2 44 (w.heap.size + 3) w1 vt us) (os : ∀ t ∈ us, Ow eC 4 46 (w.heap.size + 3) w1 t.cv t.cs)
    (hcl : cs.length ≤ 35184372088832) (hfl : fs.length ≤ 8796093022208) (htl : ts.length ≤ 4398046511104) (hq : ∀ t ∈ ts, t.cs.length ≤ 4398046511104) (hu : U32s cs) (hg : Glb w1) (hB : 10 < w1.heap.size) :
    Calls Tryz.prog 17 #[.agg #[vc, vf, vt]] w1 fun e w' => e = .returned (.tuple #[.string (prT cs fs ts), .int .i64 (prE cs fs ts)]) ∧ Gr w1 w' := by
  have hl : us.length = ts.length := by rw [← List.length_map (f := fun t : Tb => (t.cs, t.df)), hm, List.length_map]
  have hq2 : ∀ t ∈ us, t.cs.length ≤ 4398046511104 := fun t ht => by
    have h1 : (t.cs, t.df) ∈ ts.map (fun t => (t.cs, t.df)) := by rw [← hm]; exact List.mem_map.2 ⟨t, ht, rfl⟩
    obtain ⟨s, hs, e⟩ := List.mem_map.1 h1
    injection e with e1 e2
    rw [← e1]
    exact hq s hs
  obtain ⟨e1, e2⟩ := prE_map (cs := cs) (fs := fs) (ts := ts) (us := us) hm
  rw [← e1, ← e2]
  exact print_any _ w1 vc vf vt cs fs us ⟨oc.lst, of_.lst, ot.lst, fun t ht => (os t ht).lst⟩ hcl hfl (by rw [hl]; exact htl) hq2 hu hg hB

set_option maxHeartbeats 1000000 in
set_option maxRecDepth 100000 in
theorem prints_any (P : Nat → Prop) (w : World) (ia ib ic : Value) (cs : List Int) (fs : List (Int × Int)) (ts : List Tb) (h : Pin P w ia ib ic cs fs ts) (hc : cs.length ≤ 35184372088832) (hf : fs.length ≤ 8796093022208) (ht : ts.length ≤ 4398046511104) (hq : ∀ t ∈ ts, t.cs.length ≤ 4398046511104) (hu : U32s cs) (hg : Glb w) (hB : 10 < w.heap.size) :
    Calls Tryz.prog 5 #[.agg #[ia, ib, ic]] w fun e w' => e = .returned (.bool true) ∧ Gr w w' := by
  have HLG := hid (fun (W : World) (p : Gr w W) => tooLong_any P W ia ib ic cs fs ts (h.gr p) hc ht hq)
  have HTW := hid (fun (Q : Nat → Prop) (W : World) (a b c : Value) (cs : List Int) (fs : List (Int × Int)) (ts : List Tb) (p : Pin Q W a b c cs fs ts) (h1 : cs.length ≤ 35184372088832) (h2 : fs.length ≤ 8796093022208) (h3 : ts.length ≤ 4398046511104) (h4 : ∀ t ∈ ts, t.cs.length ≤ 4398046511104) => twin_any Q W a b c cs fs ts p h1 h2 h3 h4)
  have HV := hid (fun (W : World) (q : Glb W) => lives_any W q)
  have HIN := hid h
  have HC := hid hc
  have HF := hid hf
  have HT := hid ht
  have HQ := hid hq
  have HU := hid hu
  have HG := hid hg
  have HB := hid hB
  obtain ⟨aoc, cac, hia⟩ := h.c.form
  obtain ⟨aof, caf, hib⟩ := h.f.form
  obtain ⟨aot, cat, hic⟩ := h.t.form
  generalize cs.length = nc at hia
  generalize fs.length = nf at hib
  generalize ts.length = nt at hic
  subst hia hib hic
  have K1 := hid (Gr.alloc (Gr.refl w) #[.slice aoc nc cac, .slice aof nf caf, .slice aot nt cat] 26)
  have B1 := hid (MapKept.heap_alloc w (.cells #[.slice aoc nc cac, .slice aof nf caf, .slice aot nt cat] 26)).1
  clear h hc hf ht hq hu hg hB
  go_enter Tryz.func5, Tryz.ntmps5
  go_wp2_with fail
  refine (HLG.out _ K1.out).mono ?_
  rintro e w1 ⟨B, rfl, hfew, g1⟩
  have HFEW := hid hfew
  have G1 := hid (Gr.trans K1.out g1)
  have B2 := hid (gr_blk B1.out g1)
  have l1 := lt_of_block B2.out
  clear hfew g1
  cases B with
  | false =>
    have few := HFEW.out rfl
    have p0 : w1.cell? ⟨w.heap.size, 0, none⟩ = some (.slice aoc nc cac) := (cell_of B2.out 0).trans rfl
    have p1 : w1.cell? ⟨w.heap.size, 1, none⟩ = some (.slice aof nf caf) := (cell_of B2.out 1).trans rfl
    have p2 : w1.cell? ⟨w.heap.size, 2, none⟩ = some (.slice aot nt cat) := (cell_of B2.out 2).trans rfl
    have HRP := hid (fun (W : World) (p : Gr w W) => rprint_any P W _ _ _ cs fs ts (HIN.out.gr p) (by omega) HF.out HT.out HQ.out (by rw [ixl_sq]; omega) HU.out)
    have HPT := hid (fun (w0 w1 : World) (us : List Tb) (vc vf vt : Value) hm oc of_ ot os (hg : Glb w1) hB => print_twin w0 w1 cs fs ts us vc vf vt hm oc of_ ot os HC.out HF.out HT.out HQ.out HU.out hg hB)
    generalize prT cs fs ts = S at HRP HPT
    generalize prE cs fs ts = E at HRP HPT
    clear HFEW few HLG
    go_wp2_with (first | (go_at_call 14; refine (HTW.out _ _ _ _ _ _ _ _ (HIN.out.gr G1.out) HC.out HF.out HT.out HQ.out).mono ?_; rintro e w2 ⟨vc, vf, vt, us, rfl, hm, oc, of_, ot, os, _, g2⟩; have HPR := hid (fun (hg : Glb w2) hB => HPT.out w1 w2 us vc vf vt hm oc of_ ot os hg hB); have G2 := hid (Gr.trans G1.out g2); have B3 := hid (gr_blk B2.out g2); clear g2 hm oc of_ ot os) | (go_at_call 17; refine (HPR.out (HG.out.gr G2.out) (Nat.lt_of_lt_of_le HB.out G2.out.size)).mono ?_; rintro e w3 ⟨rfl, g3⟩; have G3 := hid (Gr.trans G2.out g3); have b4 := gr_blk B3.out g3; have l3 := lt_of_block b4; have r0 : w3.cell? ⟨w.heap.size, 0, none⟩ = some (.slice aoc nc cac) := (cell_of b4 0).trans rfl; have r1 : w3.cell? ⟨w.heap.size, 1, none⟩ = some (.slice aof nf caf) := (cell_of b4 1).trans rfl; have r2 : w3.cell? ⟨w.heap.size, 2, none⟩ = some (.slice aot nt cat) := (cell_of b4 2).trans rfl; clear g3 b4) | (go_at_call 18; refine (HRP.out _ G3.out).mono ?_; rintro e w4 ⟨rfl, g4⟩; have G4 := hid (Gr.trans G3.out g4); clear g4) | (go_at_call 11; refine (HV.out _ (HG.out.gr G4.out)).mono ?_; rintro e w5 ⟨rfl, g5⟩; have G5 := hid (Gr.trans G4.out g5); clear g5))
    go_ret
    exact ⟨rfl, G5.out⟩
  | true =>
    have p0 : w1.cell? ⟨w.heap.size, 0, none⟩ = some (.slice aoc nc cac) := (cell_of B2.out 0).trans rfl
    have p1 : w1.cell? ⟨w.heap.size, 1, none⟩ = some (.slice aof nf caf) := (cell_of B2.out 1).trans rfl
    have p2 : w1.cell? ⟨w.heap.size, 2, none⟩ = some (.slice aot nt cat) := (cell_of B2.out 2).trans rfl
    have z0 := frozen_of B2.out 0
    have z1 := frozen_of B2.out 1
    have z2 := frozen_of B2.out 2
    have HZ := hid (fun (W : World) => (⟨Ls.nil _ _ _, Ls.nil _ _ _, Ls.nil _ _ _, fun t ht => by cases ht⟩ : Pin (fun _ => True) W (.slice none 0 0) (.slice none 0 0) (.slice none 0 0) [] [] []))
    have HRP := hid (fun (W : World) => rprint_any _ W _ _ _ [] [] [] (HZ.out W) (by simp) (by simp) (by simp) (fun t ht => by cases ht) (by simp [ixl]) (fun x hx => by cases hx))
    have HPT := hid (fun (w0 w1 : World) (us : List Tb) (vc vf vt : Value) hm oc of_ ot os (hg : Glb w1) hB => print_twin w0 w1 [] [] [] us vc vf vt hm oc of_ ot os (by simp) (by simp) (by simp) (fun t ht => by cases ht) (fun x hx => by cases hx) hg hB)
    generalize prT [] [] [] = S at HRP HPT
    generalize prE [] [] [] = E at HRP HPT
    have KS := hid (show Gr w (((w1.setCell ⟨w.heap.size, 0, none⟩ (.slice none 0 0)).setCell ⟨w.heap.size, 1, none⟩ (.slice none 0 0)).setCell ⟨w.heap.size, 2, none⟩ (.slice none 0 0)) from Ch.fresh (Ch.fresh (Ch.fresh G1.out (Nat.le_refl _) _ _) (Nat.le_refl _) _ _) (Nat.le_refl _) _ _)
    have BS := hid (show (((w1.setCell ⟨w.heap.size, 0, none⟩ (.slice none 0 0)).setCell ⟨w.heap.size, 1, none⟩ (.slice none 0 0)).setCell ⟨w.heap.size, 2, none⟩ (.slice none 0 0)).heap[w.heap.size]? = some (.cells #[.slice none 0 0, .slice none 0 0, .slice none 0 0] 26 (0, 0)) by
      have := setCell_block (setCell_block (setCell_block B2.out 0 (.slice none 0 0)) 1 (.slice none 0 0)) 2 (.slice none 0 0)
      simpa using this)
    clear HFEW HLG
    go_wp2_with (first | (go_at_call 14; refine (HTW.out _ _ _ _ _ [] [] [] (HZ.out _) (by simp) (by simp) (by simp) (fun t ht => by cases ht)).mono ?_; rintro e w2 ⟨vc, vf, vt, us, rfl, hm, oc, of_, ot, os, _, g2⟩; have HPR := hid (fun (hg : Glb w2) hB => HPT.out _ w2 us vc vf vt hm oc of_ ot os hg hB); have G2 := hid (Gr.trans KS.out g2); have B3 := hid (gr_blk BS.out g2); clear g2 hm oc of_ ot os) | (go_at_call 17; refine (HPR.out (HG.out.gr G2.out) (Nat.lt_of_lt_of_le HB.out G2.out.size)).mono ?_; rintro e w3 ⟨rfl, g3⟩; have G3 := hid (Gr.trans G2.out g3); have b4 := gr_blk B3.out g3; have l3 := lt_of_block b4; have r0 : w3.cell? ⟨w.heap.size, 0, none⟩ = some (.slice none 0 0) := (cell_of b4 0).trans rfl; have r1 : w3.cell? ⟨w.heap.size, 1, none⟩ = some (.slice none 0 0) := (cell_of b4 1).trans rfl; have r2 : w3.cell? ⟨w.heap.size, 2, none⟩ = some (.slice none 0 0) := (cell_of b4 2).trans rfl; clear g3 b4) | (go_at_call 18; refine (HRP.out _).mono ?_; rintro e w4 ⟨rfl, g4⟩; have G4 := hid (Gr.trans G3.out g4); clear g4) | (go_at_call 11; refine (HV.out _ (HG.out.gr G4.out)).mono ?_; rintro e w5 ⟨rfl, g5⟩; have G5 := hid (Gr.trans G4.out g5); clear g5))
    go_ret
    exact ⟨rfl, G5.out⟩
end Go.Proofs.YtbehlhnnfdkmaaaGreatDoor.Lt
