/-
  What the document's fits answers. Conditions: lists are no longer than the reach lets be; words are words.
-/
import Derived.Test.YtbehlhnnfdkmaaaGreatDoorLtMc
import Derived.Test.YtbehlhnnfdkmaaaGreatDoorLtRPart
import Derived.Test.YtbehlhnnfdkmaaaGreatDoorLtRegion
namespace Go.Proofs.YtbehlhnnfdkmaaaGreatDoor.Lt
open Go.RowKit Wd

theorem thW_no {nf nt : Nat} {f : Int × Int} {ws : List Int} {x : Int} (hx : x ∈ ws) (hd : dE x = 0) (ht : thr nf nt f (dI x) = false) : thW nf nt f ws = false := by
  unfold thW
  rw [List.all_eq_false]
  exact ⟨x, hx, by simp [hd, ht]⟩
theorem thA_no {nf nt : Nat} {cs : List Int} {fs : List (Int × Int)} {f : Int × Int} (hf : f ∈ fs) (h : thW nf nt f (wf cs f) = false) : thA nf nt cs fs = false := by
  unfold thA
  rw [List.all_eq_false]
  exact ⟨f, hf, by simp [h]⟩
theorem thW_yes {nf nt : Nat} {cs : List Int} {x y : Nat} (hxy : x ≤ y) (hy : y ≤ cs.length) (h : ∀ i, i < y - x → ∀ u, cs[x + i]? = some u → dE u = 0 → thr nf nt ((x : Nat), (y : Nat)) (dI u) = true) : thW nf nt ((x : Nat), (y : Nat)) (wf cs ((x : Nat), (y : Nat))) = true := by
  unfold thW
  rw [List.all_eq_true]
  intro u hu
  obtain ⟨j, hj⟩ := List.getElem?_of_mem hu
  have hjl : j < y - x := by rw [← wf_len hxy hy]; exact (List.getElem?_eq_some_iff.1 hj).1
  rw [wf_get hjl] at hj
  exact decide_eq_true (h j hjl u hj)

set_option maxHeartbeats 4000000 in
set_option maxRecDepth 20000 in
theorem rfits_any (P : Nat → Prop) (w : World) (vc vf vt : Value) (cs : List Int) (fs : List (Int × Int)) (ts : List Tb) (h : Pin P w vc vf vt cs fs ts) (hcl : cs.length ≤ 35184372088832) (hfl : fs.length ≤ 8796093022208) (htl : ts.length ≤ 4398046511104) (hq : ∀ t ∈ ts, t.cs.length ≤ 4398046511104) (hu : U32s cs) :
    Calls Tryz.prog 42 #[.agg #[vc, vf, vt]] w fun e w' => e = .returned (.bool (fts cs fs ts)) ∧ Gr w w' := by
  have HIN := hid h
  have HU := hid hu
  have HQ := hid hq
  have HPT := hid (fun (W : World) (p : Gr w W) => rparts_any P W vc vf vt cs fs ts (h.gr p) hfl)
  obtain ⟨aoc, cac, hia⟩ := h.c.form
  obtain ⟨aof, caf, hib⟩ := h.f.form
  obtain ⟨aot, cat, hic⟩ := h.t.form
  obtain ⟨B, hB⟩ : ∃ b, b = fts cs fs ts := ⟨_, rfl⟩
  rw [← hB]
  unfold fts at hB
  obtain ⟨b1, hb1⟩ : ∃ b, b = ptd fs cs.length := ⟨_, rfl⟩
  rw [← hb1] at HPT hB
  have HB1 := hid hb1
  obtain ⟨nc, hnc⟩ : ∃ n, n = cs.length := ⟨_, rfl⟩
  obtain ⟨nf, hnf⟩ : ∃ n, n = fs.length := ⟨_, rfl⟩
  obtain ⟨nt, hnt⟩ : ∃ n, n = ts.length := ⟨_, rfl⟩
  rw [← hnc] at hia hcl HB1
  rw [← hnf] at hib hfl hB
  rw [← hnt] at hic htl hB
  have HNC := hid hnc
  have HNF := hid hnf
  have HNT := hid hnt
  have HB := hid hB
  subst hia hib hic
  have K1 := hid (Gr.alloc (Gr.refl w) #[.slice aoc nc cac, .slice aof nf caf, .slice aot nt cat] 26)
  have B1 := hid (MapKept.heap_alloc w (.cells #[.slice aoc nc cac, .slice aof nf caf, .slice aot nt cat] 26)).1
  clear h hu hq hb1 hnc hnf hnt hB
  cases b1 with
  | false =>
    have hb : B = false := by rw [HB.out]; simp
    subst hb
    go_enter Tryz.func42, Tryz.ntmps42
    go_wp2_with (go_at_call 87; refine (HPT.out _ K1.out).mono ?_; rintro e w1 ⟨rfl, g1⟩; have G1 := hid (Gr.trans K1.out g1); clear g1)
    go_ret
    exact ⟨rfl, G1.out⟩
  | true =>
    have HPR := hid (ptd_pr HB1.out.symm)
    have HB2 := hid (show B = (cfs ts && thA nf nt cs fs) by rw [HB.out]; simp)
    clear HB HB1
    go_enter Tryz.func42, Tryz.ntmps42
    go_wp2_with (go_at_call 87; refine (HPT.out _ K1.out).mono ?_; rintro e w1 ⟨rfl, g1⟩; have G1 := hid (Gr.trans K1.out g1); have BB := hid (gr_blk B1.out g1); clear g1)
    clear HPT K1 B1
    go_loopg [3] nt (fun m i wq => ∃ j : Nat, j + m = nt ∧ i = .int .i64 ((j : Nat) : Int) ∧ (∀ (l : Nat) t, l < j → ts[l]? = some t → t.cs.all cf = true) ∧ Gr w wq ∧ wq.heap[w.heap.size]? = some (.cells #[.slice aoc nc cac, .slice aof nf caf, .slice aot nt cat] 26 (0, 0)))
    case atStart => exact ⟨0, by omega, rfl, fun l t q => by omega, G1.out, BB.out⟩
    case round =>
      clear G1 BB
      obtain ⟨j, hjk, rfl, hal, hgr, hbk⟩ := hrel
      have HA := hid hal
      have HR := hid hgr
      have HK := hid hbk
      have lk := lt_of_block hbk
      have n2 : wr.cell? ⟨w.heap.size, 2, none⟩ = some (.slice aot nt cat) := (cell_of hbk 2).trans rfl
      obtain ⟨GK, hGK⟩ : ∃ n, n = gk - 1 := ⟨_, rfl⟩
      have HGK := hid hGK
      have HJ := hid hjk
      clear hal hgr hGK hbk
      by_cases hj : j < nt
      · obtain ⟨t, hx⟩ : ∃ x, ts[j]? = some x := ⟨_, List.getElem?_eq_getElem (by rw [← HNT.out]; exact hj)⟩
        have HX := hid hx
        have HM := hid (List.mem_of_getElem? hx)
        obtain ⟨g, o, cap', hv, _, hgl, hcap, hcs⟩ := HIN.out.t.get eT_len hx
        injection hv with hv1 hv2 hv3
        subst hv1
        obtain ⟨nq, hnq⟩ : ∃ n, n = t.cs.length := ⟨_, rfl⟩
        have HNQ := hid hnq
        have hq := HQ.out t HM.out
        rw [← hnq] at hq
        obtain ⟨aq, cq, hcv⟩ := (HIN.out.cs t HM.out).form
        rw [← hnq] at hcv
        have HCV := hid hcv
        have HT0 := hid (show ∀ W, Gr w W → W.cell? ⟨g, o + j * 2, none⟩ = some (.slice aq nq cq) from fun W k => by
          have := (k.cell hgl).trans (hcs 0 _ rfl)
          rw [Nat.add_zero, hcv] at this
          exact this)
        have HLG := hid (show ∀ W, Gr w W → g < W.heap.size from fun W k => Nat.lt_of_lt_of_le hgl k.size)
        have j0 : (0 : Int) ≤ (j : Int) := by omega
        have j1 : (j : Int) < (nt : Int) := by omega
        clear hv2 hv3 hcs hx hcap hgl hnq hcv hjk
        go_wp2_with fail
        clear n2 lk
        rename World => V
        go_loopg [4] nq (fun m i wq => ∃ k : Nat, k + m = nq ∧ i = .int .i64 ((k : Nat) : Int) ∧ (∀ (l : Nat) c, l < k → t.cs[l]? = some c → cf c = true) ∧ Gr w wq ∧ wq.heap[w.heap.size]? = some (.cells #[.slice aoc nc cac, .slice aof nf caf, .slice (some ⟨g, o, none⟩) nt cat] 26 (0, 0)))
        case atStart => exact ⟨0, by omega, rfl, fun l c q => by omega, HR.out, HK.out⟩
        case round =>
          clear HR HK
          obtain ⟨k, hkk, rfl, hall, hgr, hbk⟩ := hrel
          have HA2 := hid hall
          have HR := hid hgr
          have HK := hid hbk
          have lk := lt_of_block hbk
          have n2 : wr.cell? ⟨w.heap.size, 2, none⟩ = some (.slice (some ⟨g, o, none⟩) nt cat) := (cell_of hbk 2).trans rfl
          have t0 := HT0.out wr hgr
          have lg := HLG.out wr hgr
          clear hall hgr hbk
          by_cases hk : k < nq
          · obtain ⟨c, hx⟩ : ∃ x, t.cs[k]? = some x := ⟨_, List.getElem?_eq_getElem (by rw [← HNQ.out]; exact hk)⟩
            have HX2 := hid hx
            have HCF := hid (cf_reg c)
            obtain ⟨gq, oq, cap', hv, _, hgl, hcap, hcs⟩ := (HIN.out.cs t HM.out).get eC_len hx
            rw [HCV.out] at hv
            injection hv with hv1 hv2 hv3
            subst hv1
            have c0 := (HR.out.cell hgl).trans (hcs 0 _ rfl)
            have c1 := (HR.out.cell hgl).trans (hcs 1 _ rfl)
            have c2 := (HR.out.cell hgl).trans (hcs 2 _ rfl)
            have c3 := (HR.out.cell hgl).trans (hcs 3 _ rfl)
            rw [Nat.add_zero] at c0
            have gs := HR.out.size
            have lq : gq < wr.heap.size := by omega
            have q0 : (0 : Int) ≤ (k : Int) := by omega
            have q1 : (k : Int) < (nq : Int) := by omega
            have HNO := hid (show cf c = false → B = false from fun q => by
              rw [HB2.out]
              have e : cfs ts = false := by
                unfold cfs
                rw [List.all_eq_false]
                refine ⟨t, HM.out, ?_⟩
                simp only [List.all_eq_true, Classical.not_forall]
                exact ⟨c, List.mem_of_getElem? HX2.out, by simp [q]⟩
              rw [e]
              rfl)
            have HYES := hid (show cf c = true → ∀ (l : Nat) d, l < k + 1 → t.cs[l]? = some d → cf d = true from fun q l d q1 q2 => by
              by_cases e : l = k
              · subst e
                rw [HX2.out] at q2
                injection q2 with q2
                rw [← q2]
                exact q
              · exact HA2.out l d (by omega) q2)
            have HRE := hid (fun (n : Int) (W : World) => reg_any n W)
            obtain ⟨s, a, b, d⟩ := c
            simp only at c0 c1 c2 c3 HCF
            clear hv2 hv3 hcs hx hcap hgl
            cases r1 : rg a with
            | false =>
              have hb : B = false := HNO.out (by rw [HCF.out]; simp [r1])
              subst hb
              go_wp2_with (go_at_call 88; refine (HRE.out _ _).mono ?_; rintro e w5 ⟨rfl, hw⟩; have hw := hw.symm; subst hw)
              go_ret
              exact ⟨rfl, Ch.alloc HR.out _⟩
            | true =>
              cases r2 : rg b with
              | false =>
                have hb : B = false := HNO.out (by rw [HCF.out]; simp [r2])
                subst hb
                go_wp2_with (go_at_call 88; refine (HRE.out _ _).mono ?_; rintro e w5 ⟨rfl, hw⟩; have hw := hw.symm; subst hw)
                go_ret
                exact ⟨rfl, Ch.alloc HR.out _⟩
              | true =>
                cases s with
                | true =>
                  have HY := hid (HYES.out (by rw [HCF.out]; simp [r1, r2]))
                  go_wp2_with (go_at_call 88; refine (HRE.out _ _).mono ?_; rintro e w5 ⟨rfl, hw⟩; have hw := hw.symm; subst hw)
                  go_roundg (gk - 1)
                  case measure => omega
                  case rel => exact ⟨k + 1, by omega, by simp, HY.out, Ch.alloc HR.out _, al_blk HK.out _⟩
                | false =>
                  cases r3 : rg d with
                  | false =>
                    have hb : B = false := HNO.out (by rw [HCF.out]; simp [r3])
                    subst hb
                    go_wp2_with (go_at_call 88; refine (HRE.out _ _).mono ?_; rintro e w5 ⟨rfl, hw⟩; have hw := hw.symm; subst hw)
                    go_ret
                    exact ⟨rfl, Ch.alloc HR.out _⟩
                  | true =>
                    have HY := hid (HYES.out (by rw [HCF.out]; simp [r1, r2, r3]))
                    go_wp2_with (go_at_call 88; refine (HRE.out _ _).mono ?_; rintro e w5 ⟨rfl, hw⟩; have hw := hw.symm; subst hw)
                    go_roundg (gk - 1)
                    case measure => omega
                    case rel => exact ⟨k + 1, by omega, by simp, HY.out, Ch.alloc HR.out _, al_blk HK.out _⟩
          · have kn : ¬ (k : Int) < (nq : Int) := by omega
            have HT2 := hid (show t.cs.all cf = true by
              rw [List.all_eq_true]
              intro c hc
              obtain ⟨l, hl⟩ := List.getElem?_of_mem hc
              exact HA2.out l c (by have := (List.getElem?_eq_some_iff.1 hl).1; rw [← HNQ.out] at this; omega) hl)
            go_wp2_with fail
            go_roundg GK
            case measure => have := HGK.out; have := HJ.out; omega
            case rel =>
              refine ⟨j + 1, by have := HGK.out; have := HJ.out; omega, by simp, fun l d q1 q2 => ?_, HR.out, HK.out⟩
              by_cases e : l = j
              · subst e
                rw [HX.out] at q2
                injection q2 with q2
                rw [← q2]
                exact HT2.out
              · exact HA.out l d (by omega) q2
      · have jn : ¬ (j : Int) < (nt : Int) := by omega
        have HB3 := hid (show B = thA nf nt cs fs by
          have hb : cfs ts = true := by
            unfold cfs
            rw [List.all_eq_true]
            intro t hm
            obtain ⟨l, hl⟩ := List.getElem?_of_mem hm
            exact HA.out l t (by have := (List.getElem?_eq_some_iff.1 hl).1; rw [← HNT.out] at this; omega) hl
          rw [HB2.out, hb]
          simp)
        clear HB2 HA HGK HJ
        go_wp2_with fail
        clear n2 lk
        rename World => V
        go_loopg [6] nf (fun m i wq => ∃ (j x : Nat), j + m = nf ∧ i = .int .i64 ((j : Nat) : Int) ∧ pr (fs.drop j) (x : Int) = some (nc : Int) ∧ (∀ (l : Nat) f, l < j → fs[l]? = some f → thW nf nt f (wf cs f) = true) ∧ Gr w wq ∧ wq.heap[w.heap.size]? = some (.cells #[.slice aoc nc cac, .slice aof nf caf, .slice aot nt cat] 26 (0, 0)))
        case atStart => exact ⟨0, 0, by omega, rfl, HPR.out, fun l t q => by omega, HR.out, HK.out⟩
        case round =>
          clear HR HK
          clear hjk jn hj
          obtain ⟨j, x, hjk, rfl, hpr, hal, hgr, hbk⟩ := hrel
          have HA := hid hal
          have HR := hid hgr
          have HK := hid hbk
          have lk := lt_of_block hbk
          have n1 : wr.cell? ⟨w.heap.size, 1, none⟩ = some (.slice aof nf caf) := (cell_of hbk 1).trans rfl
          obtain ⟨GK, hGK⟩ : ∃ n, n = gk - 1 := ⟨_, rfl⟩
          have HGK := hid hGK
          have HJ := hid hjk
          have HPR2 := hid hpr
          clear hal hgr hGK hbk hpr
          by_cases hj : j < nf
          · obtain ⟨⟨x1, x2⟩, hx⟩ : ∃ f, fs[j]? = some f := ⟨_, List.getElem?_eq_getElem (by rw [← HNF.out]; exact hj)⟩
            have HX := hid hx
            have hp1 := HPR2.out
            rw [pr_cons hx (x : Int)] at hp1
            split at hp1
            case isFalse => cases hp1
            case isTrue hq =>
              obtain ⟨rfl, hq2⟩ := hq
              simp only at hq2 hp1
              have hle := pr_le _ _ _ hp1
              obtain ⟨y, rfl⟩ : ∃ y : Nat, x2 = (y : Nat) := ⟨x2.toNat, by omega⟩
              have HP1 := hid hp1
              have hxy : x < y := by omega
              have hyn : y ≤ nc := by omega
              obtain ⟨g, o, cap', hv, _, hgl, hcap, hcs⟩ := HIN.out.f.get eG_len hx
              injection hv with hv1 hv2 hv3
              subst hv1
              have HT0 := hid (show ∀ W, Gr w W → W.cell? ⟨g, o + j * 2, none⟩ = some (.int .i64 (x : Nat)) from fun W k => (k.cell hgl).trans (hcs 0 _ rfl))
              have HT1 := hid (show ∀ W, Gr w W → W.cell? ⟨g, o + j * 2 + 1, none⟩ = some (.int .i64 (y : Nat)) from fun W k => (k.cell hgl).trans (hcs 1 _ rfl))
              have HLG := hid (show ∀ W, Gr w W → g < W.heap.size from fun W k => Nat.lt_of_lt_of_le hgl k.size)
              have c0 := HT0.out wr HR.out
              have lg := HLG.out wr HR.out
              have j0 : (0 : Int) ≤ (j : Int) := by omega
              have j1 : (j : Int) < (nf : Int) := by omega
              clear hv2 hv3 hcs hx hcap hgl hjk hp1 hle hq2
              go_wp2_with fail
              clear n1 lk c0 lg
              rename World => V2
              go_loopg [7] (y - x) (fun m i wq => ∃ a : Nat, a + m = y ∧ x ≤ a ∧ i = .int .i64 ((a : Nat) : Int) ∧ (∀ i, i < a - x → ∀ u, cs[x + i]? = some u → dE u = 0 → thr nf nt ((x : Nat), (y : Nat)) (dI u) = true) ∧ Gr w wq ∧ wq.heap[w.heap.size]? = some (.cells #[.slice aoc nc cac, .slice (some ⟨g, o, none⟩) nf caf, .slice aot nt cat] 26 (0, 0)))
              case atStart => exact ⟨x, by omega, by omega, rfl, fun l q => by omega, HR.out, HK.out⟩
              case round =>
                clear HR HK
                obtain ⟨a, hak, hxa, rfl, hall, hgr, hbk⟩ := hrel
                have HA2 := hid hall
                have HR := hid hgr
                have HK := hid hbk
                have lk := lt_of_block hbk
                have n0 : wr.cell? ⟨w.heap.size, 0, none⟩ = some (.slice aoc nc cac) := (cell_of hbk 0).trans rfl
                have n1 : wr.cell? ⟨w.heap.size, 1, none⟩ = some (.slice (some ⟨g, o, none⟩) nf caf) := (cell_of hbk 1).trans rfl
                have t1 := HT1.out wr hgr
                have lg := HLG.out wr hgr
                clear hall hgr hbk
                by_cases ha : a < y
                · obtain ⟨n, hx⟩ : ∃ x, cs[a]? = some x := ⟨_, List.getElem?_eq_getElem (by rw [← HNC.out]; omega)⟩
                  have HX2 := hid hx
                  obtain ⟨u0, u1⟩ := HU.out n (List.mem_of_getElem? hx)
                  have HD := hid (fun (W : World) => rdecode_all n u0 u1 W)
                  have HNO := hid (show dE n = 0 → thr nf nt ((x : Nat), (y : Nat)) (dI n) = false → B = false from fun q1 q2 => by
                    rw [HB3.out]
                    refine thA_no (List.mem_of_getElem? HX.out) (thW_no (x := n) ?_ q1 q2)
                    have e := wf_get (cs := cs) (a := x) (b := y) (k := a - x) (by omega)
                    rw [show x + (a - x) = a by omega, HX2.out] at e
                    exact List.mem_of_getElem? e)
                  have HYES := hid (show (dE n = 0 → thr nf nt ((x : Nat), (y : Nat)) (dI n) = true) → ∀ i, i < a + 1 - x → ∀ u, cs[x + i]? = some u → dE u = 0 → thr nf nt ((x : Nat), (y : Nat)) (dI u) = true from fun q i q1 u q2 => by
                    by_cases e : i = a - x
                    · rw [e, show x + (a - x) = a by omega, HX2.out] at q2
                      injection q2 with q2
                      rw [← q2]
                      exact q
                    · exact HA2.out i (by omega) u q2)
                  obtain ⟨gq, oq, cap', hv, _, hgl, hcap, hcs⟩ := HIN.out.c.get eU_len hx
                  injection hv with hv1 hv2 hv3
                  subst hv1
                  have c0 := (HR.out.cell hgl).trans (hcs 0 _ rfl)
                  rw [Nat.mul_one, Nat.add_zero] at c0
                  have gs := HR.out.size
                  have lq : gq < wr.heap.size := by omega
                  have q0 : (0 : Int) ≤ (a : Int) := by omega
                  have q1 : (a : Int) < (nc : Int) := by omega
                  have q2 : (a : Int) < (y : Int) := by omega
                  unfold iV at HD
                  generalize dI n = I at HD HNO HYES
                  generalize dE n = E at HD HNO HYES
                  obtain ⟨o1, o2, o3, o4, im⟩ := I
                  have HAH := hid (fun (W : World) => ahead_any o1 W)
                  have HTHR := hid (show thr nf nt ((x : Nat), (y : Nat)) (o1, o2, o3, o4, im) = if knd o1 = 1 then decide ((x : Int) ≤ im ∧ im < (y : Int)) else if knd o1 = 2 then decide (im < (nf : Int)) else if knd o1 = 3 then decide (im < (nt : Int)) else true from rfl)
                  have HAD := hid (show ahd o1 = if knd o1 = 1 then { data := #[76] } else if knd o1 = 2 then { data := #[102] } else if knd o1 = 3 then { data := #[116] } else { data := #[] } from rfl)
                  simp only at HD
                  clear hv2 hv3 hcs hx hcap hgl u0 u1
                  by_cases hE : E = 0
                  · subst hE
                    by_cases k1 : knd o1 = 1
                    · rw [if_pos k1] at HAD HTHR
                      rw [HAD.out] at HAH
                      by_cases h1 : im < (x : Int)
                      · have hb : B = false := HNO.out rfl (by rw [HTHR.out]; simp; omega)
                        subst hb
                        have d1 : decide (im < (x : Int)) = true := decide_eq_true h1
                        go_wp2_with (first | (go_at_call 32; refine (HD.out _).mono ?_; rintro e w3 ⟨rfl, g3⟩; have G3 := hid (Gr.trans HR.out g3); have G4 := hid (Gr.alloc (Gr.trans HR.out g3) #[.int .i64 o1, .int .i64 o2, .int .i64 o3, .int .i64 o4, .int .i64 im] 67); have K3 := hid (gr_blk HK.out g3); have K4 := hid (al_blk (gr_blk HK.out g3) (.cells #[.int .i64 o1, .int .i64 o2, .int .i64 o3, .int .i64 o4, .int .i64 im] 67)); have l3 := lt_of_block K3.out; have m1 : w3.cell? ⟨w.heap.size, 1, none⟩ = some (.slice (some ⟨g, o, none⟩) nf caf) := (cell_of K3.out 1).trans rfl; have m2 : w3.cell? ⟨w.heap.size, 2, none⟩ = some (.slice aot nt cat) := (cell_of K3.out 2).trans rfl; have s0 := HT0.out w3 G3.out; have s1 := HT1.out w3 G3.out; have lg3 := HLG.out w3 G3.out; clear g3) | (go_at_call 37; refine (HAH.out _).mono ?_; rintro e w4 ⟨rfl, hw⟩; have hw := hw.symm; subst hw))
                        refine wp_region_any (by kernel_rfl) ?_
                        change wpAny _ _ _ _ _ _ _ (World.drew _)
                        refine held_here ?_
                        refine takeW_on (i := 0) 100 (v := ?v1) rfl rfl (by kernel_rfl) (by kernel_rfl) (by kernel_rfl) (fun _ _ _ h => h) (by kernel_rfl) ?hy1 ?_
                        case hy1 => (go_simp; try (with_reducible rfl))
                        simp only [Act.put, List.setIfInBounds_toArray, List.set_cons_zero, List.set_cons_succ]
                        refine takeW_on (i := 1) 101 (v := ?v2) rfl rfl (by kernel_rfl) (by kernel_rfl) (by kernel_rfl) (fun _ _ _ h => h) (by kernel_rfl) ?hy2 ?_
                        case hy2 => (go_simp; try (with_reducible rfl))
                        simp only [Act.put, List.setIfInBounds_toArray, List.set_cons_zero, List.set_cons_succ]
                        refine takeW_on (i := 2) 102 (v := ?v3) rfl rfl (by kernel_rfl) (by kernel_rfl) (by kernel_rfl) (fun _ _ _ h => h) (by kernel_rfl) ?hy3 ?_
                        case hy3 => (go_simp; try (with_reducible rfl))
                        simp only [Act.put, List.setIfInBounds_toArray, List.set_cons_zero, List.set_cons_succ]
                        refine takeW_on (i := 3) 103 (v := ?v4) rfl rfl (by kernel_rfl) (by kernel_rfl) (by kernel_rfl) (fun _ _ _ h => h) (by kernel_rfl) ?hy4 ?_
                        case hy4 => (go_simp; try (with_reducible rfl))
                        simp only [Act.put, List.setIfInBounds_toArray, List.set_cons_zero, List.set_cons_succ]
                        refine takeW_on (i := 4) 104 (v := ?v5) rfl rfl (by kernel_rfl) (by kernel_rfl) (by kernel_rfl) (fun _ _ _ h => h) (by kernel_rfl) ?hy5 ?_
                        case hy5 => (go_simp; try (with_reducible rfl))
                        simp only [Act.put, List.setIfInBounds_toArray, List.set_cons_zero, List.set_cons_succ]
                        refine takeW_on (i := 5) 105 (v := ?v6) rfl rfl (by kernel_rfl) (by kernel_rfl) (by kernel_rfl) (fun _ _ _ h => h) (by kernel_rfl) ?hy6 ?_
                        case hy6 => (go_simp; try (with_reducible rfl))
                        simp only [Act.put, List.setIfInBounds_toArray, List.set_cons_zero, List.set_cons_succ]
                        refine takeW_on (i := 6) 106 (v := ?v7) rfl rfl (by kernel_rfl) (by kernel_rfl) (by kernel_rfl) (fun _ _ _ h => h) (by kernel_rfl) ?hy7 ?_
                        case hy7 => (go_simp; try (with_reducible rfl))
                        simp only [Act.put, List.setIfInBounds_toArray, List.set_cons_zero, List.set_cons_succ]
                        refine takeW_on (i := 7) 107 (v := ?v8) rfl rfl (by kernel_rfl) (by kernel_rfl) (by kernel_rfl) (fun _ _ _ h => h) (by kernel_rfl) ?hy8 ?_
                        case hy8 => (go_simp; try (with_reducible rfl))
                        simp only [Act.put, List.setIfInBounds_toArray, List.set_cons_zero, List.set_cons_succ]
                        refine takeW_on (i := 8) 108 (v := ?v9) rfl rfl (by kernel_rfl) (by kernel_rfl) (by kernel_rfl) (fun _ _ _ h => h) (by kernel_rfl) ?hy9 ?_
                        case hy9 => (go_simp; try (with_reducible rfl))
                        simp only [Act.put, List.setIfInBounds_toArray, List.set_cons_zero, List.set_cons_succ]
                        refine takeW_on (i := 9) 109 (v := ?v10) rfl rfl (by kernel_rfl) (by kernel_rfl) (by kernel_rfl) (fun _ _ _ h => h) (by kernel_rfl) ?hy10 ?_
                        case hy10 => (go_simp; try (with_reducible rfl))
                        simp only [Act.put, List.setIfInBounds_toArray, List.set_cons_zero, List.set_cons_succ]
                        refine skipW_on (i := 10) 110 rfl rfl (by kernel_rfl) (by kernel_rfl) (by kernel_rfl) (fun _ _ _ h => h) (by kernel_rfl) ?_
                        simp only [Act.put, List.setIfInBounds_toArray, List.set_cons_zero, List.set_cons_succ]
                        refine skipW_on (i := 11) 111 rfl rfl (by kernel_rfl) (by kernel_rfl) (by kernel_rfl) (fun _ _ _ h => h) (by kernel_rfl) ?_
                        simp only [Act.put, List.setIfInBounds_toArray, List.set_cons_zero, List.set_cons_succ]
                        refine skipW_on (i := 12) 112 rfl rfl (by kernel_rfl) (by kernel_rfl) (by kernel_rfl) (fun _ _ _ h => h) (by kernel_rfl) ?_
                        simp only [Act.put, List.setIfInBounds_toArray, List.set_cons_zero, List.set_cons_succ]
                        refine skipW_on (i := 13) 113 rfl rfl (by kernel_rfl) (by kernel_rfl) (by kernel_rfl) (fun _ _ _ h => h) (by kernel_rfl) ?_
                        simp only [Act.put, List.setIfInBounds_toArray, List.set_cons_zero, List.set_cons_succ]
                        refine skipW_on (i := 14) 114 rfl rfl (by kernel_rfl) (by kernel_rfl) (by kernel_rfl) (fun _ _ _ h => h) (by kernel_rfl) ?_
                        simp only [Act.put, List.setIfInBounds_toArray, List.set_cons_zero, List.set_cons_succ]
                        refine skipW_on (i := 15) 115 rfl rfl (by kernel_rfl) (by kernel_rfl) (by kernel_rfl) (fun _ _ _ h => h) (by kernel_rfl) ?_
                        simp only [Act.put, List.setIfInBounds_toArray, List.set_cons_zero, List.set_cons_succ]
                        refine skipW_on (i := 16) 116 rfl rfl (by kernel_rfl) (by kernel_rfl) (by kernel_rfl) (fun _ _ _ h => h) (by kernel_rfl) ?_
                        simp only [Act.put, List.setIfInBounds_toArray, List.set_cons_zero, List.set_cons_succ]
                        refine skipW_on (i := 17) 117 rfl rfl (by kernel_rfl) (by kernel_rfl) (by kernel_rfl) (fun _ _ _ h => h) (by kernel_rfl) ?_
                        simp only [Act.put, List.setIfInBounds_toArray, List.set_cons_zero, List.set_cons_succ]
                        refine skipW_on (i := 18) 118 rfl rfl (by kernel_rfl) (by kernel_rfl) (by kernel_rfl) (fun _ _ _ h => h) (by kernel_rfl) ?_
                        simp only [Act.put, List.setIfInBounds_toArray, List.set_cons_zero, List.set_cons_succ]
                        refine takeW_on (i := 19) 119 (v := ?v20) rfl rfl (by kernel_rfl) (by kernel_rfl) (by kernel_rfl) (fun _ _ _ h => h) (by kernel_rfl) ?hy20 ?_
                        case hy20 => (go_simp; try (with_reducible rfl))
                        simp only [Act.put, List.setIfInBounds_toArray, List.set_cons_zero, List.set_cons_succ]
                        refine wpAnyH_done (by kernel_rfl) ?_ _
                        go_wp2
                        go_ret
                        exact ⟨rfl, Ch.drew G4.out⟩
                      · have d1 : decide (im < (x : Int)) = false := decide_eq_false h1
                        by_cases h2 : (y : Int) ≤ im
                        · have hb : B = false := HNO.out rfl (by rw [HTHR.out]; simp; omega)
                          subst hb
                          have d2 : decide ((y : Int) ≤ im) = true := decide_eq_true h2
                          go_wp2_with (first | (go_at_call 32; refine (HD.out _).mono ?_; rintro e w3 ⟨rfl, g3⟩; have G3 := hid (Gr.trans HR.out g3); have G4 := hid (Gr.alloc (Gr.trans HR.out g3) #[.int .i64 o1, .int .i64 o2, .int .i64 o3, .int .i64 o4, .int .i64 im] 67); have K3 := hid (gr_blk HK.out g3); have K4 := hid (al_blk (gr_blk HK.out g3) (.cells #[.int .i64 o1, .int .i64 o2, .int .i64 o3, .int .i64 o4, .int .i64 im] 67)); have l3 := lt_of_block K3.out; have m1 : w3.cell? ⟨w.heap.size, 1, none⟩ = some (.slice (some ⟨g, o, none⟩) nf caf) := (cell_of K3.out 1).trans rfl; have m2 : w3.cell? ⟨w.heap.size, 2, none⟩ = some (.slice aot nt cat) := (cell_of K3.out 2).trans rfl; have s0 := HT0.out w3 G3.out; have s1 := HT1.out w3 G3.out; have lg3 := HLG.out w3 G3.out; clear g3) | (go_at_call 37; refine (HAH.out _).mono ?_; rintro e w4 ⟨rfl, hw⟩; have hw := hw.symm; subst hw))
                          refine wp_region_any (by kernel_rfl) ?_
                          change wpAny _ _ _ _ _ _ _ (World.drew _)
                          refine held_here ?_
                          refine takeW_on (i := 0) 100 (v := ?v21) rfl rfl (by kernel_rfl) (by kernel_rfl) (by kernel_rfl) (fun _ _ _ h => h) (by kernel_rfl) ?hy21 ?_
                          case hy21 => (go_simp; try (with_reducible rfl))
                          simp only [Act.put, List.setIfInBounds_toArray, List.set_cons_zero, List.set_cons_succ]
                          refine takeW_on (i := 1) 101 (v := ?v22) rfl rfl (by kernel_rfl) (by kernel_rfl) (by kernel_rfl) (fun _ _ _ h => h) (by kernel_rfl) ?hy22 ?_
                          case hy22 => (go_simp; try (with_reducible rfl))
                          simp only [Act.put, List.setIfInBounds_toArray, List.set_cons_zero, List.set_cons_succ]
                          refine takeW_on (i := 2) 102 (v := ?v23) rfl rfl (by kernel_rfl) (by kernel_rfl) (by kernel_rfl) (fun _ _ _ h => h) (by kernel_rfl) ?hy23 ?_
                          case hy23 => (go_simp; try (with_reducible rfl))
                          simp only [Act.put, List.setIfInBounds_toArray, List.set_cons_zero, List.set_cons_succ]
                          refine takeW_on (i := 3) 103 (v := ?v24) rfl rfl (by kernel_rfl) (by kernel_rfl) (by kernel_rfl) (fun _ _ _ h => h) (by kernel_rfl) ?hy24 ?_
                          case hy24 => (go_simp; try (with_reducible rfl))
                          simp only [Act.put, List.setIfInBounds_toArray, List.set_cons_zero, List.set_cons_succ]
                          refine takeW_on (i := 4) 104 (v := ?v25) rfl rfl (by kernel_rfl) (by kernel_rfl) (by kernel_rfl) (fun _ _ _ h => h) (by kernel_rfl) ?hy25 ?_
                          case hy25 => (go_simp; try (with_reducible rfl))
                          simp only [Act.put, List.setIfInBounds_toArray, List.set_cons_zero, List.set_cons_succ]
                          refine takeW_on (i := 5) 105 (v := ?v26) rfl rfl (by kernel_rfl) (by kernel_rfl) (by kernel_rfl) (fun _ _ _ h => h) (by kernel_rfl) ?hy26 ?_
                          case hy26 => (go_simp; try (with_reducible rfl))
                          simp only [Act.put, List.setIfInBounds_toArray, List.set_cons_zero, List.set_cons_succ]
                          refine takeW_on (i := 6) 106 (v := ?v27) rfl rfl (by kernel_rfl) (by kernel_rfl) (by kernel_rfl) (fun _ _ _ h => h) (by kernel_rfl) ?hy27 ?_
                          case hy27 => (go_simp; try (with_reducible rfl))
                          simp only [Act.put, List.setIfInBounds_toArray, List.set_cons_zero, List.set_cons_succ]
                          refine takeW_on (i := 7) 107 (v := ?v28) rfl rfl (by kernel_rfl) (by kernel_rfl) (by kernel_rfl) (fun _ _ _ h => h) (by kernel_rfl) ?hy28 ?_
                          case hy28 => (go_simp; try (with_reducible rfl))
                          simp only [Act.put, List.setIfInBounds_toArray, List.set_cons_zero, List.set_cons_succ]
                          refine takeW_on (i := 8) 108 (v := ?v29) rfl rfl (by kernel_rfl) (by kernel_rfl) (by kernel_rfl) (fun _ _ _ h => h) (by kernel_rfl) ?hy29 ?_
                          case hy29 => (go_simp; try (with_reducible rfl))
                          simp only [Act.put, List.setIfInBounds_toArray, List.set_cons_zero, List.set_cons_succ]
                          refine takeW_on (i := 9) 109 (v := ?v30) rfl rfl (by kernel_rfl) (by kernel_rfl) (by kernel_rfl) (fun _ _ _ h => h) (by kernel_rfl) ?hy30 ?_
                          case hy30 => (go_simp; try (with_reducible rfl))
                          simp only [Act.put, List.setIfInBounds_toArray, List.set_cons_zero, List.set_cons_succ]
                          refine takeW_on (i := 10) 110 (v := ?v31) rfl rfl (by kernel_rfl) (by kernel_rfl) (by kernel_rfl) (fun _ _ _ h => h) (by kernel_rfl) ?hy31 ?_
                          case hy31 => (go_simp; try (with_reducible rfl))
                          simp only [Act.put, List.setIfInBounds_toArray, List.set_cons_zero, List.set_cons_succ]
                          refine takeW_on (i := 11) 111 (v := ?v32) rfl rfl (by kernel_rfl) (by kernel_rfl) (by kernel_rfl) (fun _ _ _ h => h) (by kernel_rfl) ?hy32 ?_
                          case hy32 => (go_simp; try (with_reducible rfl))
                          simp only [Act.put, List.setIfInBounds_toArray, List.set_cons_zero, List.set_cons_succ]
                          refine takeW_on (i := 12) 112 (v := ?v33) rfl rfl (by kernel_rfl) (by kernel_rfl) (by kernel_rfl) (fun _ _ _ h => h) (by kernel_rfl) ?hy33 ?_
                          case hy33 => (go_simp; try (with_reducible rfl))
                          simp only [Act.put, List.setIfInBounds_toArray, List.set_cons_zero, List.set_cons_succ]
                          refine takeW_on (i := 13) 113 (v := ?v34) rfl rfl (by kernel_rfl) (by kernel_rfl) (by kernel_rfl) (fun _ _ _ h => h) (by kernel_rfl) ?hy34 ?_
                          case hy34 => (go_simp; try (with_reducible rfl))
                          simp only [Act.put, List.setIfInBounds_toArray, List.set_cons_zero, List.set_cons_succ]
                          refine takeW_on (i := 14) 114 (v := ?v35) rfl rfl (by kernel_rfl) (by kernel_rfl) (by kernel_rfl) (fun _ _ _ h => h) (by kernel_rfl) ?hy35 ?_
                          case hy35 => (go_simp; try (with_reducible rfl))
                          simp only [Act.put, List.setIfInBounds_toArray, List.set_cons_zero, List.set_cons_succ]
                          refine takeW_on (i := 15) 115 (v := ?v36) rfl rfl (by kernel_rfl) (by kernel_rfl) (by kernel_rfl) (fun _ _ _ h => h) (by kernel_rfl) ?hy36 ?_
                          case hy36 => (go_simp; try (with_reducible rfl))
                          simp only [Act.put, List.setIfInBounds_toArray, List.set_cons_zero, List.set_cons_succ]
                          refine takeW_on (i := 16) 116 (v := ?v37) rfl rfl (by kernel_rfl) (by kernel_rfl) (by kernel_rfl) (fun _ _ _ h => h) (by kernel_rfl) ?hy37 ?_
                          case hy37 => (go_simp; try (with_reducible rfl))
                          simp only [Act.put, List.setIfInBounds_toArray, List.set_cons_zero, List.set_cons_succ]
                          refine takeW_on (i := 17) 117 (v := ?v38) rfl rfl (by kernel_rfl) (by kernel_rfl) (by kernel_rfl) (fun _ _ _ h => h) (by kernel_rfl) ?hy38 ?_
                          case hy38 => (go_simp; try (with_reducible rfl))
                          simp only [Act.put, List.setIfInBounds_toArray, List.set_cons_zero, List.set_cons_succ]
                          refine takeW_on (i := 18) 118 (v := ?v39) rfl rfl (by kernel_rfl) (by kernel_rfl) (by kernel_rfl) (fun _ _ _ h => h) (by kernel_rfl) ?hy39 ?_
                          case hy39 => (go_simp; try (with_reducible rfl))
                          simp only [Act.put, List.setIfInBounds_toArray, List.set_cons_zero, List.set_cons_succ]
                          refine takeW_on (i := 19) 119 (v := ?v40) rfl rfl (by kernel_rfl) (by kernel_rfl) (by kernel_rfl) (fun _ _ _ h => h) (by kernel_rfl) ?hy40 ?_
                          case hy40 => (go_simp; try (with_reducible rfl))
                          simp only [Act.put, List.setIfInBounds_toArray, List.set_cons_zero, List.set_cons_succ]
                          refine wpAnyH_done (by kernel_rfl) ?_ _
                          go_wp2
                          go_ret
                          exact ⟨rfl, Ch.drew G4.out⟩
                        · have d2 : decide ((y : Int) ≤ im) = false := decide_eq_false h2
                          have HY := hid (HYES.out (fun _ => by rw [HTHR.out]; simp; omega))
                          go_wp2_with (first | (go_at_call 32; refine (HD.out _).mono ?_; rintro e w3 ⟨rfl, g3⟩; have G3 := hid (Gr.trans HR.out g3); have G4 := hid (Gr.alloc (Gr.trans HR.out g3) #[.int .i64 o1, .int .i64 o2, .int .i64 o3, .int .i64 o4, .int .i64 im] 67); have K3 := hid (gr_blk HK.out g3); have K4 := hid (al_blk (gr_blk HK.out g3) (.cells #[.int .i64 o1, .int .i64 o2, .int .i64 o3, .int .i64 o4, .int .i64 im] 67)); have l3 := lt_of_block K3.out; have m1 : w3.cell? ⟨w.heap.size, 1, none⟩ = some (.slice (some ⟨g, o, none⟩) nf caf) := (cell_of K3.out 1).trans rfl; have m2 : w3.cell? ⟨w.heap.size, 2, none⟩ = some (.slice aot nt cat) := (cell_of K3.out 2).trans rfl; have s0 := HT0.out w3 G3.out; have s1 := HT1.out w3 G3.out; have lg3 := HLG.out w3 G3.out; clear g3) | (go_at_call 37; refine (HAH.out _).mono ?_; rintro e w4 ⟨rfl, hw⟩; have hw := hw.symm; subst hw))
                          refine wp_region_any (by kernel_rfl) ?_
                          change wpAny _ _ _ _ _ _ _ (World.drew _)
                          refine held_here ?_
                          refine takeW_on (i := 0) 100 (v := ?v41) rfl rfl (by kernel_rfl) (by kernel_rfl) (by kernel_rfl) (fun _ _ _ h => h) (by kernel_rfl) ?hy41 ?_
                          case hy41 => (go_simp; try (with_reducible rfl))
                          simp only [Act.put, List.setIfInBounds_toArray, List.set_cons_zero, List.set_cons_succ]
                          refine takeW_on (i := 1) 101 (v := ?v42) rfl rfl (by kernel_rfl) (by kernel_rfl) (by kernel_rfl) (fun _ _ _ h => h) (by kernel_rfl) ?hy42 ?_
                          case hy42 => (go_simp; try (with_reducible rfl))
                          simp only [Act.put, List.setIfInBounds_toArray, List.set_cons_zero, List.set_cons_succ]
                          refine takeW_on (i := 2) 102 (v := ?v43) rfl rfl (by kernel_rfl) (by kernel_rfl) (by kernel_rfl) (fun _ _ _ h => h) (by kernel_rfl) ?hy43 ?_
                          case hy43 => (go_simp; try (with_reducible rfl))
                          simp only [Act.put, List.setIfInBounds_toArray, List.set_cons_zero, List.set_cons_succ]
                          refine takeW_on (i := 3) 103 (v := ?v44) rfl rfl (by kernel_rfl) (by kernel_rfl) (by kernel_rfl) (fun _ _ _ h => h) (by kernel_rfl) ?hy44 ?_
                          case hy44 => (go_simp; try (with_reducible rfl))
                          simp only [Act.put, List.setIfInBounds_toArray, List.set_cons_zero, List.set_cons_succ]
                          refine takeW_on (i := 4) 104 (v := ?v45) rfl rfl (by kernel_rfl) (by kernel_rfl) (by kernel_rfl) (fun _ _ _ h => h) (by kernel_rfl) ?hy45 ?_
                          case hy45 => (go_simp; try (with_reducible rfl))
                          simp only [Act.put, List.setIfInBounds_toArray, List.set_cons_zero, List.set_cons_succ]
                          refine takeW_on (i := 5) 105 (v := ?v46) rfl rfl (by kernel_rfl) (by kernel_rfl) (by kernel_rfl) (fun _ _ _ h => h) (by kernel_rfl) ?hy46 ?_
                          case hy46 => (go_simp; try (with_reducible rfl))
                          simp only [Act.put, List.setIfInBounds_toArray, List.set_cons_zero, List.set_cons_succ]
                          refine takeW_on (i := 6) 106 (v := ?v47) rfl rfl (by kernel_rfl) (by kernel_rfl) (by kernel_rfl) (fun _ _ _ h => h) (by kernel_rfl) ?hy47 ?_
                          case hy47 => (go_simp; try (with_reducible rfl))
                          simp only [Act.put, List.setIfInBounds_toArray, List.set_cons_zero, List.set_cons_succ]
                          refine takeW_on (i := 7) 107 (v := ?v48) rfl rfl (by kernel_rfl) (by kernel_rfl) (by kernel_rfl) (fun _ _ _ h => h) (by kernel_rfl) ?hy48 ?_
                          case hy48 => (go_simp; try (with_reducible rfl))
                          simp only [Act.put, List.setIfInBounds_toArray, List.set_cons_zero, List.set_cons_succ]
                          refine takeW_on (i := 8) 108 (v := ?v49) rfl rfl (by kernel_rfl) (by kernel_rfl) (by kernel_rfl) (fun _ _ _ h => h) (by kernel_rfl) ?hy49 ?_
                          case hy49 => (go_simp; try (with_reducible rfl))
                          simp only [Act.put, List.setIfInBounds_toArray, List.set_cons_zero, List.set_cons_succ]
                          refine takeW_on (i := 9) 109 (v := ?v50) rfl rfl (by kernel_rfl) (by kernel_rfl) (by kernel_rfl) (fun _ _ _ h => h) (by kernel_rfl) ?hy50 ?_
                          case hy50 => (go_simp; try (with_reducible rfl))
                          simp only [Act.put, List.setIfInBounds_toArray, List.set_cons_zero, List.set_cons_succ]
                          refine takeW_on (i := 10) 110 (v := ?v51) rfl rfl (by kernel_rfl) (by kernel_rfl) (by kernel_rfl) (fun _ _ _ h => h) (by kernel_rfl) ?hy51 ?_
                          case hy51 => (go_simp; try (with_reducible rfl))
                          simp only [Act.put, List.setIfInBounds_toArray, List.set_cons_zero, List.set_cons_succ]
                          refine takeW_on (i := 11) 111 (v := ?v52) rfl rfl (by kernel_rfl) (by kernel_rfl) (by kernel_rfl) (fun _ _ _ h => h) (by kernel_rfl) ?hy52 ?_
                          case hy52 => (go_simp; try (with_reducible rfl))
                          simp only [Act.put, List.setIfInBounds_toArray, List.set_cons_zero, List.set_cons_succ]
                          refine takeW_on (i := 12) 112 (v := ?v53) rfl rfl (by kernel_rfl) (by kernel_rfl) (by kernel_rfl) (fun _ _ _ h => h) (by kernel_rfl) ?hy53 ?_
                          case hy53 => (go_simp; try (with_reducible rfl))
                          simp only [Act.put, List.setIfInBounds_toArray, List.set_cons_zero, List.set_cons_succ]
                          refine takeW_on (i := 13) 113 (v := ?v54) rfl rfl (by kernel_rfl) (by kernel_rfl) (by kernel_rfl) (fun _ _ _ h => h) (by kernel_rfl) ?hy54 ?_
                          case hy54 => (go_simp; try (with_reducible rfl))
                          simp only [Act.put, List.setIfInBounds_toArray, List.set_cons_zero, List.set_cons_succ]
                          refine takeW_on (i := 14) 114 (v := ?v55) rfl rfl (by kernel_rfl) (by kernel_rfl) (by kernel_rfl) (fun _ _ _ h => h) (by kernel_rfl) ?hy55 ?_
                          case hy55 => (go_simp; try (with_reducible rfl))
                          simp only [Act.put, List.setIfInBounds_toArray, List.set_cons_zero, List.set_cons_succ]
                          refine takeW_on (i := 15) 115 (v := ?v56) rfl rfl (by kernel_rfl) (by kernel_rfl) (by kernel_rfl) (fun _ _ _ h => h) (by kernel_rfl) ?hy56 ?_
                          case hy56 => (go_simp; try (with_reducible rfl))
                          simp only [Act.put, List.setIfInBounds_toArray, List.set_cons_zero, List.set_cons_succ]
                          refine takeW_on (i := 16) 116 (v := ?v57) rfl rfl (by kernel_rfl) (by kernel_rfl) (by kernel_rfl) (fun _ _ _ h => h) (by kernel_rfl) ?hy57 ?_
                          case hy57 => (go_simp; try (with_reducible rfl))
                          simp only [Act.put, List.setIfInBounds_toArray, List.set_cons_zero, List.set_cons_succ]
                          refine takeW_on (i := 17) 117 (v := ?v58) rfl rfl (by kernel_rfl) (by kernel_rfl) (by kernel_rfl) (fun _ _ _ h => h) (by kernel_rfl) ?hy58 ?_
                          case hy58 => (go_simp; try (with_reducible rfl))
                          simp only [Act.put, List.setIfInBounds_toArray, List.set_cons_zero, List.set_cons_succ]
                          refine takeW_on (i := 18) 118 (v := ?v59) rfl rfl (by kernel_rfl) (by kernel_rfl) (by kernel_rfl) (fun _ _ _ h => h) (by kernel_rfl) ?hy59 ?_
                          case hy59 => (go_simp; try (with_reducible rfl))
                          simp only [Act.put, List.setIfInBounds_toArray, List.set_cons_zero, List.set_cons_succ]
                          refine takeW_on (i := 19) 119 (v := ?v60) rfl rfl (by kernel_rfl) (by kernel_rfl) (by kernel_rfl) (fun _ _ _ h => h) (by kernel_rfl) ?hy60 ?_
                          case hy60 => (go_simp; try (with_reducible rfl))
                          simp only [Act.put, List.setIfInBounds_toArray, List.set_cons_zero, List.set_cons_succ]
                          refine wpAnyH_done (by kernel_rfl) ?_ _
                          go_wp2_with fail
                          go_roundg (gk - 1)
                          case measure => omega
                          case rel => exact ⟨a + 1, by omega, by omega, by simp, HY.out, Ch.drew G4.out, K4.out⟩
                    · rw [if_neg k1] at HAD HTHR
                      by_cases k2 : knd o1 = 2
                      · rw [if_pos k2] at HAD HTHR
                        rw [HAD.out] at HAH
                        by_cases h1 : (nf : Int) ≤ im
                        · have d1 : decide ((nf : Int) ≤ im) = true := decide_eq_true h1
                          have hb : B = false := HNO.out rfl (by rw [HTHR.out]; simp; omega)
                          subst hb
                          go_wp2_with (first | (go_at_call 32; refine (HD.out _).mono ?_; rintro e w3 ⟨rfl, g3⟩; have G3 := hid (Gr.trans HR.out g3); have G4 := hid (Gr.alloc (Gr.trans HR.out g3) #[.int .i64 o1, .int .i64 o2, .int .i64 o3, .int .i64 o4, .int .i64 im] 67); have K3 := hid (gr_blk HK.out g3); have K4 := hid (al_blk (gr_blk HK.out g3) (.cells #[.int .i64 o1, .int .i64 o2, .int .i64 o3, .int .i64 o4, .int .i64 im] 67)); have l3 := lt_of_block K3.out; have m1 : w3.cell? ⟨w.heap.size, 1, none⟩ = some (.slice (some ⟨g, o, none⟩) nf caf) := (cell_of K3.out 1).trans rfl; have m2 : w3.cell? ⟨w.heap.size, 2, none⟩ = some (.slice aot nt cat) := (cell_of K3.out 2).trans rfl; have s0 := HT0.out w3 G3.out; have s1 := HT1.out w3 G3.out; have lg3 := HLG.out w3 G3.out; clear g3) | (go_at_call 37; refine (HAH.out _).mono ?_; rintro e w4 ⟨rfl, hw⟩; have hw := hw.symm; subst hw))
                          go_ret
                          exact ⟨rfl, G4.out⟩
                        · have d1 : decide ((nf : Int) ≤ im) = false := decide_eq_false h1
                          have HY := hid (HYES.out (fun _ => by rw [HTHR.out]; simp; omega))
                          go_wp2_with (first | (go_at_call 32; refine (HD.out _).mono ?_; rintro e w3 ⟨rfl, g3⟩; have G3 := hid (Gr.trans HR.out g3); have G4 := hid (Gr.alloc (Gr.trans HR.out g3) #[.int .i64 o1, .int .i64 o2, .int .i64 o3, .int .i64 o4, .int .i64 im] 67); have K3 := hid (gr_blk HK.out g3); have K4 := hid (al_blk (gr_blk HK.out g3) (.cells #[.int .i64 o1, .int .i64 o2, .int .i64 o3, .int .i64 o4, .int .i64 im] 67)); have l3 := lt_of_block K3.out; have m1 : w3.cell? ⟨w.heap.size, 1, none⟩ = some (.slice (some ⟨g, o, none⟩) nf caf) := (cell_of K3.out 1).trans rfl; have m2 : w3.cell? ⟨w.heap.size, 2, none⟩ = some (.slice aot nt cat) := (cell_of K3.out 2).trans rfl; have s0 := HT0.out w3 G3.out; have s1 := HT1.out w3 G3.out; have lg3 := HLG.out w3 G3.out; clear g3) | (go_at_call 37; refine (HAH.out _).mono ?_; rintro e w4 ⟨rfl, hw⟩; have hw := hw.symm; subst hw))
                          go_roundg (gk - 1)
                          case measure => omega
                          case rel => exact ⟨a + 1, by omega, by omega, by simp, HY.out, G4.out, K4.out⟩
                      · rw [if_neg k2] at HAD HTHR
                        by_cases k3 : knd o1 = 3
                        · rw [if_pos k3] at HAD HTHR
                          rw [HAD.out] at HAH
                          by_cases h1 : (nt : Int) ≤ im
                          · have d1 : decide ((nt : Int) ≤ im) = true := decide_eq_true h1
                            have hb : B = false := HNO.out rfl (by rw [HTHR.out]; simp; omega)
                            subst hb
                            go_wp2_with (first | (go_at_call 32; refine (HD.out _).mono ?_; rintro e w3 ⟨rfl, g3⟩; have G3 := hid (Gr.trans HR.out g3); have G4 := hid (Gr.alloc (Gr.trans HR.out g3) #[.int .i64 o1, .int .i64 o2, .int .i64 o3, .int .i64 o4, .int .i64 im] 67); have K3 := hid (gr_blk HK.out g3); have K4 := hid (al_blk (gr_blk HK.out g3) (.cells #[.int .i64 o1, .int .i64 o2, .int .i64 o3, .int .i64 o4, .int .i64 im] 67)); have l3 := lt_of_block K3.out; have m1 : w3.cell? ⟨w.heap.size, 1, none⟩ = some (.slice (some ⟨g, o, none⟩) nf caf) := (cell_of K3.out 1).trans rfl; have m2 : w3.cell? ⟨w.heap.size, 2, none⟩ = some (.slice aot nt cat) := (cell_of K3.out 2).trans rfl; have s0 := HT0.out w3 G3.out; have s1 := HT1.out w3 G3.out; have lg3 := HLG.out w3 G3.out; clear g3) | (go_at_call 37; refine (HAH.out _).mono ?_; rintro e w4 ⟨rfl, hw⟩; have hw := hw.symm; subst hw))
                            go_ret
                            exact ⟨rfl, G4.out⟩
                          · have d1 : decide ((nt : Int) ≤ im) = false := decide_eq_false h1
                            have HY := hid (HYES.out (fun _ => by rw [HTHR.out]; simp; omega))
                            go_wp2_with (first | (go_at_call 32; refine (HD.out _).mono ?_; rintro e w3 ⟨rfl, g3⟩; have G3 := hid (Gr.trans HR.out g3); have G4 := hid (Gr.alloc (Gr.trans HR.out g3) #[.int .i64 o1, .int .i64 o2, .int .i64 o3, .int .i64 o4, .int .i64 im] 67); have K3 := hid (gr_blk HK.out g3); have K4 := hid (al_blk (gr_blk HK.out g3) (.cells #[.int .i64 o1, .int .i64 o2, .int .i64 o3, .int .i64 o4, .int .i64 im] 67)); have l3 := lt_of_block K3.out; have m1 : w3.cell? ⟨w.heap.size, 1, none⟩ = some (.slice (some ⟨g, o, none⟩) nf caf) := (cell_of K3.out 1).trans rfl; have m2 : w3.cell? ⟨w.heap.size, 2, none⟩ = some (.slice aot nt cat) := (cell_of K3.out 2).trans rfl; have s0 := HT0.out w3 G3.out; have s1 := HT1.out w3 G3.out; have lg3 := HLG.out w3 G3.out; clear g3) | (go_at_call 37; refine (HAH.out _).mono ?_; rintro e w4 ⟨rfl, hw⟩; have hw := hw.symm; subst hw))
                            go_roundg (gk - 1)
                            case measure => omega
                            case rel => exact ⟨a + 1, by omega, by omega, by simp, HY.out, G4.out, K4.out⟩
                        · rw [if_neg k3] at HAD HTHR
                          rw [HAD.out] at HAH
                          have HY := hid (HYES.out (fun _ => HTHR.out))
                          go_wp2_with (first | (go_at_call 32; refine (HD.out _).mono ?_; rintro e w3 ⟨rfl, g3⟩; have G3 := hid (Gr.trans HR.out g3); have G4 := hid (Gr.alloc (Gr.trans HR.out g3) #[.int .i64 o1, .int .i64 o2, .int .i64 o3, .int .i64 o4, .int .i64 im] 67); have K3 := hid (gr_blk HK.out g3); have K4 := hid (al_blk (gr_blk HK.out g3) (.cells #[.int .i64 o1, .int .i64 o2, .int .i64 o3, .int .i64 o4, .int .i64 im] 67)); have l3 := lt_of_block K3.out; have m1 : w3.cell? ⟨w.heap.size, 1, none⟩ = some (.slice (some ⟨g, o, none⟩) nf caf) := (cell_of K3.out 1).trans rfl; have m2 : w3.cell? ⟨w.heap.size, 2, none⟩ = some (.slice aot nt cat) := (cell_of K3.out 2).trans rfl; have s0 := HT0.out w3 G3.out; have s1 := HT1.out w3 G3.out; have lg3 := HLG.out w3 G3.out; clear g3) | (go_at_call 37; refine (HAH.out _).mono ?_; rintro e w4 ⟨rfl, hw⟩; have hw := hw.symm; subst hw))
                          go_roundg (gk - 1)
                          case measure => omega
                          case rel => exact ⟨a + 1, by omega, by omega, by simp, HY.out, G4.out, K4.out⟩
                  · have hE' : (E == 0) = false := by simpa using hE
                    have HY := hid (HYES.out (fun q => absurd q hE))
                    go_wp2_with (first | (go_at_call 32; refine (HD.out _).mono ?_; rintro e w3 ⟨rfl, g3⟩; have G3 := hid (Gr.trans HR.out g3); have G4 := hid (Gr.alloc (Gr.trans HR.out g3) #[.int .i64 o1, .int .i64 o2, .int .i64 o3, .int .i64 o4, .int .i64 im] 67); have K3 := hid (gr_blk HK.out g3); have K4 := hid (al_blk (gr_blk HK.out g3) (.cells #[.int .i64 o1, .int .i64 o2, .int .i64 o3, .int .i64 o4, .int .i64 im] 67)); have l3 := lt_of_block K3.out; have m1 : w3.cell? ⟨w.heap.size, 1, none⟩ = some (.slice (some ⟨g, o, none⟩) nf caf) := (cell_of K3.out 1).trans rfl; have m2 : w3.cell? ⟨w.heap.size, 2, none⟩ = some (.slice aot nt cat) := (cell_of K3.out 2).trans rfl; have s0 := HT0.out w3 G3.out; have s1 := HT1.out w3 G3.out; have lg3 := HLG.out w3 G3.out; clear g3) | (go_at_call 37; refine (HAH.out _).mono ?_; rintro e w4 ⟨rfl, hw⟩; have hw := hw.symm; subst hw))
                    go_roundg (gk - 1)
                    case measure => omega
                    case rel => exact ⟨a + 1, by omega, by omega, by simp, HY.out, G4.out, K4.out⟩
                · have kn : ¬ (a : Int) < (y : Int) := by omega
                  have HT2 := hid (show thW nf nt ((x : Nat), (y : Nat)) (wf cs ((x : Nat), (y : Nat))) = true from thW_yes (by omega) (by rw [← HNC.out]; exact hyn) (fun i q => HA2.out i (by omega)))
                  go_wp2_with fail
                  go_roundg GK
                  case measure => have := HGK.out; have := HJ.out; omega
                  case rel =>
                    refine ⟨j + 1, y, by have := HGK.out; have := HJ.out; omega, by simp, HP1.out, fun l d q1 q2 => ?_, HR.out, HK.out⟩
                    by_cases e : l = j
                    · subst e
                      rw [HX.out] at q2
                      injection q2 with q2
                      rw [← q2]
                      exact HT2.out
                    · exact HA.out l d (by omega) q2
          · have jn : ¬ (j : Int) < (nf : Int) := by omega
            have hb : B = true := by
              rw [HB3.out]
              unfold thA
              rw [List.all_eq_true]
              intro f hm
              obtain ⟨l, hl⟩ := List.getElem?_of_mem hm
              exact HA.out l f (by have := (List.getElem?_eq_some_iff.1 hl).1; rw [← HNF.out] at this; omega) hl
            subst hb
            go_wp2
            go_ret
            exact ⟨rfl, HR.out⟩
end Go.Proofs.YtbehlhnnfdkmaaaGreatDoor.Lt
