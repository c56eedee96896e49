/-
  What the program's tables leaves in a writer. Conditions: all cases fit; lists are no longer than the reach lets be; the tables lie where they lie.
-/
import Derived.Test.YtbehlhnnfdkmaaaGreatDoorLtPl
namespace Go.Proofs.YtbehlhnnfdkmaaaGreatDoor.Lt
open Go.RowKit Wd

set_option maxHeartbeats 2000000 in
set_option maxRecDepth 20000 in
theorem tables_any (P : Nat → Prop) (base X : Nat) (w : World) (v : Value) (T : ByteArray) (vc vf vt : Value) (ts : List Tb) (ht : Ls eT P w vt ts) (hcs : ∀ t ∈ ts, Ls eC P w t.cv t.cs) (hp : ∀ g, P g → g < base ∧ g ≠ X) (hW : Wr base X w v T) (hl : ts.length ≤ 4398046511104) (hq : ∀ t ∈ ts, t.cs.length ≤ 4398046511104) (hcf : cfs ts = true) (hg : Glb w) (hX : 10 < X)
    (hvc : ∃ a n c, vc = .slice a n c) (hvf : ∃ a n c, vf = .slice a n c) :
    Calls Tryz.prog 39 #[.pointer (some ⟨X, 0, none⟩), .agg #[vc, vf, vt]] w fun e w' => e = .returned (.tuple #[]) ∧ (∃ v', Wr base X w' v' (wls T (ixl tbL 0 (ts.map tT)))) ∧ Ch (SW base X) w w' := by
  obtain ⟨aoc, nc, cac, rfl⟩ := hvc
  obtain ⟨aof, nf, caf, rfl⟩ := hvf
  obtain ⟨aot, cat, hic⟩ := ht.form
  have HT := hid ht
  have HC := hid hcs
  have HQ := hid hq
  have HG := hid hg
  have HP := hid hp
  have HW := hid hW
  have HX := hid hX
  have HXB := hid hW.lt
  have HCF := hid (List.all_eq_true.1 hcf)
  obtain ⟨nt, hnt⟩ : ∃ n, n = ts.length := ⟨_, rfl⟩
  rw [← hnt] at hic hl
  have HN := hid hnt
  subst hic
  have K1 := hid (Gr.alloc (Gr.refl w) #[.slice aoc nc cac, .slice aof nf caf, .slice aot nt cat] 26)
  have NS := hid (show ∀ (g : Nat), P g → ¬ SW base X g from fun g q e => by
    have := HP.out g q
    rcases e with e | e
    · exact this.2 e
    · omega)
  clear ht hcs hq hg hp hW hX hcf hnt
  go_enter Tryz.func39, Tryz.ntmps39
  go_wp2_with fail
  go_loopg [12] nt (fun m i wq => ∃ (j : Nat) (v1 : Value), j + m = nt ∧ i = .int .i64 ((j : Nat) : Int) ∧ Wr base X wq v1 (wls T (ixl tbL 0 ((ts.map tT).take j))) ∧ Ch (SW base X) w wq)
  case atStart => exact ⟨0, v, by omega, rfl, HW.out.gr K1.out, K1.out.any⟩
  case round =>
    clear K1
    obtain ⟨j, v1, hjk, rfl, hwr, hch⟩ := hrel
    have HR := hid hwr
    have HH := hid hch
    obtain ⟨GK, hGK⟩ : ∃ n, n = gk - 1 := ⟨_, rfl⟩
    have HGK := hid hGK
    have HJ := hid hjk
    clear hwr hch hGK
    by_cases hj : j < nt
    · obtain ⟨t, hx⟩ : ∃ x, ts[j]? = some x := ⟨_, List.getElem?_eq_getElem (by rw [← HN.out]; exact hj)⟩
      have HX1 := hid (ixl_take tbL (tT_at hx))
      have HM := hid (List.mem_of_getElem? hx)
      obtain ⟨g, o, cap', hv, hPg, hgl, hcap, hcs⟩ := HT.out.get eT_len hx
      injection hv with hv1 hv2 hv3
      subst hv1
      obtain ⟨nq, hnq⟩ : ∃ n, n = t.cs.length := ⟨_, rfl⟩
      have HNQ := hid hnq
      have hq := HQ.out t HM.out
      rw [← hnq] at hq
      obtain ⟨aq, cq, hcv⟩ := (HC.out t HM.out).form
      rw [← hnq] at hcv
      have HCV := hid hcv
      have c0 := (HH.out.cell hgl (NS.out g hPg)).trans (hcs 0 _ rfl)
      have c1 := (HH.out.cell hgl (NS.out g hPg)).trans (hcs 1 _ rfl)
      rw [Nat.add_zero, hcv] at c0
      have gs := HH.out.size
      have lg : g < wr.heap.size := by omega
      have j0 : (0 : Int) ≤ (j : Int) := by omega
      have j1 : (j : Int) < (nt : Int) := by omega
      have HGl := hid (HG.out.sw HX.out HXB.out HH.out)
      have HCAL := hid (fun (W : World) (q : Glb W) => called_any 3 (j : Nat) (by omega) (by omega) W q)
      have hcal := cal_size 3 (j : Nat) (by omega) (by omega)
      obtain ⟨df, hdf⟩ : ∃ d, d = t.df := ⟨_, rfl⟩
      have HTB := hid (show tbL j (tT t) = [if df = true then ({ data := #[116, 97, 98, 108, 101, 32] } ++ cal 3 (j : Nat)) ++ { data := #[32, 100, 101, 102, 97, 117, 108, 116] } else { data := #[116, 97, 98, 108, 101, 32] } ++ cal 3 (j : Nat)] ++ t.cs.map csT by rw [hdf]; rfl)
      obtain ⟨C, hC⟩ : ∃ s, s = cal 3 (j : Nat) := ⟨_, rfl⟩
      rw [← hC] at HCAL hcal HTB
      have sz1 : (({ data := #[116, 97, 98, 108, 101, 32] } : ByteArray) ++ C).size ≤ 28 := by rw [ByteArray.size_append]; have : ({ data := #[116, 97, 98, 108, 101, 32] } : ByteArray).size = 6 := rfl; omega
      have sz2 : ((({ data := #[116, 97, 98, 108, 101, 32] } : ByteArray) ++ C) ++ { data := #[32, 100, 101, 102, 97, 117, 108, 116] }).size ≤ 36 := by rw [ByteArray.size_append]; have : ({ data := #[32, 100, 101, 102, 97, 117, 108, 116] } : ByteArray).size = 8 := rfl; omega
      rw [← hdf] at c1
      have KP := hid (Kp.new HR.out #[.slice aq nq cq, .bool df] 44)
      have HWA := hid (HR.out.gr (Gr.alloc (Gr.refl wr) #[.slice aq nq cq, .bool df] 44))
      have HGA := hid (HGl.out.gr (Gr.alloc (Gr.refl wr) #[.slice aq nq cq, .bool df] 44))
      have HCA := hid (show Ch (SW base X) w (wr.alloc (.cells #[.slice aq nq cq, .bool df] 44)) from Ch.alloc HH.out _)
      obtain ⟨T1, hT1⟩ : ∃ x, x = wls T (ixl tbL 0 ((ts.map tT).take j)) := ⟨_, rfl⟩
      rw [← hT1] at HWA
      have HT1 := hid hT1
      have HIN := hid (fun (l : Nat) c (q : t.cs[l]? = some c) => List.all_eq_true.1 (HCF.out t HM.out) c (List.mem_of_getElem? q))
      clear hv2 hv3 hcs hx hcap hgl hnq hcv hjk hC hdf hPg hT1
      cases df with
      | false =>
        have i1 := True.intro
        have HTX := hid (show wls T (ixl tbL 0 ((ts.map tT).take (j + 1))) = wls (wl T1 ({ data := #[116, 97, 98, 108, 101, 32] } ++ C)) (t.cs.map csT) by
          rw [HX1.out, HTB.out, wls_app, ← HT1.out, wls_app]
          rfl)
        go_wp2_with (first | (go_at_call 77; refine (HCAL.out _ HGA.out).mono ?_; rintro e w1 ⟨rfl, g1⟩; have KP1 := hid (KP.out.gr g1); have HW1 := hid (HWA.out.gr g1); have HC1 := hid (Ch.trans HCA.out g1 (fun _ x => x.elim)); clear i1; have i1 : w1.cell? ⟨wr.heap.size, 1, none⟩ = some (.bool false) := (cell_of KP1.out.blk 1).trans rfl; have lk := lt_of_block KP1.out.blk; clear g1) | (go_at_call 84; refine (wline_any base X w1 v1 _ _ HW1.out (by omega)).mono ?_; rintro e w2 ⟨rfl, v2, L⟩; have HL := hid L.wr; have KP2 := hid (KP1.out.ln L); have HC2 := hid (HC1.out.trans' (L.sw HW1.out)); have i0 : w2.cell? ⟨wr.heap.size, 0, none⟩ = some (.slice aq nq cq) := (cell_of KP2.out.blk 0).trans rfl; have lk2 := lt_of_block KP2.out.blk; clear L i1))
        clear c0 c1 i0 lk lk2 lg gs
        obtain ⟨T2, hT2⟩ : ∃ x, x = wl T1 ({ data := #[116, 97, 98, 108, 101, 32] } ++ C) := ⟨_, rfl⟩
        rw [← hT2] at HL HTX
        clear hT2
        rename World => V
        go_loopg [30] nq (fun m i wq => ∃ (k : Nat) (v3 : Value), k + m = nq ∧ i = .int .i64 ((k : Nat) : Int) ∧ Wr base X wq v3 (wls T2 ((t.cs.take k).map csT)) ∧ Ch (SW base X) w wq)
        case atStart => exact ⟨0, v2, by omega, rfl, HL.out, HC2.out⟩
        case round =>
          obtain ⟨k, v3, hkk, rfl, hwr, hch⟩ := hrel
          have HR2 := hid hwr
          have HH2 := hid hch
          clear hwr hch
          by_cases hk : k < nq
          · obtain ⟨c, hx⟩ : ∃ x, t.cs[k]? = some x := ⟨_, List.getElem?_eq_getElem (by rw [← HNQ.out]; exact hk)⟩
            have HX2 := hid (show wls T2 ((t.cs.take (k + 1)).map csT) = wl (wls T2 ((t.cs.take k).map csT)) (csT c) by rw [take_one hx, List.map_append, List.map_singleton, wls_snoc])
            have hfit := HIN.out k c hx
            obtain ⟨gq, oq, cap', hv, hPg, hgl, hcap, hcs⟩ := (HC.out t HM.out).get eC_len hx
            rw [HCV.out] at hv
            injection hv with hv1 hv2 hv3
            subst hv1
            have c0 := (HH2.out.cell hgl (NS.out gq hPg)).trans (hcs 0 _ rfl)
            have c1 := (HH2.out.cell hgl (NS.out gq hPg)).trans (hcs 1 _ rfl)
            have c2 := (HH2.out.cell hgl (NS.out gq hPg)).trans (hcs 2 _ rfl)
            have c3 := (HH2.out.cell hgl (NS.out gq hPg)).trans (hcs 3 _ rfl)
            rw [Nat.add_zero] at c0
            have gs := HH2.out.size
            have lq : gq < wr.heap.size := by omega
            have q0 : (0 : Int) ≤ (k : Int) := by omega
            have q1 : (k : Int) < (nq : Int) := by omega
            have HI := hid (fun (W : World) => caseInstr_any c W)
            have HE := hid (fun (W : World) (q : Glb W) => caseText_any c hfit W q)
            have hsz := csT_size hfit
            have HGl2 := hid (HG.out.sw HX.out HXB.out HH2.out)
            have KA := hid (Gr.alloc (Gr.refl wr) #[.bool c.send, .int .i64 c.ch, .int .i64 c.val, .int .i64 c.ok] 46)
            unfold iV at HI HE
            generalize cI c = ci at HI HE
            obtain ⟨S, hS⟩ : ∃ s, s = csT c := ⟨_, rfl⟩
            rw [← hS] at HE hsz HX2
            clear hv2 hv3 hcs hx hcap hgl hfit hPg hS
            go_wp2_with (first | (go_at_call 85; refine (HI.out _).mono ?_; rintro e w1 ⟨rfl, g1⟩; have G1 := hid (Gr.trans KA.out g1); clear g1) | (go_at_call 31; refine (HE.out _ (HGl2.out.gr G1.out)).mono ?_; rintro e w2 ⟨rfl, g2⟩; have G2 := hid (Gr.trans G1.out g2); clear g2) | (go_at_call 84; refine (wline_any base X _ v3 _ _ (HR2.out.gr G2.out) (by omega)).mono ?_; rintro e w3 ⟨rfl, v4, L⟩; have HL3 := hid L.wr; have HC3 := hid ((Ch.trans HH2.out G2.out (fun _ x => x.elim)).trans' (L.sw (HR2.out.gr G2.out))); clear L))
            go_roundg (gk - 1)
            case measure => omega
            case rel => exact ⟨k + 1, v4, by omega, by simp, by rw [HX2.out]; exact HL3.out, HC3.out⟩
          · have kn : ¬ (k : Int) < (nq : Int) := by omega
            have hkn : t.cs.take k = t.cs := by rw [show k = t.cs.length by rw [← HNQ.out]; omega]; exact List.take_length
            rw [hkn] at HR2
            clear hkn
            go_wp2_with fail
            go_roundg GK
            case measure => have := HGK.out; have := HJ.out; omega
            case rel => exact ⟨j + 1, v3, by have := HGK.out; have := HJ.out; omega, by simp, by rw [HTX.out]; exact HR2.out, HH2.out⟩
      | true =>
        have i1 := True.intro
        have HTX := hid (show wls T (ixl tbL 0 ((ts.map tT).take (j + 1))) = wls (wl T1 (({ data := #[116, 97, 98, 108, 101, 32] } ++ C) ++ { data := #[32, 100, 101, 102, 97, 117, 108, 116] })) (t.cs.map csT) by
          rw [HX1.out, HTB.out, wls_app, ← HT1.out, wls_app]
          rfl)
        go_wp2_with (first | (go_at_call 77; refine (HCAL.out _ HGA.out).mono ?_; rintro e w1 ⟨rfl, g1⟩; have KP1 := hid (KP.out.gr g1); have HW1 := hid (HWA.out.gr g1); have HC1 := hid (Ch.trans HCA.out g1 (fun _ x => x.elim)); clear i1; have i1 : w1.cell? ⟨wr.heap.size, 1, none⟩ = some (.bool true) := (cell_of KP1.out.blk 1).trans rfl; have lk := lt_of_block KP1.out.blk; clear g1) | (go_at_call 84; refine (wline_any base X w1 v1 _ _ HW1.out (by omega)).mono ?_; rintro e w2 ⟨rfl, v2, L⟩; have HL := hid L.wr; have KP2 := hid (KP1.out.ln L); have HC2 := hid (HC1.out.trans' (L.sw HW1.out)); have i0 : w2.cell? ⟨wr.heap.size, 0, none⟩ = some (.slice aq nq cq) := (cell_of KP2.out.blk 0).trans rfl; have lk2 := lt_of_block KP2.out.blk; clear L i1))
        clear c0 c1 i0 lk lk2 lg gs
        obtain ⟨T2, hT2⟩ : ∃ x, x = wl T1 (({ data := #[116, 97, 98, 108, 101, 32] } ++ C) ++ { data := #[32, 100, 101, 102, 97, 117, 108, 116] }) := ⟨_, rfl⟩
        rw [← hT2] at HL HTX
        clear hT2
        rename World => V
        go_loopg [30] nq (fun m i wq => ∃ (k : Nat) (v3 : Value), k + m = nq ∧ i = .int .i64 ((k : Nat) : Int) ∧ Wr base X wq v3 (wls T2 ((t.cs.take k).map csT)) ∧ Ch (SW base X) w wq)
        case atStart => exact ⟨0, v2, by omega, rfl, HL.out, HC2.out⟩
        case round =>
          obtain ⟨k, v3, hkk, rfl, hwr, hch⟩ := hrel
          have HR2 := hid hwr
          have HH2 := hid hch
          clear hwr hch
          by_cases hk : k < nq
          · obtain ⟨c, hx⟩ : ∃ x, t.cs[k]? = some x := ⟨_, List.getElem?_eq_getElem (by rw [← HNQ.out]; exact hk)⟩
            have HX2 := hid (show wls T2 ((t.cs.take (k + 1)).map csT) = wl (wls T2 ((t.cs.take k).map csT)) (csT c) by rw [take_one hx, List.map_append, List.map_singleton, wls_snoc])
            have hfit := HIN.out k c hx
            obtain ⟨gq, oq, cap', hv, hPg, hgl, hcap, hcs⟩ := (HC.out t HM.out).get eC_len hx
            rw [HCV.out] at hv
            injection hv with hv1 hv2 hv3
            subst hv1
            have c0 := (HH2.out.cell hgl (NS.out gq hPg)).trans (hcs 0 _ rfl)
            have c1 := (HH2.out.cell hgl (NS.out gq hPg)).trans (hcs 1 _ rfl)
            have c2 := (HH2.out.cell hgl (NS.out gq hPg)).trans (hcs 2 _ rfl)
            have c3 := (HH2.out.cell hgl (NS.out gq hPg)).trans (hcs 3 _ rfl)
            rw [Nat.add_zero] at c0
            have gs := HH2.out.size
            have lq : gq < wr.heap.size := by omega
            have q0 : (0 : Int) ≤ (k : Int) := by omega
            have q1 : (k : Int) < (nq : Int) := by omega
            have HI := hid (fun (W : World) => caseInstr_any c W)
            have HE := hid (fun (W : World) (q : Glb W) => caseText_any c hfit W q)
            have hsz := csT_size hfit
            have HGl2 := hid (HG.out.sw HX.out HXB.out HH2.out)
            have KA := hid (Gr.alloc (Gr.refl wr) #[.bool c.send, .int .i64 c.ch, .int .i64 c.val, .int .i64 c.ok] 46)
            unfold iV at HI HE
            generalize cI c = ci at HI HE
            obtain ⟨S, hS⟩ : ∃ s, s = csT c := ⟨_, rfl⟩
            rw [← hS] at HE hsz HX2
            clear hv2 hv3 hcs hx hcap hgl hfit hPg hS
            go_wp2_with (first | (go_at_call 85; refine (HI.out _).mono ?_; rintro e w1 ⟨rfl, g1⟩; have G1 := hid (Gr.trans KA.out g1); clear g1) | (go_at_call 31; refine (HE.out _ (HGl2.out.gr G1.out)).mono ?_; rintro e w2 ⟨rfl, g2⟩; have G2 := hid (Gr.trans G1.out g2); clear g2) | (go_at_call 84; refine (wline_any base X _ v3 _ _ (HR2.out.gr G2.out) (by omega)).mono ?_; rintro e w3 ⟨rfl, v4, L⟩; have HL3 := hid L.wr; have HC3 := hid ((Ch.trans HH2.out G2.out (fun _ x => x.elim)).trans' (L.sw (HR2.out.gr G2.out))); clear L))
            go_roundg (gk - 1)
            case measure => omega
            case rel => exact ⟨k + 1, v4, by omega, by simp, by rw [HX2.out]; exact HL3.out, HC3.out⟩
          · have kn : ¬ (k : Int) < (nq : Int) := by omega
            have hkn : t.cs.take k = t.cs := by rw [show k = t.cs.length by rw [← HNQ.out]; omega]; exact List.take_length
            rw [hkn] at HR2
            clear hkn
            go_wp2_with fail
            go_roundg GK
            case measure => have := HGK.out; have := HJ.out; omega
            case rel => exact ⟨j + 1, v3, by have := HGK.out; have := HJ.out; omega, by simp, by rw [HTX.out]; exact HR2.out, HH2.out⟩
    · have jn : ¬ (j : Int) < (nt : Int) := by omega
      have hjn : j = nt := by omega
      have htk : (ts.map tT).take j = ts.map tT := by rw [hjn, HN.out, show ts.length = (ts.map tT).length by simp]; exact List.take_length
      rw [htk] at HR
      clear htk hjn
      go_wp2
      go_end0
      exact ⟨rfl, ⟨_, HR.out⟩, HH.out⟩
end Go.Proofs.YtbehlhnnfdkmaaaGreatDoor.Lt
