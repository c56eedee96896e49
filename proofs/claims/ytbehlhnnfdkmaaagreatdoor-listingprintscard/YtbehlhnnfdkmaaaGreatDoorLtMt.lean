/-
  What the program's tables leaves in a writer. Conditions: all cases fit; lists are no longer than the reach lets be; the tables lie where they lie.
  What the program's functions leaves in a writer. Conditions: the functions part the code; every word is an instruction whose target is a word; lists are no longer than the reach lets be; the tables lie where they lie.
-/
import Derived.Test.YtbehlhnnfdkmaaaGreatDoorLtMc
namespace Go.Proofs.YtbehlhnnfdkmaaaGreatDoor.Lt
open Go.RowKit Wd

set_option maxHeartbeats 2000000 in
set_option maxRecDepth 20000 in
theorem tables_any (P : Nat → Prop) (base X : Nat) (w : World) (v : Value) (T : ByteArray) (vc vf vt : Value) (ts : List Tb) (ht : Ls eT P w vt ts) (hcs : ∀ t ∈ ts, Ls eC P w t.cv t.cs) (hp : ∀ g, P g → g < base ∧ g ≠ X) (hW : Wr base X w v T) (hl : ts.length ≤ 4398046511104) (hq : ∀ t ∈ ts, t.cs.length ≤ 4398046511104) (hcf : cfs ts = true) (hg : Glb w) (hX : 10 < X)
    (hvc : ∃ a n c, vc = .slice a n c) (hvf : ∃ a n c, vf = .slice a n c) :
    Calls Tryz.prog 39 #[.pointer (some ⟨X, 0, none⟩), .agg #[vc, vf, vt]] w fun e w' => e = .returned (.tuple #[]) ∧ (∃ v', Wr base X w' v' (wls T (ixl tbL 0 (ts.map tT)))) ∧ Ch (SW base X) w w' := by
  obtain ⟨aoc, nc, cac, rfl⟩ := hvc
  obtain ⟨aof, nf, caf, rfl⟩ := hvf
  obtain ⟨aot, cat, hic⟩ := ht.form
  have HT := hid ht
  have HC := hid hcs
  have HQ := hid hq
  have HG := hid hg
  have HP := hid hp
  have HW := hid hW
  have HX := hid hX
  have HXB := hid hW.lt
  have HCF := hid (List.all_eq_true.1 hcf)
  obtain ⟨nt, hnt⟩ : ∃ n, n = ts.length := ⟨_, rfl⟩
  rw [← hnt] at hic hl
  have HN := hid hnt
  subst hic
  have K1 := hid (Gr.alloc (Gr.refl w) #[.slice aoc nc cac, .slice aof nf caf, .slice aot nt cat] 26)
  have NS := hid (show ∀ (g : Nat), P g → ¬ SW base X g from fun g q e => by
    have := HP.out g q
    rcases e with e | e
    · exact this.2 e
    · omega)
  clear ht hcs hq hg hp hW hX hcf hnt
  go_enter Tryz.func39, Tryz.ntmps39
  go_wp2_with fail
  go_loopg [12] nt (fun m i wq => ∃ (j : Nat) (v1 : Value), j + m = nt ∧ i = .int .i64 ((j : Nat) : Int) ∧ Wr base X wq v1 (wls T (ixl tbL 0 ((ts.map tT).take j))) ∧ Ch (SW base X) w wq)
  case atStart => exact ⟨0, v, by omega, rfl, HW.out.gr K1.out, K1.out.any⟩
  case round =>
    clear K1
    obtain ⟨j, v1, hjk, rfl, hwr, hch⟩ := hrel
    have HR := hid hwr
    have HH := hid hch
    obtain ⟨GK, hGK⟩ : ∃ n, n = gk - 1 := ⟨_, rfl⟩
    have HGK := hid hGK
    have HJ := hid hjk
    clear hwr hch hGK
    by_cases hj : j < nt
    · obtain ⟨t, hx⟩ : ∃ x, ts[j]? = some x := ⟨_, List.getElem?_eq_getElem (by rw [← HN.out]; exact hj)⟩
      have HX1 := hid (ixl_take tbL (tT_at hx))
      have HM := hid (List.mem_of_getElem? hx)
      obtain ⟨g, o, cap', hv, hPg, hgl, hcap, hcs⟩ := HT.out.get eT_len hx
      injection hv with hv1 hv2 hv3
      subst hv1
      obtain ⟨nq, hnq⟩ : ∃ n, n = t.cs.length := ⟨_, rfl⟩
      have HNQ := hid hnq
      have hq := HQ.out t HM.out
      rw [← hnq] at hq
      obtain ⟨aq, cq, hcv⟩ := (HC.out t HM.out).form
      rw [← hnq] at hcv
      have HCV := hid hcv
      have c0 := (HH.out.cell hgl (NS.out g hPg)).trans (hcs 0 _ rfl)
      have c1 := (HH.out.cell hgl (NS.out g hPg)).trans (hcs 1 _ rfl)
      rw [Nat.add_zero, hcv] at c0
      have gs := HH.out.size
      have lg : g < wr.heap.size := by omega
      have j0 : (0 : Int) ≤ (j : Int) := by omega
      have j1 : (j : Int) < (nt : Int) := by omega
      have HGl := hid (HG.out.sw HX.out HXB.out HH.out)
      have HCAL := hid (fun (W : World) (q : Glb W) => called_any 3 (j : Nat) (by omega) (by omega) W q)
      have hcal := cal_size 3 (j : Nat) (by omega) (by omega)
      obtain ⟨df, hdf⟩ : ∃ d, d = t.df := ⟨_, rfl⟩
      have HTB := hid (show tbL j (tT t) = [if df = true then ({ data := #[116, 97, 98, 108, 101, 32] } ++ cal 3 (j : Nat)) ++ { data := #[32, 100, 101, 102, 97, 117, 108, 116] } else { data := #[116, 97, 98, 108, 101, 32] } ++ cal 3 (j : Nat)] ++ t.cs.map csT by rw [hdf]; rfl)
      obtain ⟨C, hC⟩ : ∃ s, s = cal 3 (j : Nat) := ⟨_, rfl⟩
      rw [← hC] at HCAL hcal HTB
      have sz1 : (({ data := #[116, 97, 98, 108, 101, 32] } : ByteArray) ++ C).size ≤ 28 := by rw [ByteArray.size_append]; have : ({ data := #[116, 97, 98, 108, 101, 32] } : ByteArray).size = 6 := rfl; omega
      have sz2 : ((({ data := #[116, 97, 98, 108, 101, 32] } : ByteArray) ++ C) ++ { data := #[32, 100, 101, 102, 97, 117, 108, 116] }).size ≤ 36 := by rw [ByteArray.size_append]; have : ({ data := #[32, 100, 101, 102, 97, 117, 108, 116] } : ByteArray).size = 8 := rfl; omega
      rw [← hdf] at c1
      have KP := hid (Kp.new HR.out #[.slice aq nq cq, .bool df] 44)
      have HWA := hid (HR.out.gr (Gr.alloc (Gr.refl wr) #[.slice aq nq cq, .bool df] 44))
      have HGA := hid (HGl.out.gr (Gr.alloc (Gr.refl wr) #[.slice aq nq cq, .bool df] 44))
      have HCA := hid (show Ch (SW base X) w (wr.alloc (.cells #[.slice aq nq cq, .bool df] 44)) from Ch.alloc HH.out _)
      obtain ⟨T1, hT1⟩ : ∃ x, x = wls T (ixl tbL 0 ((ts.map tT).take j)) := ⟨_, rfl⟩
      rw [← hT1] at HWA
      have HT1 := hid hT1
      have HIN := hid (fun (l : Nat) c (q : t.cs[l]? = some c) => List.all_eq_true.1 (HCF.out t HM.out) c (List.mem_of_getElem? q))
      clear hv2 hv3 hcs hx hcap hgl hnq hcv hjk hC hdf hPg hT1
      cases df with
      | false =>
        have i1 := True.intro
        have HTX := hid (show wls T (ixl tbL 0 ((ts.map tT).take (j + 1))) = wls (wl T1 ({ data := #[116, 97, 98, 108, 101, 32] } ++ C)) (t.cs.map csT) by
          rw [HX1.out, HTB.out, wls_app, ← HT1.out, wls_app]
          rfl)
        go_wp2_with (first | (go_at_call 77; refine (HCAL.out _ HGA.out).mono ?_; rintro e w1 ⟨rfl, g1⟩; have KP1 := hid (KP.out.gr g1); have HW1 := hid (HWA.out.gr g1); have HC1 := hid (Ch.trans HCA.out g1 (fun _ x => x.elim)); clear i1; have i1 : w1.cell? ⟨wr.heap.size, 1, none⟩ = some (.bool false) := (cell_of KP1.out.blk 1).trans rfl; have lk := lt_of_block KP1.out.blk; clear g1) | (go_at_call 84; refine (wline_any base X w1 v1 _ _ HW1.out (by omega)).mono ?_; rintro e w2 ⟨rfl, v2, L⟩; have HL := hid L.wr; have KP2 := hid (KP1.out.ln L); have HC2 := hid (HC1.out.trans' (L.sw HW1.out)); have i0 : w2.cell? ⟨wr.heap.size, 0, none⟩ = some (.slice aq nq cq) := (cell_of KP2.out.blk 0).trans rfl; have lk2 := lt_of_block KP2.out.blk; clear L i1))
        clear c0 c1 i0 lk lk2 lg gs
        obtain ⟨T2, hT2⟩ : ∃ x, x = wl T1 ({ data := #[116, 97, 98, 108, 101, 32] } ++ C) := ⟨_, rfl⟩
        rw [← hT2] at HL HTX
        clear hT2
        rename World => V
        go_loopg [30] nq (fun m i wq => ∃ (k : Nat) (v3 : Value), k + m = nq ∧ i = .int .i64 ((k : Nat) : Int) ∧ Wr base X wq v3 (wls T2 ((t.cs.take k).map csT)) ∧ Ch (SW base X) w wq)
        case atStart => exact ⟨0, v2, by omega, rfl, HL.out, HC2.out⟩
        case round =>
          obtain ⟨k, v3, hkk, rfl, hwr, hch⟩ := hrel
          have HR2 := hid hwr
          have HH2 := hid hch
          clear hwr hch
          by_cases hk : k < nq
          · obtain ⟨c, hx⟩ : ∃ x, t.cs[k]? = some x := ⟨_, List.getElem?_eq_getElem (by rw [← HNQ.out]; exact hk)⟩
            have HX2 := hid (show wls T2 ((t.cs.take (k + 1)).map csT) = wl (wls T2 ((t.cs.take k).map csT)) (csT c) by rw [take_one hx, List.map_append, List.map_singleton, wls_snoc])
            have hfit := HIN.out k c hx
            obtain ⟨gq, oq, cap', hv, hPg, hgl, hcap, hcs⟩ := (HC.out t HM.out).get eC_len hx
            rw [HCV.out] at hv
            injection hv with hv1 hv2 hv3
            subst hv1
            have c0 := (HH2.out.cell hgl (NS.out gq hPg)).trans (hcs 0 _ rfl)
            have c1 := (HH2.out.cell hgl (NS.out gq hPg)).trans (hcs 1 _ rfl)
            have c2 := (HH2.out.cell hgl (NS.out gq hPg)).trans (hcs 2 _ rfl)
            have c3 := (HH2.out.cell hgl (NS.out gq hPg)).trans (hcs 3 _ rfl)
            rw [Nat.add_zero] at c0
            have gs := HH2.out.size
            have lq : gq < wr.heap.size := by omega
            have q0 : (0 : Int) ≤ (k : Int) := by omega
            have q1 : (k : Int) < (nq : Int) := by omega
            have HI := hid (fun (W : World) => caseInstr_any c W)
            have HE := hid (fun (W : World) (q : Glb W) => caseText_any c hfit W q)
            have hsz := csT_size hfit
            have HGl2 := hid (HG.out.sw HX.out HXB.out HH2.out)
            have KA := hid (Gr.alloc (Gr.refl wr) #[.bool c.send, .int .i64 c.ch, .int .i64 c.val, .int .i64 c.ok] 46)
            unfold iV at HI HE
            generalize cI c = ci at HI HE
            obtain ⟨S, hS⟩ : ∃ s, s = csT c := ⟨_, rfl⟩
            rw [← hS] at HE hsz HX2
            clear hv2 hv3 hcs hx hcap hgl hfit hPg hS
            go_wp2_with (first | (go_at_call 85; refine (HI.out _).mono ?_; rintro e w1 ⟨rfl, g1⟩; have G1 := hid (Gr.trans KA.out g1); clear g1) | (go_at_call 31; refine (HE.out _ (HGl2.out.gr G1.out)).mono ?_; rintro e w2 ⟨rfl, g2⟩; have G2 := hid (Gr.trans G1.out g2); clear g2) | (go_at_call 84; refine (wline_any base X _ v3 _ _ (HR2.out.gr G2.out) (by omega)).mono ?_; rintro e w3 ⟨rfl, v4, L⟩; have HL3 := hid L.wr; have HC3 := hid ((Ch.trans HH2.out G2.out (fun _ x => x.elim)).trans' (L.sw (HR2.out.gr G2.out))); clear L))
            go_roundg (gk - 1)
            case measure => omega
            case rel => exact ⟨k + 1, v4, by omega, by simp, by rw [HX2.out]; exact HL3.out, HC3.out⟩
          · have kn : ¬ (k : Int) < (nq : Int) := by omega
            have hkn : t.cs.take k = t.cs := by rw [show k = t.cs.length by rw [← HNQ.out]; omega]; exact List.take_length
            rw [hkn] at HR2
            clear hkn
            go_wp2_with fail
            go_roundg GK
            case measure => have := HGK.out; have := HJ.out; omega
            case rel => exact ⟨j + 1, v3, by have := HGK.out; have := HJ.out; omega, by simp, by rw [HTX.out]; exact HR2.out, HH2.out⟩
      | true =>
        have i1 := True.intro
        have HTX := hid (show wls T (ixl tbL 0 ((ts.map tT).take (j + 1))) = wls (wl T1 (({ data := #[116, 97, 98, 108, 101, 32] } ++ C) ++ { data := #[32, 100, 101, 102, 97, 117, 108, 116] })) (t.cs.map csT) by
          rw [HX1.out, HTB.out, wls_app, ← HT1.out, wls_app]
          rfl)
        go_wp2_with (first | (go_at_call 77; refine (HCAL.out _ HGA.out).mono ?_; rintro e w1 ⟨rfl, g1⟩; have KP1 := hid (KP.out.gr g1); have HW1 := hid (HWA.out.gr g1); have HC1 := hid (Ch.trans HCA.out g1 (fun _ x => x.elim)); clear i1; have i1 : w1.cell? ⟨wr.heap.size, 1, none⟩ = some (.bool true) := (cell_of KP1.out.blk 1).trans rfl; have lk := lt_of_block KP1.out.blk; clear g1) | (go_at_call 84; refine (wline_any base X w1 v1 _ _ HW1.out (by omega)).mono ?_; rintro e w2 ⟨rfl, v2, L⟩; have HL := hid L.wr; have KP2 := hid (KP1.out.ln L); have HC2 := hid (HC1.out.trans' (L.sw HW1.out)); have i0 : w2.cell? ⟨wr.heap.size, 0, none⟩ = some (.slice aq nq cq) := (cell_of KP2.out.blk 0).trans rfl; have lk2 := lt_of_block KP2.out.blk; clear L i1))
        clear c0 c1 i0 lk lk2 lg gs
        obtain ⟨T2, hT2⟩ : ∃ x, x = wl T1 (({ data := #[116, 97, 98, 108, 101, 32] } ++ C) ++ { data := #[32, 100, 101, 102, 97, 117, 108, 116] }) := ⟨_, rfl⟩
        rw [← hT2] at HL HTX
        clear hT2
        rename World => V
        go_loopg [30] nq (fun m i wq => ∃ (k : Nat) (v3 : Value), k + m = nq ∧ i = .int .i64 ((k : Nat) : Int) ∧ Wr base X wq v3 (wls T2 ((t.cs.take k).map csT)) ∧ Ch (SW base X) w wq)
        case atStart => exact ⟨0, v2, by omega, rfl, HL.out, HC2.out⟩
        case round =>
          obtain ⟨k, v3, hkk, rfl, hwr, hch⟩ := hrel
          have HR2 := hid hwr
          have HH2 := hid hch
          clear hwr hch
          by_cases hk : k < nq
          · obtain ⟨c, hx⟩ : ∃ x, t.cs[k]? = some x := ⟨_, List.getElem?_eq_getElem (by rw [← HNQ.out]; exact hk)⟩
            have HX2 := hid (show wls T2 ((t.cs.take (k + 1)).map csT) = wl (wls T2 ((t.cs.take k).map csT)) (csT c) by rw [take_one hx, List.map_append, List.map_singleton, wls_snoc])
            have hfit := HIN.out k c hx
            obtain ⟨gq, oq, cap', hv, hPg, hgl, hcap, hcs⟩ := (HC.out t HM.out).get eC_len hx
            rw [HCV.out] at hv
            injection hv with hv1 hv2 hv3
            subst hv1
            have c0 := (HH2.out.cell hgl (NS.out gq hPg)).trans (hcs 0 _ rfl)
            have c1 := (HH2.out.cell hgl (NS.out gq hPg)).trans (hcs 1 _ rfl)
            have c2 := (HH2.out.cell hgl (NS.out gq hPg)).trans (hcs 2 _ rfl)
            have c3 := (HH2.out.cell hgl (NS.out gq hPg)).trans (hcs 3 _ rfl)
            rw [Nat.add_zero] at c0
            have gs := HH2.out.size
            have lq : gq < wr.heap.size := by omega
            have q0 : (0 : Int) ≤ (k : Int) := by omega
            have q1 : (k : Int) < (nq : Int) := by omega
            have HI := hid (fun (W : World) => caseInstr_any c W)
            have HE := hid (fun (W : World) (q : Glb W) => caseText_any c hfit W q)
            have hsz := csT_size hfit
            have HGl2 := hid (HG.out.sw HX.out HXB.out HH2.out)
            have KA := hid (Gr.alloc (Gr.refl wr) #[.bool c.send, .int .i64 c.ch, .int .i64 c.val, .int .i64 c.ok] 46)
            unfold iV at HI HE
            generalize cI c = ci at HI HE
            obtain ⟨S, hS⟩ : ∃ s, s = csT c := ⟨_, rfl⟩
            rw [← hS] at HE hsz HX2
            clear hv2 hv3 hcs hx hcap hgl hfit hPg hS
            go_wp2_with (first | (go_at_call 85; refine (HI.out _).mono ?_; rintro e w1 ⟨rfl, g1⟩; have G1 := hid (Gr.trans KA.out g1); clear g1) | (go_at_call 31; refine (HE.out _ (HGl2.out.gr G1.out)).mono ?_; rintro e w2 ⟨rfl, g2⟩; have G2 := hid (Gr.trans G1.out g2); clear g2) | (go_at_call 84; refine (wline_any base X _ v3 _ _ (HR2.out.gr G2.out) (by omega)).mono ?_; rintro e w3 ⟨rfl, v4, L⟩; have HL3 := hid L.wr; have HC3 := hid ((Ch.trans HH2.out G2.out (fun _ x => x.elim)).trans' (L.sw (HR2.out.gr G2.out))); clear L))
            go_roundg (gk - 1)
            case measure => omega
            case rel => exact ⟨k + 1, v4, by omega, by simp, by rw [HX2.out]; exact HL3.out, HC3.out⟩
          · have kn : ¬ (k : Int) < (nq : Int) := by omega
            have hkn : t.cs.take k = t.cs := by rw [show k = t.cs.length by rw [← HNQ.out]; omega]; exact List.take_length
            rw [hkn] at HR2
            clear hkn
            go_wp2_with fail
            go_roundg GK
            case measure => have := HGK.out; have := HJ.out; omega
            case rel => exact ⟨j + 1, v3, by have := HGK.out; have := HJ.out; omega, by simp, by rw [HTX.out]; exact HR2.out, HH2.out⟩
    · have jn : ¬ (j : Int) < (nt : Int) := by omega
      have hjn : j = nt := by omega
      have htk : (ts.map tT).take j = ts.map tT := by rw [hjn, HN.out, show ts.length = (ts.map tT).length by simp]; exact List.take_length
      rw [htk] at HR
      clear htk hjn
      go_wp2
      go_end0
      exact ⟨rfl, ⟨_, HR.out⟩, HH.out⟩
end Go.Proofs.YtbehlhnnfdkmaaaGreatDoor.Lt

namespace Go.Proofs.YtbehlhnnfdkmaaaGreatDoor.Lt
open Go.RowKit Wd

theorem wT_size (n : Int) (h0 : 0 ≤ n) (h1 : n < 4294967296) : (wT n).size ≤ 101 := by
  unfold wT
  split
  · obtain ⟨a, b, c, d⟩ := d_bd n h0 h1 (sh (opOf n))
    exact insT_size _ _ _ _ _ a b c d
  · show (0 : Nat) ≤ 101
    omega
theorem wordText_any (n : Int) (h0 : 0 ≤ n) (h1 : n < 4294967296) (h : dE n = 0) (w : World) (hg : Glb w) : Calls Tryz.prog 31 #[iV (dI n)] w fun e w' => e = .returned (.string (wT n)) ∧ Gr w w' := by
  obtain ⟨⟨k1, k2⟩, e⟩ := dE_ok h
  obtain ⟨a, b, c, d⟩ := d_bd n h0 h1 (sh (opOf n))
  unfold wT
  rw [if_pos h, e]
  exact instruction_any _ k1 k2 _ _ _ _ a b c d w hg
theorem lb_snoc {cs : List Int} {x a : Nat} (h : x ≤ a) : (List.range' x (a + 1 - x)).flatMap (lbL cs) = (List.range' x (a - x)).flatMap (lbL cs) ++ lbL cs a := by
  rw [show a + 1 - x = (a - x) + 1 by omega, List.range'_1_concat, List.flatMap_append, List.flatMap_singleton, show x + (a - x) = a by omega]
theorem tgC_at {cs : List Int} {n a : Nat} (h : a < n) : (tgC cs n)[a]? = some (.bool (tg cs a)) := by
  unfold tgC
  simp [h]

set_option maxHeartbeats 2000000 in
set_option maxRecDepth 20000 in
theorem functions_any (P : Nat → Prop) (base X : Nat) (w : World) (v : Value) (T : ByteArray) (vc vf vt : Value) (cs : List Int) (fs : List (Int × Int)) (hc : Ls eU P w vc cs) (hf : Ls eG P w vf fs) (hp : ∀ g, P g → g < base ∧ g ≠ X) (hW : Wr base X w v T) (hcl : cs.length ≤ 35184372088832) (hfl : fs.length ≤ 8796093022208) (hu : U32s cs) (hpr : pr fs 0 = some (cs.length : Int)) (hok : ∀ x ∈ cs, dE x = 0) (htg : TgOk cs cs.length) (hg : Glb w) (hX : 10 < X)
    (hvt : ∃ a n c, vt = .slice a n c) :
    Calls Tryz.prog 40 #[.pointer (some ⟨X, 0, none⟩), .agg #[vc, vf, vt]] w fun e w' => e = .returned (.tuple #[]) ∧ (∃ v', Wr base X w' v' (wls T (ixl (fnL cs) 0 fs))) ∧ Ch (SW base X) w w' := by
  obtain ⟨aot, nt, cat, rfl⟩ := hvt
  obtain ⟨aoc, cac, hia⟩ := hc.form
  obtain ⟨aof, caf, hib⟩ := hf.form
  have HC := hid hc
  have HF := hid hf
  have HU := hid hu
  have HOK := hid hok
  have HG := hid hg
  have HP := hid hp
  have HW := hid hW
  have HX := hid hX
  have HXB := hid hW.lt
  have HTG := hid (fun (W : World) (p : Gr w W) => targets_any P W vc cs (hc.gr p) hcl hu htg (hg.gr p))
  obtain ⟨nc, hnc⟩ : ∃ n, n = cs.length := ⟨_, rfl⟩
  obtain ⟨nf, hnf⟩ : ∃ n, n = fs.length := ⟨_, rfl⟩
  rw [← hnc] at hia hcl hpr HTG
  rw [← hnf] at hib hfl
  have HNC := hid hnc
  have HNF := hid hnf
  have HPR := hid hpr
  subst hia hib
  have K1 := hid (Gr.alloc (Gr.refl w) #[.slice aoc nc cac, .slice aof nf caf, .slice aot nt cat] 26)
  have KB := hid (Kp.new HW.out #[.slice aoc nc cac, .slice aof nf caf, .slice aot nt cat] 26)
  have NS := hid (show ∀ (g : Nat), P g → ¬ SW base X g from fun g q e => by
    have := HP.out g q
    rcases e with e | e
    · exact this.2 e
    · omega)
  clear hc hf hp hW hu hok htg hg hX hnc hnf hpr
  go_enter Tryz.func40, Tryz.ntmps40
  go_wp2_with (go_at_call 86; refine (HTG.out _ K1.out).mono ?_; rintro e w1 ⟨rfl, bm, g1⟩; have KB1 := hid (KB.out.gr g1); have BM := hid bm; have G1 := hid (Gr.trans K1.out g1); have i1 : w1.cell? ⟨w.heap.size, 1, none⟩ = some (.slice aof nf caf) := (cell_of KB1.out.blk 1).trans rfl; have lk := lt_of_block KB1.out.blk; clear bm g1)
  clear i1 lk
  simp only [World.size_alloc] at BM
  have KM := hid (show Kp X v w1 (w.heap.size + 1) (.cells (tgC cs nc) 4 (0, 0)) from ⟨BM.out, fun e => by have := lt_of_block HW.out.blk; omega, fun e => by have := (HW.out.own.blk e).2; omega⟩)
  have HW1 := hid (HW.out.gr G1.out)
  clear BM HTG KB K1 HW
  go_loopg [16] nf (fun m i wq => ∃ (j x : Nat) (v1 : Value), j + m = nf ∧ i = .int .i64 ((j : Nat) : Int) ∧ pr (fs.drop j) (x : Int) = some (nc : Int) ∧ Wr base X wq v1 (wls T (ixl (fnL cs) 0 (fs.take j))) ∧ Ch (SW base X) w wq ∧ Kp X v1 wq w.heap.size (.cells #[.slice aoc nc cac, .slice aof nf caf, .slice aot nt cat] 26 (0, 0)) ∧ Kp X v1 wq (w.heap.size + 1) (.cells (tgC cs nc) 4 (0, 0)))
  case atStart => exact ⟨0, 0, v, by omega, rfl, HPR.out, HW1.out, G1.out.any, KB1.out, KM.out⟩
  case round =>
    clear KB1 KM HW1 G1 HPR
    obtain ⟨j, x, v1, hjk, rfl, hpr, hwr, hch, hkb, hkm⟩ := hrel
    have HR := hid hwr
    have HH := hid hch
    have KB := hid hkb
    have KM := hid hkm
    have HPR := hid hpr
    obtain ⟨GK, hGK⟩ : ∃ n, n = gk - 1 := ⟨_, rfl⟩
    have HGK := hid hGK
    have HJ := hid hjk
    clear hwr hch hGK hkb hkm hpr
    by_cases hj : j < nf
    · obtain ⟨⟨x1, x2⟩, hx⟩ : ∃ f, fs[j]? = some f := ⟨_, List.getElem?_eq_getElem (by rw [← HNF.out]; exact hj)⟩
      have HX1 := hid (ixl_take (fnL cs) hx)
      have hp1 := HPR.out
      rw [pr_cons hx (x : Int)] at hp1
      split at hp1
      case isFalse => cases hp1
      case isTrue hq =>
        obtain ⟨rfl, hq2⟩ := hq
        simp only at hq2 hp1
        have hle := pr_le _ _ _ hp1
        obtain ⟨y, rfl⟩ : ∃ y : Nat, x2 = (y : Nat) := ⟨x2.toNat, by omega⟩
        have HP1 := hid hp1
        have hxy : x < y := by omega
        have hyn : y ≤ nc := by omega
        obtain ⟨g, o, cap', hv, hPg, hgl, hcap, hcs⟩ := HF.out.get eG_len hx
        injection hv with hv1 hv2 hv3
        subst hv1
        have c0 := (HH.out.cell hgl (NS.out g hPg)).trans (hcs 0 _ rfl)
        have c1 := (HH.out.cell hgl (NS.out g hPg)).trans (hcs 1 _ rfl)
        rw [Nat.add_zero] at c0
        have gs := HH.out.size
        have lg : g < wr.heap.size := by omega
        have j0 : (0 : Int) ≤ (j : Int) := by omega
        have j1 : (j : Int) < (nf : Int) := by omega
        have HGl := hid (HG.out.sw HX.out HXB.out HH.out)
        have HCAL := hid (fun (W : World) (q : Glb W) => called_any 2 (j : Nat) (by omega) (by omega) W q)
        have hcal := cal_size 2 (j : Nat) (by omega) (by omega)
        have HTB := hid (show fnL cs j ((x : Nat), (y : Nat)) = [{ data := #[102, 117, 110, 99, 32] } ++ cal 2 (j : Nat)] ++ (List.range' x (y - x)).flatMap (lbL cs) by
          unfold fnL
          rw [show (((y : Nat) : Int) - ((x : Nat) : Int)).toNat = y - x by omega]
          rfl)
        obtain ⟨C, hC⟩ : ∃ s, s = cal 2 (j : Nat) := ⟨_, rfl⟩
        rw [← hC] at HCAL hcal HTB
        have sz1 : (({ data := #[102, 117, 110, 99, 32] } : ByteArray) ++ C).size ≤ 27 := by rw [ByteArray.size_append]; have : ({ data := #[102, 117, 110, 99, 32] } : ByteArray).size = 5 := rfl; omega
        have KP := hid (Kp.new HR.out #[.int .i64 (x : Nat), .int .i64 (y : Nat)] 41)
        have KA := hid (Gr.alloc (Gr.refl wr) #[.int .i64 (x : Nat), .int .i64 (y : Nat)] 41)
        obtain ⟨T1, hT1⟩ : ∃ x, x = wls T (ixl (fnL cs) 0 (fs.take j)) := ⟨_, rfl⟩
        rw [← hT1] at HR
        have HTX := hid (show wls T (ixl (fnL cs) 0 (fs.take (j + 1))) = wls (wl T1 ({ data := #[102, 117, 110, 99, 32] } ++ C)) ((List.range' x (y - x)).flatMap (lbL cs)) by
          rw [HX1.out, HTB.out, wls_app, ← hT1, wls_app]
          rfl)
        clear hv2 hv3 hcs hx hcap hgl hjk hC hPg hT1 hp1 HTB HX1 HPR hle hq2
        go_wp2_with (first | (go_at_call 77; refine (HCAL.out _ (HGl.out.gr KA.out)).mono ?_; rintro e w1 ⟨rfl, g1⟩; have G1 := hid (Gr.trans KA.out g1); have KP1 := hid (KP.out.gr g1); clear g1) | (go_at_call 84; refine (wline_any base X w1 v1 _ _ (HR.out.gr G1.out) (by omega)).mono ?_; rintro e w2 ⟨rfl, v2, L⟩; have HL := hid L.wr; have KP2 := hid (KP1.out.ln L); have KB2 := hid ((KB.out.gr G1.out).ln L); have KM2 := hid ((KM.out.gr G1.out).ln L); have HC2 := hid ((Ch.trans HH.out G1.out (fun _ x => x.elim)).trans' (L.sw (HR.out.gr G1.out))); have i0 : w2.cell? ⟨wr.heap.size, 0, none⟩ = some (.int .i64 (x : Nat)) := (cell_of KP2.out.blk 0).trans rfl; have lk2 := lt_of_block KP2.out.blk; clear L))
        clear c0 c1 i0 lk2 lg gs KB KM KP KP1 HGl HCAL
        obtain ⟨T2, hT2⟩ : ∃ x, x = wl T1 ({ data := #[102, 117, 110, 99, 32] } ++ C) := ⟨_, rfl⟩
        rw [← hT2] at HL HTX
        obtain ⟨F, hF⟩ : ∃ x, x = wr.heap.size := ⟨_, rfl⟩
        rw [← hF] at KP2 ⊢
        clear hT2 hF
        go_loopg [7] (y - x) (fun m i wq => ∃ (a : Nat) (v3 : Value), a + m = y ∧ x ≤ a ∧ i = .int .i64 ((a : Nat) : Int) ∧ Wr base X wq v3 (wls T2 ((List.range' x (a - x)).flatMap (lbL cs))) ∧ Ch (SW base X) w wq ∧ Kp X v3 wq w.heap.size (.cells #[.slice aoc nc cac, .slice (some ⟨g, o, none⟩) nf caf, .slice aot nt cat] 26 (0, 0)) ∧ Kp X v3 wq (w.heap.size + 1) (.cells (tgC cs nc) 4 (0, 0)) ∧ Kp X v3 wq F (.cells #[.int .i64 (x : Nat), .int .i64 (y : Nat)] 41 (0, 0)))
        case atStart => exact ⟨x, v2, by omega, by omega, rfl, by rw [Nat.sub_self]; exact HL.out, HC2.out, KB2.out, KM2.out, KP2.out⟩
        case round =>
          clear KB2 KM2 KP2 HC2 HL
          obtain ⟨a, v3, hkk, hxa, rfl, hwr, hch, hkb, hkm, hkp⟩ := hrel
          have HR2 := hid hwr
          have HH2 := hid hch
          have KB := hid hkb
          have KM := hid hkm
          have KP := hid hkp
          have lB := lt_of_block hkb.blk
          have lM := lt_of_block hkm.blk
          have lF := lt_of_block hkp.blk
          have f1 : wr.cell? ⟨F, 1, none⟩ = some (.int .i64 (y : Nat)) := (cell_of hkp.blk 1).trans rfl
          clear hwr hch hkb hkm hkp
          by_cases ha : a < y
          · obtain ⟨n, hx⟩ : ∃ x, cs[a]? = some x := ⟨_, List.getElem?_eq_getElem (by rw [← HNC.out]; omega)⟩
            have hm := List.mem_of_getElem? hx
            obtain ⟨n0, n1⟩ := HU.out n hm
            have hd := HOK.out n hm
            have HLB := hid (show lbL cs a = (if tg cs a = true then [cal 1 (a : Nat) ++ { data := #[58] }] else []) ++ [wT n] by
              unfold lbL
              rw [hx]
              rfl)
            have HX2 := hid (lb_snoc (cs := cs) hxa)
            have HD := hid (fun (W : World) (q : Glb W) => decode_all n n0 n1 W q)
            have HT := hid (fun (W : World) (q : Glb W) => wordText_any n n0 n1 hd W q)
            have hsz := wT_size n n0 n1
            unfold iV at HD HT
            rw [hd] at HD
            generalize dI n = I at HD HT
            obtain ⟨S, hS⟩ : ∃ s, s = wT n := ⟨_, rfl⟩
            rw [← hS] at HT hsz HLB
            obtain ⟨gq, oq, cap', hv, hPg, hgl, hcap, hcs⟩ := HC.out.get eU_len hx
            injection hv with hv1 hv2 hv3
            subst hv1
            have HCELL := hid (fun (W : World) (k : Ch (SW base X) w W) => (k.cell hgl (NS.out gq hPg)).trans (hcs 0 _ rfl))
            have HLT := hid (fun (W : World) (k : Ch (SW base X) w W) => Nat.lt_of_lt_of_le hgl k.size)
            simp only [Nat.mul_one, Nat.add_zero] at HCELL
            have q0 : (0 : Int) ≤ (a : Int) := by omega
            have q1 : (a : Int) < (nc : Int) := by omega
            have q2 : (a : Int) < (y : Int) := by omega
            have m1 : wr.cell? ⟨w.heap.size + 1, a, none⟩ = some (.bool (tg cs a)) := (cell_of KM.out.blk a).trans (tgC_at (by omega))
            have HGl2 := hid (HG.out.sw HX.out HXB.out HH2.out)
            have HCAL := hid (fun (W : World) (q : Glb W) => called_any 1 (a : Nat) (by omega) (by omega) W q)
            have hcal := cal_size 1 (a : Nat) (by omega) (by omega)
            obtain ⟨C, hC⟩ : ∃ s, s = cal 1 (a : Nat) := ⟨_, rfl⟩
            rw [← hC] at HCAL hcal HLB
            have sz2 : (C ++ ({ data := #[58] } : ByteArray)).size ≤ 23 := by rw [ByteArray.size_append]; have : ({ data := #[58] } : ByteArray).size = 1 := rfl; omega
            obtain ⟨T3, hT3⟩ : ∃ z, z = wls T2 ((List.range' x (a - x)).flatMap (lbL cs)) := ⟨_, rfl⟩
            rw [← hT3] at HR2
            have HT3 := hid hT3
            clear hv2 hv3 hcs hx hcap hgl hPg hS hm hd n0 n1 hC hT3 sz1
            cases htg : tg cs a with
            | false =>
              rw [htg] at m1 HLB
              have HTY := hid (show wls T2 ((List.range' x (a + 1 - x)).flatMap (lbL cs)) = wl T3 S by
                rw [HX2.out, HLB.out, wls_app, ← HT3.out]
                rfl)
              have b0 : wr.cell? ⟨w.heap.size, 0, none⟩ = some (.slice (some ⟨gq, oq, none⟩) nc cac) := (cell_of KB.out.blk 0).trans rfl
              have cc := HCELL.out wr HH2.out
              have lc := HLT.out wr HH2.out
              go_wp2_with (first | (go_at_call 30; refine (HD.out _ (HG.out.sw HX.out HXB.out HH2.out)).mono ?_; rintro e w4 ⟨rfl, g4⟩; have GA := hid (Gr.alloc g4 #[.int .i64 I.1, .int .i64 I.2.1, .int .i64 I.2.2.1, .int .i64 I.2.2.2.1, .int .i64 I.2.2.2.2] 67); clear g4) | (go_at_call 31; refine (HT.out _ ((HG.out.sw HX.out HXB.out HH2.out).gr GA.out)).mono ?_; rintro e w5 ⟨rfl, g5⟩; have G5 := hid (Gr.trans GA.out g5); clear g5) | (go_at_call 84; refine (wline_any base X _ v3 _ _ (HR2.out.gr G5.out) (by omega)).mono ?_; rintro e w6 ⟨rfl, v6, L⟩; have HL6 := hid L.wr; have KB6 := hid ((KB.out.gr G5.out).ln L); have KM6 := hid ((KM.out.gr G5.out).ln L); have KP6 := hid ((KP.out.gr G5.out).ln L); have HC6 := hid ((Ch.trans HH2.out G5.out (fun _ x => x.elim)).trans' (L.sw (HR2.out.gr G5.out))); clear L))
              go_roundg (gk - 1)
              case measure => omega
              case rel => exact ⟨a + 1, v6, by omega, by omega, by simp, by rw [HTY.out]; exact HL6.out, HC6.out, KB6.out, KM6.out, KP6.out⟩
            | true =>
              rw [htg] at m1 HLB
              have HTY := hid (show wls T2 ((List.range' x (a + 1 - x)).flatMap (lbL cs)) = wl (wl T3 (C ++ { data := #[58] })) S by
                rw [HX2.out, HLB.out, wls_app, ← HT3.out]
                rfl)
              go_wp2_with (first | (go_at_call 77; refine (HCAL.out _ HGl2.out).mono ?_; rintro e w1 ⟨rfl, g1⟩; have G1 := hid g1; clear g1) | (go_at_call 84; refine (wline_any base X w1 v3 _ _ (HR2.out.gr G1.out) (by omega)).mono ?_; rintro e w2 ⟨rfl, v2, L⟩; have HL2 := hid L.wr; have KB2 := hid ((KB.out.gr G1.out).ln L); have KM2 := hid ((KM.out.gr G1.out).ln L); have KP2 := hid ((KP.out.gr G1.out).ln L); have HC2 := hid ((Ch.trans HH2.out G1.out (fun _ x => x.elim)).trans' (L.sw (HR2.out.gr G1.out))); have b0 : w2.cell? ⟨w.heap.size, 0, none⟩ = some (.slice (some ⟨gq, oq, none⟩) nc cac) := (cell_of KB2.out.blk 0).trans rfl; have lB2 := lt_of_block KB2.out.blk; have cc := HCELL.out w2 HC2.out; have lc := HLT.out w2 HC2.out; clear L) | (go_at_call 30; refine (HD.out _ (HG.out.sw HX.out HXB.out HC2.out)).mono ?_; rintro e w4 ⟨rfl, g4⟩; have GA := hid (Gr.alloc g4 #[.int .i64 I.1, .int .i64 I.2.1, .int .i64 I.2.2.1, .int .i64 I.2.2.2.1, .int .i64 I.2.2.2.2] 67); clear g4) | (go_at_call 31; refine (HT.out _ ((HG.out.sw HX.out HXB.out HC2.out).gr GA.out)).mono ?_; rintro e w5 ⟨rfl, g5⟩; have G5 := hid (Gr.trans GA.out g5); clear g5) | (go_at_call 84; refine (wline_any base X _ v2 _ _ (HL2.out.gr G5.out) (by omega)).mono ?_; rintro e w6 ⟨rfl, v6, L⟩; have HL6 := hid L.wr; have KB6 := hid ((KB2.out.gr G5.out).ln L); have KM6 := hid ((KM2.out.gr G5.out).ln L); have KP6 := hid ((KP2.out.gr G5.out).ln L); have HC6 := hid ((Ch.trans HC2.out G5.out (fun _ x => x.elim)).trans' (L.sw (HL2.out.gr G5.out))); clear L))
              go_roundg (gk - 1)
              case measure => omega
              case rel => exact ⟨a + 1, v6, by omega, by omega, by simp, by rw [HTY.out]; exact HL6.out, HC6.out, KB6.out, KM6.out, KP6.out⟩
          · have kn : ¬ (a : Int) < (y : Int) := by omega
            have hay : a = y := by omega
            rw [hay] at HR2
            clear hay
            go_wp2_with fail
            go_roundg GK
            case measure => have := HGK.out; have := HJ.out; omega
            case rel => exact ⟨j + 1, y, v3, by have := HGK.out; have := HJ.out; omega, by simp, HP1.out, by rw [HTX.out]; exact HR2.out, HH2.out, KB.out, KM.out⟩
    · have jn : ¬ (j : Int) < (nf : Int) := by omega
      have hjn : j = nf := by omega
      have htk : fs.take j = fs := by rw [hjn, HNF.out]; exact List.take_length
      rw [htk] at HR
      clear htk hjn
      go_wp2
      go_end0
      exact ⟨rfl, ⟨_, HR.out⟩, HH.out⟩
end Go.Proofs.YtbehlhnnfdkmaaaGreatDoor.Lt
