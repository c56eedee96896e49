/-
  What the document's Print answers. Conditions: lists are no longer than the reach lets be, and so few that a text of them can be; words are words.
-/
import Derived.Test.YtbehlhnnfdkmaaaGreatDoorLtRPr0
namespace Go.Proofs.YtbehlhnnfdkmaaaGreatDoor.Lt
open Go.RowKit Wd

set_option maxHeartbeats 8000000 in
set_option maxRecDepth 100000 in
theorem rprint_any (P : Nat → Prop) (w : World) (vc vf vt : Value) (cs : List Int) (fs : List (Int × Int)) (ts : List Tb) (h : Pin P w vc vf vt cs fs ts) (hcl : cs.length ≤ 262144) (hfl : fs.length ≤ 8796093022208) (htl : ts.length ≤ 4398046511104) (hq : ∀ t ∈ ts, t.cs.length ≤ 4398046511104) (hn : (ixl tbL 0 (ts.map tT)).length ≤ 262144) (hu : U32s cs) :
    Calls Tryz.prog 18 #[.agg #[vc, vf, vt]] w fun e w' => e = .returned (.tuple #[.string (prT cs fs ts), .int .i64 (prE cs fs ts)]) ∧ Gr w w' := by
  have HIN := hid h
  have HU := hid hu
  have HQ := hid hq
  have HCI := hid (chk_is cs fs ts)
  have HFT := hid (fun (W : World) (p : Gr w W) => rfits_any P W vc vf vt cs fs ts (h.gr p) (by omega) hfl htl hq hu)
  have HLN := hid (fun (W : World) (p : Gr w W) (i : Int) => rline_any P W vc vf vt cs i (h.c.gr p) hu)
  have HGO := hid (fun (W : World) (p : Gr w W) (q : ∀ x ∈ cs, dE x = 0) (x y k : Nat) (a : x ≤ y) (b : y ≤ cs.length) => goal_any P W vc vf vt cs (h.c.gr p) (by obtain ⟨a, c, e⟩ := h.f.form; exact ⟨a, _, c, e⟩) (by obtain ⟨a, c, e⟩ := h.t.form; exact ⟨a, _, c, e⟩) hu q x y k a b (by omega))
  obtain ⟨aoc, cac, hia⟩ := h.c.form
  obtain ⟨aof, caf, hib⟩ := h.f.form
  obtain ⟨aot, cat, hic⟩ := h.t.form
  obtain ⟨E, hE⟩ : ∃ b, b = prE cs fs ts := ⟨_, rfl⟩
  obtain ⟨S, hS⟩ : ∃ b, b = prT cs fs ts := ⟨_, rfl⟩
  rw [← hE, ← hS]
  unfold prE at hE
  unfold prT at hS
  have HDF := hid (doc_full cs fs (ts.map tT))
  have HFI := hid (show fts cs fs ts = true → ptd fs cs.length = true ∧ cfs ts = true ∧ thA fs.length ts.length cs fs = true from fun q => by
    unfold fts at q
    simp only [Bool.and_eq_true] at q
    exact ⟨q.1.1, q.1.2, q.2⟩)
  obtain ⟨b1, hb1⟩ : ∃ b, b = fts cs fs ts := ⟨_, rfl⟩
  rw [← hb1] at HFT HCI HFI
  rw [HCI.out] at hE hS
  obtain ⟨nc, hnc⟩ : ∃ n, n = cs.length := ⟨_, rfl⟩
  obtain ⟨nf, hnf⟩ : ∃ n, n = fs.length := ⟨_, rfl⟩
  obtain ⟨nt, hnt⟩ : ∃ n, n = ts.length := ⟨_, rfl⟩
  rw [← hnc] at hia hcl HFI HGO
  rw [← hnf] at hib hfl
  have htl' := htl
  rw [← hnt] at hic htl
  have HNC := hid hnc
  have HNF := hid hnf
  have HNT := hid hnt
  have HE := hid hE
  have HS := hid hS
  have HN := hid hn
  subst hia hib hic
  have K1 := hid (Gr.alloc (Gr.refl w) #[.slice aoc nc cac, .slice aof nf caf, .slice aot nt cat] 26)
  have B1 := hid (MapKept.heap_alloc w (.cells #[.slice aoc nc cac, .slice aof nf caf, .slice aot nt cat] 26)).1
  clear h hu hq hb1 hnc hnf hnt hE hS hn HCI
  cases b1 with
  | false =>
    have he : E = 1 := by rw [HE.out]; simp
    have hs : S = { data := #[] } := by rw [HS.out]; simp
    subst he hs
    go_enter Tryz.func18, Tryz.ntmps18
    go_wp2_with (go_at_call 42; refine (HFT.out _ K1.out).mono ?_; rintro e w1 ⟨rfl, g1⟩; have G1 := hid (Gr.trans K1.out g1); clear g1)
    go_ret2
    exact ⟨rfl, G1.out⟩
  | true =>
    obtain ⟨hpt, hcf, hth⟩ := HFI.out rfl
    have HPR := hid (ptd_pr hpt)
    have HCF := hid hcf
    have HTH := hid hth
    simp only [if_true] at HE HS
    clear HFI hpt hcf hth
    go_enter Tryz.func18, Tryz.ntmps18
    go_wp2_with (go_at_call 42; refine (HFT.out _ K1.out).mono ?_; rintro e w1 ⟨rfl, g1⟩; have G1 := hid (Gr.trans K1.out g1); have BB := hid (gr_blk B1.out g1); clear g1)
    clear HFT K1 B1
    go_loopg [4] nc (fun m i wq => ∃ j : Nat, j + m = nc ∧ i = .int .i64 ((j : Nat) : Int) ∧ (∀ x ∈ cs.take j, dE x = 0) ∧ Gr w wq ∧ wq.heap[w.heap.size]? = some (.cells #[.slice aoc nc cac, .slice aof nf caf, .slice aot nt cat] 26 (0, 0)))
    case atStart => exact ⟨0, by omega, rfl, fun x q => by simp at q, G1.out, BB.out⟩
    case round =>
      clear G1 BB
      obtain ⟨j, hjk, rfl, hal, hgr, hbk⟩ := hrel
      have HA := hid hal
      have HR := hid hgr
      have HK := hid hbk
      have lk := lt_of_block hbk
      have n0 : wr.cell? ⟨w.heap.size, 0, none⟩ = some (.slice aoc nc cac) := (cell_of hbk 0).trans rfl
      clear hal hgr hbk
      by_cases hj : j < nc
      · obtain ⟨n, hx⟩ : ∃ x, cs[j]? = some x := ⟨_, List.getElem?_eq_getElem (by rw [← HNC.out]; exact hj)⟩
        have HX := hid hx
        have HTK := hid (take_one hx)
        obtain ⟨u0, u1⟩ := HU.out n (List.mem_of_getElem? hx)
        have HD := hid (fun (W : World) => rdecode_all n u0 u1 W)
        have HFE := hid (show dE n ≠ 0 → fsE cs = dE n from fun q => by
          rw [← List.take_append_drop j cs, fsE_app, fsE_zero.2 HA.out, if_pos rfl, List.drop_eq_getElem_cons (by rw [← HNC.out]; exact hj), (List.getElem?_eq_some_iff.1 HX.out).2]
          show (if dE n = 0 then _ else dE n) = dE n
          rw [if_neg q])
        obtain ⟨gq, oq, cap', hv, _, hgl, hcap, hcs⟩ := HIN.out.c.get eU_len hx
        injection hv with hv1 hv2 hv3
        subst hv1
        have c0 := (HR.out.cell hgl).trans (hcs 0 _ rfl)
        rw [Nat.mul_one, Nat.add_zero] at c0
        have gs := HR.out.size
        have lq : gq < wr.heap.size := by omega
        have q0 : (0 : Int) ≤ (j : Int) := by omega
        have q1 : (j : Int) < (nc : Int) := by omega
        have HDE := hid (show dE n = dE n from rfl)
        unfold iV at HD
        generalize dI n = I at HD
        obtain ⟨D, hD⟩ : ∃ d, d = dE n := ⟨_, rfl⟩
        rw [← hD] at HD HFE
        have HDD := hid hD
        clear hv2 hv3 hcs hx hcap hgl u0 u1 HDE hD
        by_cases hd : D = 0
        · subst hd
          go_wp2_with (go_at_call 32; refine (HD.out _).mono ?_; rintro e w3 ⟨rfl, g3⟩; have G3 := hid (Gr.alloc (Gr.trans HR.out g3) #[.int .i64 I.1, .int .i64 I.2.1, .int .i64 I.2.2.1, .int .i64 I.2.2.2.1, .int .i64 I.2.2.2.2] 67); have K3 := hid (al_blk (gr_blk HK.out g3) (.cells #[.int .i64 I.1, .int .i64 I.2.1, .int .i64 I.2.2.1, .int .i64 I.2.2.2.1, .int .i64 I.2.2.2.2] 67)); clear g3)
          go_roundg (gk - 1)
          case measure => omega
          case rel =>
            refine ⟨j + 1, by omega, by simp, fun x q => ?_, G3.out, K3.out⟩
            rw [HTK.out] at q
            rcases List.mem_append.1 q with q | q
            · exact HA.out x q
            · have e : x = n := by simpa using q
              rw [e]
              exact HDD.out.symm
        · have he : E = D := by rw [HE.out, HFE.out hd, if_neg hd]
          have hs : S = { data := #[] } := by rw [HS.out, HFE.out hd, if_neg hd]
          have hd' : (D == 0) = false := by simpa using hd
          subst he hs
          go_wp2_with (go_at_call 32; refine (HD.out _).mono ?_; rintro e w3 ⟨rfl, g3⟩; have G3 := hid (Gr.alloc (Gr.trans HR.out g3) #[.int .i64 I.1, .int .i64 I.2.1, .int .i64 I.2.2.1, .int .i64 I.2.2.2.1, .int .i64 I.2.2.2.2] 67); clear g3)
          go_ret2
          exact ⟨rfl, G3.out⟩
      · have jn : ¬ (j : Int) < (nc : Int) := by omega
        have HOK := hid (show ∀ x ∈ cs, dE x = 0 by
          have := HA.out
          rw [show j = cs.length by rw [← HNC.out]; omega, List.take_length] at this
          exact this)
        have HF0 := hid (fsE_zero.2 HOK.out)
        rw [HF0.out] at HE HS
        simp only [if_true] at HE HS
        have OT := hid (show Ot w (.cells #[.slice aoc nc cac, .slice aof nf caf, .slice aot nt cat] 26 (0, 0)) (wr.alloc (.cells #[] 5)) (.slice (some ⟨wr.heap.size, 0, none⟩) 0 0) { data := #[] } from Ot.new w HR.out HK.out)
        clear HA HF0
        go_wp2_with fail
        clear hjk hj jn n0 lk
        go_loopg [7, 8] nt (fun m v i wq => ∃ j : Nat, j + m = nt ∧ i = .int .i64 ((j : Nat) : Int) ∧ Ot w (.cells #[.slice aoc nc cac, .slice aof nf caf, .slice aot nt cat] 26 (0, 0)) wq v (jl { data := #[] } (ixl tbL 0 ((ts.map tT).take j))))
        case atStart => exact ⟨0, by omega, rfl, OT.out⟩
        case round =>
          clear OT HR HK
          obtain ⟨j, hjk, rfl, hot⟩ := hrel
          obtain ⟨T, hT⟩ : ∃ x, x = jl { data := #[] } (ixl tbL 0 ((ts.map tT).take j)) := ⟨_, rfl⟩
          have HTl := hid (tb_le htl' HCF.out HN.out (ixl tbL 0 ((ts.map tT).take j)) _ (by rw [← ixl_app, List.take_append_drop]))
          rw [← hT] at hot HTl
          have hTs := HTl.out
          have HT := hid hT
          have HO := hid hot
          obtain ⟨ao, cap, rfl⟩ := hot.form
          have lk := lt_of_block hot.b
          have n2 : wr.cell? ⟨w.heap.size, 2, none⟩ = some (.slice aot nt cat) := (cell_of hot.b 2).trans rfl
          obtain ⟨GK, hGK⟩ : ∃ n, n = gk - 1 := ⟨_, rfl⟩
          have HGK := hid hGK
          have HJ := hid hjk
          clear hot hGK hT HTl
          by_cases hj : j < nt
          · obtain ⟨t, hx⟩ : ∃ x, ts[j]? = some x := ⟨_, List.getElem?_eq_getElem (by rw [← HNT.out]; exact hj)⟩
            have HX1 := hid (ixl_take tbL (tT_at hx))
            have HDR := hid (show ixl tbL 0 (ts.map tT) = ixl tbL 0 ((ts.map tT).take (j + 1)) ++ ixl tbL (0 + ((ts.map tT).take (j + 1)).length) ((ts.map tT).drop (j + 1)) by rw [← ixl_app, List.take_append_drop])
            have HM := hid (List.mem_of_getElem? hx)
            obtain ⟨g, o, cap', hv, _, hgl, hcap, hcs⟩ := HIN.out.t.get eT_len hx
            injection hv with hv1 hv2 hv3
            subst hv1
            obtain ⟨nq, hnq⟩ : ∃ n, n = t.cs.length := ⟨_, rfl⟩
            have HNQ := hid hnq
            have hq := HQ.out t HM.out
            rw [← hnq] at hq
            obtain ⟨aq, cq, hcv⟩ := (HIN.out.cs t HM.out).form
            rw [← hnq] at hcv
            have HCV := hid hcv
            have HT0 := hid (show ∀ W, Gr w W → W.cell? ⟨g, o + j * 2, none⟩ = some (.slice aq nq cq) from fun W k => by
              have := (k.cell hgl).trans (hcs 0 _ rfl)
              rw [Nat.add_zero, hcv] at this
              exact this)
            obtain ⟨df, hdf⟩ : ∃ d, d = t.df := ⟨_, rfl⟩
            have HT1 := hid (show ∀ W, Gr w W → W.cell? ⟨g, o + j * 2 + 1, none⟩ = some (.bool df) from fun W k => by
              have := (k.cell hgl).trans (hcs 1 _ rfl)
              rw [hdf]
              exact this)
            have HLG := hid (show ∀ W, Gr w W → g < W.heap.size from fun W k => Nat.lt_of_lt_of_le hgl k.size)
            have j0 : (0 : Int) ≤ (j : Int) := by omega
            have j1 : (j : Int) < (nt : Int) := by omega
            have HDC := hid (fun (W : World) => decimal_any (j : Nat) (by omega) (by omega) W)
            have hdc := itB_size (j : Nat) (by omega) (by omega)
            have HTB := hid (show tbL j (tT t) = [if df = true then ({ data := #[116, 97, 98, 108, 101, 32] } ++ cal 3 (j : Nat)) ++ { data := #[32, 100, 101, 102, 97, 117, 108, 116] } else { data := #[116, 97, 98, 108, 101, 32] } ++ cal 3 (j : Nat)] ++ t.cs.map csT by rw [hdf]; rfl)
            rw [cal3, ← tbt] at HTB
            obtain ⟨C, hC⟩ : ∃ s, s = itB (j : Nat) := ⟨_, rfl⟩
            rw [← hC] at HDC hdc HTB
            have sz1 : (({ data := #[116, 97, 98, 108, 101, 32, 116] } : ByteArray) ++ C).size ≤ 28 := by rw [ByteArray.size_append]; have : ({ data := #[116, 97, 98, 108, 101, 32, 116] } : ByteArray).size = 7 := rfl; omega
            have szd : ({ data := #[32, 100, 101, 102, 97, 117, 108, 116] } : ByteArray).size = 8 := rfl
            have HTU := hid (show jl { data := #[] } (ixl tbL 0 ((ts.map tT).take (j + 1))) = jl T (tbL j (tT t)) by rw [HX1.out, jl_app, ← HT.out])
            clear hv2 hv3 hcs hx hcap hgl hnq hcv hjk hC hdf
            cases df with
            | false =>
              obtain ⟨U1, hU1⟩ : ∃ k : ByteArray, k = (T) ++ ({ data := #[116, 97, 98, 108, 101, 32, 116] } ++ C) := ⟨_, rfl⟩
              have bU1 : U1.size ≤ 33554460 := by
                rw [hU1]
                simp only [ByteArray.size_append]
                have e0 : nl.size = 1 := rfl
                have e1 : ({ data := #[116, 97, 98, 108, 101, 32, 116] } : ByteArray).size = 7 := rfl
                have e2 : ({ data := #[32, 100, 101, 102, 97, 117, 108, 116] } : ByteArray).size = 8 := rfl
                have e3 : ({ data := #[102, 117, 110, 99, 32, 102] } : ByteArray).size = 6 := rfl
                have e4 : ({ data := #[10] } : ByteArray).size = 1 := rfl
                have e5 : ({ data := #[76] } : ByteArray).size = 1 := rfl
                have e6 : ({ data := #[58, 10] } : ByteArray).size = 2 := rfl
                have e7 : ({ data := #[115, 101, 110, 100, 32, 114] } : ByteArray).size = 6 := rfl
                have e8 : ({ data := #[114, 101, 99, 118, 32, 114] } : ByteArray).size = 6 := rfl
                have e9 : ({ data := #[32, 114] } : ByteArray).size = 2 := rfl
                omega
              have HU1 := hid hU1
              clear hU1
              obtain ⟨U3, hU3⟩ : ∃ k : ByteArray, k = (U1) ++ (nl) := ⟨_, rfl⟩
              have bU3 : U3.size ≤ 33554470 := by
                rw [hU3]
                simp only [ByteArray.size_append]
                have e0 : nl.size = 1 := rfl
                have e1 : ({ data := #[116, 97, 98, 108, 101, 32, 116] } : ByteArray).size = 7 := rfl
                have e2 : ({ data := #[32, 100, 101, 102, 97, 117, 108, 116] } : ByteArray).size = 8 := rfl
                have e3 : ({ data := #[102, 117, 110, 99, 32, 102] } : ByteArray).size = 6 := rfl
                have e4 : ({ data := #[10] } : ByteArray).size = 1 := rfl
                have e5 : ({ data := #[76] } : ByteArray).size = 1 := rfl
                have e6 : ({ data := #[58, 10] } : ByteArray).size = 2 := rfl
                have e7 : ({ data := #[115, 101, 110, 100, 32, 114] } : ByteArray).size = 6 := rfl
                have e8 : ({ data := #[114, 101, 99, 118, 32, 114] } : ByteArray).size = 6 := rfl
                have e9 : ({ data := #[32, 114] } : ByteArray).size = 2 := rfl
                omega
              have HU3 := hid hU3
              clear hU3
              go_wp2_with (first | (go_at_call 36; refine (HDC.out _).mono ?_; rintro e w1 ⟨rfl, g1⟩; have O1 := hid (HO.out.gr g1); clear g1) | (at_builtin; refine wpList_append_to rfl (.tmp 45) (.tmp 48) rfl (w.heap.size + 1) _ (T) rfl O1.out.o ({ data := #[116, 97, 98, 108, 101, 32, 116] } ++ C) rfl U1 HU1.out (by omega) O1.out.le ?_; intro ao2 cap2 w2 ow cw bl; have Ow2 := hid (O1.out.put (Gr.refl _) ow cw); have l2 := lt_of_block Ow2.out.b; have m2 : w2.cell? ⟨w.heap.size, 2, none⟩ = some (.slice (some ⟨g, o, none⟩) nt cat) := (cell_of Ow2.out.b 2).trans rfl; have d2 := HT1.out w2 Ow2.out.g; have lg2 := HLG.out w2 Ow2.out.g; clear ow cw bl) | (at_builtin; refine wpList_append_nl rfl (.tmp 58) (.tmp 59) rfl (w.heap.size + 1) _ U1 rfl Ow2.out.o rfl U3 HU3.out (by omega) Ow2.out.le ?_; intro ao4 cap4 w4 ow cw; have O4 := hid (Ow2.out.put (Ch.alloc (Gr.refl _) _) ow cw); clear ow cw))
              have HUX := hid (show ∀ ms, jl U3 ms = jl { data := #[] } (ixl tbL 0 ((ts.map tT).take j) ++ ([{ data := #[116, 97, 98, 108, 101, 32, 116] } ++ C] ++ ms)) from fun ms => by
                rw [jl_app, ← HT.out, jl_app, HU3.out, HU1.out]
                rw [jl_one])
              have HTB2 := hid (show tbL j (tT t) = [{ data := #[116, 97, 98, 108, 101, 32, 116] } ++ C] ++ t.cs.map csT by rw [HTB.out]; simp)
              have HTX := hid (show jl { data := #[] } (ixl tbL 0 ((ts.map tT).take (j + 1))) = jl U3 (t.cs.map csT) by rw [HX1.out, HTB2.out, HUX.out])
              have HPX := hid (show ∀ k, (jl U3 ((t.cs.take k).map csT)).size ≤ 33554432 from fun k => by
                rw [HUX.out]
                refine tb_le htl' HCF.out HN.out _ ((t.cs.drop k).map csT ++ ixl tbL (0 + ((ts.map tT).take (j + 1)).length) ((ts.map tT).drop (j + 1))) ?_
                rw [HDR.out, HX1.out, HTB2.out]
                simp only [List.append_assoc]
                rw [← List.append_assoc (List.map csT (List.take k t.cs)), ← List.map_append, List.take_append_drop])
              have HIN2 := hid (fun (l : Nat) c (q : t.cs[l]? = some c) => List.all_eq_true.1 (List.all_eq_true.1 HCF.out t HM.out) c (List.mem_of_getElem? q))
              clear HUX HTU HTB HTB2 HX1 HDR HU1 HU3  O1 Ow2 l2 m2 d2 lg2 hTs HT HO n2 lk bU1 bU3  HDC hdc sz1 szd
              go_loopg [7, 9] nq (fun m v i wq => ∃ k : Nat, k + m = nq ∧ i = .int .i64 ((k : Nat) : Int) ∧ Ot w (.cells #[.slice aoc nc cac, .slice aof nf caf, .slice (some ⟨g, o, none⟩) nt cat] 26 (0, 0)) wq v (jl U3 ((t.cs.take k).map csT)))
              case atStart => exact ⟨0, by omega, rfl, O4.out⟩
              case round =>
                clear O4
                obtain ⟨k, hkk, rfl, hot⟩ := hrel
                have HZ := hid (HPX.out k)
                obtain ⟨T5, hT5⟩ : ∃ x, x = jl U3 ((t.cs.take k).map csT) := ⟨_, rfl⟩
                rw [← hT5] at hot HZ
                have hTs := HZ.out
                have HT5 := hid hT5
                have HO := hid hot
                obtain ⟨ao, cap, rfl⟩ := hot.form
                have lk := lt_of_block hot.b
                have n2 : wr.cell? ⟨w.heap.size, 2, none⟩ = some (.slice (some ⟨g, o, none⟩) nt cat) := (cell_of hot.b 2).trans rfl
                have t0 := HT0.out wr hot.g
                have lg := HLG.out wr hot.g
                clear hot hT5 HZ
                by_cases hk : k < nq
                · obtain ⟨c, hx⟩ : ∃ x, t.cs[k]? = some x := ⟨_, List.getElem?_eq_getElem (by rw [← HNQ.out]; exact hk)⟩
                  have HCX := hid (show jl U3 ((t.cs.take (k + 1)).map csT) = T5 ++ (csT c ++ nl) by rw [take_one hx, List.map_append, List.map_singleton, jl_snoc, ← HT5.out, ba_assoc])
                  have hfit := HIN2.out k c hx
                  rw [cf_reg] at hfit
                  obtain ⟨gq, oq, cap', hv, _, hgl, hcap, hcs⟩ := (HIN.out.cs t HM.out).get eC_len hx
                  rw [HCV.out] at hv
                  injection hv with hv1 hv2 hv3
                  subst hv1
                  have c0 := (HO.out.g.cell hgl).trans (hcs 0 _ rfl)
                  have c1 := (HO.out.g.cell hgl).trans (hcs 1 _ rfl)
                  have c2 := (HO.out.g.cell hgl).trans (hcs 2 _ rfl)
                  have c3 := (HO.out.g.cell hgl).trans (hcs 3 _ rfl)
                  rw [Nat.add_zero] at c0
                  have gs := HO.out.g.size
                  have lq : gq < wr.heap.size := by omega
                  have q0 : (0 : Int) ≤ (k : Int) := by omega
                  have q1 : (k : Int) < (nq : Int) := by omega
                  obtain ⟨s, a, b, d⟩ := c
                  simp only at c0 c1 c2 c3 hfit
                  simp only [Bool.and_eq_true] at hfit
                  obtain ⟨⟨ha, hb⟩, hd⟩ := hfit
                  obtain ⟨a0, a1⟩ := of_decide_eq_true ha
                  obtain ⟨b0, b1⟩ := of_decide_eq_true hb
                  have HDA := hid (fun (W : World) => decimal_any a (by omega) (by omega) W)
                  have hda := itB_size a (by omega) (by omega)
                  have HDB := hid (fun (W : World) => decimal_any b (by omega) (by omega) W)
                  have hdb := itB_size b (by omega) (by omega)
                  clear hv2 hv3 hcs hx hcap hgl ha hb
                  cases s with
                    | true =>
                      rw [← cs_send] at HCX
                      clear hd
                      obtain ⟨A, hA⟩ : ∃ s, s = itB a := ⟨_, rfl⟩
                      obtain ⟨B, hB⟩ : ∃ s, s = itB b := ⟨_, rfl⟩
                      rw [← hA] at HDA hda HCX
                      rw [← hB] at HDB hdb HCX
                      clear hA hB
                      obtain ⟨S1, hS1⟩ : ∃ k : ByteArray, k = ({ data := #[115, 101, 110, 100, 32, 114] }) ++ (A) := ⟨_, rfl⟩
                      have bS1 : S1.size ≤ 27 := by
                        rw [hS1]
                        simp only [ByteArray.size_append]
                        have e0 : nl.size = 1 := rfl
                        have e1 : ({ data := #[116, 97, 98, 108, 101, 32, 116] } : ByteArray).size = 7 := rfl
                        have e2 : ({ data := #[32, 100, 101, 102, 97, 117, 108, 116] } : ByteArray).size = 8 := rfl
                        have e3 : ({ data := #[102, 117, 110, 99, 32, 102] } : ByteArray).size = 6 := rfl
                        have e4 : ({ data := #[10] } : ByteArray).size = 1 := rfl
                        have e5 : ({ data := #[76] } : ByteArray).size = 1 := rfl
                        have e6 : ({ data := #[58, 10] } : ByteArray).size = 2 := rfl
                        have e7 : ({ data := #[115, 101, 110, 100, 32, 114] } : ByteArray).size = 6 := rfl
                        have e8 : ({ data := #[114, 101, 99, 118, 32, 114] } : ByteArray).size = 6 := rfl
                        have e9 : ({ data := #[32, 114] } : ByteArray).size = 2 := rfl
                        omega
                      have HS1 := hid hS1
                      clear hS1
                      obtain ⟨S2, hS2⟩ : ∃ k : ByteArray, k = (S1) ++ ({ data := #[32, 114] }) := ⟨_, rfl⟩
                      have bS2 : S2.size ≤ 29 := by
                        rw [hS2]
                        simp only [ByteArray.size_append]
                        have e0 : nl.size = 1 := rfl
                        have e1 : ({ data := #[116, 97, 98, 108, 101, 32, 116] } : ByteArray).size = 7 := rfl
                        have e2 : ({ data := #[32, 100, 101, 102, 97, 117, 108, 116] } : ByteArray).size = 8 := rfl
                        have e3 : ({ data := #[102, 117, 110, 99, 32, 102] } : ByteArray).size = 6 := rfl
                        have e4 : ({ data := #[10] } : ByteArray).size = 1 := rfl
                        have e5 : ({ data := #[76] } : ByteArray).size = 1 := rfl
                        have e6 : ({ data := #[58, 10] } : ByteArray).size = 2 := rfl
                        have e7 : ({ data := #[115, 101, 110, 100, 32, 114] } : ByteArray).size = 6 := rfl
                        have e8 : ({ data := #[114, 101, 99, 118, 32, 114] } : ByteArray).size = 6 := rfl
                        have e9 : ({ data := #[32, 114] } : ByteArray).size = 2 := rfl
                        omega
                      have HS2 := hid hS2
                      clear hS2
                      obtain ⟨S3, hS3⟩ : ∃ k : ByteArray, k = (S2) ++ (B) := ⟨_, rfl⟩
                      have bS3 : S3.size ≤ 50 := by
                        rw [hS3]
                        simp only [ByteArray.size_append]
                        have e0 : nl.size = 1 := rfl
                        have e1 : ({ data := #[116, 97, 98, 108, 101, 32, 116] } : ByteArray).size = 7 := rfl
                        have e2 : ({ data := #[32, 100, 101, 102, 97, 117, 108, 116] } : ByteArray).size = 8 := rfl
                        have e3 : ({ data := #[102, 117, 110, 99, 32, 102] } : ByteArray).size = 6 := rfl
                        have e4 : ({ data := #[10] } : ByteArray).size = 1 := rfl
                        have e5 : ({ data := #[76] } : ByteArray).size = 1 := rfl
                        have e6 : ({ data := #[58, 10] } : ByteArray).size = 2 := rfl
                        have e7 : ({ data := #[115, 101, 110, 100, 32, 114] } : ByteArray).size = 6 := rfl
                        have e8 : ({ data := #[114, 101, 99, 118, 32, 114] } : ByteArray).size = 6 := rfl
                        have e9 : ({ data := #[32, 114] } : ByteArray).size = 2 := rfl
                        omega
                      have HS3 := hid hS3
                      clear hS3
                      obtain ⟨S4, hS4⟩ : ∃ k : ByteArray, k = (S3) ++ ({ data := #[10] }) := ⟨_, rfl⟩
                      have bS4 : S4.size ≤ 51 := by
                        rw [hS4]
                        simp only [ByteArray.size_append]
                        have e0 : nl.size = 1 := rfl
                        have e1 : ({ data := #[116, 97, 98, 108, 101, 32, 116] } : ByteArray).size = 7 := rfl
                        have e2 : ({ data := #[32, 100, 101, 102, 97, 117, 108, 116] } : ByteArray).size = 8 := rfl
                        have e3 : ({ data := #[102, 117, 110, 99, 32, 102] } : ByteArray).size = 6 := rfl
                        have e4 : ({ data := #[10] } : ByteArray).size = 1 := rfl
                        have e5 : ({ data := #[76] } : ByteArray).size = 1 := rfl
                        have e6 : ({ data := #[58, 10] } : ByteArray).size = 2 := rfl
                        have e7 : ({ data := #[115, 101, 110, 100, 32, 114] } : ByteArray).size = 6 := rfl
                        have e8 : ({ data := #[114, 101, 99, 118, 32, 114] } : ByteArray).size = 6 := rfl
                        have e9 : ({ data := #[32, 114] } : ByteArray).size = 2 := rfl
                        omega
                      have HS4 := hid hS4
                      clear hS4
                      rw [← HS1.out, ← HS2.out, ← HS3.out, ← HS4.out] at HCX
                      obtain ⟨U4, hU4⟩ : ∃ k : ByteArray, k = (T5) ++ (S4) := ⟨_, rfl⟩
                      have bU4 : U4.size ≤ 33554600 := by
                        rw [hU4]
                        simp only [ByteArray.size_append]
                        have e0 : nl.size = 1 := rfl
                        have e1 : ({ data := #[116, 97, 98, 108, 101, 32, 116] } : ByteArray).size = 7 := rfl
                        have e2 : ({ data := #[32, 100, 101, 102, 97, 117, 108, 116] } : ByteArray).size = 8 := rfl
                        have e3 : ({ data := #[102, 117, 110, 99, 32, 102] } : ByteArray).size = 6 := rfl
                        have e4 : ({ data := #[10] } : ByteArray).size = 1 := rfl
                        have e5 : ({ data := #[76] } : ByteArray).size = 1 := rfl
                        have e6 : ({ data := #[58, 10] } : ByteArray).size = 2 := rfl
                        have e7 : ({ data := #[115, 101, 110, 100, 32, 114] } : ByteArray).size = 6 := rfl
                        have e8 : ({ data := #[114, 101, 99, 118, 32, 114] } : ByteArray).size = 6 := rfl
                        have e9 : ({ data := #[32, 114] } : ByteArray).size = 2 := rfl
                        omega
                      have HU4 := hid hU4
                      clear hU4
                      rw [← HU4.out] at HCX
                      have HBX := hid (MapKept.heap_alloc wr (.cells #[.bool true, .int .i64 a, .int .i64 b, .int .i64 d] 46)).1
                      have lF : wr.heap.size < (wr.alloc (.cells #[.bool true, .int .i64 a, .int .i64 b, .int .i64 d] 46)).heap.size := lt_of_block HBX.out
                      have v1 : (wr.alloc (.cells #[.bool true, .int .i64 a, .int .i64 b, .int .i64 d] 46)).cell? ⟨wr.heap.size, 1, none⟩ = some (.int .i64 a) := (cell_of HBX.out 1).trans rfl
                      have v2 : (wr.alloc (.cells #[.bool true, .int .i64 a, .int .i64 b, .int .i64 d] 46)).cell? ⟨wr.heap.size, 2, none⟩ = some (.int .i64 b) := (cell_of HBX.out 2).trans rfl
                      go_wp2_with fail
                      have hS0 : (fun w' => w'.cell? ⟨wr.heap.size, 1, none⟩ = some (.int .i64 a) ∧ w'.cell? ⟨wr.heap.size, 2, none⟩ = some (.int .i64 b)) (wr.alloc (.cells #[.bool true, .int .i64 a, .int .i64 b, .int .i64 d] 46)).drew := ⟨v1, v2⟩
                      refine wp_region_held_drew (S := fun w' => w'.cell? ⟨wr.heap.size, 1, none⟩ = some (.int .i64 a) ∧ w'.cell? ⟨wr.heap.size, 2, none⟩ = some (.int .i64 b)) (by kernel_rfl) (by exact hS0) (fun _ => ?_)
                      refine takeS_on (i := 0) 83 (v := ?v1) rfl rfl (by kernel_rfl) (by kernel_rfl) (by kernel_rfl) (fun _ _ _ h => h) (by kernel_rfl) ?hy1 (by exact hS0) ?_
                      case hy1 => (intro w' hSw; go_simp; try (with_reducible rfl))
                      simp only [Act.put, List.setIfInBounds_toArray, List.set_cons_zero, List.set_cons_succ]
                      refine takeS_on (i := 1) 84 (v := ?v2) rfl rfl (by kernel_rfl) (by kernel_rfl) (by kernel_rfl) (fun _ _ _ h => h) (by kernel_rfl) ?hy2 (by exact hS0) ?_
                      case hy2 => (intro w' hSw; go_simp; try (with_reducible rfl))
                      simp only [Act.put, List.setIfInBounds_toArray, List.set_cons_zero, List.set_cons_succ]
                      refine takeS_on (i := 2) 85 (v := ?v3) rfl rfl (by kernel_rfl) (by kernel_rfl) (by kernel_rfl) (fun _ _ _ h => h) (by kernel_rfl) ?hy3 (by exact hS0) ?_
                      case hy3 => (intro w' hSw; go_simp; try (with_reducible rfl))
                      simp only [Act.put, List.setIfInBounds_toArray, List.set_cons_zero, List.set_cons_succ]
                      refine takeS_on (i := 6) 89 (v := ?v4) rfl rfl (by kernel_rfl) (by kernel_rfl) (by kernel_rfl) (fun _ _ _ h => h) (by kernel_rfl) ?hy4 (by exact hS0) ?_
                      case hy4 => (intro w' hSw; go_simp; try (with_reducible rfl))
                      simp only [Act.put, List.setIfInBounds_toArray, List.set_cons_zero, List.set_cons_succ]
                      refine takeS_on (i := 7) 90 (v := ?v5) rfl rfl (by kernel_rfl) (by kernel_rfl) (by kernel_rfl) (fun _ _ _ h => h) (by kernel_rfl) ?hy5 (by exact hS0) ?_
                      case hy5 => (intro w' hSw; go_simp; try (with_reducible rfl))
                      simp only [Act.put, List.setIfInBounds_toArray, List.set_cons_zero, List.set_cons_succ]
                      refine wpAnyH_ready (rs := [3]) (by kernel_rfl) (by simp) (AllReadyH.cons rfl (fun K hK => ?_) AllReadyH.nil)
                      go_simp
                      refine (HDA.out _).mono ?_
                      rintro e w5 ⟨rfl, g5⟩
                      have k5 : Gr (wr.alloc (.cells #[.bool true, .int .i64 a, .int .i64 b, .int .i64 d] 46)) w5 := Gr.trans (Ch.drew (Gr.refl _)) g5
                      have hS_5 : (fun w' => w'.cell? ⟨wr.heap.size, 1, none⟩ = some (.int .i64 a) ∧ w'.cell? ⟨wr.heap.size, 2, none⟩ = some (.int .i64 b)) w5 := ⟨(k5.cell lF).trans v1, (k5.cell lF).trans v2⟩
                      have K5 := hid k5
                      clear k5 g5
                      refine hK.out _ _ (by exact hS_5) (fun _ => ?_)
                      clear hK K
                      refine takeS_on (i := 4) 87 (v := .string S1) rfl rfl (by kernel_rfl) (by kernel_rfl) (by kernel_rfl) (fun _ _ _ h => h) (by kernel_rfl) ?hy6 (by exact hS_5) ?_
                      case hy6 => (intro w' hSw; go_simp; first | (rw [if_neg (by omega), HS1.out]) | (rw [HS1.out]))
                      simp only [Act.put, List.setIfInBounds_toArray, List.set_cons_zero, List.set_cons_succ]
                      refine takeS_on (i := 5) 88 (v := .string S2) rfl rfl (by kernel_rfl) (by kernel_rfl) (by kernel_rfl) (fun _ _ _ h => h) (by kernel_rfl) ?hy7 (by exact hS_5) ?_
                      case hy7 => (intro w' hSw; go_simp; first | (rw [if_neg (by omega), HS2.out]) | (rw [HS2.out]))
                      simp only [Act.put, List.setIfInBounds_toArray, List.set_cons_zero, List.set_cons_succ]
                      refine wpAnyH_ready (rs := [8]) (by kernel_rfl) (by simp) (AllReadyH.cons rfl (fun K hK => ?_) AllReadyH.nil)
                      go_simp
                      refine (HDB.out _).mono ?_
                      rintro e w6 ⟨rfl, g6⟩
                      have k6 : Gr (wr.alloc (.cells #[.bool true, .int .i64 a, .int .i64 b, .int .i64 d] 46)) w6 := Gr.trans K5.out g6
                      have hS_6 : (fun w' => w'.cell? ⟨wr.heap.size, 1, none⟩ = some (.int .i64 a) ∧ w'.cell? ⟨wr.heap.size, 2, none⟩ = some (.int .i64 b)) w6 := ⟨(k6.cell lF).trans v1, (k6.cell lF).trans v2⟩
                      have K6 := hid k6
                      clear k6 g6
                      refine hK.out _ _ (by exact hS_6) (fun _ => ?_)
                      clear hK K
                      refine takeS_on (i := 9) 92 (v := .string S3) rfl rfl (by kernel_rfl) (by kernel_rfl) (by kernel_rfl) (fun _ _ _ h => h) (by kernel_rfl) ?hy8 (by exact hS_6) ?_
                      case hy8 => (intro w' hSw; go_simp; first | (rw [if_neg (by omega), HS3.out]) | (rw [HS3.out]))
                      simp only [Act.put, List.setIfInBounds_toArray, List.set_cons_zero, List.set_cons_succ]
                      refine takeS_on (i := 10) 93 (v := .string S4) rfl rfl (by kernel_rfl) (by kernel_rfl) (by kernel_rfl) (fun _ _ _ h => h) (by kernel_rfl) ?hy9 (by exact hS_6) ?_
                      case hy9 => (intro w' hSw; go_simp; first | (rw [if_neg (by omega), HS4.out]) | (rw [HS4.out]))
                      simp only [Act.put, List.setIfInBounds_toArray, List.set_cons_zero, List.set_cons_succ]
                      refine wpAnyH_ready (rs := [11]) (by kernel_rfl) (by simp) (AllReadyH.cons rfl (fun K hK => ?_) AllReadyH.nil)
                      refine step_append_to rfl (.tmp 83) (.tmp 93) rfl (w.heap.size + 1) (.slice ao T5.size cap) T5 (by simp [Act.eval]) (HO.out.gr (Gr.trans (Ch.alloc (Gr.refl wr) _) K6.out)).o S4 (by simp [Act.eval]) U4 HU4.out (by omega) (HO.out.gr (Gr.trans (Ch.alloc (Gr.refl wr) _) K6.out)).le ?_
                      intro ao8 cap8 w8 ow cw bl
                      have O8 := hid (HO.out.put (Gr.trans (Ch.alloc (Gr.refl wr) _) K6.out) ow cw)
                      have nF : ¬ Blk (.slice ao T5.size cap) wr.heap.size := fun e => by have := (HO.out.o.blk e).2; omega
                      have hS_8 : (fun w' => w'.cell? ⟨wr.heap.size, 1, none⟩ = some (.int .i64 a) ∧ w'.cell? ⟨wr.heap.size, 2, none⟩ = some (.int .i64 b)) w8 := ⟨(cw.cell (Nat.lt_of_lt_of_le lF K6.out.size) nF).trans hS_6.1, (cw.cell (Nat.lt_of_lt_of_le lF K6.out.size) nF).trans hS_6.2⟩
                      clear ow cw bl nF
                      refine hK.out _ _ (by exact hS_8) (fun _ => ?_)
                      change wpAnyH _ _ _ _ _ _ _ (Act.put _ (some 94) _) _
                      simp only [Act.put, List.setIfInBounds_toArray, List.set_cons_zero, List.set_cons_succ]
                      clear hK K
                      refine takeS_on (i := 12) 7 (v := ?v10) rfl rfl (by kernel_rfl) (by kernel_rfl) (by kernel_rfl) (fun _ _ _ h => h) (by kernel_rfl) ?hy10 (by exact hS_8) ?_
                      case hy10 => (intro w' hSw; go_simp; try (with_reducible rfl))
                      simp only [Act.put, List.setIfInBounds_toArray, List.set_cons_zero, List.set_cons_succ]
                      refine wpAnyH_done (by kernel_rfl) ?_ _
                      clear hS0 hS_5 hS_6 hS_8
                      go_wp2_with fail
                      go_roundg (gk - 1)
                      case measure => omega
                      case rel => exact ⟨k + 1, by omega, by simp, by rw [HCX.out]; exact O8.out⟩
                    | false =>
                      have hd2 : rg d = true := by simpa using hd
                      obtain ⟨d0, d1⟩ := of_decide_eq_true hd2
                      have HDD := hid (fun (W : World) => decimal_any d (by omega) (by omega) W)
                      have hdd := itB_size d (by omega) (by omega)
                      clear hd2
                      rw [← cs_recv] at HCX
                      clear hd
                      obtain ⟨A, hA⟩ : ∃ s, s = itB a := ⟨_, rfl⟩
                      obtain ⟨B, hB⟩ : ∃ s, s = itB b := ⟨_, rfl⟩
                      rw [← hA] at HDA hda HCX
                      rw [← hB] at HDB hdb HCX
                      clear hA hB
                      obtain ⟨DD, hD⟩ : ∃ s, s = itB d := ⟨_, rfl⟩
                      rw [← hD] at HDD hdd HCX
                      clear hD
                      obtain ⟨S1, hS1⟩ : ∃ k : ByteArray, k = ({ data := #[114, 101, 99, 118, 32, 114] }) ++ (A) := ⟨_, rfl⟩
                      have bS1 : S1.size ≤ 27 := by
                        rw [hS1]
                        simp only [ByteArray.size_append]
                        have e0 : nl.size = 1 := rfl
                        have e1 : ({ data := #[116, 97, 98, 108, 101, 32, 116] } : ByteArray).size = 7 := rfl
                        have e2 : ({ data := #[32, 100, 101, 102, 97, 117, 108, 116] } : ByteArray).size = 8 := rfl
                        have e3 : ({ data := #[102, 117, 110, 99, 32, 102] } : ByteArray).size = 6 := rfl
                        have e4 : ({ data := #[10] } : ByteArray).size = 1 := rfl
                        have e5 : ({ data := #[76] } : ByteArray).size = 1 := rfl
                        have e6 : ({ data := #[58, 10] } : ByteArray).size = 2 := rfl
                        have e7 : ({ data := #[115, 101, 110, 100, 32, 114] } : ByteArray).size = 6 := rfl
                        have e8 : ({ data := #[114, 101, 99, 118, 32, 114] } : ByteArray).size = 6 := rfl
                        have e9 : ({ data := #[32, 114] } : ByteArray).size = 2 := rfl
                        omega
                      have HS1 := hid hS1
                      clear hS1
                      obtain ⟨S2, hS2⟩ : ∃ k : ByteArray, k = (S1) ++ ({ data := #[32, 114] }) := ⟨_, rfl⟩
                      have bS2 : S2.size ≤ 29 := by
                        rw [hS2]
                        simp only [ByteArray.size_append]
                        have e0 : nl.size = 1 := rfl
                        have e1 : ({ data := #[116, 97, 98, 108, 101, 32, 116] } : ByteArray).size = 7 := rfl
                        have e2 : ({ data := #[32, 100, 101, 102, 97, 117, 108, 116] } : ByteArray).size = 8 := rfl
                        have e3 : ({ data := #[102, 117, 110, 99, 32, 102] } : ByteArray).size = 6 := rfl
                        have e4 : ({ data := #[10] } : ByteArray).size = 1 := rfl
                        have e5 : ({ data := #[76] } : ByteArray).size = 1 := rfl
                        have e6 : ({ data := #[58, 10] } : ByteArray).size = 2 := rfl
                        have e7 : ({ data := #[115, 101, 110, 100, 32, 114] } : ByteArray).size = 6 := rfl
                        have e8 : ({ data := #[114, 101, 99, 118, 32, 114] } : ByteArray).size = 6 := rfl
                        have e9 : ({ data := #[32, 114] } : ByteArray).size = 2 := rfl
                        omega
                      have HS2 := hid hS2
                      clear hS2
                      obtain ⟨S3, hS3⟩ : ∃ k : ByteArray, k = (S2) ++ (B) := ⟨_, rfl⟩
                      have bS3 : S3.size ≤ 50 := by
                        rw [hS3]
                        simp only [ByteArray.size_append]
                        have e0 : nl.size = 1 := rfl
                        have e1 : ({ data := #[116, 97, 98, 108, 101, 32, 116] } : ByteArray).size = 7 := rfl
                        have e2 : ({ data := #[32, 100, 101, 102, 97, 117, 108, 116] } : ByteArray).size = 8 := rfl
                        have e3 : ({ data := #[102, 117, 110, 99, 32, 102] } : ByteArray).size = 6 := rfl
                        have e4 : ({ data := #[10] } : ByteArray).size = 1 := rfl
                        have e5 : ({ data := #[76] } : ByteArray).size = 1 := rfl
                        have e6 : ({ data := #[58, 10] } : ByteArray).size = 2 := rfl
                        have e7 : ({ data := #[115, 101, 110, 100, 32, 114] } : ByteArray).size = 6 := rfl
                        have e8 : ({ data := #[114, 101, 99, 118, 32, 114] } : ByteArray).size = 6 := rfl
                        have e9 : ({ data := #[32, 114] } : ByteArray).size = 2 := rfl
                        omega
                      have HS3 := hid hS3
                      clear hS3
                      obtain ⟨S4, hS4⟩ : ∃ k : ByteArray, k = (S3) ++ ({ data := #[32, 114] }) := ⟨_, rfl⟩
                      have bS4 : S4.size ≤ 52 := by
                        rw [hS4]
                        simp only [ByteArray.size_append]
                        have e0 : nl.size = 1 := rfl
                        have e1 : ({ data := #[116, 97, 98, 108, 101, 32, 116] } : ByteArray).size = 7 := rfl
                        have e2 : ({ data := #[32, 100, 101, 102, 97, 117, 108, 116] } : ByteArray).size = 8 := rfl
                        have e3 : ({ data := #[102, 117, 110, 99, 32, 102] } : ByteArray).size = 6 := rfl
                        have e4 : ({ data := #[10] } : ByteArray).size = 1 := rfl
                        have e5 : ({ data := #[76] } : ByteArray).size = 1 := rfl
                        have e6 : ({ data := #[58, 10] } : ByteArray).size = 2 := rfl
                        have e7 : ({ data := #[115, 101, 110, 100, 32, 114] } : ByteArray).size = 6 := rfl
                        have e8 : ({ data := #[114, 101, 99, 118, 32, 114] } : ByteArray).size = 6 := rfl
                        have e9 : ({ data := #[32, 114] } : ByteArray).size = 2 := rfl
                        omega
                      have HS4 := hid hS4
                      clear hS4
                      obtain ⟨S5, hS5⟩ : ∃ k : ByteArray, k = (S4) ++ (DD) := ⟨_, rfl⟩
                      have bS5 : S5.size ≤ 73 := by
                        rw [hS5]
                        simp only [ByteArray.size_append]
                        have e0 : nl.size = 1 := rfl
                        have e1 : ({ data := #[116, 97, 98, 108, 101, 32, 116] } : ByteArray).size = 7 := rfl
                        have e2 : ({ data := #[32, 100, 101, 102, 97, 117, 108, 116] } : ByteArray).size = 8 := rfl
                        have e3 : ({ data := #[102, 117, 110, 99, 32, 102] } : ByteArray).size = 6 := rfl
                        have e4 : ({ data := #[10] } : ByteArray).size = 1 := rfl
                        have e5 : ({ data := #[76] } : ByteArray).size = 1 := rfl
                        have e6 : ({ data := #[58, 10] } : ByteArray).size = 2 := rfl
                        have e7 : ({ data := #[115, 101, 110, 100, 32, 114] } : ByteArray).size = 6 := rfl
                        have e8 : ({ data := #[114, 101, 99, 118, 32, 114] } : ByteArray).size = 6 := rfl
                        have e9 : ({ data := #[32, 114] } : ByteArray).size = 2 := rfl
                        omega
                      have HS5 := hid hS5
                      clear hS5
                      obtain ⟨S6, hS6⟩ : ∃ k : ByteArray, k = (S5) ++ ({ data := #[10] }) := ⟨_, rfl⟩
                      have bS6 : S6.size ≤ 74 := by
                        rw [hS6]
                        simp only [ByteArray.size_append]
                        have e0 : nl.size = 1 := rfl
                        have e1 : ({ data := #[116, 97, 98, 108, 101, 32, 116] } : ByteArray).size = 7 := rfl
                        have e2 : ({ data := #[32, 100, 101, 102, 97, 117, 108, 116] } : ByteArray).size = 8 := rfl
                        have e3 : ({ data := #[102, 117, 110, 99, 32, 102] } : ByteArray).size = 6 := rfl
                        have e4 : ({ data := #[10] } : ByteArray).size = 1 := rfl
                        have e5 : ({ data := #[76] } : ByteArray).size = 1 := rfl
                        have e6 : ({ data := #[58, 10] } : ByteArray).size = 2 := rfl
                        have e7 : ({ data := #[115, 101, 110, 100, 32, 114] } : ByteArray).size = 6 := rfl
                        have e8 : ({ data := #[114, 101, 99, 118, 32, 114] } : ByteArray).size = 6 := rfl
                        have e9 : ({ data := #[32, 114] } : ByteArray).size = 2 := rfl
                        omega
                      have HS6 := hid hS6
                      clear hS6
                      rw [← HS1.out, ← HS2.out, ← HS3.out, ← HS4.out, ← HS5.out, ← HS6.out] at HCX
                      obtain ⟨U4, hU4⟩ : ∃ k : ByteArray, k = (T5) ++ (S6) := ⟨_, rfl⟩
                      have bU4 : U4.size ≤ 33554600 := by
                        rw [hU4]
                        simp only [ByteArray.size_append]
                        have e0 : nl.size = 1 := rfl
                        have e1 : ({ data := #[116, 97, 98, 108, 101, 32, 116] } : ByteArray).size = 7 := rfl
                        have e2 : ({ data := #[32, 100, 101, 102, 97, 117, 108, 116] } : ByteArray).size = 8 := rfl
                        have e3 : ({ data := #[102, 117, 110, 99, 32, 102] } : ByteArray).size = 6 := rfl
                        have e4 : ({ data := #[10] } : ByteArray).size = 1 := rfl
                        have e5 : ({ data := #[76] } : ByteArray).size = 1 := rfl
                        have e6 : ({ data := #[58, 10] } : ByteArray).size = 2 := rfl
                        have e7 : ({ data := #[115, 101, 110, 100, 32, 114] } : ByteArray).size = 6 := rfl
                        have e8 : ({ data := #[114, 101, 99, 118, 32, 114] } : ByteArray).size = 6 := rfl
                        have e9 : ({ data := #[32, 114] } : ByteArray).size = 2 := rfl
                        omega
                      have HU4 := hid hU4
                      clear hU4
                      rw [← HU4.out] at HCX
                      have HBX := hid (MapKept.heap_alloc wr (.cells #[.bool false, .int .i64 a, .int .i64 b, .int .i64 d] 46)).1
                      have lF : wr.heap.size < (wr.alloc (.cells #[.bool false, .int .i64 a, .int .i64 b, .int .i64 d] 46)).heap.size := lt_of_block HBX.out
                      have v1 : (wr.alloc (.cells #[.bool false, .int .i64 a, .int .i64 b, .int .i64 d] 46)).cell? ⟨wr.heap.size, 1, none⟩ = some (.int .i64 a) := (cell_of HBX.out 1).trans rfl
                      have v2 : (wr.alloc (.cells #[.bool false, .int .i64 a, .int .i64 b, .int .i64 d] 46)).cell? ⟨wr.heap.size, 2, none⟩ = some (.int .i64 b) := (cell_of HBX.out 2).trans rfl
                      have v3 : (wr.alloc (.cells #[.bool false, .int .i64 a, .int .i64 b, .int .i64 d] 46)).cell? ⟨wr.heap.size, 3, none⟩ = some (.int .i64 d) := (cell_of HBX.out 3).trans rfl
                      go_wp2_with fail
                      have hS0 : (fun w' => w'.cell? ⟨wr.heap.size, 1, none⟩ = some (.int .i64 a) ∧ w'.cell? ⟨wr.heap.size, 2, none⟩ = some (.int .i64 b) ∧ w'.cell? ⟨wr.heap.size, 3, none⟩ = some (.int .i64 d)) (wr.alloc (.cells #[.bool false, .int .i64 a, .int .i64 b, .int .i64 d] 46)).drew := ⟨v1, v2, v3⟩
                      refine wp_region_held_drew (S := fun w' => w'.cell? ⟨wr.heap.size, 1, none⟩ = some (.int .i64 a) ∧ w'.cell? ⟨wr.heap.size, 2, none⟩ = some (.int .i64 b) ∧ w'.cell? ⟨wr.heap.size, 3, none⟩ = some (.int .i64 d)) (by kernel_rfl) (by exact hS0) (fun _ => ?_)
                      refine takeS_on (i := 0) 95 (v := ?v11) rfl rfl (by kernel_rfl) (by kernel_rfl) (by kernel_rfl) (fun _ _ _ h => h) (by kernel_rfl) ?hy11 (by exact hS0) ?_
                      case hy11 => (intro w' hSw; go_simp; try (with_reducible rfl))
                      simp only [Act.put, List.setIfInBounds_toArray, List.set_cons_zero, List.set_cons_succ]
                      refine takeS_on (i := 1) 96 (v := ?v12) rfl rfl (by kernel_rfl) (by kernel_rfl) (by kernel_rfl) (fun _ _ _ h => h) (by kernel_rfl) ?hy12 (by exact hS0) ?_
                      case hy12 => (intro w' hSw; go_simp; try (with_reducible rfl))
                      simp only [Act.put, List.setIfInBounds_toArray, List.set_cons_zero, List.set_cons_succ]
                      refine takeS_on (i := 2) 97 (v := ?v13) rfl rfl (by kernel_rfl) (by kernel_rfl) (by kernel_rfl) (fun _ _ _ h => h) (by kernel_rfl) ?hy13 (by exact hS0) ?_
                      case hy13 => (intro w' hSw; go_simp; try (with_reducible rfl))
                      simp only [Act.put, List.setIfInBounds_toArray, List.set_cons_zero, List.set_cons_succ]
                      refine takeS_on (i := 6) 101 (v := ?v14) rfl rfl (by kernel_rfl) (by kernel_rfl) (by kernel_rfl) (fun _ _ _ h => h) (by kernel_rfl) ?hy14 (by exact hS0) ?_
                      case hy14 => (intro w' hSw; go_simp; try (with_reducible rfl))
                      simp only [Act.put, List.setIfInBounds_toArray, List.set_cons_zero, List.set_cons_succ]
                      refine takeS_on (i := 7) 102 (v := ?v15) rfl rfl (by kernel_rfl) (by kernel_rfl) (by kernel_rfl) (fun _ _ _ h => h) (by kernel_rfl) ?hy15 (by exact hS0) ?_
                      case hy15 => (intro w' hSw; go_simp; try (with_reducible rfl))
                      simp only [Act.put, List.setIfInBounds_toArray, List.set_cons_zero, List.set_cons_succ]
                      refine takeS_on (i := 11) 106 (v := ?v16) rfl rfl (by kernel_rfl) (by kernel_rfl) (by kernel_rfl) (fun _ _ _ h => h) (by kernel_rfl) ?hy16 (by exact hS0) ?_
                      case hy16 => (intro w' hSw; go_simp; try (with_reducible rfl))
                      simp only [Act.put, List.setIfInBounds_toArray, List.set_cons_zero, List.set_cons_succ]
                      refine takeS_on (i := 12) 107 (v := ?v17) rfl rfl (by kernel_rfl) (by kernel_rfl) (by kernel_rfl) (fun _ _ _ h => h) (by kernel_rfl) ?hy17 (by exact hS0) ?_
                      case hy17 => (intro w' hSw; go_simp; try (with_reducible rfl))
                      simp only [Act.put, List.setIfInBounds_toArray, List.set_cons_zero, List.set_cons_succ]
                      refine wpAnyH_ready (rs := [3]) (by kernel_rfl) (by simp) (AllReadyH.cons rfl (fun K hK => ?_) AllReadyH.nil)
                      go_simp
                      refine (HDA.out _).mono ?_
                      rintro e w5 ⟨rfl, g5⟩
                      have k5 : Gr (wr.alloc (.cells #[.bool false, .int .i64 a, .int .i64 b, .int .i64 d] 46)) w5 := Gr.trans (Ch.drew (Gr.refl _)) g5
                      have hS_5 : (fun w' => w'.cell? ⟨wr.heap.size, 1, none⟩ = some (.int .i64 a) ∧ w'.cell? ⟨wr.heap.size, 2, none⟩ = some (.int .i64 b) ∧ w'.cell? ⟨wr.heap.size, 3, none⟩ = some (.int .i64 d)) w5 := ⟨(k5.cell lF).trans v1, (k5.cell lF).trans v2, (k5.cell lF).trans v3⟩
                      have K5 := hid k5
                      clear k5 g5
                      refine hK.out _ _ (by exact hS_5) (fun _ => ?_)
                      clear hK K
                      refine takeS_on (i := 4) 99 (v := .string S1) rfl rfl (by kernel_rfl) (by kernel_rfl) (by kernel_rfl) (fun _ _ _ h => h) (by kernel_rfl) ?hy18 (by exact hS_5) ?_
                      case hy18 => (intro w' hSw; go_simp; first | (rw [if_neg (by omega), HS1.out]) | (rw [HS1.out]))
                      simp only [Act.put, List.setIfInBounds_toArray, List.set_cons_zero, List.set_cons_succ]
                      refine takeS_on (i := 5) 100 (v := .string S2) rfl rfl (by kernel_rfl) (by kernel_rfl) (by kernel_rfl) (fun _ _ _ h => h) (by kernel_rfl) ?hy19 (by exact hS_5) ?_
                      case hy19 => (intro w' hSw; go_simp; first | (rw [if_neg (by omega), HS2.out]) | (rw [HS2.out]))
                      simp only [Act.put, List.setIfInBounds_toArray, List.set_cons_zero, List.set_cons_succ]
                      refine wpAnyH_ready (rs := [8]) (by kernel_rfl) (by simp) (AllReadyH.cons rfl (fun K hK => ?_) AllReadyH.nil)
                      go_simp
                      refine (HDB.out _).mono ?_
                      rintro e w6 ⟨rfl, g6⟩
                      have k6 : Gr (wr.alloc (.cells #[.bool false, .int .i64 a, .int .i64 b, .int .i64 d] 46)) w6 := Gr.trans K5.out g6
                      have hS_6 : (fun w' => w'.cell? ⟨wr.heap.size, 1, none⟩ = some (.int .i64 a) ∧ w'.cell? ⟨wr.heap.size, 2, none⟩ = some (.int .i64 b) ∧ w'.cell? ⟨wr.heap.size, 3, none⟩ = some (.int .i64 d)) w6 := ⟨(k6.cell lF).trans v1, (k6.cell lF).trans v2, (k6.cell lF).trans v3⟩
                      have K6 := hid k6
                      clear k6 g6
                      refine hK.out _ _ (by exact hS_6) (fun _ => ?_)
                      clear hK K
                      refine takeS_on (i := 9) 104 (v := .string S3) rfl rfl (by kernel_rfl) (by kernel_rfl) (by kernel_rfl) (fun _ _ _ h => h) (by kernel_rfl) ?hy20 (by exact hS_6) ?_
                      case hy20 => (intro w' hSw; go_simp; first | (rw [if_neg (by omega), HS3.out]) | (rw [HS3.out]))
                      simp only [Act.put, List.setIfInBounds_toArray, List.set_cons_zero, List.set_cons_succ]
                      refine takeS_on (i := 10) 105 (v := .string S4) rfl rfl (by kernel_rfl) (by kernel_rfl) (by kernel_rfl) (fun _ _ _ h => h) (by kernel_rfl) ?hy21 (by exact hS_6) ?_
                      case hy21 => (intro w' hSw; go_simp; first | (rw [if_neg (by omega), HS4.out]) | (rw [HS4.out]))
                      simp only [Act.put, List.setIfInBounds_toArray, List.set_cons_zero, List.set_cons_succ]
                      refine wpAnyH_ready (rs := [13]) (by kernel_rfl) (by simp) (AllReadyH.cons rfl (fun K hK => ?_) AllReadyH.nil)
                      go_simp
                      refine (HDD.out _).mono ?_
                      rintro e w7 ⟨rfl, g7⟩
                      have k7 : Gr (wr.alloc (.cells #[.bool false, .int .i64 a, .int .i64 b, .int .i64 d] 46)) w7 := Gr.trans K6.out g7
                      have hS_7 : (fun w' => w'.cell? ⟨wr.heap.size, 1, none⟩ = some (.int .i64 a) ∧ w'.cell? ⟨wr.heap.size, 2, none⟩ = some (.int .i64 b) ∧ w'.cell? ⟨wr.heap.size, 3, none⟩ = some (.int .i64 d)) w7 := ⟨(k7.cell lF).trans v1, (k7.cell lF).trans v2, (k7.cell lF).trans v3⟩
                      have K7 := hid k7
                      clear k7 g7
                      refine hK.out _ _ (by exact hS_7) (fun _ => ?_)
                      clear hK K
                      refine takeS_on (i := 14) 109 (v := .string S5) rfl rfl (by kernel_rfl) (by kernel_rfl) (by kernel_rfl) (fun _ _ _ h => h) (by kernel_rfl) ?hy22 (by exact hS_7) ?_
                      case hy22 => (intro w' hSw; go_simp; first | (rw [if_neg (by omega), HS5.out]) | (rw [HS5.out]))
                      simp only [Act.put, List.setIfInBounds_toArray, List.set_cons_zero, List.set_cons_succ]
                      refine takeS_on (i := 15) 110 (v := .string S6) rfl rfl (by kernel_rfl) (by kernel_rfl) (by kernel_rfl) (fun _ _ _ h => h) (by kernel_rfl) ?hy23 (by exact hS_7) ?_
                      case hy23 => (intro w' hSw; go_simp; first | (rw [if_neg (by omega), HS6.out]) | (rw [HS6.out]))
                      simp only [Act.put, List.setIfInBounds_toArray, List.set_cons_zero, List.set_cons_succ]
                      refine wpAnyH_ready (rs := [16]) (by kernel_rfl) (by simp) (AllReadyH.cons rfl (fun K hK => ?_) AllReadyH.nil)
                      refine step_append_to rfl (.tmp 95) (.tmp 110) rfl (w.heap.size + 1) (.slice ao T5.size cap) T5 (by simp [Act.eval]) (HO.out.gr (Gr.trans (Ch.alloc (Gr.refl wr) _) K7.out)).o S6 (by simp [Act.eval]) U4 HU4.out (by omega) (HO.out.gr (Gr.trans (Ch.alloc (Gr.refl wr) _) K7.out)).le ?_
                      intro ao8 cap8 w8 ow cw bl
                      have O8 := hid (HO.out.put (Gr.trans (Ch.alloc (Gr.refl wr) _) K7.out) ow cw)
                      have nF : ¬ Blk (.slice ao T5.size cap) wr.heap.size := fun e => by have := (HO.out.o.blk e).2; omega
                      have hS_8 : (fun w' => w'.cell? ⟨wr.heap.size, 1, none⟩ = some (.int .i64 a) ∧ w'.cell? ⟨wr.heap.size, 2, none⟩ = some (.int .i64 b) ∧ w'.cell? ⟨wr.heap.size, 3, none⟩ = some (.int .i64 d)) w8 := ⟨(cw.cell (Nat.lt_of_lt_of_le lF K7.out.size) nF).trans hS_7.1, (cw.cell (Nat.lt_of_lt_of_le lF K7.out.size) nF).trans hS_7.2.1, (cw.cell (Nat.lt_of_lt_of_le lF K7.out.size) nF).trans hS_7.2.2⟩
                      clear ow cw bl nF
                      refine hK.out _ _ (by exact hS_8) (fun _ => ?_)
                      change wpAnyH _ _ _ _ _ _ _ (Act.put _ (some 111) _) _
                      simp only [Act.put, List.setIfInBounds_toArray, List.set_cons_zero, List.set_cons_succ]
                      clear hK K
                      refine takeS_on (i := 17) 7 (v := ?v24) rfl rfl (by kernel_rfl) (by kernel_rfl) (by kernel_rfl) (fun _ _ _ h => h) (by kernel_rfl) ?hy24 (by exact hS_8) ?_
                      case hy24 => (intro w' hSw; go_simp; try (with_reducible rfl))
                      simp only [Act.put, List.setIfInBounds_toArray, List.set_cons_zero, List.set_cons_succ]
                      refine wpAnyH_done (by kernel_rfl) ?_ _
                      clear hS0 hS_5 hS_6 hS_8 hS_7
                      go_wp2_with fail
                      go_roundg (gk - 1)
                      case measure => omega
                      case rel => exact ⟨k + 1, by omega, by simp, by rw [HCX.out]; exact O8.out⟩
                · have kn : ¬ (k : Int) < (nq : Int) := by omega
                  have hkn : t.cs.take k = t.cs := by rw [show k = t.cs.length by rw [← HNQ.out]; omega]; exact List.take_length
                  rw [hkn, ← HTX.out] at HT5
                  clear hkn
                  go_wp2_with fail
                  go_roundg GK
                  case measure => have := HGK.out; have := HJ.out; omega
                  case rel => exact ⟨j + 1, by have := HGK.out; have := HJ.out; omega, by simp, by rw [← HT5.out]; exact HO.out⟩
            | true =>
              obtain ⟨U1, hU1⟩ : ∃ k : ByteArray, k = (T) ++ ({ data := #[116, 97, 98, 108, 101, 32, 116] } ++ C) := ⟨_, rfl⟩
              have bU1 : U1.size ≤ 33554460 := by
                rw [hU1]
                simp only [ByteArray.size_append]
                have e0 : nl.size = 1 := rfl
                have e1 : ({ data := #[116, 97, 98, 108, 101, 32, 116] } : ByteArray).size = 7 := rfl
                have e2 : ({ data := #[32, 100, 101, 102, 97, 117, 108, 116] } : ByteArray).size = 8 := rfl
                have e3 : ({ data := #[102, 117, 110, 99, 32, 102] } : ByteArray).size = 6 := rfl
                have e4 : ({ data := #[10] } : ByteArray).size = 1 := rfl
                have e5 : ({ data := #[76] } : ByteArray).size = 1 := rfl
                have e6 : ({ data := #[58, 10] } : ByteArray).size = 2 := rfl
                have e7 : ({ data := #[115, 101, 110, 100, 32, 114] } : ByteArray).size = 6 := rfl
                have e8 : ({ data := #[114, 101, 99, 118, 32, 114] } : ByteArray).size = 6 := rfl
                have e9 : ({ data := #[32, 114] } : ByteArray).size = 2 := rfl
                omega
              have HU1 := hid hU1
              clear hU1
              obtain ⟨U2, hU2⟩ : ∃ k : ByteArray, k = (U1) ++ ({ data := #[32, 100, 101, 102, 97, 117, 108, 116] }) := ⟨_, rfl⟩
              have bU2 : U2.size ≤ 33554468 := by
                rw [hU2]
                simp only [ByteArray.size_append]
                have e0 : nl.size = 1 := rfl
                have e1 : ({ data := #[116, 97, 98, 108, 101, 32, 116] } : ByteArray).size = 7 := rfl
                have e2 : ({ data := #[32, 100, 101, 102, 97, 117, 108, 116] } : ByteArray).size = 8 := rfl
                have e3 : ({ data := #[102, 117, 110, 99, 32, 102] } : ByteArray).size = 6 := rfl
                have e4 : ({ data := #[10] } : ByteArray).size = 1 := rfl
                have e5 : ({ data := #[76] } : ByteArray).size = 1 := rfl
                have e6 : ({ data := #[58, 10] } : ByteArray).size = 2 := rfl
                have e7 : ({ data := #[115, 101, 110, 100, 32, 114] } : ByteArray).size = 6 := rfl
                have e8 : ({ data := #[114, 101, 99, 118, 32, 114] } : ByteArray).size = 6 := rfl
                have e9 : ({ data := #[32, 114] } : ByteArray).size = 2 := rfl
                omega
              have HU2 := hid hU2
              clear hU2
              obtain ⟨U3, hU3⟩ : ∃ k : ByteArray, k = (U2) ++ (nl) := ⟨_, rfl⟩
              have bU3 : U3.size ≤ 33554470 := by
                rw [hU3]
                simp only [ByteArray.size_append]
                have e0 : nl.size = 1 := rfl
                have e1 : ({ data := #[116, 97, 98, 108, 101, 32, 116] } : ByteArray).size = 7 := rfl
                have e2 : ({ data := #[32, 100, 101, 102, 97, 117, 108, 116] } : ByteArray).size = 8 := rfl
                have e3 : ({ data := #[102, 117, 110, 99, 32, 102] } : ByteArray).size = 6 := rfl
                have e4 : ({ data := #[10] } : ByteArray).size = 1 := rfl
                have e5 : ({ data := #[76] } : ByteArray).size = 1 := rfl
                have e6 : ({ data := #[58, 10] } : ByteArray).size = 2 := rfl
                have e7 : ({ data := #[115, 101, 110, 100, 32, 114] } : ByteArray).size = 6 := rfl
                have e8 : ({ data := #[114, 101, 99, 118, 32, 114] } : ByteArray).size = 6 := rfl
                have e9 : ({ data := #[32, 114] } : ByteArray).size = 2 := rfl
                omega
              have HU3 := hid hU3
              clear hU3
              go_wp2_with (first | (go_at_call 36; refine (HDC.out _).mono ?_; rintro e w1 ⟨rfl, g1⟩; have O1 := hid (HO.out.gr g1); clear g1) | (at_builtin; refine wpList_append_to rfl (.tmp 45) (.tmp 48) rfl (w.heap.size + 1) _ (T) rfl O1.out.o ({ data := #[116, 97, 98, 108, 101, 32, 116] } ++ C) rfl U1 HU1.out (by omega) O1.out.le ?_; intro ao2 cap2 w2 ow cw bl; have Ow2 := hid (O1.out.put (Gr.refl _) ow cw); have l2 := lt_of_block Ow2.out.b; have m2 : w2.cell? ⟨w.heap.size, 2, none⟩ = some (.slice (some ⟨g, o, none⟩) nt cat) := (cell_of Ow2.out.b 2).trans rfl; have d2 := HT1.out w2 Ow2.out.g; have lg2 := HLG.out w2 Ow2.out.g; clear ow cw bl) | (at_builtin; refine wpList_append_to rfl (.tmp 56) (.const (.string { data := #[32, 100, 101, 102, 97, 117, 108, 116] })) rfl (w.heap.size + 1) _ (U1) rfl Ow2.out.o ({ data := #[32, 100, 101, 102, 97, 117, 108, 116] }) rfl U2 HU2.out (by omega) Ow2.out.le ?_; intro ao3 cap3 w3 ow cw bl; have Ow3 := hid (Ow2.out.put (Gr.refl _) ow cw); have l3 := lt_of_block Ow3.out.b; clear ow cw bl) | (at_builtin; refine wpList_append_nl rfl (.tmp 58) (.tmp 59) rfl (w.heap.size + 1) _ U2 rfl Ow3.out.o rfl U3 HU3.out (by omega) Ow3.out.le ?_; intro ao4 cap4 w4 ow cw; have O4 := hid (Ow3.out.put (Ch.alloc (Gr.refl _) _) ow cw); clear ow cw))
              have HUX := hid (show ∀ ms, jl U3 ms = jl { data := #[] } (ixl tbL 0 ((ts.map tT).take j) ++ ([({ data := #[116, 97, 98, 108, 101, 32, 116] } ++ C) ++ { data := #[32, 100, 101, 102, 97, 117, 108, 116] }] ++ ms)) from fun ms => by
                rw [jl_app, ← HT.out, jl_app, HU3.out, HU2.out, HU1.out]
                rw [jl_one]; simp only [ba_assoc])
              have HTB2 := hid (show tbL j (tT t) = [({ data := #[116, 97, 98, 108, 101, 32, 116] } ++ C) ++ { data := #[32, 100, 101, 102, 97, 117, 108, 116] }] ++ t.cs.map csT by rw [HTB.out]; simp)
              have HTX := hid (show jl { data := #[] } (ixl tbL 0 ((ts.map tT).take (j + 1))) = jl U3 (t.cs.map csT) by rw [HX1.out, HTB2.out, HUX.out])
              have HPX := hid (show ∀ k, (jl U3 ((t.cs.take k).map csT)).size ≤ 33554432 from fun k => by
                rw [HUX.out]
                refine tb_le htl' HCF.out HN.out _ ((t.cs.drop k).map csT ++ ixl tbL (0 + ((ts.map tT).take (j + 1)).length) ((ts.map tT).drop (j + 1))) ?_
                rw [HDR.out, HX1.out, HTB2.out]
                simp only [List.append_assoc]
                rw [← List.append_assoc (List.map csT (List.take k t.cs)), ← List.map_append, List.take_append_drop])
              have HIN2 := hid (fun (l : Nat) c (q : t.cs[l]? = some c) => List.all_eq_true.1 (List.all_eq_true.1 HCF.out t HM.out) c (List.mem_of_getElem? q))
              clear HUX HTU HTB HTB2 HX1 HDR HU1 HU3 HU2 O1 Ow2 Ow3 l3 l2 m2 d2 lg2 hTs HT HO n2 lk bU1 bU3 bU2 HDC hdc sz1 szd
              go_loopg [7, 9] nq (fun m v i wq => ∃ k : Nat, k + m = nq ∧ i = .int .i64 ((k : Nat) : Int) ∧ Ot w (.cells #[.slice aoc nc cac, .slice aof nf caf, .slice (some ⟨g, o, none⟩) nt cat] 26 (0, 0)) wq v (jl U3 ((t.cs.take k).map csT)))
              case atStart => exact ⟨0, by omega, rfl, O4.out⟩
              case round =>
                clear O4
                obtain ⟨k, hkk, rfl, hot⟩ := hrel
                have HZ := hid (HPX.out k)
                obtain ⟨T5, hT5⟩ : ∃ x, x = jl U3 ((t.cs.take k).map csT) := ⟨_, rfl⟩
                rw [← hT5] at hot HZ
                have hTs := HZ.out
                have HT5 := hid hT5
                have HO := hid hot
                obtain ⟨ao, cap, rfl⟩ := hot.form
                have lk := lt_of_block hot.b
                have n2 : wr.cell? ⟨w.heap.size, 2, none⟩ = some (.slice (some ⟨g, o, none⟩) nt cat) := (cell_of hot.b 2).trans rfl
                have t0 := HT0.out wr hot.g
                have lg := HLG.out wr hot.g
                clear hot hT5 HZ
                by_cases hk : k < nq
                · obtain ⟨c, hx⟩ : ∃ x, t.cs[k]? = some x := ⟨_, List.getElem?_eq_getElem (by rw [← HNQ.out]; exact hk)⟩
                  have HCX := hid (show jl U3 ((t.cs.take (k + 1)).map csT) = T5 ++ (csT c ++ nl) by rw [take_one hx, List.map_append, List.map_singleton, jl_snoc, ← HT5.out, ba_assoc])
                  have hfit := HIN2.out k c hx
                  rw [cf_reg] at hfit
                  obtain ⟨gq, oq, cap', hv, _, hgl, hcap, hcs⟩ := (HIN.out.cs t HM.out).get eC_len hx
                  rw [HCV.out] at hv
                  injection hv with hv1 hv2 hv3
                  subst hv1
                  have c0 := (HO.out.g.cell hgl).trans (hcs 0 _ rfl)
                  have c1 := (HO.out.g.cell hgl).trans (hcs 1 _ rfl)
                  have c2 := (HO.out.g.cell hgl).trans (hcs 2 _ rfl)
                  have c3 := (HO.out.g.cell hgl).trans (hcs 3 _ rfl)
                  rw [Nat.add_zero] at c0
                  have gs := HO.out.g.size
                  have lq : gq < wr.heap.size := by omega
                  have q0 : (0 : Int) ≤ (k : Int) := by omega
                  have q1 : (k : Int) < (nq : Int) := by omega
                  obtain ⟨s, a, b, d⟩ := c
                  simp only at c0 c1 c2 c3 hfit
                  simp only [Bool.and_eq_true] at hfit
                  obtain ⟨⟨ha, hb⟩, hd⟩ := hfit
                  obtain ⟨a0, a1⟩ := of_decide_eq_true ha
                  obtain ⟨b0, b1⟩ := of_decide_eq_true hb
                  have HDA := hid (fun (W : World) => decimal_any a (by omega) (by omega) W)
                  have hda := itB_size a (by omega) (by omega)
                  have HDB := hid (fun (W : World) => decimal_any b (by omega) (by omega) W)
                  have hdb := itB_size b (by omega) (by omega)
                  clear hv2 hv3 hcs hx hcap hgl ha hb
                  cases s with
                    | true =>
                      rw [← cs_send] at HCX
                      clear hd
                      obtain ⟨A, hA⟩ : ∃ s, s = itB a := ⟨_, rfl⟩
                      obtain ⟨B, hB⟩ : ∃ s, s = itB b := ⟨_, rfl⟩
                      rw [← hA] at HDA hda HCX
                      rw [← hB] at HDB hdb HCX
                      clear hA hB
                      obtain ⟨S1, hS1⟩ : ∃ k : ByteArray, k = ({ data := #[115, 101, 110, 100, 32, 114] }) ++ (A) := ⟨_, rfl⟩
                      have bS1 : S1.size ≤ 27 := by
                        rw [hS1]
                        simp only [ByteArray.size_append]
                        have e0 : nl.size = 1 := rfl
                        have e1 : ({ data := #[116, 97, 98, 108, 101, 32, 116] } : ByteArray).size = 7 := rfl
                        have e2 : ({ data := #[32, 100, 101, 102, 97, 117, 108, 116] } : ByteArray).size = 8 := rfl
                        have e3 : ({ data := #[102, 117, 110, 99, 32, 102] } : ByteArray).size = 6 := rfl
                        have e4 : ({ data := #[10] } : ByteArray).size = 1 := rfl
                        have e5 : ({ data := #[76] } : ByteArray).size = 1 := rfl
                        have e6 : ({ data := #[58, 10] } : ByteArray).size = 2 := rfl
                        have e7 : ({ data := #[115, 101, 110, 100, 32, 114] } : ByteArray).size = 6 := rfl
                        have e8 : ({ data := #[114, 101, 99, 118, 32, 114] } : ByteArray).size = 6 := rfl
                        have e9 : ({ data := #[32, 114] } : ByteArray).size = 2 := rfl
                        omega
                      have HS1 := hid hS1
                      clear hS1
                      obtain ⟨S2, hS2⟩ : ∃ k : ByteArray, k = (S1) ++ ({ data := #[32, 114] }) := ⟨_, rfl⟩
                      have bS2 : S2.size ≤ 29 := by
                        rw [hS2]
                        simp only [ByteArray.size_append]
                        have e0 : nl.size = 1 := rfl
                        have e1 : ({ data := #[116, 97, 98, 108, 101, 32, 116] } : ByteArray).size = 7 := rfl
                        have e2 : ({ data := #[32, 100, 101, 102, 97, 117, 108, 116] } : ByteArray).size = 8 := rfl
                        have e3 : ({ data := #[102, 117, 110, 99, 32, 102] } : ByteArray).size = 6 := rfl
                        have e4 : ({ data := #[10] } : ByteArray).size = 1 := rfl
                        have e5 : ({ data := #[76] } : ByteArray).size = 1 := rfl
                        have e6 : ({ data := #[58, 10] } : ByteArray).size = 2 := rfl
                        have e7 : ({ data := #[115, 101, 110, 100, 32, 114] } : ByteArray).size = 6 := rfl
                        have e8 : ({ data := #[114, 101, 99, 118, 32, 114] } : ByteArray).size = 6 := rfl
                        have e9 : ({ data := #[32, 114] } : ByteArray).size = 2 := rfl
                        omega
                      have HS2 := hid hS2
                      clear hS2
                      obtain ⟨S3, hS3⟩ : ∃ k : ByteArray, k = (S2) ++ (B) := ⟨_, rfl⟩
                      have bS3 : S3.size ≤ 50 := by
                        rw [hS3]
                        simp only [ByteArray.size_append]
                        have e0 : nl.size = 1 := rfl
                        have e1 : ({ data := #[116, 97, 98, 108, 101, 32, 116] } : ByteArray).size = 7 := rfl
                        have e2 : ({ data := #[32, 100, 101, 102, 97, 117, 108, 116] } : ByteArray).size = 8 := rfl
                        have e3 : ({ data := #[102, 117, 110, 99, 32, 102] } : ByteArray).size = 6 := rfl
                        have e4 : ({ data := #[10] } : ByteArray).size = 1 := rfl
                        have e5 : ({ data := #[76] } : ByteArray).size = 1 := rfl
                        have e6 : ({ data := #[58, 10] } : ByteArray).size = 2 := rfl
                        have e7 : ({ data := #[115, 101, 110, 100, 32, 114] } : ByteArray).size = 6 := rfl
                        have e8 : ({ data := #[114, 101, 99, 118, 32, 114] } : ByteArray).size = 6 := rfl
                        have e9 : ({ data := #[32, 114] } : ByteArray).size = 2 := rfl
                        omega
                      have HS3 := hid hS3
                      clear hS3
                      obtain ⟨S4, hS4⟩ : ∃ k : ByteArray, k = (S3) ++ ({ data := #[10] }) := ⟨_, rfl⟩
                      have bS4 : S4.size ≤ 51 := by
                        rw [hS4]
                        simp only [ByteArray.size_append]
                        have e0 : nl.size = 1 := rfl
                        have e1 : ({ data := #[116, 97, 98, 108, 101, 32, 116] } : ByteArray).size = 7 := rfl
                        have e2 : ({ data := #[32, 100, 101, 102, 97, 117, 108, 116] } : ByteArray).size = 8 := rfl
                        have e3 : ({ data := #[102, 117, 110, 99, 32, 102] } : ByteArray).size = 6 := rfl
                        have e4 : ({ data := #[10] } : ByteArray).size = 1 := rfl
                        have e5 : ({ data := #[76] } : ByteArray).size = 1 := rfl
                        have e6 : ({ data := #[58, 10] } : ByteArray).size = 2 := rfl
                        have e7 : ({ data := #[115, 101, 110, 100, 32, 114] } : ByteArray).size = 6 := rfl
                        have e8 : ({ data := #[114, 101, 99, 118, 32, 114] } : ByteArray).size = 6 := rfl
                        have e9 : ({ data := #[32, 114] } : ByteArray).size = 2 := rfl
                        omega
                      have HS4 := hid hS4
                      clear hS4
                      rw [← HS1.out, ← HS2.out, ← HS3.out, ← HS4.out] at HCX
                      obtain ⟨U4, hU4⟩ : ∃ k : ByteArray, k = (T5) ++ (S4) := ⟨_, rfl⟩
                      have bU4 : U4.size ≤ 33554600 := by
                        rw [hU4]
                        simp only [ByteArray.size_append]
                        have e0 : nl.size = 1 := rfl
                        have e1 : ({ data := #[116, 97, 98, 108, 101, 32, 116] } : ByteArray).size = 7 := rfl
                        have e2 : ({ data := #[32, 100, 101, 102, 97, 117, 108, 116] } : ByteArray).size = 8 := rfl
                        have e3 : ({ data := #[102, 117, 110, 99, 32, 102] } : ByteArray).size = 6 := rfl
                        have e4 : ({ data := #[10] } : ByteArray).size = 1 := rfl
                        have e5 : ({ data := #[76] } : ByteArray).size = 1 := rfl
                        have e6 : ({ data := #[58, 10] } : ByteArray).size = 2 := rfl
                        have e7 : ({ data := #[115, 101, 110, 100, 32, 114] } : ByteArray).size = 6 := rfl
                        have e8 : ({ data := #[114, 101, 99, 118, 32, 114] } : ByteArray).size = 6 := rfl
                        have e9 : ({ data := #[32, 114] } : ByteArray).size = 2 := rfl
                        omega
                      have HU4 := hid hU4
                      clear hU4
                      rw [← HU4.out] at HCX
                      have HBX := hid (MapKept.heap_alloc wr (.cells #[.bool true, .int .i64 a, .int .i64 b, .int .i64 d] 46)).1
                      have lF : wr.heap.size < (wr.alloc (.cells #[.bool true, .int .i64 a, .int .i64 b, .int .i64 d] 46)).heap.size := lt_of_block HBX.out
                      have v1 : (wr.alloc (.cells #[.bool true, .int .i64 a, .int .i64 b, .int .i64 d] 46)).cell? ⟨wr.heap.size, 1, none⟩ = some (.int .i64 a) := (cell_of HBX.out 1).trans rfl
                      have v2 : (wr.alloc (.cells #[.bool true, .int .i64 a, .int .i64 b, .int .i64 d] 46)).cell? ⟨wr.heap.size, 2, none⟩ = some (.int .i64 b) := (cell_of HBX.out 2).trans rfl
                      go_wp2_with fail
                      have hS0 : (fun w' => w'.cell? ⟨wr.heap.size, 1, none⟩ = some (.int .i64 a) ∧ w'.cell? ⟨wr.heap.size, 2, none⟩ = some (.int .i64 b)) (wr.alloc (.cells #[.bool true, .int .i64 a, .int .i64 b, .int .i64 d] 46)).drew := ⟨v1, v2⟩
                      refine wp_region_held_drew (S := fun w' => w'.cell? ⟨wr.heap.size, 1, none⟩ = some (.int .i64 a) ∧ w'.cell? ⟨wr.heap.size, 2, none⟩ = some (.int .i64 b)) (by kernel_rfl) (by exact hS0) (fun _ => ?_)
                      refine takeS_on (i := 0) 83 (v := ?v25) rfl rfl (by kernel_rfl) (by kernel_rfl) (by kernel_rfl) (fun _ _ _ h => h) (by kernel_rfl) ?hy25 (by exact hS0) ?_
                      case hy25 => (intro w' hSw; go_simp; try (with_reducible rfl))
                      simp only [Act.put, List.setIfInBounds_toArray, List.set_cons_zero, List.set_cons_succ]
                      refine takeS_on (i := 1) 84 (v := ?v26) rfl rfl (by kernel_rfl) (by kernel_rfl) (by kernel_rfl) (fun _ _ _ h => h) (by kernel_rfl) ?hy26 (by exact hS0) ?_
                      case hy26 => (intro w' hSw; go_simp; try (with_reducible rfl))
                      simp only [Act.put, List.setIfInBounds_toArray, List.set_cons_zero, List.set_cons_succ]
                      refine takeS_on (i := 2) 85 (v := ?v27) rfl rfl (by kernel_rfl) (by kernel_rfl) (by kernel_rfl) (fun _ _ _ h => h) (by kernel_rfl) ?hy27 (by exact hS0) ?_
                      case hy27 => (intro w' hSw; go_simp; try (with_reducible rfl))
                      simp only [Act.put, List.setIfInBounds_toArray, List.set_cons_zero, List.set_cons_succ]
                      refine takeS_on (i := 6) 89 (v := ?v28) rfl rfl (by kernel_rfl) (by kernel_rfl) (by kernel_rfl) (fun _ _ _ h => h) (by kernel_rfl) ?hy28 (by exact hS0) ?_
                      case hy28 => (intro w' hSw; go_simp; try (with_reducible rfl))
                      simp only [Act.put, List.setIfInBounds_toArray, List.set_cons_zero, List.set_cons_succ]
                      refine takeS_on (i := 7) 90 (v := ?v29) rfl rfl (by kernel_rfl) (by kernel_rfl) (by kernel_rfl) (fun _ _ _ h => h) (by kernel_rfl) ?hy29 (by exact hS0) ?_
                      case hy29 => (intro w' hSw; go_simp; try (with_reducible rfl))
                      simp only [Act.put, List.setIfInBounds_toArray, List.set_cons_zero, List.set_cons_succ]
                      refine wpAnyH_ready (rs := [3]) (by kernel_rfl) (by simp) (AllReadyH.cons rfl (fun K hK => ?_) AllReadyH.nil)
                      go_simp
                      refine (HDA.out _).mono ?_
                      rintro e w5 ⟨rfl, g5⟩
                      have k5 : Gr (wr.alloc (.cells #[.bool true, .int .i64 a, .int .i64 b, .int .i64 d] 46)) w5 := Gr.trans (Ch.drew (Gr.refl _)) g5
                      have hS_5 : (fun w' => w'.cell? ⟨wr.heap.size, 1, none⟩ = some (.int .i64 a) ∧ w'.cell? ⟨wr.heap.size, 2, none⟩ = some (.int .i64 b)) w5 := ⟨(k5.cell lF).trans v1, (k5.cell lF).trans v2⟩
                      have K5 := hid k5
                      clear k5 g5
                      refine hK.out _ _ (by exact hS_5) (fun _ => ?_)
                      clear hK K
                      refine takeS_on (i := 4) 87 (v := .string S1) rfl rfl (by kernel_rfl) (by kernel_rfl) (by kernel_rfl) (fun _ _ _ h => h) (by kernel_rfl) ?hy30 (by exact hS_5) ?_
                      case hy30 => (intro w' hSw; go_simp; first | (rw [if_neg (by omega), HS1.out]) | (rw [HS1.out]))
                      simp only [Act.put, List.setIfInBounds_toArray, List.set_cons_zero, List.set_cons_succ]
                      refine takeS_on (i := 5) 88 (v := .string S2) rfl rfl (by kernel_rfl) (by kernel_rfl) (by kernel_rfl) (fun _ _ _ h => h) (by kernel_rfl) ?hy31 (by exact hS_5) ?_
                      case hy31 => (intro w' hSw; go_simp; first | (rw [if_neg (by omega), HS2.out]) | (rw [HS2.out]))
                      simp only [Act.put, List.setIfInBounds_toArray, List.set_cons_zero, List.set_cons_succ]
                      refine wpAnyH_ready (rs := [8]) (by kernel_rfl) (by simp) (AllReadyH.cons rfl (fun K hK => ?_) AllReadyH.nil)
                      go_simp
                      refine (HDB.out _).mono ?_
                      rintro e w6 ⟨rfl, g6⟩
                      have k6 : Gr (wr.alloc (.cells #[.bool true, .int .i64 a, .int .i64 b, .int .i64 d] 46)) w6 := Gr.trans K5.out g6
                      have hS_6 : (fun w' => w'.cell? ⟨wr.heap.size, 1, none⟩ = some (.int .i64 a) ∧ w'.cell? ⟨wr.heap.size, 2, none⟩ = some (.int .i64 b)) w6 := ⟨(k6.cell lF).trans v1, (k6.cell lF).trans v2⟩
                      have K6 := hid k6
                      clear k6 g6
                      refine hK.out _ _ (by exact hS_6) (fun _ => ?_)
                      clear hK K
                      refine takeS_on (i := 9) 92 (v := .string S3) rfl rfl (by kernel_rfl) (by kernel_rfl) (by kernel_rfl) (fun _ _ _ h => h) (by kernel_rfl) ?hy32 (by exact hS_6) ?_
                      case hy32 => (intro w' hSw; go_simp; first | (rw [if_neg (by omega), HS3.out]) | (rw [HS3.out]))
                      simp only [Act.put, List.setIfInBounds_toArray, List.set_cons_zero, List.set_cons_succ]
                      refine takeS_on (i := 10) 93 (v := .string S4) rfl rfl (by kernel_rfl) (by kernel_rfl) (by kernel_rfl) (fun _ _ _ h => h) (by kernel_rfl) ?hy33 (by exact hS_6) ?_
                      case hy33 => (intro w' hSw; go_simp; first | (rw [if_neg (by omega), HS4.out]) | (rw [HS4.out]))
                      simp only [Act.put, List.setIfInBounds_toArray, List.set_cons_zero, List.set_cons_succ]
                      refine wpAnyH_ready (rs := [11]) (by kernel_rfl) (by simp) (AllReadyH.cons rfl (fun K hK => ?_) AllReadyH.nil)
                      refine step_append_to rfl (.tmp 83) (.tmp 93) rfl (w.heap.size + 1) (.slice ao T5.size cap) T5 (by simp [Act.eval]) (HO.out.gr (Gr.trans (Ch.alloc (Gr.refl wr) _) K6.out)).o S4 (by simp [Act.eval]) U4 HU4.out (by omega) (HO.out.gr (Gr.trans (Ch.alloc (Gr.refl wr) _) K6.out)).le ?_
                      intro ao8 cap8 w8 ow cw bl
                      have O8 := hid (HO.out.put (Gr.trans (Ch.alloc (Gr.refl wr) _) K6.out) ow cw)
                      have nF : ¬ Blk (.slice ao T5.size cap) wr.heap.size := fun e => by have := (HO.out.o.blk e).2; omega
                      have hS_8 : (fun w' => w'.cell? ⟨wr.heap.size, 1, none⟩ = some (.int .i64 a) ∧ w'.cell? ⟨wr.heap.size, 2, none⟩ = some (.int .i64 b)) w8 := ⟨(cw.cell (Nat.lt_of_lt_of_le lF K6.out.size) nF).trans hS_6.1, (cw.cell (Nat.lt_of_lt_of_le lF K6.out.size) nF).trans hS_6.2⟩
                      clear ow cw bl nF
                      refine hK.out _ _ (by exact hS_8) (fun _ => ?_)
                      change wpAnyH _ _ _ _ _ _ _ (Act.put _ (some 94) _) _
                      simp only [Act.put, List.setIfInBounds_toArray, List.set_cons_zero, List.set_cons_succ]
                      clear hK K
                      refine takeS_on (i := 12) 7 (v := ?v34) rfl rfl (by kernel_rfl) (by kernel_rfl) (by kernel_rfl) (fun _ _ _ h => h) (by kernel_rfl) ?hy34 (by exact hS_8) ?_
                      case hy34 => (intro w' hSw; go_simp; try (with_reducible rfl))
                      simp only [Act.put, List.setIfInBounds_toArray, List.set_cons_zero, List.set_cons_succ]
                      refine wpAnyH_done (by kernel_rfl) ?_ _
                      clear hS0 hS_5 hS_6 hS_8
                      go_wp2_with fail
                      go_roundg (gk - 1)
                      case measure => omega
                      case rel => exact ⟨k + 1, by omega, by simp, by rw [HCX.out]; exact O8.out⟩
                    | false =>
                      have hd2 : rg d = true := by simpa using hd
                      obtain ⟨d0, d1⟩ := of_decide_eq_true hd2
                      have HDD := hid (fun (W : World) => decimal_any d (by omega) (by omega) W)
                      have hdd := itB_size d (by omega) (by omega)
                      clear hd2
                      rw [← cs_recv] at HCX
                      clear hd
                      obtain ⟨A, hA⟩ : ∃ s, s = itB a := ⟨_, rfl⟩
                      obtain ⟨B, hB⟩ : ∃ s, s = itB b := ⟨_, rfl⟩
                      rw [← hA] at HDA hda HCX
                      rw [← hB] at HDB hdb HCX
                      clear hA hB
                      obtain ⟨DD, hD⟩ : ∃ s, s = itB d := ⟨_, rfl⟩
                      rw [← hD] at HDD hdd HCX
                      clear hD
                      obtain ⟨S1, hS1⟩ : ∃ k : ByteArray, k = ({ data := #[114, 101, 99, 118, 32, 114] }) ++ (A) := ⟨_, rfl⟩
                      have bS1 : S1.size ≤ 27 := by
                        rw [hS1]
                        simp only [ByteArray.size_append]
                        have e0 : nl.size = 1 := rfl
                        have e1 : ({ data := #[116, 97, 98, 108, 101, 32, 116] } : ByteArray).size = 7 := rfl
                        have e2 : ({ data := #[32, 100, 101, 102, 97, 117, 108, 116] } : ByteArray).size = 8 := rfl
                        have e3 : ({ data := #[102, 117, 110, 99, 32, 102] } : ByteArray).size = 6 := rfl
                        have e4 : ({ data := #[10] } : ByteArray).size = 1 := rfl
                        have e5 : ({ data := #[76] } : ByteArray).size = 1 := rfl
                        have e6 : ({ data := #[58, 10] } : ByteArray).size = 2 := rfl
                        have e7 : ({ data := #[115, 101, 110, 100, 32, 114] } : ByteArray).size = 6 := rfl
                        have e8 : ({ data := #[114, 101, 99, 118, 32, 114] } : ByteArray).size = 6 := rfl
                        have e9 : ({ data := #[32, 114] } : ByteArray).size = 2 := rfl
                        omega
                      have HS1 := hid hS1
                      clear hS1
                      obtain ⟨S2, hS2⟩ : ∃ k : ByteArray, k = (S1) ++ ({ data := #[32, 114] }) := ⟨_, rfl⟩
                      have bS2 : S2.size ≤ 29 := by
                        rw [hS2]
                        simp only [ByteArray.size_append]
                        have e0 : nl.size = 1 := rfl
                        have e1 : ({ data := #[116, 97, 98, 108, 101, 32, 116] } : ByteArray).size = 7 := rfl
                        have e2 : ({ data := #[32, 100, 101, 102, 97, 117, 108, 116] } : ByteArray).size = 8 := rfl
                        have e3 : ({ data := #[102, 117, 110, 99, 32, 102] } : ByteArray).size = 6 := rfl
                        have e4 : ({ data := #[10] } : ByteArray).size = 1 := rfl
                        have e5 : ({ data := #[76] } : ByteArray).size = 1 := rfl
                        have e6 : ({ data := #[58, 10] } : ByteArray).size = 2 := rfl
                        have e7 : ({ data := #[115, 101, 110, 100, 32, 114] } : ByteArray).size = 6 := rfl
                        have e8 : ({ data := #[114, 101, 99, 118, 32, 114] } : ByteArray).size = 6 := rfl
                        have e9 : ({ data := #[32, 114] } : ByteArray).size = 2 := rfl
                        omega
                      have HS2 := hid hS2
                      clear hS2
                      obtain ⟨S3, hS3⟩ : ∃ k : ByteArray, k = (S2) ++ (B) := ⟨_, rfl⟩
                      have bS3 : S3.size ≤ 50 := by
                        rw [hS3]
                        simp only [ByteArray.size_append]
                        have e0 : nl.size = 1 := rfl
                        have e1 : ({ data := #[116, 97, 98, 108, 101, 32, 116] } : ByteArray).size = 7 := rfl
                        have e2 : ({ data := #[32, 100, 101, 102, 97, 117, 108, 116] } : ByteArray).size = 8 := rfl
                        have e3 : ({ data := #[102, 117, 110, 99, 32, 102] } : ByteArray).size = 6 := rfl
                        have e4 : ({ data := #[10] } : ByteArray).size = 1 := rfl
                        have e5 : ({ data := #[76] } : ByteArray).size = 1 := rfl
                        have e6 : ({ data := #[58, 10] } : ByteArray).size = 2 := rfl
                        have e7 : ({ data := #[115, 101, 110, 100, 32, 114] } : ByteArray).size = 6 := rfl
                        have e8 : ({ data := #[114, 101, 99, 118, 32, 114] } : ByteArray).size = 6 := rfl
                        have e9 : ({ data := #[32, 114] } : ByteArray).size = 2 := rfl
                        omega
                      have HS3 := hid hS3
                      clear hS3
                      obtain ⟨S4, hS4⟩ : ∃ k : ByteArray, k = (S3) ++ ({ data := #[32, 114] }) := ⟨_, rfl⟩
                      have bS4 : S4.size ≤ 52 := by
                        rw [hS4]
                        simp only [ByteArray.size_append]
                        have e0 : nl.size = 1 := rfl
                        have e1 : ({ data := #[116, 97, 98, 108, 101, 32, 116] } : ByteArray).size = 7 := rfl
                        have e2 : ({ data := #[32, 100, 101, 102, 97, 117, 108, 116] } : ByteArray).size = 8 := rfl
                        have e3 : ({ data := #[102, 117, 110, 99, 32, 102] } : ByteArray).size = 6 := rfl
                        have e4 : ({ data := #[10] } : ByteArray).size = 1 := rfl
                        have e5 : ({ data := #[76] } : ByteArray).size = 1 := rfl
                        have e6 : ({ data := #[58, 10] } : ByteArray).size = 2 := rfl
                        have e7 : ({ data := #[115, 101, 110, 100, 32, 114] } : ByteArray).size = 6 := rfl
                        have e8 : ({ data := #[114, 101, 99, 118, 32, 114] } : ByteArray).size = 6 := rfl
                        have e9 : ({ data := #[32, 114] } : ByteArray).size = 2 := rfl
                        omega
                      have HS4 := hid hS4
                      clear hS4
                      obtain ⟨S5, hS5⟩ : ∃ k : ByteArray, k = (S4) ++ (DD) := ⟨_, rfl⟩
                      have bS5 : S5.size ≤ 73 := by
                        rw [hS5]
                        simp only [ByteArray.size_append]
                        have e0 : nl.size = 1 := rfl
                        have e1 : ({ data := #[116, 97, 98, 108, 101, 32, 116] } : ByteArray).size = 7 := rfl
                        have e2 : ({ data := #[32, 100, 101, 102, 97, 117, 108, 116] } : ByteArray).size = 8 := rfl
                        have e3 : ({ data := #[102, 117, 110, 99, 32, 102] } : ByteArray).size = 6 := rfl
                        have e4 : ({ data := #[10] } : ByteArray).size = 1 := rfl
                        have e5 : ({ data := #[76] } : ByteArray).size = 1 := rfl
                        have e6 : ({ data := #[58, 10] } : ByteArray).size = 2 := rfl
                        have e7 : ({ data := #[115, 101, 110, 100, 32, 114] } : ByteArray).size = 6 := rfl
                        have e8 : ({ data := #[114, 101, 99, 118, 32, 114] } : ByteArray).size = 6 := rfl
                        have e9 : ({ data := #[32, 114] } : ByteArray).size = 2 := rfl
                        omega
                      have HS5 := hid hS5
                      clear hS5
                      obtain ⟨S6, hS6⟩ : ∃ k : ByteArray, k = (S5) ++ ({ data := #[10] }) := ⟨_, rfl⟩
                      have bS6 : S6.size ≤ 74 := by
                        rw [hS6]
                        simp only [ByteArray.size_append]
                        have e0 : nl.size = 1 := rfl
                        have e1 : ({ data := #[116, 97, 98, 108, 101, 32, 116] } : ByteArray).size = 7 := rfl
                        have e2 : ({ data := #[32, 100, 101, 102, 97, 117, 108, 116] } : ByteArray).size = 8 := rfl
                        have e3 : ({ data := #[102, 117, 110, 99, 32, 102] } : ByteArray).size = 6 := rfl
                        have e4 : ({ data := #[10] } : ByteArray).size = 1 := rfl
                        have e5 : ({ data := #[76] } : ByteArray).size = 1 := rfl
                        have e6 : ({ data := #[58, 10] } : ByteArray).size = 2 := rfl
                        have e7 : ({ data := #[115, 101, 110, 100, 32, 114] } : ByteArray).size = 6 := rfl
                        have e8 : ({ data := #[114, 101, 99, 118, 32, 114] } : ByteArray).size = 6 := rfl
                        have e9 : ({ data := #[32, 114] } : ByteArray).size = 2 := rfl
                        omega
                      have HS6 := hid hS6
                      clear hS6
                      rw [← HS1.out, ← HS2.out, ← HS3.out, ← HS4.out, ← HS5.out, ← HS6.out] at HCX
                      obtain ⟨U4, hU4⟩ : ∃ k : ByteArray, k = (T5) ++ (S6) := ⟨_, rfl⟩
                      have bU4 : U4.size ≤ 33554600 := by
                        rw [hU4]
                        simp only [ByteArray.size_append]
                        have e0 : nl.size = 1 := rfl
                        have e1 : ({ data := #[116, 97, 98, 108, 101, 32, 116] } : ByteArray).size = 7 := rfl
                        have e2 : ({ data := #[32, 100, 101, 102, 97, 117, 108, 116] } : ByteArray).size = 8 := rfl
                        have e3 : ({ data := #[102, 117, 110, 99, 32, 102] } : ByteArray).size = 6 := rfl
                        have e4 : ({ data := #[10] } : ByteArray).size = 1 := rfl
                        have e5 : ({ data := #[76] } : ByteArray).size = 1 := rfl
                        have e6 : ({ data := #[58, 10] } : ByteArray).size = 2 := rfl
                        have e7 : ({ data := #[115, 101, 110, 100, 32, 114] } : ByteArray).size = 6 := rfl
                        have e8 : ({ data := #[114, 101, 99, 118, 32, 114] } : ByteArray).size = 6 := rfl
                        have e9 : ({ data := #[32, 114] } : ByteArray).size = 2 := rfl
                        omega
                      have HU4 := hid hU4
                      clear hU4
                      rw [← HU4.out] at HCX
                      have HBX := hid (MapKept.heap_alloc wr (.cells #[.bool false, .int .i64 a, .int .i64 b, .int .i64 d] 46)).1
                      have lF : wr.heap.size < (wr.alloc (.cells #[.bool false, .int .i64 a, .int .i64 b, .int .i64 d] 46)).heap.size := lt_of_block HBX.out
                      have v1 : (wr.alloc (.cells #[.bool false, .int .i64 a, .int .i64 b, .int .i64 d] 46)).cell? ⟨wr.heap.size, 1, none⟩ = some (.int .i64 a) := (cell_of HBX.out 1).trans rfl
                      have v2 : (wr.alloc (.cells #[.bool false, .int .i64 a, .int .i64 b, .int .i64 d] 46)).cell? ⟨wr.heap.size, 2, none⟩ = some (.int .i64 b) := (cell_of HBX.out 2).trans rfl
                      have v3 : (wr.alloc (.cells #[.bool false, .int .i64 a, .int .i64 b, .int .i64 d] 46)).cell? ⟨wr.heap.size, 3, none⟩ = some (.int .i64 d) := (cell_of HBX.out 3).trans rfl
                      go_wp2_with fail
                      have hS0 : (fun w' => w'.cell? ⟨wr.heap.size, 1, none⟩ = some (.int .i64 a) ∧ w'.cell? ⟨wr.heap.size, 2, none⟩ = some (.int .i64 b) ∧ w'.cell? ⟨wr.heap.size, 3, none⟩ = some (.int .i64 d)) (wr.alloc (.cells #[.bool false, .int .i64 a, .int .i64 b, .int .i64 d] 46)).drew := ⟨v1, v2, v3⟩
                      refine wp_region_held_drew (S := fun w' => w'.cell? ⟨wr.heap.size, 1, none⟩ = some (.int .i64 a) ∧ w'.cell? ⟨wr.heap.size, 2, none⟩ = some (.int .i64 b) ∧ w'.cell? ⟨wr.heap.size, 3, none⟩ = some (.int .i64 d)) (by kernel_rfl) (by exact hS0) (fun _ => ?_)
                      refine takeS_on (i := 0) 95 (v := ?v35) rfl rfl (by kernel_rfl) (by kernel_rfl) (by kernel_rfl) (fun _ _ _ h => h) (by kernel_rfl) ?hy35 (by exact hS0) ?_
                      case hy35 => (intro w' hSw; go_simp; try (with_reducible rfl))
                      simp only [Act.put, List.setIfInBounds_toArray, List.set_cons_zero, List.set_cons_succ]
                      refine takeS_on (i := 1) 96 (v := ?v36) rfl rfl (by kernel_rfl) (by kernel_rfl) (by kernel_rfl) (fun _ _ _ h => h) (by kernel_rfl) ?hy36 (by exact hS0) ?_
                      case hy36 => (intro w' hSw; go_simp; try (with_reducible rfl))
                      simp only [Act.put, List.setIfInBounds_toArray, List.set_cons_zero, List.set_cons_succ]
                      refine takeS_on (i := 2) 97 (v := ?v37) rfl rfl (by kernel_rfl) (by kernel_rfl) (by kernel_rfl) (fun _ _ _ h => h) (by kernel_rfl) ?hy37 (by exact hS0) ?_
                      case hy37 => (intro w' hSw; go_simp; try (with_reducible rfl))
                      simp only [Act.put, List.setIfInBounds_toArray, List.set_cons_zero, List.set_cons_succ]
                      refine takeS_on (i := 6) 101 (v := ?v38) rfl rfl (by kernel_rfl) (by kernel_rfl) (by kernel_rfl) (fun _ _ _ h => h) (by kernel_rfl) ?hy38 (by exact hS0) ?_
                      case hy38 => (intro w' hSw; go_simp; try (with_reducible rfl))
                      simp only [Act.put, List.setIfInBounds_toArray, List.set_cons_zero, List.set_cons_succ]
                      refine takeS_on (i := 7) 102 (v := ?v39) rfl rfl (by kernel_rfl) (by kernel_rfl) (by kernel_rfl) (fun _ _ _ h => h) (by kernel_rfl) ?hy39 (by exact hS0) ?_
                      case hy39 => (intro w' hSw; go_simp; try (with_reducible rfl))
                      simp only [Act.put, List.setIfInBounds_toArray, List.set_cons_zero, List.set_cons_succ]
                      refine takeS_on (i := 11) 106 (v := ?v40) rfl rfl (by kernel_rfl) (by kernel_rfl) (by kernel_rfl) (fun _ _ _ h => h) (by kernel_rfl) ?hy40 (by exact hS0) ?_
                      case hy40 => (intro w' hSw; go_simp; try (with_reducible rfl))
                      simp only [Act.put, List.setIfInBounds_toArray, List.set_cons_zero, List.set_cons_succ]
                      refine takeS_on (i := 12) 107 (v := ?v41) rfl rfl (by kernel_rfl) (by kernel_rfl) (by kernel_rfl) (fun _ _ _ h => h) (by kernel_rfl) ?hy41 (by exact hS0) ?_
                      case hy41 => (intro w' hSw; go_simp; try (with_reducible rfl))
                      simp only [Act.put, List.setIfInBounds_toArray, List.set_cons_zero, List.set_cons_succ]
                      refine wpAnyH_ready (rs := [3]) (by kernel_rfl) (by simp) (AllReadyH.cons rfl (fun K hK => ?_) AllReadyH.nil)
                      go_simp
                      refine (HDA.out _).mono ?_
                      rintro e w5 ⟨rfl, g5⟩
                      have k5 : Gr (wr.alloc (.cells #[.bool false, .int .i64 a, .int .i64 b, .int .i64 d] 46)) w5 := Gr.trans (Ch.drew (Gr.refl _)) g5
                      have hS_5 : (fun w' => w'.cell? ⟨wr.heap.size, 1, none⟩ = some (.int .i64 a) ∧ w'.cell? ⟨wr.heap.size, 2, none⟩ = some (.int .i64 b) ∧ w'.cell? ⟨wr.heap.size, 3, none⟩ = some (.int .i64 d)) w5 := ⟨(k5.cell lF).trans v1, (k5.cell lF).trans v2, (k5.cell lF).trans v3⟩
                      have K5 := hid k5
                      clear k5 g5
                      refine hK.out _ _ (by exact hS_5) (fun _ => ?_)
                      clear hK K
                      refine takeS_on (i := 4) 99 (v := .string S1) rfl rfl (by kernel_rfl) (by kernel_rfl) (by kernel_rfl) (fun _ _ _ h => h) (by kernel_rfl) ?hy42 (by exact hS_5) ?_
                      case hy42 => (intro w' hSw; go_simp; first | (rw [if_neg (by omega), HS1.out]) | (rw [HS1.out]))
                      simp only [Act.put, List.setIfInBounds_toArray, List.set_cons_zero, List.set_cons_succ]
                      refine takeS_on (i := 5) 100 (v := .string S2) rfl rfl (by kernel_rfl) (by kernel_rfl) (by kernel_rfl) (fun _ _ _ h => h) (by kernel_rfl) ?hy43 (by exact hS_5) ?_
                      case hy43 => (intro w' hSw; go_simp; first | (rw [if_neg (by omega), HS2.out]) | (rw [HS2.out]))
                      simp only [Act.put, List.setIfInBounds_toArray, List.set_cons_zero, List.set_cons_succ]
                      refine wpAnyH_ready (rs := [8]) (by kernel_rfl) (by simp) (AllReadyH.cons rfl (fun K hK => ?_) AllReadyH.nil)
                      go_simp
                      refine (HDB.out _).mono ?_
                      rintro e w6 ⟨rfl, g6⟩
                      have k6 : Gr (wr.alloc (.cells #[.bool false, .int .i64 a, .int .i64 b, .int .i64 d] 46)) w6 := Gr.trans K5.out g6
                      have hS_6 : (fun w' => w'.cell? ⟨wr.heap.size, 1, none⟩ = some (.int .i64 a) ∧ w'.cell? ⟨wr.heap.size, 2, none⟩ = some (.int .i64 b) ∧ w'.cell? ⟨wr.heap.size, 3, none⟩ = some (.int .i64 d)) w6 := ⟨(k6.cell lF).trans v1, (k6.cell lF).trans v2, (k6.cell lF).trans v3⟩
                      have K6 := hid k6
                      clear k6 g6
                      refine hK.out _ _ (by exact hS_6) (fun _ => ?_)
                      clear hK K
                      refine takeS_on (i := 9) 104 (v := .string S3) rfl rfl (by kernel_rfl) (by kernel_rfl) (by kernel_rfl) (fun _ _ _ h => h) (by kernel_rfl) ?hy44 (by exact hS_6) ?_
                      case hy44 => (intro w' hSw; go_simp; first | (rw [if_neg (by omega), HS3.out]) | (rw [HS3.out]))
                      simp only [Act.put, List.setIfInBounds_toArray, List.set_cons_zero, List.set_cons_succ]
                      refine takeS_on (i := 10) 105 (v := .string S4) rfl rfl (by kernel_rfl) (by kernel_rfl) (by kernel_rfl) (fun _ _ _ h => h) (by kernel_rfl) ?hy45 (by exact hS_6) ?_
                      case hy45 => (intro w' hSw; go_simp; first | (rw [if_neg (by omega), HS4.out]) | (rw [HS4.out]))
                      simp only [Act.put, List.setIfInBounds_toArray, List.set_cons_zero, List.set_cons_succ]
                      refine wpAnyH_ready (rs := [13]) (by kernel_rfl) (by simp) (AllReadyH.cons rfl (fun K hK => ?_) AllReadyH.nil)
                      go_simp
                      refine (HDD.out _).mono ?_
                      rintro e w7 ⟨rfl, g7⟩
                      have k7 : Gr (wr.alloc (.cells #[.bool false, .int .i64 a, .int .i64 b, .int .i64 d] 46)) w7 := Gr.trans K6.out g7
                      have hS_7 : (fun w' => w'.cell? ⟨wr.heap.size, 1, none⟩ = some (.int .i64 a) ∧ w'.cell? ⟨wr.heap.size, 2, none⟩ = some (.int .i64 b) ∧ w'.cell? ⟨wr.heap.size, 3, none⟩ = some (.int .i64 d)) w7 := ⟨(k7.cell lF).trans v1, (k7.cell lF).trans v2, (k7.cell lF).trans v3⟩
                      have K7 := hid k7
                      clear k7 g7
                      refine hK.out _ _ (by exact hS_7) (fun _ => ?_)
                      clear hK K
                      refine takeS_on (i := 14) 109 (v := .string S5) rfl rfl (by kernel_rfl) (by kernel_rfl) (by kernel_rfl) (fun _ _ _ h => h) (by kernel_rfl) ?hy46 (by exact hS_7) ?_
                      case hy46 => (intro w' hSw; go_simp; first | (rw [if_neg (by omega), HS5.out]) | (rw [HS5.out]))
                      simp only [Act.put, List.setIfInBounds_toArray, List.set_cons_zero, List.set_cons_succ]
                      refine takeS_on (i := 15) 110 (v := .string S6) rfl rfl (by kernel_rfl) (by kernel_rfl) (by kernel_rfl) (fun _ _ _ h => h) (by kernel_rfl) ?hy47 (by exact hS_7) ?_
                      case hy47 => (intro w' hSw; go_simp; first | (rw [if_neg (by omega), HS6.out]) | (rw [HS6.out]))
                      simp only [Act.put, List.setIfInBounds_toArray, List.set_cons_zero, List.set_cons_succ]
                      refine wpAnyH_ready (rs := [16]) (by kernel_rfl) (by simp) (AllReadyH.cons rfl (fun K hK => ?_) AllReadyH.nil)
                      refine step_append_to rfl (.tmp 95) (.tmp 110) rfl (w.heap.size + 1) (.slice ao T5.size cap) T5 (by simp [Act.eval]) (HO.out.gr (Gr.trans (Ch.alloc (Gr.refl wr) _) K7.out)).o S6 (by simp [Act.eval]) U4 HU4.out (by omega) (HO.out.gr (Gr.trans (Ch.alloc (Gr.refl wr) _) K7.out)).le ?_
                      intro ao8 cap8 w8 ow cw bl
                      have O8 := hid (HO.out.put (Gr.trans (Ch.alloc (Gr.refl wr) _) K7.out) ow cw)
                      have nF : ¬ Blk (.slice ao T5.size cap) wr.heap.size := fun e => by have := (HO.out.o.blk e).2; omega
                      have hS_8 : (fun w' => w'.cell? ⟨wr.heap.size, 1, none⟩ = some (.int .i64 a) ∧ w'.cell? ⟨wr.heap.size, 2, none⟩ = some (.int .i64 b) ∧ w'.cell? ⟨wr.heap.size, 3, none⟩ = some (.int .i64 d)) w8 := ⟨(cw.cell (Nat.lt_of_lt_of_le lF K7.out.size) nF).trans hS_7.1, (cw.cell (Nat.lt_of_lt_of_le lF K7.out.size) nF).trans hS_7.2.1, (cw.cell (Nat.lt_of_lt_of_le lF K7.out.size) nF).trans hS_7.2.2⟩
                      clear ow cw bl nF
                      refine hK.out _ _ (by exact hS_8) (fun _ => ?_)
                      change wpAnyH _ _ _ _ _ _ _ (Act.put _ (some 111) _) _
                      simp only [Act.put, List.setIfInBounds_toArray, List.set_cons_zero, List.set_cons_succ]
                      clear hK K
                      refine takeS_on (i := 17) 7 (v := ?v48) rfl rfl (by kernel_rfl) (by kernel_rfl) (by kernel_rfl) (fun _ _ _ h => h) (by kernel_rfl) ?hy48 (by exact hS_8) ?_
                      case hy48 => (intro w' hSw; go_simp; try (with_reducible rfl))
                      simp only [Act.put, List.setIfInBounds_toArray, List.set_cons_zero, List.set_cons_succ]
                      refine wpAnyH_done (by kernel_rfl) ?_ _
                      clear hS0 hS_5 hS_6 hS_8 hS_7
                      go_wp2_with fail
                      go_roundg (gk - 1)
                      case measure => omega
                      case rel => exact ⟨k + 1, by omega, by simp, by rw [HCX.out]; exact O8.out⟩
                · have kn : ¬ (k : Int) < (nq : Int) := by omega
                  have hkn : t.cs.take k = t.cs := by rw [show k = t.cs.length by rw [← HNQ.out]; omega]; exact List.take_length
                  rw [hkn, ← HTX.out] at HT5
                  clear hkn
                  go_wp2_with fail
                  go_roundg GK
                  case measure => have := HGK.out; have := HJ.out; omega
                  case rel => exact ⟨j + 1, by have := HGK.out; have := HJ.out; omega, by simp, by rw [← HT5.out]; exact HO.out⟩
          · have jn : ¬ (j : Int) < (nt : Int) := by omega
            have hjn : (ts.map tT).take j = ts.map tT := by rw [show j = (ts.map tT).length by rw [List.length_map, ← HNT.out]; omega]; exact List.take_length
            rw [hjn] at HT
            clear hjn HGK HJ HN HCF
            go_wp2_with fail
            clear hjk hj jn n2 lk
            go_loopg [7, 11] nf (fun m v i wq => ∃ (j x : Nat) (T' : ByteArray), j + m = nf ∧ i = .int .i64 ((j : Nat) : Int) ∧ pr (fs.drop j) (x : Int) = some (nc : Int) ∧ j ≤ x ∧ T' = gls T (ixl (dG cs) 0 (fs.take j)) ∧ T'.size ≤ 33817000 + 28 * j ∧ Ot w (.cells #[.slice aoc nc cac, .slice aof nf caf, .slice aot nt cat] 26 (0, 0)) wq v T')
            case atStart => exact ⟨0, 0, T, by omega, rfl, HPR.out, Nat.le_refl _, rfl, by omega, HO.out⟩
            case round =>
              clear HO
              obtain ⟨j, x, T1, hjk, rfl, hpr, hjx, hT1, hts, hot⟩ := hrel
              have HT1 := hid hT1
              have HO := hid hot
              obtain ⟨ao, cap, rfl⟩ := hot.form
              have lk := lt_of_block hot.b
              have n1 : wr.cell? ⟨w.heap.size, 1, none⟩ = some (.slice aof nf caf) := (cell_of hot.b 1).trans rfl
              obtain ⟨GK, hGK⟩ : ∃ n, n = gk - 1 := ⟨_, rfl⟩
              have HGK := hid hGK
              have HJ := hid hjk
              have HPR2 := hid hpr
              clear hot hGK hT1 hpr
              by_cases hj : j < nf
              · obtain ⟨⟨x1, x2⟩, hx⟩ : ∃ f, fs[j]? = some f := ⟨_, List.getElem?_eq_getElem (by rw [← HNF.out]; exact hj)⟩
                have HX1 := hid (ixl_take (dG cs) hx)
                have HM := hid (List.mem_of_getElem? hx)
                have hp1 := HPR2.out
                rw [pr_cons hx (x : Int)] at hp1
                split at hp1
                case isFalse => cases hp1
                case isTrue hq =>
                  obtain ⟨rfl, hq2⟩ := hq
                  simp only at hq2 hp1
                  have hle := pr_le _ _ _ hp1
                  obtain ⟨y, rfl⟩ : ∃ y : Nat, x2 = (y : Nat) := ⟨x2.toNat, by omega⟩
                  have HP1 := hid hp1
                  have hxy : x < y := by omega
                  have hyn : y ≤ nc := by omega
                  have HTG := hid (show ∀ k : Nat, x ≤ k → k < y → tg (wf cs ((x : Nat), (y : Nat))) k = tg cs k from fun k k1 k2 => by
                    have hp := HPR.out
                    rw [HNC.out] at hp
                    have e := wf_part fs 0 hp
                    rw [List.drop_zero] at e
                    have := tg_own fs 0 hp HTH.out _ HM.out k (by simp only; omega) (by simp only; omega)
                    rw [e] at this
                    exact this.symm)
                  obtain ⟨g, o, cap', hv, _, hgl, hcap, hcs⟩ := HIN.out.f.get eG_len hx
                  injection hv with hv1 hv2 hv3
                  subst hv1
                  have HT0 := hid (show ∀ W, Gr w W → W.cell? ⟨g, o + j * 2, none⟩ = some (.int .i64 (x : Nat)) from fun W k => (k.cell hgl).trans (hcs 0 _ rfl))
                  have HT1' := hid (show ∀ W, Gr w W → W.cell? ⟨g, o + j * 2 + 1, none⟩ = some (.int .i64 (y : Nat)) from fun W k => (k.cell hgl).trans (hcs 1 _ rfl))
                  have HLG := hid (show ∀ W, Gr w W → g < W.heap.size from fun W k => Nat.lt_of_lt_of_le hgl k.size)
                  have j0 : (0 : Int) ≤ (j : Int) := by omega
                  have j1 : (j : Int) < (nf : Int) := by omega
                  have HDC := hid (fun (W : World) => decimal_any (j : Nat) (by omega) (by omega) W)
                  have hdc := itB_size (j : Nat) (by omega) (by omega)
                  have HTB := hid (show dG cs j ((x : Nat), (y : Nat)) = [(false, [{ data := #[102, 117, 110, 99, 32, 102] } ++ itB (j : Nat)])] ++ (List.range' x (y - x)).map (fun a => (true, lbL cs a)) by
                    unfold dG
                    rw [cal2, ← fnf, show (((y : Nat) : Int) - ((x : Nat) : Int)).toNat = y - x by omega]
                    rfl)
                  obtain ⟨C, hC⟩ : ∃ s, s = itB (j : Nat) := ⟨_, rfl⟩
                  rw [← hC] at HDC hdc HTB
                  have sz1 : (({ data := #[102, 117, 110, 99, 32, 102] } : ByteArray) ++ C).size ≤ 27 := by rw [ByteArray.size_append]; have : ({ data := #[102, 117, 110, 99, 32, 102] } : ByteArray).size = 6 := rfl; omega
                  clear hv2 hv3 hcs hx hcap hgl hjk hp1 hle hq2 hC
                  obtain ⟨U1, hU1⟩ : ∃ k : ByteArray, k = (T1) ++ (({ data := #[102, 117, 110, 99, 32, 102] } ++ C) ++ { data := #[10] }) := ⟨_, rfl⟩
                  have bU1 : U1.size ≤ 33817000 + 28 * (j + 1) := by
                    rw [hU1]
                    simp only [ByteArray.size_append]
                    have e0 : nl.size = 1 := rfl
                    have e1 : ({ data := #[116, 97, 98, 108, 101, 32, 116] } : ByteArray).size = 7 := rfl
                    have e2 : ({ data := #[32, 100, 101, 102, 97, 117, 108, 116] } : ByteArray).size = 8 := rfl
                    have e3 : ({ data := #[102, 117, 110, 99, 32, 102] } : ByteArray).size = 6 := rfl
                    have e4 : ({ data := #[10] } : ByteArray).size = 1 := rfl
                    have e5 : ({ data := #[76] } : ByteArray).size = 1 := rfl
                    have e6 : ({ data := #[58, 10] } : ByteArray).size = 2 := rfl
                    have e7 : ({ data := #[115, 101, 110, 100, 32, 114] } : ByteArray).size = 6 := rfl
                    have e8 : ({ data := #[114, 101, 99, 118, 32, 114] } : ByteArray).size = 6 := rfl
                    have e9 : ({ data := #[32, 114] } : ByteArray).size = 2 := rfl
                    omega
                  have HU1 := hid hU1
                  clear hU1
                  have HUX := hid (show gls T (ixl (dG cs) 0 (fs.take (j + 1))) = gls U1 ((List.range' x (y - x)).map (fun a => (true, lbL cs a))) by
                    rw [HX1.out, HTB.out, gls_app, ← HT1.out, gls_app, HU1.out]
                    congr 1
                    show jl T1 [{ data := #[102, 117, 110, 99, 32, 102] } ++ C] = T1 ++ (({ data := #[102, 117, 110, 99, 32, 102] } ++ C) ++ { data := #[10] })
                    rw [jl_one, ba_assoc]
                    rfl)
                  go_wp2_with (first | (go_at_call 36; refine (HDC.out _).mono ?_; rintro e w1 ⟨rfl, g1⟩; have O1 := hid (HO.out.gr g1); clear g1) | (at_builtin; refine wpList_append_to rfl (.tmp 119) (.tmp 123) rfl (w.heap.size + 1) _ (T1) rfl O1.out.o (({ data := #[102, 117, 110, 99, 32, 102] } ++ C) ++ { data := #[10] }) rfl U1 HU1.out (by omega) O1.out.le ?_; intro ao2 cap2 w2 ow cw bl; have Ow2 := hid (O1.out.put (Gr.refl _) ow cw); have l2 := lt_of_block Ow2.out.b; have m2 : w2.cell? ⟨w.heap.size, 1, none⟩ = some (.slice (some ⟨g, o, none⟩) nf caf) := (cell_of Ow2.out.b 1).trans rfl; have d2 := HT0.out w2 Ow2.out.g; have lg2 := HLG.out w2 Ow2.out.g; clear ow cw bl))
                  clear l2 m2 d2 lg2 lk n1 HX1 HTB HU1 HDC hdc O1 HO HT1 sz1
                  go_loopg [7, 12] (y - x) (fun m v i wq => ∃ (a : Nat) (T' : ByteArray), a + m = y ∧ x ≤ a ∧ i = .int .i64 ((a : Nat) : Int) ∧ T' = gls U1 ((List.range' x (a - x)).map (fun a => (true, lbL cs a))) ∧ T'.size ≤ 33817000 + 28 * (j + 1) ∧ Ot w (.cells #[.slice aoc nc cac, .slice (some ⟨g, o, none⟩) nf caf, .slice aot nt cat] 26 (0, 0)) wq v T')
                  case atStart => exact ⟨x, U1, by omega, Nat.le_refl _, rfl, by rw [Nat.sub_self]; rfl, bU1, Ow2.out⟩
                  case round =>
                    clear Ow2
                    obtain ⟨a, T2, hak, hxa, rfl, hT2, hts2, hot⟩ := hrel
                    have HT2 := hid hT2
                    have HO := hid hot
                    obtain ⟨ao, cap, rfl⟩ := hot.form
                    have lk := lt_of_block hot.b
                    have n0 : wr.cell? ⟨w.heap.size, 0, none⟩ = some (.slice aoc nc cac) := (cell_of hot.b 0).trans rfl
                    have n1 : wr.cell? ⟨w.heap.size, 1, none⟩ = some (.slice (some ⟨g, o, none⟩) nf caf) := (cell_of hot.b 1).trans rfl
                    have n2 : wr.cell? ⟨w.heap.size, 2, none⟩ = some (.slice aot nt cat) := (cell_of hot.b 2).trans rfl
                    have t0 := HT0.out wr hot.g
                    have t1 := HT1'.out wr hot.g
                    have lg := HLG.out wr hot.g
                    clear hot hT2
                    by_cases ha : a < y
                    · have q2 : (a : Int) < (y : Int) := by omega
                      have d2 : decide ((a : Int) < (y : Int)) = true := decide_eq_true q2
                      by_cases hz : T2.size ≤ 262144
                      · have hz' : (T2.size : Int) ≤ 262144 := by omega
                        have dz : decide ((T2.size : Int) ≤ 262144) = true := decide_eq_true hz'
                        obtain ⟨n, hx⟩ : ∃ x, cs[a]? = some x := ⟨_, List.getElem?_eq_getElem (by rw [← HNC.out]; omega)⟩
                        obtain ⟨u0, u1⟩ := HU.out n (List.mem_of_getElem? hx)
                        have hsz := wT_size n u0 u1
                        have HLB := hid (show lbL cs a = (if tg cs a = true then [cal 1 (a : Nat) ++ { data := #[58] }] else []) ++ [wT n] by
                          unfold lbL
                          rw [hx]
                          rfl)
                        have HLT := hid (show lnT cs (a : Nat) = wT n by
                          unfold lnT
                          rw [if_pos (by omega), show ((a : Nat) : Int).toNat = a by omega, hx])
                        have HLI := hid (fun (W : World) (p : Gr w W) => HLN.out W p (a : Nat))
                        rw [HLT.out] at HLI
                        generalize lnE cs (a : Nat) = EE at HLI
                        obtain ⟨ST, hST⟩ : ∃ s, s = wT n := ⟨_, rfl⟩
                        rw [← hST] at HLI hsz HLB
                        have HGL := hid (fun (W : World) (p : Gr w W) => HGO.out W p HOK.out x y a (by omega) hyn)
                        rw [HTG.out a hxa ha] at HGL
                        have q0 : (0 : Int) ≤ (a : Int) := by omega
                        have q1 : (a : Int) < (nc : Int) := by omega
                        have HDA := hid (fun (W : World) => decimal_any (a : Nat) (by omega) (by omega) W)
                        have hda := itB_size (a : Nat) (by omega) (by omega)
                        rw [cal1] at HLB
                        obtain ⟨A, hA⟩ : ∃ s, s = itB (a : Nat) := ⟨_, rfl⟩
                        rw [← hA] at HDA hda HLB
                        have HST := hid (show gls U1 ((List.range' x (a + 1 - x)).map (fun a => (true, lbL cs a))) = jl T2 (lbL cs a) by
                          rw [wds hxa, gls_snoc, ← HT2.out]
                          show (if true = true ∧ 262144 < T2.size then T2 else jl T2 (lbL cs a)) = _
                          rw [if_neg (fun q => by omega)])
                        clear hx u0 u1 HLT hST hA
                        have hS0 : (fun w' => w'.cell? ⟨w.heap.size, 0, none⟩ = some (.slice aoc nc cac) ∧ w'.cell? ⟨w.heap.size, 1, none⟩ = some (.slice (some ⟨g, o, none⟩) nf caf) ∧ w'.cell? ⟨w.heap.size, 2, none⟩ = some (.slice aot nt cat) ∧ w'.cell? ⟨g, o + j * 2, none⟩ = some (.int .i64 (x : Nat)) ∧ w'.cell? ⟨g, o + j * 2 + 1, none⟩ = some (.int .i64 (y : Nat))) wr.drew := ⟨n0, n1, n2, t0, t1⟩
                        cases htg : tg cs a with
                          | false =>
                            rw [htg] at HGL HLB
                            obtain ⟨U3, hU3⟩ : ∃ k : ByteArray, k = (T2) ++ (ST ++ { data := #[10] }) := ⟨_, rfl⟩
                            have bU3 : U3.size ≤ 262400 := by
                              rw [hU3]
                              simp only [ByteArray.size_append]
                              have e0 : nl.size = 1 := rfl
                              have e1 : ({ data := #[116, 97, 98, 108, 101, 32, 116] } : ByteArray).size = 7 := rfl
                              have e2 : ({ data := #[32, 100, 101, 102, 97, 117, 108, 116] } : ByteArray).size = 8 := rfl
                              have e3 : ({ data := #[102, 117, 110, 99, 32, 102] } : ByteArray).size = 6 := rfl
                              have e4 : ({ data := #[10] } : ByteArray).size = 1 := rfl
                              have e5 : ({ data := #[76] } : ByteArray).size = 1 := rfl
                              have e6 : ({ data := #[58, 10] } : ByteArray).size = 2 := rfl
                              have e7 : ({ data := #[115, 101, 110, 100, 32, 114] } : ByteArray).size = 6 := rfl
                              have e8 : ({ data := #[114, 101, 99, 118, 32, 114] } : ByteArray).size = 6 := rfl
                              have e9 : ({ data := #[32, 114] } : ByteArray).size = 2 := rfl
                              omega
                            have HU3 := hid hU3
                            clear hU3
                            have HRX := hid (show gls U1 ((List.range' x (a + 1 - x)).map (fun a => (true, lbL cs a))) = U3 by
                              rw [HST.out, HLB.out, HU3.out]
                              show (T2 ++ ST) ++ nl = T2 ++ (ST ++ { data := #[10] })
                              skip
                              skip
                              simp only [ba_assoc]
                              rfl)
                            go_wp2_with fail
                            refine wp_region_held_drew (S := fun w' => w'.cell? ⟨w.heap.size, 0, none⟩ = some (.slice aoc nc cac) ∧ w'.cell? ⟨w.heap.size, 1, none⟩ = some (.slice (some ⟨g, o, none⟩) nf caf) ∧ w'.cell? ⟨w.heap.size, 2, none⟩ = some (.slice aot nt cat) ∧ w'.cell? ⟨g, o + j * 2, none⟩ = some (.int .i64 (x : Nat)) ∧ w'.cell? ⟨g, o + j * 2 + 1, none⟩ = some (.int .i64 (y : Nat))) (by kernel_rfl) (by exact hS0) (fun _ => ?_)
                            refine takeS_on (i := 0) 146 (v := ?v49) rfl rfl (by kernel_rfl) (by kernel_rfl) (by kernel_rfl) (fun _ _ _ h => h) (by kernel_rfl) ?hy49 (by exact hS0) ?_
                            case hy49 => (intro w' hSw; go_simp; first | done | (with_reducible rfl) | (rw [if_neg (by omega)]))
                            simp only [Act.put, List.setIfInBounds_toArray, List.set_cons_zero, List.set_cons_succ]
                            refine takeS_on (i := 1) 147 (v := ?v50) rfl rfl (by kernel_rfl) (by kernel_rfl) (by kernel_rfl) (fun _ _ _ h => h) (by kernel_rfl) ?hy50 (by exact hS0) ?_
                            case hy50 => (intro w' hSw; go_simp; first | done | (with_reducible rfl) | (rw [if_neg (by omega)]))
                            simp only [Act.put, List.setIfInBounds_toArray, List.set_cons_zero, List.set_cons_succ]
                            refine takeS_on (i := 2) 148 (v := ?v51) rfl rfl (by kernel_rfl) (by kernel_rfl) (by kernel_rfl) (fun _ _ _ h => h) (by kernel_rfl) ?hy51 (by exact hS0) ?_
                            case hy51 => (intro w' hSw; go_simp; first | done | (with_reducible rfl) | (rw [if_neg (by omega)]))
                            simp only [Act.put, List.setIfInBounds_toArray, List.set_cons_zero, List.set_cons_succ]
                            refine takeS_on (i := 3) 149 (v := ?v52) rfl rfl (by kernel_rfl) (by kernel_rfl) (by kernel_rfl) (fun _ _ _ h => h) (by kernel_rfl) ?hy52 (by exact hS0) ?_
                            case hy52 => (intro w' hSw; go_simp; first | done | (with_reducible rfl) | (rw [if_neg (by omega)]))
                            simp only [Act.put, List.setIfInBounds_toArray, List.set_cons_zero, List.set_cons_succ]
                            refine takeS_on (i := 4) 150 (v := ?v53) rfl rfl (by kernel_rfl) (by kernel_rfl) (by kernel_rfl) (fun _ _ _ h => h) (by kernel_rfl) ?hy53 (by exact hS0) ?_
                            case hy53 => (intro w' hSw; go_simp; first | done | (with_reducible rfl) | (rw [if_neg (by omega)]))
                            simp only [Act.put, List.setIfInBounds_toArray, List.set_cons_zero, List.set_cons_succ]
                            refine takeS_on (i := 5) 151 (v := ?v54) rfl rfl (by kernel_rfl) (by kernel_rfl) (by kernel_rfl) (fun _ _ _ h => h) (by kernel_rfl) ?hy54 (by exact hS0) ?_
                            case hy54 => (intro w' hSw; go_simp; first | done | (with_reducible rfl) | (rw [if_neg (by omega)]))
                            simp only [Act.put, List.setIfInBounds_toArray, List.set_cons_zero, List.set_cons_succ]
                            refine takeS_on (i := 6) 152 (v := ?v55) rfl rfl (by kernel_rfl) (by kernel_rfl) (by kernel_rfl) (fun _ _ _ h => h) (by kernel_rfl) ?hy55 (by exact hS0) ?_
                            case hy55 => (intro w' hSw; go_simp; first | done | (with_reducible rfl) | (rw [if_neg (by omega)]))
                            simp only [Act.put, List.setIfInBounds_toArray, List.set_cons_zero, List.set_cons_succ]
                            refine wpAnyH_ready (rs := [7]) (by kernel_rfl) (by simp) (AllReadyH.cons rfl (fun K hK => ?_) AllReadyH.nil)
                            go_simp
                            refine (HGL.out _ (Ch.drew HO.out.g)).mono ?_
                            rintro e w3 ⟨rfl, g3⟩
                            have O3 := hid (HO.out.gr (Gr.trans (Ch.drew (Gr.refl wr)) g3))
                            have hS_3 : (fun w' => w'.cell? ⟨w.heap.size, 0, none⟩ = some (.slice aoc nc cac) ∧ w'.cell? ⟨w.heap.size, 1, none⟩ = some (.slice (some ⟨g, o, none⟩) nf caf) ∧ w'.cell? ⟨w.heap.size, 2, none⟩ = some (.slice aot nt cat) ∧ w'.cell? ⟨g, o + j * 2, none⟩ = some (.int .i64 (x : Nat)) ∧ w'.cell? ⟨g, o + j * 2 + 1, none⟩ = some (.int .i64 (y : Nat))) w3 := ⟨(cell_of O3.out.b 0).trans rfl, (cell_of O3.out.b 1).trans rfl, (cell_of O3.out.b 2).trans rfl, HT0.out w3 O3.out.g, HT1'.out w3 O3.out.g⟩
                            clear g3
                            refine hK.out _ _ (by exact hS_3) (fun _ => ?_)
                            clear hK K
                            refine wpAnyH_done (by kernel_rfl) ?_ _
                            clear hS0
                            have hq3 := hS_3
                            clear hS_3 hq3
                            have b0 : w3.cell? ⟨w.heap.size, 0, none⟩ = some (.slice aoc nc cac) := (cell_of O3.out.b 0).trans rfl
                            have b1 : w3.cell? ⟨w.heap.size, 1, none⟩ = some (.slice (some ⟨g, o, none⟩) nf caf) := (cell_of O3.out.b 1).trans rfl
                            have b2 : w3.cell? ⟨w.heap.size, 2, none⟩ = some (.slice aot nt cat) := (cell_of O3.out.b 2).trans rfl
                            have lb := lt_of_block O3.out.b
                            go_wp2_with (first | (go_at_call 15; refine (HLI.out _ O3.out.g).mono ?_; rintro e w6 ⟨rfl, g6⟩; have O6 := hid (O3.out.gr g6); clear g6) | (at_builtin; refine wpList_append_to rfl (.tmp 166) (.tmp 168) rfl (w.heap.size + 1) _ (T2) rfl O6.out.o (ST ++ { data := #[10] }) rfl U3 HU3.out (by omega) O6.out.le ?_; intro ao7 cap7 w7 ow cw bl; have Ow7 := hid (O6.out.put (Gr.refl _) ow cw);  clear ow cw bl))
                            go_roundg (gk - 1)
                            case measure => omega
                            case rel => exact ⟨a + 1, U3, by omega, by omega, by simp, HRX.out.symm, by omega, Ow7.out⟩
                          | true =>
                            rw [htg] at HGL HLB
                            obtain ⟨U2, hU2⟩ : ∃ k : ByteArray, k = (T2) ++ (({ data := #[76] } ++ A) ++ { data := #[58, 10] }) := ⟨_, rfl⟩
                            have bU2 : U2.size ≤ 262200 := by
                              rw [hU2]
                              simp only [ByteArray.size_append]
                              have e0 : nl.size = 1 := rfl
                              have e1 : ({ data := #[116, 97, 98, 108, 101, 32, 116] } : ByteArray).size = 7 := rfl
                              have e2 : ({ data := #[32, 100, 101, 102, 97, 117, 108, 116] } : ByteArray).size = 8 := rfl
                              have e3 : ({ data := #[102, 117, 110, 99, 32, 102] } : ByteArray).size = 6 := rfl
                              have e4 : ({ data := #[10] } : ByteArray).size = 1 := rfl
                              have e5 : ({ data := #[76] } : ByteArray).size = 1 := rfl
                              have e6 : ({ data := #[58, 10] } : ByteArray).size = 2 := rfl
                              have e7 : ({ data := #[115, 101, 110, 100, 32, 114] } : ByteArray).size = 6 := rfl
                              have e8 : ({ data := #[114, 101, 99, 118, 32, 114] } : ByteArray).size = 6 := rfl
                              have e9 : ({ data := #[32, 114] } : ByteArray).size = 2 := rfl
                              omega
                            have HU2 := hid hU2
                            clear hU2
                            obtain ⟨U3, hU3⟩ : ∃ k : ByteArray, k = (U2) ++ (ST ++ { data := #[10] }) := ⟨_, rfl⟩
                            have bU3 : U3.size ≤ 262400 := by
                              rw [hU3]
                              simp only [ByteArray.size_append]
                              have e0 : nl.size = 1 := rfl
                              have e1 : ({ data := #[116, 97, 98, 108, 101, 32, 116] } : ByteArray).size = 7 := rfl
                              have e2 : ({ data := #[32, 100, 101, 102, 97, 117, 108, 116] } : ByteArray).size = 8 := rfl
                              have e3 : ({ data := #[102, 117, 110, 99, 32, 102] } : ByteArray).size = 6 := rfl
                              have e4 : ({ data := #[10] } : ByteArray).size = 1 := rfl
                              have e5 : ({ data := #[76] } : ByteArray).size = 1 := rfl
                              have e6 : ({ data := #[58, 10] } : ByteArray).size = 2 := rfl
                              have e7 : ({ data := #[115, 101, 110, 100, 32, 114] } : ByteArray).size = 6 := rfl
                              have e8 : ({ data := #[114, 101, 99, 118, 32, 114] } : ByteArray).size = 6 := rfl
                              have e9 : ({ data := #[32, 114] } : ByteArray).size = 2 := rfl
                              omega
                            have HU3 := hid hU3
                            clear hU3
                            have HRX := hid (show gls U1 ((List.range' x (a + 1 - x)).map (fun a => (true, lbL cs a))) = U3 by
                              rw [HST.out, HLB.out, HU3.out, HU2.out]
                              show (((T2 ++ (({ data := #[76] } ++ A) ++ { data := #[58] })) ++ nl) ++ ST) ++ nl = (T2 ++ (({ data := #[76] } ++ A) ++ { data := #[58, 10] })) ++ (ST ++ { data := #[10] })
                              have e : ({ data := #[58, 10] } : ByteArray) = { data := #[58] } ++ nl := rfl
                              rw [e]
                              simp only [ba_assoc]
                              rfl)
                            go_wp2_with fail
                            refine wp_region_held_drew (S := fun w' => w'.cell? ⟨w.heap.size, 0, none⟩ = some (.slice aoc nc cac) ∧ w'.cell? ⟨w.heap.size, 1, none⟩ = some (.slice (some ⟨g, o, none⟩) nf caf) ∧ w'.cell? ⟨w.heap.size, 2, none⟩ = some (.slice aot nt cat) ∧ w'.cell? ⟨g, o + j * 2, none⟩ = some (.int .i64 (x : Nat)) ∧ w'.cell? ⟨g, o + j * 2 + 1, none⟩ = some (.int .i64 (y : Nat))) (by kernel_rfl) (by exact hS0) (fun _ => ?_)
                            refine takeS_on (i := 0) 146 (v := ?v56) rfl rfl (by kernel_rfl) (by kernel_rfl) (by kernel_rfl) (fun _ _ _ h => h) (by kernel_rfl) ?hy56 (by exact hS0) ?_
                            case hy56 => (intro w' hSw; go_simp; first | done | (with_reducible rfl) | (rw [if_neg (by omega)]))
                            simp only [Act.put, List.setIfInBounds_toArray, List.set_cons_zero, List.set_cons_succ]
                            refine takeS_on (i := 1) 147 (v := ?v57) rfl rfl (by kernel_rfl) (by kernel_rfl) (by kernel_rfl) (fun _ _ _ h => h) (by kernel_rfl) ?hy57 (by exact hS0) ?_
                            case hy57 => (intro w' hSw; go_simp; first | done | (with_reducible rfl) | (rw [if_neg (by omega)]))
                            simp only [Act.put, List.setIfInBounds_toArray, List.set_cons_zero, List.set_cons_succ]
                            refine takeS_on (i := 2) 148 (v := ?v58) rfl rfl (by kernel_rfl) (by kernel_rfl) (by kernel_rfl) (fun _ _ _ h => h) (by kernel_rfl) ?hy58 (by exact hS0) ?_
                            case hy58 => (intro w' hSw; go_simp; first | done | (with_reducible rfl) | (rw [if_neg (by omega)]))
                            simp only [Act.put, List.setIfInBounds_toArray, List.set_cons_zero, List.set_cons_succ]
                            refine takeS_on (i := 3) 149 (v := ?v59) rfl rfl (by kernel_rfl) (by kernel_rfl) (by kernel_rfl) (fun _ _ _ h => h) (by kernel_rfl) ?hy59 (by exact hS0) ?_
                            case hy59 => (intro w' hSw; go_simp; first | done | (with_reducible rfl) | (rw [if_neg (by omega)]))
                            simp only [Act.put, List.setIfInBounds_toArray, List.set_cons_zero, List.set_cons_succ]
                            refine takeS_on (i := 4) 150 (v := ?v60) rfl rfl (by kernel_rfl) (by kernel_rfl) (by kernel_rfl) (fun _ _ _ h => h) (by kernel_rfl) ?hy60 (by exact hS0) ?_
                            case hy60 => (intro w' hSw; go_simp; first | done | (with_reducible rfl) | (rw [if_neg (by omega)]))
                            simp only [Act.put, List.setIfInBounds_toArray, List.set_cons_zero, List.set_cons_succ]
                            refine takeS_on (i := 5) 151 (v := ?v61) rfl rfl (by kernel_rfl) (by kernel_rfl) (by kernel_rfl) (fun _ _ _ h => h) (by kernel_rfl) ?hy61 (by exact hS0) ?_
                            case hy61 => (intro w' hSw; go_simp; first | done | (with_reducible rfl) | (rw [if_neg (by omega)]))
                            simp only [Act.put, List.setIfInBounds_toArray, List.set_cons_zero, List.set_cons_succ]
                            refine takeS_on (i := 6) 152 (v := ?v62) rfl rfl (by kernel_rfl) (by kernel_rfl) (by kernel_rfl) (fun _ _ _ h => h) (by kernel_rfl) ?hy62 (by exact hS0) ?_
                            case hy62 => (intro w' hSw; go_simp; first | done | (with_reducible rfl) | (rw [if_neg (by omega)]))
                            simp only [Act.put, List.setIfInBounds_toArray, List.set_cons_zero, List.set_cons_succ]
                            refine wpAnyH_ready (rs := [7]) (by kernel_rfl) (by simp) (AllReadyH.cons rfl (fun K hK => ?_) AllReadyH.nil)
                            go_simp
                            refine (HGL.out _ (Ch.drew HO.out.g)).mono ?_
                            rintro e w3 ⟨rfl, g3⟩
                            have O3 := hid (HO.out.gr (Gr.trans (Ch.drew (Gr.refl wr)) g3))
                            have hS_3 : (fun w' => w'.cell? ⟨w.heap.size, 0, none⟩ = some (.slice aoc nc cac) ∧ w'.cell? ⟨w.heap.size, 1, none⟩ = some (.slice (some ⟨g, o, none⟩) nf caf) ∧ w'.cell? ⟨w.heap.size, 2, none⟩ = some (.slice aot nt cat) ∧ w'.cell? ⟨g, o + j * 2, none⟩ = some (.int .i64 (x : Nat)) ∧ w'.cell? ⟨g, o + j * 2 + 1, none⟩ = some (.int .i64 (y : Nat))) w3 := ⟨(cell_of O3.out.b 0).trans rfl, (cell_of O3.out.b 1).trans rfl, (cell_of O3.out.b 2).trans rfl, HT0.out w3 O3.out.g, HT1'.out w3 O3.out.g⟩
                            clear g3
                            refine hK.out _ _ (by exact hS_3) (fun _ => ?_)
                            clear hK K
                            refine wpAnyH_done (by kernel_rfl) ?_ _
                            clear hS0
                            have hq3 := hS_3
                            clear hS_3 hq3
                            go_wp2_with (first | (go_at_call 36; refine (HDA.out _).mono ?_; rintro e w4 ⟨rfl, g4⟩; have O4 := hid (O3.out.gr g4); clear g4) | (at_builtin; refine wpList_append_to rfl (.tmp 154) (.tmp 158) rfl (w.heap.size + 1) _ (T2) rfl O4.out.o (({ data := #[76] } ++ A) ++ { data := #[58, 10] }) rfl U2 HU2.out (by omega) O4.out.le ?_; intro ao5 cap5 w5 ow cw bl; have Ow5 := hid (O4.out.put (Gr.refl _) ow cw); have b0 : w5.cell? ⟨w.heap.size, 0, none⟩ = some (.slice aoc nc cac) := (cell_of Ow5.out.b 0).trans rfl; have b1 : w5.cell? ⟨w.heap.size, 1, none⟩ = some (.slice (some ⟨g, o, none⟩) nf caf) := (cell_of Ow5.out.b 1).trans rfl; have b2 : w5.cell? ⟨w.heap.size, 2, none⟩ = some (.slice aot nt cat) := (cell_of Ow5.out.b 2).trans rfl; have lb := lt_of_block Ow5.out.b; clear ow cw bl) | (go_at_call 15; refine (HLI.out _ Ow5.out.g).mono ?_; rintro e w6 ⟨rfl, g6⟩; have O6 := hid (Ow5.out.gr g6); clear g6) | (at_builtin; refine wpList_append_to rfl (.tmp 166) (.tmp 168) rfl (w.heap.size + 1) _ (U2) rfl O6.out.o (ST ++ { data := #[10] }) rfl U3 HU3.out (by omega) O6.out.le ?_; intro ao7 cap7 w7 ow cw bl; have Ow7 := hid (O6.out.put (Gr.refl _) ow cw);  clear ow cw bl))
                            go_roundg (gk - 1)
                            case measure => omega
                            case rel => exact ⟨a + 1, U3, by omega, by omega, by simp, HRX.out.symm, by omega, Ow7.out⟩
                      · have hz' : ¬ (T2.size : Int) ≤ 262144 := by omega
                        have dz : decide ((T2.size : Int) ≤ 262144) = false := decide_eq_false hz'
                        have HEX := hid (show gls T (ixl (dG cs) 0 (fs.take (j + 1))) = T2 by
                          have e : List.range' x (y - x) = List.range' x (a - x) ++ List.range' a (y - a) := by
                            rw [show y - x = (a - x) + (y - a) by omega, ← List.range'_append_1, show x + (a - x) = a by omega]
                          rw [HUX.out, e, List.map_append, gls_app, ← HT2.out]
                          exact gl_stop (by omega) _ (fun g hg => by obtain ⟨_, _, rfl⟩ := List.mem_map.1 hg; rfl))
                        go_wp2_with fail
                        go_roundg GK
                        case measure => have := HGK.out; have := HJ.out; omega
                        case rel => exact ⟨j + 1, y, T2, by have := HGK.out; have := HJ.out; omega, by simp, HP1.out, by omega, HEX.out.symm, hts2, HO.out⟩
                    · have kn : ¬ (a : Int) < (y : Int) := by omega
                      have dn : decide ((a : Int) < (y : Int)) = false := decide_eq_false kn
                      have HEX := hid (show gls T (ixl (dG cs) 0 (fs.take (j + 1))) = T2 by
                        rw [HUX.out, HT2.out, show a = y by omega])
                      go_wp2_with fail
                      go_roundg GK
                      case measure => have := HGK.out; have := HJ.out; omega
                      case rel => exact ⟨j + 1, y, T2, by have := HGK.out; have := HJ.out; omega, by simp, HP1.out, by omega, HEX.out.symm, hts2, HO.out⟩
              · have jn : ¬ (j : Int) < (nf : Int) := by omega
                have hjn : fs.take j = fs := by rw [show j = fs.length by rw [← HNF.out]; omega]; exact List.take_length
                rw [hjn, HT.out] at HT1
                have HD1 := HDF.out
                rw [← HT1.out] at HD1
                have HD2 := hid HD1
                have hcv := conv_ow HO.out.o
                clear hjn HD1
                by_cases hz : 262144 < T1.size
                · have hF : 262144 < (full cs fs (ts.map tT)).size := by
                    rcases Nat.lt_or_ge 262144 (full cs fs (ts.map tT)).size with q | q
                    · exact q
                    · have := HD2.out.1 q
                      rw [← this]
                      exact hz
                  have he : E = 75 := by rw [HE.out, if_pos hF]
                  have hs : S = { data := #[] } := by rw [HS.out, if_pos hF]
                  have hz' : (262144 : Int) < (T1.size : Int) := by omega
                  subst he hs
                  clear hF
                  go_wp2
                  go_ret2
                  exact ⟨rfl, HO.out.g⟩
                · have hF : ¬ 262144 < (full cs fs (ts.map tT)).size := fun q => hz (HD2.out.2 q)
                  have he : E = 0 := by rw [HE.out, if_neg hF]
                  have hs : S = T1 := by rw [HS.out, if_neg hF]; exact (HD2.out.1 (by omega)).symm
                  have hz' : ¬ (262144 : Int) < (T1.size : Int) := by omega
                  subst he hs
                  clear hF
                  go_wp2
                  go_ret2
                  exact ⟨rfl, HO.out.g⟩
end Go.Proofs.YtbehlhnnfdkmaaaGreatDoor.Lt
