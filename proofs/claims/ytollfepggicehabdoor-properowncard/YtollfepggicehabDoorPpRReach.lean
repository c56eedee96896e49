/-
  What the document's rising and reach answer: of each word whether it can be come to. Conditions: the program may be; words are words.
-/
import Derived.Test.YtollfepggicehabDoorPpReach
namespace Go.Proofs.YtollfepggicehabDoor.Lt
open Go.RowKit Wd

set_option maxRecDepth 20000 in
theorem rising_any (P : Nat → Prop) (w : World) (ao : Option Addr) (n cap : Nat) (bs : List Bool) (h : Ls eB P w (.slice ao n cap) bs) (hn : n ≤ 4096) :
    Calls Tryd.prog 34 #[.slice ao n cap] w (NxR w (rz bs n)) := by
  have hl := h.len.1
  have HL := hid hl
  have HB := hid h
  clear hl h
  go_enter Tryd.func34, Tryd.ntmps34
  go_wp2_with fail
  go_loopg [3, 4] n (fun m o i wq => ∃ (j k c : Nat) (a : Option Addr), j + m = n ∧ i = .int .i64 ((j : Nat) : Int) ∧ o = .slice a k c ∧ Ow eI 1 3 w.heap.size wq (.slice a k c) (rz bs j) ∧ Gr w wq)
  case atStart => exact ⟨0, 0, 0, none, by omega, rfl, rfl, Ow.nil _ _ _ _ _, Gr.refl w⟩
  case round =>
    obtain ⟨j, k, c, a, hjm, rfl, rfl, hO, hG⟩ := hrel
    have HO := hid hO
    have HG := hid hG
    have hk := hO.len.1
    have hkj : k ≤ j := by rw [hk]; exact rz_len bs j
    clear hO hG hk
    by_cases hj : j < n
    · obtain ⟨b, hb⟩ : ∃ b, bs[j]? = some b := ⟨_, List.getElem?_eq_getElem (by rw [← HL.out]; exact hj)⟩
      obtain ⟨g, o, cap', hv, _, hgl, _, hcs⟩ := HB.out.get eB_len hb
      injection hv with hv1 hv2 hv3
      subst hv1
      have c0 := (HG.out.cell hgl).trans (hcs 0 _ rfl)
      rw [Nat.mul_one, Nat.add_zero] at c0
      have lg : g < wr.heap.size := Nat.lt_of_lt_of_le hgl HG.out.size
      have j0 : (0 : Int) ≤ (j : Int) := by omega
      have j1 : (j : Int) < (n : Int) := by omega
      have HZ := hid (rz_succ bs j)
      rw [hb] at HZ
      simp only [Option.getD_some] at HZ
      have HS := hid (show w.heap.size ≤ wr.heap.size from HG.out.size)
      have HKL := hid (show k = (rz bs j).length from HO.out.len.1)
      clear hcs hv2 hv3 hb hgl
      cases b with
      | false =>
        have HZ' := hid (show rz bs (j + 1) = rz bs j by rw [HZ.out]; simp)
        go_wp2
        go_roundg (gk - 1)
        case measure => omega
        case rel => exact ⟨j + 1, k, c, a, by omega, by simp, rfl, by rw [HZ'.out]; exact HO.out, HG.out⟩
      | true =>
        have HZ' := hid (show rz bs (j + 1) = rz bs j ++ [(j : Int)] by rw [HZ.out]; simp)
        generalize rz bs j = zs at HO HZ' HKL
        go_wp2_with (at_builtin; refine wpList_append_ow eI_len rfl (.tmp 15) (.tmp 17) _ 3 8 _ Tryd.underlying32 int_info rfl (by omega) rfl w.heap.size _ zs rfl (HO.out.alloc _) _ _ [(j : Int)] rfl (ls_int _ _ _ (by simp)) (eI_one _) (k + 1) (by rw [HKL.out]; rfl) (by omega) (by unfold maxLen; omega) (by simp; have := HS.out; omega) (zs ++ [(j : Int)]) rfl ?_; intro ao5 cap5 w5 ow5 cw5 bl5; have O5 := hid ow5; have G5 := hid (show Gr w w5 from Ch.trans (Ch.alloc HG.out _) cw5 (fun q h => .inr (HO.out.blk h).1)); clear ow5 cw5 bl5)
        clear c0
        go_roundg (gk - 1)
        case measure => omega
        case rel => exact ⟨j + 1, k + 1, cap5, ao5, by omega, by simp, rfl, by rw [HZ'.out]; exact O5.out, G5.out⟩
    · have jn : ¬ (j : Int) < (n : Int) := by omega
      have hje : j = n := by omega
      subst hje
      go_wp2
      go_ret
      exact ⟨_, rfl, HO.out, HG.out⟩
/-- truths that tell a rising list -/
def BxR (w : World) (N : Nat) (xs : List Int) (e : Ending) (w' : World) : Prop := ∃ v bs, e = .returned v ∧ Ow eB 1 4 w.heap.size w' v bs ∧ bs.length = N ∧ rz bs N = xs ∧ (∀ x, bt bs x ↔ x ∈ xs) ∧ Gr w w'
/-- truths on the way: the first is among them, all can be come to -/
structure Rb (N : Nat) (wy : Int → List Int) (a : Int) (bs : List Bool) : Prop where
  len : bs.length = N
  me : bt bs a
  rc : ∀ x, bt bs x → Rc wy a x
theorem Rb.start {N a : Nat} {wy : Int → List Int} (ha : a < N) : Rb N wy (a : Int) ((List.replicate N false).set a true) := by
  refine ⟨by simp, (bt_set _ _ (by simpa using ha) _).2 (.inl rfl), fun x hx => ?_⟩
  rcases (bt_set _ _ (by simpa using ha) _).1 hx with q | q
  · rw [q]; exact Rc.self _ _
  · exact absurd q (bt_rep _ _)
theorem Rb.set {N : Nat} {wy : Int → List Int} {a : Int} {bs : List Bool} (h : Rb N wy a bs) {u : Nat} (hu : u < N) (hr : Rc wy a (u : Int)) : Rb N wy a (bs.set u true) := by
  have hb : u < bs.length := by rw [h.len]; exact hu
  refine ⟨by rw [List.length_set]; exact h.len, (bt_set _ _ hb _).2 (.inr h.me), fun x hx => ?_⟩
  rcases (bt_set _ _ hb _).1 hx with q | q
  · rw [q]; exact hr
  · exact h.rc x q
/-- a round's state: nothing moved yet, then all is as it was and closed so far; or something did, and fewer are false -/
def Rd (wy : Int → List Int) (bs0 bs : List Bool) (i : Int) (moved : Bool) : Prop := (moved = false ∧ bs = bs0 ∧ ∀ x, x < i → bt bs x → ∀ y, y ∈ wy x → bt bs y) ∨ (moved = true ∧ fz bs < fz bs0)
theorem Rd.step {wy : Int → List Int} {bs0 bs : List Bool} {i : Int} {mv : Bool} (h : Rd wy bs0 bs i mv) (hn : mv = false → bt bs i → ∀ y, y ∈ wy i → bt bs y) : Rd wy bs0 bs (i + 1) mv := by
  rcases h with ⟨h1, h2, h3⟩ | h
  · refine .inl ⟨h1, h2, fun x hx hb => ?_⟩
    by_cases e : x = i
    · subst e; exact hn h1 hb
    · exact h3 x (by omega) hb
  · exact .inr h
set_option maxHeartbeats 4000000 in
set_option maxRecDepth 20000 in
theorem rreach_any (P : Nat → Prop) (w : World) (aoc aof aot : Option Addr) (nc nf nt cac caf cat : Nat) (cs : List Int) (fs : List (Int × Int)) (h : Ls eU P w (.slice aoc nc cac) cs) (hf : Ls eG P w (.slice aof nf caf) fs) (hu : U32s cs) (hm : May cs fs nt) (rch : Nat → List Int) (hr : Rcs cs fs rch) (f : Nat) (hfl : f < nf) :
    Calls Tryd.prog 36 #[.agg #[.slice aoc nc cac, .slice aof nf caf, .slice aot nt cat], .int .i64 (f : Nat)] w (BxR w nc (rch f)) := by
  obtain ⟨⟨fb, fe⟩, hff⟩ : ∃ x, fs[f]? = some x := ⟨_, List.getElem?_eq_getElem (by rw [← hf.len.1]; exact hfl)⟩
  have hi := hm.p.i _ (List.mem_of_getElem? hff)
  simp only at hi
  obtain ⟨b, rfl⟩ : ∃ b : Nat, fb = (b : Int) := ⟨fb.toNat, by omega⟩
  obtain ⟨e, rfl⟩ : ∃ e : Nat, fe = (e : Int) := ⟨fe.toNat, by omega⟩
  have hnc := h.len.1
  have hrf := hr f
  rw [hff] at hrf
  simp only [Option.getD_some] at hrf
  have hnc4 : nc ≤ 4096 := by rw [hnc]; exact hm.nc
  have hbe : b < e := by omega
  have hec : e ≤ nc := by omega
  have HRL := hid (show Rl nc (wN cs) (b : Int) (rch f) by rw [hnc]; exact hrf)
  have HIN := hid (fun (x : Int) (q : Rc (wN cs) (b : Int) x) => hm.rc hff q)
  simp only at HIN
  have HNX := hid (fun (x : Nat) (hx : x < nc) (W : World) (p : Gr w W) => show Calls Tryd.prog 55 #[.agg #[.slice aoc nc cac, .slice aof nf caf, .slice aot nt cat], .int .i64 (x : Nat)] W (NxR W (wN cs (x : Int))) from by
    obtain ⟨n, hn⟩ : ∃ n, cs[x]? = some n := ⟨_, List.getElem?_eq_getElem (by rw [← hnc]; exact hx)⟩
    rw [wN_at hn]
    exact rnext_any P W aoc aof aot nc nf nt cac caf cat cs (h.gr p) hu hnc4 x n hn)
  have HWI := hid (show WyIn nc (wN cs) by rw [hnc]; exact wN_in hm)
  have HWL := hid (fun x => wN_len cs x)
  obtain ⟨g, o, cap', hv, _, hgl, _, hcs⟩ := hf.get eG_len hff
  injection hv with hv1 hv2 hv3
  subst hv1
  have HT0 := hid (show ∀ W, Gr w W → W.cell? ⟨g, o + f * 2, none⟩ = some (.int .i64 (b : Nat)) from fun W k => (k.cell hgl).trans (by have := hcs 0 _ rfl; rw [Nat.add_zero] at this; exact this))
  have HT1 := hid (show ∀ W, Gr w W → W.cell? ⟨g, o + f * 2 + 1, none⟩ = some (.int .i64 (e : Nat)) from fun W k => (k.cell hgl).trans (hcs 1 _ rfl))
  have HLF := hid (show ∀ W, Gr w W → g < W.heap.size from fun W k => Nat.lt_of_lt_of_le hgl k.size)
  have q0 : (0 : Int) ≤ (f : Int) := by omega
  have q1 : (f : Int) < (nf : Int) := by omega
  have b0 : (0 : Int) ≤ (b : Int) := by omega
  have b1 : (b : Int) < (nc : Int) := by omega
  generalize rch f = L at HRL ⊢
  generalize wN cs = wy at HRL HIN HNX HWI HWL
  have HB0 := hid (show (List.replicate nc false)[b]? = some false by rw [List.getElem?_replicate, if_pos (by omega)])
  have HS := hid (Rb.start (wy := wy) (show b < nc by omega))
  have K1 := hid (Gr.alloc (Gr.refl w) #[.slice aoc nc cac, .slice (some ⟨g, o, none⟩) nf caf, .slice aot nt cat] 26)
  have B1 := hid (MapKept.heap_alloc w (.cells #[.slice aoc nc cac, .slice (some ⟨g, o, none⟩) nf caf, .slice aot nt cat] 26)).1
  clear h hf hu hm hr hrf hff hcs hv2 hv3 hi hnc hgl
  go_enter Tryd.func36, Tryd.ntmps36
  go_wp2_with (at_make; refine wpList_make_bools rfl _ _ rfl nc _ _ rfl rfl hnc4 ?_; intro w1 o9 g1; have o1 : Ow eB 1 4 (w.heap.size + 1) w1 (.slice (some ⟨w.heap.size + 1, 0, none⟩) nc nc) (List.replicate nc false) := (by simpa using o9); obtain ⟨c1, z1, l1, s1⟩ := o1.bit HB0.out; clear o9; have S1 := hid (s1 true); have G1 := hid (Gr.trans K1.out g1); obtain ⟨p0, p1, p2, pl⟩ := p_cells (gr_blk B1.out g1); have PB := hid (gr_blk B1.out g1); have t0 := HT0.out _ G1.out; have t1 := HT1.out _ G1.out; have lf := HLF.out _ G1.out; clear o1 g1 s1)
  have M0 := hid (show Ow eB 1 4 (w.heap.size + 1) (w1.setCell ⟨w.heap.size + 1, b, none⟩ (.bool true)) (.slice (some ⟨w.heap.size + 1, 0, none⟩) nc nc) ((List.replicate nc false).set b true) from S1.out)
  have G0 := hid (show Gr w (w1.setCell ⟨w.heap.size + 1, b, none⟩ (.bool true)) from Ch.fresh G1.out (by omega) b (.bool true))
  have P0 := hid (show (w1.setCell ⟨w.heap.size + 1, b, none⟩ (.bool true)).heap[w.heap.size]? = some (.cells #[.slice aoc nc cac, .slice (some ⟨g, o, none⟩) nf caf, .slice aot nt cat] 26 (0, 0)) from (((Ch.refl (Only (w.heap.size + 1)) w1).own b (.bool true)).block w.heap.size (lt_of_block PB.out) (fun q => by have q1 : w.heap.size = w.heap.size + 1 := q; omega)).trans PB.out)
  clear c1 z1 l1 S1 G1 p0 p1 p2 pl PB t0 t1 lf
  go_loopg [6] (nc + 1) (fun m mv wq => ∃ (mb : Bool) (bs : List Bool), mv = .bool mb ∧ Ow eB 1 4 (w.heap.size + 1) wq (.slice (some ⟨w.heap.size + 1, 0, none⟩) nc nc) bs ∧ Rb nc wy (b : Int) bs ∧ (mb = true → fz bs + 1 ≤ m) ∧ (mb = false → ∀ x, bt bs x → ∀ y, y ∈ wy x → bt bs y) ∧ wq.heap[w.heap.size]? = some (.cells #[.slice aoc nc cac, .slice (some ⟨g, o, none⟩) nf caf, .slice aot nt cat] 26 (0, 0)) ∧ Gr w wq)
  case atStart => exact ⟨true, _, rfl, M0.out, HS.out, fun _ => by have := fz_le ((List.replicate nc false).set b true); simp at this; omega, (fun q => by cases q), P0.out, G0.out⟩
  case round =>
    obtain ⟨mb, bs, rfl, hO, hR, hmt, hmf, hP, hG⟩ := hrel
    have HO := hid hO
    have HRb := hid hR
    have HP := hid hP
    have HG := hid hG
    obtain ⟨p0, p1, p2, pl⟩ := p_cells hP
    have t0 := HT0.out _ hG
    have lf := HLF.out _ hG
    clear hO hR hP hG
    cases mb with
    | false =>
      have HCL := hid (hmf rfl)
      clear hmt hmf
      go_wp2
      go_ret
      obtain ⟨e1, e2⟩ := HRL.out.bits HRb.out.len HRb.out.me HCL.out HRb.out.rc
      exact ⟨_, bs, rfl, HO.out.lower (by omega), HRb.out.len, e1, e2, HG.out⟩
    | true =>
      have hmo := hmt rfl
      clear hmt hmf
      go_wp2_with fail
      clear p0 p1 p2 pl t0 lf
      rename World => V0
      go_loopg [6, 7] (e - b) (fun m mv i wq => ∃ (k : Nat) (mb : Bool) (bs2 : List Bool), k + m = e ∧ b ≤ k ∧ i = .int .i64 ((k : Nat) : Int) ∧ mv = .bool mb ∧ Ow eB 1 4 (w.heap.size + 1) wq (.slice (some ⟨w.heap.size + 1, 0, none⟩) nc nc) bs2 ∧ Rb nc wy (b : Int) bs2 ∧ Rd wy bs bs2 (k : Int) mb ∧ wq.heap[w.heap.size]? = some (.cells #[.slice aoc nc cac, .slice (some ⟨g, o, none⟩) nf caf, .slice aot nt cat] 26 (0, 0)) ∧ Gr w wq)
      case atStart => exact ⟨b, false, bs, by omega, Nat.le_refl _, rfl, rfl, HO.out, HRb.out, .inl ⟨rfl, rfl, fun x hx hb => by have := (HIN.out x (HRb.out.rc x hb)).1; omega⟩, HP.out, HG.out⟩
      case round =>
        obtain ⟨k, mb, bs2, hkm, hbk, rfl, rfl, hO, hR, hD, hP, hG⟩ := hrel
        have HO2 := hid hO
        have HRb2 := hid hR
        have HD2 := hid hD
        have HP2 := hid hP
        have HG2 := hid hG
        obtain ⟨p0, p1, p2, pl⟩ := p_cells hP
        have t1 := HT1.out _ hG
        have lf := HLF.out _ hG
        clear hO hR hD hP hG
        by_cases hk : k < e
        · have k0 : (0 : Int) ≤ (k : Int) := by omega
          have k1 : (k : Int) < (nc : Int) := by omega
          have k2 : (k : Int) < (e : Int) := by omega
          have hknc : k < nc := by omega
          obtain ⟨bk, hbk2⟩ : ∃ x, bs2[k]? = some x := ⟨_, List.getElem?_eq_getElem (by rw [HRb2.out.len]; exact hknc)⟩
          obtain ⟨cb, _, lb, _⟩ := HO2.out.bit hbk2
          cases bk with
          | false =>
            have HD3 := hid (HD2.out.step (fun _ q => by rw [bt_nat, hbk2] at q; cases q))
            clear hbk2
            go_wp2
            go_roundg (e - (k + 1))
            case measure => omega
            case rel => exact ⟨k + 1, mb, bs2, by omega, by omega, by simp, rfl, HO2.out, HRb2.out, by simpa using HD3.out, HP2.out, HG2.out⟩
          | true =>
            have HBK := hid ((bt_nat bs2 k).2 hbk2)
            have HX := hid (fun (W : World) (p : Gr w W) => HNX.out k hknc W p)
            have HWk := hid (fun (y : Int) (q : y ∈ wy (k : Int)) => HWI.out k hknc y q)
            have hwl := HWL.out (k : Int)
            have HRk := hid (show ∀ y, y ∈ wy (k : Int) → Rc wy (b : Int) y from fun y q => (HRb2.out.rc _ HBK.out).next q)
            have HST := hid (fun (bs3 : List Bool) (mb3 : Bool) (q : Rd wy bs bs3 (k : Int) mb3) (r : mb3 = false → ∀ y, y ∈ wy (k : Int) → bt bs3 y) => q.step (fun h _ y hy => r h y hy))
            generalize wy (k : Int) = ws at HX HWk hwl HRk HST
            clear hbk2
            go_wp2_with (go_at_call 55; refine (HX.out _ HG2.out).mono ?_; rintro e w2 ⟨v2, rfl, o2, g2⟩; obtain ⟨ao2, cap2, hv2⟩ := o2.form; subst hv2; have O3 := hid (o2.lower (show w.heap.size + 2 ≤ _ from lb)); have G3 := hid (Gr.trans HG2.out g2); have M3 := hid (HO2.out.gr g2); have P3 := hid (gr_blk HP2.out g2); clear o2 g2)
            obtain ⟨n2, hn2⟩ : ∃ k, k = ws.length := ⟨_, rfl⟩
            have HN2 := hid hn2
            rw [← hn2] at O3 hwl
            first | rw [← hn2] | skip
            clear cb lb p0 p1 p2 pl t1 lf hn2
            rename World => V1
            go_loopg [6, 9] n2 (fun m mv i wq => ∃ (l : Nat) (mb : Bool) (bs3 : List Bool), l + m = n2 ∧ i = .int .i64 ((l : Nat) : Int) ∧ mv = .bool mb ∧ Ow eB 1 4 (w.heap.size + 1) wq (.slice (some ⟨w.heap.size + 1, 0, none⟩) nc nc) bs3 ∧ Rb nc wy (b : Int) bs3 ∧ Rd wy bs bs3 (k : Int) mb ∧ (mb = false → ∀ j z, j < l → ws[j]? = some z → bt bs3 z) ∧ Ow eI 1 3 (w.heap.size + 2) wq (.slice ao2 n2 cap2) ws ∧ wq.heap[w.heap.size]? = some (.cells #[.slice aoc nc cac, .slice (some ⟨g, o, none⟩) nf caf, .slice aot nt cat] 26 (0, 0)) ∧ Gr w wq)
            case atStart => exact ⟨0, mb, bs2, by omega, rfl, rfl, M3.out, HRb2.out, HD2.out, fun _ j z q => by omega, O3.out, P3.out, G3.out⟩
            case round =>
              obtain ⟨l, mb3, bs3, hlm, rfl, rfl, hO, hR, hD, hA, hL, hP, hG⟩ := hrel
              have HO4 := hid hO
              have HRb4 := hid hR
              have HD4 := hid hD
              have HA4 := hid hA
              have HL4 := hid hL
              have HP4 := hid hP
              have HG4 := hid hG
              clear hO hR hD hA hL hP hG
              by_cases hl : l < n2
              · obtain ⟨z, hz⟩ : ∃ z, ws[l]? = some z := ⟨_, List.getElem?_eq_getElem (by rw [← HN2.out]; exact hl)⟩
                have hzm := List.mem_of_getElem? hz
                obtain ⟨hz0, hz1⟩ := HWk.out z hzm
                obtain ⟨u, rfl⟩ : ∃ u : Nat, z = (u : Int) := ⟨z.toNat, by omega⟩
                have huN : u < nc := by omega
                obtain ⟨bu, hbu⟩ : ∃ x, bs3[u]? = some x := ⟨_, List.getElem?_eq_getElem (by rw [HRb4.out.len]; exact huN)⟩
                obtain ⟨g3, cap4, hv, _, hgl3, _, hcs, _, _⟩ := HL4.out.get eI_len hz
                injection hv with hv1 hv2 hv3
                subst hv1
                have c0 := hcs 0 _ rfl
                rw [Nat.mul_one, Nat.add_zero] at c0
                obtain ⟨cb, zb, lb, sb⟩ := HO4.out.bit hbu
                have MS := hid (sb true)
                have l0 : (0 : Int) ≤ (l : Int) := by omega
                have l1 : (l : Int) < (n2 : Int) := by omega
                have HRS := hid (HRb4.out.set huN (HRk.out _ hzm))
                have HAL := hid (show mb3 = false → (bs3[u]? = some true) → ∀ j z, j < l + 1 → ws[j]? = some z → bt bs3 z from fun h1 h2 j z q1 q2 => by
                  by_cases q : j = l
                  · subst q
                    rw [hz] at q2
                    injection q2 with q2
                    subst q2
                    exact (bt_nat _ _).2 h2
                  · exact HA4.out h1 j z (by omega) q2)
                have GS := hid (show Gr w (wr.setCell ⟨w.heap.size + 1, u, none⟩ (.bool true)) from Ch.fresh HG4.out (by omega) u (.bool true))
                have LS := hid (show Ow eI 1 3 (w.heap.size + 2) (wr.setCell ⟨w.heap.size + 1, u, none⟩ (.bool true)) (.slice (some ⟨g3, 0, none⟩) n2 cap2) ws from HL4.out.ch ((Ch.refl (Only (w.heap.size + 1)) wr).own u (.bool true)) (fun q hq e => by have e1 : q = w.heap.size + 1 := e; have := (HL4.out.blk hq).1; omega))
                have PS := hid (show (wr.setCell ⟨w.heap.size + 1, u, none⟩ (.bool true)).heap[w.heap.size]? = some (.cells #[.slice aoc nc cac, .slice (some ⟨g, o, none⟩) nf caf, .slice aot nt cat] 26 (0, 0)) from (((Ch.refl (Only (w.heap.size + 1)) wr).own u (.bool true)).block w.heap.size (lt_of_block HP4.out) (fun q => by have q1 : w.heap.size = w.heap.size + 1 := q; omega)).trans HP4.out)
                have HB3 := hid hbu
                clear hcs hv2 hv3 hz sb hgl3 hbu
                cases mb3 with
                | true =>
                  have HD5 := hid (show Rd wy bs (bs3.set u true) (k : Int) true from .inr ⟨rfl, by
                    rcases HD4.out with ⟨h1, _⟩ | ⟨_, h2⟩
                    · cases h1
                    · cases bu with
                      | true => rw [fz_same _ _ HB3.out]; exact h2
                      | false => have := fz_set _ _ HB3.out; omega⟩)
                  go_wp2
                  clear c0 cb zb lb
                  go_roundg (gk - 1)
                  case measure => omega
                  case rel => exact ⟨l + 1, true, bs3.set u true, by omega, by simp, rfl, MS.out, HRS.out, HD5.out, (fun q => by cases q), LS.out, PS.out, GS.out⟩
                | false =>
                  cases bu with
                  | true =>
                    have e5 := fz_same _ _ HB3.out
                    rw [e5] at MS HRS
                    have HAL5 := hid (HAL.out rfl HB3.out)
                    clear e5
                    go_wp2
                    clear c0 cb zb lb
                    go_roundg (gk - 1)
                    case measure => omega
                    case rel => exact ⟨l + 1, false, bs3, by omega, by simp, rfl, MS.out, HRS.out, HD4.out, fun _ => HAL5.out, LS.out, PS.out, GS.out⟩
                  | false =>
                    have HD5 := hid (show Rd wy bs (bs3.set u true) (k : Int) true from .inr ⟨rfl, by
                      rcases HD4.out with ⟨_, h1, _⟩ | ⟨h2, _⟩
                      · have := fz_set _ _ HB3.out; rw [h1] at this ⊢; omega
                      · cases h2⟩)
                    go_wp2
                    clear c0 cb zb lb
                    go_roundg (gk - 1)
                    case measure => omega
                    case rel => exact ⟨l + 1, true, bs3.set u true, by omega, by simp, rfl, MS.out, HRS.out, HD5.out, (fun q => by cases q), LS.out, PS.out, GS.out⟩
              · have ln : ¬ (l : Int) < (n2 : Int) := by omega
                have HD6 := hid (HST.out bs3 mb3 HD4.out (fun h1 y hy => by
                  obtain ⟨j, hj⟩ := List.mem_iff_getElem?.1 hy
                  exact HA4.out h1 j y (by have := (List.getElem?_eq_some_iff.1 hj).1; have := HN2.out; omega) hj))
                go_wp2
                go_roundg (e - (k + 1))
                case measure => omega
                case rel => exact ⟨k + 1, mb3, bs3, by omega, by omega, by simp, rfl, HO4.out, HRb4.out, by simpa using HD6.out, HP4.out, HG4.out⟩
        · have kn : ¬ (k : Int) < (e : Int) := by omega
          go_wp2
          go_roundg (fz bs)
          case measure => omega
          case rel =>
            refine ⟨mb, bs2, rfl, HO2.out, HRb2.out, fun q => ?_, fun q x hx y hy => ?_, HP2.out, HG2.out⟩
            · rcases HD2.out with ⟨h1, _⟩ | ⟨_, h2⟩
              · rw [h1] at q; cases q
              · omega
            · rcases HD2.out with ⟨_, _, h3⟩ | ⟨h1, _⟩
              · exact h3 x (by have := (HIN.out x (HRb2.out.rc x hx)).2; omega) hx y hy
              · rw [h1] at q; cases q
end Go.Proofs.YtollfepggicehabDoor.Lt
