/-
  What the document's calls and Calls answer. Conditions: the program may be; words are words.
-/
import Derived.Test.YtollfepggicehabDoorPpRNamed
namespace Go.Proofs.YtollfepggicehabDoor.Lt
open Go.RowKit Wd

theorem set_same {bs : List Bool} {i : Nat} {b : Bool} (h : bs[i]? = some b) : bs.set i b = bs := by
  refine List.ext_getElem? fun j => ?_
  rw [List.getElem?_set]
  split
  · rename_i e; subst e; rw [h]; simp [(List.getElem?_eq_some_iff.1 h).1]
  · rfl
set_option maxHeartbeats 8000000 in
set_option maxRecDepth 20000 in
theorem rcalls_any (P : Nat → Prop) (w : World) (aoc aof aot : Option Addr) (nc nf nt cac caf cat : Nat) (cs : List Int) (fs : List (Int × Int)) (h : Ls eU P w (.slice aoc nc cac) cs) (hf : Ls eG P w (.slice aof nf caf) fs) (hu : U32s cs) (hm : May cs fs nt) (rch : Nat → List Int) (hr : Rcs cs fs rch) (sp : Bool) (cls : Nat → List Int) (hcl : Cls cs fs rch sp cls) (f : Nat) (hfl : f < nf) :
    Calls Tryd.prog 35 #[.agg #[.slice aoc nc cac, .slice aof nf caf, .slice aot nt cat], .int .i64 (f : Nat), .bool sp] w (BxR w nf (cls f)) := by
  have HN := hid (fun (i : Nat) (hi : i < nf) (W : World) (p : Gr w W) => show Calls Tryd.prog 54 #[.agg #[.slice aoc nc cac, .slice aof nf caf, .slice aot nt cat], .int .i64 (i : Nat), .bool sp] W (BmR W nf (wF2 cs rch sp (i : Int))) from by
    have := rnamed_any P W aoc aof aot nc nf nt cac caf cat cs fs (h.gr p) (hf.gr p) hu hm rch hr i hi sp
    unfold wF2
    rw [Int.toNat_natCast]
    exact this)
  have hnf := hf.len.1
  have hfn : nf ≤ 4096 := by rw [hnf]; have := hm.nf; omega
  have HRL := hid (show Rl nf (wF2 cs rch sp) (f : Int) (cls f) by rw [hnf]; exact hcl f)
  generalize cls f = L at HRL ⊢
  generalize wF2 cs rch sp = wy at HN HRL
  have HB0 := hid (show (List.replicate nf false)[f]? = some false by rw [List.getElem?_replicate, if_pos hfl])
  have HS := hid (Rb.start (wy := wy) hfl)
  have K1 := hid (Gr.alloc (Gr.refl w) #[.slice aoc nc cac, .slice aof nf caf, .slice aot nt cat] 26)
  have B1 := hid (MapKept.heap_alloc w (.cells #[.slice aoc nc cac, .slice aof nf caf, .slice aot nt cat] 26)).1
  have q0 : (0 : Int) ≤ (f : Int) := by omega
  have q1 : (f : Int) < (nf : Int) := by omega
  clear h hf hu hm hr hnf hcl
  go_enter Tryd.func35, Tryd.ntmps35
  go_wp2_with (at_make; refine wpList_make_bools rfl _ _ rfl nf _ _ rfl rfl hfn ?_; intro w1 o9 g1; have o1 : Ow eB 1 4 (w.heap.size + 1) w1 (.slice (some ⟨w.heap.size + 1, 0, none⟩) nf nf) (List.replicate nf false) := (by simpa using o9); obtain ⟨c1, z1, l1, s1⟩ := o1.bit HB0.out; clear o9; have S1 := hid (s1 true); have G1 := hid (Gr.trans K1.out g1); have PBk := hid (gr_blk B1.out g1); clear o1 g1 s1)
  have G0 := hid (show Gr w (w1.setCell ⟨w.heap.size + 1, f, none⟩ (.bool true)) from Ch.fresh G1.out (by omega) f (.bool true))
  have P0 := hid (show (w1.setCell ⟨w.heap.size + 1, f, none⟩ (.bool true)).heap[w.heap.size]? = some (.cells #[.slice aoc nc cac, .slice aof nf caf, .slice aot nt cat] 26 (0, 0)) from (((Ch.refl (Only (w.heap.size + 1)) w1).own f (.bool true)).block w.heap.size (lt_of_block PBk.out) (fun q => by have q1 : w.heap.size = w.heap.size + 1 := q; omega)).trans PBk.out)
  clear c1 z1 l1 G1 PBk
  go_loopg [8] (nf + 1) (fun m mv wq => ∃ (mb : Bool) (bs : List Bool), mv = .bool mb ∧ Ow eB 1 4 (w.heap.size + 1) wq (.slice (some ⟨w.heap.size + 1, 0, none⟩) nf nf) bs ∧ Rb nf wy (f : Int) bs ∧ (mb = true → fz bs + 1 ≤ m) ∧ (mb = false → ∀ x, bt bs x → ∀ y, y ∈ wy x → bt bs y) ∧ wq.heap[w.heap.size]? = some (.cells #[.slice aoc nc cac, .slice aof nf caf, .slice aot nt cat] 26 (0, 0)) ∧ Gr w wq)
  case atStart => exact ⟨true, _, rfl, S1.out, HS.out, (fun _ => by have := fz_le ((List.replicate nf false).set f true); simp at this; omega), (fun q => by cases q), P0.out, G0.out⟩
  case round =>
    obtain ⟨mb, bs, rfl, hO, hR, hmt, hmf, hP, hG⟩ := hrel
    have HO := hid hO
    have HRb := hid hR
    have HP := hid hP
    have HG := hid hG
    clear hO hR hP hG
    cases mb with
    | false =>
      have HCL := hid (hmf rfl)
      clear hmt hmf
      go_wp2
      go_ret
      obtain ⟨e1, e2⟩ := HRL.out.bits HRb.out.len HRb.out.me HCL.out HRb.out.rc
      exact ⟨_, bs, rfl, HO.out.lower (by omega), HRb.out.len, e1, e2, HG.out⟩
    | true =>
      have hmo := hmt rfl
      clear hmt hmf
      go_wp2_with fail
      rename World => V0
      go_loopg [8, 9] nf (fun m mv i wq => ∃ (k : Nat) (mb : Bool) (bs2 : List Bool), k + m = nf ∧ i = .int .i64 ((k : Nat) : Int) ∧ mv = .bool mb ∧ Ow eB 1 4 (w.heap.size + 1) wq (.slice (some ⟨w.heap.size + 1, 0, none⟩) nf nf) bs2 ∧ Rb nf wy (f : Int) bs2 ∧ Rd wy bs bs2 (k : Int) mb ∧ wq.heap[w.heap.size]? = some (.cells #[.slice aoc nc cac, .slice aof nf caf, .slice aot nt cat] 26 (0, 0)) ∧ Gr w wq)
      case atStart => exact ⟨0, false, bs, by omega, rfl, rfl, HO.out, HRb.out, .inl ⟨rfl, rfl, (fun x hx hb => by have := (bt_lt hb).1; omega)⟩, HP.out, HG.out⟩
      case round =>
        obtain ⟨k, mb, bs2, hkm, rfl, rfl, hO, hR, hD, hP, hG⟩ := hrel
        have HO2 := hid hO
        have HRb2 := hid hR
        have HD2 := hid hD
        have HP2 := hid hP
        have HG2 := hid hG
        obtain ⟨p0, p1, p2, pl⟩ := p_cells hP
        clear hO hR hD hP hG
        by_cases hk : k < nf
        · have k0 : (0 : Int) ≤ (k : Int) := by omega
          have k1 : (k : Int) < (nf : Int) := by omega
          obtain ⟨bk, hbk2⟩ : ∃ x, bs2[k]? = some x := ⟨_, List.getElem?_eq_getElem (by rw [HRb2.out.len]; exact hk)⟩
          obtain ⟨cb, _, lb, _⟩ := HO2.out.bit hbk2
          cases bk with
          | false =>
            have HD3 := hid (HD2.out.step (fun _ q => by rw [bt_nat, hbk2] at q; cases q))
            clear hbk2
            go_wp2
            go_roundg (nf - (k + 1))
            case measure => omega
            case rel => exact ⟨k + 1, mb, bs2, by omega, by simp, rfl, HO2.out, HRb2.out, by simpa using HD3.out, HP2.out, HG2.out⟩
          | true =>
            have HBK := hid ((bt_nat bs2 k).2 hbk2)
            have HX := hid (fun (W : World) (p : Gr w W) => HN.out k hk W p)
            have HRk := hid (show ∀ y, y ∈ wy (k : Int) → Rc wy (f : Int) y from fun y q => (HRb2.out.rc _ HBK.out).next q)
            have HST := hid (fun (bs3 : List Bool) (mb3 : Bool) (q : Rd wy bs bs3 (k : Int) mb3) (r : mb3 = false → ∀ y, y ∈ wy (k : Int) → bt bs3 y) => q.step (fun h _ y hy => r h y hy))
            generalize wy (k : Int) = ws at HX HRk HST
            clear hbk2
            go_wp2_with (go_at_call 54; refine (HX.out _ HG2.out).mono ?_; rintro e w2 ⟨v2, nb, rfl, o2, hl2, hb2, g2⟩; obtain ⟨ao2, cap2, hv2⟩ := o2.form; rw [hl2] at hv2; subst hv2; have O3 := hid (o2.lower (show w.heap.size + 2 ≤ _ from lb)); have HL2 := hid hl2; have HB2 := hid hb2; have G3 := hid (Gr.trans HG2.out g2); have M3 := hid (HO2.out.gr g2); have P3 := hid (gr_blk HP2.out g2); clear o2 g2 hl2 hb2)
            clear cb lb p0 p1 p2 pl
            rename World => V1
            go_loopg [8, 11] nf (fun m mv i wq => ∃ (l : Nat) (mb : Bool) (bs3 : List Bool), l + m = nf ∧ i = .int .i64 ((l : Nat) : Int) ∧ mv = .bool mb ∧ Ow eB 1 4 (w.heap.size + 1) wq (.slice (some ⟨w.heap.size + 1, 0, none⟩) nf nf) bs3 ∧ Rb nf wy (f : Int) bs3 ∧ Rd wy bs bs3 (k : Int) mb ∧ (mb = false → ∀ j : Nat, j < l → nb[j]? = some true → bs3[j]? = some true) ∧ Ow eB 1 4 (w.heap.size + 2) wq (.slice ao2 nf cap2) nb ∧ wq.heap[w.heap.size]? = some (.cells #[.slice aoc nc cac, .slice aof nf caf, .slice aot nt cat] 26 (0, 0)) ∧ Gr w wq)
            case atStart => exact ⟨0, mb, bs2, by omega, rfl, rfl, M3.out, HRb2.out, HD2.out, (fun _ j q => by omega), O3.out, P3.out, G3.out⟩
            case round =>
              obtain ⟨l, mb3, bs3, hlm, rfl, rfl, hO, hR, hD, hA, hL, hP, hG⟩ := hrel
              have HO4 := hid hO
              have HRb4 := hid hR
              have HD4 := hid hD
              have HA4 := hid hA
              have HL4 := hid hL
              have HP4 := hid hP
              have HG4 := hid hG
              clear hO hR hD hA hL hP hG
              by_cases hl : l < nf
              · obtain ⟨c, hc⟩ : ∃ x, nb[l]? = some x := ⟨_, List.getElem?_eq_getElem (by rw [HL2.out]; exact hl)⟩
                obtain ⟨bu, hbu⟩ : ∃ x, bs3[l]? = some x := ⟨_, List.getElem?_eq_getElem (by rw [HRb4.out.len]; exact hl)⟩
                obtain ⟨g3, cap4, hv, _, hgl3, _, hcs, _, _⟩ := HL4.out.get eB_len hc
                injection hv with hv1 hv2 hv3
                subst hv1
                have c0 := hcs 0 _ rfl
                rw [Nat.mul_one, Nat.add_zero] at c0
                obtain ⟨cb, zb, lb, sb⟩ := HO4.out.bit hbu
                have l0 : (0 : Int) ≤ (l : Int) := by omega
                have l1 : (l : Int) < (nf : Int) := by omega
                have HB3 := hid hbu
                have HC3 := hid hc
                have HW := hid (show ∀ u : Bool, Gr w (wr.setCell ⟨w.heap.size + 1, l, none⟩ (.bool u)) ∧ Ow eB 1 4 (w.heap.size + 2) (wr.setCell ⟨w.heap.size + 1, l, none⟩ (.bool u)) (.slice (some ⟨g3, 0, none⟩) nf cap2) nb ∧ (wr.setCell ⟨w.heap.size + 1, l, none⟩ (.bool u)).heap[w.heap.size]? = some (.cells #[.slice aoc nc cac, .slice aof nf caf, .slice aot nt cat] 26 (0, 0)) from fun u =>
                  ⟨Ch.fresh HG4.out (by omega) l (.bool u), HL4.out.ch ((Ch.refl (Only (w.heap.size + 1)) wr).own l (.bool u)) (fun q hq e => by have e1 : q = w.heap.size + 1 := e; have := (HL4.out.blk hq).1; omega), (((Ch.refl (Only (w.heap.size + 1)) wr).own l (.bool u)).block w.heap.size (lt_of_block HP4.out) (fun q => by have q1 : w.heap.size = w.heap.size + 1 := q; omega)).trans HP4.out⟩)
                have MS := hid sb
                have HAL := hid (show ∀ bs' : List Bool, mb3 = false → (∀ j : Nat, bs3[j]? = some true → bs'[j]? = some true) → (nb[l]? = some true → bs'[l]? = some true) → ∀ j : Nat, j < l + 1 → nb[j]? = some true → bs'[j]? = some true from fun bs' h0 h1 h2 j q1 q2 => by
                  by_cases q : j = l
                  · subst q; exact h2 q2
                  · exact h1 j (HA4.out h0 j (by omega) q2))
                clear hcs hv2 hv3 sb hgl3 hbu hc
                cases mb3 with
                | true =>
                  cases bu with
                  | true =>
                    cases c with
                    | true =>
                      obtain ⟨GS, LS, PS⟩ := HW.out true
                      have MS1 := MS.out true
                      rw [set_same HB3.out] at MS1
                      have HRD := hid (show Rd wy bs (bs3) (k : Int) true from HD4.out)
                      have HRB := hid (show Rb nf wy (f : Int) (bs3) from HRb4.out)
                      have MS2 := hid MS1
                      have GS2 := hid GS
                      have LS2 := hid LS
                      have PS2 := hid PS
                      clear MS1 GS LS PS
                      go_wp2
                      clear c0 cb zb lb
                      go_roundg (gk - 1)
                      case measure => omega
                      case rel => exact ⟨l + 1, true, bs3, by omega, by simp, rfl, MS2.out, HRB.out, HRD.out, (fun q => by cases q), LS2.out, PS2.out, GS2.out⟩
                    | false =>
                      obtain ⟨GS, LS, PS⟩ := HW.out true
                      have MS1 := MS.out true
                      rw [set_same HB3.out] at MS1
                      have HRD := hid (show Rd wy bs (bs3) (k : Int) true from HD4.out)
                      have HRB := hid (show Rb nf wy (f : Int) (bs3) from HRb4.out)
                      have MS2 := hid MS1
                      have GS2 := hid GS
                      have LS2 := hid LS
                      have PS2 := hid PS
                      clear MS1 GS LS PS
                      go_wp2
                      clear c0 cb zb lb
                      go_roundg (gk - 1)
                      case measure => omega
                      case rel => exact ⟨l + 1, true, bs3, by omega, by simp, rfl, MS2.out, HRB.out, HRD.out, (fun q => by cases q), LS2.out, PS2.out, GS2.out⟩
                  | false =>
                    cases c with
                    | true =>
                      obtain ⟨GS, LS, PS⟩ := HW.out true
                      have MS1 := MS.out true
                      have HRD := hid (show Rd wy bs (bs3.set l true) (k : Int) true from .inr ⟨rfl, by rcases HD4.out with ⟨h1, _⟩ | ⟨_, h2⟩; cases h1; have := fz_set _ _ HB3.out; omega⟩)
                      have HRB := hid (show Rb nf wy (f : Int) (bs3.set l true) from (HRb4.out.set hl (HRk.out _ ((HB2.out _).1 ((bt_nat _ _).2 HC3.out)))))
                      have MS2 := hid MS1
                      have GS2 := hid GS
                      have LS2 := hid LS
                      have PS2 := hid PS
                      clear MS1 GS LS PS
                      go_wp2
                      clear c0 cb zb lb
                      go_roundg (gk - 1)
                      case measure => omega
                      case rel => exact ⟨l + 1, true, bs3.set l true, by omega, by simp, rfl, MS2.out, HRB.out, HRD.out, (fun q => by cases q), LS2.out, PS2.out, GS2.out⟩
                    | false =>
                      obtain ⟨GS, LS, PS⟩ := HW.out false
                      have MS1 := MS.out false
                      rw [set_same HB3.out] at MS1
                      have HRD := hid (show Rd wy bs (bs3) (k : Int) true from HD4.out)
                      have HRB := hid (show Rb nf wy (f : Int) (bs3) from HRb4.out)
                      have MS2 := hid MS1
                      have GS2 := hid GS
                      have LS2 := hid LS
                      have PS2 := hid PS
                      clear MS1 GS LS PS
                      go_wp2
                      clear c0 cb zb lb
                      go_roundg (gk - 1)
                      case measure => omega
                      case rel => exact ⟨l + 1, true, bs3, by omega, by simp, rfl, MS2.out, HRB.out, HRD.out, (fun q => by cases q), LS2.out, PS2.out, GS2.out⟩
                | false =>
                  cases bu with
                  | true =>
                    cases c with
                    | true =>
                      obtain ⟨GS, LS, PS⟩ := HW.out true
                      have MS1 := MS.out true
                      rw [set_same HB3.out] at MS1
                      have HRD := hid (show Rd wy bs (bs3) (k : Int) false from HD4.out)
                      have HRB := hid (show Rb nf wy (f : Int) (bs3) from HRb4.out)
                      have MS2 := hid MS1
                      have GS2 := hid GS
                      have LS2 := hid LS
                      have PS2 := hid PS
                      clear MS1 GS LS PS
                      go_wp2
                      clear c0 cb zb lb
                      go_roundg (gk - 1)
                      case measure => omega
                      case rel => exact ⟨l + 1, false, bs3, by omega, by simp, rfl, MS2.out, HRB.out, HRD.out, fun _ => HAL.out bs3 (by first | rfl | trivial) (fun _ q => q) (fun _ => HB3.out), LS2.out, PS2.out, GS2.out⟩
                    | false =>
                      obtain ⟨GS, LS, PS⟩ := HW.out true
                      have MS1 := MS.out true
                      rw [set_same HB3.out] at MS1
                      have HRD := hid (show Rd wy bs (bs3) (k : Int) false from HD4.out)
                      have HRB := hid (show Rb nf wy (f : Int) (bs3) from HRb4.out)
                      have MS2 := hid MS1
                      have GS2 := hid GS
                      have LS2 := hid LS
                      have PS2 := hid PS
                      clear MS1 GS LS PS
                      go_wp2
                      clear c0 cb zb lb
                      go_roundg (gk - 1)
                      case measure => omega
                      case rel => exact ⟨l + 1, false, bs3, by omega, by simp, rfl, MS2.out, HRB.out, HRD.out, fun _ => HAL.out bs3 (by first | rfl | trivial) (fun _ q => q) (fun q => by rw [HC3.out] at q; cases q), LS2.out, PS2.out, GS2.out⟩
                  | false =>
                    cases c with
                    | true =>
                      obtain ⟨GS, LS, PS⟩ := HW.out true
                      have MS1 := MS.out true
                      have HRD := hid (show Rd wy bs (bs3.set l true) (k : Int) true from .inr ⟨rfl, by rcases HD4.out with ⟨_, h1, _⟩ | ⟨h2, _⟩; (have := fz_set _ _ HB3.out; rw [h1] at this ⊢; omega); cases h2⟩)
                      have HRB := hid (show Rb nf wy (f : Int) (bs3.set l true) from (HRb4.out.set hl (HRk.out _ ((HB2.out _).1 ((bt_nat _ _).2 HC3.out)))))
                      have MS2 := hid MS1
                      have GS2 := hid GS
                      have LS2 := hid LS
                      have PS2 := hid PS
                      clear MS1 GS LS PS
                      go_wp2
                      clear c0 cb zb lb
                      go_roundg (gk - 1)
                      case measure => omega
                      case rel => exact ⟨l + 1, true, bs3.set l true, by omega, by simp, rfl, MS2.out, HRB.out, HRD.out, (fun q => by cases q), LS2.out, PS2.out, GS2.out⟩
                    | false =>
                      obtain ⟨GS, LS, PS⟩ := HW.out false
                      have MS1 := MS.out false
                      rw [set_same HB3.out] at MS1
                      have HRD := hid (show Rd wy bs (bs3) (k : Int) false from HD4.out)
                      have HRB := hid (show Rb nf wy (f : Int) (bs3) from HRb4.out)
                      have MS2 := hid MS1
                      have GS2 := hid GS
                      have LS2 := hid LS
                      have PS2 := hid PS
                      clear MS1 GS LS PS
                      go_wp2
                      clear c0 cb zb lb
                      go_roundg (gk - 1)
                      case measure => omega
                      case rel => exact ⟨l + 1, false, bs3, by omega, by simp, rfl, MS2.out, HRB.out, HRD.out, fun _ => HAL.out bs3 (by first | rfl | trivial) (fun _ q => q) (fun q => by rw [HC3.out] at q; cases q), LS2.out, PS2.out, GS2.out⟩
              · have ln : ¬ (l : Int) < (nf : Int) := by omega
                have HD6 := hid (HST.out bs3 mb3 HD4.out (fun h1 y hy => by
                  have hb := (HB2.out y).2 hy
                  have hbl := bt_lt hb
                  rw [HL2.out] at hbl
                  obtain ⟨j, rfl⟩ : ∃ j : Nat, y = (j : Int) := ⟨y.toNat, by omega⟩
                  exact (bt_nat _ _).2 (HA4.out h1 j (by omega) ((bt_nat _ _).1 hb))))
                go_wp2
                go_roundg (nf - (k + 1))
                case measure => omega
                case rel => exact ⟨k + 1, mb3, bs3, by omega, by simp, rfl, HO4.out, HRb4.out, by simpa using HD6.out, HP4.out, HG4.out⟩
        · have kn : ¬ (k : Int) < (nf : Int) := by omega
          go_wp2
          go_roundg (fz bs)
          case measure => omega
          case rel =>
            refine ⟨mb, bs2, rfl, HO2.out, HRb2.out, fun q => ?_, fun q x hx y hy => ?_, HP2.out, HG2.out⟩
            · rcases HD2.out with ⟨h1, _⟩ | ⟨_, h2⟩
              · rw [h1] at q; cases q
              · omega
            · rcases HD2.out with ⟨_, _, h3⟩ | ⟨h1, _⟩
              · exact h3 x (by have := (bt_lt hx).2; rw [HRb2.out.len] at this; omega) hx y hy
              · rw [h1] at q; cases q
set_option maxRecDepth 20000 in
theorem rCalls_any (P : Nat → Prop) (w : World) (ia ib ic : Value) (cs : List Int) (fs : List (Int × Int)) (ts : List Tb) (h : Pin P w ia ib ic cs fs ts) (hu : U32s cs) (rch : Nat → List Int) (hr : Rcs cs fs rch) (sp : Bool) (cls : Nat → List Int) (hcl : Cls cs fs rch sp cls) (f : Int) :
    Calls Tryd.prog 14 #[.agg #[ia, ib, ic], .int .i64 f, .bool sp] w (TxR w (rcN cs fs ts cls f) (ask cs fs ts f (fs.length : Int))) := by
  have HL := hid (fun (W : World) (p : Gr w W) => looked_any P W ia ib ic cs fs ts (h.gr p) hu f (fs.length : Int))
  have HYES := hid (fun (q : ask cs fs ts f (fs.length : Int) = 0) => ask_may q)
  have HC := hid h.c
  have HF := hid h.f
  obtain ⟨aoc, cac, hia⟩ := h.c.form
  obtain ⟨aof, caf, hib⟩ := h.f.form
  obtain ⟨aot, cat, hic⟩ := h.t.form
  unfold rcN
  obtain ⟨nc, hnc⟩ : ∃ n, n = cs.length := ⟨_, rfl⟩
  obtain ⟨nf, hnf⟩ : ∃ n, n = fs.length := ⟨_, rfl⟩
  obtain ⟨nt, hnt⟩ : ∃ n, n = ts.length := ⟨_, rfl⟩
  rw [← hnc] at hia
  rw [← hnf] at hib HL HYES ⊢
  rw [← hnt] at hic HYES
  generalize ask cs fs ts f (nf : Int) = E at HL HYES ⊢
  subst hia hib hic
  have K1 := hid (Gr.alloc (Gr.refl w) #[.slice aoc nc cac, .slice aof nf caf, .slice aot nt cat] 26)
  have B1 := hid (MapKept.heap_alloc w (.cells #[.slice aoc nc cac, .slice aof nf caf, .slice aot nt cat] 26)).1
  by_cases hE : E = 0
  · subst hE
    obtain ⟨hm, f0, f1⟩ := HYES.out (by first | rfl | trivial)
    obtain ⟨b, rfl⟩ : ∃ b : Nat, f = (b : Int) := ⟨f.toNat, by omega⟩
    have hcn : nf ≤ 4096 := by rw [hnf]; have := hm.nf; omega
    have HX := hid (fun (W : World) (p : Gr w W) => rcalls_any P W aoc aof aot nc nf nt cac caf cat cs fs (HC.out.gr p) (HF.out.gr p) hu hm rch hr sp cls hcl b (by omega))
    simp only [if_true, Int.toNat_natCast]
    generalize cls b = L at HX ⊢
    clear h hu hr hcl hnc hnf hnt hm HC HF
    go_enter Tryd.func14, Tryd.ntmps14
    go_wp2_with (first | (go_at_call 33; refine (HL.out _ K1.out).mono ?_; rintro e w1 ⟨rfl, g1⟩; have G1 := hid (Gr.trans K1.out g1); obtain ⟨p0, p1, p2, pl⟩ := p_cells (gr_blk B1.out g1); clear g1) | (go_at_call 35; refine (HX.out _ G1.out).mono ?_; rintro e w2 ⟨v, bs, rfl, o2, hl2, hz2, _, g2⟩; obtain ⟨ao2, cap2, hv2⟩ := o2.form; rw [hl2] at hv2; subst hv2; have O2 := hid o2; have Z2 := hid hz2; have G2 := hid (Gr.trans G1.out g2); clear o2 g2 hz2 hl2) | (go_at_call 34; refine (rising_any _ _ _ _ _ bs O2.out.lst hcn).mono ?_; rintro e w3 ⟨v3, rfl, o3, g3⟩; have O3 := hid (o3.lower G2.out.size); have G3 := hid (Gr.trans G2.out g3); clear o3 g3))
    go_ret2
    exact ⟨_, rfl, by rw [← Z2.out]; exact O3.out, G3.out⟩
  · have hE' : (E == 0) = false := by simpa using hE
    rw [if_neg hE]
    clear h hu hr hcl hnc hnf hnt HC HF
    go_enter Tryd.func14, Tryd.ntmps14
    go_wp2_with (go_at_call 33; refine (HL.out _ K1.out).mono ?_; rintro e w1 ⟨rfl, g1⟩; have G1 := hid (Gr.trans K1.out g1); clear g1)
    go_ret2
    exact ⟨_, rfl, Ow.nil _ _ _ _ _, G1.out⟩
end Go.Proofs.YtollfepggicehabDoor.Lt
