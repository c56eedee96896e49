/-
  What ProperDeep answers of any program, function and ways. Conditions: the tables lie where they lie; words are words.
-/
import Derived.Test.YtollfepggicehabDoorPpDepth
import Derived.Test.YtollfepggicehabDoorPpHas
import Derived.Test.YtollfepggicehabDoorPpStays0
import Derived.Test.YtollfepggicehabDoorPpAwake
import Derived.Deep.DeepCutAuto
namespace Go.Proofs.YtollfepggicehabDoor.Lt
open Go.RowKit Wd

/-- what is called from a place so many calls away -/
def Aw (wy : Int → List Int) (f a : Int) (k : Nat) : Prop := ∀ n, Cn wy n a → Cn wy (n + k) f
theorem Aw.next {wy : Int → List Int} {f a y : Int} {k : Nat} (h : Aw wy f a k) (hy : y ∈ wy a) : Aw wy f y (k + 1) := fun n hn => by
  have := h (n + 1) ⟨y, hy, hn⟩
  rw [show n + (k + 1) = n + 1 + k by omega]
  exact this
theorem Aw.lt {wy : Int → List Int} {f a y d : Int} {k : Nat} (h : Aw wy f a k) (hy : y ∈ wy a) (hd : Dp wy f d) (d0 : 0 ≤ d) : (k : Int) < d := by
  have h1 := h 1 ⟨y, hy, trivial⟩
  rcases hd with ⟨_, _, h2⟩ | ⟨h2, _⟩
  · refine Classical.byContradiction fun q => h2 (h1.le (by omega))
  · omega
theorem five_set {w : World} {b : Nat} {T : TypeId} {a0 a1 a2 a3 a4 v0 v1 v2 v3 v4 : Value} (h : w.heap[b]? = some (.cells #[a0, a1, a2, a3, a4] T (0, 0))) : (((((w.setCell ⟨b, 0, none⟩ v0).setCell ⟨b, 1, none⟩ v1).setCell ⟨b, 2, none⟩ v2).setCell ⟨b, 3, none⟩ v3).setCell ⟨b, 4, none⟩ v4).heap[b]? = some (.cells #[v0, v1, v2, v3, v4] T (0, 0)) := by
  simpa using setCell_block (setCell_block (setCell_block (setCell_block (setCell_block h 0 v0) 1 v1) 2 v2) 3 v3) 4 v4
theorem five_gr {w0 w : World} {b : Nat} (h : Gr w0 w) (hb : w0.heap.size ≤ b) {v0 v1 v2 v3 v4 : Value} : Gr w0 (((((w.setCell ⟨b, 0, none⟩ v0).setCell ⟨b, 1, none⟩ v1).setCell ⟨b, 2, none⟩ v2).setCell ⟨b, 3, none⟩ v3).setCell ⟨b, 4, none⟩ v4) := Ch.fresh (Ch.fresh (Ch.fresh (Ch.fresh (Ch.fresh h hb _ _) hb _ _) hb _ _) hb _ _) hb _ _
set_option maxHeartbeats 2000000 in
set_option maxRecDepth 20000 in
theorem deep_any (P : Nat → Prop) (w : World) (ia ib ic : Value) (cs : List Int) (fs : List (Int × Int)) (ts : List Tb) (f : Int) (ao : Option Addr) (nw cw : Nat) (ys : List Int) (h : Pin P w ia ib ic cs fs ts) (_hc : cs.length ≤ 35184372088832) (_hf : fs.length ≤ 8796093022208) (_ht : ts.length ≤ 4398046511104) (_hq : ∀ t ∈ ts, t.cs.length ≤ 4398046511104) (hu : U32s cs) (hys : Ls eY P w (.slice ao nw cw) ys) (hyl : nw ≤ 140737488355328) (hyr : ∀ y ∈ ys, 0 ≤ y ∧ y < 256) (hg : Glb w) :
    Calls Tryd.prog 3 #[.agg #[ia, ib, ic], .int .i64 f, .slice ao nw cw] w fun e w' => e = .returned (.bool true) ∧ Gr w w' := by
  obtain ⟨rch, hr⟩ := rcs_ex cs fs
  obtain ⟨cls, hcl⟩ := cls_ex cs fs rch false
  obtain ⟨dp, hdp⟩ := dps_ex cs rch
  have HDE := hid (fun (W : World) (p : Gr w W) => pDepth_any P W ia ib ic cs fs ts (h.gr p) hu (hg.gr p) rch hr dp hdp f)
  have HCA := hid (fun (W : World) (p : Gr w W) => pCalls_any P W ia ib ic cs fs ts (h.gr p) hu (hg.gr p) rch hr false cls hcl f)
  have HRE := hid (fun (a : Int) (W : World) (p : Gr w W) => pReach_any P W ia ib ic cs fs ts (h.gr p) hu (hg.gr p) rch hr a)
  have HV := hid (fun (W : World) (q : Glb W) => awake_any W q)
  have HG := hid hg
  have HYES := hid (fun (q : ask cs fs ts f (fs.length : Int) = 0) => ask_may q)
  have HCK := hid (fun (q : ask cs fs ts f (fs.length : Int) = 0) (a k : Int) (h0 : 0 ≤ a) (h1 : a < k) => show ask cs fs ts a k = 0 from by
    unfold ask at q ⊢
    split at q
    · rename_i z; exact absurd q z
    · rename_i z
      rw [if_neg z, if_neg (by omega)])
  have HCL := hid h.c
  obtain ⟨aoc, cac, hia⟩ := h.c.form
  obtain ⟨aof, caf, hib⟩ := h.f.form
  obtain ⟨aot, cat, hic⟩ := h.t.form
  unfold rcN at HCA
  unfold dpN at HDE
  obtain ⟨nf, hnf⟩ : ∃ n, n = fs.length := ⟨_, rfl⟩
  rw [← hnf] at hib HCA HDE HYES HCK
  obtain ⟨nc, hnc⟩ : ∃ n, n = cs.length := ⟨_, rfl⟩
  rw [← hnc] at hia
  generalize ts.length = nt at hic HYES
  obtain ⟨E, hE⟩ : ∃ E, E = ask cs fs ts f (nf : Int) := ⟨_, rfl⟩
  rw [← hE] at HCA HDE HYES HCK
  subst hia hib hic
  by_cases hE0 : E = 0
  · subst hE0
    obtain ⟨hm, f0, f1⟩ := HYES.out (by first | rfl | trivial)
    obtain ⟨j, rfl⟩ : ∃ j : Nat, f = (j : Int) := ⟨f.toNat, by omega⟩
    simp only [if_true, Int.toNat_natCast] at HCA HDE
    have HWI := hid (show WyIn nf (wF2 cs rch false) by rw [hnf]; exact wF_in hm hr false)
    have hcj := hcl j
    rw [← hnf] at hcj
    have HCJ := hid (show ∀ x, x ∈ cls j → ∀ y, y ∈ wF2 cs rch false x → y ∈ cls j from fun x hx y hy => by
      have h1 := (hcj.2 x).1 hx
      refine (hcj.2 y).2 ⟨?_, h1.2.next hy⟩
      have := HWI.out x.toNat (by omega) y (by rw [show ((x.toNat : Nat) : Int) = x by omega]; exact hy)
      exact this)
    have hjm : (j : Int) ∈ cls j := (hcj.2 _).2 ⟨⟨by omega, f1⟩, Rc.self _ _⟩
    have HJM := hid hjm
    have hdj := hdp j
    have hdlt := Dp.lt HCJ.out hjm hdj
    have hdge := dp_cases hdj
    have HDJ := hid hdj
    have hll : (cls j).length ≤ 4096 := Nat.le_trans hcj.len (by rw [hnf]; have := hm.nf; omega)
    have HRA := hid (show ∀ (a : Nat) W, a < nf → Gr w W → Calls Tryd.prog 9 #[.agg #[.slice aoc nc cac, .slice aof nf caf, .slice aot nt cat], .int .i64 (a : Nat)] W (TxR W (rch a) 0) from fun a W q1 p => by
      have e1 := HRE.out (a : Int) W p
      have e2 : ask cs fs ts (a : Int) (fs.length : Int) = 0 := HCK.out (by first | rfl | trivial) (a : Int) _ (by omega) (by omega)
      have e3 : rcN cs fs ts rch (a : Int) = rch a := by unfold rcN; rw [if_pos e2, Int.toNat_natCast]
      rw [e2, e3] at e1
      exact e1)
    have HRN := hid (fun (a : Nat) (x : Int) (q : x ∈ rch a) => (show 0 ≤ x ∧ x < (nc : Int) from by have := (((hr a).2 x).1 q).1; rw [← hnc] at this; exact this))
    have HRL := hid (fun (a : Nat) => (show (rch a).length ≤ 4096 from Nat.le_trans (hr a).len hm.nc))
    have HWF := hid (fun (a : Nat) => (show nmL cs false (rch a) = wF2 cs rch false (a : Int) from by unfold wF2; rw [Int.toNat_natCast]))
    obtain ⟨g, o, hao, hgl, hcell⟩ := HCL.out.base (by have h1 := hm.p.z; obtain ⟨y, hy⟩ : ∃ y, fs[0]? = some y := ⟨_, List.getElem?_eq_getElem (by omega)⟩; have := hm.p.i y (List.mem_of_getElem? hy); omega)
    subst hao
    have HCE := hid (show ∀ (k : Nat) n W, cs[k]? = some n → Gr w W → W.cell? ⟨g, o + k, none⟩ = some (.int .u32 n) from fun k n W hk p => (p.cell hgl).trans (hcell k n hk))
    have HLG := hid (show ∀ W, Gr w W → g < W.heap.size from fun W p => Nat.lt_of_lt_of_le hgl p.size)
    have HU := hid hu
    have HNC := hid hnc
    have HY := hid hys
    have HYR := hid hyr
    have HYL := hid hys.len.1
    generalize dp j = d at HDE hdlt hdge HDJ
    generalize cls j = L at HCA HCJ HJM hdlt hll
    generalize wF2 cs rch false = wy at HWI HCJ HDJ HWF
    obtain ⟨n, hn⟩ : ∃ k, k = L.length := ⟨_, rfl⟩
    have HNL := hid hn
    rw [← hn] at hll hdlt
    have K1 := hid (Gr.alloc (Gr.refl w) #[.slice (some ⟨g, o, none⟩) nc cac, .slice aof nf caf, .slice aot nt cat] 26)
    have B1 := hid (MapKept.heap_alloc w (.cells #[.slice (some ⟨g, o, none⟩) nc cac, .slice aof nf caf, .slice aot nt cat] 26)).1
    have e1 : decide ((n : Int) ≤ d) = false := decide_eq_false (by omega)
    have e2 : decide (d < -1) = false := decide_eq_false (by omega)
    clear h hu hg hr hcl hdp hm hgl hcell HRE HCK HYES HCL hnf hnc hE _hc _hf _ht _hq hcj hjm hdj hn hys hyr
    go_enter Tryd.func3, Tryd.ntmps3
    go_wp2_with (first | (go_at_call 6; refine (HDE.out _ K1.out).mono ?_; rintro e w1 ⟨rfl, g1⟩; have G1 := hid (Gr.trans K1.out g1); have J1 := hid (gr_blk B1.out g1); obtain ⟨p0, p1, p2, pl⟩ := p_cells J1.out; clear g1) | (go_at_call 8; refine (HCA.out _ G1.out).mono ?_; rintro e w2 ⟨v2, rfl, o2, g2⟩; obtain ⟨ao2, cap2, hv2⟩ := o2.form; rw [← HNL.out] at hv2; subst hv2; have O2 := hid (o2.lower G1.out.size); have G2 := hid (Gr.trans G1.out g2); have J2 := hid (gr_blk J1.out g2); clear o2 g2))
    clear p0 p1 p2 pl
    rename World => V1
    rename World => V2
    go_loopg [11, 12] nw (fun m at_ i wq => ∃ (k a : Nat), k + m = nw ∧ i = .int .i64 ((k : Nat) : Int) ∧ at_ = .int .i64 ((a : Nat) : Int) ∧ a < nf ∧ (a : Int) ∈ L ∧ Aw wy (j : Int) (a : Int) k ∧ Ow eI 1 3 w.heap.size wq (.slice ao2 n cap2) L ∧ wq.heap[w.heap.size]? = some (.cells #[.slice (some ⟨g, o, none⟩) nc cac, .slice aof nf caf, .slice aot nt cat] 26 (0, 0)) ∧ Gr w wq)
    case atStart => exact ⟨0, j, by omega, rfl, rfl, by omega, HJM.out, (fun n hn => hn), O2.out, J2.out, G2.out⟩
    case round =>
      obtain ⟨k, a, hkm, rfl, rfl, ha, haL, hAw, hO, hJ, hGr⟩ := hrel
      have HAL := hid haL
      have HAw := hid hAw
      have HO := hid hO
      have HJ := hid hJ
      have HGr := hid hGr
      obtain ⟨p0, p1, p2, pl⟩ := p_cells hJ
      clear haL hAw hO hJ hGr
      by_cases hk : k < nw
      · have k0 : (0 : Int) ≤ (k : Int) := by omega
        have k1 : (k : Int) < (nw : Int) := by omega
        obtain ⟨y, hy⟩ : ∃ y, ys[k]? = some y := ⟨_, List.getElem?_eq_getElem (by rw [← HYL.out]; exact hk)⟩
        obtain ⟨y0, y1⟩ := HYR.out y (List.mem_of_getElem? hy)
        obtain ⟨gy, oy, cap', hv, _, hgy, _, hcs⟩ := HY.out.get eY_len hy
        injection hv with hv1 hv2 hv3
        subst hv1
        have HCY := hid (show ∀ W, Gr w W → W.cell? ⟨gy, oy + k, none⟩ = some (.int .u8 y) from fun W p => (p.cell hgy).trans (by have := hcs 0 _ rfl; rw [Nat.mul_one, Nat.add_zero] at this; exact this))
        have HLY := hid (show ∀ W, Gr w W → gy < W.heap.size from fun W p => Nat.lt_of_lt_of_le hgy p.size)
        have HX := hid (fun (W : World) (p : Gr w W) => HRA.out a W ha p)
        have HXI := hid (fun (x : Int) (q : x ∈ rch a) => HRN.out a x q)
        have hxl := HRL.out a
        have HXW := hid (HWF.out a)
        generalize rch a = xs at HX HXI hxl HXW
        obtain ⟨nx, hnx⟩ : ∃ k, k = xs.length := ⟨_, rfl⟩
        have HNX := hid hnx
        rw [← hnx] at hxl
        clear hcs hv2 hv3 hy hgy hnx
        go_wp2_with (go_at_call 9; refine (HX.out _ HGr.out).mono ?_; rintro e w3 ⟨v3, rfl, o3, g3⟩; obtain ⟨ao3, cap3, hv3⟩ := o3.form; rw [← HNX.out] at hv3; subst hv3; have O3 := hid (o3.lower HGr.out.size); have OL3 := hid (HO.out.gr g3); have G3 := hid (Gr.trans HGr.out g3); have J3 := hid (gr_blk HJ.out g3); clear o3 g3)
        clear p0 p1 p2 pl
        rename World => V3
        rename World => V4
        have hko := hkm
        go_loopg [15, 16] nx (fun m ou i wq => ∃ (l q cap : Nat) (ao : Option Addr), l + m = nx ∧ i = .int .i64 ((l : Nat) : Int) ∧ ou = .slice ao q cap ∧ Ow eI 1 3 w.heap.size wq (.slice ao q cap) (nmL cs false (xs.take l)) ∧ Ow eI 1 3 w.heap.size wq (.slice ao3 nx cap3) xs ∧ (∀ z, Blk (.slice ao3 nx cap3) z → ¬ Blk (.slice ao q cap) z) ∧ Ow eI 1 3 w.heap.size wq (.slice ao2 n cap2) L ∧ (∀ z, Blk (.slice ao2 n cap2) z → ¬ Blk (.slice ao q cap) z) ∧ ¬ Blk (.slice ao q cap) w.heap.size ∧ wq.heap[w.heap.size]? = some (.cells #[.slice (some ⟨g, o, none⟩) nc cac, .slice aof nf caf, .slice aot nt cat] 26 (0, 0)) ∧ Gr w wq)
        case atStart => exact ⟨0, 0, 0, none, by omega, rfl, rfl, Ow.nil _ _ _ _ _, O3.out, (fun _ _ e => by cases e), OL3.out, (fun _ _ e => by cases e), (fun e => by cases e), J3.out, G3.out⟩
        case round =>
          obtain ⟨l, q, cap, aq, hlm, rfl, rfl, hQ, hX, hD, hL, hE, hP0, hJ, hGq⟩ := hrel
          have HQ := hid hQ
          have HXs := hid hX
          have HD := hid hD
          have HLs := hid hL
          have HE := hid hE
          have HP0 := hid hP0
          have HJq := hid hJ
          have HGq := hid hGq
          have HQL := hid hQ.len.1
          have hq4 : q ≤ 4096 := by
            have h1 := List.length_filterMap_le (cW cs false) (xs.take l)
            rw [List.length_take] at h1
            rw [hQ.len.1]; unfold nmL; omega
          obtain ⟨p0, p1, p2, pl⟩ := p_cells hJ
          have pl9 := pl
          clear hQ hX hD hL hE hP0 hJ hGq
          by_cases hl : l < nx
          · obtain ⟨x, hx⟩ : ∃ x, xs[l]? = some x := ⟨_, List.getElem?_eq_getElem (by rw [← HNX.out]; exact hl)⟩
            obtain ⟨hx0, hx1⟩ := HXI.out x (List.mem_of_getElem? hx)
            obtain ⟨z, rfl⟩ : ∃ z : Nat, x = (z : Int) := ⟨x.toNat, by omega⟩
            have hz : z < nc := by omega
            obtain ⟨mw, hmw⟩ : ∃ m, cs[z]? = some m := ⟨_, List.getElem?_eq_getElem (by rw [← HNC.out]; exact hz)⟩
            obtain ⟨u0, u1⟩ := HU.out mw (List.mem_of_getElem? hmw)
            have HDC := hid (fun (W : World) => rdecode_all mw u0 u1 W)
            have HSN := hid (nmL_snoc cs false (xs.take l) (z : Int))
            rw [← take_one hx] at HSN
            rw [Int.toNat_natCast, hmw] at HSN
            simp only [Option.getD_some] at HSN
            have cw0 := HCE.out z mw _ hmw HGq.out
            have lg := HLG.out _ HGq.out
            obtain ⟨gx, cap', hv, _, hgx, _, hcs, _, _⟩ := HXs.out.get eI_len hx
            injection hv with hv1 hv2 hv3
            subst hv1
            have c0 := hcs 0 _ rfl
            rw [Nat.mul_one, Nat.add_zero] at c0
            have l0 : (0 : Int) ≤ (l : Int) := by omega
            have l1 : (l : Int) < (nx : Int) := by omega
            have z0 : (0 : Int) ≤ (z : Int) := by omega
            have z1 : (z : Int) < (nc : Int) := by omega
            unfold iV at HDC
            generalize dI mw = II at HDC HSN
            generalize dE mw = EE at HDC
            obtain ⟨o1, o2, o3, o4, im⟩ := II
            simp only at HDC HSN
            generalize nmL cs false (xs.take l) = zs at HQ HSN HQL
            clear hcs hv2 hv3 hx hmw u0 u1 hx0 hx1
            go_upto_region 16 with fail
            go_cut [17, 18] from 66 to 78 (fun s17 s18 wx => ∃ B : Nat, s17 = .pointer (some ⟨B, 0, none⟩) ∧ s18 = .int .i64 EE ∧ wx.heap[B]? = some (.cells #[.int .i64 o1, .int .i64 o2, .int .i64 o3, .int .i64 o4, .int .i64 im] 37 (0, 0)) ∧ Gr wr wx)
            case first =>
              go_region_with (go_at_call 10; refine (HDC.out _).mono ?_; rintro e w5 ⟨rfl, g5⟩; have G5 := hid (show Gr wr w5 from Gr.trans (by first | exact Gr.refl _ | exact Ch.drew (Gr.refl _) | exact Ch.drew (Ch.alloc (Gr.refl _) _)) g5); (first | (have b5 := gr_blk (show ((wr.alloc (.cells #[.int .i64 0, .int .i64 0, .int .i64 0, .int .i64 0, .int .i64 0] 37)).drew).heap[wr.heap.size]? = some (.cells #[.int .i64 0, .int .i64 0, .int .i64 0, .int .i64 0, .int .i64 0] 37 (0, 0)) from (MapKept.heap_alloc wr _).1) g5; have BB5 := hid b5; have y0 := (cell_of b5 0).trans (rfl : _ = some (Value.int .i64 0)); have y1 := (cell_of b5 1).trans (rfl : _ = some (Value.int .i64 0)); have y2 := (cell_of b5 2).trans (rfl : _ = some (Value.int .i64 0)); have y3 := (cell_of b5 3).trans (rfl : _ = some (Value.int .i64 0)); have y4 := (cell_of b5 4).trans (rfl : _ = some (Value.int .i64 0)); have yz := frozen_of b5; have yl := lt_of_block b5; clear b5) | skip); clear g5)
              all_goals go_wp2_with fail
              all_goals go_meet
              all_goals first | (have hbb := BB5.out; exact ⟨wr.heap.size, rfl, rfl, five_set hbb, five_gr G5.out (Nat.le_refl _)⟩) | exact ⟨_, rfl, rfl, (MapKept.heap_alloc w5 _).1, Ch.alloc G5.out _⟩
            case rest =>
              obtain ⟨B, rfl, rfl, hB, hG5⟩ := hcut
              have G5 := hid hG5
              have GW := hid (Gr.trans HGq.out hG5)
              have i0 := (cell_of hB 0).trans (rfl : _ = some (Value.int .i64 o1))
              have i4 := (cell_of hB 4).trans (rfl : _ = some (Value.int .i64 im))
              have lB := lt_of_block hB
              clear hB hG5 c0 cw0 p0 p1 p2 pl lg hgx
              by_cases e20 : o1 = 20
              · subst e20
                have HZ := hid (show nmL cs false (xs.take (l + 1)) = zs ++ [im] by rw [HSN.out]; simp [cO])
                go_wp2_with (at_builtin; refine wpList_append_ow eI_len rfl (.tmp 81) (.tmp 84) _ 3 8 _ Tryd.underlying32 int_info rfl (by omega) rfl w.heap.size _ zs rfl ((HQ.out.gr G5.out).alloc _) _ _ [im] rfl (ls_int _ _ _ (by simp)) (eI_one _) (q + 1) (by rw [HQL.out]; rfl) (by omega) (by unfold maxLen; omega) (by simp; have := GW.out.size; omega) (zs ++ [im]) rfl ?_; intro ao6 cap6 w6 ow6 cw6 bl6; have O6 := hid ow6; have C6 := hid cw6; have B6 := hid bl6; clear ow6 cw6 bl6)
                clear i0 i4 lB
                go_roundg (gk - 1)
                case measure => omega
                case rel =>
                  have key : ∀ z, z < wr.heap.size → ¬ Blk (.slice aq q cap) z → ¬ Blk (.slice ao6 (q + 1) cap6) z := fun z h1 h2 h3 => by
                    rcases B6.out z h3 with h4 | h4
                    · exact h2 h4
                    · have := G5.out.size
                      simp at h4
                      omega
                  exact ⟨l + 1, q + 1, cap6, ao6, by omega, by simp, rfl, by rw [HZ.out]; exact O6.out, ((HXs.out.gr G5.out).alloc _).ch C6.out HD.out, (fun z h1 => key z (HXs.out.blk h1).2 (HD.out z h1)), ((HLs.out.gr G5.out).alloc _).ch C6.out HE.out, (fun z h1 => key z (HLs.out.blk h1).2 (HE.out z h1)), key _ pl9 HP0.out, (C6.out.block _ (by simp; have := G5.out.size; omega) HP0.out).trans (al_blk (gr_blk HJq.out G5.out) _), Ch.trans (Ch.alloc GW.out _) C6.out (fun z h => .inr (HQ.out.blk h).1)⟩
              · have e20' : (o1 == 20) = false := by simpa using e20
                have HZ := hid (show nmL cs false (xs.take (l + 1)) = zs by rw [HSN.out]; simp [cO, e20])
                go_wp2
                clear i0 i4 lB
                go_roundg (gk - 1)
                case measure => omega
                case rel => exact ⟨l + 1, q, cap, aq, by omega, by simp, rfl, by rw [HZ.out]; exact HQ.out.gr G5.out, HXs.out.gr G5.out, HD.out, HLs.out.gr G5.out, HE.out, HP0.out, gr_blk HJq.out G5.out, GW.out⟩
          · have ln : ¬ (l : Int) < (nx : Int) := by omega
            have hle : xs.take l = xs := List.take_of_length_le (by rw [← HNX.out]; omega)
            rw [hle, HXW.out] at HQ HQL
            have HWM := hid (fun (y : Int) (q : y ∈ wy (a : Int)) => And.intro (HWI.out a ha y q) (And.intro (HCJ.out _ HAL.out y q) (And.intro (HAw.out.next q) (fun d0 => HAw.out.lt q HDJ.out d0))))
            generalize wy (a : Int) = ws at HQ HQL HWM
            clear hle p0 p1 p2 pl
            cases ws with
            | nil =>
              have hq0 : q = 0 := HQL.out
              subst hq0
              go_wp2
              go_ret
              exact ⟨rfl, HGq.out⟩
            | cons v vs =>
              have hqp : 0 < q := by rw [HQL.out]; simp
              obtain ⟨u, hu⟩ : ∃ u : Nat, (u : Int) = y % (q : Int) := ⟨(y % (q : Int)).toNat, by have := Int.emod_nonneg y (show (q : Int) ≠ 0 by omega); omega⟩
              have hul : u < q := by have := Int.emod_lt_of_pos y (show (0 : Int) < (q : Int) by omega); omega
              obtain ⟨x, hx⟩ : ∃ x, (v :: vs)[u]? = some x := ⟨_, List.getElem?_eq_getElem (by rw [← HQL.out]; exact hul)⟩
              obtain ⟨⟨x0, x1⟩, hxL, hxA, _⟩ := HWM.out x (List.mem_of_getElem? hx)
              obtain ⟨b, rfl⟩ : ∃ b : Nat, x = (b : Int) := ⟨x.toNat, by omega⟩
              have hdk := (HWM.out v (by simp)).2.2.2
              have HXL := hid hxL
              have HXA := hid hxA
              have t1 : y.tmod (q : Int) = (u : Int) := by rw [Int.tmod_eq_emod_of_nonneg y0, hu]
              have q2z : ((q : Int) == 0) = false := by simp; omega
              have q2n : ¬ ((q : Int) = 0) := by omega
              have q2m : (q == 0) = false := by simp; omega
              have u0 : (0 : Int) ≤ (u : Int) := by omega
              have u1 : (u : Int) < (q : Int) := by omega
              obtain ⟨gq, capq, hv, _, hgq, _, hcq, _, _⟩ := HQ.out.get eI_len hx
              rw [← HQL.out] at hv
              injection hv with hv1 hv2 hv3
              subst hv1
              have cq := hcq 0 _ rfl
              rw [Nat.mul_one, Nat.add_zero] at cq
              have cy := HCY.out _ HGq.out
              have ly := HLY.out _ HGq.out
              clear hcq hv2 hv3 hx hxL hxA hu
              by_cases d0 : 0 ≤ d
              · have hkd := hdk d0
                have s1 : decide (d ≥ 0) = true := decide_eq_true d0
                have s1' : decide (0 ≤ d) = true := decide_eq_true d0
                have s2 : decide ((k : Int) ≥ d) = false := decide_eq_false (by omega)
                have s2' : decide (d ≤ (k : Int)) = false := decide_eq_false (by omega)
                clear hdk
                go_wp2_with (go_at_call 11; refine (has_any _ _ _ _ _ L HLs.out.lst hll _ HXL.out).mono ?_; rintro e w8 ⟨rfl, g8⟩; have OL8 := hid (HLs.out.gr g8); have J8 := hid (gr_blk HJq.out g8); have G8 := hid (Gr.trans HGq.out g8); clear g8)
                clear cq cy ly
                go_roundg (nw - (k + 1))
                case measure => omega
                case rel => exact ⟨k + 1, b, by omega, by simp, rfl, by omega, HXL.out, HXA.out, OL8.out, J8.out, G8.out⟩
              · have s1 : decide (d ≥ 0) = false := decide_eq_false d0
                have s1' : decide (0 ≤ d) = false := decide_eq_false d0
                clear hdk
                go_wp2_with (go_at_call 11; refine (has_any _ _ _ _ _ L HLs.out.lst hll _ HXL.out).mono ?_; rintro e w8 ⟨rfl, g8⟩; have OL8 := hid (HLs.out.gr g8); have J8 := hid (gr_blk HJq.out g8); have G8 := hid (Gr.trans HGq.out g8); clear g8)
                clear cq cy ly
                go_roundg (nw - (k + 1))
                case measure => omega
                case rel => exact ⟨k + 1, b, by omega, by simp, rfl, by omega, HXL.out, HXA.out, OL8.out, J8.out, G8.out⟩
      · have kn : ¬ (k : Int) < (nw : Int) := by omega
        go_wp2
        go_ret
        exact ⟨rfl, HGr.out⟩
  · have hE' : (E == 0) = false := by simpa using hE0
    rw [if_neg hE0] at HDE
    have K1 := hid (Gr.alloc (Gr.refl w) #[.slice aoc nc cac, .slice aof nf caf, .slice aot nt cat] 26)
    clear h hu hg hr hcl hdp HRE HCK HYES HCL hnf hnc hE _hc _hf _ht _hq hys hyr HCA
    go_enter Tryd.func3, Tryd.ntmps3
    go_wp2_with (first | (go_at_call 6; refine (HDE.out _ K1.out).mono ?_; rintro e w1 ⟨rfl, g1⟩; have G1 := hid (Gr.trans K1.out g1); clear g1) | (go_at_call 7; refine (HV.out _ (HG.out.gr G1.out)).mono ?_; rintro e w4 ⟨rfl, g4⟩; have G4 := hid (Gr.trans G1.out g4); clear g4))
    go_ret
    exact ⟨rfl, G4.out⟩
end Go.Proofs.YtollfepggicehabDoor.Lt
