/-
  What the document's Reach and named answer. Conditions: the program may be; words are words.
-/
import Derived.Test.YtollfepggicehabDoorPpRReach
import Derived.Test.YtollfepggicehabDoorPpNamed
namespace Go.Proofs.YtollfepggicehabDoor.Lt
open Go.RowKit Wd

set_option maxRecDepth 20000 in
theorem rReach_any (P : Nat → Prop) (w : World) (ia ib ic : Value) (cs : List Int) (fs : List (Int × Int)) (ts : List Tb) (h : Pin P w ia ib ic cs fs ts) (hu : U32s cs) (rch : Nat → List Int) (hr : Rcs cs fs rch) (f : Int) :
    Calls Tryd.prog 15 #[.agg #[ia, ib, ic], .int .i64 f] w (TxR w (rcN cs fs ts rch f) (ask cs fs ts f (fs.length : Int))) := by
  have HL := hid (fun (W : World) (p : Gr w W) => looked_any P W ia ib ic cs fs ts (h.gr p) hu f (fs.length : Int))
  have HYES := hid (fun (q : ask cs fs ts f (fs.length : Int) = 0) => ask_may q)
  have HC := hid h.c
  have HF := hid h.f
  obtain ⟨aoc, cac, hia⟩ := h.c.form
  obtain ⟨aof, caf, hib⟩ := h.f.form
  obtain ⟨aot, cat, hic⟩ := h.t.form
  unfold rcN
  obtain ⟨nc, hnc⟩ : ∃ n, n = cs.length := ⟨_, rfl⟩
  obtain ⟨nf, hnf⟩ : ∃ n, n = fs.length := ⟨_, rfl⟩
  obtain ⟨nt, hnt⟩ : ∃ n, n = ts.length := ⟨_, rfl⟩
  rw [← hnc] at hia
  rw [← hnf] at hib HL HYES ⊢
  rw [← hnt] at hic HYES
  generalize ask cs fs ts f (nf : Int) = E at HL HYES ⊢
  subst hia hib hic
  have K1 := hid (Gr.alloc (Gr.refl w) #[.slice aoc nc cac, .slice aof nf caf, .slice aot nt cat] 26)
  have B1 := hid (MapKept.heap_alloc w (.cells #[.slice aoc nc cac, .slice aof nf caf, .slice aot nt cat] 26)).1
  by_cases hE : E = 0
  · subst hE
    obtain ⟨hm, f0, f1⟩ := HYES.out (by first | rfl | trivial)
    obtain ⟨b, rfl⟩ : ∃ b : Nat, f = (b : Int) := ⟨f.toNat, by omega⟩
    have hcn : nc ≤ 4096 := by rw [hnc]; exact hm.nc
    have HX := hid (fun (W : World) (p : Gr w W) => rreach_any P W aoc aof aot nc nf nt cac caf cat cs fs (HC.out.gr p) (HF.out.gr p) hu hm rch hr b (by omega))
    simp only [if_true, Int.toNat_natCast]
    generalize rch b = L at HX ⊢
    clear h hu hr hnc hnf hnt hm HC HF
    go_enter Tryd.func15, Tryd.ntmps15
    go_wp2_with (first | (go_at_call 33; refine (HL.out _ K1.out).mono ?_; rintro e w1 ⟨rfl, g1⟩; have G1 := hid (Gr.trans K1.out g1); obtain ⟨p0, p1, p2, pl⟩ := p_cells (gr_blk B1.out g1); clear g1) | (go_at_call 36; refine (HX.out _ G1.out).mono ?_; rintro e w2 ⟨v, bs, rfl, o2, hl2, hz2, _, g2⟩; obtain ⟨ao2, cap2, hv2⟩ := o2.form; rw [hl2] at hv2; subst hv2; have O2 := hid o2; have Z2 := hid hz2; have G2 := hid (Gr.trans G1.out g2); clear o2 g2 hz2 hl2) | (go_at_call 34; refine (rising_any _ _ _ _ _ bs O2.out.lst hcn).mono ?_; rintro e w3 ⟨v3, rfl, o3, g3⟩; have O3 := hid (o3.lower G2.out.size); have G3 := hid (Gr.trans G2.out g3); clear o3 g3))
    go_ret2
    exact ⟨_, rfl, by rw [← Z2.out]; exact O3.out, G3.out⟩
  · have hE' : (E == 0) = false := by simpa using hE
    rw [if_neg hE]
    clear h hu hr hnc hnf hnt HC HF
    go_enter Tryd.func15, Tryd.ntmps15
    go_wp2_with (go_at_call 33; refine (HL.out _ K1.out).mono ?_; rintro e w1 ⟨rfl, g1⟩; have G1 := hid (Gr.trans K1.out g1); clear g1)
    go_ret2
    exact ⟨_, rfl, Ow.nil _ _ _ _ _, G1.out⟩
/-- truths that tell which numbers are in a list -/
def BmR (w : World) (N : Nat) (xs : List Int) (e : Ending) (w' : World) : Prop := ∃ v bs, e = .returned v ∧ Ow eB 1 4 w.heap.size w' v bs ∧ bs.length = N ∧ (∀ x, bt bs x ↔ x ∈ xs) ∧ Gr w w'
set_option maxHeartbeats 4000000 in
set_option maxRecDepth 20000 in
theorem rnamed_any (P : Nat → Prop) (w : World) (aoc aof aot : Option Addr) (nc nf nt cac caf cat : Nat) (cs : List Int) (fs : List (Int × Int)) (h : Ls eU P w (.slice aoc nc cac) cs) (hf : Ls eG P w (.slice aof nf caf) fs) (hu : U32s cs) (hm : May cs fs nt) (rch : Nat → List Int) (hr : Rcs cs fs rch) (f : Nat) (hfl : f < nf) (sp : Bool) :
    Calls Tryd.prog 54 #[.agg #[.slice aoc nc cac, .slice aof nf caf, .slice aot nt cat], .int .i64 (f : Nat), .bool sp] w (BmR w nf (nmL cs sp (rch f))) := by
  have HRE := hid (fun (W : World) (p : Gr w W) => rreach_any P W aoc aof aot nc nf nt cac caf cat cs fs (h.gr p) (hf.gr p) hu hm rch hr f hfl)
  have hnc := h.len.1
  have hnf := hf.len.1
  have HIM := hid (show ∀ (k : Nat) (m y : Int), cs[k]? = some m → cW cs sp (k : Int) = some y → 0 ≤ y ∧ y < (nf : Int) from fun k m y hk hy => by rw [hnf]; exact hm.named (by omega) (by have := (List.getElem?_eq_some_iff.1 hk).1; omega) hy)
  have hcn : nc ≤ 4096 := by rw [hnc]; exact hm.nc
  have hfn : nf ≤ 4096 := by rw [hnf]; have := hm.nf; omega
  obtain ⟨g, o, rfl, hgl, hcell⟩ := h.base (by have h1 := hm.p.z; obtain ⟨y, hy⟩ : ∃ y, fs[0]? = some y := ⟨_, List.getElem?_eq_getElem (by omega)⟩; have := hm.p.i y (List.mem_of_getElem? hy); omega)
  have HCE := hid (show ∀ (k : Nat) n W, cs[k]? = some n → Gr w W → W.cell? ⟨g, o + k, none⟩ = some (.int .u32 n) from fun k n W hk p => (p.cell hgl).trans (hcell k n hk))
  have HLG := hid (show ∀ W, Gr w W → g < W.heap.size from fun W p => Nat.lt_of_lt_of_le hgl p.size)
  have HU := hid hu
  have HNC := hid hnc
  have K1 := hid (Gr.alloc (Gr.refl w) #[.slice (some ⟨g, o, none⟩) nc cac, .slice aof nf caf, .slice aot nt cat] 26)
  have B1 := hid (MapKept.heap_alloc w (.cells #[.slice (some ⟨g, o, none⟩) nc cac, .slice aof nf caf, .slice aot nt cat] 26)).1
  generalize rch f = xs at HRE ⊢
  clear h hf hu hm hr hnc hnf hgl hcell
  go_enter Tryd.func54, Tryd.ntmps54
  go_wp2_with (first | (at_make; refine wpList_make_bools rfl _ _ rfl nf _ _ rfl rfl hfn ?_; intro w1 o1 g1; have O1 := hid (show Ow eB 1 4 (w.heap.size + 1) w1 (.slice (some ⟨w.heap.size + 1, 0, none⟩) nf nf) (List.replicate nf false) from by simpa using o1); have G1 := hid (Gr.trans K1.out g1); obtain ⟨p0, p1, p2, pl⟩ := p_cells (gr_blk B1.out g1); have P1 := hid (gr_blk B1.out g1); clear o1 g1) | (go_at_call 36; refine (HRE.out _ G1.out).mono ?_; rintro e w2 ⟨v, cm, rfl, o2, hl2, hz2, _, g2⟩; obtain ⟨ao2, cap2, hv2⟩ := o2.form; rw [hl2] at hv2; subst hv2; have L2 := hid hl2; have O2 := hid (o2.lower (show w.heap.size + 2 ≤ _ from (O1.out.blk (q := w.heap.size + 1) rfl).2)); have Z2 := hid hz2; have OB := hid (O1.out.gr g2); have P2 := hid (gr_blk P1.out g2); have G2 := hid (Gr.trans G1.out g2); clear o2 g2 hz2 hl2))
  rename World => V
  go_loopg [9] nc (fun m i wq => ∃ (k : Nat) (bs : List Bool), k + m = nc ∧ i = .int .i64 ((k : Nat) : Int) ∧ bs.length = nf ∧ Ow eB 1 4 (w.heap.size + 1) wq (.slice (some ⟨w.heap.size + 1, 0, none⟩) nf nf) bs ∧ (∀ x, bt bs x ↔ x ∈ nmL cs sp (rz cm k)) ∧ Ow eB 1 4 (w.heap.size + 2) wq (.slice ao2 nc cap2) cm ∧ wq.heap[w.heap.size]? = some (.cells #[.slice (some ⟨g, o, none⟩) nc cac, .slice aof nf caf, .slice aot nt cat] 26 (0, 0)) ∧ Gr w wq)
  case atStart => exact ⟨0, _, by omega, rfl, by simp, OB.out, fun x => ⟨fun q => absurd q (bt_rep _ _), (fun q => by simp [nmL, rz] at q)⟩, O2.out, P2.out, G2.out⟩
  case round =>
    obtain ⟨k, bs, hkm, rfl, hbl, hO, hA, hC, hP, hG⟩ := hrel
    have HO := hid hO
    have HA := hid hA
    have HC := hid hC
    have HP := hid hP
    have HG := hid hG
    have HBL := hid hbl
    clear hO hA hC hP hG hbl
    by_cases hk : k < nc
    · obtain ⟨m, hmw⟩ : ∃ m, cs[k]? = some m := ⟨_, List.getElem?_eq_getElem (by rw [← HNC.out]; exact hk)⟩
      obtain ⟨u0, u1⟩ := HU.out m (List.mem_of_getElem? hmw)
      have HDE := hid (fun (W : World) => rdecode_all m u0 u1 W)
      obtain ⟨c, hc⟩ : ∃ c, cm[k]? = some c := ⟨_, List.getElem?_eq_getElem (by rw [L2.out]; exact hk)⟩
      have HSN := hid (nmL_snoc cs sp (rz cm k) (k : Int))
      have HRZ := hid (rz_succ cm k)
      rw [hc] at HRZ
      rw [Int.toNat_natCast, hmw] at HSN
      simp only [Option.getD_some] at HSN HRZ
      have HI := hid (show cO sp (dI m).1 = true → 0 ≤ (dI m).2.2.2.2 ∧ (dI m).2.2.2.2 < (nf : Int) from fun q => HIM.out k m _ hmw (by unfold cW; rw [Int.toNat_natCast, hmw]; simp only [Option.getD_some]; rw [if_pos q]))
      have cw := HCE.out k m _ hmw HG.out
      have lg := HLG.out _ HG.out
      obtain ⟨p0, p1, p2, pl⟩ := p_cells HP.out
      obtain ⟨gx, cap', hv, _, hgx, _, hcs, _, _⟩ := HC.out.get eB_len hc
      injection hv with hv1 hv2 hv3
      subst hv1
      have c0 := hcs 0 _ rfl
      rw [Nat.mul_one, Nat.add_zero] at c0
      have HCC := hid (show ∀ W, Gr wr W → W.cell? ⟨gx, k, none⟩ = some (.bool c) from fun W p => (p.cell hgx).trans c0)
      have HGX := hid (show ∀ W, Gr wr W → gx < W.heap.size from fun W p => Nat.lt_of_lt_of_le hgx p.size)
      have k0 : (0 : Int) ≤ (k : Int) := by omega
      have k1 : (k : Int) < (nc : Int) := by omega
      unfold iV at HDE
      generalize dI m = II at HDE HSN HI
      generalize dE m = E at HDE
      obtain ⟨o1, o2, o3, o4, im⟩ := II
      simp only at HDE HSN HI
      clear hcs hv2 hv3 hc hmw u0 u1 c0
      cases c with
      | false =>
        have HZ := hid (show nmL cs sp (rz cm (k + 1)) = nmL cs sp (rz cm k) by rw [HRZ.out]; simp)
        go_wp2_with (go_at_call 10; refine (HDE.out _).mono ?_; rintro e w3 ⟨rfl, g3⟩; have L3 := hid (Ch.alloc g3 (.cells #[.int .i64 o1, .int .i64 o2, .int .i64 o3, .int .i64 o4, .int .i64 im] 37)); have c3 := HCC.out _ g3; have lx3 := HGX.out _ g3; have c4 := HCC.out _ L3.out; have lx4 := HGX.out _ L3.out; clear g3)
        clear cw
        go_roundg (gk - 1)
        case measure => omega
        case rel => exact ⟨k + 1, bs, by omega, by simp, HBL.out, HO.out.gr L3.out, by rw [HZ.out]; exact HA.out, HC.out.gr L3.out, gr_blk HP.out L3.out, Gr.trans HG.out L3.out⟩
      | true =>
        have HR1 := hid (show rz cm (k + 1) = rz cm k ++ [(k : Int)] by rw [HRZ.out]; simp)
        by_cases e20 : o1 = 20
        · subst e20
          have HZ := hid (show nmL cs sp (rz cm (k + 1)) = nmL cs sp (rz cm k) ++ [im] by rw [HR1.out, HSN.out]; simp [cO])
          obtain ⟨i0, i1⟩ := HI.out (by simp [cO])
          obtain ⟨u, rfl⟩ : ∃ u : Nat, im = (u : Int) := ⟨im.toNat, by omega⟩
          obtain ⟨b, hb⟩ : ∃ b, bs[u]? = some b := ⟨_, List.getElem?_eq_getElem (by rw [HBL.out]; omega)⟩
          have hbu : u < bs.length := (List.getElem?_eq_some_iff.1 hb).1
          have HBU := hid (fun x => bt_set bs u hbu x)
          have HBO := hid (fun (W : World) (p : Gr wr W) => (HO.out.gr p).bit hb)
          clear hb hbu
          go_wp2_with (go_at_call 10; refine (HDE.out _).mono ?_; rintro e w3 ⟨rfl, g3⟩; have L3 := hid (Ch.alloc g3 (.cells #[.int .i64 (20 : Int), .int .i64 o2, .int .i64 o3, .int .i64 o4, .int .i64 ((u : Nat) : Int)] 37)); have c3 := HCC.out _ g3; have lx3 := HGX.out _ g3; have c4 := HCC.out _ L3.out; have lx4 := HGX.out _ L3.out; obtain ⟨cb, zb, lb, sb⟩ := HBO.out _ L3.out; have MS := hid (sb true); clear sb; clear g3)
          clear cw c3 c4 cb zb lb
          go_roundg (gk - 1)
          case measure => omega
          case rel =>
            refine ⟨k + 1, bs.set u true, by omega, by simp, by rw [List.length_set]; exact HBL.out, MS.out, fun x => ?_, (HC.out.gr L3.out).ch ((Ch.refl (Only (w.heap.size + 1)) _).own u (.bool true)) (fun q hq e => by have e1 : q = w.heap.size + 1 := e; have := (HC.out.blk hq).1; omega), (((Ch.refl (Only (w.heap.size + 1)) _).own u (.bool true)).block w.heap.size (lt_of_block (gr_blk HP.out L3.out)) (fun q => by have q1 : w.heap.size = w.heap.size + 1 := q; omega)).trans (gr_blk HP.out L3.out), Ch.fresh (Gr.trans HG.out L3.out) (by omega) u (.bool true)⟩
            rw [HZ.out, List.mem_append, ← HA.out, HBU.out]
            simp only [List.mem_cons, List.not_mem_nil, or_false]
            exact Or.comm
        · have e20' : (o1 == 20) = false := by simpa using e20
          cases sp with
          | false =>
            have HZ := hid (show nmL cs false (rz cm (k + 1)) = nmL cs false (rz cm k) by rw [HR1.out, HSN.out]; simp [cO, e20])
            go_wp2_with (go_at_call 10; refine (HDE.out _).mono ?_; rintro e w3 ⟨rfl, g3⟩; have L3 := hid (Ch.alloc g3 (.cells #[.int .i64 o1, .int .i64 o2, .int .i64 o3, .int .i64 o4, .int .i64 im] 37)); have c3 := HCC.out _ g3; have lx3 := HGX.out _ g3; have c4 := HCC.out _ L3.out; have lx4 := HGX.out _ L3.out; clear g3)
            clear cw
            go_roundg (gk - 1)
            case measure => omega
            case rel => exact ⟨k + 1, bs, by omega, by simp, HBL.out, HO.out.gr L3.out, by rw [HZ.out]; exact HA.out, HC.out.gr L3.out, gr_blk HP.out L3.out, Gr.trans HG.out L3.out⟩
          | true =>
            by_cases e22 : o1 = 22
            · subst e22
              have HZ := hid (show nmL cs true (rz cm (k + 1)) = nmL cs true (rz cm k) ++ [im] by rw [HR1.out, HSN.out]; simp [cO])
              obtain ⟨i0, i1⟩ := HI.out (by simp [cO])
              obtain ⟨u, rfl⟩ : ∃ u : Nat, im = (u : Int) := ⟨im.toNat, by omega⟩
              obtain ⟨b, hb⟩ : ∃ b, bs[u]? = some b := ⟨_, List.getElem?_eq_getElem (by rw [HBL.out]; omega)⟩
              have hbu : u < bs.length := (List.getElem?_eq_some_iff.1 hb).1
              have HBU := hid (fun x => bt_set bs u hbu x)
              have HBO := hid (fun (W : World) (p : Gr wr W) => (HO.out.gr p).bit hb)
              clear hb hbu
              go_wp2_with (go_at_call 10; refine (HDE.out _).mono ?_; rintro e w3 ⟨rfl, g3⟩; have L3 := hid (Ch.alloc g3 (.cells #[.int .i64 (22 : Int), .int .i64 o2, .int .i64 o3, .int .i64 o4, .int .i64 ((u : Nat) : Int)] 37)); have c3 := HCC.out _ g3; have lx3 := HGX.out _ g3; have c4 := HCC.out _ L3.out; have lx4 := HGX.out _ L3.out; obtain ⟨cb, zb, lb, sb⟩ := HBO.out _ L3.out; have MS := hid (sb true); clear sb; clear g3)
              clear cw c3 c4 cb zb lb
              go_roundg (gk - 1)
              case measure => omega
              case rel =>
                refine ⟨k + 1, bs.set u true, by omega, by simp, by rw [List.length_set]; exact HBL.out, MS.out, fun x => ?_, (HC.out.gr L3.out).ch ((Ch.refl (Only (w.heap.size + 1)) _).own u (.bool true)) (fun q hq e => by have e1 : q = w.heap.size + 1 := e; have := (HC.out.blk hq).1; omega), (((Ch.refl (Only (w.heap.size + 1)) _).own u (.bool true)).block w.heap.size (lt_of_block (gr_blk HP.out L3.out)) (fun q => by have q1 : w.heap.size = w.heap.size + 1 := q; omega)).trans (gr_blk HP.out L3.out), Ch.fresh (Gr.trans HG.out L3.out) (by omega) u (.bool true)⟩
                rw [HZ.out, List.mem_append, ← HA.out, HBU.out]
                simp only [List.mem_cons, List.not_mem_nil, or_false]
                exact Or.comm
            · have e22' : (o1 == 22) = false := by simpa using e22
              have HZ := hid (show nmL cs true (rz cm (k + 1)) = nmL cs true (rz cm k) by rw [HR1.out, HSN.out]; simp [cO, e20, e22])
              go_wp2_with (go_at_call 10; refine (HDE.out _).mono ?_; rintro e w3 ⟨rfl, g3⟩; have L3 := hid (Ch.alloc g3 (.cells #[.int .i64 o1, .int .i64 o2, .int .i64 o3, .int .i64 o4, .int .i64 im] 37)); have c3 := HCC.out _ g3; have lx3 := HGX.out _ g3; have c4 := HCC.out _ L3.out; have lx4 := HGX.out _ L3.out; clear g3)
              clear cw
              go_roundg (gk - 1)
              case measure => omega
              case rel => exact ⟨k + 1, bs, by omega, by simp, HBL.out, HO.out.gr L3.out, by rw [HZ.out]; exact HA.out, HC.out.gr L3.out, gr_blk HP.out L3.out, Gr.trans HG.out L3.out⟩
    · have kn : ¬ (k : Int) < (nc : Int) := by omega
      have hke : k = nc := by omega
      subst hke
      rw [Z2.out] at HA
      go_wp2
      go_ret
      exact ⟨_, bs, rfl, HO.out.lower (by omega), HBL.out, HA.out, HG.out⟩
end Go.Proofs.YtollfepggicehabDoor.Lt
