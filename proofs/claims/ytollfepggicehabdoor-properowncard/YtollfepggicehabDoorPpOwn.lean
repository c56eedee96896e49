/-
  What ProperOwn answers of any program and function. Conditions: the tables lie where they lie; words are words.
-/
import Derived.Test.YtollfepggicehabDoorPpRCalls
import Derived.Test.YtollfepggicehabDoorPpSame
import Derived.Test.YtollfepggicehabDoorPpAwake
import Derived.Test.YtollfepggicehabDoorPpOwn0
import Derived.Deep.DeepCutAuto
namespace Go.Proofs.YtollfepggicehabDoor.Lt
open Go.RowKit Wd

theorem blk_nil2 (q : Nat) : ¬ Blk (.slice none 0 0) q := fun e => by cases e
theorem Pin.tr {P : Nat → Prop} {w : World} {vc vf vt : Value} {cs : List Int} {fs : List (Int × Int)} {ts : List Tb} (h : Pin P w vc vf vt cs fs ts) : Pin (fun _ => True) w vc vf vt cs fs ts := ⟨h.c.mono (fun _ _ _ => trivial), h.f.mono (fun _ _ _ => trivial), h.t.mono (fun _ _ _ => trivial), fun t ht => (h.cs t ht).mono (fun _ _ _ => trivial)⟩
theorem eU_ones (xs : List Int) : ∀ u ∈ xs.flatMap eU, u.oneCell' = true := by
  intro u hu
  rw [List.mem_flatMap] at hu
  obtain ⟨x, _, hx⟩ := hu
  simp only [eU, List.mem_cons, List.not_mem_nil, or_false] at hx
  rw [hx]
  rfl
theorem eG_ones (xs : List (Int × Int)) : ∀ u ∈ xs.flatMap eG, u.oneCell' = true := by
  intro u hu
  rw [List.mem_flatMap] at hu
  obtain ⟨x, _, hx⟩ := hu
  simp only [eG, List.mem_cons, List.not_mem_nil, or_false] at hx
  rcases hx with rfl | rfl <;> rfl
theorem u32_info : (Tryd.prog.info? 40).map (fun i => (i.zero, i.size, i.bytes)) = some (some (.int .u32 0), 1, 4) := by kernel_rfl
theorem func_info : (Tryd.prog.info? 45).map (fun i => (i.zero, i.size, i.bytes)) = some (some (.agg #[.int .i64 0, .int .i64 0]), 2, 16) := by kernel_rfl
/-- both programs in a world: the one handed in, its copy -/
structure Two (w : World) (b0 b1 : Nat) (aoc aof aot aoq aor : Option Addr) (nc nf nt cac caf cat caq car : Nat) (cs : List Int) (fs : List (Int × Int)) (ts : List Tb) : Prop where
  p : w.heap[b0]? = some (.cells #[.slice aoc nc cac, .slice aof nf caf, .slice aot nt cat] 26 (0, 0))
  q : w.heap[b1]? = some (.cells #[.slice aoq nc caq, .slice aor nf car, .slice aot nt cat] 26 (0, 0))
  hp : Pin (fun _ => True) w (.slice aoc nc cac) (.slice aof nf caf) (.slice aot nt cat) cs fs ts
  hq : Pin (fun _ => True) w (.slice aoq nc caq) (.slice aor nf car) (.slice aot nt cat) cs fs ts
theorem Two.gr {w w' : World} {b0 b1 : Nat} {aoc aof aot aoq aor : Option Addr} {nc nf nt cac caf cat caq car : Nat} {cs : List Int} {fs : List (Int × Int)} {ts : List Tb} (h : Two w b0 b1 aoc aof aot aoq aor nc nf nt cac caf cat caq car cs fs ts) (g : Gr w w') : Two w' b0 b1 aoc aof aot aoq aor nc nf nt cac caf cat caq car cs fs ts := ⟨gr_blk h.p g, gr_blk h.q g, h.hp.gr g, h.hq.gr g⟩
set_option maxHeartbeats 4000000 in
set_option maxRecDepth 20000 in
theorem own_any (P : Nat → Prop) (w : World) (ia ib ic : Value) (cs : List Int) (fs : List (Int × Int)) (ts : List Tb) (f : Int) (h : Pin P w ia ib ic cs fs ts) (hcl : cs.length ≤ 35184372088832) (hfl : fs.length ≤ 8796093022208) (_ht : ts.length ≤ 4398046511104) (_hq : ∀ t ∈ ts, t.cs.length ≤ 4398046511104) (hu : U32s cs) (hg : Glb w) :
    Calls Tryd.prog 5 #[.agg #[ia, ib, ic], .int .i64 f] w fun e w' => e = .returned (.bool true) ∧ Gr w w' := by
  have HPIN := hid h.tr
  obtain ⟨rch, hr⟩ := rcs_ex cs fs
  obtain ⟨cls, hcls⟩ := cls_ex cs fs rch true
  have HU := hid hu
  have HG := hid hg
  have HXL := hid (clN_len2 (ts := ts) hcls f)
  have HRL := hid (rcN_len2 (ts := ts) hr f)
  have HPC := hid (fun (W : World) (va vb vc : Value) (p : Pin (fun _ => True) W va vb vc cs fs ts) (q : Glb W) => pCalls_any _ W va vb vc cs fs ts p hu q rch hr true cls hcls f)
  have HRC := hid (fun (W : World) (va vb vc : Value) (p : Pin (fun _ => True) W va vb vc cs fs ts) => rCalls_any _ W va vb vc cs fs ts p hu rch hr true cls hcls f)
  have HPR := hid (fun (W : World) (va vb vc : Value) (p : Pin (fun _ => True) W va vb vc cs fs ts) (q : Glb W) => pReach_any _ W va vb vc cs fs ts p hu q rch hr f)
  have HRR := hid (fun (W : World) (va vb vc : Value) (p : Pin (fun _ => True) W va vb vc cs fs ts) => rReach_any _ W va vb vc cs fs ts p hu rch hr f)
  have HV := hid (fun (W : World) (q : Glb W) => awake_any W q)
  obtain ⟨aoc, cac, hia⟩ := h.c.form
  obtain ⟨aof, caf, hib⟩ := h.f.form
  obtain ⟨aot, cat, hic⟩ := h.t.form
  generalize ask cs fs ts f (fs.length : Int) = E at HPC HRC HPR HRR
  generalize rcN cs fs ts cls f = XL at HPC HRC HXL
  generalize rcN cs fs ts rch f = RL at HPR HRR HRL
  obtain ⟨nc, hnc⟩ : ∃ n, n = cs.length := ⟨_, rfl⟩
  obtain ⟨nf, hnf⟩ : ∃ n, n = fs.length := ⟨_, rfl⟩
  rw [← hnc] at hia hcl
  rw [← hnf] at hib hfl
  generalize ts.length = nt at hic
  have HNC := hid hnc
  have HNF := hid hnf
  subst hia hib hic
  have K1 := hid (Ch.alloc (Gr.alloc (Gr.refl w) #[.slice aoc nc cac, .slice aof nf caf, .slice aot nt cat] 26) (.cells #[.slice none 0 0, .slice none 0 0, .slice none 0 0] 26))
  have B0 := hid (show ((w.alloc (.cells #[.slice aoc nc cac, .slice aof nf caf, .slice aot nt cat] 26)).alloc (.cells #[.slice none 0 0, .slice none 0 0, .slice none 0 0] 26)).heap[w.heap.size]? = some (.cells #[.slice aoc nc cac, .slice aof nf caf, .slice aot nt cat] 26 (0, 0)) from al_blk (MapKept.heap_alloc w _).1 _)
  have B1 := hid (show ((w.alloc (.cells #[.slice aoc nc cac, .slice aof nf caf, .slice aot nt cat] 26)).alloc (.cells #[.slice none 0 0, .slice none 0 0, .slice none 0 0] 26)).heap[w.heap.size + 1]? = some (.cells #[.slice none 0 0, .slice none 0 0, .slice none 0 0] 26 (0, 0)) by simpa using (MapKept.heap_alloc (w.alloc (.cells #[.slice aoc nc cac, .slice aof nf caf, .slice aot nt cat] 26)) (.cells #[.slice none 0 0, .slice none 0 0, .slice none 0 0] 26)).1)
  have L0 := hid (h.tr.gr K1.out)
  clear h hu hg hr hcls hnc hnf _ht _hq
  go_enter Tryd.func5, Tryd.ntmps5
  go_upto_region 3 with (at_builtin; refine wpList_append_ow eU_len rfl (.tmp 20) (.tmp 22) _ 40 4 _ Tryd.underlying22 u32_info rfl (by omega) rfl (w.heap.size + 2) (.slice none 0 0) [] rfl (Ow.nil _ _ _ _ _) (fun _ => True) (.slice aoc nc cac) cs rfl L0.out.c (eU_ones cs) nc (by rw [HNC.out]; simp) (by omega) (by unfold maxLen; omega) (by simp) cs (List.nil_append _) ?_; intro aoq caq w2 ow2 cw2 bl2; have OC := hid ow2; have C2 := hid (show Gr ((w.alloc (.cells #[.slice aoc nc cac, .slice aof nf caf, .slice aot nt cat] 26)).alloc (.cells #[.slice none 0 0, .slice none 0 0, .slice none 0 0] 26)) w2 from cw2.mono (fun q e => absurd e (blk_nil2 q))); have b1 := gr_blk B1.out C2.out; have BQ2 := hid b1; have BP2 := hid (gr_blk B0.out C2.out); obtain ⟨s0, s1, s2, sl⟩ := p_cells b1; obtain ⟨t0, t1, t2, tl⟩ := p_cells BP2.out; have z0 := frozen_of b1 0; clear ow2 cw2 bl2 b1)
  have OC3 := hid (show Ow eU 1 40 (w.heap.size + 2) (w2.setCell ⟨w.heap.size + 1, 0, none⟩ (.slice aoq nc caq)) (.slice aoq nc caq) cs from OC.out.ch ((Ch.refl (Only (w.heap.size + 1)) w2).own 0 _) (fun q hq e => by have e1 : q = w.heap.size + 1 := e; have := (OC.out.blk hq).1; omega))
  have BQ3 := hid (show (w2.setCell ⟨w.heap.size + 1, 0, none⟩ (.slice aoq nc caq)).heap[w.heap.size + 1]? = some (.cells #[.slice aoq nc caq, .slice none 0 0, .slice none 0 0] 26 (0, 0)) by simpa using setCell_block BQ2.out 0 (.slice aoq nc caq))
  have BP3 := hid (show (w2.setCell ⟨w.heap.size + 1, 0, none⟩ (.slice aoq nc caq)).heap[w.heap.size]? = some (.cells #[.slice aoc nc cac, .slice aof nf caf, .slice aot nt cat] 26 (0, 0)) from (((Ch.refl (Only (w.heap.size + 1)) w2).own 0 _).block w.heap.size (lt_of_block BP2.out) (fun q => by have q1 : w.heap.size = w.heap.size + 1 := q; omega)).trans BP2.out)
  have G3 := hid (show Gr w (w2.setCell ⟨w.heap.size + 1, 0, none⟩ (.slice aoq nc caq)) from Ch.fresh (Gr.trans K1.out C2.out) (by omega) 0 _)
  have L3 := hid (HPIN.out.gr G3.out)
  clear s0 s1 s2 sl t0 t1 t2 tl z0
  generalize w2.setCell ⟨w.heap.size + 1, 0, none⟩ (.slice aoq nc caq) = W3 at OC3 BQ3 BP3 G3 L3 ⊢
  obtain ⟨s0, s1, s2, sl⟩ := p_cells BQ3.out
  obtain ⟨t0, t1, t2, tl⟩ := p_cells BP3.out
  go_upto_region 4 with (at_builtin; refine wpList_append_ow eG_len rfl (.tmp 26) (.tmp 28) _ 45 16 _ Tryd.underlying23 func_info rfl (by omega) rfl W3.heap.size (.slice none 0 0) [] rfl (Ow.nil _ _ _ _ _) (fun _ => True) (.slice aof nf caf) fs rfl L3.out.f (eG_ones fs) nf (by rw [HNF.out]; simp) (by omega) (by unfold maxLen; omega) (Nat.le_refl _) fs (List.nil_append _) ?_; intro aor car w4 ow4 cw4 bl4; have OF := hid ow4; have C4 := hid (show Gr W3 w4 from cw4.mono (fun q e => absurd e (blk_nil2 q))); have b4 := gr_blk BQ3.out C4.out; have BQ4 := hid b4; have BP4 := hid (gr_blk BP3.out C4.out); obtain ⟨s0, s1, s2, sl⟩ := p_cells b4; obtain ⟨t0, t1, t2, tl⟩ := p_cells BP4.out; have z1 := frozen_of b4 1; have z2 := frozen_of b4 2; clear ow4 cw4 bl4 b4)
  have key5 : ∀ W5, W5 = (w4.setCell ⟨w.heap.size + 1, 1, none⟩ (.slice aor nf car)).setCell ⟨w.heap.size + 1, 2, none⟩ (.slice aot nt cat) → Gr w W5 ∧ Two W5 w.heap.size (w.heap.size + 1) aoc aof aot aoq aor nc nf nt cac caf cat caq car cs fs ts := fun W5 e5 => by
    subst e5
    have g5 : Gr w ((w4.setCell ⟨w.heap.size + 1, 1, none⟩ (.slice aor nf car)).setCell ⟨w.heap.size + 1, 2, none⟩ (.slice aot nt cat)) := Ch.fresh (Ch.fresh (Gr.trans G3.out C4.out) (by omega) _ _) (by omega) _ _
    have c5 : Ch (Only (w.heap.size + 1)) w4 ((w4.setCell ⟨w.heap.size + 1, 1, none⟩ (.slice aor nf car)).setCell ⟨w.heap.size + 1, 2, none⟩ (.slice aot nt cat)) := ((Ch.refl (Only (w.heap.size + 1)) w4).own 1 _).own 2 _
    refine ⟨g5, ⟨(c5.block w.heap.size (lt_of_block BP4.out) (fun q => by have q1 : w.heap.size = w.heap.size + 1 := q; omega)).trans BP4.out, by simpa using setCell_block (setCell_block BQ4.out 1 (.slice aor nf car)) 2 (.slice aot nt cat), HPIN.out.gr g5, ⟨?_, ?_, (HPIN.out.gr g5).t, (HPIN.out.gr g5).cs⟩⟩⟩
    · exact ((OC3.out.gr C4.out).ch c5 (fun q hq e => by have e1 : q = w.heap.size + 1 := e; have := (OC3.out.blk hq).1; omega)).lst.mono (fun _ _ _ => trivial)
    · exact (OF.out.ch c5 (fun q hq e => by have e1 : q = w.heap.size + 1 := e; have := (OF.out.blk hq).1; have := lt_of_block BQ3.out; omega)).lst.mono (fun _ _ _ => trivial)
  have KEY5 := hid key5
  clear key5
  go_wp2_with fail
  obtain ⟨W5, hW5⟩ : ∃ x, x = (w4.setCell ⟨w.heap.size + 1, 1, none⟩ (.slice aor nf car)).setCell ⟨w.heap.size + 1, 2, none⟩ (.slice aot nt cat) := ⟨_, rfl⟩
  obtain ⟨g5, t5⟩ := KEY5.out W5 hW5
  rw [← hW5]
  have G5 := hid g5
  have T5 := hid t5
  clear s0 s1 s2 sl t0 t1 t2 tl z1 z2 g5 t5 hW5 KEY5
  go_loopg [6] 2 (fun m i wq => ∃ k : Nat, k + m = 2 ∧ i = .int .i64 ((k : Nat) : Int) ∧ Gr W5 wq)
  case atStart => exact ⟨0, by omega, rfl, Gr.refl _⟩
  case round =>
    obtain ⟨k, hkm, rfl, hGk⟩ := hrel
    have HGk := hid hGk
    have HT := hid (T5.out.gr hGk)
    have HGl := hid (HG.out.gr (Gr.trans G5.out hGk))
    obtain ⟨s0, s1, s2, sl⟩ := p_cells HT.out.q
    obtain ⟨t0, t1, t2, tl⟩ := p_cells HT.out.p
    clear hGk
    by_cases hk : k < 2
    · have k2 : (k : Int) < 2 := by omega
      obtain ⟨W, hW⟩ : ∃ x, x = wr := ⟨_, rfl⟩
      subst hW
      go_wp2_with (first
        | (go_at_call 8; refine (HPC.out _ _ _ _ HT.out.hq HGl.out).mono ?_; rintro e w1 ⟨v1, rfl, o1, g1⟩; obtain ⟨ao1, cap1, hv1⟩ := o1.form; subst hv1; have O1 := hid o1; have G1 := hid g1; have T1 := hid (HT.out.gr g1); obtain ⟨m0, m1, m2, ml⟩ := p_cells T1.out.q; obtain ⟨n0, n1, n2, nl⟩ := p_cells T1.out.p; clear o1 g1)
        | (go_at_call 14; refine (HRC.out _ _ _ _ T1.out.hp).mono ?_; rintro e w2 ⟨v2, rfl, o2, g2⟩; obtain ⟨ao2, cap2, hv2⟩ := o2.form; subst hv2; have O2 := hid o2; have O12 := hid (O1.out.gr g2); have G2 := hid (Gr.trans G1.out g2); have T2 := hid (T1.out.gr g2); obtain ⟨x0, x1, x2, xl⟩ := p_cells T2.out.q; obtain ⟨y0, y1, y2, yl⟩ := p_cells T2.out.p; clear o2 g2)
        | (go_at_call 9; refine (HPR.out _ _ _ _ T2.out.hq (HGl.out.gr G2.out)).mono ?_; rintro e w3 ⟨v3, rfl, o3, g3⟩; obtain ⟨ao3, cap3, hv3⟩ := o3.form; subst hv3; have O3 := hid o3; have O13 := hid (O12.out.gr g3); have O23 := hid (O2.out.gr g3); have S3 := hid (show ∀ q, Blk (.slice ao1 XL.length cap1) q → q < w2.heap.size from fun q hq => (O12.out.blk hq).2); have G3' := hid (Gr.trans G2.out g3); have S4 := hid (G2.out.size); have T3 := hid (T2.out.gr g3); obtain ⟨c0, c1, c2, cl⟩ := p_cells T3.out.q; obtain ⟨d0, d1, d2, dl⟩ := p_cells T3.out.p; clear o3 g3)
        | (go_at_call 15; refine (HRR.out _ _ _ _ T3.out.hp).mono ?_; rintro e w4 ⟨v4, rfl, o4, g4⟩; obtain ⟨ao4, cap4, hv4⟩ := o4.form; subst hv4; have O4 := hid o4; have O14 := hid (O13.out.gr g4); have O24 := hid (O23.out.gr g4); have O34 := hid (O3.out.gr g4); have G4' := hid (Gr.trans G3'.out g4); have T4 := hid (T3.out.gr g4); obtain ⟨e0, e1, e2, el⟩ := p_cells T4.out.q; obtain ⟨f0, f1, f2, fl⟩ := p_cells T4.out.p; clear o4 g4)
        | (go_at_call 16; refine (same_any _ _ _ _ _ _ _ _ _ RL O35.out.lst O45.out.lst HRL.out).mono ?_; rintro e w6 ⟨rfl, g6⟩; have G6' := hid (Gr.trans G5'.out g6); have O16 := hid (O15.out.gr g6); have O36 := hid (O35.out.gr g6); have T6 := hid (T5'.out.gr g6); obtain ⟨i0, i1, i2, il⟩ := p_cells T6.out.q; obtain ⟨j0, j1, j2, jl⟩ := p_cells T6.out.p; clear g6)
        | (go_at_call 16; refine (same_any _ _ _ _ _ _ _ _ _ XL O14.out.lst O24.out.lst HXL.out).mono ?_; rintro e w5 ⟨rfl, g5⟩; have G5' := hid (Gr.trans G4'.out g5); have O15 := hid (O14.out.gr g5); have O35 := hid (O34.out.gr g5); have O45 := hid (O4.out.gr g5); have T5' := hid (T4.out.gr g5); clear g5))
      clear s0 s1 s2 sl t0 t1 t2 tl m0 m1 m2 ml n0 n1 n2 nl x0 x1 x2 xl y0 y1 y2 yl c0 c1 c2 cl d0 d1 d2 dl e0 e1 e2 el f0 f1 f2 fl i0 i1 i2 il j0 j1 j2 jl
      obtain ⟨nX, hnX⟩ : ∃ n, n = XL.length := ⟨_, rfl⟩
      have HNX := hid hnX
      have hXL := HXL.out
      have hRL := HRL.out
      rw [← hnX] at O16 S3 hXL
      first | rw [← hnX] | skip
      obtain ⟨nR, hnR⟩ : ∃ n, n = RL.length := ⟨_, rfl⟩
      have HNR := hid hnR
      rw [← hnR] at O36 hRL
      first | rw [← hnR] | skip
      have S3' := hid (show ∀ q, Blk (.slice ao1 nX cap1) q → q < w2.heap.size from S3.out)
      obtain ⟨Z, hZ⟩ : ∃ z, z = w2.heap.size := ⟨_, rfl⟩
      rw [← hZ] at O36 S3' S4
      clear hnX hnR hZ
      rename World => Va
      go_loopg [15] nX (fun m i wq => ∃ (l : Nat) (zs : List Int), l + m = nX ∧ i = .int .i64 ((l : Nat) : Int) ∧ zs.length = nX ∧ Ow eI 1 3 W.heap.size wq (.slice ao1 nX cap1) zs ∧ Ow eI 1 3 Z wq (.slice ao3 nR cap3) RL ∧ Gr W wq)
      case atStart => exact ⟨0, XL, by omega, rfl, HNX.out.symm, O16.out, O36.out, G6'.out⟩
      case round =>
        obtain ⟨l, zs, hlm, rfl, hzl, hA, hB, hG⟩ := hrel
        have HA := hid hA
        have HB := hid hB
        have HGw := hid hG
        have HZL := hid hzl
        clear hA hB hG hzl
        by_cases hl : l < nX
        · obtain ⟨x, hx⟩ : ∃ x, zs[l]? = some x := ⟨_, List.getElem?_eq_getElem (by rw [HZL.out]; exact hl)⟩
          obtain ⟨g, cap', hv, hgb, hgl, _, hcs, hfz, hset⟩ := HA.out.get eI_len hx
          injection hv with hv1 hv2 hv3
          subst hv1
          have c0 := hcs 0 _ rfl
          rw [Nat.mul_one, Nat.add_zero] at c0
          have MS := hset 0 (.int .i64 99) 99 (by omega) rfl
          rw [Nat.mul_one, Nat.add_zero] at MS
          have HMS := hid MS
          have l0 : (0 : Int) ≤ (l : Int) := by omega
          have l1 : (l : Int) < (nX : Int) := by omega
          have HB2 := hid (show Ow eI 1 3 Z (wr.setCell ⟨g, l, none⟩ (.int .i64 99)) (.slice ao3 nR cap3) RL from HB.out.ch ((Ch.refl (Only g) wr).own l _) (fun q hq e => by have e1 : q = g := e; have := S3'.out g rfl; have := (HB.out.blk hq).1; omega))
          have HG2 := hid (show Gr W (wr.setCell ⟨g, l, none⟩ (.int .i64 99)) from Ch.fresh HGw.out hgb l _)
          clear hcs hv2 hv3 hset MS hx
          go_wp2
          clear c0 hfz
          go_roundg (gk - 1)
          case measure => omega
          case rel => exact ⟨l + 1, zs.set l 99, by omega, by simp, by rw [List.length_set]; exact HZL.out, HMS.out, HB2.out, HG2.out⟩
        · have ln : ¬ (l : Int) < (nX : Int) := by omega
          go_wp2_with fail
          rename World => Vb
          go_loopg [16] nR (fun m i wq => ∃ (l : Nat) (zs : List Int), l + m = nR ∧ i = .int .i64 ((l : Nat) : Int) ∧ zs.length = nR ∧ Ow eI 1 3 Z wq (.slice ao3 nR cap3) zs ∧ Gr W wq)
          case atStart => exact ⟨0, RL, by omega, rfl, HNR.out.symm, HB.out, HGw.out⟩
          case round =>
            obtain ⟨r, zt, hrm, rfl, hzl, hB, hG⟩ := hrel
            have HB3 := hid hB
            have HGw3 := hid hG
            have HZL3 := hid hzl
            clear hB hG hzl
            by_cases hr : r < nR
            · obtain ⟨x, hx⟩ : ∃ x, zt[r]? = some x := ⟨_, List.getElem?_eq_getElem (by rw [HZL3.out]; exact hr)⟩
              obtain ⟨g, cap', hv, hgb, hgl, _, hcs, hfz, hset⟩ := HB3.out.get eI_len hx
              injection hv with hv1 hv2 hv3
              subst hv1
              have c0 := hcs 0 _ rfl
              rw [Nat.mul_one, Nat.add_zero] at c0
              have MS := hset 0 (.int .i64 98) 98 (by omega) rfl
              rw [Nat.mul_one, Nat.add_zero] at MS
              have HMS := hid MS
              have l0 : (0 : Int) ≤ (r : Int) := by omega
              have l1 : (r : Int) < (nR : Int) := by omega
              have HG2 := hid (show Gr W (wr.setCell ⟨g, r, none⟩ (.int .i64 98)) from Ch.fresh HGw3.out (by have := S4.out; omega) r _)
              clear hcs hv2 hv3 hset MS hx
              go_wp2
              clear c0 hfz
              go_roundg (gk - 1)
              case measure => omega
              case rel => exact ⟨r + 1, zt.set r 98, by omega, by simp, by rw [List.length_set]; exact HZL3.out, HMS.out, HG2.out⟩
            · have rn : ¬ (r : Int) < (nR : Int) := by omega
              go_wp2_with fail
              rename World => Vc
              go_loopg [17] nc (fun m i wq => ∃ (a : Nat), a + m = nc ∧ i = .int .i64 ((a : Nat) : Int) ∧ Gr W wq)
              case atStart => exact ⟨0, by omega, rfl, HGw3.out⟩
              case round =>
                obtain ⟨a, ham, rfl, hG⟩ := hrel
                have HGw4 := hid hG
                have HT4 := hid (HT.out.gr hG)
                obtain ⟨s0, s1, s2, sl⟩ := p_cells HT4.out.q
                obtain ⟨t0, t1, t2, tl⟩ := p_cells HT4.out.p
                clear hG
                by_cases ha : a < nc
                · obtain ⟨x, hx⟩ : ∃ x, cs[a]? = some x := ⟨_, List.getElem?_eq_getElem (by rw [← HNC.out]; exact ha)⟩
                  obtain ⟨g1, o1, cap1', hv1, _, hl1, _, hc1⟩ := HT4.out.hp.c.get eU_len hx
                  injection hv1 with a1 a2 a3
                  subst a1
                  obtain ⟨g2, o2, cap2', hv2, _, hl2, _, hc2⟩ := HT4.out.hq.c.get eU_len hx
                  injection hv2 with b1 b2 b3
                  subst b1
                  have c1 := hc1 0 _ rfl
                  rw [Nat.mul_one, Nat.add_zero] at c1
                  have c2 := hc2 0 _ rfl
                  rw [Nat.mul_one, Nat.add_zero] at c2
                  have l0 : (0 : Int) ≤ (a : Int) := by omega
                  have l1 : (a : Int) < (nc : Int) := by omega
                  clear hc1 hc2 a2 a3 b2 b3 hx
                  go_wp2_with fail
                  go_region
                  all_goals go_wp2_with fail
                  all_goals go_roundg (gk - 1)
                  all_goals first | omega | exact ⟨a + 1, by omega, by simp, by first | exact HGw4.out | exact Ch.drew HGw4.out⟩
                · have an : ¬ (a : Int) < (nc : Int) := by omega
                  go_wp2_with fail
                  clear s0 s1 s2 sl t0 t1 t2 tl
                  rename World => Vd
                  go_loopg [18] nf (fun m i wq => ∃ (a : Nat), a + m = nf ∧ i = .int .i64 ((a : Nat) : Int) ∧ Gr W wq)
                  case atStart => exact ⟨0, by omega, rfl, HGw4.out⟩
                  case round =>
                    obtain ⟨b, hbm, rfl, hG⟩ := hrel
                    have HGw5 := hid hG
                    have HT5 := hid (HT.out.gr hG)
                    obtain ⟨s0, s1, s2, sl⟩ := p_cells HT5.out.q
                    obtain ⟨t0, t1, t2, tl⟩ := p_cells HT5.out.p
                    clear hG
                    by_cases hb : b < nf
                    · obtain ⟨⟨x1, x2⟩, hx⟩ : ∃ x, fs[b]? = some x := ⟨_, List.getElem?_eq_getElem (by rw [← HNF.out]; exact hb)⟩
                      obtain ⟨g1, o1, cap1', hv1, _, hl1, _, hc1⟩ := HT5.out.hp.f.get eG_len hx
                      injection hv1 with a1 a2 a3
                      subst a1
                      obtain ⟨g2, o2, cap2', hv2, _, hl2, _, hc2⟩ := HT5.out.hq.f.get eG_len hx
                      injection hv2 with b1 b2 b3
                      subst b1
                      have c1 := hc1 0 _ rfl
                      have c1' := hc1 1 _ rfl
                      rw [Nat.add_zero] at c1
                      have c2 := hc2 0 _ rfl
                      have c2' := hc2 1 _ rfl
                      rw [Nat.add_zero] at c2
                      have l0 : (0 : Int) ≤ (b : Int) := by omega
                      have l1 : (b : Int) < (nf : Int) := by omega
                      clear hc1 hc2 a2 a3 b2 b3 hx
                      go_wp2_with fail
                      go_region
                      all_goals go_wp2_with fail
                      all_goals go_roundg (gk - 1)
                      all_goals first | omega | exact ⟨b + 1, by omega, by simp, by first | exact HGw5.out | exact Ch.drew HGw5.out⟩
                    · have bn : ¬ (b : Int) < (nf : Int) := by omega
                      go_wp2
                      go_roundg (2 - (k + 1))
                      case measure => omega
                      case rel => exact ⟨k + 1, by omega, by simp, Gr.trans HGk.out HGw5.out⟩
    · have kn : ¬ (k : Int) < 2 := by omega
      go_wp2_with (go_at_call 7; refine (HV.out _ HGl.out).mono ?_; rintro e w6 ⟨rfl, g6⟩; have G6 := hid (Gr.trans (Gr.trans G5.out HGk.out) g6); clear g6)
      go_ret
      exact ⟨rfl, G6.out⟩
end Go.Proofs.YtollfepggicehabDoor.Lt
