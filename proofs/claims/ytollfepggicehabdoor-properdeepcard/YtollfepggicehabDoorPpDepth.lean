/-
  What the program's depth and Depth answer: how deep calls go. Conditions: the program may be; words are words; the tables lie where they lie.
-/
import Derived.Test.YtollfepggicehabDoorPpNamed
import Derived.Test.YtollfepggicehabDoorPpMap
namespace Go.Proofs.YtollfepggicehabDoor.Lt
open Go.RowKit Wd

/-- a depth is told, and what is known behind it -/
def DpR (b nf : Nat) (wy : Int → List Int) (W : World) (M : List (Int × Int × Nat)) (f : Int) (e : Ending) (W' : World) : Prop := ∃ d, e = .returned (.int .i64 d) ∧ Dp wy f d ∧ Ch (Only b) W W' ∧ (0 ≤ d → ∃ M' c', MAt W' b M' c' ∧ Kw nf wy M' ∧ M.length ≤ M'.length ∧ ∀ g, neg M' g ↔ neg M g)
theorem dp_cases {wy : Int → List Int} {f d : Int} (h : Dp wy f d) : d = -1 ∨ 0 ≤ d := by
  rcases h with ⟨h0, _⟩ | ⟨h0, _⟩
  · exact .inr h0
  · exact .inl h0
theorem range_closed {N : Nat} {wy : Int → List Int} (h : WyIn N wy) : ∀ x ∈ (List.range N).map Int.ofNat, ∀ y, y ∈ wy x → y ∈ (List.range N).map Int.ofNat := by
  intro x hx y hy
  obtain ⟨k, hk, rfl⟩ := List.mem_map.1 hx
  have := h k (List.mem_range.1 hk) y hy
  exact List.mem_map.2 ⟨y.toNat, List.mem_range.2 (by omega), by show ((y.toNat : Nat) : Int) = y; omega⟩
theorem dp_lt {N : Nat} {wy : Int → List Int} (h : WyIn N wy) {f d : Int} (f0 : 0 ≤ f) (f1 : f < (N : Int)) (hd : Dp wy f d) : d < (N : Int) := by
  have := Dp.lt (range_closed h) (List.mem_map.2 ⟨f.toNat, List.mem_range.2 (by omega), by show ((f.toNat : Nat) : Int) = f; omega⟩) hd
  simpa using this
set_option maxHeartbeats 4000000 in
set_option maxRecDepth 20000 in
theorem depth_step (P : Nat → Prop) (w0 : World) (aoc aof aot : Option Addr) (nc nf nt cac caf cat : Nat) (cs : List Int) (fs : List (Int × Int)) (h : Ls eU P w0 (.slice aoc nc cac) cs) (hf : Ls eG P w0 (.slice aof nf caf) fs) (hu : U32s cs) (hm : May cs fs nt) (hg : Glb w0) (rch : Nat → List Int) (hr : Rcs cs fs rch) (b : Nat) (hb0 : w0.heap.size ≤ b) (W : World) (hG : Gr w0 W) (M : List (Int × Int × Nat)) (clock : Nat) (hM : MAt W b M clock) (hK : Kw nf (wF2 cs rch false) M) (f : Nat) (hfl : f < nf) (hst : ∀ g, neg M g → Rp (wF2 cs rch false) g (f : Int))
    (IH : ∀ (V : World) (M' : List (Int × Int × Nat)) (c' : Nat) (y : Nat), y < nf → Gr w0 V → MAt V b M' c' → Kw nf (wF2 cs rch false) M' → M.length < M'.length → (∀ g, neg M' g → Rp (wF2 cs rch false) g (y : Int)) → Calls Tryd.prog 18 #[.agg #[.slice aoc nc cac, .slice aof nf caf, .slice aot nt cat], .int .i64 (y : Nat), .map (some b)] V (DpR b nf (wF2 cs rch false) V M' (y : Int))) :
    Calls Tryd.prog 18 #[.agg #[.slice aoc nc cac, .slice aof nf caf, .slice aot nt cat], .int .i64 (f : Nat), .map (some b)] W (DpR b nf (wF2 cs rch false) W M (f : Int)) := by
  have HN := hid (fun (V : World) (p : Gr w0 V) => pnamed_any P V aoc aof aot nc nf nt cac caf cat cs fs (h.gr p) (hf.gr p) hu hm (hg.gr p) rch hr f hfl false)
  have hnf := hf.len.1
  have HWI := hid (show WyIn nf (wF2 cs rch false) by rw [hnf]; exact wF_in hm hr false)
  have hnf2 : nf ≤ 256 := by rw [hnf]; exact hm.nf
  have HWY := hid (show nmL cs false (rch f) = wF2 cs rch false (f : Int) by unfold wF2; rw [Int.toNat_natCast])
  have hwl := wF_len hm hr false (f : Int)
  rw [HWY.out] at HN
  generalize wF2 cs rch false = wy at HN HWI hwl hK hst IH ⊢
  have HK := hid hK
  have HST := hid hst
  have HIH := hid IH
  have HG0 := hid hG
  have HB0 := hid hb0
  have hbl := hM.lt
  have K1 := hid (show Ch (Only b) W (W.alloc (.cells #[.slice aoc nc cac, .slice aof nf caf, .slice aot nt cat] 26)) from Ch.alloc (Ch.refl _ _) _)
  have G1 := hid (show Gr w0 (W.alloc (.cells #[.slice aoc nc cac, .slice aof nf caf, .slice aot nt cat] 26)) from Ch.alloc hG _)
  have B1 := hid (MapKept.heap_alloc W (.cells #[.slice aoc nc cac, .slice aof nf caf, .slice aot nt cat] 26)).1
  have hM1 : MAt (W.alloc (.cells #[.slice aoc nc cac, .slice aof nf caf, .slice aot nt cat] 26)) b M clock := hM.ch (S := NoB) (Ch.alloc (Ch.refl _ _) _) (noB _)
  have HM1 := hid hM1
  have HM0 := hid hM
  have hbl1 := hM1.lt
  clear h hf hu hm hg hr hK hst IH hG hb0 HWY hnf
  rcases look_M hM1 (f : Int) with ⟨hlk, hn⟩ | ⟨j, v, t, hj, hlk⟩
  · have hnew := update_new hM1 hn (-1)
    have M2 := hid (putM_at hbl1 (M ++ [((f : Int), -1, clock)]) (clock + 1))
    have C2 := hid (putM_ch (W.alloc (.cells #[.slice aoc nc cac, .slice aof nf caf, .slice aot nt cat] 26)) b (M ++ [((f : Int), -1, clock)]) (clock + 1))
    have HKA := hid (HK.out.add hn (by omega) (by omega) clock)
    have HNE := hid (fun g => neg_add (M := M) (f := (f : Int)) (c := clock) g)
    have HN1 := hid hn
    have HLM := hid (show M.length < (M ++ [((f : Int), -1, clock)]).length by simp)
    generalize M ++ [((f : Int), -1, clock)] = M1 at hnew M2 C2 HKA HNE HLM
    clear hM1 hM hn
    go_enter Tryd.func18, Tryd.ntmps18
    generalize hW2 : putM (W.alloc (.cells #[.slice aoc nc cac, .slice aof nf caf, .slice aot nt cat] 26)) b M1 (clock + 1) = W2 at hnew M2 C2
    have J2 := hid ((C2.out.block W.heap.size (by simp) (fun q => by have q1 : W.heap.size = b := q; omega)).trans B1.out)
    obtain ⟨p0, p1, p2, pl⟩ := p_cells J2.out
    have CW2 := hid (Ch.trans' K1.out C2.out)
    have G2 := hid (show Gr w0 W2 from Ch.trans G1.out C2.out (fun q e => .inr (by have e1 : q = b := e; have := HB0.out; omega)))
    clear hW2
    go_wp2_with (go_at_call 22; refine (HN.out _ G2.out).mono ?_; rintro e w3 ⟨v3, rfl, o3, g3⟩; obtain ⟨ao3, cap3, hv3⟩ := o3.form; subst hv3; have O3 := hid o3; have G3 := hid (Gr.trans G2.out g3); have J3 := hid (gr_blk J2.out g3); have M3 := hid (M2.out.ch g3 (noB _)); have CW3 := hid (Ch.trans CW2.out g3 (fun _ x => x.elim)); have S3 := hid (show W.heap.size + 1 ≤ W2.heap.size from lt_of_block J2.out); clear o3 g3)
    obtain ⟨ys, hys⟩ : ∃ ys, ys = wy (f : Int) := ⟨_, rfl⟩
    have HYS := hid hys
    rw [← hys] at O3 hwl
    first | rw [← hys] | skip
    obtain ⟨n, hn⟩ : ∃ n, n = ys.length := ⟨_, rfl⟩
    have HNL := hid hn
    rw [← hn] at O3 hwl
    first | rw [← hn] | skip
    clear p0 p1 p2 pl hys hn hnew hlk
    rename World => V3
    go_loopg [9, 27] n (fun m dd i wq => ∃ (k : Nat) (D : Int) (M' : List (Int × Int × Nat)) (c' : Nat), k + m = n ∧ i = .int .i64 ((k : Nat) : Int) ∧ dd = .int .i64 D ∧ D ≤ 256 ∧ Dm wy ys k D ∧ MAt wq b M' c' ∧ Kw nf wy M' ∧ M.length < M'.length ∧ (∀ g, neg M' g ↔ neg M g ∨ g = (f : Int)) ∧ Ow eI 1 3 (W.heap.size + 1) wq (.slice ao3 n cap3) ys ∧ wq.heap[W.heap.size]? = some (.cells #[.slice aoc nc cac, .slice aof nf caf, .slice aot nt cat] 26 (0, 0)) ∧ Ch (Only b) W wq)
    case atStart => exact ⟨0, 0, M1, clock + 1, by omega, rfl, rfl, by omega, Dm.start _ _, M3.out, HKA.out, HLM.out, HNE.out, O3.out.lower S3.out, J3.out, CW3.out⟩
    case round =>
      obtain ⟨k, D, M', c', hkm, rfl, rfl, hD, hDm, hMA, hKw, hLM, hNE, hO, hJ, hC⟩ := hrel
      have HDm := hid hDm
      have HMA := hid hMA
      have HKw := hid hKw
      have HLM2 := hid hLM
      have HNE2 := hid hNE
      have HO := hid hO
      have HJ := hid hJ
      have HC := hid hC
      have HGr := hid (show Gr w0 wr from Ch.trans HG0.out hC (fun q e => .inr (by have e1 : q = b := e; have := HB0.out; omega)))
      obtain ⟨p0, p1, p2, pl⟩ := p_cells hJ
      have pl9 := pl
      clear hDm hKw hLM hNE hO hJ hC
      by_cases hk : k < n
      · obtain ⟨y, hy⟩ : ∃ y, ys[k]? = some y := ⟨_, List.getElem?_eq_getElem (by rw [← HNL.out]; exact hk)⟩
        have hym : y ∈ wy (f : Int) := by rw [← HYS.out]; exact List.mem_of_getElem? hy
        obtain ⟨y0, y1⟩ := HWI.out f hfl y hym
        obtain ⟨z, rfl⟩ : ∃ z : Nat, y = (z : Int) := ⟨y.toNat, by omega⟩
        have HR := hid (HIH.out wr M' c' z (by omega) HGr.out hMA HKw.out HLM2.out (fun g hg => by
          rcases (HNE2.out g).1 hg with q | q
          · exact (HST.out g q).next hym
          · rw [q]; exact ⟨_, hym, Rc.self _ _⟩))
        have HST2 := hid (fun (d : Int) (d0 : 0 ≤ d) (hd : Dp wy (z : Int) d) => HDm.out.step hy d0 hd)
        have HEN := hid (fun (hd : Dp wy (z : Int) (-1)) => Dp.endless hym hd)
        have HLT := hid (fun (d : Int) (hd : Dp wy (z : Int) d) => dp_lt HWI.out (by omega) (by omega) hd)
        obtain ⟨g5, cap5, hv5, _, hl5, _, hc5, _, _⟩ := HO.out.get eI_len hy
        injection hv5 with hv1 hv2 hv3
        subst hv1
        have c5 := hc5 0 _ rfl
        rw [Nat.mul_one, Nat.add_zero] at c5
        have k0 : (0 : Int) ≤ (k : Int) := by omega
        have k1 : (k : Int) < (n : Int) := by omega
        have hbw := hMA.lt
        clear hc5 hv2 hv3 hy hym hMA
        go_wp2_with (go_at_call 18; refine HR.out.mono ?_; rintro e w6 ⟨d, rfl, hd, c6, h6⟩; have HD6 := hid hd; have C6 := hid c6; have H6 := hid h6; have hd2 := dp_cases hd; have hd3 := HLT.out d hd; clear hd c6 h6)
        · rename_i hq
          have e : d = -1 := by simpa using hq
          subst e
          go_ret
          exact ⟨-1, rfl, HEN.out HD6.out, Ch.trans' HC.out C6.out, fun q => by omega⟩
        · rename_i hq
          have e : ¬ d = -1 := by simpa using hq
          have d0 : 0 ≤ d := by omega
          obtain ⟨M8, c8, m8, k8, l8, n8⟩ := H6.out d0
          have HS8 := hid (HST2.out d d0 HD6.out)
          clear c5 p0 p1 p2 pl
          go_roundg (gk - 1)
          case measure => omega
          case rel => exact ⟨k + 1, max D (d + 1), M8, c8, by omega, by simp, rfl, by rw [Int.max_def]; split <;> omega, by rw [Int.max_def]; exact HS8.out, m8, k8, by have := HLM2.out; omega, fun g => (n8 g).trans (HNE2.out g), HO.out.ch C6.out (fun q hq1 hq2 => by have e1 : q = b := hq2; have := (HO.out.blk hq1).1; omega), (C6.out.block _ pl9 (fun q => by have q1 : W.heap.size = b := q; omega)).trans HJ.out, Ch.trans' HC.out C6.out⟩
      · have kn : ¬ (k : Int) < (n : Int) := by omega
        obtain ⟨t, ht⟩ := (HNE2.out (f : Int)).2 (.inr rfl)
        obtain ⟨j, hj⟩ := List.mem_iff_getElem?.1 ht
        have hup := update_some hMA HKw.out.nd hj D
        have HDD := hid (show Dp wy (f : Int) D from Dm.done (by rw [← HYS.out]; exact HDm.out) (by rw [← HYS.out, ← HNL.out]; omega))
        have M7 := hid (putM_at hMA.lt (M'.set j ((f : Int), D, t)) c')
        have C7 := hid (putM_ch wr b (M'.set j ((f : Int), D, t)) c')
        have HK7 := hid (HKw.out.set hj HDm.out.1 HDD.out)
        have HN7 := hid (fun g => neg_set HKw.out.nd hj HDm.out.1 g)
        clear ht hj hMA
        go_wp2
        go_ret
        refine ⟨D, rfl, HDD.out, Ch.trans' HC.out C7.out, fun _ => ⟨_, _, M7.out, HK7.out, by rw [List.length_set]; have := HLM2.out; omega, fun g => ?_⟩⟩
        rw [HN7.out, HNE2.out]
        constructor
        · rintro ⟨q | q, r⟩
          · exact q
          · exact absurd q r
        · intro q
          exact ⟨.inl q, fun e => by obtain ⟨s, hs⟩ := q; exact HN1.out _ hs e⟩
  · have HD := hid (show Dp wy (f : Int) v from by
      rcases HK.out.d _ (List.mem_of_getElem? hj) with e | ⟨_, e⟩
      · have e' : v = -1 := e
        subst e'
        exact .inr ⟨rfl, (HST.out _ ⟨t, List.mem_of_getElem? hj⟩).round⟩
      · exact e)
    clear hM1 hM hj
    go_enter Tryd.func18, Tryd.ntmps18
    go_wp2
    go_ret
    exact ⟨v, rfl, HD.out, K1.out, fun _ => ⟨M, clock, HM1.out, HK.out, Nat.le_refl _, fun g => Iff.rfl⟩⟩
theorem depth_any (P : Nat → Prop) (w0 : World) (aoc aof aot : Option Addr) (nc nf nt cac caf cat : Nat) (cs : List Int) (fs : List (Int × Int)) (h : Ls eU P w0 (.slice aoc nc cac) cs) (hf : Ls eG P w0 (.slice aof nf caf) fs) (hu : U32s cs) (hm : May cs fs nt) (hg : Glb w0) (rch : Nat → List Int) (hr : Rcs cs fs rch) (b : Nat) (hb0 : w0.heap.size ≤ b) : ∀ (k : Nat) (W : World) (M : List (Int × Int × Nat)) (clock : Nat) (f : Nat), f < nf → Gr w0 W → MAt W b M clock → Kw nf (wF2 cs rch false) M → nf ≤ M.length + k → (∀ g, neg M g → Rp (wF2 cs rch false) g (f : Int)) →
    Calls Tryd.prog 18 #[.agg #[.slice aoc nc cac, .slice aof nf caf, .slice aot nt cat], .int .i64 (f : Nat), .map (some b)] W (DpR b nf (wF2 cs rch false) W M (f : Int)) := by
  intro k
  induction k with
  | zero =>
    intro W M clock f hfl hG hM hK hk hst
    refine depth_step P w0 aoc aof aot nc nf nt cac caf cat cs fs h hf hu hm hg rch hr b hb0 W hG M clock hM hK f hfl hst (fun V M' c' y hy hV hM' hK' hl hs => ?_)
    exfalso
    have := nodup_len (N := nf) hK'.nd (fun x hx => by
      obtain ⟨e, he, rfl⟩ := List.mem_map.1 hx
      exact hK'.r e he)
    simp at this
    omega
  | succ k ih =>
    intro W M clock f hfl hG hM hK hk hst
    exact depth_step P w0 aoc aof aot nc nf nt cac caf cat cs fs h hf hu hm hg rch hr b hb0 W hG M clock hM hK f hfl hst (fun V M' c' y hy hV hM' hK' hl hs => ih V M' c' y hy hV hM' hK' (by omega) hs)
/-- how deep each function's calls go -/
def Dps (cs : List Int) (rch : Nat → List Int) (dp : Nat → Int) : Prop := ∀ j : Nat, Dp (wF2 cs rch false) (j : Int) (dp j)
theorem dps_ex (cs : List Int) (rch : Nat → List Int) : ∃ dp, Dps cs rch dp := ⟨fun j => Classical.choose (Dp.ex (wF2 cs rch false) (j : Int)), fun j => Classical.choose_spec (Dp.ex (wF2 cs rch false) (j : Int))⟩
/-- what Depth answers -/
def dpN (cs : List Int) (fs : List (Int × Int)) (ts : List Tb) (dp : Nat → Int) (f : Int) : Int := if ask cs fs ts f (fs.length : Int) = 0 then dp f.toNat else 0
set_option maxRecDepth 20000 in
theorem pDepth_any (P : Nat → Prop) (w : World) (ia ib ic : Value) (cs : List Int) (fs : List (Int × Int)) (ts : List Tb) (h : Pin P w ia ib ic cs fs ts) (hu : U32s cs) (hg : Glb w) (rch : Nat → List Int) (hr : Rcs cs fs rch) (dp : Nat → Int) (hdp : Dps cs rch dp) (f : Int) :
    Calls Tryd.prog 6 #[.agg #[ia, ib, ic], .int .i64 f] w fun e w' => e = .returned (.tuple #[.int .i64 (dpN cs fs ts dp f), .int .i64 (ask cs fs ts f (fs.length : Int))]) ∧ Gr w w' := by
  have HL := hid (fun (W : World) (p : Gr w W) => asked_any P W ia ib ic cs fs ts (h.gr p) hu (hg.gr p) f (fs.length : Int))
  have HYES := hid (fun (q : ask cs fs ts f (fs.length : Int) = 0) => ask_may q)
  have HC := hid h.c
  have HF := hid h.f
  obtain ⟨aoc, cac, hia⟩ := h.c.form
  obtain ⟨aof, caf, hib⟩ := h.f.form
  obtain ⟨aot, cat, hic⟩ := h.t.form
  unfold dpN
  obtain ⟨nc, hnc⟩ : ∃ n, n = cs.length := ⟨_, rfl⟩
  obtain ⟨nf, hnf⟩ : ∃ n, n = fs.length := ⟨_, rfl⟩
  obtain ⟨nt, hnt⟩ : ∃ n, n = ts.length := ⟨_, rfl⟩
  rw [← hnc] at hia
  rw [← hnf] at hib HL HYES ⊢
  rw [← hnt] at hic HYES
  generalize ask cs fs ts f (nf : Int) = E at HL HYES ⊢
  subst hia hib hic
  have K1 := hid (Gr.alloc (Gr.refl w) #[.slice aoc nc cac, .slice aof nf caf, .slice aot nt cat] 26)
  have B1 := hid (MapKept.heap_alloc w (.cells #[.slice aoc nc cac, .slice aof nf caf, .slice aot nt cat] 26)).1
  by_cases hE : E = 0
  · subst hE
    obtain ⟨hm, f0, f1⟩ := HYES.out (by first | rfl | trivial)
    obtain ⟨j, rfl⟩ : ∃ j : Nat, f = (j : Int) := ⟨f.toNat, by omega⟩
    have HX := hid (fun (W V : World) (p : Gr w V) (q : Gr V W) (b : Nat) (hb : V.heap.size ≤ b) (hM : MAt W b [] 0) => depth_any P V aoc aof aot nc nf nt cac caf cat cs fs (HC.out.gr p) (HF.out.gr p) hu hm (hg.gr p) rch hr b hb nf W [] 0 j (by omega) q hM (Kw.nil _ _) (by simp) (fun g hg => by obtain ⟨_, hh⟩ := hg; cases hh))
    have HU := hid (fun (d : Int) (hd : Dp (wF2 cs rch false) (j : Int) d) => hd.uniq (hdp j))
    simp only [if_true, Int.toNat_natCast]
    generalize dp j = L at HU ⊢
    generalize wF2 cs rch false = wy at HX HU
    clear h hu hg hr hnc hnf hnt hm HC HF hdp
    have hmm := @run_makeMap Tryd.prog
    go_enter Tryd.func6, Tryd.ntmps6
    go_wp2_with (first | (go_at_call 17; refine (HL.out _ K1.out).mono ?_; rintro e w1 ⟨rfl, g1⟩; have G1 := hid (Gr.trans K1.out g1); obtain ⟨p0, p1, p2, pl⟩ := p_cells (gr_blk B1.out g1); clear g1) | (go_at_call 18; refine (HX.out _ w1 G1.out (Ch.alloc (Gr.refl w1) _) _ (Nat.le_refl _) (MapKept.heap_alloc w1 (.map #[] 0)).1).mono ?_; rintro e w2 ⟨d, rfl, hd, c2, _⟩; have e2 := HU.out d hd; subst e2; have G2 := hid (show Gr w w2 from Ch.trans (Ch.alloc G1.out (.map #[] 0)) c2 (fun q e => .inr (by have e1 : q = w1.heap.size := e; have := G1.out.size; omega))); clear hd c2))
    go_ret2
    exact ⟨rfl, G2.out⟩
  · have hE' : (E == 0) = false := by simpa using hE
    rw [if_neg hE]
    clear h hu hg hr hnc hnf hnt HC HF hdp
    go_enter Tryd.func6, Tryd.ntmps6
    go_wp2_with (go_at_call 17; refine (HL.out _ K1.out).mono ?_; rintro e w1 ⟨rfl, g1⟩; have G1 := hid (Gr.trans K1.out g1); clear g1)
    go_ret2
    exact ⟨rfl, G1.out⟩
end Go.Proofs.YtollfepggicehabDoor.Lt
