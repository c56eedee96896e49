/-
  What ProperStays answers of any program, function and ways. Conditions: the tables lie where they lie; words are words.
-/
import Derived.Test.YtollfepggicehaaDoorPpNamed
import Derived.Test.YtollfepggicehaaDoorPpAwake
namespace Go.Proofs.YtollfepggicehaaDoor.Lt
open Go.RowKit Wd

def eY (n : Int) : List Value := [.int .u8 n]
theorem eY_len (n : Int) : (eY n).length = 1 := rfl
theorem ask_ok {cs : List Int} {fs : List (Int × Int)} {ts : List Tb} {a k : Int} (h : (chk cs fs ts).2 = 0) (h0 : 0 ≤ a) (h1 : a < k) : ask cs fs ts a k = 0 := by
  unfold ask
  rw [if_neg (by simpa using h), if_neg (by omega)]
theorem ask_no {cs : List Int} {fs : List (Int × Int)} {ts : List Tb} {a k : Int} (h : ¬ ((chk cs fs ts).2 = 0 ∧ 0 ≤ a ∧ a < k)) : ask cs fs ts a k ≠ 0 := by
  intro q
  unfold ask at q
  split at q
  · rename_i z; exact absurd q z
  · rename_i z
    split at q
    · cases q
    · exact h ⟨Classical.byContradiction z, by omega, by omega⟩
set_option maxHeartbeats 2000000 in
set_option maxRecDepth 20000 in
theorem stays_any (P : Nat → Prop) (w : World) (ia ib ic : Value) (cs : List Int) (fs : List (Int × Int)) (ts : List Tb) (f : Int) (ao : Option Addr) (nw cw : Nat) (ys : List Int) (h : Pin P w ia ib ic cs fs ts) (_hc : cs.length ≤ 35184372088832) (_hf : fs.length ≤ 8796093022208) (_ht : ts.length ≤ 4398046511104) (_hq : ∀ t ∈ ts, t.cs.length ≤ 4398046511104) (hu : U32s cs) (hys : Ls eY P w (.slice ao nw cw) ys) (hyl : nw ≤ 140737488355328) (hyr : ∀ y ∈ ys, 0 ≤ y ∧ y < 256) (hg : Glb w) :
    Calls Tryd.prog 7 #[.agg #[ia, ib, ic], .int .i64 f, .slice ao nw cw] w fun e w' => e = .returned (.bool true) ∧ Gr w w' := by
  obtain ⟨rch, hr⟩ := rcs_ex cs fs
  have HC := hid (fun (W : World) (p : Gr w W) => check_any P W ia ib ic cs fs ts (h.gr p) hu (hg.gr p))
  have HRE := hid (fun (W : World) (p : Gr w W) => pReach_any P W ia ib ic cs fs ts (h.gr p) hu (hg.gr p) rch hr f)
  have HIN := hid (fun (a : Int) (W : World) (p : Gr w W) => pIn_any P W ia ib ic cs fs ts (h.gr p) hu (hg.gr p) a)
  have HNX := hid (fun (a : Int) (W : World) (p : Gr w W) => pNext_any P W ia ib ic cs fs ts (h.gr p) hu (hg.gr p) a)
  have HV := hid (fun (W : World) (q : Glb W) => awake_any W q)
  have HG := hid hg
  have HNO := hid (fun (q : ¬ ((chk cs fs ts).2 = 0 ∧ 0 ≤ f ∧ f < (fs.length : Int))) => ask_no q)
  have HF := hid h.f
  obtain ⟨aoc, cac, hia⟩ := h.c.form
  obtain ⟨aof, caf, hib⟩ := h.f.form
  obtain ⟨aot, cat, hic⟩ := h.t.form
  obtain ⟨nf, hnf⟩ : ∃ n, n = fs.length := ⟨_, rfl⟩
  rw [← hnf] at hib HNO HRE
  generalize hnc : cs.length = nc at hia
  generalize ts.length = nt at hic
  subst hia hib hic
  by_cases hyes : (chk cs fs ts).2 = 0 ∧ 0 ≤ f ∧ f < (nf : Int)
  · obtain ⟨hk, f0, f1⟩ := hyes
    have hm := may_of hk
    obtain ⟨j, rfl⟩ : ∃ j : Nat, f = (j : Int) := ⟨f.toNat, by omega⟩
    obtain ⟨⟨fb, fe⟩, hff⟩ : ∃ x, fs[j]? = some x := ⟨_, List.getElem?_eq_getElem (by rw [← hnf]; omega)⟩
    have hi := hm.p.i _ (List.mem_of_getElem? hff)
    simp only at hi
    have HI := hid (show ∀ (a : Int) W, fb ≤ a → a < fe → Gr w W → Calls Tryd.prog 12 #[.agg #[.slice aoc nc cac, .slice aof nf caf, .slice aot nt cat], .int .i64 a] W fun e w' => e = .returned (.tuple #[.int .i64 (j : Nat), .int .i64 0]) ∧ Gr W w' from fun a W q1 q2 p => by
      have e1 := HIN.out a W p
      have e2 : ask cs fs ts a (cs.length : Int) = 0 := ask_ok hk (by omega) (by omega)
      have e3 : inN cs fs ts a = (j : Int) := by unfold inN; rw [if_pos e2]; exact (hm.p.inx hff a).2 ⟨q1, q2⟩
      rw [e2, e3] at e1
      exact e1)
    have HX := hid (show ∀ (a : Int) W, fb ≤ a → a < fe → Gr w W → Calls Tryd.prog 14 #[.agg #[.slice aoc nc cac, .slice aof nf caf, .slice aot nt cat], .int .i64 a] W (TxR W (wN cs a) 0) from fun a W q1 q2 p => by
      have e1 := HNX.out a W p
      have e2 : ask cs fs ts a (cs.length : Int) = 0 := ask_ok hk (by omega) (by omega)
      have e3 : nxN cs fs ts a = wN cs a := by unfold nxN; rw [if_pos e2]
      rw [e2, e3] at e1
      exact e1)
    have HWN := hid (fun (a : Int) (q1 : fb ≤ a) (q2 : a < fe) (y : Int) (hy : y ∈ wN cs a) => hm.next hff q1 q2 hy)
    have HWL := hid (fun (a : Int) => wN_len cs a)
    have HY := hid hys
    have HYR := hid hyr
    have HYL := hid hys.len.1
    obtain ⟨g, o, cap', hv, _, hgl, _, hcs⟩ := HF.out.get eG_len hff
    injection hv with hv1 hv2 hv3
    subst hv1
    have HT0 := hid (show ∀ W, Gr w W → W.cell? ⟨g, o + j * 2, none⟩ = some (.int .i64 fb) from fun W k => (k.cell hgl).trans (by have := hcs 0 _ rfl; rw [Nat.add_zero] at this; exact this))
    have HLF := hid (show ∀ W, Gr w W → g < W.heap.size from fun W k => Nat.lt_of_lt_of_le hgl k.size)
    have hfbe : fb < fe := by omega
    have n0 : decide ((j : Int) < 0) = false := decide_eq_false (by omega)
    have n1 : decide ((nf : Int) ≤ (j : Int)) = false := decide_eq_false (by omega)
    have n2 : decide (nf ≤ j) = false := decide_eq_false (by omega)
    generalize wN cs = wy at HX HWN HWL
    generalize chk cs fs ts = R at HC hk
    obtain ⟨r1, r2⟩ := R
    simp only at HC hk
    subst hk
    have K1 := hid (Gr.alloc (Gr.refl w) #[.slice aoc nc cac, .slice (some ⟨g, o, none⟩) nf caf, .slice aot nt cat] 26)
    have B1 := hid (MapKept.heap_alloc w (.cells #[.slice aoc nc cac, .slice (some ⟨g, o, none⟩) nf caf, .slice aot nt cat] 26)).1
    clear h hu hg hr hm hff hcs hv2 hv3 hys hyr hgl hi HIN HNX HRE HNO HF hnf hnc _hc _hf _ht _hq
    go_enter Tryd.func7, Tryd.ntmps7
    go_wp2_with (go_at_call 9; refine (HC.out _ K1.out).mono ?_; rintro e w1 ⟨rfl, g1⟩; have G1 := hid (Gr.trans K1.out g1); have J1 := hid (gr_blk B1.out g1); obtain ⟨p0, p1, p2, pl⟩ := p_cells J1.out; have t0 := HT0.out _ G1.out; have lf := HLF.out _ G1.out; clear g1)
    clear p0 p1 p2 pl t0 lf
    rename World => V0
    go_loopg [11, 12] nw (fun m at_ i wq => ∃ (k : Nat) (a : Int), k + m = nw ∧ i = .int .i64 ((k : Nat) : Int) ∧ at_ = .int .i64 a ∧ fb ≤ a ∧ a < fe ∧ wq.heap[w.heap.size]? = some (.cells #[.slice aoc nc cac, .slice (some ⟨g, o, none⟩) nf caf, .slice aot nt cat] 26 (0, 0)) ∧ Gr w wq)
    case atStart => exact ⟨0, fb, by omega, rfl, rfl, by omega, hfbe, J1.out, G1.out⟩
    case round =>
      obtain ⟨k, a, hkm, rfl, rfl, ha0, ha1, hP, hG⟩ := hrel
      have HP := hid hP
      have HGr := hid hG
      obtain ⟨p0, p1, p2, pl⟩ := p_cells hP
      have HIa := hid (fun (W : World) (p : Gr w W) => HI.out a W ha0 ha1 p)
      have HXa := hid (fun (W : World) (p : Gr w W) => HX.out a W ha0 ha1 p)
      have HWa := hid (fun (y : Int) (q : y ∈ wy a) => HWN.out a ha0 ha1 y q)
      have hwl := HWL.out a
      generalize wy a = ws at HXa HWa hwl
      clear hP hG
      by_cases hk : k < nw
      · have k0 : (0 : Int) ≤ (k : Int) := by omega
        have k1 : (k : Int) < (nw : Int) := by omega
        obtain ⟨y, hy⟩ : ∃ y, ys[k]? = some y := ⟨_, List.getElem?_eq_getElem (by rw [← HYL.out]; exact hk)⟩
        obtain ⟨y0, y1⟩ := HYR.out y (List.mem_of_getElem? hy)
        obtain ⟨gy, oy, cap', hv, _, hgl, _, hcs⟩ := HY.out.get eY_len hy
        injection hv with hv1 hv2 hv3
        subst hv1
        have HCY := hid (show ∀ W, Gr w W → W.cell? ⟨gy, oy + k, none⟩ = some (.int .u8 y) from fun W p => (p.cell hgl).trans (by have := hcs 0 _ rfl; rw [Nat.mul_one, Nat.add_zero] at this; exact this))
        have HLY := hid (show ∀ W, Gr w W → gy < W.heap.size from fun W p => Nat.lt_of_lt_of_le hgl p.size)
        clear hcs hv2 hv3 hy hgl
        cases ws with
        | nil =>
          go_wp2_with (first | (go_at_call 12; refine (HIa.out _ HGr.out).mono ?_; rintro e w1 ⟨rfl, g1⟩; have G1 := hid (Gr.trans HGr.out g1); have J1 := hid (gr_blk HP.out g1); obtain ⟨a0, a1, a2, al⟩ := p_cells J1.out; clear g1) | (go_at_call 14; refine (HXa.out _ G1.out).mono ?_; rintro e w2 ⟨v2, rfl, o2, g2⟩; obtain ⟨ao2, cap2, hv2⟩ := o2.form; subst hv2; have G2 := hid (Gr.trans G1.out g2); clear o2 g2) | (go_at_call 11; refine (HV.out _ (HG.out.gr G2.out)).mono ?_; rintro e w4 ⟨rfl, g4⟩; have G4 := hid (Gr.trans G2.out g4); clear g4))
          go_ret
          exact ⟨rfl, G4.out⟩
        | cons z zs =>
          obtain ⟨n2, hn2⟩ : ∃ n, n = (z :: zs).length := ⟨_, rfl⟩
          have hn2p : 0 < n2 := by rw [hn2]; simp
          have hn2' : n2 ≤ 4096 := by rw [hn2]; exact hwl
          obtain ⟨u, hu⟩ : ∃ u : Nat, (u : Int) = y % (n2 : Int) := ⟨(y % (n2 : Int)).toNat, by have := Int.emod_nonneg y (show (n2 : Int) ≠ 0 by omega); omega⟩
          have hul : u < n2 := by have := Int.emod_lt_of_pos y (show (0 : Int) < (n2 : Int) by omega); omega
          obtain ⟨x, hx⟩ : ∃ x, (z :: zs)[u]? = some x := ⟨_, List.getElem?_eq_getElem (by rw [← hn2]; exact hul)⟩
          have hxin := HWa.out x (List.mem_of_getElem? hx)
          have HN2 := hid hn2
          have HUX := hid hx
          have e1 : y.tmod (n2 : Int) = (u : Int) := by rw [Int.tmod_eq_emod_of_nonneg y0, hu]
          have n2z : ((n2 : Int) == 0) = false := by simp; omega
          have n2n : ¬ ((n2 : Int) = 0) := by omega
          have u0 : (0 : Int) ≤ (u : Int) := by omega
          have u1 : (u : Int) < (n2 : Int) := by omega
          generalize (z :: zs) = ws at HXa HWa hwl hn2 HN2 HUX hx
          clear hx hn2 hwl hu
          go_wp2_with (first | (go_at_call 12; refine (HIa.out _ HGr.out).mono ?_; rintro e w1 ⟨rfl, g1⟩; have G1 := hid (Gr.trans HGr.out g1); have J1 := hid (gr_blk HP.out g1); obtain ⟨a0, a1, a2, al⟩ := p_cells J1.out; clear g1) | (go_at_call 14; refine (HXa.out _ G1.out).mono ?_; rintro e w2 ⟨v2, rfl, o2, g2⟩; obtain ⟨g3, cap3, hv2, _, hg3, _, hc3, _, _⟩ := o2.get eI_len HUX.out; rw [← HN2.out] at hv2; subst hv2; have c3 := hc3 0 _ rfl; rw [Nat.mul_one, Nat.add_zero] at c3; have G2 := hid (Gr.trans G1.out g2); have J2 := hid (gr_blk J1.out g2); have cy := HCY.out _ G2.out; have ly := HLY.out _ G2.out; clear o2 g2 hc3))
          clear p0 p1 p2 pl a0 a1 a2 al c3 cy ly
          go_roundg (gk - 1)
          case measure => omega
          case rel => exact ⟨k + 1, x, by omega, by simp, rfl, hxin.1, hxin.2, J2.out, G2.out⟩
      · have kn : ¬ (k : Int) < (nw : Int) := by omega
        go_wp2_with (go_at_call 12; refine (HIa.out _ HGr.out).mono ?_; rintro e w1 ⟨rfl, g1⟩; have G1 := hid (Gr.trans HGr.out g1); clear g1)
        go_ret
        exact ⟨rfl, G1.out⟩
  · have hno := HNO.out hyes
    generalize ask cs fs ts f (nf : Int) = E at HRE hno
    have hE' : (E == 0) = false := by simpa using hno
    have hE'' : (E != 0) = true := by simpa using hno
    generalize rcN cs fs ts rch f = L at HRE
    generalize chk cs fs ts = R at HC hyes
    obtain ⟨r1, r2⟩ := R
    simp only at HC hyes
    have K1 := hid (Gr.alloc (Gr.refl w) #[.slice aoc nc cac, .slice aof nf caf, .slice aot nt cat] 26)
    have B1 := hid (MapKept.heap_alloc w (.cells #[.slice aoc nc cac, .slice aof nf caf, .slice aot nt cat] 26)).1
    clear h hu hg hr hys hyr HIN HNX HNO HF hnf hnc _hc _hf _ht _hq
    by_cases e2 : r2 = 0
    · subst e2
      by_cases f0 : f < 0
      · clear hyes
        go_enter Tryd.func7, Tryd.ntmps7
        go_wp2_with (first | (go_at_call 9; refine (HC.out _ K1.out).mono ?_; rintro e w1 ⟨rfl, g1⟩; have G1 := hid (Gr.trans K1.out g1); have J1 := hid (gr_blk B1.out g1); obtain ⟨p0, p1, p2, pl⟩ := p_cells J1.out; clear g1) | (go_at_call 17; refine (HRE.out _ G1.out).mono ?_; rintro e w2 ⟨v2, rfl, o2, g2⟩; have G2 := hid (Gr.trans G1.out g2); clear o2 g2))
        go_ret
        exact ⟨rfl, G2.out⟩
      · have f1 : (nf : Int) ≤ f := by
          refine Classical.byContradiction fun q => hyes ⟨?_, by omega, by omega⟩
          first | rfl | trivial
        clear hyes
        go_enter Tryd.func7, Tryd.ntmps7
        go_wp2_with (first | (go_at_call 9; refine (HC.out _ K1.out).mono ?_; rintro e w1 ⟨rfl, g1⟩; have G1 := hid (Gr.trans K1.out g1); have J1 := hid (gr_blk B1.out g1); obtain ⟨p0, p1, p2, pl⟩ := p_cells J1.out; clear g1) | (go_at_call 17; refine (HRE.out _ G1.out).mono ?_; rintro e w2 ⟨v2, rfl, o2, g2⟩; have G2 := hid (Gr.trans G1.out g2); clear o2 g2))
        go_ret
        exact ⟨rfl, G2.out⟩
    · have e2' : (r2 == 0) = false := by simpa using e2
      clear hyes
      go_enter Tryd.func7, Tryd.ntmps7
      go_wp2_with (first | (go_at_call 9; refine (HC.out _ K1.out).mono ?_; rintro e w1 ⟨rfl, g1⟩; have G1 := hid (Gr.trans K1.out g1); have J1 := hid (gr_blk B1.out g1); obtain ⟨p0, p1, p2, pl⟩ := p_cells J1.out; clear g1) | (go_at_call 17; refine (HRE.out _ G1.out).mono ?_; rintro e w2 ⟨v2, rfl, o2, g2⟩; have G2 := hid (Gr.trans G1.out g2); clear o2 g2))
      go_ret
      exact ⟨rfl, G2.out⟩
end Go.Proofs.YtollfepggicehaaDoor.Lt
