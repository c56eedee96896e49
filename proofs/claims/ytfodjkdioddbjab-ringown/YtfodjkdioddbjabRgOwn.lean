/-
  What RingOwn of the statements answers: true, at any state and any calls. Condition: the lists are there, and the calls fewer than 2^62; what 'calls' does is known.
-/
import Derived.Test.YtfodjkdioddbjabRgStand
import Derived.Test.YtfodjkdioddbjabRgLaw0
import Derived.Test.YtfodjkdioddbjabRgOwn1
import Derived.Deep.RegionWith
import Derived.Deep.DeepCutAuto
namespace Go.Proofs.Ytfodjkdioddbjab.Rg
open Go.RowKit
attribute [local go_sem ↓] Go.wp_at_zero Go.wp_at_succ

theorem own_bad (P : Nat → Prop) (sv : Value) (xs : List W3) (hs : Bool) (y : W3) (ov : Value) (w : World) (hx : Lst P w sv xs) (hmax : xs.length ≤ 9223372036854775807) (E : Int) (hE : ldE xs (nxo hs y) = E) (h0 : E ≠ 0) :
    Calls Try.prog 5 #[.agg #[sv, .bool hs, .int .i64 y.s, .int .i64 y.g, .int .u64 y.t], ov] w fun e w' => e = .returned (.bool true) ∧ Ch NoB w w' := by
  obtain ⟨ao, cap, rfl⟩ := hx.form
  have hd : (E != 0) = true := by simpa using h0
  have hd2 : (E == 0) = false := by simpa using h0
  have HX := hid hx
  have HM := hid hmax
  have HE := hid hE
  clear hx hmax hE
  go_enter Try.func5, Try.ntmps5
  go_wp2_with fail
  refine (rload_bad (HX.out.alloc _) HM.out HE.out h0).mono ?_
  rintro e w2 ⟨rfl, g2⟩
  have HG2 := hid (((Ch.refl NoB w).alloc _).trans' g2)
  clear g2
  go_wp2_with fail
  refine (awake_any _).mono ?_
  rintro e w3 ⟨rfl, g3⟩
  have HG3 := hid ((HG2.out.alloc _).trans' g3)
  clear g3
  go_wp2
  go_ret
  exact ⟨rfl, HG3.out⟩

theorem lst_three {w : World} {k : Nat} {x : W3} (h : Three w k x) : Lst (· = k) w (.slice (some ⟨k, 0, none⟩) 1 1) [x] := by
  refine ⟨_, 1, rfl, ⟨by simp, fun h => by cases h⟩, .inr ⟨k, 0, rfl, rfl, h.lt, ?_⟩⟩
  intro i y hy
  cases i with
  | zero =>
    simp only [List.getElem?_cons_zero, Option.some.injEq] at hy
    subst hy
    exact h.cells
  | succ i => simp at hy

theorem nxo_isSome' (hs : Bool) (y : W3) : (nxo hs y).isSome = hs := by cases hs <;> rfl

set_option maxHeartbeats 8000000 in
set_option maxRecDepth 30000 in
theorem own_good (hC : CallsAll) (P : Nat → Prop) (sv : Value) (xs : List W3) (hs : Bool) (y : W3) (ov : Value) (os : List (Int × W3)) (w : World) (hx : Lst P w sv xs) (hmax : xs.length ≤ 9223372036854775807) (hE : ldE xs (nxo hs y) = 0) (ho : Ops w.heap.size w ov os) (hl : os.length ≤ 4611686018427387903) :
    Calls Try.prog 5 #[.agg #[sv, .bool hs, .int .i64 y.s, .int .i64 y.g, .int .u64 y.t], ov] w fun e w' => e = .returned (.bool true) ∧ Ch NoB w w' := by
  obtain ⟨ao, cap, rfl⟩ := hx.form
  obtain ⟨oa, oc, rfl⟩ := ho.form
  obtain ⟨m, hm⟩ : ∃ m, m = os.length := ⟨_, rfl⟩
  rw [← hm] at ho hl ⊢
  obtain ⟨nx, hn⟩ : ∃ nx, nxo hs y = nx := ⟨_, rfl⟩
  have hh : hs = nx.isSome := by rw [← hn, nxo_isSome']
  have hE1 := hE
  rw [hn] at hE
  obtain ⟨N, hN⟩ : ∃ N, N = xs.length := ⟨_, rfl⟩
  have hN64 : N ≤ 64 := by rw [hN]; exact (ldE_zero hE).1
  rw [← hN] at hx hmax ⊢
  have hxb : Lst (fun q => q < w.heap.size) w (.slice ao N cap) xs := hx.mono (fun q a _ => a)
  have HX := hid (hxb.alloc (.cells #[.slice ao N cap, .bool hs, .int .i64 y.s, .int .i64 y.g, .int .u64 y.t] 29))
  have HF0 := hid (Five.new w (.slice ao N cap) (.bool hs) (.int .i64 y.s) (.int .i64 y.g) (.int .u64 y.t))
  have HG0 := hid ((Ch.refl NoB w).alloc (.cells #[.slice ao N cap, .bool hs, .int .i64 y.s, .int .i64 y.g, .int .u64 y.t] 29))
  have HRL := hid (fun W (h : Lst (fun q => q < w.heap.size) W (.slice ao N cap) xs) => rload_good (z := nx.getD W3.zero) h (by rw [← hN]; exact hmax) hE1 (by rw [hn]))
  have HLG := hid (fun W Q v (h : Lst Q W v xs) => load_good (hs := hs) (y := y) h (by rw [← hN]; exact hmax) hn hE)
  have HH := hid hh
  have HO := hid ho
  have HCA := hid hC
  have HM := hid hm
  have HNN := hid hN
  clear hx hmax hE hE1 hn hh ho hC hm hN
  obtain ⟨W0, hW0⟩ : ∃ W0, W0 = w.alloc (.cells #[.slice ao N cap, .bool hs, .int .i64 y.s, .int .i64 y.g, .int .u64 y.t] 29) := ⟨_, rfl⟩
  rw [← hW0] at HX HF0 HG0
  obtain ⟨c0, c1, c2, c3, c4⟩ := HF0.out.cells
  have cl := HF0.out.lt
  go_enter Try.func5, Try.ntmps5
  go_wp2_with fail
  rw [← hW0]
  clear hW0
  refine (HRL.out W0 HX.out).mono ?_
  rintro e w1 ⟨v1, rfl, l1, g1⟩
  obtain ⟨ta, tc, rfl⟩ := l1.form
  rw [← HNN.out] at l1 ⊢
  have hs1 := g1.size
  have HX1 := hid (HX.out.ch g1 (fun _ _ _ => noB _))
  have HF1 := hid (HF0.out.ch g1 (noB _))
  have HG1 := hid (HG0.out.trans' g1)
  have HL1 := hid (l1.mono (Q := fun g => W0.heap.size ≤ g ∧ g < w1.heap.size) (fun g a c => ⟨c, a⟩))
  clear c0 c1 c2 c3 c4 l1 g1
  obtain ⟨c0, c1, c2, c3, c4⟩ := HF1.out.cells
  have cl1 := HF1.out.lt
  have TT := Five.new w1 (.slice ta N tc) (.bool hs) (.int .i64 (nx.getD W3.zero).s) (.int .i64 (nx.getD W3.zero).g) (.int .u64 (nx.getD W3.zero).t)
  have HTT := hid (Five.alloc TT (.cells #[.slice none 0 0, .bool hs, .int .i64 y.s, .int .i64 y.g, .int .u64 y.t] 29))
  have TI := Five.new (w1.alloc (.cells #[.slice ta N tc, .bool hs, .int .i64 (nx.getD W3.zero).s, .int .i64 (nx.getD W3.zero).g, .int .u64 (nx.getD W3.zero).t] 29)) (.slice none 0 0) (.bool hs) (.int .i64 y.s) (.int .i64 y.g) (.int .u64 y.t)
  simp only [World.size_alloc] at TI
  have HTI := hid TI
  clear TT TI
  go_wp2_with (first | (at_builtin; refine wpList_append_own2 rfl (.tmp 33) (.tmp 35) rfl (w1.heap.size + 2) _ [] rfl (Own.nil _ _) (fun q => q < w.heap.size) _ xs rfl ((HX1.out.alloc _).alloc _) N (by rw [HNN.out]; simp) (by omega) (by simp) xs rfl ?_; intro ao2 cap2 w2 ow2 cw2 bl2; have G2 := Ch.mono (T := NoB) cw2 (fun q e => by cases e); have HFI := hid (HTI.out.ch G2 (noB _)); have HFT := hid (HTT.out.ch G2 (noB _)); obtain ⟨i0, i1, i2, i3, i4⟩ := HFI.out.cells; have z0 := HFI.out.frozen 0; have il := HFI.out.lt; have HOI := hid ow2; have HG2 := hid (((HG1.out.alloc _).alloc _).trans' G2); have HX2 := hid (((HX1.out.alloc _).alloc _).ch G2 (fun _ _ _ => noB _)); have HL2 := hid (((HL1.out.alloc _).alloc _).ch G2 (fun _ _ _ => noB _)); have HF2 := hid (((HF1.out.alloc _).alloc _).ch G2 (noB _)); have hs2 := G2.size; clear ow2 cw2 bl2 G2))
  simp only [World.size_alloc] at hs2
  obtain ⟨V3, hW3⟩ : ∃ V3, V3 = w2.setCell ⟨w1.heap.size + 1, 0, none⟩ (.slice ao2 N cap2) := ⟨_, rfl⟩
  have C3 : Ch (Only (w1.heap.size + 1)) w2 V3 := by rw [hW3]; exact (Ch.refl _ _).own _ _
  have HFI3 := hid (show Five V3 (w1.heap.size + 1) (.slice ao2 N cap2) (.bool hs) (.int .i64 y.s) (.int .i64 y.g) (.int .u64 y.t) by rw [hW3]; exact setCell_block HFI.out 0 _)
  have HFT3 := hid (HFT.out.ch C3 (fun e => by have : w1.heap.size = w1.heap.size + 1 := e; omega))
  have HF3 := hid (HF2.out.ch C3 (fun e => by have : w.heap.size = w1.heap.size + 1 := e; omega))
  have HOI3 := hid (HOI.out.ch C3 (fun q e e' => by have := (HOI.out.blk e).1; have : q = w1.heap.size + 1 := e'; omega))
  have HX3 := hid (HX2.out.ch C3 (fun q _ h e' => by have h' : q < w.heap.size := h; have : q = w1.heap.size + 1 := e'; have := HG1.out.size; omega))
  have HL3 := hid (HL2.out.ch C3 (fun q _ h e' => by have := h.2; have : q = w1.heap.size + 1 := e'; omega))
  have HG3 := hid (HG2.out.trans C3 (fun q e => .inr (by have : q = w1.heap.size + 1 := e; have := HG1.out.size; omega)))
  have hs3 := C3.size
  rw [← hW3]
  clear hW3 C3 c0 c1 c2 c3 c4 i0 i1 i2 i3 i4 z0
  refine (HLG.out V3 _ _ HOI3.out.lst).mono ?_
  rintro e w4 ⟨b, rfl, hb, r4, g4⟩
  have hs4 := g4.size
  have HR4 := hid r4
  have HFI4 := hid (HFI3.out.ch g4 (noB _))
  have HFT4 := hid (HFT3.out.ch g4 (noB _))
  have HF4 := hid (HF3.out.ch g4 (noB _))
  have HOI4 := hid (HOI3.out.ch g4 (fun _ _ => noB _))
  have HX4 := hid (HX3.out.ch g4 (fun _ _ _ => noB _))
  have HL4 := hid (HL3.out.ch g4 (fun _ _ _ => noB _))
  have HG4 := hid (HG3.out.trans' g4)
  have HBI := hid (fun q (e : Blk (.slice ao2 N cap2) q) => (show w1.heap.size + 2 ≤ q ∧ q < V3.heap.size from ⟨(HOI3.out.blk e).1, (HOI3.out.blk e).2⟩))
  clear r4 g4
  obtain ⟨c0, c1, c2, c3, c4⟩ := HF4.out.cells
  have cl4 := HF4.out.lt
  obtain ⟨i0, i1, i2, i3, i4⟩ := HFI4.out.cells
  have il4 := HFI4.out.lt
  go_wp2_with fail
  refine (sameList_eq _ _ _ _ xs w4 HOI4.out.lst HX4.out (by have := HNN.out; omega)).mono ?_
  rintro e w5 ⟨rfl, m5, rfl⟩
  have HNf := hid (show xs.length = N from HNN.out.symm)
  go_wp2_with fail
  go_loopg [10] N (fun m i wv => ∃ (j : Nat) (ys : List W3), j + m = N ∧ i = .int .i64 ((j : Nat) : Int) ∧ ys.length = N ∧ Own (w1.heap.size + 2) wv (.slice ao2 N cap2) ys ∧ Ch (Blk (.slice ao2 N cap2)) w4 wv)
  case atStart => exact ⟨0, _, by omega, rfl, HNf.out, HOI4.out, (Ch.refl _ _).drewN _⟩
  case round =>
    obtain ⟨j, ys, hjm, rfl, hyl, ho, hg⟩ := hrel
    have HOf := hid ho
    have HGf := hid hg
    have hszf := hg.size
    clear ho hg
    have cM := (HGf.out.cell (o := 0) il4 (fun e => by have := (HBI.out _ e).1; omega)).trans i0
    have lM : w1.heap.size + 1 < wr.heap.size := by omega
    by_cases hj : j < N
    · have hLl : j < ys.length := by omega
      obtain ⟨g1, y, rfl, _, hg1, b0, b1, b2, hf⟩ := HOf.out.get1 hLl
      have f0 := hf (j * 3)
      have f1 := hf (j * 3 + 1)
      have f2 := hf (j * 3 + 2)
      have HS := hid (own_set ⟨0, 0, 7⟩ HOf.out hLl)
      have HSL := hid (set_len ys ⟨0, 0, 7⟩ j hLl)
      have HC := hid (set_ch (w := wr) (g := g1) (i := j) ⟨0, 0, 7⟩)
      have j0 : (0 : Int) ≤ (j : Int) := by omega
      have j1 : (j : Int) < (N : Int) := by omega
      clear hf
      go_wp2
      go_roundg (gk - 1)
      case measure => omega
      case rel => exact ⟨j + 1, _, by omega, by simp, by rw [HSL.out]; omega, HS.out, HGf.out.trans HC.out (fun q e => .inl (by have : q = g1 := e; subst this; rfl))⟩
    · obtain ⟨W6, hW6⟩ : ∃ x, x = wr := ⟨_, rfl⟩
      subst hW6
      have HR6 := hid (HR4.out.ch HGf.out (fun e => by have := (HBI.out _ e).2; omega))
      have HFT6 := hid (HFT4.out.ch HGf.out (fun e => by have := (HBI.out _ e).1; omega))
      have HL6 := hid (HL4.out.ch HGf.out (fun q _ h e => by have := (HBI.out _ e).1; have := h.2; omega))
      have HG6 := hid (HG4.out.trans HGf.out (fun q e => .inr (by have := (HBI.out _ e).1; have := HG1.out.size; omega)))
      clear c0 c1 c2 c3 c4 i0 i1 i2 i3 i4 HFI4 HFI3 HOI4 HOI3 HX4 HX3 HOf HGf
      have hb6 := HR6.out.lt
      go_wp2_with fail
      refine (begun_any _).mono ?_
      rintro e w7 ⟨b', c, rfl, hb', hbc, q1, q2, g7⟩
      have hs7 := g7.size
      have hc7 := q2.lt
      have HR7 := hid (HR6.out.ch g7 (noB _))
      have HFT7 := hid (HFT6.out.ch g7 (noB _))
      have HL7 := hid (HL6.out.ch g7 (fun _ _ _ => noB _))
      have HQ7 := hid q2
      have HG7 := hid (HG6.out.trans' g7)
      obtain ⟨t0, t1, t2, t3, t4⟩ := HFT7.out.cells
      have tl7 := HFT7.out.lt
      clear g7 q1 q2
      go_wp2_with fail
      obtain ⟨W8, hW8⟩ : ∃ W8, W8 = w7.alloc (.cells #[.pointer (some ⟨b, 0, none⟩), .pointer (some ⟨c, 0, none⟩), .slice ta N tc, .bool hs, .int .i64 (nx.getD W3.zero).s, .int .i64 (nx.getD W3.zero).g, .int .u64 (nx.getD W3.zero).t, .slice none 0 0, .bool false, .int .i64 0, .int .i64 0, .int .u64 0, .int .i64 0] 59) := ⟨_, rfl⟩
      have hb7 := HR7.out.lt
      have hgw := HG1.out.size
      have HS8 := hid (show Stand b c w7.heap.size w W8 by
        rw [hW8]
        refine ⟨xs, [], nx, none, .slice ta N tc, .slice none 0 0, 0, .inl rfl, ?_, HR7.out.alloc _, HQ7.out.alloc _, ?_, Lst.nil _ _, HG7.out.alloc _⟩
        · rw [← HH.out]
          exact Pair.new w7 _
        · exact (HL7.out.alloc _).mono (fun g _ h => ⟨by omega, by omega, by omega⟩))
      have hbw : w.heap.size ≤ b := by omega
      have hcw : w.heap.size ≤ c := by omega
      have hpw : w.heap.size ≤ w7.heap.size := by omega
      have hbp : b ≠ w7.heap.size := by omega
      have hcp : c ≠ w7.heap.size := by omega
      have hbc2 : b ≠ c := by omega
      rw [← hW8]
      clear hW8 t0 t1 t2 t3 t4 HR7 HQ7 HL7 HG7 HFT7 HR6 HFT6 HL6 HG6 HL4 HG4 HFT4 HR4 HF4
      go_loopg [12, 13] m (fun k ok i wr => ∃ j, j + k = m ∧ ok = .bool true ∧ i = .int .i64 ((j : Nat) : Int) ∧ Stand b c w7.heap.size w wr)
      case atStart => exact ⟨0, by omega, rfl, rfl, HS8.out⟩
      case round =>
        obtain ⟨jj, hjk, rfl, rfl, hst⟩ := hrel
        obtain ⟨K1, hK1⟩ : ∃ K1, K1 = gk - 1 := ⟨_, rfl⟩
        have HST := hid hst
        by_cases hj : jj < m
        · obtain ⟨⟨d, x⟩, hq⟩ : ∃ q, os[jj]? = some q := ⟨_, List.getElem?_eq_getElem (by rw [← HM.out]; exact hj)⟩
          have HSX := hid hst
          have j0' : (0 : Int) ≤ (jj : Int) := by omega
          have j1' : (jj : Int) < (m : Int) := by omega
          clear hst
          obtain ⟨xs', zs', nx', ny', u', v', n', hn', hp', r1', r2', l1', l2', gS⟩ := HSX.out
          obtain ⟨ua, uc, rfl⟩ := l1'.form
          obtain ⟨va, vc, rfl⟩ := l2'.form
          obtain ⟨g, o, rfl, hgB, o0, o1, o2, o3⟩ := (HO.out.ch gS (Nat.le_refl _) (fun _ _ => noB _)).get hq
          obtain ⟨p0, p1, p2, p3, p4, p5, p6, p7, p8, p9, p10, p11, p12⟩ := hp'.cells
          have hpl := hp'.lt
          have hgl := gS.size
          have HP := hid hp'
          have HR1 := hid r1'
          have HR2 := hid r2'
          have HL1 := hid l1'
          have HL2 := hid l2'
          have HG := hid gS
          clear hp' r1' r2' l1' l2' gS
          rcases hn' with rfl | rfl
          · obtain ⟨nb, hnb⟩ : ∃ nb, nb = nx' := ⟨_, rfl⟩
            have hSt := state_own b xs' nx' wr HR1.out
            rw [← hnb] at hSt
            have HSt := hid hSt
            clear hSt hnb o0 o1 o2 o3
            go_wp2_with fail
            refine HSt.out.mono ?_
            rintro e w9 ⟨v9, rfl, o9, g9⟩
            obtain ⟨a9, c9, rfl⟩ := o9.form
            obtain ⟨N9, hN9⟩ : ∃ N9, N9 = (xs').length := ⟨_, rfl⟩
            have hN9l : N9 ≤ 64 := by rw [hN9]; exact HR1.out.len
            rw [← hN9] at o9 ⊢
            have hs9 := g9.size
            obtain ⟨WR, hWR⟩ : ∃ x, x = wr := ⟨_, rfl⟩
            subst hWR
            obtain ⟨W10, hW10⟩ : ∃ W10, W10 = w9.alloc (.cells #[.slice a9 N9 c9, .bool nb.isSome, .int .i64 (nb.getD W3.zero).s, .int .i64 (nb.getD W3.zero).g, .int .u64 (nb.getD W3.zero).t] 29) := ⟨_, rfl⟩
            have G10 : Ch NoB w9 W10 := by rw [hW10]; exact (Ch.refl _ _).alloc _
            have HF10 := hid (show Five W10 w9.heap.size (.slice a9 N9 c9) (.bool nb.isSome) (.int .i64 (nb.getD W3.zero).s) (.int .i64 (nb.getD W3.zero).g) (.int .u64 (nb.getD W3.zero).t) by rw [hW10]; exact Five.new w9 _ _ _ _ _)
            have HO10 := hid (o9.ch G10 (fun _ _ => noB _))
            have HB9 := hid (fun q (e : Blk (.slice a9 N9 c9) q) => (show WR.heap.size ≤ q ∧ q < w9.heap.size from ⟨(o9.blk e).1, (o9.blk e).2⟩))
            have HG10 := hid (g9.trans' G10)
            have HNf := hid (show (xs').length = N9 from hN9.symm)
            have hs10 := HF10.out.lt
            obtain ⟨i0, i1, i2, i3, i4⟩ := HF10.out.cells
            clear o9 g9 G10 hN9
            go_wp2_with fail
            rw [← hW10]
            clear hW10
            go_loopg [15] N9 (fun m i wv => ∃ (j : Nat) (ys : List W3), j + m = N9 ∧ i = .int .i64 ((j : Nat) : Int) ∧ ys.length = N9 ∧ Own WR.heap.size wv (.slice a9 N9 c9) ys ∧ Ch (Blk (.slice a9 N9 c9)) W10 wv)
            case atStart => exact ⟨0, _, by omega, rfl, HNf.out, HO10.out, Ch.refl _ _⟩
            case round =>
              obtain ⟨j, ys, hjm, rfl, hyl, ho, hg⟩ := hrel
              have HOf := hid ho
              have HGf := hid hg
              have hszf := hg.size
              clear ho hg
              have cM := (HGf.out.cell (o := 0) hs10 (fun e => by have := (HB9.out _ e).2; omega)).trans i0
              have lM : w9.heap.size < wr.heap.size := by omega
              by_cases hj : j < N9
              · have hLl : j < ys.length := by omega
                obtain ⟨g1, y, rfl, _, hg1, b0, b1, b2, hf⟩ := HOf.out.get1 hLl
                have f0 := hf (j * 3)
                have f1 := hf (j * 3 + 1)
                have f2 := hf (j * 3 + 2)
                have HS := hid (own_set ⟨0, 0, 9⟩ HOf.out hLl)
                have HSL := hid (set_len ys ⟨0, 0, 9⟩ j hLl)
                have HC := hid (set_ch (w := wr) (g := g1) (i := j) ⟨0, 0, 9⟩)
                have j0 : (0 : Int) ≤ (j : Int) := by omega
                have j1 : (j : Int) < (N9 : Int) := by omega
                clear hf
                go_wp2
                go_roundg (gk - 1)
                case measure => omega
                case rel => exact ⟨j + 1, _, by omega, by simp, by rw [HSL.out]; omega, HS.out, HGf.out.trans HC.out (fun q e => .inl (by have : q = g1 := e; subst this; rfl))⟩
              · obtain ⟨W11, hW11⟩ : ∃ x, x = wr := ⟨_, rfl⟩
                subst hW11
                have HF11 := hid (HF10.out.ch HGf.out (fun e => by have := (HB9.out _ e).2; omega))
                have HG11 := hid (HG10.out.trans HGf.out (fun q e => .inr (HB9.out q e).1))
                have HYL := hid (show ys.length = N9 + 0 from hyl)
                clear i0 i1 i2 i3 i4 HGf hyl
                go_wp2_with fail
                go_loopg [16] 8 (fun m i wv => ∃ (j : Nat) (at_ : Option Addr) (ct : Nat) (zs : List W3), j + m = 8 ∧ i = .int .i64 ((j : Nat) : Int) ∧ Five wv w9.heap.size (.slice at_ (N9 + j) ct) (.bool nb.isSome) (.int .i64 (nb.getD W3.zero).s) (.int .i64 (nb.getD W3.zero).g) (.int .u64 (nb.getD W3.zero).t) ∧ zs.length = N9 + j ∧ Own WR.heap.size wv (.slice at_ (N9 + j) ct) zs ∧ (∀ q, Blk (.slice at_ (N9 + j) ct) q → WR.heap.size ≤ q ∧ q ≠ w9.heap.size) ∧ Ch NoB WR wv ∧ w9.heap.size < wv.heap.size)
                case atStart => exact ⟨0, _, _, _, by omega, rfl, HF11.out, HYL.out, HOf.out, fun q e => by have := HB9.out q e; omega, HG11.out, HF11.out.lt⟩
                case round =>
                  obtain ⟨j, at_, ct, zs, hjm, rfl, hfv, hzl, hov, hbv, hgv, hlv⟩ := hrel
                  have HFv := hid hfv
                  have HZv := hid hzl
                  have HOv := hid hov
                  have HBv := hid hbv
                  have HGv := hid hgv
                  have hszv := hgv.size
                  obtain ⟨i0, i1, i2, i3, i4⟩ := HFv.out.cells
                  clear hfv hzl hov hbv hgv
                  by_cases hj : j < 8
                  · have j1 : (j : Int) < 8 := by omega
                    go_wp2_with (first | (at_builtin; refine wpList_append_own2 rfl (.tmp 107) (.tmp 109) rfl WR.heap.size _ _ rfl (Own.alloc HOv.out _) _ _ [⟨0, 0, 1⟩] rfl (lst_three (Three.new _ ⟨0, 0, 1⟩)) (N9 + j + 1) (by rw [HZv.out]; rfl) (by omega) (by simp <;> omega) _ rfl ?_; intro ao2 cap2 w2' ow2 cw2 bl2; have F2 := (HFv.out.alloc (.cells #[.int .i64 0, .int .i64 0, .int .u64 1] 27)).ch cw2 (fun e => (HBv.out _ e).2 rfl); obtain ⟨x0, x1, x2, x3, x4⟩ := F2.cells; have z0 := F2.frozen 0; have fl2 := F2.lt; have HF2' := hid F2; have HO2 := hid ow2; have HC2 := hid cw2; have HB2 := hid bl2; clear ow2 cw2 bl2 F2))
                    go_roundg (gk - 1)
                    case measure => omega
                    case rel =>
                      have hB2 := HB2.out
                      simp only [World.size_alloc] at hB2
                      have C3 := (Ch.refl (Only w9.heap.size) w2').own 0 (.slice ao2 (N9 + j + 1) cap2)
                      have hnb2 : ∀ q, Blk (.slice ao2 (N9 + j + 1) cap2) q → WR.heap.size ≤ q ∧ q ≠ w9.heap.size := fun q e => by
                        rcases hB2 q e with e | e
                        · exact HBv.out q e
                        · exact ⟨by omega, by omega⟩
                      refine ⟨j + 1, ao2, cap2, _, by omega, by simp, setCell_block HF2'.out 0 _, by rw [List.length_append, HZv.out]; rfl, HO2.out.ch C3 (fun q e e' => (hnb2 q e).2 e'), hnb2, ((HGv.out.alloc _).trans HC2.out (fun q e => .inr (HBv.out q e).1)).trans C3 (fun q e => .inr (by have : q = w9.heap.size := e; omega)), by have := C3.size; omega⟩
                  · obtain ⟨W12, hW12⟩ : ∃ x, x = wr := ⟨_, rfl⟩
                    subst hW12
                    have HSX := hid (HST.out.ch HGv.out)
                    have HP := hid (HP.out.ch HGv.out (noB _))
                    have HR1 := hid (HR1.out.ch HGv.out (noB _))
                    have HR2 := hid (HR2.out.ch HGv.out (noB _))
                    have HL1 := hid (HL1.out.ch HGv.out (fun _ _ _ => noB _))
                    have HL2 := hid (HL2.out.ch HGv.out (fun _ _ _ => noB _))
                    have HG := hid (HG.out.trans' HGv.out)
                    obtain ⟨g', o', e', hgB', o0, o1, o2, o3⟩ := (HO.out.ch HG.out (Nat.le_refl _) (fun _ _ => noB _)).get hq
                    cases e'
                    clear p0 p1 p2 p3 p4 p5 p6 p7 p8 p9 p10 p11 p12 i0 i1 i2 i3 i4
                    obtain ⟨p0, p1, p2, p3, p4, p5, p6, p7, p8, p9, p10, p11, p12⟩ := HP.out.cells
                    have hpl := HP.out.lt
                    have hbl := HR1.out.lt
                    have hcl := HR2.out.lt
                    have hgl := HG.out.size
                    clear HFv HZv HOv HBv HF11 HG11 HYL HF10 HO10 HB9 HG10 HNf HOf HSX HGv
                    by_cases hd : d = 4
                    · have hd1 : (d == 4) = true := by simpa using hd
                      obtain ⟨D, hD⟩ : ∃ D, D = xs' ++ (nx').toList := ⟨_, rfl⟩
                      have hDr := drain_own b xs' nx' W12 HR1.out
                      have hRd := fun W (h : Lst (Av b c w7.heap.size) W (.slice ua (xs').length uc) xs') => rdrain_nx (Av b c w7.heap.size) (.slice ua (xs').length uc) xs' nx' W h HR1.out.len
                      rw [← hD] at hDr hRd
                      obtain ⟨DN, hDN⟩ : ∃ DN, DN = D.length := ⟨_, rfl⟩
                      have hDl : DN ≤ 65 := by rw [hDN, hD, List.length_append]; have := HR1.out.len; cases nx' <;> simp <;> omega
                      have HDN := hid hDN
                      have HDr := hid hDr
                      have HRd := hid hRd
                      clear hDr hRd hD hDN
                      go_wp2_with fail
                      refine HDr.out.mono ?_
                      rintro e w13 ⟨vl, rfl, o13, r13, g13⟩
                      obtain ⟨al, cl', rfl⟩ := o13.form
                      rw [← HDN.out] at o13 ⊢
                      have hs13 := g13.size
                      have HP13 := hid (HP.out.ch g13 (fun e => by have e1 : w7.heap.size = b := e; omega))
                      have HR13 := hid r13
                      have HRo13 := hid (HR2.out.ch g13 (fun e => by have e1 : c = b := e; omega))
                      have HL13 := hid (HL1.out.ch g13 (fun q _ h e => h.one e))
                      have HLo13 := hid ((HL2.out.mono (Q := fun q => Av b c w7.heap.size q ∧ q < W12.heap.size) (fun q a h => ⟨h, a⟩)).ch g13 (fun q _ h e => h.1.one e))
                      have HOl := hid o13
                      have HBl := hid (fun q (e : Blk (.slice al DN cl') q) => (show W12.heap.size ≤ q ∧ q < w13.heap.size from ⟨(o13.blk e).1, (o13.blk e).2⟩))
                      have HG13 := hid g13
                      clear p0 p1 p2 p3 p4 p5 p6 p7 p8 p9 p10 p11 p12 o13 r13 g13
                      obtain ⟨p0, p1, p2, p3, p4, p5, p6, p7, p8, p9, p10, p11, p12⟩ := HP13.out.cells
                      have hpl13 := HP13.out.lt
                      go_wp2_with fail
                      refine (HRd.out w13 HL13.out).mono ?_
                      rintro e w14 ⟨vd, rfl, l14, g14⟩
                      obtain ⟨ad, cd, rfl⟩ := l14.form
                      rw [← HDN.out] at l14 ⊢
                      have hs14 := g14.size
                      have HD14 := hid l14
                      have HP14 := hid (HP13.out.ch g14 (noB _))
                      have HR14 := hid (HR13.out.ch g14 (noB _))
                      have HRo14 := hid (HRo13.out.ch g14 (noB _))
                      have HLo14 := hid (HLo13.out.ch g14 (fun _ _ _ => noB _))
                      have HOl14 := hid (HOl.out.ch g14 (fun _ _ => noB _))
                      have HT14 := hid (show Ch (Two b c) W12 w14 from (HG13.out.mono (T := Two b c) (fun q e => .inl (.inl e))).trans g14 (fun q e => e.elim))
                      clear l14 g14
                      go_wp2_with fail
                      refine (sameList_eq _ _ _ _ D w14 HOl14.out.lst HD14.out (by have := HDN.out; omega)).mono ?_
                      rintro e w15 ⟨rfl, m15, rfl⟩
                      clear p0 p1 p2 p3 p4 p5 p6 p7 p8 p9 p10 p11 p12
                      obtain ⟨p0, p1, p2, p3, p4, p5, p6, p7, p8, p9, p10, p11, p12⟩ := HP14.out.cells
                      obtain ⟨f0, f1, f2, f3, f4, f5, f6, f7, f8, f9, f10, f11, f12⟩ := HP14.out.fz
                      have hpl14 := HP14.out.lt
                      obtain ⟨W16, hW16⟩ : ∃ W16, W16 = (((((w14.drewN m15).setCell ⟨w7.heap.size, 2, none⟩ (.slice none 0 0)).setCell ⟨w7.heap.size, 3, none⟩ (.bool false)).setCell ⟨w7.heap.size, 4, none⟩ (.int .i64 0)).setCell ⟨w7.heap.size, 5, none⟩ (.int .i64 0)).setCell ⟨w7.heap.size, 6, none⟩ (.int .u64 0) := ⟨_, rfl⟩
                      have C16 : Ch (Only w7.heap.size) (w14.drewN m15) W16 := by rw [hW16]; exact Ch.own (Ch.own (Ch.own (Ch.own (Ch.own (Ch.refl _ _) _ _) _ _) _ _) _ _) _ _
                      have C16' : Ch (Only w7.heap.size) w14 W16 := ((Ch.refl _ _).drewN m15).trans' C16
                      have HP16 := hid (show Pair W16 w7.heap.size #[.pointer (some ⟨b, 0, none⟩), .pointer (some ⟨c, 0, none⟩), .slice none 0 0, .bool false, .int .i64 0, .int .i64 0, .int .u64 0, .slice va (zs').length vc, .bool ny'.isSome, .int .i64 (ny'.getD W3.zero).s, .int .i64 (ny'.getD W3.zero).g, .int .u64 (ny'.getD W3.zero).t, .int .i64 0] by rw [hW16]; exact Pair.put0 (w := w14.drewN m15) HP14.out _ _ _ _ _)
                      have HR16 := hid (HR14.out.ch C16' (fun e => by have e1 : b = w7.heap.size := e; omega))
                      have HRo16 := hid (HRo14.out.ch C16' (fun e => by have e1 : c = w7.heap.size := e; omega))
                      have HLo16 := hid (HLo14.out.ch C16' (fun q _ h e => h.1.three e))
                      have HT16 := hid (show Ch NoB w W16 from (HG.out.trans HT14.out (fun q e => .inr (by rcases e with e | e <;> omega))).trans C16' (fun q e => .inr (by have : q = w7.heap.size := e; omega)))
                      have HOl16 := hid (HOl14.out.ch C16' (fun q e e' => by have := (HBl.out q e).1; have e1 : q = w7.heap.size := e'; omega))
                      have hs16 := C16'.size
                      have HNf := hid (show D.length = DN from HDN.out.symm)
                      go_wp2_with fail
                      rw [← hW16]
                      clear hW16 C16 C16'
                      go_loopg [18] DN (fun m i wv => ∃ (j : Nat) (ys : List W3), j + m = DN ∧ i = .int .i64 ((j : Nat) : Int) ∧ ys.length = DN ∧ Own W12.heap.size wv (.slice al DN cl') ys ∧ Ch (Blk (.slice al DN cl')) W16 wv)
                      case atStart => exact ⟨0, _, by omega, rfl, HNf.out, HOl16.out, Ch.refl _ _⟩
                      case round =>
                        obtain ⟨j, ys, hjm, rfl, hyl, ho, hg⟩ := hrel
                        have HOf := hid ho
                        have HGf := hid hg
                        have hszf := hg.size
                        clear ho hg
                        by_cases hj : j < DN
                        · have hLl : j < ys.length := by omega
                          obtain ⟨g1, y, rfl, _, hg1, b0, b1, b2, hf⟩ := HOf.out.get1 hLl
                          have f0 := hf (j * 3)
                          have f1 := hf (j * 3 + 1)
                          have f2 := hf (j * 3 + 2)
                          have HS := hid (own_set ⟨0, 0, 8⟩ HOf.out hLl)
                          have HSL := hid (set_len ys ⟨0, 0, 8⟩ j hLl)
                          have HC := hid (set_ch (w := wr) (g := g1) (i := j) ⟨0, 0, 8⟩)
                          have j0 : (0 : Int) ≤ (j : Int) := by omega
                          have j1 : (j : Int) < (DN : Int) := by omega
                          clear hf
                          go_wp2
                          go_roundg (gk - 1)
                          case measure => omega
                          case rel => exact ⟨j + 1, _, by omega, by simp, by rw [HSL.out]; omega, HS.out, HGf.out.trans HC.out (fun q e => .inl (by have : q = g1 := e; subst this; rfl))⟩
                        · go_wp2_with fail
                          go_roundg K1
                          case measure => omega
                          case rel => exact ⟨jj + 1, by omega, rfl, by simp, [], zs', none, ny', _, _, _, .inl rfl, HP16.out.ch HGf.out (fun e => by have := (HBl.out _ e).1; omega), HR16.out.ch HGf.out (fun e => by have := (HBl.out _ e).1; omega), HRo16.out.ch HGf.out (fun e => by have := (HBl.out _ e).1; omega), Lst.nil _ _, HLo16.out.ch HGf.out (fun q _ h e => by have := (HBl.out q e).1; have := h.2; omega) |>.mono (fun q _ h => h.1), HT16.out.trans HGf.out (fun q e => .inr (by have := (HBl.out q e).1; omega))⟩
                    · have hd1 : (d == 4) = false := by simpa using hd
                      have HC := hid (fun w2 (h1 : RingAt w2 b xs' nx') (h2 : RingAt w2 c zs' ny') (h3 : Lst (Av b c w7.heap.size) w2 (.slice ua (xs').length uc) xs') (h4 : Lst (Av b c w7.heap.size) w2 (.slice va (zs').length vc) zs') (h5 : w7.heap.size < w2.heap.size) => HCA.out b c w7.heap.size _ _ xs' zs' nx' ny' 0 d x w2 h1 h2 h3 h4 h5 (by omega) (.inl rfl))
                      go_wp2
                      go_region_with (first
                          | (go_at_call 23; refine (HC.out _ HR1.out.drew HR2.out.drew HL1.out.drew HL2.out.drew hpl).mono ?_; rintro e w15 ⟨xs', zs', nx', ny', u', v', n', rfl, hn', r1', r2', l1', l2', g15⟩; obtain ⟨ua', uc', rfl⟩ := l1'.form; obtain ⟨va', vc', rfl⟩ := l2'.form; have P15 := HP.out.drew.ch g15 (fun e => by rcases e with e | e <;> omega); obtain ⟨q0, q1, q2, q3, q4, q5, q6, q7, q8, q9, q10, q11, q12⟩ := P15.cells; obtain ⟨f0, f1, f2, f3, f4, f5, f6, f7, f8, f9, f10, f11, f12⟩ := P15.fz; have HP15 := hid P15; have HR1' := hid r1'; have HR2' := hid r2'; have HL1' := hid l1'; have HL2' := hid l2'; have HG15 := hid g15; have HN' := hid hn'; clear P15 r1' r2' l1' l2' g15 hn'))
                      all_goals go_wp2
                      all_goals go_roundg K1
                      all_goals first
                        | omega
                        | exact ⟨jj + 1, by omega, rfl, by simp, Stand.put (by omega) (by omega) (by omega) (by omega) (by omega) HG.out.drew HN'.out HR1'.out HR2'.out HL1'.out HL2'.out HG15.out HP15.out⟩
          · obtain ⟨nb, hnb⟩ : ∃ nb, nb = ny' := ⟨_, rfl⟩
            have hSt := state_own c zs' ny' wr HR2.out
            rw [← hnb] at hSt
            have HSt := hid hSt
            clear hSt hnb o0 o1 o2 o3
            go_wp2_with fail
            refine HSt.out.mono ?_
            rintro e w9 ⟨v9, rfl, o9, g9⟩
            obtain ⟨a9, c9, rfl⟩ := o9.form
            obtain ⟨N9, hN9⟩ : ∃ N9, N9 = (zs').length := ⟨_, rfl⟩
            have hN9l : N9 ≤ 64 := by rw [hN9]; exact HR2.out.len
            rw [← hN9] at o9 ⊢
            have hs9 := g9.size
            obtain ⟨WR, hWR⟩ : ∃ x, x = wr := ⟨_, rfl⟩
            subst hWR
            obtain ⟨W10, hW10⟩ : ∃ W10, W10 = w9.alloc (.cells #[.slice a9 N9 c9, .bool nb.isSome, .int .i64 (nb.getD W3.zero).s, .int .i64 (nb.getD W3.zero).g, .int .u64 (nb.getD W3.zero).t] 29) := ⟨_, rfl⟩
            have G10 : Ch NoB w9 W10 := by rw [hW10]; exact (Ch.refl _ _).alloc _
            have HF10 := hid (show Five W10 w9.heap.size (.slice a9 N9 c9) (.bool nb.isSome) (.int .i64 (nb.getD W3.zero).s) (.int .i64 (nb.getD W3.zero).g) (.int .u64 (nb.getD W3.zero).t) by rw [hW10]; exact Five.new w9 _ _ _ _ _)
            have HO10 := hid (o9.ch G10 (fun _ _ => noB _))
            have HB9 := hid (fun q (e : Blk (.slice a9 N9 c9) q) => (show WR.heap.size ≤ q ∧ q < w9.heap.size from ⟨(o9.blk e).1, (o9.blk e).2⟩))
            have HG10 := hid (g9.trans' G10)
            have HNf := hid (show (zs').length = N9 from hN9.symm)
            have hs10 := HF10.out.lt
            obtain ⟨i0, i1, i2, i3, i4⟩ := HF10.out.cells
            clear o9 g9 G10 hN9
            go_wp2_with fail
            rw [← hW10]
            clear hW10
            go_loopg [15] N9 (fun m i wv => ∃ (j : Nat) (ys : List W3), j + m = N9 ∧ i = .int .i64 ((j : Nat) : Int) ∧ ys.length = N9 ∧ Own WR.heap.size wv (.slice a9 N9 c9) ys ∧ Ch (Blk (.slice a9 N9 c9)) W10 wv)
            case atStart => exact ⟨0, _, by omega, rfl, HNf.out, HO10.out, Ch.refl _ _⟩
            case round =>
              obtain ⟨j, ys, hjm, rfl, hyl, ho, hg⟩ := hrel
              have HOf := hid ho
              have HGf := hid hg
              have hszf := hg.size
              clear ho hg
              have cM := (HGf.out.cell (o := 0) hs10 (fun e => by have := (HB9.out _ e).2; omega)).trans i0
              have lM : w9.heap.size < wr.heap.size := by omega
              by_cases hj : j < N9
              · have hLl : j < ys.length := by omega
                obtain ⟨g1, y, rfl, _, hg1, b0, b1, b2, hf⟩ := HOf.out.get1 hLl
                have f0 := hf (j * 3)
                have f1 := hf (j * 3 + 1)
                have f2 := hf (j * 3 + 2)
                have HS := hid (own_set ⟨0, 0, 9⟩ HOf.out hLl)
                have HSL := hid (set_len ys ⟨0, 0, 9⟩ j hLl)
                have HC := hid (set_ch (w := wr) (g := g1) (i := j) ⟨0, 0, 9⟩)
                have j0 : (0 : Int) ≤ (j : Int) := by omega
                have j1 : (j : Int) < (N9 : Int) := by omega
                clear hf
                go_wp2
                go_roundg (gk - 1)
                case measure => omega
                case rel => exact ⟨j + 1, _, by omega, by simp, by rw [HSL.out]; omega, HS.out, HGf.out.trans HC.out (fun q e => .inl (by have : q = g1 := e; subst this; rfl))⟩
              · obtain ⟨W11, hW11⟩ : ∃ x, x = wr := ⟨_, rfl⟩
                subst hW11
                have HF11 := hid (HF10.out.ch HGf.out (fun e => by have := (HB9.out _ e).2; omega))
                have HG11 := hid (HG10.out.trans HGf.out (fun q e => .inr (HB9.out q e).1))
                have HYL := hid (show ys.length = N9 + 0 from hyl)
                clear i0 i1 i2 i3 i4 HGf hyl
                go_wp2_with fail
                go_loopg [16] 8 (fun m i wv => ∃ (j : Nat) (at_ : Option Addr) (ct : Nat) (zs : List W3), j + m = 8 ∧ i = .int .i64 ((j : Nat) : Int) ∧ Five wv w9.heap.size (.slice at_ (N9 + j) ct) (.bool nb.isSome) (.int .i64 (nb.getD W3.zero).s) (.int .i64 (nb.getD W3.zero).g) (.int .u64 (nb.getD W3.zero).t) ∧ zs.length = N9 + j ∧ Own WR.heap.size wv (.slice at_ (N9 + j) ct) zs ∧ (∀ q, Blk (.slice at_ (N9 + j) ct) q → WR.heap.size ≤ q ∧ q ≠ w9.heap.size) ∧ Ch NoB WR wv ∧ w9.heap.size < wv.heap.size)
                case atStart => exact ⟨0, _, _, _, by omega, rfl, HF11.out, HYL.out, HOf.out, fun q e => by have := HB9.out q e; omega, HG11.out, HF11.out.lt⟩
                case round =>
                  obtain ⟨j, at_, ct, zs, hjm, rfl, hfv, hzl, hov, hbv, hgv, hlv⟩ := hrel
                  have HFv := hid hfv
                  have HZv := hid hzl
                  have HOv := hid hov
                  have HBv := hid hbv
                  have HGv := hid hgv
                  have hszv := hgv.size
                  obtain ⟨i0, i1, i2, i3, i4⟩ := HFv.out.cells
                  clear hfv hzl hov hbv hgv
                  by_cases hj : j < 8
                  · have j1 : (j : Int) < 8 := by omega
                    go_wp2_with (first | (at_builtin; refine wpList_append_own2 rfl (.tmp 107) (.tmp 109) rfl WR.heap.size _ _ rfl (Own.alloc HOv.out _) _ _ [⟨0, 0, 1⟩] rfl (lst_three (Three.new _ ⟨0, 0, 1⟩)) (N9 + j + 1) (by rw [HZv.out]; rfl) (by omega) (by simp <;> omega) _ rfl ?_; intro ao2 cap2 w2' ow2 cw2 bl2; have F2 := (HFv.out.alloc (.cells #[.int .i64 0, .int .i64 0, .int .u64 1] 27)).ch cw2 (fun e => (HBv.out _ e).2 rfl); obtain ⟨x0, x1, x2, x3, x4⟩ := F2.cells; have z0 := F2.frozen 0; have fl2 := F2.lt; have HF2' := hid F2; have HO2 := hid ow2; have HC2 := hid cw2; have HB2 := hid bl2; clear ow2 cw2 bl2 F2))
                    go_roundg (gk - 1)
                    case measure => omega
                    case rel =>
                      have hB2 := HB2.out
                      simp only [World.size_alloc] at hB2
                      have C3 := (Ch.refl (Only w9.heap.size) w2').own 0 (.slice ao2 (N9 + j + 1) cap2)
                      have hnb2 : ∀ q, Blk (.slice ao2 (N9 + j + 1) cap2) q → WR.heap.size ≤ q ∧ q ≠ w9.heap.size := fun q e => by
                        rcases hB2 q e with e | e
                        · exact HBv.out q e
                        · exact ⟨by omega, by omega⟩
                      refine ⟨j + 1, ao2, cap2, _, by omega, by simp, setCell_block HF2'.out 0 _, by rw [List.length_append, HZv.out]; rfl, HO2.out.ch C3 (fun q e e' => (hnb2 q e).2 e'), hnb2, ((HGv.out.alloc _).trans HC2.out (fun q e => .inr (HBv.out q e).1)).trans C3 (fun q e => .inr (by have : q = w9.heap.size := e; omega)), by have := C3.size; omega⟩
                  · obtain ⟨W12, hW12⟩ : ∃ x, x = wr := ⟨_, rfl⟩
                    subst hW12
                    have HSX := hid (HST.out.ch HGv.out)
                    have HP := hid (HP.out.ch HGv.out (noB _))
                    have HR1 := hid (HR1.out.ch HGv.out (noB _))
                    have HR2 := hid (HR2.out.ch HGv.out (noB _))
                    have HL1 := hid (HL1.out.ch HGv.out (fun _ _ _ => noB _))
                    have HL2 := hid (HL2.out.ch HGv.out (fun _ _ _ => noB _))
                    have HG := hid (HG.out.trans' HGv.out)
                    obtain ⟨g', o', e', hgB', o0, o1, o2, o3⟩ := (HO.out.ch HG.out (Nat.le_refl _) (fun _ _ => noB _)).get hq
                    cases e'
                    clear p0 p1 p2 p3 p4 p5 p6 p7 p8 p9 p10 p11 p12 i0 i1 i2 i3 i4
                    obtain ⟨p0, p1, p2, p3, p4, p5, p6, p7, p8, p9, p10, p11, p12⟩ := HP.out.cells
                    have hpl := HP.out.lt
                    have hbl := HR1.out.lt
                    have hcl := HR2.out.lt
                    have hgl := HG.out.size
                    clear HFv HZv HOv HBv HF11 HG11 HYL HF10 HO10 HB9 HG10 HNf HOf HSX HGv
                    by_cases hd : d = 4
                    · have hd1 : (d == 4) = true := by simpa using hd
                      obtain ⟨D, hD⟩ : ∃ D, D = zs' ++ (ny').toList := ⟨_, rfl⟩
                      have hDr := drain_own c zs' ny' W12 HR2.out
                      have hRd := fun W (h : Lst (Av b c w7.heap.size) W (.slice va (zs').length vc) zs') => rdrain_nx (Av b c w7.heap.size) (.slice va (zs').length vc) zs' ny' W h HR2.out.len
                      rw [← hD] at hDr hRd
                      obtain ⟨DN, hDN⟩ : ∃ DN, DN = D.length := ⟨_, rfl⟩
                      have hDl : DN ≤ 65 := by rw [hDN, hD, List.length_append]; have := HR2.out.len; cases ny' <;> simp <;> omega
                      have HDN := hid hDN
                      have HDr := hid hDr
                      have HRd := hid hRd
                      clear hDr hRd hD hDN
                      go_wp2_with fail
                      refine HDr.out.mono ?_
                      rintro e w13 ⟨vl, rfl, o13, r13, g13⟩
                      obtain ⟨al, cl', rfl⟩ := o13.form
                      rw [← HDN.out] at o13 ⊢
                      have hs13 := g13.size
                      have HP13 := hid (HP.out.ch g13 (fun e => by have e1 : w7.heap.size = c := e; omega))
                      have HR13 := hid r13
                      have HRo13 := hid (HR1.out.ch g13 (fun e => by have e1 : b = c := e; omega))
                      have HL13 := hid (HL2.out.ch g13 (fun q _ h e => h.two e))
                      have HLo13 := hid ((HL1.out.mono (Q := fun q => Av b c w7.heap.size q ∧ q < W12.heap.size) (fun q a h => ⟨h, a⟩)).ch g13 (fun q _ h e => h.1.two e))
                      have HOl := hid o13
                      have HBl := hid (fun q (e : Blk (.slice al DN cl') q) => (show W12.heap.size ≤ q ∧ q < w13.heap.size from ⟨(o13.blk e).1, (o13.blk e).2⟩))
                      have HG13 := hid g13
                      clear p0 p1 p2 p3 p4 p5 p6 p7 p8 p9 p10 p11 p12 o13 r13 g13
                      obtain ⟨p0, p1, p2, p3, p4, p5, p6, p7, p8, p9, p10, p11, p12⟩ := HP13.out.cells
                      have hpl13 := HP13.out.lt
                      go_wp2_with fail
                      refine (HRd.out w13 HL13.out).mono ?_
                      rintro e w14 ⟨vd, rfl, l14, g14⟩
                      obtain ⟨ad, cd, rfl⟩ := l14.form
                      rw [← HDN.out] at l14 ⊢
                      have hs14 := g14.size
                      have HD14 := hid l14
                      have HP14 := hid (HP13.out.ch g14 (noB _))
                      have HR14 := hid (HR13.out.ch g14 (noB _))
                      have HRo14 := hid (HRo13.out.ch g14 (noB _))
                      have HLo14 := hid (HLo13.out.ch g14 (fun _ _ _ => noB _))
                      have HOl14 := hid (HOl.out.ch g14 (fun _ _ => noB _))
                      have HT14 := hid (show Ch (Two b c) W12 w14 from (HG13.out.mono (T := Two b c) (fun q e => .inl (.inr e))).trans g14 (fun q e => e.elim))
                      clear l14 g14
                      go_wp2_with fail
                      refine (sameList_eq _ _ _ _ D w14 HOl14.out.lst HD14.out (by have := HDN.out; omega)).mono ?_
                      rintro e w15 ⟨rfl, m15, rfl⟩
                      clear p0 p1 p2 p3 p4 p5 p6 p7 p8 p9 p10 p11 p12
                      obtain ⟨p0, p1, p2, p3, p4, p5, p6, p7, p8, p9, p10, p11, p12⟩ := HP14.out.cells
                      obtain ⟨f0, f1, f2, f3, f4, f5, f6, f7, f8, f9, f10, f11, f12⟩ := HP14.out.fz
                      have hpl14 := HP14.out.lt
                      obtain ⟨W16, hW16⟩ : ∃ W16, W16 = (((((w14.drewN m15).setCell ⟨w7.heap.size, 7, none⟩ (.slice none 0 0)).setCell ⟨w7.heap.size, 8, none⟩ (.bool false)).setCell ⟨w7.heap.size, 9, none⟩ (.int .i64 0)).setCell ⟨w7.heap.size, 10, none⟩ (.int .i64 0)).setCell ⟨w7.heap.size, 11, none⟩ (.int .u64 0) := ⟨_, rfl⟩
                      have C16 : Ch (Only w7.heap.size) (w14.drewN m15) W16 := by rw [hW16]; exact Ch.own (Ch.own (Ch.own (Ch.own (Ch.own (Ch.refl _ _) _ _) _ _) _ _) _ _) _ _
                      have C16' : Ch (Only w7.heap.size) w14 W16 := ((Ch.refl _ _).drewN m15).trans' C16
                      have HP16 := hid (show Pair W16 w7.heap.size #[.pointer (some ⟨b, 0, none⟩), .pointer (some ⟨c, 0, none⟩), .slice ua (xs').length uc, .bool nx'.isSome, .int .i64 (nx'.getD W3.zero).s, .int .i64 (nx'.getD W3.zero).g, .int .u64 (nx'.getD W3.zero).t, .slice none 0 0, .bool false, .int .i64 0, .int .i64 0, .int .u64 0, .int .i64 1] by rw [hW16]; exact Pair.put1 (w := w14.drewN m15) HP14.out _ _ _ _ _)
                      have HR16 := hid (HR14.out.ch C16' (fun e => by have e1 : c = w7.heap.size := e; omega))
                      have HRo16 := hid (HRo14.out.ch C16' (fun e => by have e1 : b = w7.heap.size := e; omega))
                      have HLo16 := hid (HLo14.out.ch C16' (fun q _ h e => h.1.three e))
                      have HT16 := hid (show Ch NoB w W16 from (HG.out.trans HT14.out (fun q e => .inr (by rcases e with e | e <;> omega))).trans C16' (fun q e => .inr (by have : q = w7.heap.size := e; omega)))
                      have HOl16 := hid (HOl14.out.ch C16' (fun q e e' => by have := (HBl.out q e).1; have e1 : q = w7.heap.size := e'; omega))
                      have hs16 := C16'.size
                      have HNf := hid (show D.length = DN from HDN.out.symm)
                      go_wp2_with fail
                      rw [← hW16]
                      clear hW16 C16 C16'
                      go_loopg [18] DN (fun m i wv => ∃ (j : Nat) (ys : List W3), j + m = DN ∧ i = .int .i64 ((j : Nat) : Int) ∧ ys.length = DN ∧ Own W12.heap.size wv (.slice al DN cl') ys ∧ Ch (Blk (.slice al DN cl')) W16 wv)
                      case atStart => exact ⟨0, _, by omega, rfl, HNf.out, HOl16.out, Ch.refl _ _⟩
                      case round =>
                        obtain ⟨j, ys, hjm, rfl, hyl, ho, hg⟩ := hrel
                        have HOf := hid ho
                        have HGf := hid hg
                        have hszf := hg.size
                        clear ho hg
                        by_cases hj : j < DN
                        · have hLl : j < ys.length := by omega
                          obtain ⟨g1, y, rfl, _, hg1, b0, b1, b2, hf⟩ := HOf.out.get1 hLl
                          have f0 := hf (j * 3)
                          have f1 := hf (j * 3 + 1)
                          have f2 := hf (j * 3 + 2)
                          have HS := hid (own_set ⟨0, 0, 8⟩ HOf.out hLl)
                          have HSL := hid (set_len ys ⟨0, 0, 8⟩ j hLl)
                          have HC := hid (set_ch (w := wr) (g := g1) (i := j) ⟨0, 0, 8⟩)
                          have j0 : (0 : Int) ≤ (j : Int) := by omega
                          have j1 : (j : Int) < (DN : Int) := by omega
                          clear hf
                          go_wp2
                          go_roundg (gk - 1)
                          case measure => omega
                          case rel => exact ⟨j + 1, _, by omega, by simp, by rw [HSL.out]; omega, HS.out, HGf.out.trans HC.out (fun q e => .inl (by have : q = g1 := e; subst this; rfl))⟩
                        · go_wp2_with fail
                          go_roundg K1
                          case measure => omega
                          case rel => exact ⟨jj + 1, by omega, rfl, by simp, xs', [], nx', none, _, _, _, .inr rfl, HP16.out.ch HGf.out (fun e => by have := (HBl.out _ e).1; omega), HRo16.out.ch HGf.out (fun e => by have := (HBl.out _ e).1; omega), HR16.out.ch HGf.out (fun e => by have := (HBl.out _ e).1; omega), HLo16.out.ch HGf.out (fun q _ h e => by have := (HBl.out q e).1; have := h.2; omega) |>.mono (fun q _ h => h.1), Lst.nil _ _, HT16.out.trans HGf.out (fun q e => .inr (by have := (HBl.out q e).1; omega))⟩
                    · have hd1 : (d == 4) = false := by simpa using hd
                      have HC := hid (fun w2 (h1 : RingAt w2 b xs' nx') (h2 : RingAt w2 c zs' ny') (h3 : Lst (Av b c w7.heap.size) w2 (.slice ua (xs').length uc) xs') (h4 : Lst (Av b c w7.heap.size) w2 (.slice va (zs').length vc) zs') (h5 : w7.heap.size < w2.heap.size) => HCA.out b c w7.heap.size _ _ xs' zs' nx' ny' 1 d x w2 h1 h2 h3 h4 h5 (by omega) (.inr rfl))
                      go_wp2
                      go_region_with (first
                          | (go_at_call 23; refine (HC.out _ HR1.out.drew HR2.out.drew HL1.out.drew HL2.out.drew hpl).mono ?_; rintro e w15 ⟨xs', zs', nx', ny', u', v', n', rfl, hn', r1', r2', l1', l2', g15⟩; obtain ⟨ua', uc', rfl⟩ := l1'.form; obtain ⟨va', vc', rfl⟩ := l2'.form; have P15 := HP.out.drew.ch g15 (fun e => by rcases e with e | e <;> omega); obtain ⟨q0, q1, q2, q3, q4, q5, q6, q7, q8, q9, q10, q11, q12⟩ := P15.cells; obtain ⟨f0, f1, f2, f3, f4, f5, f6, f7, f8, f9, f10, f11, f12⟩ := P15.fz; have HP15 := hid P15; have HR1' := hid r1'; have HR2' := hid r2'; have HL1' := hid l1'; have HL2' := hid l2'; have HG15 := hid g15; have HN' := hid hn'; clear P15 r1' r2' l1' l2' g15 hn'))
                      all_goals go_wp2
                      all_goals go_roundg K1
                      all_goals first
                        | omega
                        | exact ⟨jj + 1, by omega, rfl, by simp, Stand.put (by omega) (by omega) (by omega) (by omega) (by omega) HG.out.drew HN'.out HR1'.out HR2'.out HL1'.out HL2'.out HG15.out HP15.out⟩
        · obtain ⟨xs', zs', nx', ny', u', v', n', hn', hp', hr1', hr2', hl1', hl2', hg'⟩ := hst
          obtain ⟨ua', uc', rfl⟩ := hl1'.form
          obtain ⟨va', vc', rfl⟩ := hl2'.form
          obtain ⟨p0, p1, p2, p3, p4, p5, p6, p7, p8, p9, p10, p11, p12⟩ := hp'.cells
          have HR1' := hid hr1'
          have HR2' := hid hr2'
          have HL1' := hid hl1'
          have HL2' := hid hl2'
          have HG := hid hg'
          clear hp' hr1' hr2' hl1' hl2' hg' hn'
          go_wp2_with fail
          refine (tells_any (Av b c w7.heap.size) b c _ _ xs' zs' nx' ny' nx'.isSome ny'.isSome (nx'.getD W3.zero) (ny'.getD W3.zero) n' _ rfl rfl rfl rfl HR1'.out HR2'.out HL1'.out HL2'.out).mono ?_
          rintro e w6 ⟨rfl, g6⟩
          have HG6 := hid g6
          clear g6
          go_wp2_with fail
          refine (awake_any _).mono ?_
          rintro e w8 ⟨rfl, g8⟩
          have HG8 := hid g8
          clear g8
          go_wp2
          go_ret
          exact ⟨rfl, (HG.out.trans' HG6.out).trans' HG8.out⟩
end Go.Proofs.Ytfodjkdioddbjab.Rg
