/-
  What CellsOwn of the statements answers: true, at any number, any calls and any log. Condition: the lists lie where they lie.
-/
import Derived.Test.YtpmhmikefkgbdabClAny
import Derived.Test.YtpmhmikefkgbdabClReplay
import Derived.Test.YtpmhmikefkgbdabClFrom
namespace Go.Proofs.Ytpmhmikefkgbdab.Lt
open Go.RowKit Wd
attribute [local go_sem ↓] Go.wp_at_zero Go.wp_at_succ

theorem acc_info : (Try.prog.info? 28).map (fun i => (i.zero, i.size, i.bytes)) = some (some (.agg #[.int .i64 0, .int .i64 0, .int .i64 0, .int .i64 0, .bool false]), 5, 40) := by kernel_rfl
theorem rgo_len' : ∀ (l : List Ac) (i : Nat) (vs : List Int), (rgo i vs l).1.length ≤ vs.length
  | [], _, _ => Nat.le_refl _
  | a :: l, i, vs => by
    rw [rgo]
    split
    · exact Nat.le_trans (rgo_len' l _ _) (by simp)
    · simp
/-- what must stay: the document's values, values that were told, a log of one's own, the cells -/
structure Fx (w : World) (S b : Nat) (v vm vi vw : Value) (cs : List Int) (l : List Ac) (W : World) : Prop where
  m : Ls eI (· < S) W vm cs
  i : Ls eI (· < S) W vi cs
  o : Ls eA (· < S) W vw l
  c : CAt w.heap.size W b v cs
  bl : b < S
  vl : ∀ q, Blk v q → q < S
  z : w.heap.size ≤ S
  zw : S ≤ W.heap.size
  g : Gr w W
theorem Fx.ch {w : World} {S b : Nat} {v vm vi vw : Value} {cs : List Int} {l : List Ac} {W W' : World} (h : Fx w S b v vm vi vw cs l W) (k : Ch (fun q => S ≤ q) W W') : Fx w S b v vm vi vw cs l W' :=
  ⟨h.m.ch k (fun q _ a e => by omega), h.i.ch k (fun q _ a e => by omega), h.o.ch k (fun q _ a e => by omega), h.c.ch k (by have := h.bl; omega) (fun q a e => by have := h.vl q a; omega), h.bl, h.vl, h.z, Nat.le_trans h.zw k.size, Ch.trans h.g k (fun q e => .inr (Nat.le_trans h.z e))⟩
/-- a list of one's own, spoilt at a place -/
theorem Ow.spoil {T S base : Nat} {w : World} {ao : Option Addr} {n cap : Nat} {ys : List Int} (h : Ow eI 1 T base w (.slice ao n cap) ys) (hn : ys.length = n) (hS : S ≤ base) {k : Nat} (hk : k < n) : ∃ g, ao = some ⟨g, 0, none⟩ ∧ (∃ c, w.cell? ⟨g, k, none⟩ = some c) ∧ w.frozen? ⟨g, k, none⟩ = false ∧ g < w.heap.size ∧ ∀ x : Int, Ow eI 1 T base (w.setCell ⟨g, k, none⟩ (.int .i64 x)) (.slice ao n cap) (ys.set k x) ∧ Ch (fun q => S ≤ q) w (w.setCell ⟨g, k, none⟩ (.int .i64 x)) := by
  have hx : ys[k]? = some ys[k] := List.getElem?_eq_getElem (by omega)
  obtain ⟨g, cap2, hv, hb, hgl, _, hc, hf, hs⟩ := h.get eI_len hx
  injection hv with e1 e2 e3
  have c0 := hc 0 _ rfl
  simp only [Nat.mul_one, Nat.add_zero] at c0
  refine ⟨g, e1, ⟨_, c0⟩, hf k, hgl, fun x => ⟨?_, (Ch.refl _ w).setCell (p := ⟨g, k, none⟩) (.inl (Nat.le_trans hS hb)) _⟩⟩
  have := hs 0 (.int .i64 x) x (by omega) rfl
  simpa only [Nat.mul_one, Nat.add_zero] using this
set_option maxHeartbeats 8000000 in
set_option maxRecDepth 20000 in
theorem own_law (n : Int) (P : Nat → Prop) (vo : Value) (os : List O4) (Q : Nat → Prop) (vl : Value) (l : List Ac) (w : World) (h : Ls eO P w vo os) (hl : os.length ≤ 4398046511104) (h2 : Ls eA Q w vl l) (hl2 : l.length ≤ 3518437208783) : Calls Try.prog 5 #[.int .i64 n, vo, vl] w fun e w' => e = .returned (.bool true) ∧ Gr w w' := by
  obtain ⟨aoo, capo, rfl⟩ := h.form
  obtain ⟨aol, capl, rfl⟩ := h2.form
  obtain ⟨M, hM⟩ : ∃ M, M = os.length := ⟨_, rfl⟩
  obtain ⟨K, hK⟩ : ∃ K, K = l.length := ⟨_, rfl⟩
  obtain ⟨N, hN⟩ : ∃ N, N = fitN n := ⟨_, rfl⟩
  have hN2 := fitN_le n
  rw [← hN] at hN2
  have HF := hid (show ∀ W : World, Calls Try.prog 14 #[.int .i64 n] W fun e w' => e = .returned (.int .i64 (N : Nat)) ∧ w' = W from fun W => by rw [hN]; exact fit_any n W)
  have HN := hid (fun (W : World) => new_good N W hN2)
  have HR := hid (fun (W : World) => rnew_good N W hN2)
  have HA := hid (fun (W : World) => awake_any W)
  have HV := hid (fun (W : World) (b : Nat) (v : Value) (vs : List Int) (p : CAt w.heap.size W b v vs) (q : vs.length = N) => show Calls Try.prog 13 #[.pointer (some ⟨b, 0, none⟩)] W fun e w' => ∃ ao cap, e = .returned (.slice ao N cap) ∧ Ow eI 1 2 W.heap.size w' (.slice ao N cap) vs ∧ Gr W w' from (values_any _ W b v vs p (by omega)).mono (by
    rintro e w1 ⟨v1, rfl, o1, g1⟩
    obtain ⟨ao, cap, hv⟩ := o1.form
    rw [q] at hv
    subst hv
    exact ⟨ao, cap, rfl, o1, g1⟩))
  have HS := hid (fun (P Q : Nat → Prop) (va vb : Value) (vs : List Int) (W : World) (p : Ls eI P W va vs) (q : Ls eI Q W vb vs) (e : vs.length = N) => rsame_eq P Q va vb _ W p q (by omega))
  have HC := hid (show ∀ (W : World) (b : Nat) (v : Value) (vs : List Int) (o : O4) (ao : Option Addr) (cap : Nat), CAt w.heap.size W b v vs → Ls eI (Bes W v) W (.slice ao N cap) vs → vs.length = N → Calls Try.prog 16 #[.pointer (some ⟨b, 0, none⟩), .slice ao N cap, .agg #[.int .i64 o.k, .int .i64 o.c, .int .i64 o.o, .int .i64 o.v]] W fun e w' => ∃ ao cap, e = .returned (.tuple #[.slice ao N cap, (cTold o vs).val, .bool (cOk o vs), .bool true]) ∧ Ls eI (Bes w' v) w' (.slice ao N cap) (cLeft o vs) ∧ CAt w.heap.size w' b v (cLeft o vs) ∧ Ch (Blk v) W w' from fun W b v vs o ao cap p q e => by
    subst e
    exact calls_bes _ W b v vs o ao cap p q (by omega))
  have HRP := hid (fun (W : World) (P1 Q1 : Nat → Prop) (vv vl : Value) (cs : List Int) (p : Ls eI P1 W vv cs) (q : Ls eA Q1 W vl l) (e : cs.length = N) => show Calls Try.prog 17 #[vv, vl] W fun e w' => ∃ ao k cap y z ys, e = .returned (.tuple #[.slice ao k cap, .int .i64 y, .int .i64 z]) ∧ Ow eI 1 2 W.heap.size w' (.slice ao k cap) ys ∧ ys.length = k ∧ k ≤ N ∧ Gr W w' from (replay_any P1 Q1 W vv vl cs l p q (by omega) (by omega)).mono (by
    rintro e w1 ⟨ao, cap, rfl, o1, g1⟩
    exact ⟨ao, _, cap, _, _, _, rfl, o1, rfl, e ▸ rgo_len' _ _ _, g1⟩))
  have HFR := hid (fun (W : World) (Q1 : Nat → Prop) (vl : Value) (q : Ls eA Q1 W vl l) => show Calls Try.prog 18 #[vl] W fun e w' => ∃ ao cap ys, e = .returned (.slice ao K cap) ∧ Ow eI 1 3 W.heap.size w' (.slice ao K cap) ys ∧ ys.length = K ∧ Gr W w' from (from_any Q1 W vl l K hK q (by omega)).mono (by
    rintro e w1 ⟨ao, cap, rfl, o1, g1⟩
    exact ⟨ao, cap, _, rfl, o1, frs_len _ _, g1⟩))
  rw [← hM] at h hl ⊢
  rw [← hK] at h2 hl2 ⊢
  have HH := hid h
  have HH2 := hid h2
  have HM := hid hM
  have HK := hid hK
  clear h h2 hM hN hK
  go_enter Try.func5, Try.ntmps5
  go_wp2_with (first
    | (go_at_call 14; refine (HF.out _).mono ?_; rintro e w0 ⟨rfl, hw⟩; have hw := hw.symm; subst hw)
    | (go_at_call 6; refine (HN.out _).mono ?_; rintro e w1 ⟨b, v, rfl, hb, c1, g1⟩; have C1 := hid c1; have G1 := hid g1; clear hb c1 g1)
    | (go_at_call 15; refine (HR.out _).mono ?_; rintro e w2 ⟨ao, cap, rfl, o2, g2⟩; have L2 := hid (Ls.bes C1.out o2.lst); have C2 := hid (C1.out.gr g2); have G2 := hid (Gr.trans G1.out g2); clear g2 o2))
  go_loopg [9, 11, 12] M (fun q m9 ok9 i9 wr => ∃ (j : Nat) (ao : Option Addr) (cap : Nat) (vs : List Int), j + q = M ∧ m9 = .slice ao N cap ∧ ok9 = .bool true ∧ i9 = .int .i64 (j : Int) ∧ vs.length = N ∧ CAt w.heap.size wr b v vs ∧ Ls eI (Bes wr v) wr (.slice ao N cap) vs ∧ Gr w wr)
  case atStart => exact ⟨0, ao, cap, _, by omega, rfl, rfl, rfl, List.length_replicate, C2.out, L2.out, G2.out⟩
  case round =>
    obtain ⟨j, ao5, cap5, vs, hjk, rfl, rfl, rfl, hvs, c5, l5, g5⟩ := hrel
    have HVS := hid hvs
    have C5 := hid c5
    have L5 := hid l5
    have G5 := hid g5
    clear hvs c5 l5 g5
    by_cases hj : j < M
    · obtain ⟨o, ho⟩ : ∃ o, os[j]? = some o := ⟨_, List.getElem?_eq_getElem (by rw [← HM.out]; exact hj)⟩
      obtain ⟨g, oo, cap1, e1, -, -, -, d2⟩ := (HH.out.gr G5.out).get eO_len ho
      injection e1 with e1 h1 h2
      subst e1
      have d0 := d2 0 _ rfl
      have d1 := d2 1 _ rfl
      have d3 := d2 2 _ rfl
      have d4 := d2 3 _ rfl
      simp only [Nat.add_zero] at d0
      have j0 : (0 : Int) ≤ (j : Int) := by omega
      have j1 : (j : Int) < (M : Int) := by omega
      obtain ⟨K1, hK1⟩ : ∃ K1, K1 = gk - 1 := ⟨_, rfl⟩
      have hK2 : K1 + j + 1 = M := by omega
      have hK3 : K1 < gk := by omega
      clear d2 h1 h2 hK1
      have HO := hid ho
      clear ho
      go_wp2_with (first
        | (go_at_call 16; refine (HC.out _ b v vs o ao5 cap5 C5.out L5.out HVS.out).mono ?_; rintro e w6 ⟨ao6, cap6, rfl, l6, c6, g6⟩; have L6 := hid l6; have C6 := hid c6; have G6 := hid (show Gr w w6 from Ch.trans G5.out g6 (fun q e => .inr (C5.out.vo.blk e).1)); have HV6 := hid ((cLeft_len o vs).trans HVS.out); clear l6 c6 g6; generalize (cTold o vs).val = tv; generalize cOk o vs = tk)
        | (go_at_call 13; refine (HV.out _ b v _ C6.out HV6.out).mono ?_; rintro e w8 ⟨ao8, cap8, rfl, o8, g8⟩; have L8 := hid (L6.out.gr g8); have C8 := hid (C6.out.gr g8); have O8 := hid o8; have G8 := hid (Gr.trans G6.out g8); clear o8 g8))
      go_loopg [14] N (fun q i wq => ∃ (k : Nat) (ys : List Int), k + q = N ∧ i = .int .i64 (k : Int) ∧ ys.length = N ∧ Ow eI 1 2 w6.heap.size wq (.slice ao8 N cap8) ys ∧ CAt w.heap.size wq b v (cLeft o vs) ∧ Ls eI (Bes w6 v) wq (.slice ao6 N cap6) (cLeft o vs) ∧ Gr w wq)
      case atStart => exact ⟨0, _, by omega, rfl, HV6.out, O8.out, C8.out, L8.out, G8.out⟩
      case round =>
        obtain ⟨k, ys, hkq, rfl, hys, hoy, hcy, hly, hgy⟩ := hrel
        have HYS := hid hys
        have OY := hid hoy
        have CY := hid hcy
        have LY := hid hly
        have GY := hid hgy
        clear hys hoy hcy hly hgy
        by_cases hk : k < N
        · have k0 : (0 : Int) ≤ (k : Int) := by omega
          have k1 : (k : Int) < (N : Int) := by omega
          obtain ⟨g8, e8, ⟨c8, hc8⟩, hf8, hgl8, hs8⟩ := OY.out.spoil (S := w6.heap.size) HYS.out (Nat.le_refl _) hk
          subst e8
          have S8 := hid (hs8 77)
          clear hs8
          go_wp2
          go_roundg (gk - 1)
          case measure => omega
          case rel => exact ⟨k + 1, _, by omega, by simp, (List.length_set).trans HYS.out, S8.out.1, CY.out.ch S8.out.2 (by have := lt_of_block C6.out.bk; omega) (fun q a e => by have := (C6.out.vo.blk a).2; omega), LY.out.ch S8.out.2 (fun q _ a e => by have := a.1; omega), Ch.trans GY.out S8.out.2 (fun q e => .inr (Nat.le_trans G6.out.size e))⟩
        · have kn : ¬ (k : Int) < (N : Int) := by omega
          go_wp2
          go_roundg K1
          case measure => omega
          case rel => exact ⟨j + 1, _, _, _, by omega, rfl, rfl, by simp, HV6.out, CY.out, LY.out.mono (fun q q1 a => ⟨q1, a.2⟩), GY.out⟩
    · have jn : ¬ (j : Int) < (M : Int) := by omega
      have HVB := hid (show ∀ q, Blk v q → q < wr.heap.size from fun q e => (C5.out.vo.blk e).2)
      have HBL := hid (lt_of_block C5.out.bk)
      go_wp2_with (first
        | (go_at_call 13; refine (HV.out _ b v _ C5.out HVS.out).mono ?_; rintro e w8 ⟨ao8, cap8, rfl, o8, g8⟩; have L8 := hid (L5.out.gr g8); have C8 := hid (C5.out.gr g8); have O8 := hid o8; have G8 := hid (Gr.trans G5.out g8); have Z8 := hid g8.size; clear o8 g8)
        | (at_builtin; refine wpList_append_ow eA_len rfl (.tmp 72) (.tmp 73) _ 28 40 _ Try.underlying43 acc_info rfl (by omega) rfl w.heap.size _ [] rfl (Ow.nil _ _ _ _ _) Q _ l rfl (HH2.out.gr G8.out) (eA_one _) K (by simp [HK.out]) (by omega) (by unfold maxLen; omega) (by simpa using G8.out.size) l rfl ?_; intro aow capw w9 o9 c9 b9; have hfx : Fx w w9.heap.size b v (.slice ao5 N cap5) (.slice ao8 N cap8) (.slice aow K capw) vs l w9 := (by have k9 : Gr w8 w9 := c9.mono (fun q e => by cases e); have z9 := k9.size; have z8 := Z8.out; exact ⟨(L8.out.gr k9).mono (fun q q1 _ => q1), ((O8.out.gr k9).lst).mono (fun q q1 _ => q1), o9.lst.mono (fun q q1 _ => q1), C8.out.gr k9, by have := HBL.out; omega, (fun q e => by have := HVB.out q e; omega), Nat.le_trans G8.out.size z9, Nat.le_refl _, Gr.trans G8.out k9⟩); have F9 := hid hfx; obtain ⟨S2, hS2⟩ : ∃ x, x = w9.heap.size := ⟨_, rfl⟩; rw [← hS2] at F9; clear o9 c9 b9 hfx hS2)
        | (go_at_call 17; refine (HRP.out _ _ _ _ _ vs F9.out.i F9.out.o HVS.out).mono ?_; rintro e wA ⟨aoA, kA, capA, yA, zA, ysA, rfl, oA, hnA, hkA, gA⟩; have FA := hid (F9.out.ch gA.any); have OA := hid (oA.lower F9.out.zw); have HNA := hid hnA; have hkA2 : kA ≤ 256 := (by omega); clear oA hnA hkA gA))
      go_loopg [20] kA (fun q i wq => ∃ (k : Nat) (ys : List Int), k + q = kA ∧ i = .int .i64 (k : Int) ∧ ys.length = kA ∧ Ow eI 1 2 S2 wq (.slice aoA kA capA) ys ∧ Fx w S2 b v (.slice ao5 N cap5) (.slice ao8 N cap8) (.slice aow K capw) vs l wq)
      case atStart => exact ⟨0, _, by omega, rfl, HNA.out, OA.out, FA.out⟩
      case round =>
        obtain ⟨k, ys, hkq, rfl, hys, hoy, hfy⟩ := hrel
        have HYS := hid hys
        have OY := hid hoy
        have FY := hid hfy
        clear hys hoy hfy
        by_cases hk : k < kA
        · have k0 : (0 : Int) ≤ (k : Int) := by omega
          have k1 : (k : Int) < (kA : Int) := by omega
          obtain ⟨g8, e8, ⟨c8, hc8⟩, hf8, hgl8, hs8⟩ := OY.out.spoil (S := S2) HYS.out (Nat.le_refl _) hk
          subst e8
          have S8 := hid (hs8 78)
          clear hs8
          go_wp2
          go_roundg (gk - 1)
          case measure => omega
          case rel => exact ⟨k + 1, _, by omega, by simp, (List.length_set).trans HYS.out, S8.out.1, FY.out.ch S8.out.2⟩
        · have kn : ¬ (k : Int) < (kA : Int) := by omega
          go_wp2_with (go_at_call 18; refine (HFR.out _ _ _ FY.out.o).mono ?_; rintro e wB ⟨aoB, capB, ysB, rfl, oB, hnB, gB⟩; have FB := hid (FY.out.ch gB.any); have OB := hid (oB.lower FY.out.zw); have HNB := hid hnB; clear oB hnB gB)
          go_loopg [22] K (fun q i wq => ∃ (k : Nat) (ys : List Int), k + q = K ∧ i = .int .i64 (k : Int) ∧ ys.length = K ∧ Ow eI 1 3 S2 wq (.slice aoB K capB) ys ∧ Fx w S2 b v (.slice ao5 N cap5) (.slice ao8 N cap8) (.slice aow K capw) vs l wq)
          case atStart => exact ⟨0, _, by omega, rfl, HNB.out, OB.out, FB.out⟩
          case round =>
            obtain ⟨k, ys, hkq, rfl, hys, hoy, hfy⟩ := hrel
            have HYT := hid hys
            have OZ := hid hoy
            have FZ := hid hfy
            clear hys hoy hfy
            by_cases hk : k < K
            · have k0 : (0 : Int) ≤ (k : Int) := by omega
              have k1 : (k : Int) < (K : Int) := by omega
              obtain ⟨g8, e8, ⟨c8, hc8⟩, hf8, hgl8, hs8⟩ := OZ.out.spoil (S := S2) HYT.out (Nat.le_refl _) hk
              subst e8
              have S8 := hid (hs8 79)
              clear hs8
              go_wp2
              go_roundg (gk - 1)
              case measure => omega
              case rel => exact ⟨k + 1, _, by omega, by simp, (List.length_set).trans HYT.out, S8.out.1, FZ.out.ch S8.out.2⟩
            · have kn : ¬ (k : Int) < (K : Int) := by omega
              go_wp2_with fail
              go_loopg [23] K (fun q i wq => ∃ k : Nat, k + q = K ∧ i = .int .i64 (k : Int) ∧ Fx w S2 b v (.slice ao5 N cap5) (.slice ao8 N cap8) (.slice aow K capw) vs l wq)
              case atStart => exact ⟨0, by omega, rfl, FZ.out⟩
              case round =>
                obtain ⟨k, hkq, rfl, hfy⟩ := hrel
                have FX := hid hfy
                clear hfy
                by_cases hk : k < K
                · obtain ⟨⟨tc, tk, tb, ta, tx⟩, ha⟩ : ∃ a, l[k]? = some a := ⟨_, List.getElem?_eq_getElem (by rw [← HK.out]; exact hk)⟩
                  obtain ⟨g1, p1, q1, e1, -, -, -, d⟩ := FX.out.o.get eA_len ha
                  obtain ⟨g2, p2, q2, e2, -, -, -, f⟩ := (HH2.out.gr FX.out.g).get eA_len ha
                  injection e1 with e1 h1 h2
                  injection e2 with e2 h3 h4
                  subst e1 e2
                  have d0 := d 0 _ rfl
                  have d1 := d 1 _ rfl
                  have d2 := d 2 _ rfl
                  have d3 := d 3 _ rfl
                  have d4 := d 4 _ rfl
                  have f0 := f 0 _ rfl
                  have f1 := f 1 _ rfl
                  have f2 := f 2 _ rfl
                  have f3 := f 3 _ rfl
                  have f4 := f 4 _ rfl
                  simp only [Nat.add_zero] at d0 d1 d2 d3 d4 f0 f1 f2 f3 f4
                  have k0 : (0 : Int) ≤ (k : Int) := by omega
                  have k1 : (k : Int) < (K : Int) := by omega
                  clear d f h1 h2 h3 h4 ha
                  go_wp2
                  go_quiet (fail)
                  go_wp2
                  go_roundg (gk - 1)
                  case measure => omega
                  case rel => exact ⟨k + 1, by omega, by simp, FX.out.ch ((Ch.refl _ _).drewN _)⟩
                · have kn : ¬ (k : Int) < (K : Int) := by omega
                  go_wp2_with (first
                    | (go_at_call 13; refine (HV.out _ b v _ FX.out.c HVS.out).mono ?_; rintro e wC ⟨aoC, capC, rfl, oC, gC⟩; have FC := hid (FX.out.ch gC.any); have OC := hid oC; clear oC gC)
                    | (go_at_call 19; first | (refine (HS.out _ _ _ _ vs _ FD.out.i FD.out.m HVS.out).mono ?_; rintro e wE ⟨rfl, gE⟩; have GE := hid (Gr.trans FD.out.g gE); clear gE) | (refine (HS.out _ _ _ _ vs _ OC.out.lst FC.out.m HVS.out).mono ?_; rintro e wD ⟨rfl, gD⟩; have FD := hid (FC.out.ch gD.any); clear gD))
                    | (go_at_call 9; refine (HA.out _).mono ?_; rintro e wF ⟨rfl, gF⟩; have GF := hid (Gr.trans GE.out gF); clear gF))
                  go_ret
                  exact ⟨rfl, GF.out⟩
end Go.Proofs.Ytpmhmikefkgbdab.Lt
