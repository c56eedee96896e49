/-
  How often windows have each place of a frame: crowds. Conditions: the windows lie within the frame, and are not too many.
-/
import Derived.Test.YtbghagpjkkmhpabTbArr
import Derived.Test.YtbghagpjkkmhpabTbSkip
import Derived.Deep.RegionHeld3
namespace Go.Proofs.Ytbghagpjkkmhpab.Lt
open Go.RowKit Wd
attribute [local go_sem ↓] Go.wp_at_zero Go.wp_at_succ
set_option maxRecDepth 20000

/-- the places below j counted, the others as they begin -/
def mixN (ws : List (Int × Int)) (j : Nat) (i : Int) : Int := if i < j then cvN ws i else bgN ws i
theorem mixN_hi {ws : List (Int × Int)} {j : Nat} {i : Int} (h : (j : Int) ≤ i) : mixN ws j i = bgN ws i := if_neg (by omega)
theorem mixN_lo {ws : List (Int × Int)} {j : Nat} {i : Int} (h : i < (j : Int)) : mixN ws j i = cvN ws i := if_pos h
theorem mixN_ne {ws : List (Int × Int)} {j q : Nat} (h : q ≠ j) : mixN ws j (q : Int) = mixN ws (j + 1) (q : Int) := by
  by_cases a : (q : Int) < (j : Int)
  · rw [mixN_lo a, mixN_lo (by omega)]
  · rw [mixN_hi (by omega), mixN_hi (by omega)]
set_option maxHeartbeats 16000000 in
theorem crowds_any (w : World) (P : Nat → Prop) (ao : Option Addr) (n cap Fn : Nat) (ws : List (Int × Int)) (h : Ls eW P w (.slice ao n cap) ws) (hb : ∀ q ∈ ws, 0 ≤ q.1 ∧ 1 ≤ q.2 ∧ q.1 + q.2 ≤ Fn) (hF1 : 1 ≤ Fn) (hF : Fn ≤ 65536) (hn : n ≤ 65536) :
    Calls Try.prog 38 #[.slice ao n cap, .int .u64 (Fn : Int)] w fun e w' => ∃ g, e = .returned (.slice (some ⟨g, 0, none⟩) Fn Fn) ∧ Ow eU 1 22 w.heap.size w' (.slice (some ⟨g, 0, none⟩) Fn Fn) (fl Fn (cvN ws)) ∧ Gr w w' := by
  have HX := hide (show ∀ W, Gr w W → Ls eW P W (.slice ao n cap) ws from fun W g => h.gr g)
  have HN := hide h.len.1
  have HB := hide hb
  have HB2 := hide (fun q (hq : q ∈ ws) => (⟨(hb q hq).1, (hb q hq).2.1⟩ : 0 ≤ q.1 ∧ 1 ≤ q.2))
  have HM0 := hide (cvN_neg HB2.out)
  have hwl : ws.length ≤ 65536 := by rw [← h.len.1]; exact hn
  have hS0 : Gr w w.drew := Ch.drew (Gr.refl w)
  have hN1 := hide (show Value.int .u64 (IntKind.u64.wrap ((Fn : Int) + 1)) = .int .u64 ((Fn + 1 : Nat) : Int) by rw [IntWalk.u64_in _ ⟨by omega, by omega⟩]; rfl)
  clear h hb
  go_enter Try.func38, Try.ntmps38
  go_wp2_with fail
  refine wp_region_held_drew (S := Gr w) (by kernel_rfl) (by exact hS0) (fun _ => ?_)
  generalize World.drew w = V0 at hS0 ⊢
  refine takeS_on (i := 0) 11 (v := ?hv1) rfl rfl (by kernel_rfl) (by kernel_rfl) (by kernel_rfl) (fun _ _ _ h => h) (by kernel_rfl) ?hh1 (by exact hS0) ?_
  case hh1 => (intro w' hSw; go_simp; try (with_reducible rfl))
  simp only [Act.put, List.setIfInBounds_toArray, List.set_cons_zero, List.set_cons_succ]
  refine takeS_on (i := 2) 13 (v := ?hv2) rfl rfl (by kernel_rfl) (by kernel_rfl) (by kernel_rfl) (fun _ _ _ h => h) (by kernel_rfl) ?hh2 (by exact hS0) ?_
  case hh2 => (intro w' hSw; go_simp; try (with_reducible rfl))
  simp only [Act.put, List.setIfInBounds_toArray, List.set_cons_zero, List.set_cons_succ]
  refine takeS_on (i := 3) 14 (v := ?hv3) rfl rfl (by kernel_rfl) (by kernel_rfl) (by kernel_rfl) (fun _ _ _ h => h) (by kernel_rfl) ?hh3 (by exact hS0) ?_
  case hh3 => (intro w' hSw; go_simp; try (with_reducible rfl))
  simp only [Act.put, List.setIfInBounds_toArray, List.set_cons_zero, List.set_cons_succ]
  refine wpAnyH_ready (rs := [1, 4]) (by kernel_rfl) (by simp) (AllReadyH.cons rfl (fun K hK => ?_) (AllReadyH.cons rfl (fun K hK => ?_) AllReadyH.nil))
  · refine step_make_u rfl (.tmp 11) (.tmp 11) rfl w.heap.size Fn .u64 .u64 rfl rfl (by omega) hS0.size ?_
    intro g5 wA e5 o5 k5
    have hSA := Gr.trans hS0 k5
    have E5 := hide e5
    clear e5
    refine hK.out _ _ (by exact hSA) (fun _ => ?_)
    change wpAnyH _ _ _ _ _ _ _ (Act.put _ (some 12) _) _
    simp only [Act.put, List.setIfInBounds_toArray, List.set_cons_zero, List.set_cons_succ]
    clear hK K
    refine takeS_on (i := 5) 5 (v := ?hv4) rfl rfl (by kernel_rfl) (by kernel_rfl) (by kernel_rfl) (fun _ _ _ h => h) (by kernel_rfl) ?hh4 (by exact hSA) ?_
    case hh4 => (intro w' hSw; go_simp; try (with_reducible rfl))
    simp only [Act.put, List.setIfInBounds_toArray, List.set_cons_zero, List.set_cons_succ]
    refine wpAnyH_ready (rs := [4]) (by kernel_rfl) (by simp) (AllReadyH.cons rfl (fun K hK => ?_) AllReadyH.nil)
    refine step_make_u rfl (.tmp 14) (.tmp 14) rfl w.heap.size (Fn + 1) .u64 .u64 hN1.out hN1.out (by omega) hSA.size ?_
    intro g6 wL e6 o6 k6
    have hSL := Gr.trans hSA k6
    have E6 := hide e6
    clear e6
    have HNE := hide (show g6 ≠ g5 from fun q => by have h8 := E6.out; have h9 : g5 < _ := (o5.blk rfl).2; omega)
    have O6 := hide o6
    have O5 := hide (o5.gr k6)
    clear o5 o6 k5 k6
    refine hK.out _ _ (by exact hSL) (fun _ => ?_)
    change wpAnyH _ _ _ _ _ _ _ (Act.put _ (some 15) _) _
    simp only [Act.put, List.setIfInBounds_toArray, List.set_cons_zero, List.set_cons_succ]
    clear hK K
    refine takeS_on (i := 6) 6 (v := ?hv5) rfl rfl (by kernel_rfl) (by kernel_rfl) (by kernel_rfl) (fun _ _ _ h => h) (by kernel_rfl) ?hh5 (by exact hSL) ?_
    case hh5 => (intro w' hSw; go_simp; try (with_reducible rfl))
    simp only [Act.put, List.setIfInBounds_toArray, List.set_cons_zero, List.set_cons_succ]
    refine wpAnyH_done (by kernel_rfl) ?_ _
    have NE5 := hide (show g5 ≠ g6 from HNE.out.symm)
    have NE6 := hide (show g6 ≠ g5 from HNE.out)
    have GL := hide hSL
    have B5 := hide (O5.out.blk rfl).1
    have B6 := hide (O6.out.blk rfl).1
    have P5 := hide (show Ow eU 1 22 w.heap.size wL (.slice (some ⟨g5, 0, none⟩) Fn Fn) (fl Fn (bgN (ws.take 0))) by rw [← fl_zero (n := Fn) (f := bgN (ws.take 0)) (fun i => rfl)]; exact O5.out)
    have P6 := hide (show Ow eU 1 22 w.heap.size wL (.slice (some ⟨g6, 0, none⟩) (Fn + 1) (Fn + 1)) (fl (Fn + 1) (enN (ws.take 0))) by rw [← fl_zero (n := Fn + 1) (f := enN (ws.take 0)) (fun i => rfl)]; exact O6.out)
    clear hSL hSA hS0 O5 O6 HNE
    go_wp2_with fail
    go_loopg [18] n (fun k i wr => ∃ (j : Nat), j + k = n ∧ i = .int .i64 (j : Int) ∧ Ow eU 1 22 w.heap.size wr (.slice (some ⟨g5, 0, none⟩) Fn Fn) (fl Fn (bgN (ws.take j))) ∧ Ow eU 1 22 w.heap.size wr (.slice (some ⟨g6, 0, none⟩) (Fn + 1) (Fn + 1)) (fl (Fn + 1) (enN (ws.take j))) ∧ Gr w wr)
    case atStart => exact ⟨0, by omega, rfl, P5.out, P6.out, GL.out⟩
    case round =>
      obtain ⟨j, hjk, rfl, hp5, hp6, hg⟩ := hrel
      obtain ⟨V, hV⟩ : ∃ W, W = wr := ⟨_, rfl⟩
      subst hV
      have G := hide hg
      by_cases hj : j < n
      · have hj' : (j : Int) < (n : Int) := by omega
        have hj0 : (0 : Int) ≤ (j : Int) := by omega
        have hjl : j < ws.length := by rw [← HN.out]; exact hj
        have hjx : ws[j]? = some ws[j] := List.getElem?_eq_getElem hjl
        have hqm : ws[j] ∈ ws := List.getElem_mem hjl
        generalize ws[j] = q at hjx hqm
        obtain ⟨q0, q1, q2⟩ := HB.out q hqm
        have HTK := hide (show ws.take (j + 1) = ws.take j ++ [q] by rw [List.take_add_one, hjx]; rfl)
        obtain ⟨g, o, e1, hgl, hcap, c0, c1⟩ := win_at (HX.out _ hg) hjx
        subst e1
        obtain ⟨s, hs⟩ : ∃ s : Nat, q.1 = (s : Int) := ⟨q.1.toNat, by omega⟩
        obtain ⟨e, he⟩ : ∃ e : Nat, q.1 + q.2 = (e : Int) := ⟨(q.1 + q.2).toNat, by omega⟩
        have HSQ := hide hs
        have HEQ := hide he
        rw [hs] at c0 he
        obtain ⟨b0, b1⟩ := bgN_bd (ws.take j) (s : Int)
        obtain ⟨d0, d1⟩ := enN_bd (ws.take j) (e : Int)
        have hlen : (ws.take j).length ≤ 65536 := by rw [List.length_take]; omega
        have s0 : (0 : Int) ≤ (s : Int) := by omega
        have s1 : (s : Int) < (Fn : Int) := by omega
        have x0 : (0 : Int) ≤ (e : Int) := by omega
        have x1 : (e : Int) < (Fn : Int) + 1 := by omega
        obtain ⟨m1, m2, m3, m4⟩ := hp5.num (fl_get (n := Fn) (i := s) (bgN (ws.take j)) (by omega))
        obtain ⟨n1, n2, n3, n4⟩ := hp6.num (fl_get (n := Fn + 1) (i := e) (enN (ws.take j)) (by omega))
        have HP6 := hide hp6
        have HP5 := hide hp5
        have hne5 := NE5.out
        have hne6 := NE6.out
        have HL5 := hide (show (fl Fn (bgN (ws.take j))).set s (bgN (ws.take j) (s : Int) + 1) = fl Fn (bgN (ws.take (j + 1))) from fl_set (by omega) (by rw [HTK.out, bgN_snoc, HSQ.out, if_pos rfl]) (fun i hi hne => by rw [HTK.out, bgN_snoc, HSQ.out, if_neg (by omega), Int.add_zero]))
        have HL6 := hide (show (fl (Fn + 1) (enN (ws.take j))).set e (enN (ws.take j) (e : Int) + 1) = fl (Fn + 1) (enN (ws.take (j + 1))) from fl_set (by omega) (by rw [HTK.out, enN_snoc, HEQ.out, if_pos rfl]) (fun i hi hne => by rw [HTK.out, enN_snoc, HEQ.out, if_neg (by omega), Int.add_zero]))
        generalize bgN (ws.take j) (s : Int) = bv at *
        generalize enN (ws.take j) (e : Int) = ev at *
        have k1 : bv + 1 ≤ 18446744073709551615 := by omega
        have k2 : ev + 1 ≤ 18446744073709551615 := by omega
        clear hp5 hp6 hjx hqm hg q0 q1 q2 b1 d1 hlen m4 n4 hs
        go_wp2
        go_roundg (gk - 1)
        case measure => omega
        case rel =>
          refine ⟨j + 1, by omega, ?_, ?_, ?_, ?_⟩
          · first | with_reducible rfl | simp
          · rw [← HL5.out]
            exact ((((HP5.out).num (fl_get (n := Fn) (i := s) (bgN (ws.take j)) (by omega))).2.2.2 _).ch (Ch.own (b := g6) (Ch.refl _ _) _ _) (fun q hq hq2 => NE5.out ((show g5 = q from Option.some.inj hq).trans hq2))).alloc _
          · rw [← HL6.out]
            exact ((((HP6.out).ch (Ch.own (b := g5) (Ch.refl _ _) _ _) (fun q hq hq2 => NE6.out ((show g6 = q from Option.some.inj hq).trans hq2))).num (fl_get (n := Fn + 1) (i := e) (enN (ws.take j)) (by omega))).2.2.2 _).alloc _
          · exact Ch.alloc (Ch.fresh (Ch.fresh G.out B5.out _ _) B6.out _ _) _
      · have hj' : ¬ ((j : Int) < (n : Int)) := by omega
        have HJ := hide (show ws.take j = ws from List.take_of_length_le (by rw [← HN.out]; omega))
        rw [HJ.out] at hp5 hp6
        have HP5 := hide hp5
        have HP6 := hide hp6
        clear hp5 hp6 hg
        go_wp2_with fail
        go_loopg [9, 42] Fn (fun k nv i wr => ∃ (j : Nat), j + k = Fn ∧ i = .int .i64 (j : Int) ∧ nv = .int .u64 (cvN ws ((j : Int) - 1)) ∧ Ow eU 1 22 w.heap.size wr (.slice (some ⟨g5, 0, none⟩) Fn Fn) (fl Fn (mixN ws j)) ∧ Ow eU 1 22 w.heap.size wr (.slice (some ⟨g6, 0, none⟩) (Fn + 1) (Fn + 1)) (fl (Fn + 1) (enN ws)) ∧ Gr w wr)
        case atStart => exact ⟨0, by omega, rfl, by rw [show ((0 : Nat) : Int) - 1 = -1 from rfl, HM0.out], by rw [fl_congr (g := bgN ws) (fun i _ => mixN_hi (by omega))]; exact HP5.out, HP6.out, G.out⟩
        case round =>
          obtain ⟨i, hik, rfl, rfl, hp5, hp6, hg⟩ := hrel
          obtain ⟨Z, hZ⟩ : ∃ W, W = wr := ⟨_, rfl⟩
          subst hZ
          have GZ := hide hg
          by_cases hi : i < Fn
          · have hi' : (i : Int) < (Fn : Int) := by omega
            have hi1 : (i : Int) < (Fn : Int) + 1 := by omega
            have hi0 : (0 : Int) ≤ (i : Int) := by omega
            obtain ⟨m1, m2, m3, m4⟩ := hp5.num (fl_get (n := Fn) (i := i) (mixN ws i) hi)
            obtain ⟨n1, n2, n3, n4⟩ := hp6.num (fl_get (n := Fn + 1) (i := i) (enN ws) (by omega))
            rw [mixN_hi (Int.le_refl _)] at m1
            have hst := cvN_step (ws := ws) (i := (i : Int)) HB2.out hi0
            obtain ⟨b0, b1⟩ := cvN_bd ws (i : Int)
            have HW := hide (show IntKind.u64.wrap (cvN ws ((i : Int) - 1) + IntKind.u64.wrap (bgN ws (i : Int) - enN ws (i : Int))) = cvN ws (((i + 1 : Nat) : Int) - 1) by rw [wrap_way (by omega) (by omega), ← hst]; congr 1; omega)
            have HP6 := hide hp6
            have HP5 := hide hp5
            have HLM := hide (show (fl Fn (mixN ws i)).set i (cvN ws (((i + 1 : Nat) : Int) - 1)) = fl Fn (mixN ws (i + 1)) from fl_set hi (by rw [mixN_lo (by omega)]; congr 1; omega) (fun q hq hne => mixN_ne hne))
            generalize bgN ws (i : Int) = bv at *
            generalize enN ws (i : Int) = ev at *
            generalize cvN ws ((i : Int) - 1) = cv at *
            clear hp5 hp6 hg hst b0 b1 m4 n4
            go_wp2_with fail
            go_quiet (fail)
            go_wp2_with fail
            rw [HW.out]
            go_roundg (gk - 1)
            case measure => omega
            case rel =>
              refine ⟨i + 1, by omega, ?_, rfl, ?_, ?_, Ch.fresh (Ch.drewN GZ.out _) B5.out _ _⟩
              · first | with_reducible rfl | simp
              · rw [← HLM.out]
                exact ((HP5.out.drewN _).num (fl_get (n := Fn) (i := i) (mixN ws i) hi)).2.2.2 _
              · exact (HP6.out.drewN _).ch (Ch.own (b := g5) (Ch.refl _ _) _ _) (fun q hq hq2 => NE6.out ((show g6 = q from Option.some.inj hq).trans hq2))
          · have hi' : ¬ ((i : Int) < (Fn : Int)) := by omega
            have HE := hide (show fl Fn (mixN ws i) = fl Fn (cvN ws) from fl_congr fun q hq => mixN_lo (by omega))
            have HP5 := hide hp5
            clear hp5 hp6 hg
            go_wp2
            go_ret
            exact ⟨g5, rfl, by rw [← HE.out]; exact HP5.out, GZ.out⟩
  · refine step_make_u rfl (.tmp 14) (.tmp 14) rfl w.heap.size (Fn + 1) .u64 .u64 hN1.out hN1.out (by omega) hS0.size ?_
    intro g6 wA e6 o6 k6
    have hSA := Gr.trans hS0 k6
    have E6 := hide e6
    clear e6
    refine hK.out _ _ (by exact hSA) (fun _ => ?_)
    change wpAnyH _ _ _ _ _ _ _ (Act.put _ (some 15) _) _
    simp only [Act.put, List.setIfInBounds_toArray, List.set_cons_zero, List.set_cons_succ]
    clear hK K
    refine wpAnyH_ready (rs := [1]) (by kernel_rfl) (by simp) (AllReadyH.cons rfl (fun K hK => ?_) AllReadyH.nil)
    refine step_make_u rfl (.tmp 11) (.tmp 11) rfl w.heap.size Fn .u64 .u64 rfl rfl (by omega) hSA.size ?_
    intro g5 wL e5 o5 k5
    have hSL := Gr.trans hSA k5
    have E5 := hide e5
    clear e5
    have HNE := hide (show g5 ≠ g6 from fun q => by have h8 := E5.out; have h9 : g6 < _ := (o6.blk rfl).2; omega)
    have O5 := hide o5
    have O6 := hide (o6.gr k5)
    clear o5 o6 k5 k6
    refine hK.out _ _ (by exact hSL) (fun _ => ?_)
    change wpAnyH _ _ _ _ _ _ _ (Act.put _ (some 12) _) _
    simp only [Act.put, List.setIfInBounds_toArray, List.set_cons_zero, List.set_cons_succ]
    clear hK K
    refine takeS_on (i := 5) 5 (v := ?hv6) rfl rfl (by kernel_rfl) (by kernel_rfl) (by kernel_rfl) (fun _ _ _ h => h) (by kernel_rfl) ?hh6 (by exact hSL) ?_
    case hh6 => (intro w' hSw; go_simp; try (with_reducible rfl))
    simp only [Act.put, List.setIfInBounds_toArray, List.set_cons_zero, List.set_cons_succ]
    refine takeS_on (i := 6) 6 (v := ?hv7) rfl rfl (by kernel_rfl) (by kernel_rfl) (by kernel_rfl) (fun _ _ _ h => h) (by kernel_rfl) ?hh7 (by exact hSL) ?_
    case hh7 => (intro w' hSw; go_simp; try (with_reducible rfl))
    simp only [Act.put, List.setIfInBounds_toArray, List.set_cons_zero, List.set_cons_succ]
    refine wpAnyH_done (by kernel_rfl) ?_ _
    have NE5 := hide (show g5 ≠ g6 from HNE.out)
    have NE6 := hide (show g6 ≠ g5 from HNE.out.symm)
    have GL := hide hSL
    have B5 := hide (O5.out.blk rfl).1
    have B6 := hide (O6.out.blk rfl).1
    have P5 := hide (show Ow eU 1 22 w.heap.size wL (.slice (some ⟨g5, 0, none⟩) Fn Fn) (fl Fn (bgN (ws.take 0))) by rw [← fl_zero (n := Fn) (f := bgN (ws.take 0)) (fun i => rfl)]; exact O5.out)
    have P6 := hide (show Ow eU 1 22 w.heap.size wL (.slice (some ⟨g6, 0, none⟩) (Fn + 1) (Fn + 1)) (fl (Fn + 1) (enN (ws.take 0))) by rw [← fl_zero (n := Fn + 1) (f := enN (ws.take 0)) (fun i => rfl)]; exact O6.out)
    clear hSL hSA hS0 O5 O6 HNE
    go_wp2_with fail
    go_loopg [18] n (fun k i wr => ∃ (j : Nat), j + k = n ∧ i = .int .i64 (j : Int) ∧ Ow eU 1 22 w.heap.size wr (.slice (some ⟨g5, 0, none⟩) Fn Fn) (fl Fn (bgN (ws.take j))) ∧ Ow eU 1 22 w.heap.size wr (.slice (some ⟨g6, 0, none⟩) (Fn + 1) (Fn + 1)) (fl (Fn + 1) (enN (ws.take j))) ∧ Gr w wr)
    case atStart => exact ⟨0, by omega, rfl, P5.out, P6.out, GL.out⟩
    case round =>
      obtain ⟨j, hjk, rfl, hp5, hp6, hg⟩ := hrel
      obtain ⟨V, hV⟩ : ∃ W, W = wr := ⟨_, rfl⟩
      subst hV
      have G := hide hg
      by_cases hj : j < n
      · have hj' : (j : Int) < (n : Int) := by omega
        have hj0 : (0 : Int) ≤ (j : Int) := by omega
        have hjl : j < ws.length := by rw [← HN.out]; exact hj
        have hjx : ws[j]? = some ws[j] := List.getElem?_eq_getElem hjl
        have hqm : ws[j] ∈ ws := List.getElem_mem hjl
        generalize ws[j] = q at hjx hqm
        obtain ⟨q0, q1, q2⟩ := HB.out q hqm
        have HTK := hide (show ws.take (j + 1) = ws.take j ++ [q] by rw [List.take_add_one, hjx]; rfl)
        obtain ⟨g, o, e1, hgl, hcap, c0, c1⟩ := win_at (HX.out _ hg) hjx
        subst e1
        obtain ⟨s, hs⟩ : ∃ s : Nat, q.1 = (s : Int) := ⟨q.1.toNat, by omega⟩
        obtain ⟨e, he⟩ : ∃ e : Nat, q.1 + q.2 = (e : Int) := ⟨(q.1 + q.2).toNat, by omega⟩
        have HSQ := hide hs
        have HEQ := hide he
        rw [hs] at c0 he
        obtain ⟨b0, b1⟩ := bgN_bd (ws.take j) (s : Int)
        obtain ⟨d0, d1⟩ := enN_bd (ws.take j) (e : Int)
        have hlen : (ws.take j).length ≤ 65536 := by rw [List.length_take]; omega
        have s0 : (0 : Int) ≤ (s : Int) := by omega
        have s1 : (s : Int) < (Fn : Int) := by omega
        have x0 : (0 : Int) ≤ (e : Int) := by omega
        have x1 : (e : Int) < (Fn : Int) + 1 := by omega
        obtain ⟨m1, m2, m3, m4⟩ := hp5.num (fl_get (n := Fn) (i := s) (bgN (ws.take j)) (by omega))
        obtain ⟨n1, n2, n3, n4⟩ := hp6.num (fl_get (n := Fn + 1) (i := e) (enN (ws.take j)) (by omega))
        have HP6 := hide hp6
        have HP5 := hide hp5
        have hne5 := NE5.out
        have hne6 := NE6.out
        have HL5 := hide (show (fl Fn (bgN (ws.take j))).set s (bgN (ws.take j) (s : Int) + 1) = fl Fn (bgN (ws.take (j + 1))) from fl_set (by omega) (by rw [HTK.out, bgN_snoc, HSQ.out, if_pos rfl]) (fun i hi hne => by rw [HTK.out, bgN_snoc, HSQ.out, if_neg (by omega), Int.add_zero]))
        have HL6 := hide (show (fl (Fn + 1) (enN (ws.take j))).set e (enN (ws.take j) (e : Int) + 1) = fl (Fn + 1) (enN (ws.take (j + 1))) from fl_set (by omega) (by rw [HTK.out, enN_snoc, HEQ.out, if_pos rfl]) (fun i hi hne => by rw [HTK.out, enN_snoc, HEQ.out, if_neg (by omega), Int.add_zero]))
        generalize bgN (ws.take j) (s : Int) = bv at *
        generalize enN (ws.take j) (e : Int) = ev at *
        have k1 : bv + 1 ≤ 18446744073709551615 := by omega
        have k2 : ev + 1 ≤ 18446744073709551615 := by omega
        clear hp5 hp6 hjx hqm hg q0 q1 q2 b1 d1 hlen m4 n4 hs
        go_wp2
        go_roundg (gk - 1)
        case measure => omega
        case rel =>
          refine ⟨j + 1, by omega, ?_, ?_, ?_, ?_⟩
          · first | with_reducible rfl | simp
          · rw [← HL5.out]
            exact ((((HP5.out).num (fl_get (n := Fn) (i := s) (bgN (ws.take j)) (by omega))).2.2.2 _).ch (Ch.own (b := g6) (Ch.refl _ _) _ _) (fun q hq hq2 => NE5.out ((show g5 = q from Option.some.inj hq).trans hq2))).alloc _
          · rw [← HL6.out]
            exact ((((HP6.out).ch (Ch.own (b := g5) (Ch.refl _ _) _ _) (fun q hq hq2 => NE6.out ((show g6 = q from Option.some.inj hq).trans hq2))).num (fl_get (n := Fn + 1) (i := e) (enN (ws.take j)) (by omega))).2.2.2 _).alloc _
          · exact Ch.alloc (Ch.fresh (Ch.fresh G.out B5.out _ _) B6.out _ _) _
      · have hj' : ¬ ((j : Int) < (n : Int)) := by omega
        have HJ := hide (show ws.take j = ws from List.take_of_length_le (by rw [← HN.out]; omega))
        rw [HJ.out] at hp5 hp6
        have HP5 := hide hp5
        have HP6 := hide hp6
        clear hp5 hp6 hg
        go_wp2_with fail
        go_loopg [9, 42] Fn (fun k nv i wr => ∃ (j : Nat), j + k = Fn ∧ i = .int .i64 (j : Int) ∧ nv = .int .u64 (cvN ws ((j : Int) - 1)) ∧ Ow eU 1 22 w.heap.size wr (.slice (some ⟨g5, 0, none⟩) Fn Fn) (fl Fn (mixN ws j)) ∧ Ow eU 1 22 w.heap.size wr (.slice (some ⟨g6, 0, none⟩) (Fn + 1) (Fn + 1)) (fl (Fn + 1) (enN ws)) ∧ Gr w wr)
        case atStart => exact ⟨0, by omega, rfl, by rw [show ((0 : Nat) : Int) - 1 = -1 from rfl, HM0.out], by rw [fl_congr (g := bgN ws) (fun i _ => mixN_hi (by omega))]; exact HP5.out, HP6.out, G.out⟩
        case round =>
          obtain ⟨i, hik, rfl, rfl, hp5, hp6, hg⟩ := hrel
          obtain ⟨Z, hZ⟩ : ∃ W, W = wr := ⟨_, rfl⟩
          subst hZ
          have GZ := hide hg
          by_cases hi : i < Fn
          · have hi' : (i : Int) < (Fn : Int) := by omega
            have hi1 : (i : Int) < (Fn : Int) + 1 := by omega
            have hi0 : (0 : Int) ≤ (i : Int) := by omega
            obtain ⟨m1, m2, m3, m4⟩ := hp5.num (fl_get (n := Fn) (i := i) (mixN ws i) hi)
            obtain ⟨n1, n2, n3, n4⟩ := hp6.num (fl_get (n := Fn + 1) (i := i) (enN ws) (by omega))
            rw [mixN_hi (Int.le_refl _)] at m1
            have hst := cvN_step (ws := ws) (i := (i : Int)) HB2.out hi0
            obtain ⟨b0, b1⟩ := cvN_bd ws (i : Int)
            have HW := hide (show IntKind.u64.wrap (cvN ws ((i : Int) - 1) + IntKind.u64.wrap (bgN ws (i : Int) - enN ws (i : Int))) = cvN ws (((i + 1 : Nat) : Int) - 1) by rw [wrap_way (by omega) (by omega), ← hst]; congr 1; omega)
            have HP6 := hide hp6
            have HP5 := hide hp5
            have HLM := hide (show (fl Fn (mixN ws i)).set i (cvN ws (((i + 1 : Nat) : Int) - 1)) = fl Fn (mixN ws (i + 1)) from fl_set hi (by rw [mixN_lo (by omega)]; congr 1; omega) (fun q hq hne => mixN_ne hne))
            generalize bgN ws (i : Int) = bv at *
            generalize enN ws (i : Int) = ev at *
            generalize cvN ws ((i : Int) - 1) = cv at *
            clear hp5 hp6 hg hst b0 b1 m4 n4
            go_wp2_with fail
            go_quiet (fail)
            go_wp2_with fail
            rw [HW.out]
            go_roundg (gk - 1)
            case measure => omega
            case rel =>
              refine ⟨i + 1, by omega, ?_, rfl, ?_, ?_, Ch.fresh (Ch.drewN GZ.out _) B5.out _ _⟩
              · first | with_reducible rfl | simp
              · rw [← HLM.out]
                exact ((HP5.out.drewN _).num (fl_get (n := Fn) (i := i) (mixN ws i) hi)).2.2.2 _
              · exact (HP6.out.drewN _).ch (Ch.own (b := g5) (Ch.refl _ _) _ _) (fun q hq hq2 => NE6.out ((show g6 = q from Option.some.inj hq).trans hq2))
          · have hi' : ¬ ((i : Int) < (Fn : Int)) := by omega
            have HE := hide (show fl Fn (mixN ws i) = fl Fn (cvN ws) from fl_congr fun q hq => mixN_lo (by omega))
            have HP5 := hide hp5
            clear hp5 hp6 hg
            go_wp2
            go_ret
            exact ⟨g5, rfl, by rw [← HE.out]; exact HP5.out, GZ.out⟩
end Go.Proofs.Ytbghagpjkkmhpab.Lt
