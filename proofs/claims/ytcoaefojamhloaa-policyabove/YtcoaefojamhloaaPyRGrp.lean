/-
  What Groups answers: the document. Condition: the list is not too long.
-/
import Derived.Test.YtcoaefojamhloaaPyGrp
namespace Go.Proofs.Ytcoaefojamhloaa.Lt
open Go.RowKit Wd
attribute [local go_sem ↓] Go.wp_at_zero Go.wp_at_succ
set_option maxRecDepth 20000

set_option maxHeartbeats 8000000 in
theorem rgroups_any (w : World) (n : Int) (a : Option Addr) (m c : Nat) (l : List Eg) (h : Le w (.slice a m c) l) (hm : m ≤ 8796093022208) :
    Calls Try.prog 20 #[.int .i64 n, .slice a m c] w fun e w' => NumR w (grpI n l) (wrgP n l []) e w' := by
  have C := hide (rcheck_any w n a m c l h hm)
  unfold chkE at C
  rw [← wrgP_nil] at C
  generalize (chkP n l).1 = place at C
  by_cases h0 : wrgP n l [] = 0
  · obtain ⟨n1, n2, ok, -⟩ := wrgP_ok h0
    have hI : grpI n l = gl n.toNat (fun d => (grp (pthR n.toNat l) d : Int)) := if_pos h0
    obtain ⟨N, rfl⟩ : ∃ N : Nat, n = (N : Int) := ⟨n.toNat, by omega⟩
    rw [Int.toNat_natCast] at hI
    have CP := hide (show ∀ W, Gr w W → ∀ d, d < N → Calls Try.prog 29 #[.int .i64 (N : Int), .slice a m c, .int .i64 (d : Int)] W fun e w' => e = .returned (.slice (some ⟨W.heap.size, 0, none⟩) N N) ∧ Bs W.heap.size w' W.heap.size N (fun b => pthR N l d b) ∧ Gr W w' from fun W g d hd => by
      have e : (fun b => pthR N l d b) = itS l N (sgl d) := by funext b; exact (rch_pth ok hd).symm
      rw [e]
      exact reached_any W N (by omega) a m c l (h.gr g) hm ok d hd)
    have hN : N ≤ 16 := by omega
    have HRF := hide (show ∀ d, d < N → pthR N l d d = true from fun d hd => pth_refl hd)
    rw [h0] at C ⊢
    rw [hI]
    generalize pthR N l = r at CP HRF ⊢
    have HLN := hide (gl_len N fun d => (grp r d : Int))
    clear h ok n1 n2 h0 hI
    go_enter Try.func20, Try.ntmps20
    go_wp2_with fail
    refine C.out.mono ?_
    rintro e w1 ⟨rfl, g1⟩
    have G1 := hide g1
    clear g1
    go_wp2_with fail
    go_loopg [8, 9] N (fun k lv i wr => ∃ (j : Nat), j + k = N ∧ i = .int .i64 (j : Int) ∧ Ow eI 1 3 w.heap.size wr lv (gl j (fun d => (grp r d : Int))) ∧ Gr w wr)
    case atStart => exact ⟨0, by omega, rfl, (ow_empty _ _).lower G1.out.size, Ch.alloc G1.out _⟩
    case round =>
      obtain ⟨d, hdk, rfl, ho, hg⟩ := hrel
      obtain ⟨ao, cap, rfl⟩ := ho.form
      rw [gl_len] at ho ⊢
      have HO := hide ho
      have G := hide hg
      obtain ⟨V, hV⟩ : ∃ V, V = wr := ⟨_, rfl⟩
      subst hV
      clear ho hg
      by_cases hd : d < N
      · have hd' : (d : Int) < (N : Int) := by omega
        have hd0 : (0 : Int) ≤ (d : Int) := by omega
        have hd16 : (d : Int) < 16 := by omega
        have HGS := hide (grp_spec (HRF.out d hd))
        go_wp2_with fail
        go_loopg [10, 11] N (fun z lv kv wr => ∃ (u : Nat), lv = .int .i64 (u : Int) ∧ kv = .int .i64 ((z : Int) - 1) ∧ z ≤ N ∧ u ≤ d ∧ both r d u = true ∧ (∀ i, z ≤ i → i < u → both r d i = false) ∧ Gr V wr)
        case atStart => exact ⟨d, rfl, rfl, Nat.le_refl _, Nat.le_refl _, by rw [both_of (HRF.out d hd) (HRF.out d hd)]; rfl, fun i h1 h2 => by omega, Gr.refl _⟩
        case round =>
          obtain ⟨u, rfl, rfl, hzN, hud, hbu, hno, hg2⟩ := hrel
          have HBU := hide hbu
          have HNO := hide hno
          have G2 := hide hg2
          by_cases hz : gk = 0
          · have e1 : (((gk : Nat) : Int) - 1) = -1 := by omega
            rw [e1]
            have HE := hide (show u = grp r d from IsLst.uniq ⟨HBU.out, fun i hi => HNO.out i (by omega) hi⟩ HGS.out)
            have HSC := hide (gl_succ d fun d => (grp r d : Int))
            have HO2 := hide (HO.out.gr hg2)
            have HG2 := hide (Gr.trans G.out hg2)
            have hln : (gl d (fun d => (grp r d : Int))).length = d := gl_len _ _
            have HLL := hide hln
            have HS := hide HG2.out.size
            generalize gl d (fun d => (grp r d : Int)) = xs at *
            clear hbu hno hg2 hln e1
            go_wp2_with (at_builtin; refine wpList_append_ow eI_len rfl (.tmp 56) (.tmp 58) _ 3 8 _ Try.underlying34 int_info rfl (by omega) rfl w.heap.size _ xs rfl (HO2.out.alloc _) _ _ [(u : Int)] rfl (Ls.single _ (u : Int) 3 #[.int .i64 (u : Int)] rfl) (eI_one _) (d + 1) (by rw [HLL.out]; rfl) (by omega) (by unfold maxLen; omega) (by simp; have := HS.out; omega) (xs ++ [(u : Int)]) rfl ?_; intro ao5 cap5 w5 ow5 cw5 bl5; have O5 := hide ow5; have C5 := hide (show Gr w w5 from Ch.trans (Ch.alloc HG2.out _) cw5 (fun q e => .inr (HO2.out.blk e).1)); clear ow5 cw5 bl5)
            go_roundg (N - (d + 1))
            case measure => omega
            case rel =>
              refine ⟨d + 1, by omega, ?_, by rw [HSC.out, ← HE.out]; exact O5.out, C5.out⟩
              first | with_reducible rfl | simp
          · obtain ⟨k, hkz⟩ : ∃ k, gk = k + 1 := ⟨gk - 1, by omega⟩
            have e1 : (((gk : Nat) : Int) - 1) = (k : Int) := by omega
            rw [e1]
            have hk0 : (0 : Int) ≤ (k : Int) := by omega
            have hkN : k < N := by omega
            have hkN' : (k : Int) < (N : Int) := by omega
            have hk16 : (k : Int) < 16 := by omega
            have C1 := hide (CP.out wr (Gr.trans G.out hg2) d hd)
            clear hbu hno hg2 e1
            by_cases hku : k < u
            · have hku' : (k : Int) < (u : Int) := by omega
              cases h1 : r d k
              · have HB : Hid (both r d k = false) := hide (by unfold both; rw [h1]; rfl)
                go_wp2_with fail
                refine C1.out.mono ?_
                rintro e w2 ⟨rfl, b2, g2⟩
                obtain ⟨c0, -, cz, -⟩ := b2.bit hkN
                rw [h1] at c0
                have G3 := hide (Gr.trans G2.out g2)
                clear g2 b2
                go_wp2
                go_roundg k
                case measure => omega
                case rel =>
                  refine ⟨u, rfl, ?_, by omega, hud, HBU.out, fun i h3 h4 => ?_, G3.out⟩
                  · first | with_reducible rfl | simp
                  · by_cases e : i = k
                    · rw [e]; exact HB.out
                    · exact HNO.out i (by omega) h4
              · cases h2 : r k d
                · have HB : Hid (both r d k = false) := hide (by unfold both; rw [h2]; simp)
                  go_wp2_with fail
                  refine C1.out.mono ?_
                  rintro e w2 ⟨rfl, b2, g2⟩
                  obtain ⟨c0, -, cz, -⟩ := b2.bit hkN
                  rw [h1] at c0
                  have G3 := hide (Gr.trans G2.out g2)
                  clear g2 b2
                  go_wp2_with fail
                  refine (CP.out _ (Gr.trans G.out G3.out) k hkN).mono ?_
                  rintro e w3 ⟨rfl, b3, g3⟩
                  obtain ⟨d0, -, dz, -⟩ := b3.bit hd
                  rw [h2] at d0
                  have G4 := hide (Gr.trans G3.out g3)
                  clear g3 b3 c0 cz
                  go_wp2
                  go_roundg k
                  case measure => omega
                  case rel =>
                    refine ⟨u, rfl, ?_, by omega, hud, HBU.out, fun i h3 h4 => ?_, G4.out⟩
                    · first | with_reducible rfl | simp
                    · by_cases e : i = k
                      · rw [e]; exact HB.out
                      · exact HNO.out i (by omega) h4
                · have HB : Hid (both r d k = true) := hide (both_of h1 h2)
                  go_wp2_with fail
                  refine C1.out.mono ?_
                  rintro e w2 ⟨rfl, b2, g2⟩
                  obtain ⟨c0, -, cz, -⟩ := b2.bit hkN
                  rw [h1] at c0
                  have G3 := hide (Gr.trans G2.out g2)
                  clear g2 b2
                  go_wp2_with fail
                  refine (CP.out _ (Gr.trans G.out G3.out) k hkN).mono ?_
                  rintro e w3 ⟨rfl, b3, g3⟩
                  obtain ⟨d0, -, dz, -⟩ := b3.bit hd
                  rw [h2] at d0
                  have G4 := hide (Gr.trans G3.out g3)
                  clear g3 b3 c0 cz
                  go_wp2
                  go_roundg k
                  case measure => omega
                  case rel =>
                    refine ⟨k, rfl, ?_, by omega, by omega, HB.out, fun i h3 h4 => by omega, G4.out⟩
                    first | with_reducible rfl | simp
            · have hku' : ¬ ((k : Int) < (u : Int)) := by omega
              go_wp2
              go_roundg k
              case measure => omega
              case rel =>
                refine ⟨u, rfl, ?_, by omega, hud, HBU.out, fun i h3 h4 => by omega, G2.out⟩
                first | with_reducible rfl | simp
      · have hd' : ¬ ((d : Int) < (N : Int)) := by omega
        have hde : d = N := by omega
        subst hde
        go_wp2
        go_ret2
        exact ⟨ao, cap, by rw [HLN.out]; rfl, by rw [HLN.out]; exact HO.out.lst, G.out⟩
  · have hI : grpI n l = [] := if_neg h0
    rw [hI]
    generalize wrgP n l [] = E at *
    have hne : (E != 0) = true := by simpa using h0
    clear h hI h0
    go_enter Try.func20, Try.ntmps20
    go_wp2_with fail
    refine C.out.mono ?_
    rintro e w1 ⟨rfl, g1⟩
    have G1 := hide g1
    clear g1
    go_wp2
    go_ret2
    exact ⟨none, 0, rfl, Ls.nil _ _ _, G1.out⟩
end Go.Proofs.Ytcoaefojamhloaa.Lt
