/-
  The statement PortKeeps, walked for the queueing kind: it returns true. Condition: the list is there, and has no more than 1048576 elements.
-/
import Derived.Test.YtnpbehcfbceclaaPoN3
namespace Go.Proofs.Ytnpbehcfbceclaa.Lt
open Go.RowKit Wd
attribute [local go_sem ↓] Go.wp_at_zero Go.wp_at_succ
set_option maxRecDepth 20000

set_option maxHeartbeats 16000000 in
theorem keepq_walk {P : Nat → Prop} (w : World) (c : Int) (ao : Option Addr) (n ca : Nat) (xs : List Ac) (hx : Ls eC P w (.slice ao n ca) xs) (hn : n ≤ 1048576) :
    Calls Try.prog 7 #[.agg #[.bool true, .int .i64 c], .slice ao n ca] w fun e w' => e = .returned (.bool true) ∧ Gr w w' := by
  obtain ⟨w0, hw0⟩ : ∃ W, W = w.alloc (.cells #[.bool true, .int .i64 c] 23) := ⟨_, rfl⟩
  have GV := hid (show Gr w w0 by rw [hw0]; exact Ch.alloc (Gr.refl w) _)
  have bx : w0.heap[w.heap.size]? = some (.cells #[.bool true, .int .i64 c] 23 (0, 0)) := by rw [hw0]; exact al_at _ rfl
  have HB := hid (show ∀ W, Gr w0 W → W.cell? ⟨w.heap.size, 0, none⟩ = some (.bool true) ∧ w.heap.size < W.heap.size from fun W g => ⟨cell_of (gr_blk bx g) 0, lt_of_block (gr_blk bx g)⟩)
  have HX := hid (show ∀ W, Gr w0 W → Ls eC P W (.slice ao n ca) xs from fun W g => hx.gr (Gr.trans GV.out g))
  have HXL := hid hx.len.1
  have LV := hid lives_any
  have HM := hid (show Calls Try.prog 18 #[.agg #[.bool true, .int .i64 c]] (w.alloc (.cells #[.bool true, .int .i64 c] 23)) (fun e w' => ∃ p, e = .returned (.pointer (some ⟨p, 0, none⟩)) ∧ Nw w0 w' p (shp true c)) from by
    rw [← hw0]
    exact (made_any true c w0).mono (fun e w' ⟨p, h1, h2⟩ => ⟨p, h1, h2.nw (shp_ok true c)⟩))
  clear hx bx hw0
  go_enter Try.func7, Try.ntmps7
  go_wp2_with (first
    | (go_at_call 18; refine HM.out.mono ?_; rintro e w1 ⟨p1, rfl, m1⟩; have N1 := hid m1; clear m1)
    | (refine callG (by kernel_rfl) 11 #[] _ rfl #[] (by kernel_rfl) (LV.out _) ?_; rintro e w3 ⟨rfl, g3⟩; have T3 := hid (N3.start (N1.out.gr g3)); clear g3; refine ⟨_, rfl, ?_⟩; simp only [Act.put, List.setIfInBounds_toArray, List.set_cons_zero, List.set_cons_succ]))
  go_loopg [6, 7, 8, 9, 10, 11, 12] n (fun k9 v6 v7 v8 v9 v10 v11 i wr => ∃ (j : Nat) (x : Pt) (a1 a2 : Option Addr) (m1 m2 c1 c2 : Nat) (Pl Gt : List Int) (l : Int) (h : Bool) (nw : Int) (sm : Bool), j + k9 = n ∧ i = .int .i64 (j : Int) ∧ v6 = .slice a1 m1 c1 ∧ v7 = .slice a2 m2 c2 ∧ v8 = .int .i64 l ∧ v9 = .bool h ∧ v10 = .int .i64 nw ∧ v11 = .bool sm ∧ N3 w0 wr p1 x (.slice a1 m1 c1) Pl (.slice a2 m2 c2) Gt ∧ KI x Pl Gt ∧ m1 = Pl.length ∧ m2 = Gt.length ∧ m1 ≤ j ∧ m2 ≤ j)
  case atStart => exact ⟨0, _, _, _, 0, 0, 0, 0, _, _, 0, false, 0, false, by omega, rfl, rfl, rfl, rfl, rfl, rfl, rfl, T3.out, KI.new _, rfl, rfl, by omega, by omega⟩
  case round =>
    obtain ⟨j, x, a1, a2, m1, m2, c1, c2, Pl, Gt, l, h, nw, sm, hjk, rfl, rfl, rfl, rfl, rfl, rfl, rfl, ht, hi, hln, hlg, hb1, hb2⟩ := hrel
    obtain ⟨V, hV⟩ : ∃ W, W = wr := ⟨_, rfl⟩
    subst hV
    have TT := hid ht
    have HI := hid hi
    have HLN := hid hln
    have HLG := hid hlg
    have lx := HX.out _ ht.1
    obtain ⟨b0, bl⟩ := HB.out _ ht.1
    clear ht hi hln hlg
    by_cases hj : j < n
    · have hj' : (j : Int) < (n : Int) := by omega
      have hjx : xs[j]? = some (xs[j]'(by rw [← HXL.out]; exact hj)) := List.getElem?_eq_getElem _
      generalize xs[j]'(by rw [← HXL.out]; exact hj) = a at hjx
      obtain ⟨g, o, cp, e, _, hgl, _, hc⟩ := lx.get eC_len hjx
      injection e with e1 e2 e3
      subst e1 e3
      have g0 := hc 0 _ rfl
      have g1 := hc 1 _ rfl
      rw [Nat.add_zero] at g0
      have HC := hid (show ∀ W, Gr w0 W → W.cell? ⟨g, o + j * 2 + 1, none⟩ = some (.int .i64 a.v) ∧ g < W.heap.size from fun W gw => by
        obtain ⟨g', o', cp', e', _, hgl', _, hc'⟩ := (HX.out W gw).get eC_len hjx
        injection e' with e1' _ _
        injection e1' with e1'
        injection e1' with e4 e5
        subst e4 e5
        exact ⟨hc' 1 _ rfl, hgl'⟩)
      clear lx hjx hc e2
      by_cases k0 : a.k = 0
      · clear b0 bl
        obtain ⟨r, hr⟩ : ∃ r, r = (putP x a.v).2 := ⟨_, rfl⟩
        have HP := hid (fun W (h : N3 w0 W p1 x (.slice a1 m1 c1) Pl (.slice a2 m2 c2) Gt) => kput a.v h)
        have HK := hid (HI.out.put a.v)
        rw [← hr] at HP HK
        clear hr
        cases r
        · go_wp2_with (go_at_call 19; refine (HP.out _ TT.out).mono ?_; rintro e w4 ⟨rfl, z⟩; have Z1 := hid z; clear z)
          go_roundg (gk - 1)
          case measure => omega
          case rel =>
            refine ⟨j + 1, _, _, _, m1, m2, _, _, _, _, _, _, _, _, by omega, ?_, rfl, rfl, rfl, rfl, rfl, rfl, Z1.out, HK.out, HLN.out, HLG.out, by omega, by omega⟩
            first | with_reducible rfl | simp
        · go_wp2_with (first
            | (go_at_call 19; refine (HP.out _ TT.out).mono ?_; rintro e w4 ⟨rfl, z⟩; obtain ⟨h1, hgl1⟩ := HC.out _ z.1; have Z1 := hid z; clear z)
            | (at_builtin; refine wpList_append_ow eI_len rfl (.tmp 48) (.tmp 54) 29 2 8 (.int .i64 0) Try.underlying29 i64_info rfl (by omega) rfl w0.heap.size (.slice a1 m1 c1) Pl rfl ((n3_fst Z1.out).alloc _) _ _ [a.v] rfl (Ls.single _ a.v 2 _ rfl) (eI_one [a.v]) (m1 + 1) (by have := HLN.out; simp; omega) (by omega) (by unfold maxLen; omega) (by have := Z1.out.1.size; simp; omega) (Pl ++ [a.v]) rfl ?_; intro a5 c5 w5 o5 k5 b5; have Z2 := hid (((Z1.out).gr (Ch.alloc (Gr.refl _) _)).app k5 o5 b5); obtain ⟨h5, hgl5⟩ := HC.out _ Z2.out.1; clear o5 k5 b5))
          go_roundg (gk - 1)
          case measure => omega
          case rel =>
            refine ⟨j + 1, _, _, _, m1 + 1, m2, _, _, _, _, _, _, _, _, by omega, ?_, rfl, rfl, rfl, rfl, rfl, rfl, Z2.out, HK.out, by have := HLN.out; simp; omega, HLG.out, by omega, by omega⟩
            first | with_reducible rfl | simp
      · by_cases k1 : a.k = 1
        · clear b0 bl g1
          have HG := hid (fun W (h : N3 w0 W p1 x (.slice a1 m1 c1) Pl (.slice a2 m2 c2) Gt) => kget h)
          cases hin : x.inn with
          | nil =>
            have HK := hid (HI.out.get0 hin)
            rw [hin] at HG
            simp only [firstG] at HG
            clear hin
            go_wp2_with (go_at_call 20; refine (HG.out _ TT.out).mono ?_; rintro e w4 ⟨rfl, z⟩; obtain ⟨b0, bl⟩ := HB.out _ z.1; have Z1 := hid z; clear z)
            go_roundg (gk - 1)
            case measure => omega
            case rel =>
              refine ⟨j + 1, _, _, _, m1, m2, _, _, _, _, _, _, _, _, by omega, ?_, rfl, rfl, rfl, rfl, rfl, rfl, Z1.out, HK.out, HLN.out, HLG.out, by omega, by omega⟩
              first | with_reducible rfl | simp
          | cons gg rr =>
            have HK := hid (HI.out.get1 hin)
            have ha := (TT.out.2.1.ages gg (by rw [hin]; exact List.mem_cons_self ..)).1
            rw [hin] at HG
            simp only [firstG] at HG
            clear hin
            obtain ⟨gv, ga⟩ := gg
            dsimp only at HG ha HK
            go_wp2_with (first
              | (go_at_call 20; refine (HG.out _ TT.out).mono ?_; rintro e w4 ⟨rfl, z⟩; have Z1 := hid z; clear z)
              | (at_builtin; refine wpList_append_ow eI_len rfl (.tmp 70) (.tmp 72) 29 2 8 (.int .i64 0) Try.underlying29 i64_info rfl (by omega) rfl w0.heap.size (.slice a2 m2 c2) Gt rfl ((n3_fst Z1.out.symm).alloc _) _ _ [gv] rfl (Ls.single _ gv 2 _ rfl) (eI_one [gv]) (m2 + 1) (by have := HLG.out; simp; omega) (by omega) (by unfold maxLen; omega) (by have := Z1.out.1.size; simp; omega) (Gt ++ [gv]) rfl ?_; intro a5 c5 w5 o5 k5 b5; have Z2 := hid ((((Z1.out).gr (Ch.alloc (Gr.refl _) _)).symm.app k5 o5 b5).symm); obtain ⟨b0, bl⟩ := HB.out _ Z2.out.1; clear o5 k5 b5))
            go_roundg (gk - 1)
            case measure => omega
            case rel =>
              refine ⟨j + 1, _, _, _, m1, m2 + 1, _, _, _, _, _, _, _, _, by omega, ?_, rfl, rfl, rfl, rfl, rfl, rfl, Z2.out, HK.out, HLN.out, by have := HLG.out; simp; omega, by omega, by omega⟩
              first | with_reducible rfl | simp
        · by_cases k2 : a.k = 2
          · clear b0 bl g1
            have HK := hid (HI.out.dlv (by have := HLN.out; omega))
            cases h
            · go_wp2_with (go_at_call 21; refine (kdeliver TT.out).mono ?_; rintro e w4 ⟨rfl, z⟩; have Z1 := hid z; clear z)
              go_roundg (gk - 1)
              case measure => omega
              case rel =>
                refine ⟨j + 1, _, _, _, m1, m2, _, _, _, _, _, _, _, _, by omega, ?_, rfl, rfl, rfl, rfl, rfl, rfl, Z1.out, HK.out, HLN.out, HLG.out, by omega, by omega⟩
                first | with_reducible rfl | simp
            · go_wp2_with (go_at_call 21; refine (kdeliver TT.out).mono ?_; rintro e w4 ⟨rfl, z⟩; have Z1 := hid z; clear z)
              go_roundg (gk - 1)
              case measure => omega
              case rel =>
                refine ⟨j + 1, _, _, _, m1, m2, _, _, _, _, _, _, _, _, by omega, ?_, rfl, rfl, rfl, rfl, rfl, rfl, Z1.out, HK.out, HLN.out, HLG.out, by omega, by omega⟩
                first | with_reducible rfl | simp
          · clear b0 bl g1
            go_wp2
            go_roundg (gk - 1)
            case measure => omega
            case rel =>
              refine ⟨j + 1, _, _, _, m1, m2, _, _, _, _, _, _, _, _, by omega, ?_, rfl, rfl, rfl, rfl, rfl, rfl, TT.out, HI.out, HLN.out, HLG.out, by omega, by omega⟩
              first | with_reducible rfl | simp
    · have hj' : ¬ ((j : Int) < (n : Int)) := by omega
      clear lx
      obtain ⟨zs, hzs⟩ : ∃ zs, zs = x.out := ⟨_, rfl⟩
      obtain ⟨ys, hys⟩ : ∃ ys, ys = x.inn := ⟨_, rfl⟩
      have HS := hid (fun W (h : N3 w0 W p1 x (.slice a1 m1 c1) Pl (.slice a2 m2 c2) Gt) => kstate h)
      have hsum := HI.out.n
      have hzl : zs.length ≤ 1024 := by rw [hzs]; exact Nat.le_trans TT.out.2.1.o TT.out.2.1.c2
      have hyl : ys.length ≤ 1024 := by rw [hys]; exact Nat.le_trans TT.out.2.1.i TT.out.2.1.c2
      rw [← hzs, ← hys, ← HLN.out, ← HLG.out] at hsum
      rw [← hzs, ← hys] at HS
      generalize x.lost = lost at HS hsum
      have HSU := hid hsum
      clear hzs hys b0 bl
      obtain ⟨nz, hnz⟩ : ∃ m, m = zs.length := ⟨_, rfl⟩
      obtain ⟨ny, hny⟩ : ∃ m, m = ys.length := ⟨_, rfl⟩
      rw [← hnz] at hzl HSU
      rw [← hny] at hyl HSU
      have HNZ := hid hnz
      have HNY := hid hny
      clear hnz hny hsum
      obtain ⟨b0, bl⟩ := HB.out _ TT.out.1
      have hq' : (m2 : Int) + (ny : Int) + (nz : Int) + (lost : Int) = (m1 : Int) := by have := HSU.out; omega
      have hq2 : lost ≤ 1048576 := by have := HSU.out; omega
      go_wp2_with (go_at_call 14; refine (HS.out _ TT.out).mono ?_; rintro e w4 ⟨v1, v2, rfl, o1, o2, gr1⟩; obtain ⟨b1, d1, rfl⟩ := o1.form; obtain ⟨b2, d2, rfl⟩ := o2.form; rw [← HNZ.out, ← HNY.out]; have Z1 := hid (TT.out.gr gr1); clear o1 o2 gr1)
      have Z2 := hid (Z1.out.gr (Ch.alloc (Gr.refl w4) (.cells #[.bool x.q, .int .i64 (x.cap : Nat), .slice b1 nz d1, .slice b2 ny d2, .int .i64 (lost : Nat)] 32)))
      generalize w4.alloc (.cells #[.bool x.q, .int .i64 (x.cap : Nat), .slice b1 nz d1, .slice b2 ny d2, .int .i64 (lost : Nat)] 32) = W5 at Z2 ⊢
      have L1 := hid (n3_fst Z2.out).lst
      have L2 := hid (n3_fst Z2.out.symm).lst
      have G5 := hid (Gr.trans GV.out Z2.out.1)
      have SB := hid (show (Gt.drop 0).Sublist (Pl.drop 0) from by
        have h1 := HI.out.s
        rw [List.append_assoc] at h1
        exact (List.sublist_append_left _ _).trans h1)
      clear hq' b0 bl
      go_loopg [16, 17] m2 (fun k9 kk ii wr => ∃ i k : Nat, i + k9 = m2 ∧ ii = .int .i64 (i : Int) ∧ kk = .int .i64 (k : Int) ∧ k ≤ m1 ∧ (Gt.drop i).Sublist (Pl.drop k) ∧ Gr W5 wr)
      case atStart => exact ⟨0, 0, by omega, rfl, rfl, Nat.zero_le _, SB.out, Gr.refl _⟩
      case round =>
        obtain ⟨i, k, hik, rfl, rfl, hkm, hsb, hg5⟩ := hrel
        obtain ⟨V5, hV5⟩ : ∃ W, W = wr := ⟨_, rfl⟩
        subst hV5
        have GG := hid hg5
        have HSB := hid hsb
        have HIK := hid hik
        clear hg5 hsb hik
        by_cases hi : i < m2
        · have hi' : (i : Int) < (m2 : Int) := by omega
          have hgx : Gt[i]? = some (Gt[i]'(by rw [← HLG.out]; exact hi)) := List.getElem?_eq_getElem _
          generalize Gt[i]'(by rw [← HLG.out]; exact hi) = u at hgx
          have HGX := hid hgx
          clear hgx
          go_wp2_with fail
          go_loopg [16] (m1 - k) (fun k9 kk wr => ∃ k2 : Nat, k2 + k9 = m1 ∧ kk = .int .i64 (k2 : Int) ∧ (Gt.drop i).Sublist (Pl.drop k2) ∧ Gr W5 wr)
          case atStart => exact ⟨k, by omega, rfl, HSB.out, GG.out⟩
          case round =>
            obtain ⟨k2, hk2, rfl, hsb2, hg6⟩ := hrel
            obtain ⟨V6, hV6⟩ : ∃ W, W = wr := ⟨_, rfl⟩
            subst hV6
            have HS2 := hid hsb2
            have G6 := hid hg6
            have hlt : k2 < m1 := by rw [HLN.out]; exact sub_lt hsb2 (by rw [← HLG.out]; exact hi)
            have hpx : Pl[k2]? = some (Pl[k2]'(by rw [← HLN.out]; exact hlt)) := List.getElem?_eq_getElem _
            generalize Pl[k2]'(by rw [← HLN.out]; exact hlt) = z at hpx
            have HPX := hid hpx
            obtain ⟨g1, o1, cp1, e, _, hgl1, _, hc1⟩ := (L1.out.gr hg6).get eI_len hpx
            obtain ⟨g3, o3, cp3, e', _, hgl3, _, hc3⟩ := (L2.out.gr hg6).get eI_len HGX.out
            injection e with e1 e2 e3
            injection e' with e4 e5 e6
            subst e1 e3 e4 e6
            have q1 := hc1 0 _ rfl
            have q3 := hc3 0 _ rfl
            rw [Nat.add_zero, Nat.mul_one] at q1 q3
            have p0 : (0 : Int) ≤ (k2 : Int) := by omega
            have p1' : (0 : Int) ≤ (i : Int) := by omega
            have p2 : (k2 : Int) < (m1 : Int) := by omega
            clear hsb2 hg6 hpx hc1 hc3 e2 e5
            by_cases hz : z = u
            · subst hz
              have p3 : ¬ ((k2 : Int) = (m1 : Int)) := by omega
              go_wp2_with fail
              go_big_quiet (fail)
              go_wp2
              go_roundg (m2 - (i + 1))
              case measure => have := HIK.out; omega
              case rel =>
                refine ⟨i + 1, k2 + 1, by have := HIK.out; omega, ?_, ?_, by omega, sub_step HS2.out HGX.out HPX.out, Ch.drewN G6.out _⟩
                · first | with_reducible rfl | simp
                · first | with_reducible rfl | simp
            · have HZ := hid hz
              go_wp2_with fail
              go_big_quiet (fail)
              go_wp2
              go_roundg (gk - 1)
              case measure => omega
              case rel =>
                refine ⟨k2 + 1, by omega, ?_, sub_skip HS2.out HGX.out HPX.out HZ.out, Ch.drewN G6.out _⟩
                first | with_reducible rfl | simp
        · have hi' : ¬ ((i : Int) < (m2 : Int)) := by omega
          go_wp2
          go_ret
          exact ⟨rfl, Gr.trans G5.out GG.out⟩
end Go.Proofs.Ytnpbehcfbceclaa.Lt
