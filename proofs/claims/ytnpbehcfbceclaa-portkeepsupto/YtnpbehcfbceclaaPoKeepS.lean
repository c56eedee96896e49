/-
  The statement PortKeeps, walked for the sampling kind: it returns true. Condition: the list is there, and has no more than 1048576 elements.
-/
import Derived.Test.YtnpbehcfbceclaaPoN3
namespace Go.Proofs.Ytnpbehcfbceclaa.Lt
open Go.RowKit Wd
attribute [local go_sem ↓] Go.wp_at_zero Go.wp_at_succ
set_option maxRecDepth 20000

set_option maxHeartbeats 16000000 in
theorem keeps1_walk {P : Nat → Prop} (w : World) (c : Int) (ao : Option Addr) (n ca : Nat) (xs : List Ac) (hx : Ls eC P w (.slice ao n ca) xs) (hn : n ≤ 1048576) :
    Calls Try.prog 7 #[.agg #[.bool false, .int .i64 c], .slice ao n ca] w fun e w' => e = .returned (.bool true) ∧ Gr w w' := by
  obtain ⟨w0, hw0⟩ : ∃ W, W = w.alloc (.cells #[.bool false, .int .i64 c] 23) := ⟨_, rfl⟩
  have GV := hid (show Gr w w0 by rw [hw0]; exact Ch.alloc (Gr.refl w) _)
  have bx : w0.heap[w.heap.size]? = some (.cells #[.bool false, .int .i64 c] 23 (0, 0)) := by rw [hw0]; exact al_at _ rfl
  have HB := hid (show ∀ W, Gr w0 W → W.cell? ⟨w.heap.size, 0, none⟩ = some (.bool false) ∧ w.heap.size < W.heap.size from fun W g => ⟨cell_of (gr_blk bx g) 0, lt_of_block (gr_blk bx g)⟩)
  have HX := hid (show ∀ W, Gr w0 W → Ls eC P W (.slice ao n ca) xs from fun W g => hx.gr (Gr.trans GV.out g))
  have HXL := hid hx.len.1
  have LV := hid lives_any
  have HM := hid (show Calls Try.prog 18 #[.agg #[.bool false, .int .i64 c]] (w.alloc (.cells #[.bool false, .int .i64 c] 23)) (fun e w' => ∃ p, e = .returned (.pointer (some ⟨p, 0, none⟩)) ∧ Nw w0 w' p (shp false c)) from by
    rw [← hw0]
    exact (made_any false c w0).mono (fun e w' ⟨p, h1, h2⟩ => ⟨p, h1, h2.nw (shp_ok false c)⟩))
  clear hx bx hw0
  go_enter Try.func7, Try.ntmps7
  go_wp2_with (first
    | (go_at_call 18; refine HM.out.mono ?_; rintro e w1 ⟨p1, rfl, m1⟩; have N1 := hid m1; clear m1)
    | (refine callG (by kernel_rfl) 11 #[] _ rfl #[] (by kernel_rfl) (LV.out _) ?_; rintro e w3 ⟨rfl, g3⟩; have T3 := hid (N3.start (N1.out.gr g3)); clear g3; refine ⟨_, rfl, ?_⟩; simp only [Act.put, List.setIfInBounds_toArray, List.set_cons_zero, List.set_cons_succ]))
  go_loopg [6, 7, 8, 9, 10, 11, 12] n (fun k9 v6 v7 v8 v9 v10 v11 i wr => ∃ (j : Nat) (x : Pt) (a1 a2 : Option Addr) (m1 m2 c1 c2 : Nat) (Pl Gt : List Int) (l : Int) (h : Bool) (nw : Int) (sm : Bool), j + k9 = n ∧ i = .int .i64 (j : Int) ∧ v6 = .slice a1 m1 c1 ∧ v7 = .slice a2 m2 c2 ∧ v8 = .int .i64 l ∧ v9 = .bool h ∧ v10 = .int .i64 nw ∧ v11 = .bool sm ∧ N3 w0 wr p1 x (.slice a1 m1 c1) Pl (.slice a2 m2 c2) Gt ∧ SI x l h nw sm ∧ m1 = Pl.length ∧ m2 = Gt.length ∧ m1 ≤ j ∧ m2 ≤ j)
  case atStart => exact ⟨0, _, _, _, 0, 0, 0, 0, _, _, 0, false, 0, false, by omega, rfl, rfl, rfl, rfl, rfl, rfl, rfl, T3.out, SI.shp c, rfl, rfl, by omega, by omega⟩
  case round =>
    obtain ⟨j, x, a1, a2, m1, m2, c1, c2, Pl, Gt, l, h, nw, sm, hjk, rfl, rfl, rfl, rfl, rfl, rfl, rfl, ht, hi, hln, hlg, hb1, hb2⟩ := hrel
    obtain ⟨V, hV⟩ : ∃ W, W = wr := ⟨_, rfl⟩
    subst hV
    have TT := hid ht
    have HI := hid hi
    have HLN := hid hln
    have HLG := hid hlg
    have lx := HX.out _ ht.1
    obtain ⟨b0, bl⟩ := HB.out _ ht.1
    clear ht hi hln hlg
    by_cases hj : j < n
    · have hj' : (j : Int) < (n : Int) := by omega
      have hjx : xs[j]? = some (xs[j]'(by rw [← HXL.out]; exact hj)) := List.getElem?_eq_getElem _
      generalize xs[j]'(by rw [← HXL.out]; exact hj) = a at hjx
      obtain ⟨g, o, cp, e, _, hgl, _, hc⟩ := lx.get eC_len hjx
      injection e with e1 e2 e3
      subst e1 e3
      have g0 := hc 0 _ rfl
      have g1 := hc 1 _ rfl
      rw [Nat.add_zero] at g0
      have HC := hid (show ∀ W, Gr w0 W → W.cell? ⟨g, o + j * 2 + 1, none⟩ = some (.int .i64 a.v) ∧ g < W.heap.size from fun W gw => by
        obtain ⟨g', o', cp', e', _, hgl', _, hc'⟩ := (HX.out W gw).get eC_len hjx
        injection e' with e1' _ _
        injection e1' with e1'
        injection e1' with e4 e5
        subst e4 e5
        exact ⟨hc' 1 _ rfl, hgl'⟩)
      clear lx hjx hc e2
      by_cases k0 : a.k = 0
      · clear b0 bl
        have HP := hid (fun W (h : N3 w0 W p1 x (.slice a1 m1 c1) Pl (.slice a2 m2 c2) Gt) => kput a.v h)
        have HK := hid (HI.out.put a.v).2
        rw [(HI.out.put a.v).1] at HP
        go_wp2_with (first
          | (go_at_call 19; refine (HP.out _ TT.out).mono ?_; rintro e w4 ⟨rfl, z⟩; obtain ⟨h1, hgl1⟩ := HC.out _ z.1; have Z1 := hid z; clear z)
          | (at_builtin; refine wpList_append_ow eI_len rfl (.tmp 48) (.tmp 54) 29 2 8 (.int .i64 0) Try.underlying29 i64_info rfl (by omega) rfl w0.heap.size (.slice a1 m1 c1) Pl rfl ((n3_fst Z1.out).alloc _) _ _ [a.v] rfl (Ls.single _ a.v 2 _ rfl) (eI_one [a.v]) (m1 + 1) (by have := HLN.out; simp; omega) (by omega) (by unfold maxLen; omega) (by have := Z1.out.1.size; simp; omega) (Pl ++ [a.v]) rfl ?_; intro a5 c5 w5 o5 k5 b5; have Z2 := hid (((Z1.out).gr (Ch.alloc (Gr.refl _) _)).app k5 o5 b5); obtain ⟨h5, hgl5⟩ := HC.out _ Z2.out.1; clear o5 k5 b5))
        go_roundg (gk - 1)
        case measure => omega
        case rel =>
          refine ⟨j + 1, _, _, _, m1 + 1, m2, _, _, _, _, _, _, _, _, by omega, ?_, rfl, rfl, rfl, rfl, rfl, rfl, Z2.out, HK.out, by have := HLN.out; simp; omega, HLG.out, by omega, by omega⟩
          first | with_reducible rfl | simp
      · by_cases k1 : a.k = 1
        · clear b0 bl g1
          have HG := hid (fun W (h : N3 w0 W p1 x (.slice a1 m1 c1) Pl (.slice a2 m2 c2) Gt) => kget h)
          have HK := hid HI.out.get
          cases sm
          · have hin : x.inn = [] := HI.out.i
            rw [hin] at HG
            simp only [firstG] at HG
            clear hin
            go_wp2_with (go_at_call 20; refine (HG.out _ TT.out).mono ?_; rintro e w4 ⟨rfl, z⟩; obtain ⟨b0, bl⟩ := HB.out _ z.1; have Z1 := hid z; clear z)
            go_roundg (gk - 1)
            case measure => omega
            case rel =>
              refine ⟨j + 1, _, _, _, m1, m2, _, _, _, _, _, _, _, _, by omega, ?_, rfl, rfl, rfl, rfl, rfl, rfl, Z1.out, HK.out, HLN.out, HLG.out, by omega, by omega⟩
              first | with_reducible rfl | simp
          · obtain ⟨ga, ha, hin⟩ := HI.out.i
            rw [hin] at HG
            simp only [firstG] at HG
            clear hin
            obtain ⟨gv, hgv⟩ : ∃ gv, gv = nw := ⟨_, rfl⟩
            subst hgv
            go_wp2_with (first
              | (go_at_call 20; refine (HG.out _ TT.out).mono ?_; rintro e w4 ⟨rfl, z⟩; have Z1 := hid z; clear z)
              | (at_builtin; refine wpList_append_ow eI_len rfl (.tmp 70) (.tmp 72) 29 2 8 (.int .i64 0) Try.underlying29 i64_info rfl (by omega) rfl w0.heap.size (.slice a2 m2 c2) Gt rfl ((n3_fst Z1.out.symm).alloc _) _ _ [gv] rfl (Ls.single _ gv 2 _ rfl) (eI_one [gv]) (m2 + 1) (by have := HLG.out; simp; omega) (by omega) (by unfold maxLen; omega) (by have := Z1.out.1.size; simp; omega) (Gt ++ [gv]) rfl ?_; intro a5 c5 w5 o5 k5 b5; have Z2 := hid ((((Z1.out).gr (Ch.alloc (Gr.refl _) _)).symm.app k5 o5 b5).symm); obtain ⟨b0, bl⟩ := HB.out _ Z2.out.1; clear o5 k5 b5))
            go_roundg (gk - 1)
            case measure => omega
            case rel =>
              refine ⟨j + 1, _, _, _, m1, m2 + 1, _, _, _, _, _, _, _, _, by omega, ?_, rfl, rfl, rfl, rfl, rfl, rfl, Z2.out, HK.out, HLN.out, by have := HLG.out; simp; omega, by omega, by omega⟩
              first | with_reducible rfl | simp
        · by_cases k2 : a.k = 2
          · clear b0 bl g1
            cases h
            · have HK := hid HI.out.dlv0
              go_wp2_with (go_at_call 21; refine (kdeliver TT.out).mono ?_; rintro e w4 ⟨rfl, z⟩; have Z1 := hid z; clear z)
              go_roundg (gk - 1)
              case measure => omega
              case rel =>
                refine ⟨j + 1, _, _, _, m1, m2, _, _, _, _, _, _, _, _, by omega, ?_, rfl, rfl, rfl, rfl, rfl, rfl, Z1.out, HK.out, HLN.out, HLG.out, by omega, by omega⟩
                first | with_reducible rfl | simp
            · have HK := hid HI.out.dlv1
              go_wp2_with (go_at_call 21; refine (kdeliver TT.out).mono ?_; rintro e w4 ⟨rfl, z⟩; have Z1 := hid z; clear z)
              go_roundg (gk - 1)
              case measure => omega
              case rel =>
                refine ⟨j + 1, _, _, _, m1, m2, _, _, _, _, _, _, _, _, by omega, ?_, rfl, rfl, rfl, rfl, rfl, rfl, Z1.out, HK.out, HLN.out, HLG.out, by omega, by omega⟩
                first | with_reducible rfl | simp
          · clear b0 bl g1
            go_wp2
            go_roundg (gk - 1)
            case measure => omega
            case rel =>
              refine ⟨j + 1, _, _, _, m1, m2, _, _, _, _, _, _, _, _, by omega, ?_, rfl, rfl, rfl, rfl, rfl, rfl, TT.out, HI.out, HLN.out, HLG.out, by omega, by omega⟩
              first | with_reducible rfl | simp
    · have hj' : ¬ ((j : Int) < (n : Int)) := by omega
      clear lx
      go_wp2
      go_ret
      exact ⟨rfl, Gr.trans GV.out TT.out.1⟩
end Go.Proofs.Ytnpbehcfbceclaa.Lt
