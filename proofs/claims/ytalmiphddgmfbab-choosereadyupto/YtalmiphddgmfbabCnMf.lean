/-
  What the document's alone of layer 11 answers. Conditions: the lists are not too long.
  What the document's may and Fits of layer 11 answer. Conditions: the channel's capacity may be, the lists are not too long.
  What the document's Fits of layer 11 answers. Conditions: the channels are good.
  What the document's Send, Recv and Close of layer 11 answer, as plain functions of the channels. Conditions: the channels are good (Gd).
-/
import Derived.Test.YtalmiphddgmfbabCnCl
import Derived.Test.YtalmiphddgmfbabGnGrd
import Derived.Deep.Cut
namespace Go.Proofs.Ytalmiphddgmfbab.Lt
open Go.RowKit Wd
attribute [local go_sem ↓] Go.wp_at_zero Go.wp_at_succ

theorem take_all {l : List Wt} {s g : Int} {j : Nat} {x : Wt} (hx : l[j]? = some x) (h : ∀ y ∈ l.take j, isG s g y = true) (e : isG s g x = true) : ∀ y ∈ l.take (j + 1), isG s g y = true := by
  intro y hy
  rw [take_one hx] at hy
  rcases List.mem_append.1 hy with q | q
  · exact h y q
  · rw [List.mem_singleton] at q
    rw [q]
    exact e
theorem no_all {l : List Wt} {s g : Int} {j : Nat} {x : Wt} (hx : l[j]? = some x) (e : isG s g x = false) : l.all (isG s g) = false := by
  rw [List.all_eq_false]
  exact ⟨x, List.mem_of_getElem? hx, by rw [e]; simp⟩
/-- is everybody who waits there one and the same, where some send and some receive? -/
def alB (ss rs : List Wt) : Bool := match ss with | [] => true | x :: _ => (match rs with | [] => true | _ :: _ => ss.all (isG x.s x.g) && rs.all (isG x.s x.g))
set_option maxHeartbeats 4000000 in
set_option maxRecDepth 20000 in
theorem alone_none (w : World) (cp : Int) (vo so ro : Option Addr) (vn vc sn sc rn rc : Nat) (cl : Bool) (h : sn = 0 ∨ rn = 0) :
    Calls Try.prog 54 #[.agg #[.int .i64 cp, .slice vo vn vc, .slice so sn sc, .slice ro rn rc, .bool cl]] w fun e w' => e = .returned (.bool true) ∧ Gr w w' := by
  have G1 := hid (show Gr w (w.alloc (.cells #[.int .i64 cp, .slice vo vn vc, .slice so sn sc, .slice ro rn rc, .bool cl] 70)) from Ch.alloc (Gr.refl w) _)
  by_cases h1 : sn = 0
  · subst h1
    go_enter Try.func54, Try.ntmps54
    go_wp2
    go_ret
    exact ⟨rfl, G1.out⟩
  · obtain rfl : rn = 0 := by omega
    have h2 : ¬ (sn : Int) = 0 := by omega
    have h3 : ((sn : Int) == 0) = false := by simp; omega
    clear h h1
    go_enter Try.func54, Try.ntmps54
    go_wp2
    go_ret
    exact ⟨rfl, G1.out⟩
set_option maxHeartbeats 4000000 in
set_option maxRecDepth 20000 in
theorem alone_some (P : Nat → Prop) (w : World) (cp : Int) (vo so ro : Option Addr) (vn vc sn sc rn rc : Nat) (cl : Bool) (s g cc vv : Int) (sr rs : List Wt) (hs : Ls eW P w (.slice so sn sc) (⟨s, g, cc, vv⟩ :: sr)) (hr : Ls eW P w (.slice ro rn rc) rs) (hrn : 0 < rn) (hb : sn ≤ 4398046511104 ∧ rn ≤ 4398046511104) :
    Calls Try.prog 54 #[.agg #[.int .i64 cp, .slice vo vn vc, .slice so sn sc, .slice ro rn rc, .bool cl]] w fun e w' => e = .returned (.bool ((⟨s, g, cc, vv⟩ :: sr).all (isG s g) && rs.all (isG s g))) ∧ Gr w w' := by
  have hsn : 0 < sn := by rw [hs.len.1]; simp
  obtain ⟨gs, os, cs', es, -, hgs, -, hcs⟩ := hs.get eW_len (i := 0) (a := ⟨s, g, cc, vv⟩) rfl
  injection es with es e2 e3
  subst es
  clear e2 e3
  have d0 := hcs 0 _ rfl
  have d1 := hcs 1 _ rfl
  simp only [Nat.zero_mul, Nat.add_zero] at d0 d1
  obtain ⟨ss, hss⟩ : ∃ l, l = (⟨s, g, cc, vv⟩ :: sr : List Wt) := ⟨_, rfl⟩
  rw [← hss] at hs ⊢
  have SSL := hid hs.len.1
  have RSL := hid hr.len.1
  have h2 : ¬ (sn : Int) = 0 := by omega
  have h3 : ((sn : Int) == 0) = false := by simp; omega
  have h4 : ¬ (rn : Int) = 0 := by omega
  have h5 : ((rn : Int) == 0) = false := by simp; omega
  have s0 : (0 : Int) < (sn : Int) := by omega
  have hb1 := hb.1
  have hb2 := hb.2
  have AL := (show Gr w (w.alloc (.cells #[.int .i64 cp, .slice vo vn vc, .slice (some ⟨gs, os, none⟩) sn sc, .slice ro rn rc, .bool cl] 70)) from Ch.alloc (Gr.refl w) _)
  obtain ⟨W1, hW1⟩ : ∃ W, W = (w.alloc (.cells #[.int .i64 cp, .slice vo vn vc, .slice (some ⟨gs, os, none⟩) sn sc, .slice ro rn rc, .bool cl] 70)).alloc (.cells #[.int .i64 s, .int .i64 g] 24) := ⟨_, rfl⟩
  have G1 := hid (show Gr w W1 from by rw [hW1]; exact Ch.alloc AL _)
  have BX := hid (show W1.heap[w.heap.size]? = some (.cells #[.int .i64 cp, .slice vo vn vc, .slice (some ⟨gs, os, none⟩) sn sc, .slice ro rn rc, .bool cl] 70 (0, 0)) from by rw [hW1]; exact al_blk (MapKept.heap_alloc w _).1 _)
  have GX := hid (show W1.heap[w.heap.size + 1]? = some (.cells #[.int .i64 s, .int .i64 g] 24 (0, 0)) from by rw [hW1]; exact al_at _ (by simp))
  have SS := hid (hs.gr G1.out)
  have RS := hid (hr.gr G1.out)
  clear hs hr hcs hss AL hb
  go_enter Try.func54, Try.ntmps54
  go_wp2_with fail
  rw [← hW1]
  clear hW1 d0 d1 hgs
  go_loopg [4] sn (fun q v wr => ∃ (j : Nat), j + q = sn ∧ v = .int .i64 (j : Int) ∧ (∀ y ∈ ss.take j, isG s g y = true) ∧ Gr W1 wr)
  case atStart => exact ⟨0, by omega, rfl, fun y hy => (by simp at hy), Gr.refl _⟩
  case round =>
    obtain ⟨j, hjq, rfl, hall, hG⟩ := hrel
    have HA := hid hall
    have GR := hid hG
    clear hall hG
    obtain ⟨p0, p1, p2, p3, p4⟩ := five_cells (gr_blk BX.out GR.out)
    have lB := lt_of_block (gr_blk BX.out GR.out)
    have b0 := cell_of (gr_blk GX.out GR.out) 0
    have b1 := cell_of (gr_blk GX.out GR.out) 1
    have lG := lt_of_block (gr_blk GX.out GR.out)
    simp at b0 b1
    by_cases hj : j < sn
    · obtain ⟨⟨x0, x1, x2, x3⟩, hx⟩ : ∃ x, ss[j]? = some x := ⟨_, List.getElem?_eq_getElem (by rw [← SSL.out]; exact hj)⟩
      obtain ⟨gg, oo, cap', hv, _, hgl, _, hcs⟩ := (SS.out.gr GR.out).get eW_len hx
      injection hv with hv1 hv2 hv3
      injection hv1 with hv1; injection hv1 with e7 e8 _; subst e7 e8
      clear hv2 hv3
      have c0 := hcs 0 _ rfl
      have c1 := hcs 1 _ rfl
      dsimp only [Nat.add_zero] at c0 c1
      have j0 : (0 : Int) ≤ (j : Int) := by omega
      have j1 : (j : Int) < (sn : Int) := by omega
      have HX := hid hx
      clear hcs hx hgl
      by_cases e1 : x0 = s
      · subst e1
        by_cases e2 : x1 = g
        · subst e2
          go_wp2_with fail
          go_region
          all_goals go_wp2
          all_goals go_roundg (gk - 1)
          all_goals first | omega | skip
          all_goals exact ⟨j + 1, by omega, by simp, take_all HX.out HA.out (by simp [isG]), GR.out.drew⟩
        · go_wp2_with fail
          go_region
          all_goals go_wp2
          all_goals go_ret
          all_goals exact ⟨by rw [no_all HX.out (by simp [isG, e2])]; rfl, Gr.trans G1.out GR.out.drew⟩
      · go_wp2_with fail
        go_region
        all_goals go_wp2
        all_goals go_ret
        all_goals exact ⟨by rw [no_all HX.out (by simp [isG, e1])]; rfl, Gr.trans G1.out GR.out.drew⟩
    · have jn : ¬ (j : Int) < (sn : Int) := by omega
      have HALL := hid (show ss.all (isG s g) = true from List.all_eq_true.2 (fun y hy => HA.out y (by rw [List.take_of_length_le (by rw [← SSL.out]; omega)]; exact hy)))
      have HSA := hid HALL.out
      clear HALL
      go_wp2_with fail
      go_loopg [5] rn (fun q v wr => ∃ (j : Nat), j + q = rn ∧ v = .int .i64 (j : Int) ∧ (∀ y ∈ rs.take j, isG s g y = true) ∧ Gr W1 wr)
      case atStart => exact ⟨0, by omega, rfl, fun y hy => (by simp at hy), GR.out⟩
      case round =>
        obtain ⟨j, hjq, rfl, hall, hG⟩ := hrel
        have HA := hid hall
        have GR := hid hG
        clear hall hG
        obtain ⟨p0, p1, p2, p3, p4⟩ := five_cells (gr_blk BX.out GR.out)
        have lB := lt_of_block (gr_blk BX.out GR.out)
        have b0 := cell_of (gr_blk GX.out GR.out) 0
        have b1 := cell_of (gr_blk GX.out GR.out) 1
        have lG := lt_of_block (gr_blk GX.out GR.out)
        simp at b0 b1
        by_cases hj : j < rn
        · obtain ⟨⟨x0, x1, x2, x3⟩, hx⟩ : ∃ x, rs[j]? = some x := ⟨_, List.getElem?_eq_getElem (by rw [← RSL.out]; exact hj)⟩
          obtain ⟨gg, oo, cap', hv, _, hgl, _, hcs⟩ := (RS.out.gr GR.out).get eW_len hx
          injection hv with hv1 hv2 hv3
          subst hv1
          clear hv2 hv3
          have c0 := hcs 0 _ rfl
          have c1 := hcs 1 _ rfl
          dsimp only [Nat.add_zero] at c0 c1
          have j0 : (0 : Int) ≤ (j : Int) := by omega
          have j1 : (j : Int) < (rn : Int) := by omega
          have HX := hid hx
          clear hcs hx hgl
          by_cases e1 : x0 = s
          · subst e1
            by_cases e2 : x1 = g
            · subst e2
              go_wp2_with fail
              go_region
              all_goals go_wp2
              all_goals go_roundg (gk - 1)
              all_goals first | omega | skip
              all_goals exact ⟨j + 1, by omega, by simp, take_all HX.out HA.out (by simp [isG]), GR.out.drew⟩
            · go_wp2_with fail
              go_region
              all_goals go_wp2
              all_goals go_ret
              all_goals exact ⟨by rw [HSA.out, no_all HX.out (by simp [isG, e2])]; rfl, Gr.trans G1.out GR.out.drew⟩
          · go_wp2_with fail
            go_region
            all_goals go_wp2
            all_goals go_ret
            all_goals exact ⟨by rw [HSA.out, no_all HX.out (by simp [isG, e1])]; rfl, Gr.trans G1.out GR.out.drew⟩
        · have jn : ¬ (j : Int) < (rn : Int) := by omega
          have HALL := hid (show rs.all (isG s g) = true from List.all_eq_true.2 (fun y hy => HA.out y (by rw [List.take_of_length_le (by rw [← RSL.out]; omega)]; exact hy)))
          go_wp2
          go_ret
          exact ⟨by rw [HSA.out, HALL.out]; rfl, Gr.trans G1.out GR.out⟩

end Go.Proofs.Ytalmiphddgmfbab.Lt

namespace Go.Proofs.Ytalmiphddgmfbab.Lt
open Go.RowKit Wd
attribute [local go_sem ↓] Go.wp_at_zero Go.wp_at_succ

/-- may a channel be so, whose values are not too many? -/
def mayB (cp : Int) (vs : List Int) (ss rs : List Wt) (cl : Bool) : Bool := alB ss rs && (!((decide (0 < ss.length) && decide ((vs.length : Int) < cp)) || (decide (0 < rs.length) && decide (0 < vs.length))) && (rs.all (fun y => y.v == 0) && (!cl || (decide (ss.length = 0) && decide (rs.length = 0)))))
theorem mayB_no {cp : Int} {vs : List Int} {ss rs : List Wt} {cl : Bool} {j : Nat} {x : Wt} (h : rs[j]? = some x) (e : x.v ≠ 0) : mayB cp vs ss rs cl = false := by
  have : rs.all (fun y => y.v == 0) = false := by
    rw [List.all_eq_false]
    exact ⟨x, List.mem_of_getElem? h, by simpa using e⟩
  unfold mayB
  rw [this]
  simp
theorem alone_any (P : Nat → Prop) (w : World) (cp : Int) (vo so ro : Option Addr) (vn vc sn sc rn rc : Nat) (cl : Bool) (ss rs : List Wt) (hs : Ls eW P w (.slice so sn sc) ss) (hr : Ls eW P w (.slice ro rn rc) rs) (hb : sn ≤ 4398046511104 ∧ rn ≤ 4398046511104) :
    Calls Try.prog 54 #[.agg #[.int .i64 cp, .slice vo vn vc, .slice so sn sc, .slice ro rn rc, .bool cl]] w fun e w' => e = .returned (.bool (alB ss rs)) ∧ Gr w w' := by
  have l1 := hs.len.1
  have l2 := hr.len.1
  cases ss with
  | nil => exact alone_none w cp vo so ro vn vc sn sc rn rc cl (.inl l1)
  | cons x sr =>
    cases rs with
    | nil => exact alone_none w cp vo so ro vn vc sn sc rn rc cl (.inr l2)
    | cons y rr =>
      obtain ⟨s, g, cc, vv⟩ := x
      exact alone_some P w cp vo so ro vn vc sn sc rn rc cl s g cc vv sr (y :: rr) hs hr (by rw [l2]; simp) hb
set_option maxHeartbeats 8000000 in
set_option maxRecDepth 20000 in
theorem may_any (P : Nat → Prop) (w : World) (cp : Int) (vo so ro : Option Addr) (vn vc sn sc rn rc : Nat) (cl : Bool) (vs : List Int) (ss rs : List Wt) (hvl : vn = vs.length) (hs : Ls eW P w (.slice so sn sc) ss) (hr : Ls eW P w (.slice ro rn rc) rs) (h0 : 0 ≤ cp) (h1 : cp ≤ 1024) (h2 : (vn : Int) ≤ cp) (hb : sn ≤ 4398046511104 ∧ rn ≤ 4398046511104) :
    Calls Try.prog 35 #[.agg #[.int .i64 cp, .slice vo vn vc, .slice so sn sc, .slice ro rn rc, .bool cl]] w fun e w' => e = .returned (.bool (mayB cp vs ss rs cl)) ∧ Gr w w' := by
  have G1 := hid (show Gr w (w.alloc (.cells #[.int .i64 cp, .slice vo vn vc, .slice so sn sc, .slice ro rn rc, .bool cl] 70)) from Ch.alloc (Gr.refl w) _)
  have BX := hid (show (w.alloc (.cells #[.int .i64 cp, .slice vo vn vc, .slice so sn sc, .slice ro rn rc, .bool cl] 70)).heap[w.heap.size]? = some (.cells #[.int .i64 cp, .slice vo vn vc, .slice so sn sc, .slice ro rn rc, .bool cl] 70 (0, 0)) from (MapKept.heap_alloc w _).1)
  have HAL := hid (alone_any P _ cp vo so ro vn vc sn sc rn rc cl ss rs (hs.gr G1.out) (hr.gr G1.out) hb)
  have HR := hid hr
  have HSL := hid hs.len.1
  have HRL := hid hr.len.1
  have HVL := hid hvl
  have a1 : ¬ cp < 0 := by omega
  have a2 : ¬ cp > 1024 := by omega
  have a3 : ¬ (1024 : Int) < cp := by omega
  have a4 : ¬ (vn : Int) > cp := by omega
  have a5 : ¬ cp < (vn : Int) := by omega
  have hb2 := hb.2
  clear hs hr hvl hb
  go_enter Try.func35, Try.ntmps35
  cases hab : alB ss rs with
  | false =>
    rw [hab] at HAL
    go_wp2_with (go_at_call 54; refine HAL.out.mono ?_; rintro e w1 ⟨rfl, g1⟩; have G2 := hid (Gr.trans G1.out g1); have B2 := hid (gr_blk BX.out g1); clear g1; obtain ⟨p0, p1, p2, p3, p4⟩ := five_cells B2.out; have lB := lt_of_block B2.out)
    go_ret
    exact ⟨by simp [mayB, hab], G2.out⟩
  | true =>
    rw [hab] at HAL
    by_cases s0 : sn = 0
    · have es : ss.length = 0 := by rw [← HSL.out]; exact s0
      subst s0
      by_cases r0 : rn = 0
      · have er : rs.length = 0 := by rw [← HRL.out]; exact r0
        subst r0
        go_upto_region 5 with (go_at_call 54; refine HAL.out.mono ?_; rintro e w1 ⟨rfl, g1⟩; have G2 := hid (Gr.trans G1.out g1); have B2 := hid (gr_blk BX.out g1); clear g1; obtain ⟨p0, p1, p2, p3, p4⟩ := five_cells B2.out; have lB := lt_of_block B2.out)
        go_wp2_with fail
        clear p0 p1 p2 p3 p4 lB
        go_loopg [3] 0 (fun q v wr => ∃ (j : Nat), j + q = 0 ∧ v = .int .i64 (j : Int) ∧ (∀ y ∈ rs.take j, y.v = 0) ∧ Gr w1 wr)
        case atStart => exact ⟨0, by omega, rfl, fun y hy => (by simp at hy), Gr.refl _⟩
        case round =>
          obtain ⟨j, hjq, rfl, hall, hG⟩ := hrel
          have HA := hid hall
          have GR := hid hG
          clear hall hG
          obtain ⟨p0, p1, p2, p3, p4⟩ := five_cells (gr_blk B2.out GR.out)
          have lB := lt_of_block (gr_blk B2.out GR.out)
          by_cases hj : j < 0
          · omega
          · have jn : ¬ (j : Int) < ((0 : Nat) : Int) := by omega
            have HALL := hid (show rs.all (fun y => y.v == 0) = true from List.all_eq_true.2 (fun y hy => by have := HA.out y (by rw [List.take_of_length_le (by rw [← HRL.out]; omega)]; exact hy); simpa using this))
            cases cl with
            | false =>
              go_wp2
              go_ret
              exact ⟨by rw [show mayB cp vs ss rs false = true from by simp [mayB, hab, HALL.out, es, er]]; rfl, Gr.trans G2.out GR.out⟩
            | true =>
              go_wp2
              go_ret
              exact ⟨by simp [mayB, hab, HALL.out, es, er], Gr.trans G2.out GR.out⟩
      · have r1 : (0 : Int) < (rn : Int) := by omega
        have r2 : ((rn : Int) == 0) = false := by simp; omega
        have er : 0 < rs.length := by rw [← HRL.out]; omega
        by_cases v0 : vn = 0
        · have ev : vs.length = 0 := by rw [← HVL.out]; exact v0
          subst v0
          go_upto_region 5 with (go_at_call 54; refine HAL.out.mono ?_; rintro e w1 ⟨rfl, g1⟩; have G2 := hid (Gr.trans G1.out g1); have B2 := hid (gr_blk BX.out g1); clear g1; obtain ⟨p0, p1, p2, p3, p4⟩ := five_cells B2.out; have lB := lt_of_block B2.out)
          go_wp2_with fail
          clear p0 p1 p2 p3 p4 lB
          go_loopg [3] rn (fun q v wr => ∃ (j : Nat), j + q = rn ∧ v = .int .i64 (j : Int) ∧ (∀ y ∈ rs.take j, y.v = 0) ∧ Gr w1 wr)
          case atStart => exact ⟨0, by omega, rfl, fun y hy => (by simp at hy), Gr.refl _⟩
          case round =>
            obtain ⟨j, hjq, rfl, hall, hG⟩ := hrel
            have HA := hid hall
            have GR := hid hG
            clear hall hG
            obtain ⟨p0, p1, p2, p3, p4⟩ := five_cells (gr_blk B2.out GR.out)
            have lB := lt_of_block (gr_blk B2.out GR.out)
            by_cases hj : j < rn
            · obtain ⟨⟨x0, x1, x2, x3⟩, hx⟩ : ∃ x, rs[j]? = some x := ⟨_, List.getElem?_eq_getElem (by rw [← HRL.out]; exact hj)⟩
              obtain ⟨gg, oo, cap', hv, _, hgl, _, hcs⟩ := (HR.out.gr (Gr.trans G2.out GR.out)).get eW_len hx
              injection hv with hv1 hv2 hv3
              subst hv1
              clear hv2 hv3
              have c3 := hcs 3 _ rfl
              have j0 : (0 : Int) ≤ (j : Int) := by omega
              have j1 : (j : Int) < (rn : Int) := by omega
              have HX := hid hx
              clear hcs hx hgl
              by_cases e1 : x3 = 0
              · subst e1
                go_wp2
                go_roundg (gk - 1)
                case measure => omega
                case rel => exact ⟨j + 1, by omega, by simp, (by intro y hy; rw [take_one HX.out] at hy; rcases List.mem_append.1 hy with q | q; exact HA.out y q; rw [List.mem_singleton] at q; rw [q]), GR.out⟩
              · have e2 : (x3 == 0) = false := by simpa using e1
                go_wp2
                go_ret
                exact ⟨by rw [mayB_no (j := j) HX.out e1]; rfl, Gr.trans G2.out GR.out⟩
            · have jn : ¬ (j : Int) < (rn : Int) := by omega
              have HALL := hid (show rs.all (fun y => y.v == 0) = true from List.all_eq_true.2 (fun y hy => by have := HA.out y (by rw [List.take_of_length_le (by rw [← HRL.out]; omega)]; exact hy); simpa using this))
              cases cl with
              | false =>
                go_wp2
                go_ret
                exact ⟨by rw [show mayB cp vs ss rs false = true from by simp [mayB, hab, HALL.out, es, er, ev, Nat.ne_of_gt er]]; rfl, Gr.trans G2.out GR.out⟩
              | true =>
                go_wp2
                go_ret
                exact ⟨by simp [mayB, hab, HALL.out, es, er, ev, Nat.ne_of_gt er], Gr.trans G2.out GR.out⟩
        · have v1 : (0 : Int) < (vn : Int) := by omega
          have ev : 0 < vs.length := by rw [← HVL.out]; omega
          go_wp2_with (go_at_call 54; refine HAL.out.mono ?_; rintro e w1 ⟨rfl, g1⟩; have G2 := hid (Gr.trans G1.out g1); have B2 := hid (gr_blk BX.out g1); clear g1; obtain ⟨p0, p1, p2, p3, p4⟩ := five_cells B2.out; have lB := lt_of_block B2.out)
          go_ret
          exact ⟨by simp [mayB, er, ev], G2.out⟩
    · have s1 : (0 : Int) < (sn : Int) := by omega
      have s2 : ((sn : Int) == 0) = false := by simp; omega
      have es : 0 < ss.length := by rw [← HSL.out]; omega
      by_cases v2 : (vn : Int) < cp
      · have ev : (vs.length : Int) < cp := by rw [← HVL.out]; exact v2
        go_wp2_with (go_at_call 54; refine HAL.out.mono ?_; rintro e w1 ⟨rfl, g1⟩; have G2 := hid (Gr.trans G1.out g1); have B2 := hid (gr_blk BX.out g1); clear g1; obtain ⟨p0, p1, p2, p3, p4⟩ := five_cells B2.out; have lB := lt_of_block B2.out)
        go_ret
        exact ⟨by simp [mayB, es, ev], G2.out⟩
      · have ev : ¬ (vs.length : Int) < cp := by rw [← HVL.out]; exact v2
        by_cases r0 : rn = 0
        · have er : rs.length = 0 := by rw [← HRL.out]; exact r0
          subst r0
          go_upto_region 5 with (go_at_call 54; refine HAL.out.mono ?_; rintro e w1 ⟨rfl, g1⟩; have G2 := hid (Gr.trans G1.out g1); have B2 := hid (gr_blk BX.out g1); clear g1; obtain ⟨p0, p1, p2, p3, p4⟩ := five_cells B2.out; have lB := lt_of_block B2.out)
          go_wp2_with fail
          clear p0 p1 p2 p3 p4 lB
          go_loopg [3] 0 (fun q v wr => ∃ (j : Nat), j + q = 0 ∧ v = .int .i64 (j : Int) ∧ (∀ y ∈ rs.take j, y.v = 0) ∧ Gr w1 wr)
          case atStart => exact ⟨0, by omega, rfl, fun y hy => (by simp at hy), Gr.refl _⟩
          case round =>
            obtain ⟨j, hjq, rfl, hall, hG⟩ := hrel
            have HA := hid hall
            have GR := hid hG
            clear hall hG
            obtain ⟨p0, p1, p2, p3, p4⟩ := five_cells (gr_blk B2.out GR.out)
            have lB := lt_of_block (gr_blk B2.out GR.out)
            by_cases hj : j < 0
            · omega
            · have jn : ¬ (j : Int) < ((0 : Nat) : Int) := by omega
              have HALL := hid (show rs.all (fun y => y.v == 0) = true from List.all_eq_true.2 (fun y hy => by have := HA.out y (by rw [List.take_of_length_le (by rw [← HRL.out]; omega)]; exact hy); simpa using this))
              cases cl with
              | false =>
                go_wp2
                go_ret
                exact ⟨by rw [show mayB cp vs ss rs false = true from by simp [mayB, hab, HALL.out, es, er, ev, Nat.ne_of_gt es]]; rfl, Gr.trans G2.out GR.out⟩
              | true =>
                go_wp2
                go_ret
                exact ⟨by simp [mayB, hab, HALL.out, es, er, Nat.ne_of_gt es], Gr.trans G2.out GR.out⟩
        · have r1 : (0 : Int) < (rn : Int) := by omega
          have r2 : ((rn : Int) == 0) = false := by simp; omega
          have er : 0 < rs.length := by rw [← HRL.out]; omega
          by_cases v0 : vn = 0
          · have ev0 : vs.length = 0 := by rw [← HVL.out]; exact v0
            subst v0
            have E7 := hid (show ¬ (0 : Int) < cp from by omega)
            go_upto_region 5 with (go_at_call 54; refine HAL.out.mono ?_; rintro e w1 ⟨rfl, g1⟩; have G2 := hid (Gr.trans G1.out g1); have B2 := hid (gr_blk BX.out g1); clear g1; obtain ⟨p0, p1, p2, p3, p4⟩ := five_cells B2.out; have lB := lt_of_block B2.out)
            go_wp2_with fail
            clear p0 p1 p2 p3 p4 lB
            go_loopg [3] rn (fun q v wr => ∃ (j : Nat), j + q = rn ∧ v = .int .i64 (j : Int) ∧ (∀ y ∈ rs.take j, y.v = 0) ∧ Gr w1 wr)
            case atStart => exact ⟨0, by omega, rfl, fun y hy => (by simp at hy), Gr.refl _⟩
            case round =>
              obtain ⟨j, hjq, rfl, hall, hG⟩ := hrel
              have HA := hid hall
              have GR := hid hG
              clear hall hG
              obtain ⟨p0, p1, p2, p3, p4⟩ := five_cells (gr_blk B2.out GR.out)
              have lB := lt_of_block (gr_blk B2.out GR.out)
              by_cases hj : j < rn
              · obtain ⟨⟨x0, x1, x2, x3⟩, hx⟩ : ∃ x, rs[j]? = some x := ⟨_, List.getElem?_eq_getElem (by rw [← HRL.out]; exact hj)⟩
                obtain ⟨gg, oo, cap', hv, _, hgl, _, hcs⟩ := (HR.out.gr (Gr.trans G2.out GR.out)).get eW_len hx
                injection hv with hv1 hv2 hv3
                subst hv1
                clear hv2 hv3
                have c3 := hcs 3 _ rfl
                have j0 : (0 : Int) ≤ (j : Int) := by omega
                have j1 : (j : Int) < (rn : Int) := by omega
                have HX := hid hx
                clear hcs hx hgl
                by_cases e1 : x3 = 0
                · subst e1
                  go_wp2
                  go_roundg (gk - 1)
                  case measure => omega
                  case rel => exact ⟨j + 1, by omega, by simp, (by intro y hy; rw [take_one HX.out] at hy; rcases List.mem_append.1 hy with q | q; exact HA.out y q; rw [List.mem_singleton] at q; rw [q]), GR.out⟩
                · have e2 : (x3 == 0) = false := by simpa using e1
                  go_wp2
                  go_ret
                  exact ⟨by rw [mayB_no (j := j) HX.out e1]; rfl, Gr.trans G2.out GR.out⟩
              · have jn : ¬ (j : Int) < (rn : Int) := by omega
                have HALL := hid (show rs.all (fun y => y.v == 0) = true from List.all_eq_true.2 (fun y hy => by have := HA.out y (by rw [List.take_of_length_le (by rw [← HRL.out]; omega)]; exact hy); simpa using this))
                cases cl with
                | false =>
                  go_wp2
                  go_ret
                  exact ⟨by rw [show mayB cp vs ss rs false = true from by simp [mayB, hab, HALL.out, es, er, ev0, Nat.ne_of_gt es, Nat.ne_of_gt er, E7.out]]; rfl, Gr.trans G2.out GR.out⟩
                | true =>
                  go_wp2
                  go_ret
                  exact ⟨by simp [mayB, hab, HALL.out, es, er, ev0, Nat.ne_of_gt es, Nat.ne_of_gt er], Gr.trans G2.out GR.out⟩
          · have v1 : (0 : Int) < (vn : Int) := by omega
            have ev0 : 0 < vs.length := by rw [← HVL.out]; omega
            go_wp2_with (go_at_call 54; refine HAL.out.mono ?_; rintro e w1 ⟨rfl, g1⟩; have G2 := hid (Gr.trans G1.out g1); have B2 := hid (gr_blk BX.out g1); clear g1; obtain ⟨p0, p1, p2, p3, p4⟩ := five_cells B2.out; have lB := lt_of_block B2.out)
            go_ret
            exact ⟨by simp [mayB, er, ev0], G2.out⟩
end Go.Proofs.Ytalmiphddgmfbab.Lt

namespace Go.Proofs.Ytalmiphddgmfbab.Lt
open Go.RowKit Wd
attribute [local go_sem ↓] Go.wp_at_zero Go.wp_at_succ

/-- may a goroutine wait so? -/
def fitB (cs : List Cn) (ch s g c x : Int) (sd : Bool) : Bool := match cAt cs ch with
  | none => true
  | some (_, d) => if sd = true then mayB d.cap d.vs (d.ss ++ [⟨s, g, c, x⟩]) d.rs d.cl else mayB d.cap d.vs d.ss (d.rs ++ [⟨s, g, c, 0⟩]) d.cl
end Go.Proofs.Ytalmiphddgmfbab.Lt

namespace Go.Proofs.Ytalmiphddgmfbab.Lt
open Go.RowKit Wd

/-- what Send and Recv of the document tell -/
def RvO (P : Nat → Prop) (w : World) (o : Ot) (e : Ending) (w' : World) : Prop := ∃ v mo mn mc, e = .returned (.tuple #[v, .agg #[.bool o.wa, .int .i64 o.va, .bool o.ok, .int .i64 o.tr, .slice mo mn mc], .int .i64 o.er]) ∧ Ls eK (w.heap.size ≤ ·) w' (.slice mo mn mc) o.ks ∧ Rds (fun q => P q ∨ w.heap.size ≤ q) w' v o.cs ∧ Gr w w'
section
variable {P : Nat → Prop} {w : World} {v : Value} {cs : List Cn}
theorem rvo_same {wa : Bool} {va : Int} {ok : Bool} {tr er : Int} {e : Ending} {w' : World} (h : Rds P w v cs) (q : e = .returned (.tuple #[v, .agg #[.bool wa, .int .i64 va, .bool ok, .int .i64 tr, .slice none 0 0], .int .i64 er]) ∧ Gr w w') : RvO P w ⟨cs, wa, va, ok, tr, [], er⟩ e w' :=
  ⟨v, none, 0, 0, q.1, Ls.nil _ _ _, (h.gr q.2).mono (fun _ _ p => .inl p), q.2⟩
theorem rvo_new {cs' : List Cn} {wa : Bool} {va : Int} {ok : Bool} {tr : Int} {e : Ending} {w' : World} (q : SdR w cs' #[.bool wa, .int .i64 va, .bool ok, .int .i64 tr, .slice none 0 0] e w') : RvO P w ⟨cs', wa, va, ok, tr, [], 0⟩ e w' := by
  obtain ⟨v', h1, h2, h3⟩ := q
  exact ⟨v', none, 0, 0, h1, Ls.nil _ _ _, h2.rds.mono (fun _ _ p => .inr p), h3⟩
theorem rvo_wake {cs' : List Cn} {wa : Bool} {va : Int} {ok : Bool} {tr : Int} {ks : List Wk} {e : Ending} {w' : World} (q : SdK w cs' wa va ok tr ks e w') : RvO P w ⟨cs', wa, va, ok, tr, ks, 0⟩ e w' := by
  obtain ⟨v', mo, mn, mc, h1, h2, h3, h4⟩ := q
  exact ⟨v', mo, mn, mc, h1, h2.lst, h3.rds.mono (fun _ _ p => .inr p), h4⟩
end
theorem rsend_any (P : Nat → Prop) (w : World) (v : Value) (cs : List Cn) (N : Nat) (ch s g x : Int) (h : Rds P w v cs) (hG : Gd N cs) (hN : N < 4398046511104) :
    Calls Try.prog 40 #[v, .int .i64 ch, .agg #[.int .i64 s, .int .i64 g], .int .i64 x] w (RvO P w (sndF cs ch s g x)) := by
  obtain ⟨ao, cap, rfl⟩ := h.form
  have hb := hG.bd (by omega)
  unfold sndF
  by_cases hp : 0 < pls cs s g
  · rw [if_pos hp]
    exact (rsend_waits P w ao _ cap cs s g x ch h hb hG.n (decide_eq_true hp)).mono (fun e w' q => rvo_same h q)
  · rw [if_neg hp]
    have hp0 := decide_eq_false hp
    rcases cAt_cases cs ch with ⟨i, c, rfl, hc, e⟩ | ⟨hn, e⟩ <;> rw [e]
    · dsimp only
      have mem := List.mem_of_getElem? hc
      have hw := hG.wl_le mem
      have hv := hG.v c mem
      have hcp := hG.cap c mem
      unfold sndI
      by_cases h1 : c.cl = true
      · rw [if_pos h1]
        exact (rsend_closed P w ao _ cap cs i c s g x h hb hG.n rfl hc hp0 h1).mono (fun e w' q => rvo_same h q)
      · rw [if_neg h1]
        have h1' : c.cl = false := by simpa using h1
        cases hr : c.rs with
        | cons r rr =>
          obtain ⟨r0, r1, r2, r3⟩ := r
          dsimp only
          exact (rsend_wake P w ao _ cap cs i c s g x h hb hG.n rfl hc hp0 h1' r0 r1 r2 r3 rr hr).mono (fun e w' q => rvo_wake q)
        | nil =>
          dsimp only
          by_cases h2 : (c.vs.length : Int) < c.cap
          · rw [if_pos h2]
            have := rsend_room P w ao _ cap cs i c s g x h hb hG.n rfl hc hp0 h1' hr h2 (by omega)
            rw [hr] at this
            exact this.mono (fun e w' q => rvo_new q)
          · rw [if_neg h2]
            have := rsend_wait P w ao _ cap cs i c s g x h hb hG.n rfl hc hp0 h1' hr h2 (by omega)
            rw [hr] at this
            exact this.mono (fun e w' q => rvo_new q)
    · dsimp only
      unfold noF
      by_cases e0 : ch = 0
      · subst e0
        exact (rsend_nil P w ao _ cap cs s g x h hb hG.n hp0).mono (fun e w' q => rvo_same h q)
      · have e1 : decide (ch = 0) = false := decide_eq_false e0
        rw [if_neg e0, e1]
        exact (rsend_none P w ao _ cap cs s g x ch e0 hn h hb hG.n hp0).mono (fun e w' q => rvo_same h q)
theorem rrecv_any (P : Nat → Prop) (w : World) (v : Value) (cs : List Cn) (N : Nat) (ch s g : Int) (h : Rds P w v cs) (hG : Gd N cs) (hN : N < 4398046511104) :
    Calls Try.prog 41 #[v, .int .i64 ch, .agg #[.int .i64 s, .int .i64 g]] w (RvO P w (rcvF cs ch s g)) := by
  obtain ⟨ao, cap, rfl⟩ := h.form
  have hb := hG.bd (by omega)
  unfold rcvF
  by_cases hp : 0 < pls cs s g
  · rw [if_pos hp]
    exact (rrecv_waits P w ao _ cap cs s g ch h hb hG.n (decide_eq_true hp)).mono (fun e w' q => rvo_same h q)
  · rw [if_neg hp]
    have hp0 := decide_eq_false hp
    rcases cAt_cases cs ch with ⟨i, c, rfl, hc, e⟩ | ⟨hn, e⟩ <;> rw [e]
    · dsimp only
      have mem := List.mem_of_getElem? hc
      have hw := hG.wl_le mem
      have hv := hG.v c mem
      have hcp := hG.cap c mem
      unfold rcvI
      cases hs : c.ss with
      | cons y r =>
        obtain ⟨r0, r1, r2, r3⟩ := y
        dsimp only
        cases hvs : c.vs with
        | cons u us =>
          dsimp only
          have := rrecv_value1 P w ao _ cap cs i c s g h hb hG.n rfl hc hp0 u us hvs (by rw [hvs] at hv; simp only [List.length_cons] at hv ⊢; omega) r0 r1 r2 r3 r hs
          rw [hs] at this
          exact this.mono (fun e w' q => rvo_wake q)
        | nil =>
          dsimp only
          exact (rrecv_sender P w ao _ cap cs i c s g h hb hG.n rfl hc hp0 hvs r0 r1 r2 r3 r hs).mono (fun e w' q => rvo_wake q)
      | nil =>
        dsimp only
        cases hvs : c.vs with
        | cons u us =>
          dsimp only
          have := rrecv_value0 P w ao _ cap cs i c s g h hb hG.n rfl hc hp0 u us hvs (by rw [hvs] at hv; simp only [List.length_cons] at hv ⊢; omega) hs
          rw [hs] at this
          exact this.mono (fun e w' q => rvo_wake q)
        | nil =>
          dsimp only
          by_cases h1 : c.cl = true
          · rw [if_pos h1]
            exact (rrecv_closed P w ao _ cap cs i c s g h hb hG.n rfl hc hp0 h1 hvs hs).mono (fun e w' q => rvo_same h q)
          · rw [if_neg h1]
            have := rrecv_wait P w ao _ cap cs i c s g h hb hG.n rfl hc hp0 (by simpa using h1) hvs hs (by omega)
            rw [hvs, hs] at this
            exact this.mono (fun e w' q => rvo_new q)
    · dsimp only
      unfold noF
      by_cases e0 : ch = 0
      · subst e0
        exact (rrecv_nil P w ao _ cap cs s g h hb hG.n hp0).mono (fun e w' q => rvo_same h q)
      · have e1 : decide (ch = 0) = false := decide_eq_false e0
        rw [if_neg e0, e1]
        exact (rrecv_none P w ao _ cap cs s g ch e0 hn h hb hG.n hp0).mono (fun e w' q => rvo_same h q)
/-- what Close of the document tells -/
def RcO (P : Nat → Prop) (w : World) (o : Ot) (e : Ending) (w' : World) : Prop := ∃ v mo mn mc, e = .returned (.tuple #[v, .agg #[.bool false, .int .i64 0, .bool false, .int .i64 o.tr, .slice mo mn mc]]) ∧ Ls eK (w.heap.size ≤ ·) w' (.slice mo mn mc) o.ks ∧ Rds (fun q => P q ∨ w.heap.size ≤ q) w' v o.cs ∧ Gr w w'
end Go.Proofs.Ytalmiphddgmfbab.Lt
