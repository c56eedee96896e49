/-
  What the program's listsMayBe answers. Condition: the state is there, of as many slots as bits, its lists in blocks that were there.
-/
import Derived.Test.YtfbkifkfhgkdbabSbLoad2
namespace Go.Proofs.Ytfbkifkfhgkdbab.Sb
open Go.RowKit
attribute [local go_sem ↓] Go.wp_at_zero Go.wp_at_succ

/-- which slots are free -/
def freeL (x : Sl) : List Bool := List.zipWith (fun g a => !a && decide (g < 2147483647)) x.G x.A
theorem freeL_len {x : Sl} (h : x.A.length = x.G.length) : (freeL x).length = x.G.length := by unfold freeL; rw [List.length_zipWith, h, Nat.min_self]
theorem freeL_get {x : Sl} {j : Nat} {g : Int} {a : Bool} (hg : x.G[j]? = some g) (ha : x.A[j]? = some a) : (freeL x)[j]? = some (!a && decide (g < 2147483647)) := by unfold freeL; rw [List.getElem?_zipWith, hg, ha]
/-- behind the caches -/
def cachesL : List Bool → List (List Int) → Option (List Bool)
  | M, [] => some M
  | M, c :: C => if 64 ≤ c.length then none else (strikeL M c).bind (fun M' => cachesL M' C)
/-- may the lists be? -/
def listsB (x : Sl) : Bool := ((cachesL (freeL x) x.C).bind (fun M => (strikeL M x.F).map (fun M' => !(M'.any id)))).getD false

set_option maxHeartbeats 2000000 in
theorem lists_any (P : Nat → Prop) (L : Int) (vg va vc vf : Value) (cv : List Value) (x : Sl) (w : World) (h : Rd P w vg va vc vf cv x) (hP : ∀ q, P q → q < w.heap.size) (hag : x.A.length = x.G.length) (hl : x.G.length ≤ 4294967296) (hC : ∀ (i : Nat) c, x.C[i]? = some c → c.length ≤ 140737488355328) (hF : x.F.length ≤ 140737488355328) (hCl : x.C.length ≤ 4294967296) :
    Calls Try.prog 31 #[.agg #[.int .i64 L, vg, va, vc, vf]] w fun e w' => e = .returned (.bool (listsB x)) ∧ Ch NoB w w' := by
  obtain ⟨ga, gc, rfl⟩ := h.g.form
  obtain ⟨aa, ac, rfl⟩ := h.a.form
  obtain ⟨ca, cc, rfl⟩ := h.c.form
  obtain ⟨fa, fc, rfl⟩ := h.f.form
  obtain ⟨nG, hnG⟩ : ∃ n, n = (iv x.G).length := ⟨_, rfl⟩
  obtain ⟨nC, hnC⟩ : ∃ n, n = cv.length := ⟨_, rfl⟩
  obtain ⟨nF, hnF⟩ : ∃ n, n = (iv x.F).length := ⟨_, rfl⟩
  have hnA : (bv x.A).length = nG := by rw [hnG, bv_length, iv_length, hag]
  rw [← hnG, ← hnC, ← hnF, hnA] at h ⊢
  have hnl : nG = x.G.length := by rw [hnG, iv_length]
  have hcl : nC = x.C.length := by rw [hnC]; exact h.e.1
  rw [← hnl] at hl
  rw [← hcl] at hCl
  obtain ⟨W0, hW0⟩ : ∃ W, W = w.alloc (.cells #[.int .i64 L, .slice ga nG gc, .slice aa nG ac, .slice ca nC cc, .slice fa nF fc] 45) := ⟨_, rfl⟩
  have g0 : Ch NoB w W0 := by rw [hW0]; exact (Ch.refl _ _).alloc _
  have f0 : Fv 45 W0 w.heap.size (.int .i64 L) (.slice ga nG gc) (.slice aa nG ac) (.slice ca nC cc) (.slice fa nF fc) := by rw [hW0]; exact Fv.new _ w _ _ _ _ _
  have HR := hid (h.ch g0 (fun _ _ _ => noB _))
  have HP := hid (show ∀ q, P q → q < W0.heap.size from fun q a => Nat.lt_of_lt_of_le (hP q a) g0.size)
  have HF0 := hid f0
  have HG0 := hid g0
  have HN := hid hnl
  have HCL := hid hcl
  have HAG := hid hag
  have HCb := hid hC
  have HFb := hid hF
  have HNF := hid (show nF = x.F.length by rw [hnF, iv_length])
  have hl0 := f0.lt
  clear h hP hag hC hF g0 f0 hnG hnC hnF hnA hnl hcl
  obtain ⟨i0, hi, hz0, hz1, hz2⟩ := info_parts1 bool_info
  go_enter Try.func31, Try.ntmps31
  go_wp2_with (first | (at_make; rw [← hW0]; refine wpList_make_full _ rfl _ _ 42 rfl W0.heap.size 4 i0 _ 1 Try.underlying42 hi hz0 hz1 _ _ _ _ nG rfl rfl (by omega) (by omega) (by rw [hz2]; omega) (by unfold maxLen; omega) (by simp) ?_; intro w1 hown hgrow; have hg1 := (Ch.refl NoB W0).grown hgrow (fun k hk => by cases hk); obtain ⟨c0, c1, c2, c3, c4⟩ := (HF0.out.ch hg1 (noB _)).cells))
  have ho : Ow 4 W0.heap.size w1 (.slice (some ⟨W0.heap.size, 0, none⟩) nG nG) (bv (List.replicate nG false)) := by
    have h2 := toList_madeCells_one (.bool false) nG
    rw [Nat.mul_one] at hown
    have e1 : bv (List.replicate nG false) = List.replicate nG (.bool false) := by simp [bv]
    unfold Ow
    rw [e1, List.length_replicate, ← h2]
    exact hown
  have hzz : W0.heap.size = w.heap.size + 1 := by rw [hW0]; simp
  rw [hzz] at ho hl0 HP
  obtain ⟨bx, hbx⟩ : ∃ b, b = w.heap.size + 1 := ⟨_, rfl⟩
  have hgb : Ch (Blk (.slice (some ⟨bx, 0, none⟩) nG nG)) W0 w1 := hg1.any
  rw [← hbx] at ho hl0 HP ⊢
  have HO := hid ho
  have HB := hid hgb
  clear hown hgrow hg1 ho hgb hW0 hzz c0 c1 c2 c3 c4 hbx hi hz0 hz1 hz2
  have nbx : ∀ q, q < bx → ¬ Blk (.slice (some ⟨bx, 0, none⟩) nG nG) q := fun q a e => by
    have e1 : some bx = some q := e
    injection e1 with e1
    omega
  have HNB := hid nbx
  have nb0 := nbx _ hl0
  clear nbx
  go_loopg [15] nG (fun k i wr => ∃ (j : Nat) (N : List Bool), j + k = nG ∧ i = .int .i64 ((j : Nat) : Int) ∧ N.length = nG ∧ (∀ q, q < j → N[q]? = (freeL x)[q]?) ∧ Ow 4 bx wr (.slice (some ⟨bx, 0, none⟩) nG nG) (bv N) ∧ Ch (Blk (.slice (some ⟨bx, 0, none⟩) nG nG)) W0 wr)
  case atStart => exact ⟨0, _, by omega, rfl, by simp, fun q a => by omega, HO.out, HB.out⟩
  case round =>
    obtain ⟨j, N, hjk, rfl, hN, hst, ho, hg⟩ := hrel
    obtain ⟨c0, c1, c2, c3, c4⟩ := (HF0.out.ch hg nb0).cells
    have HS := hid hst
    have HO1 := hid ho
    have HG := hid hg
    have HNN := hid hN
    have HR1 := hid (HR.out.ch hg (fun q _ a => HNB.out q (HP.out q a)))
    clear hst ho hg hN
    by_cases hj : j < nG
    · obtain ⟨z, hz⟩ : ∃ z, x.G[j]? = some z := ⟨_, List.getElem?_eq_getElem (by rw [← HN.out]; exact hj)⟩
      obtain ⟨a, ha⟩ : ∃ a, x.A[j]? = some a := ⟨_, List.getElem?_eq_getElem (by rw [HAG.out, ← HN.out]; exact hj)⟩
      obtain ⟨b, hb⟩ : ∃ b, N[j]? = some b := ⟨_, List.getElem?_eq_getElem (by rw [HNN.out]; exact hj)⟩
      obtain ⟨g1, o1, rfl, -, -, -, d1⟩ := HR1.out.g.get1 (iv_get hz)
      obtain ⟨g2, o2, rfl, -, -, -, d2⟩ := HR1.out.a.get1 (bv_get ha)
      obtain ⟨g3, cap3, e3, -, gl3, -, y0, yf, yset⟩ := HO1.out.get (bv_get hb)
      injection e3 with a1 a2 a3
      injection a1 with a1
      injection a1 with a1 a4 a5
      subst a1
      clear a2 a3 a4 a5
      have j0 : (0 : Int) ≤ (j : Int) := by omega
      have j1 : (j : Int) < (nG : Int) := by omega
      have hf := freeL_get hz ha
      have HFr := hid hf
      have YS := hid yset
      clear hz ha hb hf yset
      have fin : ∀ u : Bool, (freeL x)[j]? = some u → ∃ (j' : Nat) (N' : List Bool), j' + (gk - 1) = nG ∧ (Value.int .i64 ((j : Int) + 1)) = .int .i64 ((j' : Nat) : Int) ∧ N'.length = nG ∧ (∀ q, q < j' → N'[q]? = (freeL x)[q]?) ∧ Ow 4 bx (wr.setCell ⟨bx, j, none⟩ (.bool u)) (.slice (some ⟨bx, 0, none⟩) nG nG) (bv N') ∧ Ch (Blk (.slice (some ⟨bx, 0, none⟩) nG nG)) W0 (wr.setCell ⟨bx, j, none⟩ (.bool u)) := by
        intro u hu
        refine ⟨j + 1, N.set j u, by omega, by simp, by rw [List.length_set, HNN.out], fun q a => ?_, ?_, HG.out.setCell (p := ⟨bx, j, none⟩) (.inl rfl) _⟩
        · by_cases e : q = j
          · rw [e, List.getElem?_set_self (by rw [HNN.out]; exact hj), hu]
          · rw [List.getElem?_set_ne (by omega)]
            exact HS.out q (by omega)
        · have := YS.out (.bool u)
          rw [bv_set] at this
          exact this
      have FIN := hid fin
      clear fin
      cases a with
      | true =>
        go_wp2
        go_roundg (gk - 1)
        case measure => omega
        case rel => exact FIN.out false (by rw [HFr.out]; rfl)
      | false =>
        by_cases hq : z < 2147483647
        · go_wp2
          go_roundg (gk - 1)
          case measure => omega
          case rel => exact FIN.out true (by rw [HFr.out, decide_eq_true hq]; rfl)
        · go_wp2
          go_roundg (gk - 1)
          case measure => omega
          case rel => exact FIN.out false (by rw [HFr.out, decide_eq_false (show ¬ z < 2147483647 by omega)]; rfl)
    · have hNe : N = freeL x := by
        apply List.ext_getElem?
        intro q
        by_cases a : q < nG
        · exact HS.out q (by omega)
        · rw [List.getElem?_eq_none (by rw [HNN.out]; omega), List.getElem?_eq_none (by rw [freeL_len HAG.out, ← HN.out]; omega)]
      have HE := hid hNe
      clear hNe
      go_wp2_with fail
      clear c0 c1 c2 c3 c4
      go_loopg [37] nC (fun k i wv => ∃ (j2 : Nat) (N2 : List Bool), j2 + k = nC ∧ i = .int .i64 ((j2 : Nat) : Int) ∧ N2.length = nG ∧ cachesL (freeL x) x.C = cachesL N2 (x.C.drop j2) ∧ Ow 4 bx wv (.slice (some ⟨bx, 0, none⟩) nG nG) (bv N2) ∧ Ch (Blk (.slice (some ⟨bx, 0, none⟩) nG nG)) W0 wv)
      case atStart => exact ⟨0, N, by omega, rfl, HNN.out, by rw [HE.out]; rfl, HO1.out, HG.out⟩
      case round =>
        obtain ⟨j2, N2, hjk2, rfl, hN2, hst2, ho2, hg2⟩ := hrel
        obtain ⟨c0, c1, c2, c3, c4⟩ := (HF0.out.ch hg2 nb0).cells
        have HS2 := hid hst2
        have HO2 := hid ho2
        have HG2 := hid hg2
        have HN2 := hid hN2
        have HR2 := hid (HR.out.ch hg2 (fun q _ a => HNB.out q (HP.out q a)))
        have hbw := (ho2.blk (q := bx) rfl).2
        clear hst2 ho2 hg2 hN2
        have fr : ∀ (wz : World), Ch (Blk (.slice (some ⟨bx, 0, none⟩) nG nG)) wr wz → Ch NoB w wz := fun wz k => HG0.out.trans (HG2.out.trans' k) (fun q e => by
          have e1 : some bx = some q := e
          injection e1 with e1
          exact .inr (by omega))
        have HFr := hid fr
        have pd : ∀ q, P q → ¬ Blk (.slice (some ⟨bx, 0, none⟩) nG nG) q := fun q a => HNB.out q (HP.out q a)
        have HPD := hid pd
        clear fr pd
        by_cases hj2 : j2 < nC
        · obtain ⟨c, hc⟩ : ∃ c, x.C[j2]? = some c := ⟨_, List.getElem?_eq_getElem (by rw [← HCL.out]; exact hj2)⟩
          obtain ⟨u, hu⟩ : ∃ u, cv[j2]? = some u := ⟨_, List.getElem?_eq_getElem (by rw [HR2.out.e.1, ← HCL.out]; exact hj2)⟩
          have lsu := HR2.out.e.2 j2 u c hu hc
          obtain ⟨ua, uc, rfl⟩ := lsu.form
          obtain ⟨nU, hnU⟩ : ∃ n, n = (iv c).length := ⟨_, rfl⟩
          rw [← hnU] at lsu hu
          have hnc : nU = c.length := by rw [hnU, iv_length]
          obtain ⟨g1, o1, rfl, -, -, -, d1⟩ := HR2.out.c.get1 hu
          have hd : x.C.drop j2 = c :: x.C.drop (j2 + 1) := by
            have hj' : j2 < x.C.length := by rw [← HCL.out]; exact hj2
            rw [List.drop_eq_getElem_cons hj']
            congr 1
            rw [List.getElem?_eq_getElem hj'] at hc
            injection hc
          have hb := HCb.out j2 c hc
          have j0 : (0 : Int) ≤ (j2 : Int) := by omega
          have j1 : (j2 : Int) < (nC : Int) := by omega
          have HD := hid hd
          have HU := hid lsu
          have HNC := hid hnc
          have hub : nU ≤ 140737488355328 := by rw [hnc]; exact hb
          clear hc hu lsu hnU hnc hd hb
          by_cases h64 : 64 ≤ nU
          · have dd : decide ((64 : Int) ≤ (nU : Int)) = true := decide_eq_true (by omega)
            go_wp2
            go_ret
            refine ⟨?_, HFr.out _ (Ch.refl _ _)⟩
            unfold listsB
            rw [HS2.out, HD.out]
            unfold cachesL
            rw [if_pos (by rw [← HNC.out]; exact h64)]
            rfl
          · have dd : decide ((64 : Int) ≤ (nU : Int)) = false := decide_eq_false (by omega)
            go_wp2_with fail
            refine (strike_any bx P _ _ N2 c _ HO2.out HU.out HPD.out (by rw [← HNC.out]; exact hub)).mono ?_
            rintro e w5 ⟨⟨M', hM, rfl, hM1, o5⟩, g5⟩
            cases hk : strikeL N2 c with
            | none =>
              have HK := hid hk
              have HG5 := hid g5
              clear hM1 o5 hk hM g5
              simp only [Option.isSome_none]
              go_wp2
              go_ret
              refine ⟨?_, HFr.out _ HG5.out⟩
              unfold listsB
              rw [HS2.out, HD.out]
              unfold cachesL
              rw [if_neg (by rw [← HNC.out]; exact h64), HK.out]
              rfl
            | some M1 =>
              have e5 := hM1 M1 hk
              subst e5
              have HK := hid hk
              have HG5 := hid g5
              have HO5 := hid o5
              have HM5 := hid hM
              clear hM1 o5 hk hM g5
              simp only [Option.isSome_some]
              go_wp2
              go_roundg (gk - 1)
              case measure => omega
              case rel =>
                refine ⟨j2 + 1, M', by omega, by simp, by rw [HM5.out, HN2.out], ?_, HO5.out, HG2.out.trans' HG5.out⟩
                rw [HS2.out, HD.out]
                conv => lhs; unfold cachesL
                rw [if_neg (by rw [← HNC.out]; exact h64), HK.out]
                rfl
        · have e0 : x.C.drop j2 = [] := List.drop_eq_nil_of_le (by rw [← HCL.out]; omega)
          have hc0 : cachesL (freeL x) x.C = some N2 := by rw [HS2.out, e0]; rfl
          have HC0 := hid hc0
          clear hc0 e0
          go_wp2_with fail
          refine (strike_any bx P _ _ N2 x.F _ HO2.out HR2.out.f HPD.out HFb.out).mono ?_
          rintro e w5 ⟨⟨M', hM, rfl, hM1, o5⟩, g5⟩
          cases hk : strikeL N2 x.F with
          | none =>
            have HK := hid hk
            have HG5 := hid g5
            clear hM1 o5 hk hM g5
            simp only [Option.isSome_none]
            go_wp2
            go_ret
            refine ⟨?_, HFr.out _ HG5.out⟩
            unfold listsB
            rw [HC0.out]
            show _ = Ending.returned (.bool (((strikeL N2 x.F).map (fun M' => !(M'.any id))).getD false))
            rw [HK.out]
            rfl
          | some M1 =>
            have e5 := hM1 M1 hk
            subst e5
            have HK := hid hk
            have HG5 := hid g5
            have HO5 := hid o5
            have HM5 := hid (show M'.length ≤ 4294967296 by rw [hM, HN2.out]; exact hl)
            clear hM1 o5 hk hM g5
            simp only [Option.isSome_some]
            go_wp2_with fail
            refine (contains_true _ _ M' _ HO5.out.lst HM5.out).mono ?_
            rintro e w6 ⟨rfl, rfl⟩
            go_wp2
            go_ret
            refine ⟨?_, HFr.out _ HG5.out⟩
            unfold listsB
            rw [HC0.out]
            show _ = Ending.returned (.bool (((strikeL N2 x.F).map (fun M' => !(M'.any id))).getD false))
            rw [HK.out]
            rfl
end Go.Proofs.Ytfbkifkfhgkdbab.Sb
