/-
  What the document's Load answers of a state of which the slots may be: 0 just where its lists may be, 40 else. Condition: the state is there, its numbers sized, its lists in blocks that were there, none of them too long.
-/
import Derived.Test.YtfbkifkfhgkdbabSbRLoad2
namespace Go.Proofs.Ytfbkifkfhgkdbab.Sb
open Go.RowKit
open Classical
attribute [local go_sem ↓] Go.wp_at_zero Go.wp_at_succ

/-- what is missing yet, and what stands -/
structure Rel (x : Sl) (M : List Bool) (T : List Int) : Prop where
  ml : M.length = x.G.length
  tl : T.length = x.G.length
  tn : ∀ (q : Nat) t, T[q]? = some t → 0 ≤ t
  mt : ∀ q : Nat, M[q]? = some true ↔ (freeL x)[q]? = some true ∧ T[q]? = some 0
theorem Rel.start {x : Sl} (h : x.A.length = x.G.length) : Rel x (freeL x) (List.replicate x.G.length 0) := by
  refine ⟨freeL_len h, by simp, fun q t ht => ?_, fun q => ⟨fun a => ⟨a, ?_⟩, fun a => a.1⟩⟩
  · rw [List.getElem?_replicate] at ht
    split at ht
    · injection ht with ht
      omega
    · cases ht
  · have := (List.getElem?_eq_some_iff.1 a).1
    rw [freeL_len h] at this
    rw [List.getElem?_replicate, if_pos this]
theorem freeB_true {x : Sl} {s : Int} (h : freeB x s = true) : ∃ k : Nat, s = (k : Int) ∧ (freeL x)[k]? = some true := by
  unfold freeB at h
  have := of_decide_eq_true h
  exact ⟨s.toNat, by omega, this.2⟩
theorem Rel.bad {x : Sl} {M : List Bool} {T : List Int} (h : Rel x M T) {s : Int} (hf : freeB x s = false) (l : List Int) : strikeL M (s :: l) = none := by
  unfold strikeL
  rw [if_neg]
  rintro ⟨h0, h1⟩
  have := of_decide_eq_false hf
  exact this ⟨h0, ((h.mt _).1 h1).1⟩
theorem Rel.twice {x : Sl} {M : List Bool} {T : List Int} (h : Rel x M T) {k : Nat} {t : Int} (ht : T[k]? = some t) (h0 : 0 < t) (l : List Int) : strikeL M ((k : Int) :: l) = none := by
  unfold strikeL
  rw [if_neg]
  rintro ⟨_, h1⟩
  rw [Int.toNat_natCast] at h1
  have := ((h.mt _).1 h1).2
  rw [ht] at this
  injection this with this
  omega
theorem Rel.struck {x : Sl} {M : List Bool} {T : List Int} (h : Rel x M T) {k : Nat} (hf : (freeL x)[k]? = some true) (ht : T[k]? = some 0) (l : List Int) : strikeL M ((k : Int) :: l) = strikeL (M.set k false) l ∧ Rel x (M.set k false) (T.set k 1) := by
  have hm := (h.mt k).2 ⟨hf, ht⟩
  have k1 := (List.getElem?_eq_some_iff.1 hm).1
  have k2 := (List.getElem?_eq_some_iff.1 ht).1
  refine ⟨?_, by rw [List.length_set, h.ml], by rw [List.length_set, h.tl], fun q t hq => ?_, fun q => ?_⟩
  · conv => lhs; unfold strikeL
    rw [if_pos ⟨by omega, by rw [Int.toNat_natCast]; exact hm⟩, Int.toNat_natCast]
  · by_cases e : q = k
    · rw [e, List.getElem?_set_self k2] at hq
      injection hq with hq
      omega
    · rw [List.getElem?_set_ne (by omega)] at hq
      exact h.tn q t hq
  · by_cases e : q = k
    · rw [e, List.getElem?_set_self k1, List.getElem?_set_self k2]
      simp
    · rw [List.getElem?_set_ne (by omega), List.getElem?_set_ne (by omega)]
      exact h.mt q
theorem drop_get {α : Type} {l : List α} {j : Nat} {z : α} (h : l[j]? = some z) : l.drop j = z :: l.drop (j + 1) := by
  have hj := (List.getElem?_eq_some_iff.1 h).1
  rw [List.drop_eq_getElem_cons hj]
  congr 1
  rw [List.getElem?_eq_getElem hj] at h
  injection h
/-- where the lists stand ahead of list j -/
def Mid (x : Sl) (j : Nat) (M : List Bool) : Prop := (j ≤ x.C.length ∧ cachesL (freeL x) x.C = cachesL M (x.C.drop j)) ∨ (j = x.C.length + 1 ∧ listsB x = !(M.any id))
theorem Mid.long {x : Sl} {j : Nat} {M : List Bool} {c : List Int} (h : Mid x j M) (hc : x.C[j]? = some c) (hl : 64 ≤ c.length) : listsB x = false := by
  have hj := (List.getElem?_eq_some_iff.1 hc).1
  rcases h with h | h
  · unfold listsB
    rw [h.2, drop_get hc]
    unfold cachesL
    rw [if_pos hl]
    rfl
  · omega
theorem Mid.cacheNo {x : Sl} {j : Nat} {M : List Bool} {c : List Int} (h : Mid x j M) (hc : x.C[j]? = some c) (hs : strikeL M c = none) : listsB x = false := by
  have hj := (List.getElem?_eq_some_iff.1 hc).1
  rcases h with h | h
  · unfold listsB
    rw [h.2, drop_get hc]
    unfold cachesL
    split
    · rfl
    · rw [hs]; rfl
  · omega
theorem Mid.cacheYes {x : Sl} {j : Nat} {M M' : List Bool} {c : List Int} (h : Mid x j M) (hc : x.C[j]? = some c) (hl : ¬ 64 ≤ c.length) (hs : strikeL M c = some M') : Mid x (j + 1) M' := by
  have hj := (List.getElem?_eq_some_iff.1 hc).1
  rcases h with h | h
  · refine .inl ⟨by omega, ?_⟩
    rw [h.2, drop_get hc]
    conv => lhs; unfold cachesL
    rw [if_neg hl, hs]
    rfl
  · omega
theorem Mid.last {x : Sl} {M : List Bool} (h : Mid x x.C.length M) : cachesL (freeL x) x.C = some M := by
  rcases h with h | h
  · rw [h.2, List.drop_length]
    rfl
  · omega
theorem Mid.freeNo {x : Sl} {M : List Bool} (h : Mid x x.C.length M) (hs : strikeL M x.F = none) : listsB x = false := by
  unfold listsB
  rw [h.last]
  show ((strikeL M x.F).map (fun M' => !(M'.any id))).getD false = false
  rw [hs]
  rfl
theorem Mid.freeYes {x : Sl} {M M' : List Bool} (h : Mid x x.C.length M) (hs : strikeL M x.F = some M') : Mid x (x.C.length + 1) M' := by
  refine .inr ⟨rfl, ?_⟩
  unfold listsB
  rw [h.last]
  show ((strikeL M x.F).map (fun M' => !(M'.any id))).getD false = _
  rw [hs]
  rfl
theorem Mid.any {x : Sl} {M : List Bool} (h : Mid x (x.C.length + 1) M) : listsB x = !(M.any id) := by
  rcases h with h | h
  · omega
  · exact h.2

/-- the number that Load answers of lists -/
def loadE (x : Sl) : Int := if listsB x then 0 else 40
theorem loadE_no {x : Sl} (h : listsB x = false) : loadE x = 40 := by unfold loadE; rw [h]; rfl
theorem loadE_yes {x : Sl} (h : listsB x = true) : loadE x = 0 := by unfold loadE; rw [h]; rfl

set_option maxRecDepth 100000 in
set_option maxHeartbeats 16000000 in
theorem rload_lists (P : Nat → Prop) (L : Int) (vg va vc vf : Value) (cv : List Value) (x : Sl) (w : World) (h : Given P w vg va vc vf cv x) (hS : Sized L (x.C.length : Nat)) (hb : slotsB L x = true) :
    Calls Try.prog 18 #[.agg #[.int .i64 L, vg, va, vc, vf]] w fun e w' => e = .returned (.int .i64 (loadE x)) ∧ Ch NoB w w' := by
  have hL2 : L ≤ 4096 := hS.1.2
  have hC64 : x.C.length ≤ 64 := by have := hS.2.2; omega
  have HG := hid h
  obtain ⟨ga, gc, rfl⟩ := h.r.g.form
  obtain ⟨aa, ac, rfl⟩ := h.r.a.form
  obtain ⟨ca, cc, rfl⟩ := h.r.c.form
  obtain ⟨fa, fc, rfl⟩ := h.r.f.form
  obtain ⟨nG, hnG⟩ : ∃ n, n = (iv x.G).length := ⟨_, rfl⟩
  obtain ⟨nC, hnC⟩ : ∃ n, n = cv.length := ⟨_, rfl⟩
  obtain ⟨nF, hnF⟩ : ∃ n, n = (iv x.F).length := ⟨_, rfl⟩
  have hb' := hb
  simp only [slotsB, Bool.and_eq_true, decide_eq_true_eq, Bool.not_eq_true'] at hb'
  obtain ⟨s1, s2, s3⟩ := hb'
  have hnA : (bv x.A).length = nG := by rw [hnG, bv_length, iv_length, s2]
  have hnc : nC = x.C.length := by rw [hnC]; exact h.r.e.1
  rw [← hnG, ← hnC, ← hnF, hnA] at HG
  rw [← hnG, ← hnC, ← hnF, hnA]
  rw [← hnc] at hS hC64
  have h1 : (nG : Int) ≤ L := by rw [hnG, iv_length]; exact s1
  have HSz := hid hS
  have HN := hid (show nG = x.G.length by rw [hnG, iv_length])
  have HCL := hid hnc
  have HNF := hid (show nF = x.F.length by rw [hnF, iv_length])
  have hFb : nF ≤ 140737488355328 := by rw [HNF.out]; exact h.f
  have HAG := hid s2
  have HBad := hid s3
  obtain ⟨W0, hW0⟩ : ∃ W, W = w.alloc (.cells #[.int .i64 L, .slice ga nG gc, .slice aa nG ac, .slice ca nC cc, .slice fa nF fc] 45) := ⟨_, rfl⟩
  have g0 : Ch NoB w W0 := by rw [hW0]; exact (Ch.refl _ _).alloc _
  have f0 : Fv 45 W0 w.heap.size (.int .i64 L) (.slice ga nG gc) (.slice aa nG ac) (.slice ca nC cc) (.slice fa nF fc) := by rw [hW0]; exact Fv.new _ w _ _ _ _ _
  have HF0 := hid f0
  have HG0 := hid g0
  clear h hS hb s1 s2 s3 hnG hnA hnC hnF hnc f0 g0
  obtain ⟨i0, hi, hz0, hz1, hz2⟩ := info_parts1 int_info
  have dd1 : decide (L < (nG : Int)) = false := decide_eq_false (by omega)
  go_enter Try.func18, Try.ntmps18
  go_wp2_with fail
  rw [← hW0]
  refine (rnew_good L nC _ HSz.out).mono ?_
  rintro e w1 ⟨uv, rfl, ou, g1⟩
  obtain ⟨ua, uq, rfl⟩ := ou.form
  rw [List.length_replicate]
  clear ou
  obtain ⟨W1, hW1⟩ : ∃ W, W = w1.alloc (.cells #[.int .i64 L, .slice none 0 0, .slice none 0 0, .slice ua nC uq, .slice none 0 0] 45) := ⟨_, rfl⟩
  have g1' : Ch NoB W0 W1 := by rw [hW1]; exact g1.alloc _
  obtain ⟨c0, c1, c2, c3, c4⟩ := (HF0.out.ch g1 (noB _)).cells
  have HF1 := hid (HF0.out.ch g1' (noB _))
  obtain ⟨d0, d1, d2, d3, d4⟩ := HF1.out.cells
  have l0 := (HF0.out.ch g1 (noB _)).lt
  have HG1 := hid (HG0.out.trans' g1')
  have HR1 := hid (HG.out.ch HG1.out).r
  have HP1 := hid (HG.out.ch HG1.out).p
  have lb0 : w.heap.size < W1.heap.size := HF1.out.lt
  clear g1 g1' hW0
  go_wp2_with fail
  rw [← hW1]
  clear c0 c1 c2 c3 c4 hW1 l0
  go_loopg [5] nG (fun k i wr => ∃ j : Nat, j + k = nG ∧ i = .int .i64 ((j : Nat) : Int) ∧ W1 = wr)
  case atStart => exact ⟨0, by omega, rfl, rfl⟩
  case round =>
    obtain ⟨j, hjk, rfl, rfl⟩ := hrel
    by_cases hj : j < nG
    · obtain ⟨z, hz⟩ : ∃ z, x.G[j]? = some z := ⟨_, List.getElem?_eq_getElem (by rw [← HN.out]; exact hj)⟩
      obtain ⟨g, o, rfl, -, -, -, t0⟩ := HR1.out.g.get1 (iv_get hz)
      have j0 : (0 : Int) ≤ (j : Int) := by omega
      have j1 : (j : Int) < (nG : Int) := by omega
      have hzb := List.any_eq_false.1 HBad.out z (List.mem_of_getElem? hz)
      simp only [badG, decide_eq_true_eq] at hzb
      have k1 : decide (z < 1) = false := decide_eq_false (by omega)
      have k2 : decide (2147483647 < z) = false := decide_eq_false (by omega)
      clear hz hzb
      go_wp2
      go_roundg (gk - 1)
      case measure => omega
      case rel => exact ⟨j + 1, by omega, by simp, rfl⟩
    · go_wp2_with (first | (at_make; refine wpList_make_full _ rfl _ _ 41 rfl W1.heap.size 3 i0 _ 1 Try.underlying41 hi hz0 hz1 _ _ _ _ nG rfl rfl (by omega) (by omega) (by rw [hz2]; omega) (by unfold maxLen; omega) (by simp) ?_; intro w2 hown hgrow; have hg2 := (Ch.refl NoB W1).grown hgrow (fun k hk => by cases hk)))
      have ho : Ow 3 W1.heap.size w2 (.slice (some ⟨W1.heap.size, 0, none⟩) nG nG) (iv (List.replicate nG 0)) := by
        have h2 := toList_madeCells_one (.int .i64 0) nG
        rw [Nat.mul_one] at hown
        have e1 : iv (List.replicate nG 0) = List.replicate nG (.int .i64 0) := by simp [iv]
        unfold Ow
        rw [e1, List.length_replicate, ← h2]
        exact hown
      obtain ⟨bx, hbx⟩ : ∃ b, b = W1.heap.size := ⟨_, rfl⟩
      have hgb : Ch (Blk (.slice (some ⟨bx, 0, none⟩) nG nG)) W1 w2 := hg2.any
      rw [← hbx] at ho lb0 HP1 ⊢
      have HO := hid ho
      have HB := hid hgb
      have HBX := hid hbx
      clear hown hgrow hg2 ho hgb hbx hi hz0 hz1 hz2 d0 d1 d2 d3 d4
      have nbx : ∀ q, q < bx → ¬ Blk (.slice (some ⟨bx, 0, none⟩) nG nG) q := fun q a e => by
        have e1 : some bx = some q := e
        injection e1 with e1
        omega
      have HNB := hid nbx
      have nb0 := nbx _ lb0
      clear nbx
      have fr : ∀ (wz : World), Ch (Blk (.slice (some ⟨bx, 0, none⟩) nG nG)) W1 wz → Ch NoB w wz := fun wz k => HG1.out.trans k (fun q e => by
        have e1 : some bx = some q := e
        injection e1 with e1
        have := HBX.out
        have := HG1.out.size
        exact .inr (by omega))
      have HFr := hid fr
      have pd : ∀ q, P q → ¬ Blk (.slice (some ⟨bx, 0, none⟩) nG nG) q := fun q a => HNB.out q (HP1.out q a)
      have HPD := hid pd
      clear fr pd
      go_wp2_with fail
      go_loopg [7] (nC + 1) (fun k i wv => ∃ (j2 : Nat) (M : List Bool) (T : List Int), j2 + k = nC + 1 ∧ i = .int .i64 ((j2 : Nat) : Int) ∧ Rel x M T ∧ Mid x j2 M ∧ Ow 3 bx wv (.slice (some ⟨bx, 0, none⟩) nG nG) (iv T) ∧ Ch (Blk (.slice (some ⟨bx, 0, none⟩) nG nG)) W1 wv)
      case atStart => exact ⟨0, _, _, by omega, rfl, Rel.start HAG.out, .inl ⟨Nat.zero_le _, rfl⟩, by rw [← HN.out]; exact HO.out, HB.out⟩
      case round =>
        obtain ⟨j2, M, T, hjk2, rfl, hrl, hmid, ho2, hg2⟩ := hrel
        obtain ⟨V, hV⟩ : ∃ W, W = wr := ⟨_, rfl⟩
        subst hV
        obtain ⟨K1, hK1⟩ : ∃ k, k = gk := ⟨_, rfl⟩
        obtain ⟨c0, c1, c2, c3, c4⟩ := (HF1.out.ch hg2 nb0).cells
        have HRL := hid hrl
        have HM := hid hmid
        have HO2 := hid ho2
        have HG2 := hid hg2
        have HR2 := hid (HR1.out.ch hg2 (fun q _ a => HPD.out q a))
        clear hrl hmid ho2 hg2
        have j20 : (0 : Int) ≤ (j2 : Int) := by omega
        by_cases hj2 : j2 < nC
        · obtain ⟨c, hc⟩ : ∃ c, x.C[j2]? = some c := ⟨_, List.getElem?_eq_getElem (by rw [← HCL.out]; exact hj2)⟩
          obtain ⟨u, hu⟩ : ∃ u, cv[j2]? = some u := ⟨_, List.getElem?_eq_getElem (by rw [HR2.out.e.1, ← HCL.out]; exact hj2)⟩
          have lsu := HR2.out.e.2 j2 u c hu hc
          obtain ⟨la, lc, rfl⟩ := lsu.form
          obtain ⟨nU, hnU⟩ : ∃ n, n = (iv c).length := ⟨_, rfl⟩
          rw [← hnU] at lsu hu
          have hnc : nU = c.length := by rw [hnU, iv_length]
          obtain ⟨g1, o1, rfl, -, -, -, t1⟩ := HR2.out.c.get1 hu
          have j21 : (j2 : Int) < (nC : Int) := by omega
          have dle : j2 ≤ nC := by omega
          have dp : decide (j2 ≤ nC) = true := decide_eq_true dle
          have dp2 : decide ((j2 : Int) ≤ (nC : Int)) = true := decide_eq_true (by omega)
          have HU := hid lsu
          have HNU := hid hnc
          have hub : nU ≤ 140737488355328 := by rw [hnc]; exact HG.out.c j2 c hc
          have HC := hid hc
          clear hc hu lsu hnU hnc
          by_cases h64 : 64 ≤ nU
          · have dd : decide ((64 : Int) ≤ (nU : Int)) = true := decide_eq_true (by omega)
            go_wp2
            go_ret
            exact ⟨by rw [loadE_no (HM.out.long HC.out (by rw [← HNU.out]; exact h64))]; rfl, HFr.out _ HG2.out⟩
          · have dd : decide ((64 : Int) ≤ (nU : Int)) = false := decide_eq_false (by omega)
            have HNo := hid (fun hs => HM.out.cacheNo HC.out hs : strikeL M c = none → listsB x = false)
            have HYes := hid (fun M' hs => HM.out.cacheYes HC.out (by rw [← HNU.out]; exact h64) hs : ∀ M', strikeL M c = some M' → Mid x (j2 + 1) M')
            have hk2 : j2 + 1 + (K1 - 1) = nC + 1 := by omega
            go_wp2_with fail
            go_loopg [9] nU (fun k i wv => ∃ (j3 : Nat) (M3 : List Bool) (T3 : List Int), j3 + k = nU ∧ i = .int .i64 ((j3 : Nat) : Int) ∧ Rel x M3 T3 ∧ strikeL M c = strikeL M3 (c.drop j3) ∧ Ow 3 bx wv (.slice (some ⟨bx, 0, none⟩) nG nG) (iv T3) ∧ Ch (Blk (.slice (some ⟨bx, 0, none⟩) nG nG)) W1 wv ∧ Ch (Blk (.slice (some ⟨bx, 0, none⟩) nG nG)) V wv)
            case atStart => exact ⟨0, M, T, by omega, rfl, HRL.out, rfl, HO2.out, HG2.out, Ch.refl _ _⟩
            case round =>
              obtain ⟨j3, M3, T3, hjk3, rfl, hrl3, hst3, ho3, hg3, hv3⟩ := hrel
              obtain ⟨U, hU⟩ : ∃ W, W = wr := ⟨_, rfl⟩
              subst hU
              obtain ⟨c0, c1, c2, c3, c4⟩ := (HF1.out.ch hg3 nb0).cells
              have ub := (HF1.out.ch hg3 nb0).lt
              have HRL3 := hid hrl3
              have HST3 := hid hst3
              have HO3 := hid ho3
              have HG3 := hid hg3
              have HR3 := hid (HR1.out.ch hg3 (fun q _ a => HPD.out q a))
              have HU3 := hid (HU.out.ch hv3 (fun q _ a => HPD.out q a))
              have HV3 := hid hv3
              clear hrl3 hst3 ho3 hg3 hv3
              by_cases hj3 : j3 < nU
              · obtain ⟨z, hz⟩ : ∃ z, c[j3]? = some z := ⟨_, List.getElem?_eq_getElem (by rw [← HNU.out]; exact hj3)⟩
                obtain ⟨g2, o2, rfl, -, gl2, -, t2⟩ := HU3.out.get1 (iv_get hz)
                have j30 : (0 : Int) ≤ (j3 : Int) := by omega
                have j31 : (j3 : Int) < (nU : Int) := by omega
                have HD := hid (drop_get hz)
                clear hz
                cases hf : freeB x z with
                | false =>
                  have HNone := hid (HNo.out (by rw [HST3.out, HD.out]; exact HRL3.out.bad hf _))
                  have HFB := hid hf
                  clear hf
                  go_wp2_with fail
                  refine wp_region_any (by kernel_rfl) ?_
                  change wpAny _ _ _ _ _ _ _ (World.drew _)
                  refine take_on (i := 1) 93 (v := ?v1) rfl rfl (by kernel_rfl) (by kernel_rfl) (by kernel_rfl) (fun _ _ _ h => h) (by kernel_rfl) ?hy1 ?_
                  case hy1 => (intro w; go_simp; try (with_reducible rfl))
                  simp only [Act.put, List.setIfInBounds_toArray, List.set_cons_zero, List.set_cons_succ]
                  refine take_on (i := 2) 94 (v := ?v2) rfl rfl (by kernel_rfl) (by kernel_rfl) (by kernel_rfl) (fun _ _ _ h => h) (by kernel_rfl) ?hy2 ?_
                  case hy2 => (intro w; go_simp; try (with_reducible rfl))
                  simp only [Act.put, List.setIfInBounds_toArray, List.set_cons_zero, List.set_cons_succ]
                  refine take_on (i := 3) 95 (v := ?v3) rfl rfl (by kernel_rfl) (by kernel_rfl) (by kernel_rfl) (fun _ _ _ h => h) (by kernel_rfl) ?hy3 ?_
                  case hy3 => (intro w; go_simp; try (with_reducible rfl))
                  simp only [Act.put, List.setIfInBounds_toArray, List.set_cons_zero, List.set_cons_succ]
                  refine wpAny_ready (rs := [0, 4]) (by kernel_rfl) (by simp) (AllReady.cons rfl (fun K hK => ?_) (AllReady.cons rfl (fun K hK => ?_) AllReady.nil))
                  · go_simp
                    refine hK _ _ ?_
                    clear hK K
                    refine wpAny_ready (rs := [4]) (by kernel_rfl) (by simp) (AllReady.cons rfl (fun K hK => ?_) AllReady.nil)
                    go_simp
                    refine hK _ _ ?_
                    clear hK K
                    refine wpAny_ready (rs := [5]) (by kernel_rfl) (by simp) (AllReady.cons rfl (fun K hK => ?_) AllReady.nil)
                    go_simp
                    refine (rfree_any P L _ _ _ _ _ cv x _ (HR3.out.ch ((Ch.refl NoB _).drew) (fun _ _ _ => noB _)) HAG.out).mono ?_
                    rintro e w5 ⟨rfl, g5⟩
                    rw [HFB.out]
                    have HG5 := hid (HG3.out.trans' (((Ch.refl NoB U).drew).trans' g5).any)
                    clear g5
                    go_wp2_with fail
                    refine take_on (i := 6) 98 (v := ?v4) rfl rfl (by kernel_rfl) (by kernel_rfl) (by kernel_rfl) (fun _ _ _ h => h) (by kernel_rfl) ?hy4 ?_
                    case hy4 => (intro w; go_simp; try (with_reducible rfl))
                    simp only [Act.put, List.setIfInBounds_toArray, List.set_cons_zero, List.set_cons_succ]
                    refine take_on (i := 7) 99 (v := ?v5) rfl rfl (by kernel_rfl) (by kernel_rfl) (by kernel_rfl) (fun _ _ _ h => h) (by kernel_rfl) ?hy5 ?_
                    case hy5 => (intro w; go_simp; try (with_reducible rfl))
                    simp only [Act.put, List.setIfInBounds_toArray, List.set_cons_zero, List.set_cons_succ]
                    refine skip_on (i := 8) 100 rfl rfl (by kernel_rfl) (by kernel_rfl) (by kernel_rfl) (fun _ _ _ h => h) (by kernel_rfl) ?_
                    simp only [Act.put, List.setIfInBounds_toArray, List.set_cons_zero, List.set_cons_succ]
                    refine skip_on (i := 9) 101 rfl rfl (by kernel_rfl) (by kernel_rfl) (by kernel_rfl) (fun _ _ _ h => h) (by kernel_rfl) ?_
                    simp only [Act.put, List.setIfInBounds_toArray, List.set_cons_zero, List.set_cons_succ]
                    refine skip_on (i := 10) 102 rfl rfl (by kernel_rfl) (by kernel_rfl) (by kernel_rfl) (fun _ _ _ h => h) (by kernel_rfl) ?_
                    simp only [Act.put, List.setIfInBounds_toArray, List.set_cons_zero, List.set_cons_succ]
                    refine skip_on (i := 11) 103 rfl rfl (by kernel_rfl) (by kernel_rfl) (by kernel_rfl) (fun _ _ _ h => h) (by kernel_rfl) ?_
                    simp only [Act.put, List.setIfInBounds_toArray, List.set_cons_zero, List.set_cons_succ]
                    refine skip_on (i := 12) 104 rfl rfl (by kernel_rfl) (by kernel_rfl) (by kernel_rfl) (fun _ _ _ h => h) (by kernel_rfl) ?_
                    simp only [Act.put, List.setIfInBounds_toArray, List.set_cons_zero, List.set_cons_succ]
                    refine skip_on (i := 13) 105 rfl rfl (by kernel_rfl) (by kernel_rfl) (by kernel_rfl) (fun _ _ _ h => h) (by kernel_rfl) ?_
                    simp only [Act.put, List.setIfInBounds_toArray, List.set_cons_zero, List.set_cons_succ]
                    refine skip_on (i := 14) 106 rfl rfl (by kernel_rfl) (by kernel_rfl) (by kernel_rfl) (fun _ _ _ h => h) (by kernel_rfl) ?_
                    simp only [Act.put, List.setIfInBounds_toArray, List.set_cons_zero, List.set_cons_succ]
                    refine skip_on (i := 15) 107 rfl rfl (by kernel_rfl) (by kernel_rfl) (by kernel_rfl) (fun _ _ _ h => h) (by kernel_rfl) ?_
                    simp only [Act.put, List.setIfInBounds_toArray, List.set_cons_zero, List.set_cons_succ]
                    refine take_on (i := 16) 108 (v := ?v14) rfl rfl (by kernel_rfl) (by kernel_rfl) (by kernel_rfl) (fun _ _ _ h => h) (by kernel_rfl) ?hy14 ?_
                    case hy14 => (intro w; go_simp; try (with_reducible rfl))
                    simp only [Act.put, List.setIfInBounds_toArray, List.set_cons_zero, List.set_cons_succ]
                    refine wpAny_done (by kernel_rfl) ?_ _
                    go_wp2
                    go_ret
                    exact ⟨by rw [loadE_no HNone.out]; rfl, HFr.out _ HG5.out⟩
                  · go_simp
                    refine hK _ _ ?_
                    clear hK K
                    refine wpAny_ready (rs := [0]) (by kernel_rfl) (by simp) (AllReady.cons rfl (fun K hK => ?_) AllReady.nil)
                    go_simp
                    refine hK _ _ ?_
                    clear hK K
                    refine wpAny_ready (rs := [5]) (by kernel_rfl) (by simp) (AllReady.cons rfl (fun K hK => ?_) AllReady.nil)
                    go_simp
                    refine (rfree_any P L _ _ _ _ _ cv x _ (HR3.out.ch ((Ch.refl NoB _).drew) (fun _ _ _ => noB _)) HAG.out).mono ?_
                    rintro e w5 ⟨rfl, g5⟩
                    rw [HFB.out]
                    have HG5 := hid (HG3.out.trans' (((Ch.refl NoB U).drew).trans' g5).any)
                    clear g5
                    go_wp2_with fail
                    refine take_on (i := 6) 98 (v := ?v15) rfl rfl (by kernel_rfl) (by kernel_rfl) (by kernel_rfl) (fun _ _ _ h => h) (by kernel_rfl) ?hy15 ?_
                    case hy15 => (intro w; go_simp; try (with_reducible rfl))
                    simp only [Act.put, List.setIfInBounds_toArray, List.set_cons_zero, List.set_cons_succ]
                    refine take_on (i := 7) 99 (v := ?v16) rfl rfl (by kernel_rfl) (by kernel_rfl) (by kernel_rfl) (fun _ _ _ h => h) (by kernel_rfl) ?hy16 ?_
                    case hy16 => (intro w; go_simp; try (with_reducible rfl))
                    simp only [Act.put, List.setIfInBounds_toArray, List.set_cons_zero, List.set_cons_succ]
                    refine skip_on (i := 8) 100 rfl rfl (by kernel_rfl) (by kernel_rfl) (by kernel_rfl) (fun _ _ _ h => h) (by kernel_rfl) ?_
                    simp only [Act.put, List.setIfInBounds_toArray, List.set_cons_zero, List.set_cons_succ]
                    refine skip_on (i := 9) 101 rfl rfl (by kernel_rfl) (by kernel_rfl) (by kernel_rfl) (fun _ _ _ h => h) (by kernel_rfl) ?_
                    simp only [Act.put, List.setIfInBounds_toArray, List.set_cons_zero, List.set_cons_succ]
                    refine skip_on (i := 10) 102 rfl rfl (by kernel_rfl) (by kernel_rfl) (by kernel_rfl) (fun _ _ _ h => h) (by kernel_rfl) ?_
                    simp only [Act.put, List.setIfInBounds_toArray, List.set_cons_zero, List.set_cons_succ]
                    refine skip_on (i := 11) 103 rfl rfl (by kernel_rfl) (by kernel_rfl) (by kernel_rfl) (fun _ _ _ h => h) (by kernel_rfl) ?_
                    simp only [Act.put, List.setIfInBounds_toArray, List.set_cons_zero, List.set_cons_succ]
                    refine skip_on (i := 12) 104 rfl rfl (by kernel_rfl) (by kernel_rfl) (by kernel_rfl) (fun _ _ _ h => h) (by kernel_rfl) ?_
                    simp only [Act.put, List.setIfInBounds_toArray, List.set_cons_zero, List.set_cons_succ]
                    refine skip_on (i := 13) 105 rfl rfl (by kernel_rfl) (by kernel_rfl) (by kernel_rfl) (fun _ _ _ h => h) (by kernel_rfl) ?_
                    simp only [Act.put, List.setIfInBounds_toArray, List.set_cons_zero, List.set_cons_succ]
                    refine skip_on (i := 14) 106 rfl rfl (by kernel_rfl) (by kernel_rfl) (by kernel_rfl) (fun _ _ _ h => h) (by kernel_rfl) ?_
                    simp only [Act.put, List.setIfInBounds_toArray, List.set_cons_zero, List.set_cons_succ]
                    refine skip_on (i := 15) 107 rfl rfl (by kernel_rfl) (by kernel_rfl) (by kernel_rfl) (fun _ _ _ h => h) (by kernel_rfl) ?_
                    simp only [Act.put, List.setIfInBounds_toArray, List.set_cons_zero, List.set_cons_succ]
                    refine take_on (i := 16) 108 (v := ?v25) rfl rfl (by kernel_rfl) (by kernel_rfl) (by kernel_rfl) (fun _ _ _ h => h) (by kernel_rfl) ?hy25 ?_
                    case hy25 => (intro w; go_simp; try (with_reducible rfl))
                    simp only [Act.put, List.setIfInBounds_toArray, List.set_cons_zero, List.set_cons_succ]
                    refine wpAny_done (by kernel_rfl) ?_ _
                    go_wp2
                    go_ret
                    exact ⟨by rw [loadE_no HNone.out]; rfl, HFr.out _ HG5.out⟩
                | true =>
                  obtain ⟨k, rfl, hk⟩ := freeB_true hf
                  have hkn : k < nG := by
                    have := (List.getElem?_eq_some_iff.1 hk).1
                    rw [freeL_len HAG.out, ← HN.out] at this
                    exact this
                  obtain ⟨t, ht⟩ : ∃ t, T3[k]? = some t := ⟨_, List.getElem?_eq_getElem (by rw [HRL3.out.tl, ← HN.out]; exact hkn)⟩
                  have htn := HRL3.out.tn k t ht
                  obtain ⟨g3, cap3, e3, -, gl3, -, y0, yf, yset⟩ := HO3.out.get (iv_get ht)
                  injection e3 with a1 a2 a3
                  injection a1 with a1
                  injection a1 with a1 a4 a5
                  subst a1
                  clear a2 a3 a4 a5
                  have k0 : (0 : Int) ≤ (k : Int) := by omega
                  have k1 : (k : Int) < (nG : Int) := by omega
                  have HFB := hid hf
                  clear hf
                  by_cases ht0 : 0 < t
                  · have dt : decide (0 < t) = true := decide_eq_true ht0
                    have HNone := hid (HNo.out (by rw [HST3.out, HD.out]; exact HRL3.out.twice ht ht0 _))
                    clear hk ht yset
                    go_wp2_with fail
                    refine wp_region_any (by kernel_rfl) ?_
                    change wpAny _ _ _ _ _ _ _ (World.drew _)
                    refine take_on (i := 1) 93 (v := ?v26) rfl rfl (by kernel_rfl) (by kernel_rfl) (by kernel_rfl) (fun _ _ _ h => h) (by kernel_rfl) ?hy26 ?_
                    case hy26 => (intro w; go_simp; try (with_reducible rfl))
                    simp only [Act.put, List.setIfInBounds_toArray, List.set_cons_zero, List.set_cons_succ]
                    refine take_on (i := 2) 94 (v := ?v27) rfl rfl (by kernel_rfl) (by kernel_rfl) (by kernel_rfl) (fun _ _ _ h => h) (by kernel_rfl) ?hy27 ?_
                    case hy27 => (intro w; go_simp; try (with_reducible rfl))
                    simp only [Act.put, List.setIfInBounds_toArray, List.set_cons_zero, List.set_cons_succ]
                    refine take_on (i := 3) 95 (v := ?v28) rfl rfl (by kernel_rfl) (by kernel_rfl) (by kernel_rfl) (fun _ _ _ h => h) (by kernel_rfl) ?hy28 ?_
                    case hy28 => (intro w; go_simp; try (with_reducible rfl))
                    simp only [Act.put, List.setIfInBounds_toArray, List.set_cons_zero, List.set_cons_succ]
                    refine wpAny_ready (rs := [0, 4]) (by kernel_rfl) (by simp) (AllReady.cons rfl (fun K hK => ?_) (AllReady.cons rfl (fun K hK => ?_) AllReady.nil))
                    · go_simp
                      refine hK _ _ ?_
                      clear hK K
                      refine wpAny_ready (rs := [4]) (by kernel_rfl) (by simp) (AllReady.cons rfl (fun K hK => ?_) AllReady.nil)
                      go_simp
                      refine hK _ _ ?_
                      clear hK K
                      refine wpAny_ready (rs := [5]) (by kernel_rfl) (by simp) (AllReady.cons rfl (fun K hK => ?_) AllReady.nil)
                      go_simp
                      refine (rfree_any P L _ _ _ _ _ cv x _ (HR3.out.ch ((Ch.refl NoB _).drew) (fun _ _ _ => noB _)) HAG.out).mono ?_
                      rintro e w5 ⟨rfl, g5⟩
                      rw [HFB.out]
                      have g5' := ((Ch.refl NoB U).drew).trans' g5
                      have t5 := (g5'.cell (o := o2 + j3) gl2 (noB _)).trans t2
                      have HG5 := hid (HG3.out.trans' g5'.any)
                      have y5 := (g5'.cell (o := k) gl3 (noB _)).trans y0
                      clear g5 g5'
                      go_wp2_with fail
                      refine held_here ?_
                      refine takeW_on (i := 6) 98 (v := ?v29) rfl rfl (by kernel_rfl) (by kernel_rfl) (by kernel_rfl) (fun _ _ _ h => h) (by kernel_rfl) ?hy29 ?_
                      case hy29 => (go_simp; try (with_reducible rfl))
                      simp only [Act.put, List.setIfInBounds_toArray, List.set_cons_zero, List.set_cons_succ]
                      refine takeW_on (i := 7) 99 (v := ?v30) rfl rfl (by kernel_rfl) (by kernel_rfl) (by kernel_rfl) (fun _ _ _ h => h) (by kernel_rfl) ?hy30 ?_
                      case hy30 => (go_simp; try (with_reducible rfl))
                      simp only [Act.put, List.setIfInBounds_toArray, List.set_cons_zero, List.set_cons_succ]
                      refine takeW_on (i := 8) 100 (v := ?v31) rfl rfl (by kernel_rfl) (by kernel_rfl) (by kernel_rfl) (fun _ _ _ h => h) (by kernel_rfl) ?hy31 ?_
                      case hy31 => (go_simp; try (with_reducible rfl))
                      simp only [Act.put, List.setIfInBounds_toArray, List.set_cons_zero, List.set_cons_succ]
                      refine takeW_on (i := 9) 101 (v := ?v32) rfl rfl (by kernel_rfl) (by kernel_rfl) (by kernel_rfl) (fun _ _ _ h => h) (by kernel_rfl) ?hy32 ?_
                      case hy32 => (go_simp; try (with_reducible rfl))
                      simp only [Act.put, List.setIfInBounds_toArray, List.set_cons_zero, List.set_cons_succ]
                      refine takeW_on (i := 10) 102 (v := ?v33) rfl rfl (by kernel_rfl) (by kernel_rfl) (by kernel_rfl) (fun _ _ _ h => h) (by kernel_rfl) ?hy33 ?_
                      case hy33 => (go_simp; try (with_reducible rfl))
                      simp only [Act.put, List.setIfInBounds_toArray, List.set_cons_zero, List.set_cons_succ]
                      refine takeW_on (i := 11) 103 (v := ?v34) rfl rfl (by kernel_rfl) (by kernel_rfl) (by kernel_rfl) (fun _ _ _ h => h) (by kernel_rfl) ?hy34 ?_
                      case hy34 => (go_simp; try (with_reducible rfl))
                      simp only [Act.put, List.setIfInBounds_toArray, List.set_cons_zero, List.set_cons_succ]
                      refine takeW_on (i := 12) 104 (v := ?v35) rfl rfl (by kernel_rfl) (by kernel_rfl) (by kernel_rfl) (fun _ _ _ h => h) (by kernel_rfl) ?hy35 ?_
                      case hy35 => (go_simp; try (with_reducible rfl))
                      simp only [Act.put, List.setIfInBounds_toArray, List.set_cons_zero, List.set_cons_succ]
                      refine takeW_on (i := 13) 105 (v := ?v36) rfl rfl (by kernel_rfl) (by kernel_rfl) (by kernel_rfl) (fun _ _ _ h => h) (by kernel_rfl) ?hy36 ?_
                      case hy36 => (go_simp; try (with_reducible rfl))
                      simp only [Act.put, List.setIfInBounds_toArray, List.set_cons_zero, List.set_cons_succ]
                      refine takeW_on (i := 14) 106 (v := ?v37) rfl rfl (by kernel_rfl) (by kernel_rfl) (by kernel_rfl) (fun _ _ _ h => h) (by kernel_rfl) ?hy37 ?_
                      case hy37 => (go_simp; try (with_reducible rfl))
                      simp only [Act.put, List.setIfInBounds_toArray, List.set_cons_zero, List.set_cons_succ]
                      refine takeW_on (i := 15) 107 (v := ?v38) rfl rfl (by kernel_rfl) (by kernel_rfl) (by kernel_rfl) (fun _ _ _ h => h) (by kernel_rfl) ?hy38 ?_
                      case hy38 => (go_simp; try (with_reducible rfl))
                      simp only [Act.put, List.setIfInBounds_toArray, List.set_cons_zero, List.set_cons_succ]
                      refine takeW_on (i := 16) 108 (v := ?v39) rfl rfl (by kernel_rfl) (by kernel_rfl) (by kernel_rfl) (fun _ _ _ h => h) (by kernel_rfl) ?hy39 ?_
                      case hy39 => (go_simp; try (with_reducible rfl))
                      simp only [Act.put, List.setIfInBounds_toArray, List.set_cons_zero, List.set_cons_succ]
                      refine wpAnyH_done (by kernel_rfl) ?_ _
                      go_wp2
                      go_ret
                      exact ⟨by rw [loadE_no HNone.out]; rfl, HFr.out _ HG5.out⟩
                    · go_simp
                      refine hK _ _ ?_
                      clear hK K
                      refine wpAny_ready (rs := [0]) (by kernel_rfl) (by simp) (AllReady.cons rfl (fun K hK => ?_) AllReady.nil)
                      go_simp
                      refine hK _ _ ?_
                      clear hK K
                      refine wpAny_ready (rs := [5]) (by kernel_rfl) (by simp) (AllReady.cons rfl (fun K hK => ?_) AllReady.nil)
                      go_simp
                      refine (rfree_any P L _ _ _ _ _ cv x _ (HR3.out.ch ((Ch.refl NoB _).drew) (fun _ _ _ => noB _)) HAG.out).mono ?_
                      rintro e w5 ⟨rfl, g5⟩
                      rw [HFB.out]
                      have g5' := ((Ch.refl NoB U).drew).trans' g5
                      have t5 := (g5'.cell (o := o2 + j3) gl2 (noB _)).trans t2
                      have HG5 := hid (HG3.out.trans' g5'.any)
                      have y5 := (g5'.cell (o := k) gl3 (noB _)).trans y0
                      clear g5 g5'
                      go_wp2_with fail
                      refine held_here ?_
                      refine takeW_on (i := 6) 98 (v := ?v40) rfl rfl (by kernel_rfl) (by kernel_rfl) (by kernel_rfl) (fun _ _ _ h => h) (by kernel_rfl) ?hy40 ?_
                      case hy40 => (go_simp; try (with_reducible rfl))
                      simp only [Act.put, List.setIfInBounds_toArray, List.set_cons_zero, List.set_cons_succ]
                      refine takeW_on (i := 7) 99 (v := ?v41) rfl rfl (by kernel_rfl) (by kernel_rfl) (by kernel_rfl) (fun _ _ _ h => h) (by kernel_rfl) ?hy41 ?_
                      case hy41 => (go_simp; try (with_reducible rfl))
                      simp only [Act.put, List.setIfInBounds_toArray, List.set_cons_zero, List.set_cons_succ]
                      refine takeW_on (i := 8) 100 (v := ?v42) rfl rfl (by kernel_rfl) (by kernel_rfl) (by kernel_rfl) (fun _ _ _ h => h) (by kernel_rfl) ?hy42 ?_
                      case hy42 => (go_simp; try (with_reducible rfl))
                      simp only [Act.put, List.setIfInBounds_toArray, List.set_cons_zero, List.set_cons_succ]
                      refine takeW_on (i := 9) 101 (v := ?v43) rfl rfl (by kernel_rfl) (by kernel_rfl) (by kernel_rfl) (fun _ _ _ h => h) (by kernel_rfl) ?hy43 ?_
                      case hy43 => (go_simp; try (with_reducible rfl))
                      simp only [Act.put, List.setIfInBounds_toArray, List.set_cons_zero, List.set_cons_succ]
                      refine takeW_on (i := 10) 102 (v := ?v44) rfl rfl (by kernel_rfl) (by kernel_rfl) (by kernel_rfl) (fun _ _ _ h => h) (by kernel_rfl) ?hy44 ?_
                      case hy44 => (go_simp; try (with_reducible rfl))
                      simp only [Act.put, List.setIfInBounds_toArray, List.set_cons_zero, List.set_cons_succ]
                      refine takeW_on (i := 11) 103 (v := ?v45) rfl rfl (by kernel_rfl) (by kernel_rfl) (by kernel_rfl) (fun _ _ _ h => h) (by kernel_rfl) ?hy45 ?_
                      case hy45 => (go_simp; try (with_reducible rfl))
                      simp only [Act.put, List.setIfInBounds_toArray, List.set_cons_zero, List.set_cons_succ]
                      refine takeW_on (i := 12) 104 (v := ?v46) rfl rfl (by kernel_rfl) (by kernel_rfl) (by kernel_rfl) (fun _ _ _ h => h) (by kernel_rfl) ?hy46 ?_
                      case hy46 => (go_simp; try (with_reducible rfl))
                      simp only [Act.put, List.setIfInBounds_toArray, List.set_cons_zero, List.set_cons_succ]
                      refine takeW_on (i := 13) 105 (v := ?v47) rfl rfl (by kernel_rfl) (by kernel_rfl) (by kernel_rfl) (fun _ _ _ h => h) (by kernel_rfl) ?hy47 ?_
                      case hy47 => (go_simp; try (with_reducible rfl))
                      simp only [Act.put, List.setIfInBounds_toArray, List.set_cons_zero, List.set_cons_succ]
                      refine takeW_on (i := 14) 106 (v := ?v48) rfl rfl (by kernel_rfl) (by kernel_rfl) (by kernel_rfl) (fun _ _ _ h => h) (by kernel_rfl) ?hy48 ?_
                      case hy48 => (go_simp; try (with_reducible rfl))
                      simp only [Act.put, List.setIfInBounds_toArray, List.set_cons_zero, List.set_cons_succ]
                      refine takeW_on (i := 15) 107 (v := ?v49) rfl rfl (by kernel_rfl) (by kernel_rfl) (by kernel_rfl) (fun _ _ _ h => h) (by kernel_rfl) ?hy49 ?_
                      case hy49 => (go_simp; try (with_reducible rfl))
                      simp only [Act.put, List.setIfInBounds_toArray, List.set_cons_zero, List.set_cons_succ]
                      refine takeW_on (i := 16) 108 (v := ?v50) rfl rfl (by kernel_rfl) (by kernel_rfl) (by kernel_rfl) (fun _ _ _ h => h) (by kernel_rfl) ?hy50 ?_
                      case hy50 => (go_simp; try (with_reducible rfl))
                      simp only [Act.put, List.setIfInBounds_toArray, List.set_cons_zero, List.set_cons_succ]
                      refine wpAnyH_done (by kernel_rfl) ?_ _
                      go_wp2
                      go_ret
                      exact ⟨by rw [loadE_no HNone.out]; rfl, HFr.out _ HG5.out⟩
                  · have htz : t = 0 := by omega
                    subst htz
                    obtain ⟨hs1, hs2⟩ := HRL3.out.struck hk ht (c.drop (j3 + 1))
                    have HS1 := hid hs1
                    have HS2 := hid hs2
                    have HT := hid ht
                    clear hk ht yset hs1 hs2 htn ht0
                    go_wp2_with fail
                    refine wp_region_any (by kernel_rfl) ?_
                    change wpAny _ _ _ _ _ _ _ (World.drew _)
                    refine take_on (i := 1) 93 (v := ?v51) rfl rfl (by kernel_rfl) (by kernel_rfl) (by kernel_rfl) (fun _ _ _ h => h) (by kernel_rfl) ?hy51 ?_
                    case hy51 => (intro w; go_simp; try (with_reducible rfl))
                    simp only [Act.put, List.setIfInBounds_toArray, List.set_cons_zero, List.set_cons_succ]
                    refine take_on (i := 2) 94 (v := ?v52) rfl rfl (by kernel_rfl) (by kernel_rfl) (by kernel_rfl) (fun _ _ _ h => h) (by kernel_rfl) ?hy52 ?_
                    case hy52 => (intro w; go_simp; try (with_reducible rfl))
                    simp only [Act.put, List.setIfInBounds_toArray, List.set_cons_zero, List.set_cons_succ]
                    refine take_on (i := 3) 95 (v := ?v53) rfl rfl (by kernel_rfl) (by kernel_rfl) (by kernel_rfl) (fun _ _ _ h => h) (by kernel_rfl) ?hy53 ?_
                    case hy53 => (intro w; go_simp; try (with_reducible rfl))
                    simp only [Act.put, List.setIfInBounds_toArray, List.set_cons_zero, List.set_cons_succ]
                    refine wpAny_ready (rs := [0, 4]) (by kernel_rfl) (by simp) (AllReady.cons rfl (fun K hK => ?_) (AllReady.cons rfl (fun K hK => ?_) AllReady.nil))
                    · go_simp
                      refine hK _ _ ?_
                      clear hK K
                      refine wpAny_ready (rs := [4]) (by kernel_rfl) (by simp) (AllReady.cons rfl (fun K hK => ?_) AllReady.nil)
                      go_simp
                      refine hK _ _ ?_
                      clear hK K
                      refine wpAny_ready (rs := [5]) (by kernel_rfl) (by simp) (AllReady.cons rfl (fun K hK => ?_) AllReady.nil)
                      go_simp
                      refine (rfree_any P L _ _ _ _ _ cv x _ (HR3.out.ch ((Ch.refl NoB _).drew) (fun _ _ _ => noB _)) HAG.out).mono ?_
                      rintro e w5 ⟨rfl, g5⟩
                      rw [HFB.out]
                      have g5' := ((Ch.refl NoB U).drew).trans' g5
                      have t5 := (g5'.cell (o := o2 + j3) gl2 (noB _)).trans t2
                      have HG5 := hid (HG3.out.trans' g5'.any)
                      have HO5 := hid (HO3.out.ch g5' (fun _ _ => noB _))
                      have HV5 := hid (HV3.out.trans' g5'.any)
                      obtain ⟨b5, q5, e5, -, gl5, -, y5, yf5, ys5⟩ := HO5.out.get (iv_get HT.out)
                      injection e5 with a1 a2 a3
                      injection a1 with a1
                      injection a1 with a1 a4 a5
                      subst a1
                      have YS := hid ys5
                      clear g5 g5' a2 a3 a4 a5 ys5
                      go_wp2_with fail
                      refine held_here ?_
                      refine takeW_on (i := 6) 98 (v := ?v54) rfl rfl (by kernel_rfl) (by kernel_rfl) (by kernel_rfl) (fun _ _ _ h => h) (by kernel_rfl) ?hy54 ?_
                      case hy54 => (go_simp; try (with_reducible rfl))
                      simp only [Act.put, List.setIfInBounds_toArray, List.set_cons_zero, List.set_cons_succ]
                      refine takeW_on (i := 7) 99 (v := ?v55) rfl rfl (by kernel_rfl) (by kernel_rfl) (by kernel_rfl) (fun _ _ _ h => h) (by kernel_rfl) ?hy55 ?_
                      case hy55 => (go_simp; try (with_reducible rfl))
                      simp only [Act.put, List.setIfInBounds_toArray, List.set_cons_zero, List.set_cons_succ]
                      refine takeW_on (i := 8) 100 (v := ?v56) rfl rfl (by kernel_rfl) (by kernel_rfl) (by kernel_rfl) (fun _ _ _ h => h) (by kernel_rfl) ?hy56 ?_
                      case hy56 => (go_simp; try (with_reducible rfl))
                      simp only [Act.put, List.setIfInBounds_toArray, List.set_cons_zero, List.set_cons_succ]
                      refine takeW_on (i := 9) 101 (v := ?v57) rfl rfl (by kernel_rfl) (by kernel_rfl) (by kernel_rfl) (fun _ _ _ h => h) (by kernel_rfl) ?hy57 ?_
                      case hy57 => (go_simp; try (with_reducible rfl))
                      simp only [Act.put, List.setIfInBounds_toArray, List.set_cons_zero, List.set_cons_succ]
                      refine takeW_on (i := 10) 102 (v := ?v58) rfl rfl (by kernel_rfl) (by kernel_rfl) (by kernel_rfl) (fun _ _ _ h => h) (by kernel_rfl) ?hy58 ?_
                      case hy58 => (go_simp; try (with_reducible rfl))
                      simp only [Act.put, List.setIfInBounds_toArray, List.set_cons_zero, List.set_cons_succ]
                      refine takeW_on (i := 11) 103 (v := ?v59) rfl rfl (by kernel_rfl) (by kernel_rfl) (by kernel_rfl) (fun _ _ _ h => h) (by kernel_rfl) ?hy59 ?_
                      case hy59 => (go_simp; try (with_reducible rfl))
                      simp only [Act.put, List.setIfInBounds_toArray, List.set_cons_zero, List.set_cons_succ]
                      refine takeW_on (i := 12) 104 (v := ?v60) rfl rfl (by kernel_rfl) (by kernel_rfl) (by kernel_rfl) (fun _ _ _ h => h) (by kernel_rfl) ?hy60 ?_
                      case hy60 => (go_simp; try (with_reducible rfl))
                      simp only [Act.put, List.setIfInBounds_toArray, List.set_cons_zero, List.set_cons_succ]
                      refine takeW_on (i := 13) 105 (v := ?v61) rfl rfl (by kernel_rfl) (by kernel_rfl) (by kernel_rfl) (fun _ _ _ h => h) (by kernel_rfl) ?hy61 ?_
                      case hy61 => (go_simp; try (with_reducible rfl))
                      simp only [Act.put, List.setIfInBounds_toArray, List.set_cons_zero, List.set_cons_succ]
                      refine takeW_on (i := 14) 106 (v := ?v62) rfl rfl (by kernel_rfl) (by kernel_rfl) (by kernel_rfl) (fun _ _ _ h => h) (by kernel_rfl) ?hy62 ?_
                      case hy62 => (go_simp; try (with_reducible rfl))
                      simp only [Act.put, List.setIfInBounds_toArray, List.set_cons_zero, List.set_cons_succ]
                      refine takeW_on (i := 15) 107 (v := ?v63) rfl rfl (by kernel_rfl) (by kernel_rfl) (by kernel_rfl) (fun _ _ _ h => h) (by kernel_rfl) ?hy63 ?_
                      case hy63 => (go_simp; try (with_reducible rfl))
                      simp only [Act.put, List.setIfInBounds_toArray, List.set_cons_zero, List.set_cons_succ]
                      refine takeW_on (i := 16) 108 (v := ?v64) rfl rfl (by kernel_rfl) (by kernel_rfl) (by kernel_rfl) (fun _ _ _ h => h) (by kernel_rfl) ?hy64 ?_
                      case hy64 => (go_simp; try (with_reducible rfl))
                      simp only [Act.put, List.setIfInBounds_toArray, List.set_cons_zero, List.set_cons_succ]
                      refine wpAnyH_done (by kernel_rfl) ?_ _
                      go_wp2
                      go_roundg (gk - 1)
                      case measure => omega
                      case rel => exact ⟨j3 + 1, M3.set k false, T3.set k 1, by omega, by simp, HS2.out, by rw [HST3.out, HD.out]; exact HS1.out, by have := YS.out (.int .i64 1); rw [iv_set] at this; exact this, HG5.out.setCell (p := ⟨bx, k, none⟩) (.inl rfl) _, HV5.out.setCell (p := ⟨bx, k, none⟩) (.inl rfl) _⟩
                    · go_simp
                      refine hK _ _ ?_
                      clear hK K
                      refine wpAny_ready (rs := [0]) (by kernel_rfl) (by simp) (AllReady.cons rfl (fun K hK => ?_) AllReady.nil)
                      go_simp
                      refine hK _ _ ?_
                      clear hK K
                      refine wpAny_ready (rs := [5]) (by kernel_rfl) (by simp) (AllReady.cons rfl (fun K hK => ?_) AllReady.nil)
                      go_simp
                      refine (rfree_any P L _ _ _ _ _ cv x _ (HR3.out.ch ((Ch.refl NoB _).drew) (fun _ _ _ => noB _)) HAG.out).mono ?_
                      rintro e w5 ⟨rfl, g5⟩
                      rw [HFB.out]
                      have g5' := ((Ch.refl NoB U).drew).trans' g5
                      have t5 := (g5'.cell (o := o2 + j3) gl2 (noB _)).trans t2
                      have HG5 := hid (HG3.out.trans' g5'.any)
                      have HO5 := hid (HO3.out.ch g5' (fun _ _ => noB _))
                      have HV5 := hid (HV3.out.trans' g5'.any)
                      obtain ⟨b5, q5, e5, -, gl5, -, y5, yf5, ys5⟩ := HO5.out.get (iv_get HT.out)
                      injection e5 with a1 a2 a3
                      injection a1 with a1
                      injection a1 with a1 a4 a5
                      subst a1
                      have YS := hid ys5
                      clear g5 g5' a2 a3 a4 a5 ys5
                      go_wp2_with fail
                      refine held_here ?_
                      refine takeW_on (i := 6) 98 (v := ?v65) rfl rfl (by kernel_rfl) (by kernel_rfl) (by kernel_rfl) (fun _ _ _ h => h) (by kernel_rfl) ?hy65 ?_
                      case hy65 => (go_simp; try (with_reducible rfl))
                      simp only [Act.put, List.setIfInBounds_toArray, List.set_cons_zero, List.set_cons_succ]
                      refine takeW_on (i := 7) 99 (v := ?v66) rfl rfl (by kernel_rfl) (by kernel_rfl) (by kernel_rfl) (fun _ _ _ h => h) (by kernel_rfl) ?hy66 ?_
                      case hy66 => (go_simp; try (with_reducible rfl))
                      simp only [Act.put, List.setIfInBounds_toArray, List.set_cons_zero, List.set_cons_succ]
                      refine takeW_on (i := 8) 100 (v := ?v67) rfl rfl (by kernel_rfl) (by kernel_rfl) (by kernel_rfl) (fun _ _ _ h => h) (by kernel_rfl) ?hy67 ?_
                      case hy67 => (go_simp; try (with_reducible rfl))
                      simp only [Act.put, List.setIfInBounds_toArray, List.set_cons_zero, List.set_cons_succ]
                      refine takeW_on (i := 9) 101 (v := ?v68) rfl rfl (by kernel_rfl) (by kernel_rfl) (by kernel_rfl) (fun _ _ _ h => h) (by kernel_rfl) ?hy68 ?_
                      case hy68 => (go_simp; try (with_reducible rfl))
                      simp only [Act.put, List.setIfInBounds_toArray, List.set_cons_zero, List.set_cons_succ]
                      refine takeW_on (i := 10) 102 (v := ?v69) rfl rfl (by kernel_rfl) (by kernel_rfl) (by kernel_rfl) (fun _ _ _ h => h) (by kernel_rfl) ?hy69 ?_
                      case hy69 => (go_simp; try (with_reducible rfl))
                      simp only [Act.put, List.setIfInBounds_toArray, List.set_cons_zero, List.set_cons_succ]
                      refine takeW_on (i := 11) 103 (v := ?v70) rfl rfl (by kernel_rfl) (by kernel_rfl) (by kernel_rfl) (fun _ _ _ h => h) (by kernel_rfl) ?hy70 ?_
                      case hy70 => (go_simp; try (with_reducible rfl))
                      simp only [Act.put, List.setIfInBounds_toArray, List.set_cons_zero, List.set_cons_succ]
                      refine takeW_on (i := 12) 104 (v := ?v71) rfl rfl (by kernel_rfl) (by kernel_rfl) (by kernel_rfl) (fun _ _ _ h => h) (by kernel_rfl) ?hy71 ?_
                      case hy71 => (go_simp; try (with_reducible rfl))
                      simp only [Act.put, List.setIfInBounds_toArray, List.set_cons_zero, List.set_cons_succ]
                      refine takeW_on (i := 13) 105 (v := ?v72) rfl rfl (by kernel_rfl) (by kernel_rfl) (by kernel_rfl) (fun _ _ _ h => h) (by kernel_rfl) ?hy72 ?_
                      case hy72 => (go_simp; try (with_reducible rfl))
                      simp only [Act.put, List.setIfInBounds_toArray, List.set_cons_zero, List.set_cons_succ]
                      refine takeW_on (i := 14) 106 (v := ?v73) rfl rfl (by kernel_rfl) (by kernel_rfl) (by kernel_rfl) (fun _ _ _ h => h) (by kernel_rfl) ?hy73 ?_
                      case hy73 => (go_simp; try (with_reducible rfl))
                      simp only [Act.put, List.setIfInBounds_toArray, List.set_cons_zero, List.set_cons_succ]
                      refine takeW_on (i := 15) 107 (v := ?v74) rfl rfl (by kernel_rfl) (by kernel_rfl) (by kernel_rfl) (fun _ _ _ h => h) (by kernel_rfl) ?hy74 ?_
                      case hy74 => (go_simp; try (with_reducible rfl))
                      simp only [Act.put, List.setIfInBounds_toArray, List.set_cons_zero, List.set_cons_succ]
                      refine takeW_on (i := 16) 108 (v := ?v75) rfl rfl (by kernel_rfl) (by kernel_rfl) (by kernel_rfl) (fun _ _ _ h => h) (by kernel_rfl) ?hy75 ?_
                      case hy75 => (go_simp; try (with_reducible rfl))
                      simp only [Act.put, List.setIfInBounds_toArray, List.set_cons_zero, List.set_cons_succ]
                      refine wpAnyH_done (by kernel_rfl) ?_ _
                      go_wp2
                      go_roundg (gk - 1)
                      case measure => omega
                      case rel => exact ⟨j3 + 1, M3.set k false, T3.set k 1, by omega, by simp, HS2.out, by rw [HST3.out, HD.out]; exact HS1.out, by have := YS.out (.int .i64 1); rw [iv_set] at this; exact this, HG5.out.setCell (p := ⟨bx, k, none⟩) (.inl rfl) _, HV5.out.setCell (p := ⟨bx, k, none⟩) (.inl rfl) _⟩
              · have hk3 : strikeL M c = some M3 := by
                  rw [HST3.out, List.drop_eq_nil_of_le (by rw [← HNU.out]; omega)]
                  rfl
                have HY := hid (HYes.out M3 hk3)
                clear hk3
                go_wp2
                go_roundg (K1 - 1)
                case measure => omega
                case rel => exact ⟨j2 + 1, M3, T3, hk2, by simp, HRL3.out, HY.out, HO3.out, HG3.out⟩
        · by_cases hj3 : j2 = nC
          · subst hj3
            obtain ⟨c, hc⟩ : ∃ c, c = x.F := ⟨_, rfl⟩
            have HU := hid (show Ls P V (.slice fa nF fc) (iv c) by rw [hc]; exact HR2.out.f)
            have HNU := hid (show nF = c.length by rw [hc]; exact HNF.out)
            have HM' : Mid x x.C.length M := by rw [← HCL.out]; exact HM.out
            have HNo := hid (fun hs => HM'.freeNo (by rw [← hc]; exact hs) : strikeL M c = none → listsB x = false)
            have HYes := hid (fun M' hs => by rw [HCL.out]; exact HM'.freeYes (by rw [← hc]; exact hs) : ∀ M', strikeL M c = some M' → Mid x (j2 + 1) M')
            have hk2 : j2 + 1 + (K1 - 1) = j2 + 1 := by omega
            clear hc HM' HNF
            go_wp2_with fail
            go_loopg [9] nF (fun k i wv => ∃ (j3 : Nat) (M3 : List Bool) (T3 : List Int), j3 + k = nF ∧ i = .int .i64 ((j3 : Nat) : Int) ∧ Rel x M3 T3 ∧ strikeL M c = strikeL M3 (c.drop j3) ∧ Ow 3 bx wv (.slice (some ⟨bx, 0, none⟩) nG nG) (iv T3) ∧ Ch (Blk (.slice (some ⟨bx, 0, none⟩) nG nG)) W1 wv ∧ Ch (Blk (.slice (some ⟨bx, 0, none⟩) nG nG)) V wv)
            case atStart => exact ⟨0, M, T, by omega, rfl, HRL.out, rfl, HO2.out, HG2.out, Ch.refl _ _⟩
            case round =>
              obtain ⟨j3, M3, T3, hjk3, rfl, hrl3, hst3, ho3, hg3, hv3⟩ := hrel
              obtain ⟨U, hU⟩ : ∃ W, W = wr := ⟨_, rfl⟩
              subst hU
              obtain ⟨c0, c1, c2, c3, c4⟩ := (HF1.out.ch hg3 nb0).cells
              have ub := (HF1.out.ch hg3 nb0).lt
              have HRL3 := hid hrl3
              have HST3 := hid hst3
              have HO3 := hid ho3
              have HG3 := hid hg3
              have HR3 := hid (HR1.out.ch hg3 (fun q _ a => HPD.out q a))
              have HU3 := hid (HU.out.ch hv3 (fun q _ a => HPD.out q a))
              have HV3 := hid hv3
              clear hrl3 hst3 ho3 hg3 hv3
              by_cases hj3 : j3 < nF
              · obtain ⟨z, hz⟩ : ∃ z, c[j3]? = some z := ⟨_, List.getElem?_eq_getElem (by rw [← HNU.out]; exact hj3)⟩
                obtain ⟨g2, o2, rfl, -, gl2, -, t2⟩ := HU3.out.get1 (iv_get hz)
                have j30 : (0 : Int) ≤ (j3 : Int) := by omega
                have j31 : (j3 : Int) < (nF : Int) := by omega
                have HD := hid (drop_get hz)
                clear hz
                cases hf : freeB x z with
                | false =>
                  have HNone := hid (HNo.out (by rw [HST3.out, HD.out]; exact HRL3.out.bad hf _))
                  have HFB := hid hf
                  clear hf
                  go_wp2_with fail
                  refine wp_region_any (by kernel_rfl) ?_
                  change wpAny _ _ _ _ _ _ _ (World.drew _)
                  refine take_on (i := 1) 93 (v := ?vb1) rfl rfl (by kernel_rfl) (by kernel_rfl) (by kernel_rfl) (fun _ _ _ h => h) (by kernel_rfl) ?hyb1 ?_
                  case hyb1 => (intro w; go_simp; try (with_reducible rfl))
                  simp only [Act.put, List.setIfInBounds_toArray, List.set_cons_zero, List.set_cons_succ]
                  refine take_on (i := 2) 94 (v := ?vb2) rfl rfl (by kernel_rfl) (by kernel_rfl) (by kernel_rfl) (fun _ _ _ h => h) (by kernel_rfl) ?hyb2 ?_
                  case hyb2 => (intro w; go_simp; try (with_reducible rfl))
                  simp only [Act.put, List.setIfInBounds_toArray, List.set_cons_zero, List.set_cons_succ]
                  refine take_on (i := 3) 95 (v := ?vb3) rfl rfl (by kernel_rfl) (by kernel_rfl) (by kernel_rfl) (fun _ _ _ h => h) (by kernel_rfl) ?hyb3 ?_
                  case hyb3 => (intro w; go_simp; try (with_reducible rfl))
                  simp only [Act.put, List.setIfInBounds_toArray, List.set_cons_zero, List.set_cons_succ]
                  refine wpAny_ready (rs := [0, 4]) (by kernel_rfl) (by simp) (AllReady.cons rfl (fun K hK => ?_) (AllReady.cons rfl (fun K hK => ?_) AllReady.nil))
                  · go_simp
                    refine hK _ _ ?_
                    clear hK K
                    refine wpAny_ready (rs := [4]) (by kernel_rfl) (by simp) (AllReady.cons rfl (fun K hK => ?_) AllReady.nil)
                    go_simp
                    refine hK _ _ ?_
                    clear hK K
                    refine wpAny_ready (rs := [5]) (by kernel_rfl) (by simp) (AllReady.cons rfl (fun K hK => ?_) AllReady.nil)
                    go_simp
                    refine (rfree_any P L _ _ _ _ _ cv x _ (HR3.out.ch ((Ch.refl NoB _).drew) (fun _ _ _ => noB _)) HAG.out).mono ?_
                    rintro e w5 ⟨rfl, g5⟩
                    rw [HFB.out]
                    have HG5 := hid (HG3.out.trans' (((Ch.refl NoB U).drew).trans' g5).any)
                    clear g5
                    go_wp2_with fail
                    refine take_on (i := 6) 98 (v := ?vb4) rfl rfl (by kernel_rfl) (by kernel_rfl) (by kernel_rfl) (fun _ _ _ h => h) (by kernel_rfl) ?hyb4 ?_
                    case hyb4 => (intro w; go_simp; try (with_reducible rfl))
                    simp only [Act.put, List.setIfInBounds_toArray, List.set_cons_zero, List.set_cons_succ]
                    refine take_on (i := 7) 99 (v := ?vb5) rfl rfl (by kernel_rfl) (by kernel_rfl) (by kernel_rfl) (fun _ _ _ h => h) (by kernel_rfl) ?hyb5 ?_
                    case hyb5 => (intro w; go_simp; try (with_reducible rfl))
                    simp only [Act.put, List.setIfInBounds_toArray, List.set_cons_zero, List.set_cons_succ]
                    refine skip_on (i := 8) 100 rfl rfl (by kernel_rfl) (by kernel_rfl) (by kernel_rfl) (fun _ _ _ h => h) (by kernel_rfl) ?_
                    simp only [Act.put, List.setIfInBounds_toArray, List.set_cons_zero, List.set_cons_succ]
                    refine skip_on (i := 9) 101 rfl rfl (by kernel_rfl) (by kernel_rfl) (by kernel_rfl) (fun _ _ _ h => h) (by kernel_rfl) ?_
                    simp only [Act.put, List.setIfInBounds_toArray, List.set_cons_zero, List.set_cons_succ]
                    refine skip_on (i := 10) 102 rfl rfl (by kernel_rfl) (by kernel_rfl) (by kernel_rfl) (fun _ _ _ h => h) (by kernel_rfl) ?_
                    simp only [Act.put, List.setIfInBounds_toArray, List.set_cons_zero, List.set_cons_succ]
                    refine skip_on (i := 11) 103 rfl rfl (by kernel_rfl) (by kernel_rfl) (by kernel_rfl) (fun _ _ _ h => h) (by kernel_rfl) ?_
                    simp only [Act.put, List.setIfInBounds_toArray, List.set_cons_zero, List.set_cons_succ]
                    refine skip_on (i := 12) 104 rfl rfl (by kernel_rfl) (by kernel_rfl) (by kernel_rfl) (fun _ _ _ h => h) (by kernel_rfl) ?_
                    simp only [Act.put, List.setIfInBounds_toArray, List.set_cons_zero, List.set_cons_succ]
                    refine skip_on (i := 13) 105 rfl rfl (by kernel_rfl) (by kernel_rfl) (by kernel_rfl) (fun _ _ _ h => h) (by kernel_rfl) ?_
                    simp only [Act.put, List.setIfInBounds_toArray, List.set_cons_zero, List.set_cons_succ]
                    refine skip_on (i := 14) 106 rfl rfl (by kernel_rfl) (by kernel_rfl) (by kernel_rfl) (fun _ _ _ h => h) (by kernel_rfl) ?_
                    simp only [Act.put, List.setIfInBounds_toArray, List.set_cons_zero, List.set_cons_succ]
                    refine skip_on (i := 15) 107 rfl rfl (by kernel_rfl) (by kernel_rfl) (by kernel_rfl) (fun _ _ _ h => h) (by kernel_rfl) ?_
                    simp only [Act.put, List.setIfInBounds_toArray, List.set_cons_zero, List.set_cons_succ]
                    refine take_on (i := 16) 108 (v := ?vb14) rfl rfl (by kernel_rfl) (by kernel_rfl) (by kernel_rfl) (fun _ _ _ h => h) (by kernel_rfl) ?hyb14 ?_
                    case hyb14 => (intro w; go_simp; try (with_reducible rfl))
                    simp only [Act.put, List.setIfInBounds_toArray, List.set_cons_zero, List.set_cons_succ]
                    refine wpAny_done (by kernel_rfl) ?_ _
                    go_wp2
                    go_ret
                    exact ⟨by rw [loadE_no HNone.out]; rfl, HFr.out _ HG5.out⟩
                  · go_simp
                    refine hK _ _ ?_
                    clear hK K
                    refine wpAny_ready (rs := [0]) (by kernel_rfl) (by simp) (AllReady.cons rfl (fun K hK => ?_) AllReady.nil)
                    go_simp
                    refine hK _ _ ?_
                    clear hK K
                    refine wpAny_ready (rs := [5]) (by kernel_rfl) (by simp) (AllReady.cons rfl (fun K hK => ?_) AllReady.nil)
                    go_simp
                    refine (rfree_any P L _ _ _ _ _ cv x _ (HR3.out.ch ((Ch.refl NoB _).drew) (fun _ _ _ => noB _)) HAG.out).mono ?_
                    rintro e w5 ⟨rfl, g5⟩
                    rw [HFB.out]
                    have HG5 := hid (HG3.out.trans' (((Ch.refl NoB U).drew).trans' g5).any)
                    clear g5
                    go_wp2_with fail
                    refine take_on (i := 6) 98 (v := ?vb15) rfl rfl (by kernel_rfl) (by kernel_rfl) (by kernel_rfl) (fun _ _ _ h => h) (by kernel_rfl) ?hyb15 ?_
                    case hyb15 => (intro w; go_simp; try (with_reducible rfl))
                    simp only [Act.put, List.setIfInBounds_toArray, List.set_cons_zero, List.set_cons_succ]
                    refine take_on (i := 7) 99 (v := ?vb16) rfl rfl (by kernel_rfl) (by kernel_rfl) (by kernel_rfl) (fun _ _ _ h => h) (by kernel_rfl) ?hyb16 ?_
                    case hyb16 => (intro w; go_simp; try (with_reducible rfl))
                    simp only [Act.put, List.setIfInBounds_toArray, List.set_cons_zero, List.set_cons_succ]
                    refine skip_on (i := 8) 100 rfl rfl (by kernel_rfl) (by kernel_rfl) (by kernel_rfl) (fun _ _ _ h => h) (by kernel_rfl) ?_
                    simp only [Act.put, List.setIfInBounds_toArray, List.set_cons_zero, List.set_cons_succ]
                    refine skip_on (i := 9) 101 rfl rfl (by kernel_rfl) (by kernel_rfl) (by kernel_rfl) (fun _ _ _ h => h) (by kernel_rfl) ?_
                    simp only [Act.put, List.setIfInBounds_toArray, List.set_cons_zero, List.set_cons_succ]
                    refine skip_on (i := 10) 102 rfl rfl (by kernel_rfl) (by kernel_rfl) (by kernel_rfl) (fun _ _ _ h => h) (by kernel_rfl) ?_
                    simp only [Act.put, List.setIfInBounds_toArray, List.set_cons_zero, List.set_cons_succ]
                    refine skip_on (i := 11) 103 rfl rfl (by kernel_rfl) (by kernel_rfl) (by kernel_rfl) (fun _ _ _ h => h) (by kernel_rfl) ?_
                    simp only [Act.put, List.setIfInBounds_toArray, List.set_cons_zero, List.set_cons_succ]
                    refine skip_on (i := 12) 104 rfl rfl (by kernel_rfl) (by kernel_rfl) (by kernel_rfl) (fun _ _ _ h => h) (by kernel_rfl) ?_
                    simp only [Act.put, List.setIfInBounds_toArray, List.set_cons_zero, List.set_cons_succ]
                    refine skip_on (i := 13) 105 rfl rfl (by kernel_rfl) (by kernel_rfl) (by kernel_rfl) (fun _ _ _ h => h) (by kernel_rfl) ?_
                    simp only [Act.put, List.setIfInBounds_toArray, List.set_cons_zero, List.set_cons_succ]
                    refine skip_on (i := 14) 106 rfl rfl (by kernel_rfl) (by kernel_rfl) (by kernel_rfl) (fun _ _ _ h => h) (by kernel_rfl) ?_
                    simp only [Act.put, List.setIfInBounds_toArray, List.set_cons_zero, List.set_cons_succ]
                    refine skip_on (i := 15) 107 rfl rfl (by kernel_rfl) (by kernel_rfl) (by kernel_rfl) (fun _ _ _ h => h) (by kernel_rfl) ?_
                    simp only [Act.put, List.setIfInBounds_toArray, List.set_cons_zero, List.set_cons_succ]
                    refine take_on (i := 16) 108 (v := ?vb25) rfl rfl (by kernel_rfl) (by kernel_rfl) (by kernel_rfl) (fun _ _ _ h => h) (by kernel_rfl) ?hyb25 ?_
                    case hyb25 => (intro w; go_simp; try (with_reducible rfl))
                    simp only [Act.put, List.setIfInBounds_toArray, List.set_cons_zero, List.set_cons_succ]
                    refine wpAny_done (by kernel_rfl) ?_ _
                    go_wp2
                    go_ret
                    exact ⟨by rw [loadE_no HNone.out]; rfl, HFr.out _ HG5.out⟩
                | true =>
                  obtain ⟨k, rfl, hk⟩ := freeB_true hf
                  have hkn : k < nG := by
                    have := (List.getElem?_eq_some_iff.1 hk).1
                    rw [freeL_len HAG.out, ← HN.out] at this
                    exact this
                  obtain ⟨t, ht⟩ : ∃ t, T3[k]? = some t := ⟨_, List.getElem?_eq_getElem (by rw [HRL3.out.tl, ← HN.out]; exact hkn)⟩
                  have htn := HRL3.out.tn k t ht
                  obtain ⟨g3, cap3, e3, -, gl3, -, y0, yf, yset⟩ := HO3.out.get (iv_get ht)
                  injection e3 with a1 a2 a3
                  injection a1 with a1
                  injection a1 with a1 a4 a5
                  subst a1
                  clear a2 a3 a4 a5
                  have k0 : (0 : Int) ≤ (k : Int) := by omega
                  have k1 : (k : Int) < (nG : Int) := by omega
                  have HFB := hid hf
                  clear hf
                  by_cases ht0 : 0 < t
                  · have dt : decide (0 < t) = true := decide_eq_true ht0
                    have HNone := hid (HNo.out (by rw [HST3.out, HD.out]; exact HRL3.out.twice ht ht0 _))
                    clear hk ht yset
                    go_wp2_with fail
                    refine wp_region_any (by kernel_rfl) ?_
                    change wpAny _ _ _ _ _ _ _ (World.drew _)
                    refine take_on (i := 1) 93 (v := ?vb26) rfl rfl (by kernel_rfl) (by kernel_rfl) (by kernel_rfl) (fun _ _ _ h => h) (by kernel_rfl) ?hyb26 ?_
                    case hyb26 => (intro w; go_simp; try (with_reducible rfl))
                    simp only [Act.put, List.setIfInBounds_toArray, List.set_cons_zero, List.set_cons_succ]
                    refine take_on (i := 2) 94 (v := ?vb27) rfl rfl (by kernel_rfl) (by kernel_rfl) (by kernel_rfl) (fun _ _ _ h => h) (by kernel_rfl) ?hyb27 ?_
                    case hyb27 => (intro w; go_simp; try (with_reducible rfl))
                    simp only [Act.put, List.setIfInBounds_toArray, List.set_cons_zero, List.set_cons_succ]
                    refine take_on (i := 3) 95 (v := ?vb28) rfl rfl (by kernel_rfl) (by kernel_rfl) (by kernel_rfl) (fun _ _ _ h => h) (by kernel_rfl) ?hyb28 ?_
                    case hyb28 => (intro w; go_simp; try (with_reducible rfl))
                    simp only [Act.put, List.setIfInBounds_toArray, List.set_cons_zero, List.set_cons_succ]
                    refine wpAny_ready (rs := [0, 4]) (by kernel_rfl) (by simp) (AllReady.cons rfl (fun K hK => ?_) (AllReady.cons rfl (fun K hK => ?_) AllReady.nil))
                    · go_simp
                      refine hK _ _ ?_
                      clear hK K
                      refine wpAny_ready (rs := [4]) (by kernel_rfl) (by simp) (AllReady.cons rfl (fun K hK => ?_) AllReady.nil)
                      go_simp
                      refine hK _ _ ?_
                      clear hK K
                      refine wpAny_ready (rs := [5]) (by kernel_rfl) (by simp) (AllReady.cons rfl (fun K hK => ?_) AllReady.nil)
                      go_simp
                      refine (rfree_any P L _ _ _ _ _ cv x _ (HR3.out.ch ((Ch.refl NoB _).drew) (fun _ _ _ => noB _)) HAG.out).mono ?_
                      rintro e w5 ⟨rfl, g5⟩
                      rw [HFB.out]
                      have g5' := ((Ch.refl NoB U).drew).trans' g5
                      have t5 := (g5'.cell (o := o2 + j3) gl2 (noB _)).trans t2
                      have HG5 := hid (HG3.out.trans' g5'.any)
                      have y5 := (g5'.cell (o := k) gl3 (noB _)).trans y0
                      clear g5 g5'
                      go_wp2_with fail
                      refine held_here ?_
                      refine takeW_on (i := 6) 98 (v := ?vb29) rfl rfl (by kernel_rfl) (by kernel_rfl) (by kernel_rfl) (fun _ _ _ h => h) (by kernel_rfl) ?hyb29 ?_
                      case hyb29 => (go_simp; try (with_reducible rfl))
                      simp only [Act.put, List.setIfInBounds_toArray, List.set_cons_zero, List.set_cons_succ]
                      refine takeW_on (i := 7) 99 (v := ?vb30) rfl rfl (by kernel_rfl) (by kernel_rfl) (by kernel_rfl) (fun _ _ _ h => h) (by kernel_rfl) ?hyb30 ?_
                      case hyb30 => (go_simp; try (with_reducible rfl))
                      simp only [Act.put, List.setIfInBounds_toArray, List.set_cons_zero, List.set_cons_succ]
                      refine takeW_on (i := 8) 100 (v := ?vb31) rfl rfl (by kernel_rfl) (by kernel_rfl) (by kernel_rfl) (fun _ _ _ h => h) (by kernel_rfl) ?hyb31 ?_
                      case hyb31 => (go_simp; try (with_reducible rfl))
                      simp only [Act.put, List.setIfInBounds_toArray, List.set_cons_zero, List.set_cons_succ]
                      refine takeW_on (i := 9) 101 (v := ?vb32) rfl rfl (by kernel_rfl) (by kernel_rfl) (by kernel_rfl) (fun _ _ _ h => h) (by kernel_rfl) ?hyb32 ?_
                      case hyb32 => (go_simp; try (with_reducible rfl))
                      simp only [Act.put, List.setIfInBounds_toArray, List.set_cons_zero, List.set_cons_succ]
                      refine takeW_on (i := 10) 102 (v := ?vb33) rfl rfl (by kernel_rfl) (by kernel_rfl) (by kernel_rfl) (fun _ _ _ h => h) (by kernel_rfl) ?hyb33 ?_
                      case hyb33 => (go_simp; try (with_reducible rfl))
                      simp only [Act.put, List.setIfInBounds_toArray, List.set_cons_zero, List.set_cons_succ]
                      refine takeW_on (i := 11) 103 (v := ?vb34) rfl rfl (by kernel_rfl) (by kernel_rfl) (by kernel_rfl) (fun _ _ _ h => h) (by kernel_rfl) ?hyb34 ?_
                      case hyb34 => (go_simp; try (with_reducible rfl))
                      simp only [Act.put, List.setIfInBounds_toArray, List.set_cons_zero, List.set_cons_succ]
                      refine takeW_on (i := 12) 104 (v := ?vb35) rfl rfl (by kernel_rfl) (by kernel_rfl) (by kernel_rfl) (fun _ _ _ h => h) (by kernel_rfl) ?hyb35 ?_
                      case hyb35 => (go_simp; try (with_reducible rfl))
                      simp only [Act.put, List.setIfInBounds_toArray, List.set_cons_zero, List.set_cons_succ]
                      refine takeW_on (i := 13) 105 (v := ?vb36) rfl rfl (by kernel_rfl) (by kernel_rfl) (by kernel_rfl) (fun _ _ _ h => h) (by kernel_rfl) ?hyb36 ?_
                      case hyb36 => (go_simp; try (with_reducible rfl))
                      simp only [Act.put, List.setIfInBounds_toArray, List.set_cons_zero, List.set_cons_succ]
                      refine takeW_on (i := 14) 106 (v := ?vb37) rfl rfl (by kernel_rfl) (by kernel_rfl) (by kernel_rfl) (fun _ _ _ h => h) (by kernel_rfl) ?hyb37 ?_
                      case hyb37 => (go_simp; try (with_reducible rfl))
                      simp only [Act.put, List.setIfInBounds_toArray, List.set_cons_zero, List.set_cons_succ]
                      refine takeW_on (i := 15) 107 (v := ?vb38) rfl rfl (by kernel_rfl) (by kernel_rfl) (by kernel_rfl) (fun _ _ _ h => h) (by kernel_rfl) ?hyb38 ?_
                      case hyb38 => (go_simp; try (with_reducible rfl))
                      simp only [Act.put, List.setIfInBounds_toArray, List.set_cons_zero, List.set_cons_succ]
                      refine takeW_on (i := 16) 108 (v := ?vb39) rfl rfl (by kernel_rfl) (by kernel_rfl) (by kernel_rfl) (fun _ _ _ h => h) (by kernel_rfl) ?hyb39 ?_
                      case hyb39 => (go_simp; try (with_reducible rfl))
                      simp only [Act.put, List.setIfInBounds_toArray, List.set_cons_zero, List.set_cons_succ]
                      refine wpAnyH_done (by kernel_rfl) ?_ _
                      go_wp2
                      go_ret
                      exact ⟨by rw [loadE_no HNone.out]; rfl, HFr.out _ HG5.out⟩
                    · go_simp
                      refine hK _ _ ?_
                      clear hK K
                      refine wpAny_ready (rs := [0]) (by kernel_rfl) (by simp) (AllReady.cons rfl (fun K hK => ?_) AllReady.nil)
                      go_simp
                      refine hK _ _ ?_
                      clear hK K
                      refine wpAny_ready (rs := [5]) (by kernel_rfl) (by simp) (AllReady.cons rfl (fun K hK => ?_) AllReady.nil)
                      go_simp
                      refine (rfree_any P L _ _ _ _ _ cv x _ (HR3.out.ch ((Ch.refl NoB _).drew) (fun _ _ _ => noB _)) HAG.out).mono ?_
                      rintro e w5 ⟨rfl, g5⟩
                      rw [HFB.out]
                      have g5' := ((Ch.refl NoB U).drew).trans' g5
                      have t5 := (g5'.cell (o := o2 + j3) gl2 (noB _)).trans t2
                      have HG5 := hid (HG3.out.trans' g5'.any)
                      have y5 := (g5'.cell (o := k) gl3 (noB _)).trans y0
                      clear g5 g5'
                      go_wp2_with fail
                      refine held_here ?_
                      refine takeW_on (i := 6) 98 (v := ?vb40) rfl rfl (by kernel_rfl) (by kernel_rfl) (by kernel_rfl) (fun _ _ _ h => h) (by kernel_rfl) ?hyb40 ?_
                      case hyb40 => (go_simp; try (with_reducible rfl))
                      simp only [Act.put, List.setIfInBounds_toArray, List.set_cons_zero, List.set_cons_succ]
                      refine takeW_on (i := 7) 99 (v := ?vb41) rfl rfl (by kernel_rfl) (by kernel_rfl) (by kernel_rfl) (fun _ _ _ h => h) (by kernel_rfl) ?hyb41 ?_
                      case hyb41 => (go_simp; try (with_reducible rfl))
                      simp only [Act.put, List.setIfInBounds_toArray, List.set_cons_zero, List.set_cons_succ]
                      refine takeW_on (i := 8) 100 (v := ?vb42) rfl rfl (by kernel_rfl) (by kernel_rfl) (by kernel_rfl) (fun _ _ _ h => h) (by kernel_rfl) ?hyb42 ?_
                      case hyb42 => (go_simp; try (with_reducible rfl))
                      simp only [Act.put, List.setIfInBounds_toArray, List.set_cons_zero, List.set_cons_succ]
                      refine takeW_on (i := 9) 101 (v := ?vb43) rfl rfl (by kernel_rfl) (by kernel_rfl) (by kernel_rfl) (fun _ _ _ h => h) (by kernel_rfl) ?hyb43 ?_
                      case hyb43 => (go_simp; try (with_reducible rfl))
                      simp only [Act.put, List.setIfInBounds_toArray, List.set_cons_zero, List.set_cons_succ]
                      refine takeW_on (i := 10) 102 (v := ?vb44) rfl rfl (by kernel_rfl) (by kernel_rfl) (by kernel_rfl) (fun _ _ _ h => h) (by kernel_rfl) ?hyb44 ?_
                      case hyb44 => (go_simp; try (with_reducible rfl))
                      simp only [Act.put, List.setIfInBounds_toArray, List.set_cons_zero, List.set_cons_succ]
                      refine takeW_on (i := 11) 103 (v := ?vb45) rfl rfl (by kernel_rfl) (by kernel_rfl) (by kernel_rfl) (fun _ _ _ h => h) (by kernel_rfl) ?hyb45 ?_
                      case hyb45 => (go_simp; try (with_reducible rfl))
                      simp only [Act.put, List.setIfInBounds_toArray, List.set_cons_zero, List.set_cons_succ]
                      refine takeW_on (i := 12) 104 (v := ?vb46) rfl rfl (by kernel_rfl) (by kernel_rfl) (by kernel_rfl) (fun _ _ _ h => h) (by kernel_rfl) ?hyb46 ?_
                      case hyb46 => (go_simp; try (with_reducible rfl))
                      simp only [Act.put, List.setIfInBounds_toArray, List.set_cons_zero, List.set_cons_succ]
                      refine takeW_on (i := 13) 105 (v := ?vb47) rfl rfl (by kernel_rfl) (by kernel_rfl) (by kernel_rfl) (fun _ _ _ h => h) (by kernel_rfl) ?hyb47 ?_
                      case hyb47 => (go_simp; try (with_reducible rfl))
                      simp only [Act.put, List.setIfInBounds_toArray, List.set_cons_zero, List.set_cons_succ]
                      refine takeW_on (i := 14) 106 (v := ?vb48) rfl rfl (by kernel_rfl) (by kernel_rfl) (by kernel_rfl) (fun _ _ _ h => h) (by kernel_rfl) ?hyb48 ?_
                      case hyb48 => (go_simp; try (with_reducible rfl))
                      simp only [Act.put, List.setIfInBounds_toArray, List.set_cons_zero, List.set_cons_succ]
                      refine takeW_on (i := 15) 107 (v := ?vb49) rfl rfl (by kernel_rfl) (by kernel_rfl) (by kernel_rfl) (fun _ _ _ h => h) (by kernel_rfl) ?hyb49 ?_
                      case hyb49 => (go_simp; try (with_reducible rfl))
                      simp only [Act.put, List.setIfInBounds_toArray, List.set_cons_zero, List.set_cons_succ]
                      refine takeW_on (i := 16) 108 (v := ?vb50) rfl rfl (by kernel_rfl) (by kernel_rfl) (by kernel_rfl) (fun _ _ _ h => h) (by kernel_rfl) ?hyb50 ?_
                      case hyb50 => (go_simp; try (with_reducible rfl))
                      simp only [Act.put, List.setIfInBounds_toArray, List.set_cons_zero, List.set_cons_succ]
                      refine wpAnyH_done (by kernel_rfl) ?_ _
                      go_wp2
                      go_ret
                      exact ⟨by rw [loadE_no HNone.out]; rfl, HFr.out _ HG5.out⟩
                  · have htz : t = 0 := by omega
                    subst htz
                    obtain ⟨hs1, hs2⟩ := HRL3.out.struck hk ht (c.drop (j3 + 1))
                    have HS1 := hid hs1
                    have HS2 := hid hs2
                    have HT := hid ht
                    clear hk ht yset hs1 hs2 htn ht0
                    go_wp2_with fail
                    refine wp_region_any (by kernel_rfl) ?_
                    change wpAny _ _ _ _ _ _ _ (World.drew _)
                    refine take_on (i := 1) 93 (v := ?vb51) rfl rfl (by kernel_rfl) (by kernel_rfl) (by kernel_rfl) (fun _ _ _ h => h) (by kernel_rfl) ?hyb51 ?_
                    case hyb51 => (intro w; go_simp; try (with_reducible rfl))
                    simp only [Act.put, List.setIfInBounds_toArray, List.set_cons_zero, List.set_cons_succ]
                    refine take_on (i := 2) 94 (v := ?vb52) rfl rfl (by kernel_rfl) (by kernel_rfl) (by kernel_rfl) (fun _ _ _ h => h) (by kernel_rfl) ?hyb52 ?_
                    case hyb52 => (intro w; go_simp; try (with_reducible rfl))
                    simp only [Act.put, List.setIfInBounds_toArray, List.set_cons_zero, List.set_cons_succ]
                    refine take_on (i := 3) 95 (v := ?vb53) rfl rfl (by kernel_rfl) (by kernel_rfl) (by kernel_rfl) (fun _ _ _ h => h) (by kernel_rfl) ?hyb53 ?_
                    case hyb53 => (intro w; go_simp; try (with_reducible rfl))
                    simp only [Act.put, List.setIfInBounds_toArray, List.set_cons_zero, List.set_cons_succ]
                    refine wpAny_ready (rs := [0, 4]) (by kernel_rfl) (by simp) (AllReady.cons rfl (fun K hK => ?_) (AllReady.cons rfl (fun K hK => ?_) AllReady.nil))
                    · go_simp
                      refine hK _ _ ?_
                      clear hK K
                      refine wpAny_ready (rs := [4]) (by kernel_rfl) (by simp) (AllReady.cons rfl (fun K hK => ?_) AllReady.nil)
                      go_simp
                      refine hK _ _ ?_
                      clear hK K
                      refine wpAny_ready (rs := [5]) (by kernel_rfl) (by simp) (AllReady.cons rfl (fun K hK => ?_) AllReady.nil)
                      go_simp
                      refine (rfree_any P L _ _ _ _ _ cv x _ (HR3.out.ch ((Ch.refl NoB _).drew) (fun _ _ _ => noB _)) HAG.out).mono ?_
                      rintro e w5 ⟨rfl, g5⟩
                      rw [HFB.out]
                      have g5' := ((Ch.refl NoB U).drew).trans' g5
                      have t5 := (g5'.cell (o := o2 + j3) gl2 (noB _)).trans t2
                      have HG5 := hid (HG3.out.trans' g5'.any)
                      have HO5 := hid (HO3.out.ch g5' (fun _ _ => noB _))
                      have HV5 := hid (HV3.out.trans' g5'.any)
                      obtain ⟨b5, q5, e5, -, gl5, -, y5, yf5, ys5⟩ := HO5.out.get (iv_get HT.out)
                      injection e5 with a1 a2 a3
                      injection a1 with a1
                      injection a1 with a1 a4 a5
                      subst a1
                      have YS := hid ys5
                      clear g5 g5' a2 a3 a4 a5 ys5
                      go_wp2_with fail
                      refine held_here ?_
                      refine takeW_on (i := 6) 98 (v := ?vb54) rfl rfl (by kernel_rfl) (by kernel_rfl) (by kernel_rfl) (fun _ _ _ h => h) (by kernel_rfl) ?hyb54 ?_
                      case hyb54 => (go_simp; try (with_reducible rfl))
                      simp only [Act.put, List.setIfInBounds_toArray, List.set_cons_zero, List.set_cons_succ]
                      refine takeW_on (i := 7) 99 (v := ?vb55) rfl rfl (by kernel_rfl) (by kernel_rfl) (by kernel_rfl) (fun _ _ _ h => h) (by kernel_rfl) ?hyb55 ?_
                      case hyb55 => (go_simp; try (with_reducible rfl))
                      simp only [Act.put, List.setIfInBounds_toArray, List.set_cons_zero, List.set_cons_succ]
                      refine takeW_on (i := 8) 100 (v := ?vb56) rfl rfl (by kernel_rfl) (by kernel_rfl) (by kernel_rfl) (fun _ _ _ h => h) (by kernel_rfl) ?hyb56 ?_
                      case hyb56 => (go_simp; try (with_reducible rfl))
                      simp only [Act.put, List.setIfInBounds_toArray, List.set_cons_zero, List.set_cons_succ]
                      refine takeW_on (i := 9) 101 (v := ?vb57) rfl rfl (by kernel_rfl) (by kernel_rfl) (by kernel_rfl) (fun _ _ _ h => h) (by kernel_rfl) ?hyb57 ?_
                      case hyb57 => (go_simp; try (with_reducible rfl))
                      simp only [Act.put, List.setIfInBounds_toArray, List.set_cons_zero, List.set_cons_succ]
                      refine takeW_on (i := 10) 102 (v := ?vb58) rfl rfl (by kernel_rfl) (by kernel_rfl) (by kernel_rfl) (fun _ _ _ h => h) (by kernel_rfl) ?hyb58 ?_
                      case hyb58 => (go_simp; try (with_reducible rfl))
                      simp only [Act.put, List.setIfInBounds_toArray, List.set_cons_zero, List.set_cons_succ]
                      refine takeW_on (i := 11) 103 (v := ?vb59) rfl rfl (by kernel_rfl) (by kernel_rfl) (by kernel_rfl) (fun _ _ _ h => h) (by kernel_rfl) ?hyb59 ?_
                      case hyb59 => (go_simp; try (with_reducible rfl))
                      simp only [Act.put, List.setIfInBounds_toArray, List.set_cons_zero, List.set_cons_succ]
                      refine takeW_on (i := 12) 104 (v := ?vb60) rfl rfl (by kernel_rfl) (by kernel_rfl) (by kernel_rfl) (fun _ _ _ h => h) (by kernel_rfl) ?hyb60 ?_
                      case hyb60 => (go_simp; try (with_reducible rfl))
                      simp only [Act.put, List.setIfInBounds_toArray, List.set_cons_zero, List.set_cons_succ]
                      refine takeW_on (i := 13) 105 (v := ?vb61) rfl rfl (by kernel_rfl) (by kernel_rfl) (by kernel_rfl) (fun _ _ _ h => h) (by kernel_rfl) ?hyb61 ?_
                      case hyb61 => (go_simp; try (with_reducible rfl))
                      simp only [Act.put, List.setIfInBounds_toArray, List.set_cons_zero, List.set_cons_succ]
                      refine takeW_on (i := 14) 106 (v := ?vb62) rfl rfl (by kernel_rfl) (by kernel_rfl) (by kernel_rfl) (fun _ _ _ h => h) (by kernel_rfl) ?hyb62 ?_
                      case hyb62 => (go_simp; try (with_reducible rfl))
                      simp only [Act.put, List.setIfInBounds_toArray, List.set_cons_zero, List.set_cons_succ]
                      refine takeW_on (i := 15) 107 (v := ?vb63) rfl rfl (by kernel_rfl) (by kernel_rfl) (by kernel_rfl) (fun _ _ _ h => h) (by kernel_rfl) ?hyb63 ?_
                      case hyb63 => (go_simp; try (with_reducible rfl))
                      simp only [Act.put, List.setIfInBounds_toArray, List.set_cons_zero, List.set_cons_succ]
                      refine takeW_on (i := 16) 108 (v := ?vb64) rfl rfl (by kernel_rfl) (by kernel_rfl) (by kernel_rfl) (fun _ _ _ h => h) (by kernel_rfl) ?hyb64 ?_
                      case hyb64 => (go_simp; try (with_reducible rfl))
                      simp only [Act.put, List.setIfInBounds_toArray, List.set_cons_zero, List.set_cons_succ]
                      refine wpAnyH_done (by kernel_rfl) ?_ _
                      go_wp2
                      go_roundg (gk - 1)
                      case measure => omega
                      case rel => exact ⟨j3 + 1, M3.set k false, T3.set k 1, by omega, by simp, HS2.out, by rw [HST3.out, HD.out]; exact HS1.out, by have := YS.out (.int .i64 1); rw [iv_set] at this; exact this, HG5.out.setCell (p := ⟨bx, k, none⟩) (.inl rfl) _, HV5.out.setCell (p := ⟨bx, k, none⟩) (.inl rfl) _⟩
                    · go_simp
                      refine hK _ _ ?_
                      clear hK K
                      refine wpAny_ready (rs := [0]) (by kernel_rfl) (by simp) (AllReady.cons rfl (fun K hK => ?_) AllReady.nil)
                      go_simp
                      refine hK _ _ ?_
                      clear hK K
                      refine wpAny_ready (rs := [5]) (by kernel_rfl) (by simp) (AllReady.cons rfl (fun K hK => ?_) AllReady.nil)
                      go_simp
                      refine (rfree_any P L _ _ _ _ _ cv x _ (HR3.out.ch ((Ch.refl NoB _).drew) (fun _ _ _ => noB _)) HAG.out).mono ?_
                      rintro e w5 ⟨rfl, g5⟩
                      rw [HFB.out]
                      have g5' := ((Ch.refl NoB U).drew).trans' g5
                      have t5 := (g5'.cell (o := o2 + j3) gl2 (noB _)).trans t2
                      have HG5 := hid (HG3.out.trans' g5'.any)
                      have HO5 := hid (HO3.out.ch g5' (fun _ _ => noB _))
                      have HV5 := hid (HV3.out.trans' g5'.any)
                      obtain ⟨b5, q5, e5, -, gl5, -, y5, yf5, ys5⟩ := HO5.out.get (iv_get HT.out)
                      injection e5 with a1 a2 a3
                      injection a1 with a1
                      injection a1 with a1 a4 a5
                      subst a1
                      have YS := hid ys5
                      clear g5 g5' a2 a3 a4 a5 ys5
                      go_wp2_with fail
                      refine held_here ?_
                      refine takeW_on (i := 6) 98 (v := ?vb65) rfl rfl (by kernel_rfl) (by kernel_rfl) (by kernel_rfl) (fun _ _ _ h => h) (by kernel_rfl) ?hyb65 ?_
                      case hyb65 => (go_simp; try (with_reducible rfl))
                      simp only [Act.put, List.setIfInBounds_toArray, List.set_cons_zero, List.set_cons_succ]
                      refine takeW_on (i := 7) 99 (v := ?vb66) rfl rfl (by kernel_rfl) (by kernel_rfl) (by kernel_rfl) (fun _ _ _ h => h) (by kernel_rfl) ?hyb66 ?_
                      case hyb66 => (go_simp; try (with_reducible rfl))
                      simp only [Act.put, List.setIfInBounds_toArray, List.set_cons_zero, List.set_cons_succ]
                      refine takeW_on (i := 8) 100 (v := ?vb67) rfl rfl (by kernel_rfl) (by kernel_rfl) (by kernel_rfl) (fun _ _ _ h => h) (by kernel_rfl) ?hyb67 ?_
                      case hyb67 => (go_simp; try (with_reducible rfl))
                      simp only [Act.put, List.setIfInBounds_toArray, List.set_cons_zero, List.set_cons_succ]
                      refine takeW_on (i := 9) 101 (v := ?vb68) rfl rfl (by kernel_rfl) (by kernel_rfl) (by kernel_rfl) (fun _ _ _ h => h) (by kernel_rfl) ?hyb68 ?_
                      case hyb68 => (go_simp; try (with_reducible rfl))
                      simp only [Act.put, List.setIfInBounds_toArray, List.set_cons_zero, List.set_cons_succ]
                      refine takeW_on (i := 10) 102 (v := ?vb69) rfl rfl (by kernel_rfl) (by kernel_rfl) (by kernel_rfl) (fun _ _ _ h => h) (by kernel_rfl) ?hyb69 ?_
                      case hyb69 => (go_simp; try (with_reducible rfl))
                      simp only [Act.put, List.setIfInBounds_toArray, List.set_cons_zero, List.set_cons_succ]
                      refine takeW_on (i := 11) 103 (v := ?vb70) rfl rfl (by kernel_rfl) (by kernel_rfl) (by kernel_rfl) (fun _ _ _ h => h) (by kernel_rfl) ?hyb70 ?_
                      case hyb70 => (go_simp; try (with_reducible rfl))
                      simp only [Act.put, List.setIfInBounds_toArray, List.set_cons_zero, List.set_cons_succ]
                      refine takeW_on (i := 12) 104 (v := ?vb71) rfl rfl (by kernel_rfl) (by kernel_rfl) (by kernel_rfl) (fun _ _ _ h => h) (by kernel_rfl) ?hyb71 ?_
                      case hyb71 => (go_simp; try (with_reducible rfl))
                      simp only [Act.put, List.setIfInBounds_toArray, List.set_cons_zero, List.set_cons_succ]
                      refine takeW_on (i := 13) 105 (v := ?vb72) rfl rfl (by kernel_rfl) (by kernel_rfl) (by kernel_rfl) (fun _ _ _ h => h) (by kernel_rfl) ?hyb72 ?_
                      case hyb72 => (go_simp; try (with_reducible rfl))
                      simp only [Act.put, List.setIfInBounds_toArray, List.set_cons_zero, List.set_cons_succ]
                      refine takeW_on (i := 14) 106 (v := ?vb73) rfl rfl (by kernel_rfl) (by kernel_rfl) (by kernel_rfl) (fun _ _ _ h => h) (by kernel_rfl) ?hyb73 ?_
                      case hyb73 => (go_simp; try (with_reducible rfl))
                      simp only [Act.put, List.setIfInBounds_toArray, List.set_cons_zero, List.set_cons_succ]
                      refine takeW_on (i := 15) 107 (v := ?vb74) rfl rfl (by kernel_rfl) (by kernel_rfl) (by kernel_rfl) (fun _ _ _ h => h) (by kernel_rfl) ?hyb74 ?_
                      case hyb74 => (go_simp; try (with_reducible rfl))
                      simp only [Act.put, List.setIfInBounds_toArray, List.set_cons_zero, List.set_cons_succ]
                      refine takeW_on (i := 16) 108 (v := ?vb75) rfl rfl (by kernel_rfl) (by kernel_rfl) (by kernel_rfl) (fun _ _ _ h => h) (by kernel_rfl) ?hyb75 ?_
                      case hyb75 => (go_simp; try (with_reducible rfl))
                      simp only [Act.put, List.setIfInBounds_toArray, List.set_cons_zero, List.set_cons_succ]
                      refine wpAnyH_done (by kernel_rfl) ?_ _
                      go_wp2
                      go_roundg (gk - 1)
                      case measure => omega
                      case rel => exact ⟨j3 + 1, M3.set k false, T3.set k 1, by omega, by simp, HS2.out, by rw [HST3.out, HD.out]; exact HS1.out, by have := YS.out (.int .i64 1); rw [iv_set] at this; exact this, HG5.out.setCell (p := ⟨bx, k, none⟩) (.inl rfl) _, HV5.out.setCell (p := ⟨bx, k, none⟩) (.inl rfl) _⟩
              · have hk3 : strikeL M c = some M3 := by
                  rw [HST3.out, List.drop_eq_nil_of_le (by rw [← HNU.out]; omega)]
                  rfl
                have HY := hid (HYes.out M3 hk3)
                clear hk3
                go_wp2
                go_roundg (K1 - 1)
                case measure => omega
                case rel => exact ⟨j2 + 1, M3, T3, hk2, by simp, HRL3.out, HY.out, HO3.out, HG3.out⟩
          · have hj4 : j2 = nC + 1 := by omega
            subst hj4
            have HA := hid (show listsB x = !(M.any id) from (show Mid x (x.C.length + 1) M by rw [← HCL.out]; exact HM.out).any)
            clear HM
            go_wp2_with fail
            go_loopg [10] nG (fun k i wv => ∃ (j3 : Nat), j3 + k = nG ∧ i = .int .i64 ((j3 : Nat) : Int) ∧ (∀ q, q < j3 → M[q]? ≠ some true) ∧ Ow 3 bx wv (.slice (some ⟨bx, 0, none⟩) nG nG) (iv T) ∧ Ch (Blk (.slice (some ⟨bx, 0, none⟩) nG nG)) W1 wv)
            case atStart => exact ⟨0, by omega, rfl, fun q a => by omega, HO2.out, HG2.out⟩
            case round =>
              obtain ⟨j3, hjk3, rfl, hno, ho3, hg3⟩ := hrel
              obtain ⟨U, hU⟩ : ∃ W, W = wr := ⟨_, rfl⟩
              subst hU
              obtain ⟨c0, c1, c2, c3, c4⟩ := (HF1.out.ch hg3 nb0).cells
              have ub := (HF1.out.ch hg3 nb0).lt
              have HNO := hid hno
              have HO3 := hid ho3
              have HG3 := hid hg3
              have HR3 := hid (HR1.out.ch hg3 (fun q _ a => HPD.out q a))
              clear hno ho3 hg3
              by_cases hj3 : j3 < nG
              · obtain ⟨t, ht⟩ : ∃ t, T[j3]? = some t := ⟨_, List.getElem?_eq_getElem (by rw [HRL.out.tl, ← HN.out]; exact hj3)⟩
                obtain ⟨g3, cap3, e3, -, gl3, -, y0, yf, yset⟩ := HO3.out.get (iv_get ht)
                injection e3 with a1 a2 a3
                injection a1 with a1
                injection a1 with a1 a4 a5
                subst a1
                clear a2 a3 a4 a5
                have k0 : (0 : Int) ≤ (j3 : Int) := by omega
                have k1 : (j3 : Int) < (nG : Int) := by omega
                have hm := HRL.out.mt j3
                rw [ht] at hm
                have hfb : freeB x (j3 : Int) = true ↔ (freeL x)[j3]? = some true := by
                  unfold freeB
                  rw [decide_eq_true_eq, Int.toNat_natCast]
                  exact ⟨fun a => a.2, fun a => ⟨by omega, a⟩⟩
                rw [← hfb] at hm
                have HMt := hid hm
                have nx : M[j3]? ≠ some true → ∀ q, q < j3 + 1 → M[q]? ≠ some true := fun a q b => by
                  by_cases e : q = j3
                  · rw [e]; exact a
                  · exact HNO.out q (by omega)
                have HNx := hid nx
                clear ht hm hfb nx yset yf
                go_wp2_with fail
                refine (rfree_any P L _ _ _ _ _ cv x _ HR3.out HAG.out).mono ?_
                rintro e w5 ⟨rfl, g5⟩
                have y5 := (g5.cell (o := j3) gl3 (noB _)).trans y0
                have HG5 := hid (HG3.out.trans' g5.any)
                have HO5 := hid (HO3.out.ch g5 (fun _ _ => noB _))
                clear g5
                cases hf : freeB x (j3 : Int) with
                | false =>
                  have HN1 := hid (HNx.out (fun a => by rw [hf] at HMt; exact absurd (HMt.out.1 a).1 (by simp)))
                  clear hf
                  go_wp2
                  go_roundg (gk - 1)
                  case measure => omega
                  case rel => exact ⟨j3 + 1, by omega, by simp, HN1.out, HO5.out, HG5.out⟩
                | true =>
                  rw [hf] at HMt
                  clear hf
                  by_cases ht0 : t = 0
                  · have hm : M[j3]? = some true := HMt.out.2 ⟨rfl, by rw [ht0]⟩
                    subst ht0
                    have HL := hid (show listsB x = false by rw [HA.out, List.any_eq_true.2 ⟨true, List.mem_of_getElem? hm, rfl⟩]; rfl)
                    clear hm
                    go_wp2
                    go_ret
                    exact ⟨by rw [loadE_no HL.out]; rfl, HFr.out _ HG5.out⟩
                  · have dt : (t == 0) = false := by simpa using ht0
                    have HN1 := hid (HNx.out (fun a => by have := (HMt.out.1 a).2; injection this with this; exact ht0 this))
                    go_wp2
                    go_roundg (gk - 1)
                    case measure => omega
                    case rel => exact ⟨j3 + 1, by omega, by simp, HN1.out, HO5.out, HG5.out⟩
              · have HL := hid (show listsB x = true by
                  rw [HA.out]
                  have : M.any id = false := by
                    rw [List.any_eq_false]
                    intro y hy
                    obtain ⟨q, hq, e⟩ := List.getElem_of_mem hy
                    have h5 := HNO.out q (by have := HRL.out.ml; have := HN.out; omega)
                    rw [List.getElem?_eq_getElem hq, e] at h5
                    intro hy2
                    exact h5 (by rw [show y = true from hy2])
                  rw [this]
                  rfl)
                go_wp2
                go_ret
                exact ⟨by rw [loadE_yes HL.out]; rfl, HFr.out _ HG3.out⟩
end Go.Proofs.Ytfbkifkfhgkdbab.Sb
