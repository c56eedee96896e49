/-
  What the program's casesFit answers. Conditions: lists are no longer than the reach lets be; the tables lie where they lie.
-/
import Derived.Test.YtbehlhnnfdkmaaaGreatDoorLtPart
import Derived.Test.YtbehlhnnfdkmaaaGreatDoorLtKind
namespace Go.Proofs.YtbehlhnnfdkmaaaGreatDoor.Lt
open Go.RowKit Wd

/-- are a case's fields registers? -/
def cf (c : Cs) : Bool := if c.send = true then fit (sh 29) c.ch c.val 0 0 else fit (sh 30) c.ch c.val c.ok 0
theorem case_encode (c : Cs) (w : World) (hg : Glb w) : Calls Tryz.prog 54 #[iV (cI c)] w fun e w' => (∃ x, e = .returned (.tuple #[.int .u32 x, .int .i64 (if cf c = true then 0 else 61)])) ∧ Gr w w' := by
  obtain ⟨s, a, b, d⟩ := c
  cases s with
  | true =>
    cases hq : fit (sh 29) a b 0 0 with
    | true =>
      refine (encode_ok 29 a b 0 0 (by omega) (by omega) hq w hg.n hg.f).mono ?_
      rintro e w1 ⟨rfl, g⟩
      refine ⟨⟨((29 : Nat) : Int) * 16777216 + a * 1048576 + b * 65536 + 0 % 65536 + 0, ?_⟩, g⟩
      have e1 : cf ⟨true, a, b, d⟩ = true := hq
      rw [e1]
      rfl
    | false =>
      refine (encode_bad 29 a b 0 0 (by omega) (by omega) hq w hg.n hg.f).mono ?_
      rintro e w1 ⟨rfl, g⟩
      refine ⟨⟨0, ?_⟩, g⟩
      have e1 : cf ⟨true, a, b, d⟩ = false := hq
      rw [e1]
      rfl
  | false =>
    cases hq : fit (sh 30) a b d 0 with
    | true =>
      refine (encode_ok 30 a b d 0 (by omega) (by omega) hq w hg.n hg.f).mono ?_
      rintro e w1 ⟨rfl, g⟩
      refine ⟨⟨((30 : Nat) : Int) * 16777216 + a * 1048576 + b * 65536 + 0 % 65536 + d, ?_⟩, g⟩
      have e1 : cf ⟨false, a, b, d⟩ = true := hq
      rw [e1]
      rfl
    | false =>
      refine (encode_bad 30 a b d 0 (by omega) (by omega) hq w hg.n hg.f).mono ?_
      rintro e w1 ⟨rfl, g⟩
      refine ⟨⟨0, ?_⟩, g⟩
      have e1 : cf ⟨false, a, b, d⟩ = false := hq
      rw [e1]
      rfl
/-- do all cases fit? -/
def cfs (ts : List Tb) : Bool := ts.all (fun t => t.cs.all cf)

set_option maxHeartbeats 1000000 in
set_option maxRecDepth 20000 in
theorem casesFit_any (P : Nat → Prop) (w : World) (vt : Value) (ts : List Tb) (ht : Ls eT P w vt ts) (hcs : ∀ t ∈ ts, Ls eC P w t.cv t.cs) (hl : ts.length ≤ 4398046511104) (hq : ∀ t ∈ ts, t.cs.length ≤ 4398046511104) (hg : Glb w) :
    Calls Tryz.prog 82 #[vt] w fun e w' => e = .returned (.bool (cfs ts)) ∧ Gr w w' := by
  obtain ⟨aot, cat, hic⟩ := ht.form
  have HT := hid ht
  have HC := hid hcs
  have HQ := hid hq
  have HG := hid hg
  obtain ⟨B, hB⟩ : ∃ b, b = cfs ts := ⟨_, rfl⟩
  rw [← hB]
  have HB := hid hB
  obtain ⟨nt, hnt⟩ : ∃ n, n = ts.length := ⟨_, rfl⟩
  rw [← hnt] at hic hl
  have HN := hid hnt
  subst hic
  clear ht hcs hq hg hB hnt
  go_enter Tryz.func82, Tryz.ntmps82
  go_wp2_with fail
  go_loopg [11] nt (fun m i wq => ∃ j : Nat, j + m = nt ∧ i = .int .i64 ((j : Nat) : Int) ∧ (∀ (l : Nat) t, l < j → ts[l]? = some t → t.cs.all cf = true) ∧ Gr w wq)
  case atStart => exact ⟨0, by omega, rfl, fun l t q => by omega, Gr.refl w⟩
  case round =>
    obtain ⟨j, hjk, rfl, hal, hgr⟩ := hrel
    have HA := hid hal
    have HR := hid hgr
    obtain ⟨GK, hGK⟩ : ∃ n, n = gk - 1 := ⟨_, rfl⟩
    have HGK := hid hGK
    have HJ := hid hjk
    clear hal hgr hGK
    by_cases hj : j < nt
    · obtain ⟨t, hx⟩ : ∃ x, ts[j]? = some x := ⟨_, List.getElem?_eq_getElem (by rw [← HN.out]; exact hj)⟩
      have HX := hid hx
      have HM := hid (List.mem_of_getElem? hx)
      obtain ⟨g, o, cap', hv, _, hgl, hcap, hcs⟩ := HT.out.get eT_len hx
      injection hv with hv1 hv2 hv3
      subst hv1
      obtain ⟨nq, hnq⟩ : ∃ n, n = t.cs.length := ⟨_, rfl⟩
      have HNQ := hid hnq
      have hq := HQ.out t HM.out
      rw [← hnq] at hq
      obtain ⟨aq, cq, hcv⟩ := (HC.out t HM.out).form
      rw [← hnq] at hcv
      have HCV := hid hcv
      have c0 := (HR.out.cell hgl).trans (hcs 0 _ rfl)
      have c1 := (HR.out.cell hgl).trans (hcs 1 _ rfl)
      rw [Nat.add_zero, hcv] at c0
      have gs := HR.out.size
      have lg : g < wr.heap.size := by omega
      have j0 : (0 : Int) ≤ (j : Int) := by omega
      have j1 : (j : Int) < (nt : Int) := by omega
      have HK := hid (show Gr w (wr.alloc (.cells #[.slice aq nq cq, .bool t.df] 44)) from Ch.alloc HR.out _)
      clear hv2 hv3 hcs hx hcap hgl hnq hcv hjk
      go_wp2_with fail
      clear c0 c1 lg gs
      rename World => V
      go_loopg [18] nq (fun m i wq => ∃ k : Nat, k + m = nq ∧ i = .int .i64 ((k : Nat) : Int) ∧ (∀ (l : Nat) c, l < k → t.cs[l]? = some c → cf c = true) ∧ Gr w wq)
      case atStart => exact ⟨0, by omega, rfl, fun l c q => by omega, HK.out⟩
      case round =>
        clear HK
        obtain ⟨k, hkk, rfl, hall, hgr⟩ := hrel
        have HA2 := hid hall
        have HR2 := hid hgr
        clear hall hgr
        by_cases hk : k < nq
        · obtain ⟨c, hx⟩ : ∃ x, t.cs[k]? = some x := ⟨_, List.getElem?_eq_getElem (by rw [← HNQ.out]; exact hk)⟩
          have HX2 := hid hx
          obtain ⟨gq, oq, cap', hv, _, hgl, hcap, hcs⟩ := (HC.out t HM.out).get eC_len hx
          rw [HCV.out] at hv
          injection hv with hv1 hv2 hv3
          subst hv1
          have c0 := (HR2.out.cell hgl).trans (hcs 0 _ rfl)
          have c1 := (HR2.out.cell hgl).trans (hcs 1 _ rfl)
          have c2 := (HR2.out.cell hgl).trans (hcs 2 _ rfl)
          have c3 := (HR2.out.cell hgl).trans (hcs 3 _ rfl)
          rw [Nat.add_zero] at c0
          have gs := HR2.out.size
          have lq : gq < wr.heap.size := by omega
          have q0 : (0 : Int) ≤ (k : Int) := by omega
          have q1 : (k : Int) < (nq : Int) := by omega
          have K1 := hid (show Gr w (wr.alloc (.cells #[.bool c.send, .int .i64 c.ch, .int .i64 c.val, .int .i64 c.ok] 46)) from Ch.alloc HR2.out _)
          have HI := hid (fun (W : World) => caseInstr_any c W)
          have HE := hid (fun (W : World) (q : Glb W) => case_encode c W q)
          unfold iV at HI HE
          generalize cI c = ci at HI HE
          clear hv2 hv3 hcs hx hcap hgl
          by_cases hf : cf c = true
          · rw [if_pos hf] at HE
            go_wp2_with (first | (go_at_call 85; refine (HI.out _).mono ?_; rintro e w1 ⟨rfl, g1⟩; have G1 := hid (Gr.trans K1.out g1); clear g1) | (go_at_call 54; refine (HE.out _ (HG.out.gr G1.out)).mono ?_; rintro e w2 ⟨⟨x, rfl⟩, g2⟩; have G2 := hid (Gr.trans G1.out g2); clear g2))
            go_roundg (gk - 1)
            case measure => omega
            case rel =>
              refine ⟨k + 1, by omega, by simp, fun l d q1 q2 => ?_, G2.out⟩
              by_cases e : l = k
              · subst e
                rw [HX2.out] at q2
                injection q2 with q2
                rw [← q2]
                exact hf
              · exact HA2.out l d (by omega) q2
          · rw [if_neg hf] at HE
            have hb : B = false := by
              rw [HB.out]
              unfold cfs
              rw [List.all_eq_false]
              refine ⟨t, HM.out, ?_⟩
              simp only [List.all_eq_true, Classical.not_forall]
              exact ⟨c, List.mem_of_getElem? HX2.out, hf⟩
            subst hb
            go_wp2_with (first | (go_at_call 85; refine (HI.out _).mono ?_; rintro e w1 ⟨rfl, g1⟩; have G1 := hid (Gr.trans K1.out g1); clear g1) | (go_at_call 54; refine (HE.out _ (HG.out.gr G1.out)).mono ?_; rintro e w2 ⟨⟨x, rfl⟩, g2⟩; have G2 := hid (Gr.trans G1.out g2); clear g2))
            go_ret
            exact ⟨rfl, G2.out⟩
        · have kn : ¬ (k : Int) < (nq : Int) := by omega
          have HT2 := hid (show t.cs.all cf = true by
            rw [List.all_eq_true]
            intro c hc
            obtain ⟨l, hl⟩ := List.getElem?_of_mem hc
            exact HA2.out l c (by have := (List.getElem?_eq_some_iff.1 hl).1; rw [← HNQ.out] at this; omega) hl)
          go_wp2_with fail
          go_roundg GK
          case measure => have := HGK.out; have := HJ.out; omega
          case rel =>
            refine ⟨j + 1, by have := HGK.out; have := HJ.out; omega, by simp, fun l d q1 q2 => ?_, HR2.out⟩
            by_cases e : l = j
            · subst e
              rw [HX.out] at q2
              injection q2 with q2
              rw [← q2]
              exact HT2.out
            · exact HA.out l d (by omega) q2
    · have jn : ¬ (j : Int) < (nt : Int) := by omega
      have hb : B = true := by
        rw [HB.out]
        unfold cfs
        rw [List.all_eq_true]
        intro t hm
        obtain ⟨l, hl⟩ := List.getElem?_of_mem hm
        exact HA.out l t (by have := (List.getElem?_eq_some_iff.1 hl).1; rw [← HN.out] at this; omega) hl
      subst hb
      go_wp2
      go_ret
      exact ⟨rfl, HR.out⟩
end Go.Proofs.YtbehlhnnfdkmaaaGreatDoor.Lt
