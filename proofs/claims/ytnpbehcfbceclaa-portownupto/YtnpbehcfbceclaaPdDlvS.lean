/-
  What the document's Deliver answers of the sampling kind. Condition: the lists have no more than 1024 elements, and ages are ages.
-/
import Derived.Test.YtnpbehcfbceclaaPdGetQ
namespace Go.Proofs.Ytnpbehcfbceclaa.Lt
open Go.RowKit Wd
attribute [local go_sem ↓] Go.wp_at_zero Go.wp_at_succ
set_option maxRecDepth 20000

set_option maxHeartbeats 16000000 in
theorem rdlvs_any {P Q : Nat → Prop} (w : World) (cap lost : Nat) (a1 a2 : Option Addr) (n1 n2 c1 c2 : Nat) (out : List Int) (inn : List Ag) (h1 : Ls eI P w (.slice a1 n1 c1) out) (h2 : Ls eG Q w (.slice a2 n2 c2) inn) (hok : Pt.ok ⟨false, cap, out, inn, lost⟩) :
    Calls Try.prog 27 #[.agg #[.bool false, .int .i64 (cap : Nat), .slice a1 n1 c1, .slice a2 n2 c2, .int .i64 (lost : Nat)]] w fun e w' => ∃ u1 u2, e = .returned (stV (dlvP ⟨false, cap, out, inn, lost⟩) u1 u2) ∧ RdR P Q w (dlvP ⟨false, cap, out, inn, lost⟩) u1 u2 w' := by
  have HA := hid hok.ages
  have k1 : out.length ≤ cap := hok.o
  have k2 : inn.length ≤ cap := hok.i
  have k3 : cap ≤ 1024 := hok.c2
  have k5 : lost ≤ 2147483647 := hok.l
  have hm1 : n1 ≤ 1024 := by have := h1.len.1; omega
  have hm2 : n2 ≤ cap := by have := h2.len.1; omega
  have hm3 : n1 ≤ cap := by have := h1.len.1; omega
  clear hok k1 k2
  unfold dlvP stV RdR
  rw [if_neg Bool.false_ne_true]
  dsimp only
  have HX := hid (show ∀ W, Gr w W → Ls eI P W (.slice a1 n1 c1) out from fun W k => h1.gr k)
  have HL1 := hid h1.len.1
  have HL2 := hid h2.len.1
  obtain ⟨W2, hw2⟩ : ∃ W, W = (w.alloc (.cells #[.bool false, .int .i64 (cap : Nat), .slice a1 n1 c1, .slice a2 n2 c2, .int .i64 (lost : Nat)] 32)).alloc (.cells #[.bool false, .int .i64 0, .slice none 0 0, .slice none 0 0, .int .i64 0] 32) := ⟨_, rfl⟩
  have XB := hid (show W2.heap[w.heap.size]? = some (.cells #[.bool false, .int .i64 (cap : Nat), .slice a1 n1 c1, .slice a2 n2 c2, .int .i64 (lost : Nat)] 32 (0, 0)) by rw [hw2]; exact al_blk (al_at _ rfl) _)
  have XR0 := hid (show W2.heap[w.heap.size + 1]? = some (.cells #[.bool false, .int .i64 0, .slice none 0 0, .slice none 0 0, .int .i64 0] 32 (0, 0)) by rw [hw2]; exact al_at _ (by simp))
  have G2 := hid (show Gr w W2 by rw [hw2]; exact Ch.alloc (Ch.alloc (Gr.refl w) _) _)
  have HS2 := hid (show W2.heap.size = w.heap.size + 2 by rw [hw2]; simp)
  have HC := hid (show Calls Try.prog 16 #[.agg #[.bool false, .int .i64 (cap : Nat), .slice a1 n1 c1, .slice a2 n2 c2, .int .i64 (lost : Nat)]] ((w.alloc (.cells #[.bool false, .int .i64 (cap : Nat), .slice a1 n1 c1, .slice a2 n2 c2, .int .i64 (lost : Nat)] 32)).alloc (.cells #[.bool false, .int .i64 0, .slice none 0 0, .slice none 0 0, .int .i64 0] 32)) (fun e w' => ∃ v1 v2, e = .returned (.agg #[.bool false, .int .i64 (cap : Nat), v1, v2, .int .i64 (lost : Nat)]) ∧ Ow eI 1 2 W2.heap.size w' v1 out ∧ Ow eG 2 59 W2.heap.size w' v2 inn ∧ Gr W2 w') from by
    rw [← hw2]
    exact copy_any W2 false cap lost a1 a2 n1 n2 c1 c2 out inn (h1.gr G2.out) (h2.gr G2.out) (by omega) (by omega))
  clear h1 h2 hw2
  go_enter Try.func27, Try.ntmps27
  go_wp2_with (go_at_call 16; refine HC.out.mono ?_; rintro e w4 ⟨v1, v2, rfl, o1, o2, k4⟩; obtain ⟨b1, d1, rfl⟩ := o1.form; obtain ⟨b2, d2, rfl⟩ := o2.form; rw [← HL2.out] at o2 ⊢; have O2 := hid (o2.lower G2.out.size); have K4 := hid k4; clear o1 o2 k4)
  obtain ⟨b3, hb3⟩ : ∃ b, b = w4.heap.size := ⟨_, rfl⟩
  have HB3 := hid (show w.heap.size + 2 ≤ b3 by have := K4.out.size; have := HS2.out; omega)
  have CZ0 := hid (show Cz w b3 #[.bool false, .int .i64 (cap : Nat), .slice a1 n1 c1, .slice a2 n2 c2, .int .i64 (lost : Nat)] (w4.alloc (.cells #[.bool false, .int .i64 (cap : Nat), .slice none 0 0, .slice b2 n2 d2, .int .i64 (lost : Nat)] 32)) from ⟨Ch.alloc (Gr.trans G2.out K4.out) _, al_blk (gr_blk XB.out K4.out) _, al_blk (gr_blk XR0.out K4.out) _, HB3.out, by rw [hb3]; simp⟩)
  have CV0 := hid (show Cv b3 #[.bool false, .int .i64 (cap : Nat), .slice none 0 0, .slice b2 n2 d2, .int .i64 (lost : Nat)] (w4.alloc (.cells #[.bool false, .int .i64 (cap : Nat), .slice none 0 0, .slice b2 n2 d2, .int .i64 (lost : Nat)] 32)) from by rw [hb3]; exact al_at _ rfl)
  have OG0 := hid (show Ow eG 2 59 w.heap.size (w4.alloc (.cells #[.bool false, .int .i64 (cap : Nat), .slice none 0 0, .slice b2 n2 d2, .int .i64 (lost : Nat)] 32)) (.slice b2 n2 d2) (grown inn 0) from O2.out.alloc _)
  rw [← hb3]
  generalize w4.alloc (.cells #[.bool false, .int .i64 (cap : Nat), .slice none 0 0, .slice b2 n2 d2, .int .i64 (lost : Nat)] 32) = W5 at CZ0 CV0 OG0 ⊢
  clear hb3
  go_loopg [4] n2 (fun k9 i wr => ∃ j : Nat, j + k9 = n2 ∧ i = .int .i64 (j : Int) ∧ Cz w b3 #[.bool false, .int .i64 (cap : Nat), .slice a1 n1 c1, .slice a2 n2 c2, .int .i64 (lost : Nat)] wr ∧ Cv b3 #[.bool false, .int .i64 (cap : Nat), .slice none 0 0, .slice b2 n2 d2, .int .i64 (lost : Nat)] wr ∧ Ow eG 2 59 w.heap.size wr (.slice b2 n2 d2) (grown inn j))
  case atStart => exact ⟨0, by omega, rfl, CZ0.out, CV0.out, OG0.out⟩
  case round =>
    obtain ⟨j, hjk, rfl, hcz, hcv, how⟩ := hrel
    obtain ⟨V, hV⟩ : ∃ W, W = wr := ⟨_, rfl⟩
    subst hV
    obtain ⟨d3, f3, l3⟩ := hcv.cell 3
    simp at d3
    have CZ := hid hcz
    have CV := hid hcv
    have OW := hid how
    by_cases hj : j < n2
    · have hj' : (j : Int) < (n2 : Int) := by omega
      have hjx : inn[j]? = some (inn[j]'(by rw [← HL2.out]; exact hj)) := List.getElem?_eq_getElem _
      generalize inn[j]'(by rw [← HL2.out]; exact hj) = u at hjx
      have HJ := hid hjx
      obtain ⟨g, cp, e, _, hgl, hcp, hc, hf, hs⟩ := how.get eG_len (grown_get hjx)
      injection e with e1 e2 e3
      subst e1 e3
      have g1 := hc 1 _ rfl
      have f1 := hf (j * 2 + 1)
      have HS := hid (hs 1 (.int .i64 (u.a + 1)) ⟨u.v, u.a + 1⟩ (by omega) rfl)
      have hb : u.a ≤ 2147483647 ∧ 0 ≤ u.a := by have := HA.out u (List.mem_of_getElem? hjx); omega
      obtain ⟨hb1, hb2⟩ := hb
      have hne := hid (show b3 ≠ g from fun e => not_blk OW.out (by decide) CV.out (by rw [e]; rfl))
      have p0 : (0 : Int) ≤ (j : Int) := by omega
      clear how hc hf hs hcp e2 hjx hcz hcv
      by_cases ha : u.a < 2147483647
      · go_wp2
        go_roundg (gk - 1)
        case measure => omega
        case rel =>
          have c9 : Ch (Blk (.slice (some ⟨g, 0, none⟩) n2 d2)) V (V.setCell ⟨g, j * 2 + 1, none⟩ (.int .i64 (u.a + 1))) := Ch.setCell (S := Blk (.slice (some ⟨g, 0, none⟩) n2 d2)) (Ch.refl _ V) (p := ⟨g, j * 2 + 1, none⟩) (.inl rfl) _
          refine ⟨j + 1, by omega, ?_, CZ.out.app OW.out (by decide) c9, CV.out.app OW.out (by decide) c9, ?_⟩
          · first | with_reducible rfl | simp
          · have e : older u = ⟨u.v, u.a + 1⟩ := by unfold older; rw [if_pos ha]
            rw [← grown_set HJ.out, e]
            exact HS.out
      · go_wp2
        go_roundg (gk - 1)
        case measure => omega
        case rel =>
          refine ⟨j + 1, by omega, ?_, CZ.out, CV.out, ?_⟩
          · first | with_reducible rfl | simp
          · have e : older u = u := by unfold older; rw [if_neg (by omega)]
            rw [grown_same HJ.out e]
            exact OW.out
    · have hj' : ¬ ((j : Int) < (n2 : Int)) := by omega
      obtain rfl : n2 = j := by omega
      have hgr : grown inn n2 = inn.map older := by unfold grown; rw [HL2.out, List.take_length, List.drop_length, List.append_nil]
      rw [hgr] at how
      have OI := hid how
      have s0 := cell_of hcz.b 0
      have s1 := cell_of hcz.b 1
      have s2 := cell_of hcz.b 2
      simp at s0 s1 s2
      have sl := lt_of_block hcz.b
      clear hcz hcv how hgr OW
      cases out with
      | nil =>
        have hz : n1 = 0 := HL1.out
        subst hz
        go_wp2_with (first
          | (refine wpList_load_row rfl 32 (.tmp 3) rfl b3 rfl _ _ _ _ CV.out Try.underlying32 rfl pst_size ?_)
          | (refine st_row rfl 32 (.tmp 2) (.tmp 46) rfl (w.heap.size + 1) #[.bool false, .int .i64 (cap : Nat), .slice none 0 0, .slice b2 n2 d2, .int .i64 (lost : Nat)] rfl rfl _ _ CZ.out.r pst_size rfl (by simp [Value.oneCell']) ?_; intro w8 b8 k8; have B9 := hid b8; have K9 := hid k8; clear b8 k8))
        refine bodyPost_ret (results_cell_row rfl _ _ (w.heap.size + 1) _ _ _ _ rfl B9.out Try.underlying32 rfl pst_size) rfl ?_
        exact ⟨_, _, rfl, Ls.nil _ _ _, (OI.out.ch K9.out (fun q e e1 => not_blk OI.out (by decide) CZ.out.r (by have e2 : q = w.heap.size + 1 := e1; rw [← e2]; exact e))).lst.mono (fun g _ e => .inr e), Ch.trans CZ.out.g K9.out (fun q e => .inr (by have e1 : q = w.heap.size + 1 := e; omega))⟩
      | cons v r =>
        obtain ⟨g, o, cp, e, _, hgl, _, hc⟩ := (HX.out _ CZ.out.g).get eI_len (i := 0) (a := v) rfl
        injection e with e1 e2 e3
        subst e1 e3
        have g0 := hc 0 _ rfl
        rw [Nat.zero_mul, Nat.add_zero] at g0
        have hz : (0 : Int) < (n1 : Int) := by have := HL1.out; simp at this; omega
        clear hc e2
        have CV9 := hid (show ((V.setCell ⟨b3, 3, none⟩ (.slice (some ⟨V.heap.size, 0, none⟩) 1 1)).alloc (.cells #[.int .i64 v, .int .i64 0] 59)).heap[b3]? = some (.cells #[.bool false, .int .i64 (cap : Nat), .slice none 0 0, .slice (some ⟨V.heap.size, 0, none⟩) 1 1, .int .i64 (lost : Nat)] 32 (0, 0)) from al_blk (CV.out.st 3 (.slice (some ⟨V.heap.size, 0, none⟩) 1 1)) _)
        have CZ9 := hid ((CZ.out.st 3 (.slice (some ⟨V.heap.size, 0, none⟩) 1 1)).gr (Ch.alloc (Gr.refl (V.setCell ⟨b3, 3, none⟩ (.slice (some ⟨V.heap.size, 0, none⟩) 1 1))) (.cells #[.int .i64 v, .int .i64 0] 59)))
        have OS9 := hid (show Ow eG 2 59 w.heap.size ((V.setCell ⟨b3, 3, none⟩ (.slice (some ⟨V.heap.size, 0, none⟩) 1 1)).alloc (.cells #[.int .i64 v, .int .i64 0] 59)) (.slice (some ⟨V.heap.size, 0, none⟩) 1 1) [fresh v] from by
          have h := Ow.single (enc := eG) (V.setCell ⟨b3, 3, none⟩ (.slice (some ⟨V.heap.size, 0, none⟩) 1 1)) (fresh v) 59 #[.int .i64 v, .int .i64 0] rfl rfl
          have e : (V.setCell ⟨b3, 3, none⟩ (.slice (some ⟨V.heap.size, 0, none⟩) 1 1)).heap.size = V.heap.size := by simp [World.setCell]
          rw [e] at h
          exact h.lower CZ.out.g.size)
        go_wp2_with (first
          | (refine wpList_load_row rfl 32 (.tmp 3) rfl b3 rfl _ _ _ _ CV9.out Try.underlying32 rfl pst_size ?_)
          | (refine st_row rfl 32 (.tmp 2) (.tmp 46) rfl (w.heap.size + 1) #[.bool false, .int .i64 (cap : Nat), .slice none 0 0, .slice (some ⟨V.heap.size, 0, none⟩) 1 1, .int .i64 (lost : Nat)] rfl rfl _ _ CZ9.out.r pst_size rfl (by simp [Value.oneCell']) ?_; intro w8 b8 k8; have B9 := hid b8; have K9 := hid k8; clear b8 k8))
        refine bodyPost_ret (results_cell_row rfl _ _ (w.heap.size + 1) _ _ _ _ rfl B9.out Try.underlying32 rfl pst_size) rfl ?_
        exact ⟨_, _, rfl, Ls.nil _ _ _, (OS9.out.ch K9.out (fun q e e1 => not_blk OS9.out (by decide) CZ9.out.r (by have e2 : q = w.heap.size + 1 := e1; rw [← e2]; exact e))).lst.mono (fun g _ e => .inr e), Ch.trans CZ9.out.g K9.out (fun q e => .inr (by have e1 : q = w.heap.size + 1 := e; omega))⟩
end Go.Proofs.Ytnpbehcfbceclaa.Lt
