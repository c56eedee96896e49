/-
  What the document's New answers where there may be so many, and 'is' of the statements where the slab tells just the state. No conditions.
-/
import Derived.Test.YtfbkifkfhgkdbabSbNew
namespace Go.Proofs.Ytfbkifkfhgkdbab.Sb
open Go.RowKit
open Classical
attribute [local go_sem ↓] Go.wp_at_zero Go.wp_at_succ

set_option maxHeartbeats 2000000 in
theorem rnew_good (l : Int) (n : Nat) (w : World) (h : Sized l n) : Calls Try.prog 35 #[.int .i64 l, .int .i64 (n : Int)] w fun e w' => ∃ vc, e = .returned (.tuple #[.agg #[.int .i64 l, .slice none 0 0, .slice none 0 0, vc, .slice none 0 0], .int .i64 0]) ∧ Ow 41 w.heap.size w' vc (List.replicate n (.slice none 0 0)) ∧ Ch NoB w w' := by
  have d1 : decide (l < 1) = false := decide_eq_false (by have := h.1.1; omega)
  have d2 : decide (4096 < l) = false := decide_eq_false (by have := h.1.2; omega)
  have d3 : decide ((n : Int) < 1) = false := decide_eq_false (by have := h.2.1; omega)
  have d4 : decide (64 < (n : Int)) = false := decide_eq_false (by have := h.2.2; omega)
  have hn : n ≤ 64 := by have := h.2.2; omega
  clear h
  go_enter Try.func35, Try.ntmps35
  go_wp2_with fail
  clear d1 d2 d3 d4
  go_loopg [7] n (fun m i wv => ∃ (j : Nat) (at_ : Option Addr) (ct : Nat), j + m = n ∧ i = .int .i64 ((j : Nat) : Int) ∧ Fv 45 wv (w.heap.size + 1) (.int .i64 l) (.slice none 0 0) (.slice none 0 0) (.slice at_ j ct) (.slice none 0 0) ∧ Fv 45 wv w.heap.size (.int .i64 0) (.slice none 0 0) (.slice none 0 0) (.slice none 0 0) (.slice none 0 0) ∧ Ow 41 (w.heap.size + 2) wv (.slice at_ j ct) (List.replicate j (.slice none 0 0)) ∧ Ch NoB w wv)
  case atStart =>
    have E := Fv.new 45 (w.alloc (.cells #[.int .i64 0, .slice none 0 0, .slice none 0 0, .slice none 0 0, .slice none 0 0] 45)) (.int .i64 l) (.slice none 0 0) (.slice none 0 0) (.slice none 0 0) (.slice none 0 0)
    rw [World.size_alloc] at E
    exact ⟨0, none, 0, by omega, rfl, E, (Fv.new _ w _ _ _ _ _).alloc _, Ow.nil _ _ _, ((Ch.refl _ _).alloc _).alloc _⟩
  case round =>
    obtain ⟨j, at_, ct, hjm, rfl, hf, hz, ho, hg⟩ := hrel
    obtain ⟨c0, c1, c2, c3, c4⟩ := hf.cells
    obtain ⟨y0, y1, y2, y3, y4⟩ := hf.fz
    obtain ⟨z0, z1, z2, z3, z4⟩ := hz.cells
    obtain ⟨x0, x1, x2, x3, x4⟩ := hz.fz
    have fl := hf.lt
    have zl := hz.lt
    have HF := hid hf
    have HZ := hid hz
    have HO := hid ho
    have HG := hid hg
    clear hf hz ho hg
    by_cases hj : j < n
    · have j1 : (j : Int) < (n : Int) := by omega
      clear z0 z1 z2 z3 z4 x0 x1 x2 x3 x4 y0 y1 y2 y3 y4
      go_wp2_with (first | (at_builtin; refine wpList_append_ow rfl (.tmp 31) (.tmp 32) 43 41 24 _ Try.underlying43 ints_info rfl rfl (w.heap.size + 2) _ _ rfl (Ow.alloc HO.out _) _ _ [.slice none 0 0] rfl (ls_one _ _ _) (fun u hu => by rw [List.mem_singleton.1 hu]; rfl) (j + 1) (by simp) (by omega) (by unfold maxLen; omega) (by simp; omega) (List.replicate (j + 1) (.slice none 0 0)) List.replicate_succ'.symm ?_; intro ao2 cap2 w2 ow2 cw2 bl2; have HB2 := hid (fun q (e : Blk (.slice at_ j ct) q) => (HO.out.blk e).1); have HF2 := hid ((HF.out.alloc _).ch cw2 (fun e => by have := HB2.out _ e; omega)); have HZ2 := hid ((HZ.out.alloc _).ch cw2 (fun e => by have := HB2.out _ e; omega)); obtain ⟨e0, e1, e2, e3, e4⟩ := HF2.out.cells; obtain ⟨y0, y1, y2, y3, y4⟩ := HF2.out.fz; have fl2 := HF2.out.lt; have HO2 := hid ow2; have HC2 := hid cw2; have HN2 := hid bl2; clear ow2 cw2 bl2))
      go_roundg (gk - 1)
      case measure => omega
      case rel =>
        have C3 := (Ch.refl (Only (w.heap.size + 1)) w2).own 3 (.slice ao2 (j + 1) cap2)
        refine ⟨j + 1, ao2, cap2, by omega, by simp, setCell_block HF2.out 3 _, HZ2.out.ch C3 (fun e => by have e1 : w.heap.size = w.heap.size + 1 := e; omega), HO2.out.ch C3 (fun q a b => by have := (HO2.out.blk a).1; have e1 : q = w.heap.size + 1 := b; omega), ((HG.out.alloc _).trans HC2.out (fun q e => .inr (by have := HB2.out q e; omega))).trans C3 (fun q e => .inr (by have e1 : q = w.heap.size + 1 := e; omega))⟩
    · have e : j = n := by omega
      subst e
      go_wp2
      have C5 := (((((Ch.refl (Only w.heap.size) wr).own 0 (.int .i64 l)).own 1 (.slice none 0 0)).own 2 (.slice none 0 0)).own 3 (.slice at_ j ct)).own 4 (.slice none 0 0)
      refine bodyPost_ret (v := .tuple #[.agg #[.int .i64 l, .slice none 0 0, .slice none 0 0, .slice at_ j ct, .slice none 0 0], .int .i64 0]) (by simp [results, Try.results35, go_sem, z0, z1, z2, z3, z4]) rfl ⟨_, rfl, ?_, ?_⟩
      · exact (HO.out.ch C5 (fun q a b => by have := (HO.out.blk a).1; have e1 : q = w.heap.size := b; omega)).lower (by omega)
      · exact HG.out.trans C5 (fun q e => .inr (by have e1 : q = w.heap.size := e; omega))

set_option maxHeartbeats 2000000 in
theorem is_eq (base b : Nat) (P : Nat → Prop) (L : Int) (vg va vc vf : Value) (cv : List Value) (x : Sl) (w : World) (h : SlabAt base w b L x) (hr : Rd P w vg va vc vf cv x) (ht : x.Fits) :
    Calls Try.prog 22 #[.pointer (some ⟨b, 0, none⟩), .agg #[.int .i64 L, vg, va, vc, vf]] w fun e w' => e = .returned (.bool true) ∧ Ch NoB w w' := by
  obtain ⟨a1, q1, rfl⟩ := hr.g.form
  obtain ⟨a2, q2, rfl⟩ := hr.a.form
  obtain ⟨a3, q3, rfl⟩ := hr.c.form
  obtain ⟨a4, q4, rfl⟩ := hr.f.form
  obtain ⟨nG, hnG⟩ : ∃ n, n = (iv x.G).length := ⟨_, rfl⟩
  obtain ⟨nA, hnA⟩ : ∃ n, n = (bv x.A).length := ⟨_, rfl⟩
  obtain ⟨nC, hnC⟩ : ∃ n, n = cv.length := ⟨_, rfl⟩
  obtain ⟨nF, hnF⟩ : ∃ n, n = (iv x.F).length := ⟨_, rfl⟩
  rw [← hnG, ← hnA, ← hnC, ← hnF] at hr ⊢
  obtain ⟨W0, hW0⟩ : ∃ W0, W0 = w.alloc (.cells #[.int .i64 L, .slice a1 nG q1, .slice a2 nA q2, .slice a3 nC q3, .slice a4 nF q4] 45) := ⟨_, rfl⟩
  have g0 : Ch NoB w W0 := by rw [hW0]; exact (Ch.refl _ _).alloc _
  have F0 : Fv 45 W0 w.heap.size (.int .i64 L) (.slice a1 nG q1) (.slice a2 nA q2) (.slice a3 nC q3) (.slice a4 nF q4) := by rw [hW0]; exact Fv.new _ w _ _ _ _ _
  have HS := hid (h.ch g0)
  have HR := hid (hr.ch g0 (fun _ _ _ => noB _))
  have HF := hid F0
  have HG := hid g0
  have HT := hid ht
  clear h hr ht hnG hnA hnC hnF g0 F0
  go_enter Try.func22, Try.ntmps22
  go_wp2_with fail
  rw [← hW0]
  clear hW0
  obtain ⟨c0, c1, c2, c3, c4⟩ := HF.out.cells
  have kl := HF.out.lt
  go_region_with (first
    | (go_at_call 16; refine (state_any base b L x _ (HS.out.ch ((Ch.refl NoB _).drew)) HT.out).mono ?_; rintro e w1 ⟨ug, ua, uc, uf, cu, rfl, s1, g1⟩; have G1 : Ch NoB W0 w1 := ((Ch.refl NoB W0).drew).trans' g1; have HS1 := hid s1; have HR1 := hid (HR.out.ch G1 (fun _ _ _ => noB _)); have HB1 := hid (HS.out.ch G1); have HF1 := hid (HF.out.ch G1 (noB _)); obtain ⟨e0, e1, e2, e3, e4⟩ := HF1.out.cells; have HG1 := hid G1; have kl1 := HF1.out.lt; clear s1 g1 G1)
    | (go_at_call 19; refine (same_eq _ _ L _ _ _ _ _ _ _ _ cu cv x _ HS1.out.rd HR1.out HT.out).mono ?_; rintro e w2 ⟨rfl, g2⟩; have HB2 := hid (HB1.out.ch g2); have HR2 := hid (HR1.out.ch g2 (fun _ _ _ => noB _)); have HF2 := hid (HF1.out.ch g2 (noB _)); obtain ⟨i0, i1, i2, i3, i4⟩ := HF2.out.cells; have HG2 := hid (HG1.out.trans' g2); have kl2 := HF2.out.lt; clear g2)
    | (go_at_call 11; refine (live_any base b L x _ HB2.out HT.out).mono ?_; rintro e w3 ⟨rfl, g3⟩; have HR3 := hid (HR2.out.ch g3 (fun _ _ _ => noB _)); have HF3 := hid (HF2.out.ch g3 (noB _)); obtain ⟨j0, j1, j2, j3, j4⟩ := HF3.out.cells; have HG3 := hid (HG2.out.trans' g3); have kl3 := HF3.out.lt; clear g3)
    | (go_at_call 38; refine (rlive_any _ L _ _ _ _ cv x _ HR3.out HT.out).mono ?_; rintro e w4 ⟨rfl, g4⟩; have HG4 := hid (HG3.out.trans' g4); clear g4))
  all_goals go_wp2
  all_goals go_ret
  all_goals exact ⟨rfl, HG.out.trans' HG4.out⟩
end Go.Proofs.Ytfbkifkfhgkdbab.Sb
