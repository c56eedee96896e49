/-
  What Take of a slab answers and leaves. Condition: the slab is there, no list of it is too long, and a free slot was made.
-/
import Derived.Test.YtfbkifkfhgkdbabSbFree
namespace Go.Proofs.Ytfbkifkfhgkdbab.Sb
open Go.RowKit
open Classical
attribute [local go_sem ↓] Go.wp_at_zero Go.wp_at_succ

/-- a slot given once more -/
def givenS (x : Sl) (k : Nat) (g : Int) : Sl := { x with G := x.G.set k (g + 1), A := x.A.set k true }
/-- what a slot that is found must be -/
def Fine (x : Sl) (r : Option Int) : Prop := ∀ z, r = some z → ∃ (k : Nat) (g : Int) (a : Bool), z = (k : Int) ∧ x.G[k]? = some g ∧ x.A[k]? = some a ∧ 0 ≤ g ∧ g < 2147483647
/-- Take's answer, and what it leaves, behind freeSlot's -/
def tookV : Option Int → Sl → Value × Sl
  | some z, x => (.tuple #[.agg #[.int .i64 z, .int .i64 ((x.G[z.toNat]?).getD 0 + 1)], .int .i64 0], givenS x z.toNat ((x.G[z.toNat]?).getD 0))
  | none, x => (.tuple #[.agg #[.int .i64 0, .int .i64 0], .int .i64 2], x)
theorem tookV_some {x : Sl} {k : Nat} {g : Int} (h : x.G[k]? = some g) : tookV (some (k : Int)) x = (.tuple #[.agg #[.int .i64 (k : Int), .int .i64 (g + 1)], .int .i64 0], givenS x k g) := by
  simp [tookV, h]

set_option maxHeartbeats 4000000 in
theorem take_good (S : Nat → Prop) (base b p : Nat) (L : Int) (x : Sl) (c : List Int) (w : World) (h : SlabIn S base w b L x) (hbase : base ≤ w.heap.size) (hc : x.C[p]? = some c) (hfl : x.F.length ≤ 4294967296) (hel0 : c.length ≤ 4294967296)
    (hgl : (refillS x p c).G.length ≤ 4294967295) (hal : (refillS x p c).A.length ≤ 4294967295) (hcn : (refillS x p c).C.length ≤ 4294967296) (hel : ∀ (q : Nat) c', (refillS x p c).C[q]? = some c' → c'.length ≤ 4294967296) (hfine : ∀ r x', Freed L (refillS x p c) p r x' → Fine x' r) (c1 : List Int) (hc1 : (refillS x p c).C[p]? = some c1) :
    Calls Try.prog 10 #[.pointer (some ⟨b, 0, none⟩), .int .i64 (p : Int)] w fun e w' => ∃ r x', Freed L (refillS x p c) p r x' ∧ e = .returned (tookV r x').1 ∧ Left S base w w' b L (tookV r x').2 := by
  have HP := hid (show HasP x p from ⟨by omega, by have := (List.getElem?_eq_some_iff.1 hc).1; omega⟩)
  have HH := hid (h.ch (((Ch.refl NoB w).alloc (.cells #[.int .i64 0, .int .i64 0] 34))) (fun _ _ => noB _))
  obtain ⟨W0, hW0⟩ : ∃ W, W = w.alloc (.cells #[.int .i64 0, .int .i64 0] 34) := ⟨_, rfl⟩
  have g0 : Ch NoB w W0 := by rw [hW0]; exact (Ch.refl _ _).alloc _
  have k0 : W0.heap[w.heap.size]? = some (.cells #[.int .i64 0, .int .i64 0] 34 (0, 0)) := by rw [hW0]; exact (MapKept.heap_alloc w _).1
  rw [← hW0] at HH
  have hlt0 := h.lt
  have HSb0 := hid h.self
  have HLT := hid hlt0
  have hb0 : base ≤ W0.heap.size := Nat.le_trans hbase g0.size
  have HPR := hid (fun w1 (l : SlabIn S base w1 b L x) => hasProc_any base b L p x w1 l.at)
  have HRE := hid (refill_any S base b p L x c W0 HH.out hb0 hc hel0 hfl)
  have HFS := hid (fun (S1 : Nat → Prop) (w1 : World) (l : SlabIn S1 base w1 b L (refillS x p c)) (hb1 : base ≤ w1.heap.size) => freeSlot_any S1 base b p L (refillS x p c) c1 w1 l hb1 hc1 hgl hal hcn hel)
  have HFI := hid hfine
  have HK0 := hid k0
  have HG0 := hid g0
  clear h hlt0 hc hfl hel0 hgl hal hcn hel hfine hc1 k0 g0 hbase
  go_enter Try.func10, Try.ntmps10
  go_wp2_with fail
  rw [← hW0]
  clear hW0
  refine (HPR.out W0 HH.out).mono ?_
  rintro e w' ⟨rfl, rfl⟩
  rw [show decide (HasP x p) = true from decide_eq_true HP.out]
  go_wp2_with fail
  refine HRE.out.mono ?_
  rintro e w1 ⟨rfl, ⟨S1, i1, g1, t1⟩⟩
  have HI1 := hid i1
  have HG1 := hid g1
  have HT1 := hid t1
  have kk1 : w1.heap[w.heap.size]? = some (.cells #[.int .i64 0, .int .i64 0] 34 (0, 0)) := (g1.block _ (lt_of_block HK0.out) (fun e => by have := HLT.out _ e; omega)).trans HK0.out
  have HK1 := hid kk1
  have HN1 := hid (show ¬ S1 w.heap.size from fun e => (t1 _ e).elim (fun e => by have := HLT.out _ e; omega) (fun e => by have := lt_of_block HK0.out; omega))
  have hb1 : base ≤ w1.heap.size := Nat.le_trans hb0 g1.size
  clear i1 g1 t1 kk1
  go_wp2_with fail
  refine (HFS.out S1 w1 HI1.out hb1).mono ?_
  rintro e w2 ⟨r, x1, rfl, fr, ⟨S2, i2, g2, t2⟩⟩
  have HFR := hid fr
  have HI := hid i2
  have HG2 := hid g2
  have HT2 := hid t2
  have kk2 := (g2.block _ (lt_of_block HK1.out) HN1.out).trans HK1.out
  have HK2 := hid kk2
  have z0 := (cell_of kk2 0)
  have z1 := (cell_of kk2 1)
  have zf0 := frozen_of kk2 0
  have zf1 := frozen_of kk2 1
  have zl := lt_of_block kk2
  have HN2 := hid (show ¬ S2 w.heap.size from fun e => (t2 _ e).elim HN1.out (fun e => by have := lt_of_block HK1.out; omega))
  have HF0 := hid (HFI.out r x1 fr)
  have HGS := hid (((HG0.out.mono (T := S) (fun q e => e.elim)).trans HG1.out (fun q e => .inl e)).trans g2 (fun q e => (HT1.out q e).imp id (fun e => Nat.le_trans HG0.out.size e)))
  have HTS := hid (fun q e => (t2 q e).elim (fun e => (HT1.out q e).imp id (fun e => Nat.le_trans HG0.out.size e)) (fun e => (.inr (Nat.le_trans HG0.out.size (Nat.le_trans HG1.out.size e)) : S q ∨ w.heap.size ≤ q)))
  clear fr i2 g2 t2 kk2
  cases r with
  | none =>
    simp only [fv]
    go_wp2
    have C5 := ((Ch.refl (Only w.heap.size) w2).own 0 (.int .i64 0)).own 1 (.int .i64 0)
    refine bodyPost_ret (v := .tuple #[.agg #[.int .i64 0, .int .i64 0], .int .i64 2]) (by simp [results, Try.results10, go_sem, z0, z1]) rfl ⟨none, x1, HFR.out, rfl, ?_⟩
    exact ⟨S2, HI.out.ch C5 (fun q e e' => by have e1 : q = w.heap.size := e'; rw [e1] at e; exact HN2.out e), HGS.out.trans C5 (fun q e => .inr (by have e1 : q = w.heap.size := e; omega)), HTS.out⟩
  | some z =>
    obtain ⟨k, g, a, rfl, hG, hA, hgp, hgm⟩ := HF0.out z rfl
    have HG := hid hG
    have HA := hid hA
    have hwr : IntKind.i64.wrap (g + 1) = g + 1 := by rw [IntKind.wrap_i64]; omega
    clear hG hA
    obtain ⟨vg, va, vc, vf, cv, hf, hs, hnb, hSb, hSB, hlt⟩ := HI.out
    obtain ⟨gg, gc, rfl, hg0, hgl1, hgc, eg, fg, setg⟩ := hs.g.get (iv_get HG.out)
    obtain ⟨ag, ac, rfl, ha0, hal1, hac, ea, fa, seta⟩ := hs.a.get (bv_get HA.out)
    obtain ⟨nG, hnG⟩ : ∃ n, n = (iv x1.G).length := ⟨_, rfl⟩
    obtain ⟨nA, hnA⟩ : ∃ n, n = (bv x1.A).length := ⟨_, rfl⟩
    have hkG : k < nG := by rw [hnG, iv_length]; exact (List.getElem?_eq_some_iff.1 HG.out).1
    have hkA : k < nA := by rw [hnA, bv_length]; exact (List.getElem?_eq_some_iff.1 HA.out).1
    rw [← hnG, ← hnA] at hf hs hnb hSB
    rw [← hnG] at setg
    rw [← hnA] at seta
    obtain ⟨c0, c1, c2, c3, c4⟩ := hf.cells
    have bl1 := hf.lt
    have n1 : ¬ (b = gg) := fun e => hnb (SB.g (by rw [e]; rfl))
    have n2 : ¬ (gg = b) := fun e => n1 e.symm
    have n3 : ¬ (b = ag) := fun e => hnb (SB.a (by rw [e]; rfl))
    have n4 : ¬ (ag = b) := fun e => n3 e.symm
    have n5 : ¬ (gg = ag) := fun e => hs.ga gg rfl (by rw [e]; rfl)
    have n6 : ¬ (ag = gg) := fun e => n5 e.symm
    have b1 : (0 : Int) ≤ (k : Int) := by omega
    have b2 : (k : Int) < (nG : Int) := by omega
    have b3 : (k : Int) < (nA : Int) := by omega
    have HF := hid hf
    have HS := hid hs
    have HNB := hid hnb
    have HSb := hid hSb
    have HSB := hid hSB
    have HSG := hid setg
    have HSA := hid seta
    have m1 : ¬ (w.heap.size = b) := fun e => HN2.out (by rw [e]; exact hSb)
    have m2 : ¬ (b = w.heap.size) := fun e => m1 e.symm
    have m3 : ¬ (w.heap.size = gg) := fun e => HN2.out (by rw [e]; exact hSB gg (SB.g rfl))
    have m4 : ¬ (gg = w.heap.size) := fun e => m3 e.symm
    have m5 : ¬ (w.heap.size = ag) := fun e => HN2.out (by rw [e]; exact hSB ag (SB.a rfl))
    have m6 : ¬ (ag = w.heap.size) := fun e => m5 e.symm
    clear hf hs hnb hSb hSB hlt setg seta hnG hnA
    simp only [fv]
    go_wp2
    have C3 := (Ch.refl (Only gg) w2).own k (.int .i64 (g + 1))
    have s3 := HS.out.gens (vg' := .slice (some ⟨gg, 0, none⟩) nG gc) (G' := x1.G.set k (g + 1)) (C3.mono (fun q e => .inl (by have e1 : q = gg := e; subst e1; rfl))) (by rw [← iv_set]; exact HSG.out _) (fun q e => .inl e)
    have C4 := (Ch.refl (Only ag) (w2.setCell ⟨gg, k, none⟩ (.int .i64 (g + 1)))).own k (.bool true)
    obtain ⟨ag', e', -, -, -, -, -, seta2⟩ := s3.a.get1 (bv_get HA.out)
    cases e'
    have s4 := s3.alive (va' := .slice (some ⟨ag, 0, none⟩) nA ac) (A' := x1.A.set k true) (C4.mono (fun q e => .inl (by have e1 : q = ag := e; subst e1; rfl))) (by rw [← bv_set]; exact seta2 _) (fun q e => .inl e)
    have F4 := (HF.out.ch C3 (fun e => n1 e)).ch C4 (fun e => n3 e)
    obtain ⟨W4, hW4⟩ : ∃ W, W = (w2.setCell ⟨gg, k, none⟩ (.int .i64 (g + 1))).setCell ⟨ag, k, none⟩ (.bool true) := ⟨_, rfl⟩
    rw [← hW4] at s4 F4 C4 ⊢
    have C5 := ((Ch.refl (Only w.heap.size) W4).own 0 (.int .i64 (k : Int))).own 1 (.int .i64 (g + 1))
    refine bodyPost_ret (v := .tuple #[.agg #[.int .i64 (k : Int), .int .i64 (g + 1)], .int .i64 0]) (by simp [results, Try.results10, go_sem, hW4, z0, z1]) rfl ⟨some (k : Int), x1, HFR.out, by rw [tookV_some HG.out], ?_⟩
    rw [tookV_some HG.out]
    refine Left.of (F4.ch C5 m2) (s4.ch C5 (fun q e e' => by have e1 : q = w.heap.size := e'; rw [e1] at e; exact HN2.out (HSB.out _ e))) HNB.out ?_ ?_ ?_
    · exact HSb0.out
    · exact fun q e => HTS.out q (HSB.out q e)
    · exact ((HGS.out.trans C3 (fun q e => HTS.out q (HSB.out q (SB.g (by have e1 : q = gg := e; subst e1; rfl))))).trans C4 (fun q e => HTS.out q (HSB.out q (SB.a (by have e1 : q = ag := e; subst e1; rfl))))).trans C5 (fun q e => .inr (by have e1 : q = w.heap.size := e; omega))
end Go.Proofs.Ytfbkifkfhgkdbab.Sb
