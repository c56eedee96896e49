/-
  What Give of a slab answers and leaves. Condition: the slab is there, with as many truths as generations, and no list of it is too long.
-/
import Derived.Test.YtfbkifkfhgkdbabSbFlush
namespace Go.Proofs.Ytfbkifkfhgkdbab.Sb
open Go.RowKit
open Classical
attribute [local go_sem ↓] Go.wp_at_zero Go.wp_at_succ

set_option maxHeartbeats 2000000 in
theorem give_bad (base b : Nat) (p s gn L : Int) (x : Sl) (w : World) (h : SlabAt base w b L x) (hp : ¬ HasP x p) :
    Calls Try.prog 13 #[.pointer (some ⟨b, 0, none⟩), .int .i64 p, .agg #[.int .i64 s, .int .i64 gn]] w fun e w' => e = .returned (.int .i64 1) ∧ Ch NoB w w' := by
  obtain ⟨W0, hW0⟩ : ∃ W, W = w.alloc (.cells #[.int .i64 s, .int .i64 gn] 34) := ⟨_, rfl⟩
  have g0 : Ch NoB w W0 := by rw [hW0]; exact (Ch.refl _ _).alloc _
  have k0 : W0.heap[w.heap.size]? = some (.cells #[.int .i64 s, .int .i64 gn] 34 (0, 0)) := by rw [hW0]; exact (MapKept.heap_alloc w _).1
  have z0 := cell_of k0 0
  have z1 := cell_of k0 1
  have zl := lt_of_block k0
  have HG0 := hid g0
  have HK0 := hid k0
  have HPR := hid (hasProc_any base b L p x W0 (h.ch g0))
  have HP := hid hp
  clear h hp k0 g0
  go_enter Try.func13, Try.ntmps13
  go_wp2_with fail
  rw [← hW0]
  clear hW0
  refine HPR.out.mono ?_
  rintro e w' ⟨rfl, rfl⟩
  rw [show decide (HasP x p) = false from decide_eq_false HP.out]
  go_wp2
  go_ret
  exact ⟨rfl, HG0.out⟩

set_option maxHeartbeats 2000000 in
theorem give_stale (base b : Nat) (p s gn L : Int) (x : Sl) (w : World) (h : SlabAt base w b L x) (hp : HasP x p) (hag : x.G.length = x.A.length) (hal : aliveB x s gn = false) :
    Calls Try.prog 13 #[.pointer (some ⟨b, 0, none⟩), .int .i64 p, .agg #[.int .i64 s, .int .i64 gn]] w fun e w' => e = .returned (.int .i64 41) ∧ Ch NoB w w' := by
  obtain ⟨W0, hW0⟩ : ∃ W, W = w.alloc (.cells #[.int .i64 s, .int .i64 gn] 34) := ⟨_, rfl⟩
  have g0 : Ch NoB w W0 := by rw [hW0]; exact (Ch.refl _ _).alloc _
  have k0 : W0.heap[w.heap.size]? = some (.cells #[.int .i64 s, .int .i64 gn] 34 (0, 0)) := by rw [hW0]; exact (MapKept.heap_alloc w _).1
  have z0 := cell_of k0 0
  have z1 := cell_of k0 1
  have zl := lt_of_block k0
  have HG0 := hid g0
  have HK0 := hid k0
  have HPR := hid (hasProc_any base b L p x W0 (h.ch g0))
  have HP := hid hp
  have HA := hid (alive_any base b L s gn x W0 (h.ch g0) hag)
  have HAL := hid hal
  clear h hp k0 g0 hal hag
  go_enter Try.func13, Try.ntmps13
  go_wp2_with fail
  rw [← hW0]
  clear hW0
  refine HPR.out.mono ?_
  rintro e w' ⟨rfl, rfl⟩
  rw [show decide (HasP x p) = true from decide_eq_true HP.out]
  go_wp2_with fail
  refine HA.out.mono ?_
  rintro e w1 ⟨rfl, g1⟩
  rw [HAL.out]
  have HG1 := hid g1
  clear g1
  go_wp2
  go_ret
  exact ⟨rfl, HG0.out.trans' HG1.out⟩

/-- what Give leaves -/
def deadS (x : Sl) (k : Nat) : Sl := { x with A := x.A.set k false }
def giveS (x : Sl) (p k : Nat) (gn : Int) (c : List Int) : Sl := if gn < 2147483647 then cacheS (deadS x k) p (k : Int) c else deadS x k

set_option maxHeartbeats 4000000 in
theorem give_good (S : Nat → Prop) (base b p k : Nat) (L gn : Int) (x : Sl) (c : List Int) (w : World) (h : SlabIn S base w b L x) (hbase : base ≤ w.heap.size) (hc : x.C[p]? = some c) (hcl : c.length ≤ 4294967295) (hfl : x.F.length ≤ 4294967296) (hag : x.G.length = x.A.length) (hG : x.G[k]? = some gn) (hA : x.A[k]? = some true) :
    Calls Try.prog 13 #[.pointer (some ⟨b, 0, none⟩), .int .i64 (p : Int), .agg #[.int .i64 (k : Int), .int .i64 gn]] w fun e w' => e = .returned (.int .i64 0) ∧ Left S base w w' b L (giveS x p k gn c) := by
  obtain ⟨W0, hW0⟩ : ∃ W, W = w.alloc (.cells #[.int .i64 (k : Int), .int .i64 gn] 34) := ⟨_, rfl⟩
  have g0 : Ch NoB w W0 := by rw [hW0]; exact (Ch.refl _ _).alloc _
  have k0 : W0.heap[w.heap.size]? = some (.cells #[.int .i64 (k : Int), .int .i64 gn] 34 (0, 0)) := by rw [hW0]; exact (MapKept.heap_alloc w _).1
  have z0 := cell_of k0 0
  have z1 := cell_of k0 1
  have zl := lt_of_block k0
  have HG0 := hid g0
  have HK0 := hid k0
  have HP := hid (show HasP x p from ⟨by omega, by have := (List.getElem?_eq_some_iff.1 hc).1; omega⟩)
  have HAL := hid (show aliveB x (k : Int) gn = true by rw [aliveB_in hG hA]; simp)
  have HH := hid (h.ch g0 (fun _ _ => noB _))
  have HPR := hid (hasProc_any base b L p x W0 HH.out.at)
  have HA0 := hid (alive_any base b L (k : Int) gn x W0 HH.out.at hag)
  have hb0 : base ≤ W0.heap.size := Nat.le_trans hbase g0.size
  have HLT := hid h.lt
  have HSb0 := hid h.self
  have HA := hid hA
  have HCA := hid (fun (S1 : Nat → Prop) (w1 : World) (l : SlabIn S1 base w1 b L (deadS x k)) (hb1 : base ≤ w1.heap.size) => cache_any S1 base b p L (k : Int) (deadS x k) c w1 l hb1 hc hcl hfl)
  clear h hc hcl hfl hag hG hA k0 g0 z0 z1 hbase
  go_enter Try.func13, Try.ntmps13
  go_wp2_with fail
  rw [← hW0]
  clear hW0
  refine HPR.out.mono ?_
  rintro e w' ⟨rfl, e'⟩
  subst e'
  rw [show decide (HasP x p) = true from decide_eq_true HP.out]
  have z0 := cell_of HK0.out 0
  have z1 := cell_of HK0.out 1
  go_wp2_with fail
  refine HA0.out.mono ?_
  rintro e w1 ⟨rfl, g1⟩
  rw [HAL.out]
  have kk1 := (g1.block _ (lt_of_block HK0.out) (noB _)).trans HK0.out
  have y0 := cell_of kk1 0
  have y1 := cell_of kk1 1
  have yl := lt_of_block kk1
  have HI1 := hid (HH.out.ch g1 (fun _ _ => noB _))
  have HG1 := hid g1
  obtain ⟨vg, va, vc, vf, cv, hf, hs, hnb, hSb, hSB, hlt⟩ := HI1.out
  obtain ⟨ag, ac, rfl, ha0, hal1, hac, ea, fa, seta⟩ := hs.a.get (bv_get HA.out)
  obtain ⟨nA, hnA⟩ : ∃ n, n = (bv x.A).length := ⟨_, rfl⟩
  have hkA : k < nA := by rw [hnA, bv_length]; exact (List.getElem?_eq_some_iff.1 HA.out).1
  rw [← hnA] at hf hs hnb hSB seta
  obtain ⟨c0, c1, c2, c3, c4⟩ := hf.cells
  have bl1 := hf.lt
  have n3 : ¬ (b = ag) := fun e => hnb (SB.a (by rw [e]; rfl))
  have n4 : ¬ (ag = b) := fun e => n3 e.symm
  have m1 : ¬ (w.heap.size = b) := fun e => by have := HLT.out b HSb0.out; omega
  have m2 : ¬ (b = w.heap.size) := fun e => m1 e.symm
  have m5 : ¬ (w.heap.size = ag) := fun e => by have := HLT.out _ (hSB ag (SB.a rfl)); omega
  have m6 : ¬ (ag = w.heap.size) := fun e => m5 e.symm
  have b1 : (0 : Int) ≤ (k : Int) := by omega
  have b3 : (k : Int) < (nA : Int) := by omega
  have HF := hid hf
  have HS := hid hs
  have HNB := hid hnb
  have HSB := hid hSB
  have HSA := hid seta
  clear hf hs hnb hSb hSB hlt seta hnA g1 kk1 z0 z1
  go_wp2_with fail
  go_region_held3 (fun w' => w'.cell? ⟨b, 2, none⟩ = some (.slice (some ⟨ag, 0, none⟩) nA ac) ∧ w'.cell? ⟨w.heap.size, 0, none⟩ = some (.int .i64 (k : Int))) (first | (exact ⟨c2, y0⟩) | (go_keep; done) | (go_simp; done)) (fail)
  obtain ⟨W2, hW2⟩ : ∃ W, W = (w1.setCell ⟨ag, k, none⟩ (.bool false)).drew := ⟨_, rfl⟩
  have C2 : Ch (Only ag) w1 W2 := by rw [hW2]; exact ((Ch.refl (Only ag) w1).own k (.bool false)).drew
  have s2 := HS.out.alive (va' := .slice (some ⟨ag, 0, none⟩) nA ac) (A' := x.A.set k false) (C2.mono (fun q e => .inl (by have e1 : q = ag := e; subst e1; rfl))) (by rw [← bv_set, hW2]; exact HSA.out _) (fun q e => .inl e)
  have F2 := HF.out.ch C2 (fun e => n3 e)
  have HL2 := hid (Left.of (w := w) (S := S) F2 s2 HNB.out HSb0.out (fun q e => .inl (HSB.out q e)) (((HG0.out.trans' HG1.out).mono (T := S) (fun q e => e.elim)).trans C2 (fun q e => .inl (HSB.out q (SB.a (by have e1 : q = ag := e; subst e1; rfl))))))
  have v0 := (C2.cell (o := 0) yl m5).trans y0
  have v1 := (C2.cell (o := 1) yl m5).trans y1
  have vl := Nat.lt_of_lt_of_le yl C2.size
  have HSZ := hid C2.size
  rw [← hW2]
  clear hW2 C2 s2 F2 y0 y1 c0 c1 c2 c3 c4 ea fa
  by_cases hgn : gn < 2147483647
  · have d1 : decide (gn < 2147483647) = true := decide_eq_true hgn
    have HE := hid (show giveS x p k gn c = cacheS (deadS x k) p (k : Int) c from if_pos hgn)
    go_wp2_with fail
    obtain ⟨S2, i2, g2, t2⟩ := HL2.out
    refine (HCA.out S2 W2 i2 (Nat.le_trans (Nat.le_trans hb0 HG1.out.size) HSZ.out)).mono ?_
    rintro e w3 ⟨rfl, l3⟩
    have HL3 := hid (Left.bind g2 t2 l3)
    clear i2 g2 t2 l3
    go_wp2
    go_ret
    exact ⟨rfl, by rw [HE.out]; exact HL3.out⟩
  · have d1 : decide (gn < 2147483647) = false := decide_eq_false hgn
    have HE := hid (show giveS x p k gn c = deadS x k from if_neg hgn)
    go_wp2
    go_ret
    exact ⟨rfl, by rw [HE.out]; exact HL2.out⟩
end Go.Proofs.Ytfbkifkfhgkdbab.Sb
