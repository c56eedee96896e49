/-
  What Take and Flush of a slab answer for no P, and what Flush leaves. Condition: the slab is there, and no list of it is too long.
-/
import Derived.Test.YtfbkifkfhgkdbabSbTake
namespace Go.Proofs.Ytfbkifkfhgkdbab.Sb
open Go.RowKit
open Classical
attribute [local go_sem ↓] Go.wp_at_zero Go.wp_at_succ

set_option maxHeartbeats 2000000 in
theorem take_bad (base b : Nat) (p L : Int) (x : Sl) (w : World) (h : SlabAt base w b L x) (hp : ¬ HasP x p) :
    Calls Try.prog 10 #[.pointer (some ⟨b, 0, none⟩), .int .i64 p] w fun e w' => e = .returned (.tuple #[.agg #[.int .i64 0, .int .i64 0], .int .i64 1]) ∧ Ch NoB w w' := by
  obtain ⟨W0, hW0⟩ : ∃ W, W = w.alloc (.cells #[.int .i64 0, .int .i64 0] 34) := ⟨_, rfl⟩
  have g0 : Ch NoB w W0 := by rw [hW0]; exact (Ch.refl _ _).alloc _
  have k0 : W0.heap[w.heap.size]? = some (.cells #[.int .i64 0, .int .i64 0] 34 (0, 0)) := by rw [hW0]; exact (MapKept.heap_alloc w _).1
  have HPR := hid (hasProc_any base b L p x W0 (h.ch g0))
  have HP := hid hp
  have z0 := cell_of k0 0
  have z1 := cell_of k0 1
  have zf0 := frozen_of k0 0
  have zf1 := frozen_of k0 1
  have zl := lt_of_block k0
  have HG0 := hid g0
  clear h hp k0 g0
  go_enter Try.func10, Try.ntmps10
  go_wp2_with fail
  rw [← hW0]
  clear hW0
  refine HPR.out.mono ?_
  rintro e w' ⟨rfl, rfl⟩
  rw [show decide (HasP x p) = false from decide_eq_false HP.out]
  go_wp2
  refine bodyPost_ret (v := .tuple #[.agg #[.int .i64 0, .int .i64 0], .int .i64 1]) (by simp [results, Try.results10, go_sem, z0, z1]) rfl ⟨rfl, ?_⟩
  exact HG0.out.trans (((Ch.refl (Only w.heap.size) _).own 0 (.int .i64 0)).own 1 (.int .i64 0)) (fun q e => .inr (by have e1 : q = w.heap.size := e; omega))

set_option maxHeartbeats 2000000 in
theorem flush_bad (base b : Nat) (p L : Int) (x : Sl) (w : World) (h : SlabAt base w b L x) (hp : ¬ HasP x p) :
    Calls Try.prog 15 #[.pointer (some ⟨b, 0, none⟩), .int .i64 p] w fun e w' => e = .returned (.int .i64 1) ∧ w' = w := by
  have HPR := hid (hasProc_any base b L p x w h)
  have HP := hid hp
  clear h hp
  go_enter Try.func15, Try.ntmps15
  go_wp2_with fail
  refine HPR.out.mono ?_
  rintro e w' ⟨rfl, rfl⟩
  rw [show decide (HasP x p) = false from decide_eq_false HP.out]
  go_wp2
  go_ret
  exact ⟨rfl, rfl⟩

/-- what Flush leaves -/
def flushS (x : Sl) (p : Nat) (c : List Int) : Sl := { x with C := x.C.set p [], F := x.F ++ c }
theorem flushS_eq (x : Sl) (p : Nat) (c : List Int) : spillS x p c.length c = flushS x p c := by simp [spillS, flushS]

set_option maxHeartbeats 2000000 in
theorem flush_good (S : Nat → Prop) (base b p : Nat) (L : Int) (x : Sl) (c : List Int) (w : World) (h : SlabIn S base w b L x) (hbase : base ≤ w.heap.size) (hc : x.C[p]? = some c) (hcl : c.length ≤ 4294967296) (hfl : x.F.length ≤ 4294967296) :
    Calls Try.prog 15 #[.pointer (some ⟨b, 0, none⟩), .int .i64 (p : Int)] w fun e w' => e = .returned (.int .i64 0) ∧ Left S base w w' b L (flushS x p c) := by
  have HPR := hid (hasProc_any base b L p x w h.at)
  have HP := hid (show HasP x p from ⟨by omega, by have := (List.getElem?_eq_some_iff.1 hc).1; omega⟩)
  have hsp := spill_any S base b p c.length L x c w h hbase hc (Nat.le_refl _) hcl hfl
  rw [flushS_eq] at hsp
  obtain ⟨vg, va, vc, vf, cv, hf, hs, hnb, hSb, hSB, hlt⟩ := h
  obtain ⟨ga, gc, rfl⟩ := hs.g.form
  obtain ⟨aa, ac, rfl⟩ := hs.a.form
  obtain ⟨ca, cc, rfl⟩ := hs.c.form
  obtain ⟨fa, fc, rfl⟩ := hs.f.form
  obtain ⟨nG, hnG⟩ : ∃ n, n = (iv x.G).length := ⟨_, rfl⟩
  obtain ⟨nA, hnA⟩ : ∃ n, n = (bv x.A).length := ⟨_, rfl⟩
  obtain ⟨nC, hnC⟩ : ∃ n, n = cv.length := ⟨_, rfl⟩
  obtain ⟨nF, hnF⟩ : ∃ n, n = (iv x.F).length := ⟨_, rfl⟩
  rw [← hnG, ← hnA, ← hnC, ← hnF] at hf hs hnb hSB
  have hp : p < cv.length := by rw [hs.cl]; exact (List.getElem?_eq_some_iff.1 hc).1
  obtain ⟨u, hu⟩ : ∃ u, cv[p]? = some u := ⟨_, List.getElem?_eq_getElem hp⟩
  have hou := hs.e p u c hu hc
  obtain ⟨ua, uc, rfl⟩ := hou.form
  obtain ⟨nU, hnU⟩ : ∃ n, n = (iv c).length := ⟨_, rfl⟩
  rw [← hnU] at hou hu
  obtain ⟨g1, rfl, -, hg1, hcap1, d0, df, -⟩ := hs.c.get1 hu
  have hucap := hou.len.2
  have hnUc : nU ≤ 4294967296 := by rw [hnU, iv_length]; exact hcl
  have hne1 : ¬ (b = g1) := fun e => hnb (.inr (.inr (.inl (by rw [e]; rfl))))
  have hne2 : ¬ (g1 = b) := fun e => hne1 e.symm
  have b3 : (0 : Int) ≤ (p : Int) := by omega
  have b4 : (p : Int) < (nC : Int) := by rw [hnC]; omega
  have HU := hid hu
  have HOU := hid hou
  have HC := hid hc
  obtain ⟨c0, c1, c2, c3, c4⟩ := hf.cells
  obtain ⟨y0, y1, y2, y3, y4⟩ := hf.fz
  have bl := hf.lt
  have HF := hid hf
  have HS := hid hs
  have HNB := hid hnb
  have HSB := hid hSB
  have HLT := hid hlt
  have HSb := hid hSb
  rw [show c.length = nU by rw [hnU, iv_length]] at hsp
  have HSP := hid hsp
  clear hf hs hnb hSB hlt hSb hu hou hc hnG hnA hnC hnF hnU hp hcl hfl hsp
  go_enter Try.func15, Try.ntmps15
  go_wp2_with fail
  refine HPR.out.mono ?_
  rintro e w' ⟨rfl, rfl⟩
  rw [show decide (HasP x p) = true from decide_eq_true HP.out]
  go_wp2_with fail
  refine HSP.out.mono ?_
  rintro e w1 ⟨rfl, l1⟩
  have HL := hid l1
  clear l1
  go_wp2
  go_ret
  exact ⟨rfl, HL.out⟩
end Go.Proofs.Ytfbkifkfhgkdbab.Sb
