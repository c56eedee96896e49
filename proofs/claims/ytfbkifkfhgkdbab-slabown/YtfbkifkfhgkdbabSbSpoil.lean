/-
  What spoil leaves: only the state's own lists are written over. Condition: the state is there, in memory of its own, its lists no longer than 140737488351232 bytes each.
-/
import Derived.Test.YtfbkifkfhgkdbabSbCopyB
namespace Go.Proofs.Ytfbkifkfhgkdbab.Sb
open Go.RowKit
attribute [local go_sem ↓] Go.wp_at_zero Go.wp_at_succ

/-- a state that is being written over: its lists as long as they were, those from j on untouched -/
def Sp (W0 : World) (base : Nat) (vg va vc vf : Value) (cv0 : List Value) (x0 : Sl) (j : Nat) (wr : World) : Prop :=
  ∃ x cv, St base wr vg va vc vf cv x ∧ x.G.length = x0.G.length ∧ x.A.length = x0.A.length ∧ x.F.length = x0.F.length ∧ x.C.length = x0.C.length ∧ (∀ i, j ≤ i → x.C[i]? = x0.C[i]?) ∧ (∀ q, SB vg va vc vf cv q → SB vg va vc vf cv0 q ∨ W0.heap.size ≤ q) ∧ Ch (SB vg va vc vf cv0) W0 wr
theorem Sp.box {W0 : World} {vg va vc vf : Value} {cv0 cv : List Value} {k : Nat} (hk : k < W0.heap.size) (hn : ¬ SB vg va vc vf cv0 k) (h : ∀ q, SB vg va vc vf cv q → SB vg va vc vf cv0 q ∨ W0.heap.size ≤ q) : ¬ SB vg va vc vf cv k := fun e => (h k e).elim hn (fun a => by omega)
theorem Sp.still {W0 wr w1 : World} {base j : Nat} {vg va vc vf : Value} {cv0 : List Value} {x0 : Sl} (h : Sp W0 base vg va vc vf cv0 x0 j wr) (g : Ch NoB wr w1) : Sp W0 base vg va vc vf cv0 x0 j w1 := by
  obtain ⟨x, cv, h1, h2, h3, h4, h5, h6, h7, h8⟩ := h
  exact ⟨x, cv, h1.ch g (fun _ _ => noB _), h2, h3, h4, h5, h6, h7, h8.trans' g.any⟩
theorem ls_three (w : World) (a b c : Value) (t : TypeId) : Ls (fun _ => True) (w.alloc (.cells #[a, b, c] t)) (.slice (some ⟨w.heap.size, 0, none⟩) 3 3) [a, b, c] := by
  refine ⟨_, 3, rfl, ⟨by simp, fun h => by cases h⟩, .inr ⟨w.heap.size, 0, rfl, trivial, by simp, ?_⟩⟩
  intro i y hy
  match i, hy with
  | 0, hy =>
    simp only [List.getElem?_cons_zero, Option.some.injEq] at hy
    subst hy
    exact (cell_of (MapKept.heap_alloc w _).1 0).trans rfl
  | 1, hy =>
    simp only [List.getElem?_cons_succ, List.getElem?_cons_zero, Option.some.injEq] at hy
    subst hy
    exact (cell_of (MapKept.heap_alloc w _).1 1).trans rfl
  | 2, hy =>
    simp only [List.getElem?_cons_succ, List.getElem?_cons_zero, Option.some.injEq] at hy
    subst hy
    exact (cell_of (MapKept.heap_alloc w _).1 2).trans rfl
  | i + 3, hy => simp at hy

set_option maxRecDepth 100000 in
set_option maxHeartbeats 8000000 in
theorem spoil_any (base : Nat) (L : Int) (vg va vc vf : Value) (cv : List Value) (x : Sl) (w : World) (h : St base w vg va vc vf cv x) (ht : x.Big) (hbase : base ≤ w.heap.size) :
    Calls Try.prog 21 #[.agg #[.int .i64 L, vg, va, vc, vf]] w fun e w' => e = .returned (.tuple #[]) ∧ Ch (SB vg va vc vf cv) w w' := by
  obtain ⟨ga, gc, rfl⟩ := h.g.form
  obtain ⟨aa, ac, rfl⟩ := h.a.form
  obtain ⟨ca, cc, rfl⟩ := h.c.form
  obtain ⟨fa, fc, rfl⟩ := h.f.form
  obtain ⟨nG, hnG⟩ : ∃ n, n = (iv x.G).length := ⟨_, rfl⟩
  obtain ⟨nA, hnA⟩ : ∃ n, n = (bv x.A).length := ⟨_, rfl⟩
  obtain ⟨nC, hnC⟩ : ∃ n, n = cv.length := ⟨_, rfl⟩
  obtain ⟨nF, hnF⟩ : ∃ n, n = (iv x.F).length := ⟨_, rfl⟩
  rw [← hnG, ← hnA, ← hnC, ← hnF] at h
  rw [← hnG, ← hnA, ← hnC, ← hnF]
  rw [iv_length] at hnG hnF
  rw [bv_length] at hnA
  have hnC' : nC = x.C.length := hnC.trans h.cl
  have bG : nG ≤ 17592186043904 := by rw [hnG]; exact ht.g
  have bA : nA ≤ 140737488351232 := by rw [hnA]; exact ht.a
  have bC : nC ≤ 5864062014634 := by rw [hnC']; exact ht.c
  have bF : nF ≤ 17592186043904 := by rw [hnF]; exact ht.f
  obtain ⟨W0, hW0⟩ : ∃ W, W = w.alloc (.cells #[.int .i64 L, .slice ga nG gc, .slice aa nA ac, .slice ca nC cc, .slice fa nF fc] 45) := ⟨_, rfl⟩
  have g0 : Ch NoB w W0 := by rw [hW0]; exact (Ch.refl _ _).alloc _
  have f0 : Fv 45 W0 w.heap.size (.int .i64 L) (.slice ga nG gc) (.slice aa nA ac) (.slice ca nC cc) (.slice fa nF fc) := by rw [hW0]; exact Fv.new _ w _ _ _ _ _
  have hz0 : W0.heap.size = w.heap.size + 1 := by rw [hW0]; simp
  have nsb : ¬ SB (.slice ga nG gc) (.slice aa nA ac) (.slice ca nC cc) (.slice fa nF fc) cv w.heap.size := fun e => Nat.lt_irrefl _ (h.blk e).2
  have s0 : Sp W0 base (.slice ga nG gc) (.slice aa nA ac) (.slice ca nC cc) (.slice fa nF fc) cv x 0 W0 := ⟨x, cv, h.ch g0 (fun _ _ => noB _), rfl, rfl, rfl, rfl, fun _ _ => rfl, fun _ a => .inl a, Ch.refl _ _⟩
  have HS0 := hid s0
  have HF0 := hid f0
  have HNS := hid nsb
  have HNG := hid hnG
  have HNA := hid hnA
  have HNF := hid hnF
  have HNC := hid hnC'
  have HTe := hid ht.e
  have HG0 := hid (show ∀ W, Ch (SB (.slice ga nG gc) (.slice aa nA ac) (.slice ca nC cc) (.slice fa nF fc) cv) W0 W → Ch (SB (.slice ga nG gc) (.slice aa nA ac) (.slice ca nC cc) (.slice fa nF fc) cv) w W from fun W k => (g0.any).trans' k)
  have wl : w.heap.size < W0.heap.size := by omega
  have hb0 : base ≤ W0.heap.size := by omega
  clear h ht hnG hnA hnF hnC hnC' f0 g0 s0 nsb
  go_enter Try.func21, Try.ntmps21
  go_wp2_with fail
  rw [← hW0]
  clear hW0 hz0
  go_loopg [2] nG (fun k i wr => ∃ j : Nat, j + k = nG ∧ i = .int .i64 ((j : Nat) : Int) ∧ Sp W0 base (.slice ga nG gc) (.slice aa nA ac) (.slice ca nC cc) (.slice fa nF fc) cv x 0 wr)
  case atStart => exact ⟨0, by omega, rfl, HS0.out⟩
  case round =>
    obtain ⟨j, hjk, rfl, x1, cv1, hs, l1, l2, l3, l4, l5, l6, hg⟩ := hrel
    clear HS0
    obtain ⟨V, hV⟩ : ∃ W, W = wr := ⟨_, rfl⟩
    subst hV
    have HS := hid hs
    have HG := hid hg
    have HL5 := hid l5
    have HL6 := hid l6
    have HL := hid (And.intro l1 (And.intro l2 (And.intro l3 l4)))
    obtain ⟨c0, c1, c2, c3, c4⟩ := (HF0.out.ch hg HNS.out).cells
    have vl := (HF0.out.ch hg HNS.out).lt
    clear hs hg l1 l2 l3 l4 l5 l6
    by_cases hj : j < nG
    · obtain ⟨z, hz⟩ : ∃ z, x1.G[j]? = some z := ⟨_, List.getElem?_eq_getElem (by rw [HL.out.1, ← HNG.out]; exact hj)⟩
      obtain ⟨g, rfl, -, gl, -, y0, yf, ys⟩ := HS.out.g.get1 (iv_get hz)
      have j0 : (0 : Int) ≤ (j : Int) := by omega
      have j1 : (j : Int) < (nG : Int) := by omega
      have YS := hid ys
      clear ys hz
      go_wp2
      go_roundg (gk - 1)
      case measure => omega
      case rel =>
        have o5 := YS.out (.int .i64 77)
        rw [iv_set] at o5
        have k5 : Ch (Blk (.slice (some ⟨g, 0, none⟩) nG gc)) V (V.setCell ⟨g, j, none⟩ (.int .i64 77)) := (Ch.refl (Blk (.slice (some ⟨g, 0, none⟩) nG gc)) V).setCell (p := ⟨g, j, none⟩) (.inl rfl) _
        refine ⟨j + 1, by omega, by simp, _, cv1, HS.out.gens k5 o5 (fun _ a => .inl a), by simp; exact HL.out.1, HL.out.2.1, HL.out.2.2.1, HL.out.2.2.2, HL5.out, HL6.out, HG.out.trans k5 (fun q e => HL6.out q (SB.g e))⟩
    · have HS0 := hid (show Sp W0 base (.slice ga nG gc) (.slice aa nA ac) (.slice ca nC cc) (.slice fa nF fc) cv x 0 V from ⟨x1, cv1, HS.out, HL.out.1, HL.out.2.1, HL.out.2.2.1, HL.out.2.2.2, HL5.out, HL6.out, HG.out⟩)
      clear HS HG HL HL5 HL6
      go_wp2_with fail
      clear c0 c1 c2 c3 c4 vl
      go_loopg [3] nA (fun k i wr => ∃ j : Nat, j + k = nA ∧ i = .int .i64 ((j : Nat) : Int) ∧ Sp W0 base (.slice ga nG gc) (.slice aa nA ac) (.slice ca nC cc) (.slice fa nF fc) cv x 0 wr)
      case atStart => exact ⟨0, by omega, rfl, HS0.out⟩
      case round =>
        obtain ⟨j, hjk, rfl, x1, cv1, hs, l1, l2, l3, l4, l5, l6, hg⟩ := hrel
        clear HS0
        obtain ⟨V, hV⟩ : ∃ W, W = wr := ⟨_, rfl⟩
        subst hV
        have HS := hid hs
        have HG := hid hg
        have HL5 := hid l5
        have HL6 := hid l6
        have HL := hid (And.intro l1 (And.intro l2 (And.intro l3 l4)))
        obtain ⟨c0, c1, c2, c3, c4⟩ := (HF0.out.ch hg HNS.out).cells
        have vl := (HF0.out.ch hg HNS.out).lt
        clear hs hg l1 l2 l3 l4 l5 l6
        by_cases hj : j < nA
        · obtain ⟨z, hz⟩ : ∃ z, x1.A[j]? = some z := ⟨_, List.getElem?_eq_getElem (by rw [HL.out.2.1, ← HNA.out]; exact hj)⟩
          obtain ⟨g, rfl, -, gl, -, y0, yf, ys⟩ := HS.out.a.get1 (bv_get hz)
          have j0 : (0 : Int) ≤ (j : Int) := by omega
          have j1 : (j : Int) < (nA : Int) := by omega
          have YS := hid ys
          have HNV := hid (Sp.box wl HNS.out HL6.out)
          clear ys hz
          go_wp2_with fail
          refine wp_region_held_drew (S := fun w' => w'.cell? ⟨w.heap.size, 2, none⟩ = some (.slice (some ⟨g, 0, none⟩) nA ac)) (by kernel_rfl) (by exact c2) (fun _ => ?_)
          refine takeS_on (i := 0) 25 (v := ?v1) rfl rfl (by kernel_rfl) (by kernel_rfl) (by kernel_rfl) (fun _ _ _ h => h) (by kernel_rfl) ?hy1 (by exact c2) ?_
          case hy1 => (intro w' hSw; go_simp; try (with_reducible rfl))
          simp only [Act.put, List.setIfInBounds_toArray, List.set_cons_zero, List.set_cons_succ]
          refine takeS_on (i := 1) 26 (v := ?v2) rfl rfl (by kernel_rfl) (by kernel_rfl) (by kernel_rfl) (fun _ _ _ h => h) (by kernel_rfl) ?hy2 (by exact c2) ?_
          case hy2 => (intro w' hSw; go_simp; try (with_reducible rfl))
          simp only [Act.put, List.setIfInBounds_toArray, List.set_cons_zero, List.set_cons_succ]
          refine takeS_on (i := 2) 27 (v := ?v3) rfl rfl (by kernel_rfl) (by kernel_rfl) (by kernel_rfl) (fun _ _ _ h => h) (by kernel_rfl) ?hy3 (by exact c2) ?_
          case hy3 => (intro w' hSw; go_simp; try (with_reducible rfl))
          simp only [Act.put, List.setIfInBounds_toArray, List.set_cons_zero, List.set_cons_succ]
          refine takeS_on (i := 3) 28 (v := ?v4) rfl rfl (by kernel_rfl) (by kernel_rfl) (by kernel_rfl) (fun _ _ _ h => h) (by kernel_rfl) ?hy4 (by exact c2) ?_
          case hy4 => (intro w' hSw; go_simp; try (with_reducible rfl))
          simp only [Act.put, List.setIfInBounds_toArray, List.set_cons_zero, List.set_cons_succ]
          refine takeS_on (i := 4) 29 (v := ?v5) rfl rfl (by kernel_rfl) (by kernel_rfl) (by kernel_rfl) (fun _ _ _ h => h) (by kernel_rfl) ?hy5 (by exact c2) ?_
          case hy5 => (intro w' hSw; go_simp; try (with_reducible rfl))
          simp only [Act.put, List.setIfInBounds_toArray, List.set_cons_zero, List.set_cons_succ]
          refine takeS_on (i := 5) 30 (v := ?v6) rfl rfl (by kernel_rfl) (by kernel_rfl) (by kernel_rfl) (fun _ _ _ h => h) (by kernel_rfl) ?hy6 (by exact c2) ?_
          case hy6 => (intro w' hSw; go_simp; try (with_reducible rfl))
          simp only [Act.put, List.setIfInBounds_toArray, List.set_cons_zero, List.set_cons_succ]
          refine takeS_on (i := 6) 31 (v := ?v7) rfl rfl (by kernel_rfl) (by kernel_rfl) (by kernel_rfl) (fun _ _ _ h => h) (by kernel_rfl) ?hy7 (by exact c2) ?_
          case hy7 => (intro w' hSw; go_simp; try (with_reducible rfl))
          simp only [Act.put, List.setIfInBounds_toArray, List.set_cons_zero, List.set_cons_succ]
          refine wpAnyH_ready (rs := [7]) (by kernel_rfl) (by simp) (AllReadyH.cons rfl (fun K hK => ?_) AllReadyH.nil)
          go_simp
          refine hK.out _ _ (by exact c2) (fun _ => ?_)
          clear hK K
          refine takeS_on (i := 8) 33 (v := ?v8) rfl rfl (by kernel_rfl) (by kernel_rfl) (by kernel_rfl) (fun _ _ _ h => h) (by kernel_rfl) ?hy8 (by exact c2) ?_
          case hy8 => (intro w' hSw; go_simp; try (with_reducible rfl))
          simp only [Act.put, List.setIfInBounds_toArray, List.set_cons_zero, List.set_cons_succ]
          refine takeS_on (i := 9) 34 (v := ?v9) rfl rfl (by kernel_rfl) (by kernel_rfl) (by kernel_rfl) (fun _ _ _ h => h) (by kernel_rfl) ?hy9 (by exact c2) ?_
          case hy9 => (intro w' hSw; go_simp; try (with_reducible rfl))
          simp only [Act.put, List.setIfInBounds_toArray, List.set_cons_zero, List.set_cons_succ]
          refine wpAnyH_ready (rs := [10]) (by kernel_rfl) (by simp) (AllReadyH.cons rfl (fun K hK => ?_) AllReadyH.nil)
          go_simp
          have k5 : Ch (Blk (.slice (some ⟨g, 0, none⟩) nA ac)) V (V.setCell ⟨g, j, none⟩ (.bool (!z))) := (Ch.refl (Blk (.slice (some ⟨g, 0, none⟩) nA ac)) V).setCell (p := ⟨g, j, none⟩) (.inl rfl) _
          have h5 := (k5.cell (b := w.heap.size) (o := 2) vl (fun e => HNV.out (SB.a e))).trans c2
          refine hK.out _ _ (by exact h5) (fun _ => ?_)
          clear hK K
          refine wpAnyH_done (by kernel_rfl) ?_ _
          have o5 := YS.out (.bool (!z))
          rw [bv_set] at o5
          have HS5 := hid (show Sp W0 base (.slice ga nG gc) (.slice (some ⟨g, 0, none⟩) nA ac) (.slice ca nC cc) (.slice fa nF fc) cv x 0 (V.setCell ⟨g, j, none⟩ (.bool (!z))) from ⟨_, cv1, HS.out.alive k5 o5 (fun _ a => .inl a), HL.out.1, by simp; exact HL.out.2.1, HL.out.2.2.1, HL.out.2.2.2, HL5.out, HL6.out, HG.out.trans k5 (fun q e => HL6.out q (SB.a e))⟩)
          clear o5 k5 h5
          go_wp2
          go_roundg (gk - 1)
          case measure => omega
          case rel => exact ⟨j + 1, by omega, by simp, HS5.out.still ((Ch.refl NoB _).drew)⟩
        · have HS0 := hid (show Sp W0 base (.slice ga nG gc) (.slice aa nA ac) (.slice ca nC cc) (.slice fa nF fc) cv x 0 V from ⟨x1, cv1, HS.out, HL.out.1, HL.out.2.1, HL.out.2.2.1, HL.out.2.2.2, HL5.out, HL6.out, HG.out⟩)
          clear HS HG HL HL5 HL6
          go_wp2_with fail
          clear c0 c1 c2 c3 c4 vl
          go_loopg [4] nF (fun k i wr => ∃ j : Nat, j + k = nF ∧ i = .int .i64 ((j : Nat) : Int) ∧ Sp W0 base (.slice ga nG gc) (.slice aa nA ac) (.slice ca nC cc) (.slice fa nF fc) cv x 0 wr)
          case atStart => exact ⟨0, by omega, rfl, HS0.out⟩
          case round =>
            obtain ⟨j, hjk, rfl, x1, cv1, hs, l1, l2, l3, l4, l5, l6, hg⟩ := hrel
            clear HS0
            obtain ⟨V, hV⟩ : ∃ W, W = wr := ⟨_, rfl⟩
            subst hV
            have HS := hid hs
            have HG := hid hg
            have HL5 := hid l5
            have HL6 := hid l6
            have HL := hid (And.intro l1 (And.intro l2 (And.intro l3 l4)))
            obtain ⟨c0, c1, c2, c3, c4⟩ := (HF0.out.ch hg HNS.out).cells
            have vl := (HF0.out.ch hg HNS.out).lt
            clear hs hg l1 l2 l3 l4 l5 l6
            by_cases hj : j < nF
            · obtain ⟨z, hz⟩ : ∃ z, x1.F[j]? = some z := ⟨_, List.getElem?_eq_getElem (by rw [HL.out.2.2.1, ← HNF.out]; exact hj)⟩
              obtain ⟨g, rfl, -, gl, -, y0, yf, ys⟩ := HS.out.f.get1 (iv_get hz)
              have j0 : (0 : Int) ≤ (j : Int) := by omega
              have j1 : (j : Int) < (nF : Int) := by omega
              have YS := hid ys
              clear ys hz
              go_wp2
              go_roundg (gk - 1)
              case measure => omega
              case rel =>
                have o5 := YS.out (.int .i64 78)
                rw [iv_set] at o5
                have k5 : Ch (Blk (.slice (some ⟨g, 0, none⟩) nF fc)) V (V.setCell ⟨g, j, none⟩ (.int .i64 78)) := (Ch.refl (Blk (.slice (some ⟨g, 0, none⟩) nF fc)) V).setCell (p := ⟨g, j, none⟩) (.inl rfl) _
                refine ⟨j + 1, by omega, by simp, _, cv1, HS.out.free k5 o5 (fun _ a => .inl a), HL.out.1, HL.out.2.1, by simp; exact HL.out.2.2.1, HL.out.2.2.2, HL5.out, HL6.out, HG.out.trans k5 (fun q e => HL6.out q (SB.f e))⟩
            · have HS0 := hid (show Sp W0 base (.slice ga nG gc) (.slice aa nA ac) (.slice ca nC cc) (.slice fa nF fc) cv x 0 V from ⟨x1, cv1, HS.out, HL.out.1, HL.out.2.1, HL.out.2.2.1, HL.out.2.2.2, HL5.out, HL6.out, HG.out⟩)
              clear HS HG HL HL5 HL6
              go_wp2_with fail
              clear c0 c1 c2 c3 c4 vl
              go_loopg [5] nC (fun k i wr => ∃ j : Nat, j + k = nC ∧ i = .int .i64 ((j : Nat) : Int) ∧ Sp W0 base (.slice ga nG gc) (.slice aa nA ac) (.slice ca nC cc) (.slice fa nF fc) cv x j wr)
              case atStart => exact ⟨0, by omega, rfl, HS0.out⟩
              case round =>
                obtain ⟨j, hjk, rfl, x1, cv1, hs, l1, l2, l3, l4, l5, l6, hg⟩ := hrel
                clear HS0
                obtain ⟨V, hV⟩ : ∃ W, W = wr := ⟨_, rfl⟩
                subst hV
                obtain ⟨K1, hK1⟩ : ∃ k, k = gk := ⟨_, rfl⟩
                have HS := hid hs
                have HG := hid hg
                have HL5 := hid l5
                have HL6 := hid l6
                have HL := hid (And.intro l1 (And.intro l2 (And.intro l3 l4)))
                obtain ⟨v0, v1, v2, v3, v4⟩ := (HF0.out.ch hg HNS.out).cells
                have vl := (HF0.out.ch hg HNS.out).lt
                clear hs hg l1 l2 l3 l4 l5 l6
                have hbV : base ≤ V.heap.size := Nat.le_trans hb0 HG.out.size
                by_cases hj : j < nC
                · obtain ⟨u, hu⟩ : ∃ u, cv1[j]? = some u := ⟨_, List.getElem?_eq_getElem (by rw [HS.out.cl, HL.out.2.2.2, ← HNC.out]; exact hj)⟩
                  obtain ⟨c, hc, hou⟩ := HS.out.get hu
                  obtain ⟨ua, uc, rfl⟩ := hou.form
                  obtain ⟨nU, hnU⟩ : ∃ n, n = (iv c).length := ⟨_, rfl⟩
                  rw [← hnU] at hou hu
                  have hnc : nU = c.length := by rw [hnU, iv_length]
                  have hub : nU ≤ 17592186043904 := by rw [hnc]; exact HTe.out j c (by rw [← HL5.out j (Nat.le_refl _)]; exact hc)
                  obtain ⟨g1, rfl, -, gl1, -, t1, tf1, -⟩ := HS.out.c.get1 hu
                  have j0 : (0 : Int) ≤ (j : Int) := by omega
                  have j1 : (j : Int) < (nC : Int) := by omega
                  have HU := hid hu
                  have HO := hid hou
                  have HNU := hid hnc
                  have HNV := hid (Sp.box wl HNS.out HL6.out)
                  have hk2 : j + 1 + (K1 - 1) = nC := by omega
                  clear hc hou hu hnU hnc
                  go_wp2_with fail
                  go_loopg [6] nU (fun k i wv => ∃ (j3 : Nat) (c3 : List Int), j3 + k = nU ∧ i = .int .i64 ((j3 : Nat) : Int) ∧ c3.length = nU ∧ Ow 3 base wv (.slice ua nU uc) (iv c3) ∧ Ch (Blk (.slice ua nU uc)) V wv)
                  case atStart => exact ⟨0, c, by omega, rfl, HNU.out.symm, HO.out, Ch.refl _ _⟩
                  case round =>
                    obtain ⟨j3, c3', hjk3, rfl, hcl, hou3, hcu⟩ := hrel
                    obtain ⟨U, hUU⟩ : ∃ W, W = wr := ⟨_, rfl⟩
                    subst hUU
                    have c3 := (hcu.cell (b := w.heap.size) (o := 3) vl (fun e => HNV.out (SB.at_ HU.out e))).trans v3
                    have r1 := (hcu.cell (b := g1) (o := j) gl1 (fun e => HS.out.ec j _ HU.out g1 e (blk_self _ _ _))).trans t1
                    have ul : w.heap.size < U.heap.size := Nat.lt_of_lt_of_le vl hcu.size
                    have ul1 : g1 < U.heap.size := Nat.lt_of_lt_of_le gl1 hcu.size
                    have hbU : base ≤ U.heap.size := Nat.le_trans hbV hcu.size
                    have HOU := hid hou3
                    have HCU := hid hcu
                    have HCLn := hid hcl
                    clear hou3 hcu hcl
                    by_cases hj3 : j3 < nU
                    · obtain ⟨z, hz⟩ : ∃ z, c3'[j3]? = some z := ⟨_, List.getElem?_eq_getElem (by rw [HCLn.out]; exact hj3)⟩
                      obtain ⟨g2, rfl, -, gl2, -, y0, yf, ys⟩ := HOU.out.get1 (iv_get hz)
                      have j30 : (0 : Int) ≤ (j3 : Int) := by omega
                      have j31 : (j3 : Int) < (nU : Int) := by omega
                      have YS := hid ys
                      clear ys hz
                      go_wp2
                      go_roundg (gk - 1)
                      case measure => omega
                      case rel =>
                        have o5 := YS.out (.int .i64 79)
                        rw [iv_set] at o5
                        exact ⟨j3 + 1, _, by omega, by simp, by simp; exact HCLn.out, o5, HCU.out.setCell (p := ⟨g2, j3, none⟩) (.inl rfl) _⟩
                    · have HLen := hid (show nU + 3 = (iv c3').length + [Value.int .i64 1, .int .i64 2, .int .i64 3].length by rw [iv_length, HCLn.out]; rfl)
                      go_wp2_with fail
                      refine wp_region_held_drew (S := fun w' => w'.cell? ⟨w.heap.size, 3, none⟩ = some (.slice (some ⟨g1, 0, none⟩) nC cc)) (by kernel_rfl) (by exact c3) (fun _ => ?_)
                      refine takeS_on (i := 0) 70 (v := ?v10) rfl rfl (by kernel_rfl) (by kernel_rfl) (by kernel_rfl) (fun _ _ _ h => h) (by kernel_rfl) ?hy10 (by exact c3) ?_
                      case hy10 => (intro w' hSw; go_simp; try (with_reducible rfl))
                      simp only [Act.put, List.setIfInBounds_toArray, List.set_cons_zero, List.set_cons_succ]
                      refine takeS_on (i := 1) 71 (v := ?v11) rfl rfl (by kernel_rfl) (by kernel_rfl) (by kernel_rfl) (fun _ _ _ h => h) (by kernel_rfl) ?hy11 (by exact c3) ?_
                      case hy11 => (intro w' hSw; go_simp; try (with_reducible rfl))
                      simp only [Act.put, List.setIfInBounds_toArray, List.set_cons_zero, List.set_cons_succ]
                      refine takeS_on (i := 2) 72 (v := ?v12) rfl rfl (by kernel_rfl) (by kernel_rfl) (by kernel_rfl) (fun _ _ _ h => h) (by kernel_rfl) ?hy12 (by exact c3) ?_
                      case hy12 => (intro w' hSw; go_simp; try (with_reducible rfl))
                      simp only [Act.put, List.setIfInBounds_toArray, List.set_cons_zero, List.set_cons_succ]
                      refine takeS_on (i := 3) 73 (v := ?v13) rfl rfl (by kernel_rfl) (by kernel_rfl) (by kernel_rfl) (fun _ _ _ h => h) (by kernel_rfl) ?hy13 (by exact c3) ?_
                      case hy13 => (intro w' hSw; go_simp; try (with_reducible rfl))
                      simp only [Act.put, List.setIfInBounds_toArray, List.set_cons_zero, List.set_cons_succ]
                      refine takeS_on (i := 4) 74 (v := ?v14) rfl rfl (by kernel_rfl) (by kernel_rfl) (by kernel_rfl) (fun _ _ _ h => h) (by kernel_rfl) ?hy14 (by exact c3) ?_
                      case hy14 => (intro w' hSw; go_simp; try (with_reducible rfl))
                      simp only [Act.put, List.setIfInBounds_toArray, List.set_cons_zero, List.set_cons_succ]
                      refine takeS_on (i := 5) 75 (v := ?v15) rfl rfl (by kernel_rfl) (by kernel_rfl) (by kernel_rfl) (fun _ _ _ h => h) (by kernel_rfl) ?hy15 (by exact c3) ?_
                      case hy15 => (intro w' hSw; go_simp; try (with_reducible rfl))
                      simp only [Act.put, List.setIfInBounds_toArray, List.set_cons_zero, List.set_cons_succ]
                      refine takeS_on (i := 6) 76 (v := ?v16) rfl rfl (by kernel_rfl) (by kernel_rfl) (by kernel_rfl) (fun _ _ _ h => h) (by kernel_rfl) ?hy16 (by exact c3) ?_
                      case hy16 => (intro w' hSw; go_simp; try (with_reducible rfl))
                      simp only [Act.put, List.setIfInBounds_toArray, List.set_cons_zero, List.set_cons_succ]
                      refine wpAnyH_ready (rs := [7, 8]) (by kernel_rfl) (by simp) (AllReadyH.cons rfl (fun K hK => ?_) (AllReadyH.cons rfl (fun K hK => ?_) AllReadyH.nil))
                      · go_simp
                        refine hK.out _ _ (by exact c3) (fun _ => ?_)
                        clear hK K
                        refine wpAnyH_ready (rs := [8]) (by kernel_rfl) (by simp) (AllReadyH.cons rfl (fun K hK => ?_) AllReadyH.nil)
                        go_simp
                        refine hK.out _ _ (by exact (((Ch.refl NoB U).alloc _).cell ul (noB _)).trans c3) (fun _ => ?_)
                        clear hK K
                        refine wpAnyH_ready (rs := [9]) (by kernel_rfl) (by simp) (AllReadyH.cons rfl (fun K hK => ?_) AllReadyH.nil)
                        refine step_append_ow rfl (.tmp 77) (.tmp 78) 41 3 8 (.int .i64 0) Try.underlying41 int_info rfl rfl base (.slice ua nU uc) (iv c3') (by simp [Act.eval]) (HOU.out.drew.alloc _) _ _ [.int .i64 1, .int .i64 2, .int .i64 3] (by simp [Act.eval]) (ls_three U.drew _ _ _ _) (fun u hu => by simp at hu; rcases hu with rfl | rfl | rfl <;> rfl) (nU + 3) HLen.out (by omega) (by unfold maxLen; omega) (by simp; omega) (iv (c3' ++ [1, 2, 3])) (by rw [iv_append]; rfl) ?_
                        intro ao2 cap2 w4 o4 g4 bl4
                        have G4 : Ch (Blk (.slice ua nU uc)) V w4 := HCU.out.trans' ((((Ch.refl (Blk (.slice ua nU uc)) U).drew).alloc _).trans' g4)
                        have e3 := (G4.cell (b := w.heap.size) (o := 3) vl (fun e => HNV.out (SB.at_ HU.out e))).trans v3
                        obtain ⟨g', e', -, hg4, -, d4, df4, -⟩ := (HS.out.c.ch G4 (fun q a e => HS.out.ec j _ HU.out q e a)).get1 HU.out
                        cases e'
                        have HO4 := hid o4
                        have HG4 := hid G4
                        have HB4 := hid (fun q (e : Blk (.slice ao2 (nU + 3) cap2) q) => (show Blk (.slice ua nU uc) q ∨ V.heap.size ≤ q from (bl4 q e).imp id (fun e => Nat.le_trans HCU.out.size (Nat.le_trans (((Ch.refl NoB U).alloc (.cells #[.int .i64 1, .int .i64 2, .int .i64 3] 3)).size) e))))
                        clear o4 g4 G4 bl4
                        refine hK.out _ _ (by exact e3) (fun _ => ?_)
                        change wpAnyH _ _ _ _ _ _ _ (Act.put _ (some 79) _) _
                        simp only [Act.put, List.setIfInBounds_toArray, List.set_cons_zero, List.set_cons_succ]
                        clear hK K
                        refine takeS_on (i := 10) 80 (v := ?v17) rfl rfl (by kernel_rfl) (by kernel_rfl) (by kernel_rfl) (fun _ _ _ h => h) (by kernel_rfl) ?hy17 (by exact e3) ?_
                        case hy17 => (intro w' hSw; go_simp; try (with_reducible rfl))
                        simp only [Act.put, List.setIfInBounds_toArray, List.set_cons_zero, List.set_cons_succ]
                        refine wpAnyH_ready (rs := [11]) (by kernel_rfl) (by simp) (AllReadyH.cons rfl (fun K hK => ?_) AllReadyH.nil)
                        go_simp
                        have hs5 := HS.out.cache HU.out HG4.out HO4.out HB4.out
                        have C5 : Ch (Only g1) w4 (w4.setCell ⟨g1, j, none⟩ (.slice ao2 (nU + 3) cap2)) := (Ch.refl _ _).own _ _
                        have h5 := (C5.cell (b := w.heap.size) (o := 3) (Nat.lt_of_lt_of_le vl HG4.out.size) (fun e => HNV.out (SB.c (by have e1 : w.heap.size = g1 := e; rw [e1]; exact blk_self _ _ _)))).trans e3
                        refine hK.out _ _ (by exact h5) (fun _ => ?_)
                        clear hK K
                        refine wpAnyH_done (by kernel_rfl) ?_ _
                        have HS5 := hid hs5
                        have HC5 := hid C5
                        have hsp : Sp W0 base (.slice ga nG gc) (.slice aa nA ac) (.slice (some ⟨g1, 0, none⟩) nC cc) (.slice fa nF fc) cv x (j + 1) (w4.setCell ⟨g1, j, none⟩ (.slice ao2 (nU + 3) cap2)) := by
                          refine ⟨_, _, HS5.out, HL.out.1, HL.out.2.1, HL.out.2.2.1, by simp; exact HL.out.2.2.2, fun i hi => ?_, fun q e => ?_, ?_⟩
                          · rw [List.getElem?_set_ne (by omega)]
                            exact HL5.out i (by omega)
                          · rcases e.cache with e | e
                            · exact HL6.out q e
                            · exact (HB4.out q e).elim (fun e => HL6.out q (SB.at_ HU.out e)) (fun e => .inr (Nat.le_trans HG.out.size e))
                          · exact (HG.out.trans HG4.out (fun q e => HL6.out q (SB.at_ HU.out e))).trans HC5.out (fun q e => HL6.out q (SB.c (by have e1 : q = g1 := e; rw [e1]; exact blk_self _ _ _)))
                        have HSP := hid hsp
                        clear hsp hs5 C5 h5
                        go_wp2
                        go_roundg (K1 - 1)
                        case measure => omega
                        case rel => exact ⟨j + 1, hk2, by simp, HSP.out⟩
                      · go_simp
                        refine hK.out _ _ (by exact (((Ch.refl NoB U).alloc _).cell ul (noB _)).trans c3) (fun _ => ?_)
                        clear hK K
                        refine wpAnyH_ready (rs := [7]) (by kernel_rfl) (by simp) (AllReadyH.cons rfl (fun K hK => ?_) AllReadyH.nil)
                        go_simp
                        refine hK.out _ _ (by exact (((Ch.refl NoB U).alloc _).cell ul (noB _)).trans c3) (fun _ => ?_)
                        clear hK K
                        refine wpAnyH_ready (rs := [9]) (by kernel_rfl) (by simp) (AllReadyH.cons rfl (fun K hK => ?_) AllReadyH.nil)
                        refine step_append_ow rfl (.tmp 77) (.tmp 78) 41 3 8 (.int .i64 0) Try.underlying41 int_info rfl rfl base (.slice ua nU uc) (iv c3') (by simp [Act.eval]) (HOU.out.drew.alloc _) _ _ [.int .i64 1, .int .i64 2, .int .i64 3] (by simp [Act.eval]) (ls_three U.drew _ _ _ _) (fun u hu => by simp at hu; rcases hu with rfl | rfl | rfl <;> rfl) (nU + 3) HLen.out (by omega) (by unfold maxLen; omega) (by simp; omega) (iv (c3' ++ [1, 2, 3])) (by rw [iv_append]; rfl) ?_
                        intro ao2 cap2 w4 o4 g4 bl4
                        have G4 : Ch (Blk (.slice ua nU uc)) V w4 := HCU.out.trans' ((((Ch.refl (Blk (.slice ua nU uc)) U).drew).alloc _).trans' g4)
                        have e3 := (G4.cell (b := w.heap.size) (o := 3) vl (fun e => HNV.out (SB.at_ HU.out e))).trans v3
                        obtain ⟨g', e', -, hg4, -, d4, df4, -⟩ := (HS.out.c.ch G4 (fun q a e => HS.out.ec j _ HU.out q e a)).get1 HU.out
                        cases e'
                        have HO4 := hid o4
                        have HG4 := hid G4
                        have HB4 := hid (fun q (e : Blk (.slice ao2 (nU + 3) cap2) q) => (show Blk (.slice ua nU uc) q ∨ V.heap.size ≤ q from (bl4 q e).imp id (fun e => Nat.le_trans HCU.out.size (Nat.le_trans (((Ch.refl NoB U).alloc (.cells #[.int .i64 1, .int .i64 2, .int .i64 3] 3)).size) e))))
                        clear o4 g4 G4 bl4
                        refine hK.out _ _ (by exact e3) (fun _ => ?_)
                        change wpAnyH _ _ _ _ _ _ _ (Act.put _ (some 79) _) _
                        simp only [Act.put, List.setIfInBounds_toArray, List.set_cons_zero, List.set_cons_succ]
                        clear hK K
                        refine takeS_on (i := 10) 80 (v := ?v18) rfl rfl (by kernel_rfl) (by kernel_rfl) (by kernel_rfl) (fun _ _ _ h => h) (by kernel_rfl) ?hy18 (by exact e3) ?_
                        case hy18 => (intro w' hSw; go_simp; try (with_reducible rfl))
                        simp only [Act.put, List.setIfInBounds_toArray, List.set_cons_zero, List.set_cons_succ]
                        refine wpAnyH_ready (rs := [11]) (by kernel_rfl) (by simp) (AllReadyH.cons rfl (fun K hK => ?_) AllReadyH.nil)
                        go_simp
                        have hs5 := HS.out.cache HU.out HG4.out HO4.out HB4.out
                        have C5 : Ch (Only g1) w4 (w4.setCell ⟨g1, j, none⟩ (.slice ao2 (nU + 3) cap2)) := (Ch.refl _ _).own _ _
                        have h5 := (C5.cell (b := w.heap.size) (o := 3) (Nat.lt_of_lt_of_le vl HG4.out.size) (fun e => HNV.out (SB.c (by have e1 : w.heap.size = g1 := e; rw [e1]; exact blk_self _ _ _)))).trans e3
                        refine hK.out _ _ (by exact h5) (fun _ => ?_)
                        clear hK K
                        refine wpAnyH_done (by kernel_rfl) ?_ _
                        have HS5 := hid hs5
                        have HC5 := hid C5
                        have hsp : Sp W0 base (.slice ga nG gc) (.slice aa nA ac) (.slice (some ⟨g1, 0, none⟩) nC cc) (.slice fa nF fc) cv x (j + 1) (w4.setCell ⟨g1, j, none⟩ (.slice ao2 (nU + 3) cap2)) := by
                          refine ⟨_, _, HS5.out, HL.out.1, HL.out.2.1, HL.out.2.2.1, by simp; exact HL.out.2.2.2, fun i hi => ?_, fun q e => ?_, ?_⟩
                          · rw [List.getElem?_set_ne (by omega)]
                            exact HL5.out i (by omega)
                          · rcases e.cache with e | e
                            · exact HL6.out q e
                            · exact (HB4.out q e).elim (fun e => HL6.out q (SB.at_ HU.out e)) (fun e => .inr (Nat.le_trans HG.out.size e))
                          · exact (HG.out.trans HG4.out (fun q e => HL6.out q (SB.at_ HU.out e))).trans HC5.out (fun q e => HL6.out q (SB.c (by have e1 : q = g1 := e; rw [e1]; exact blk_self _ _ _)))
                        have HSP := hid hsp
                        clear hsp hs5 C5 h5
                        go_wp2
                        go_roundg (K1 - 1)
                        case measure => omega
                        case rel => exact ⟨j + 1, hk2, by simp, HSP.out⟩
                · go_wp2
                  go_end0
                  exact ⟨rfl, HG0.out _ HG.out⟩
end Go.Proofs.Ytfbkifkfhgkdbab.Sb
