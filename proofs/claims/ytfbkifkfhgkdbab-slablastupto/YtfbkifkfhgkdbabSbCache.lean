/-
  What cache of a slab leaves: a slot behind a cache, and, where that is full, its older half behind the list. Condition: the slab is there, with that P, and no list of it is too long.
-/
import Derived.Test.YtfbkifkfhgkdbabSbSpill
namespace Go.Proofs.Ytfbkifkfhgkdbab.Sb
open Go.RowKit
attribute [local go_sem ↓] Go.wp_at_zero Go.wp_at_succ

/-- a slot behind a cache -/
def pushS (x : Sl) (p : Nat) (z : Int) (c : List Int) : Sl := { x with C := x.C.set p (c ++ [z]) }
/-- a slot put into a cache, half of which leaves it when it is full -/
def cacheS (x : Sl) (p : Nat) (z : Int) (c : List Int) : Sl := if 64 ≤ c.length + 1 then spillS (pushS x p z c) p 32 (c ++ [z]) else pushS x p z c
theorem ls_int (w : World) (z : Int) (t : TypeId) : Ls (fun _ => True) (w.alloc (.cells #[.int .i64 z] t)) (.slice (some ⟨w.heap.size, 0, none⟩) 1 1) [.int .i64 z] :=
  ⟨some ⟨w.heap.size, 0, none⟩, 1, rfl, ⟨Nat.le_refl _, fun h => by cases h⟩, .inr ⟨w.heap.size, 0, rfl, trivial, by simp, fun i x hx => by
    obtain ⟨rfl, rfl⟩ : i = 0 ∧ x = .int .i64 z := by
      cases i with
      | zero => simpa using hx.symm
      | succ i => simp at hx
    exact (cell_of (MapKept.heap_alloc w _).1 0).trans rfl⟩⟩

set_option maxHeartbeats 2000000 in
theorem cache_less (S : Nat → Prop) (base b p : Nat) (L z : Int) (x : Sl) (c : List Int) (w : World) (h : SlabIn S base w b L x) (hbase : base ≤ w.heap.size) (hc : x.C[p]? = some c) (hcl : c.length ≤ 4294967296) (hlt64 : c.length + 1 < 64) :
    Calls Try.prog 29 #[.pointer (some ⟨b, 0, none⟩), .int .i64 (p : Int), .int .i64 z] w fun e w' => e = .returned (.tuple #[]) ∧ Left S base w w' b L (pushS x p z c) := by
  obtain ⟨vg, va, vc, vf, cv, hf, hs, hnb, hSb, hSB, hlt⟩ := h
  obtain ⟨ga, gc, rfl⟩ := hs.g.form
  obtain ⟨aa, ac, rfl⟩ := hs.a.form
  obtain ⟨ca, cc, rfl⟩ := hs.c.form
  obtain ⟨fa, fc, rfl⟩ := hs.f.form
  obtain ⟨nG, hnG⟩ : ∃ n, n = (iv x.G).length := ⟨_, rfl⟩
  obtain ⟨nA, hnA⟩ : ∃ n, n = (bv x.A).length := ⟨_, rfl⟩
  obtain ⟨nC, hnC⟩ : ∃ n, n = cv.length := ⟨_, rfl⟩
  obtain ⟨nF, hnF⟩ : ∃ n, n = (iv x.F).length := ⟨_, rfl⟩
  rw [← hnG, ← hnA, ← hnC, ← hnF] at hf hs hnb hSB
  have hp : p < cv.length := by rw [hs.cl]; exact (List.getElem?_eq_some_iff.1 hc).1
  obtain ⟨u, hu⟩ : ∃ u, cv[p]? = some u := ⟨_, List.getElem?_eq_getElem hp⟩
  have hou := hs.e p u c hu hc
  obtain ⟨ua, uc, rfl⟩ := hou.form
  obtain ⟨nU, hnU⟩ : ∃ n, n = (iv c).length := ⟨_, rfl⟩
  rw [← hnU] at hou hu
  obtain ⟨g1, rfl, -, hg1, hcap1, d0, df, -⟩ := hs.c.get1 hu
  have hucap := hou.len.2
  have hnUc : nU ≤ 4294967296 := by rw [hnU, iv_length]; exact hcl
  have hne1 : ¬ (b = g1) := fun e => hnb (.inr (.inr (.inl (by rw [e]; rfl))))
  have hne2 : ¬ (g1 = b) := fun e => hne1 e.symm
  have b3 : (0 : Int) ≤ (p : Int) := by omega
  have b4 : (p : Int) < (nC : Int) := by rw [hnC]; omega
  have HU := hid hu
  have HOU := hid hou
  have HC := hid hc
  obtain ⟨c0, c1, c2, c3, c4⟩ := hf.cells
  obtain ⟨y0, y1, y2, y3, y4⟩ := hf.fz
  have bl := hf.lt
  have HF := hid hf
  have HS := hid hs
  have HNB := hid hnb
  have HSB := hid hSB
  have HLT := hid hlt
  have HSb := hid hSb
  have hpl : p < cv.length := hp
  have HLen := hid (show nU + 1 = (iv c).length + [Value.int .i64 z].length by rw [hnU]; rfl)
  have HPC := hid (show (pushS x p z c).C[p]? = some (c ++ [z]) from List.getElem?_set_self (by rw [← hs.cl]; exact hp))
  have hnUl : nU = c.length := by rw [hnU, iv_length]
  have f64 : decide ((64 : Int) ≤ (nU : Int) + 1) = false := decide_eq_false (by omega)
  have g64 : ¬ ((64 : Int) ≤ (nU : Int) + 1) := by omega
  clear hlt64 hcl hf hs hnb hSB hlt hSb hu hou hc hnG hnA hnC hnF hnU hp hnUl
  go_enter Try.func29, Try.ntmps29
  go_wp2_with fail
  refine wp_region_held_drew (S := fun w' => w'.cell? ⟨b, 3, none⟩ = some (.slice (some ⟨g1, 0, none⟩) nC cc)) (by kernel_rfl) (by exact c3) (fun _ => ?_)
  refine takeS_on (i := 0) 6 (v := ?v18) rfl rfl (by kernel_rfl) (by kernel_rfl) (by kernel_rfl) (fun _ _ _ h => h) (by kernel_rfl) ?hy18 (by exact c3) ?_
  case hy18 => (intro w' hSw; go_simp; try (with_reducible rfl))
  simp only [Act.put, List.setIfInBounds_toArray, List.set_cons_zero, List.set_cons_succ]
  refine takeS_on (i := 1) 7 (v := ?v19) rfl rfl (by kernel_rfl) (by kernel_rfl) (by kernel_rfl) (fun _ _ _ h => h) (by kernel_rfl) ?hy19 (by exact c3) ?_
  case hy19 => (intro w' hSw; go_simp; try (with_reducible rfl))
  simp only [Act.put, List.setIfInBounds_toArray, List.set_cons_zero, List.set_cons_succ]
  refine takeS_on (i := 2) 8 (v := ?v20) rfl rfl (by kernel_rfl) (by kernel_rfl) (by kernel_rfl) (fun _ _ _ h => h) (by kernel_rfl) ?hy20 (by exact c3) ?_
  case hy20 => (intro w' hSw; go_simp; try (with_reducible rfl))
  simp only [Act.put, List.setIfInBounds_toArray, List.set_cons_zero, List.set_cons_succ]
  refine takeS_on (i := 3) 9 (v := ?v21) rfl rfl (by kernel_rfl) (by kernel_rfl) (by kernel_rfl) (fun _ _ _ h => h) (by kernel_rfl) ?hy21 (by exact c3) ?_
  case hy21 => (intro w' hSw; go_simp; try (with_reducible rfl))
  simp only [Act.put, List.setIfInBounds_toArray, List.set_cons_zero, List.set_cons_succ]
  refine takeS_on (i := 4) 10 (v := ?v22) rfl rfl (by kernel_rfl) (by kernel_rfl) (by kernel_rfl) (fun _ _ _ h => h) (by kernel_rfl) ?hy22 (by exact c3) ?_
  case hy22 => (intro w' hSw; go_simp; try (with_reducible rfl))
  simp only [Act.put, List.setIfInBounds_toArray, List.set_cons_zero, List.set_cons_succ]
  refine takeS_on (i := 5) 11 (v := ?v23) rfl rfl (by kernel_rfl) (by kernel_rfl) (by kernel_rfl) (fun _ _ _ h => h) (by kernel_rfl) ?hy23 (by exact c3) ?_
  case hy23 => (intro w' hSw; go_simp; try (with_reducible rfl))
  simp only [Act.put, List.setIfInBounds_toArray, List.set_cons_zero, List.set_cons_succ]
  refine takeS_on (i := 6) 12 (v := ?v24) rfl rfl (by kernel_rfl) (by kernel_rfl) (by kernel_rfl) (fun _ _ _ h => h) (by kernel_rfl) ?hy24 (by exact c3) ?_
  case hy24 => (intro w' hSw; go_simp; try (with_reducible rfl))
  simp only [Act.put, List.setIfInBounds_toArray, List.set_cons_zero, List.set_cons_succ]
  refine takeS_on (i := 7) 13 (v := ?v25) rfl rfl (by kernel_rfl) (by kernel_rfl) (by kernel_rfl) (fun _ _ _ h => h) (by kernel_rfl) ?hy25 (by exact c3) ?_
  case hy25 => (intro w' hSw; go_simp; try (with_reducible rfl))
  simp only [Act.put, List.setIfInBounds_toArray, List.set_cons_zero, List.set_cons_succ]
  refine takeS_on (i := 8) 14 (v := ?v26) rfl rfl (by kernel_rfl) (by kernel_rfl) (by kernel_rfl) (fun _ _ _ h => h) (by kernel_rfl) ?hy26 (by exact c3) ?_
  case hy26 => (intro w' hSw; go_simp; try (with_reducible rfl))
  simp only [Act.put, List.setIfInBounds_toArray, List.set_cons_zero, List.set_cons_succ]
  refine takeS_on (i := 9) 15 (v := ?v27) rfl rfl (by kernel_rfl) (by kernel_rfl) (by kernel_rfl) (fun _ _ _ h => h) (by kernel_rfl) ?hy27 (by exact c3) ?_
  case hy27 => (intro w' hSw; go_simp; try (with_reducible rfl))
  simp only [Act.put, List.setIfInBounds_toArray, List.set_cons_zero, List.set_cons_succ]
  refine takeS_on (i := 10) 16 (v := ?v28) rfl rfl (by kernel_rfl) (by kernel_rfl) (by kernel_rfl) (fun _ _ _ h => h) (by kernel_rfl) ?hy28 (by exact c3) ?_
  case hy28 => (intro w' hSw; go_simp; try (with_reducible rfl))
  simp only [Act.put, List.setIfInBounds_toArray, List.set_cons_zero, List.set_cons_succ]
  refine takeS_on (i := 11) 17 (v := ?v29) rfl rfl (by kernel_rfl) (by kernel_rfl) (by kernel_rfl) (fun _ _ _ h => h) (by kernel_rfl) ?hy29 (by exact c3) ?_
  case hy29 => (intro w' hSw; go_simp; try (with_reducible rfl))
  simp only [Act.put, List.setIfInBounds_toArray, List.set_cons_zero, List.set_cons_succ]
  refine takeS_on (i := 12) 18 (v := ?v30) rfl rfl (by kernel_rfl) (by kernel_rfl) (by kernel_rfl) (fun _ _ _ h => h) (by kernel_rfl) ?hy30 (by exact c3) ?_
  case hy30 => (intro w' hSw; go_simp; try (with_reducible rfl))
  simp only [Act.put, List.setIfInBounds_toArray, List.set_cons_zero, List.set_cons_succ]
  refine takeS_on (i := 14) 20 (v := ?v31) rfl rfl (by kernel_rfl) (by kernel_rfl) (by kernel_rfl) (fun _ _ _ h => h) (by kernel_rfl) ?hy31 (by exact c3) ?_
  case hy31 => (intro w' hSw; go_simp; try (with_reducible rfl))
  simp only [Act.put, List.setIfInBounds_toArray, List.set_cons_zero, List.set_cons_succ]
  refine wpAnyH_ready (rs := [13, 15]) (by kernel_rfl) (by simp) (AllReadyH.cons rfl (fun K hK => ?_) (AllReadyH.cons rfl (fun K hK => ?_) AllReadyH.nil))
  · go_simp
    refine hK.out _ _ (by exact c3) (fun _ => ?_)
    clear hK K
    refine wpAnyH_ready (rs := [15]) (by kernel_rfl) (by simp) (AllReadyH.cons rfl (fun K hK => ?_) AllReadyH.nil)
    go_simp
    refine hK.out _ _ (by exact (((Ch.refl NoB w).alloc _).cell bl (noB _)).trans c3) (fun _ => ?_)
    clear hK K
    refine wpAnyH_ready (rs := [16]) (by kernel_rfl) (by simp) (AllReadyH.cons rfl (fun K hK => ?_) AllReadyH.nil)
    refine step_append_ow rfl (.tmp 19) (.tmp 21) 41 3 8 (.int .i64 0) Try.underlying41 int_info rfl rfl base (.slice ua nU uc) (iv c) (by simp [Act.eval]) (HOU.out.drew.alloc _) _ _ [.int .i64 z] (by simp [Act.eval]) (ls_int _ _ _) (fun u hu => by rw [List.mem_singleton.1 hu]; rfl) (nU + 1) HLen.out (by omega) (by unfold maxLen; omega) (by simp; omega) (iv (c ++ [z])) (by rw [iv_append]; rfl) ?_
    intro ao2 cap2 w4 o4 g4 bl4
    have G4 := (((Ch.refl (Blk (.slice ua nU uc)) w).drew).alloc _).trans' g4
    have F4 := HF.out.ch G4 (fun e => HNB.out (SB.at_ HU.out e))
    obtain ⟨e0, e1, e2, e3, e4⟩ := F4.cells
    obtain ⟨g', e', -, hg4, -, d4, df4, -⟩ := (HS.out.c.ch G4 (fun q a e => HS.out.ec p _ HU.out q e a)).get1 HU.out
    cases e'
    have HF4 := hid F4
    have HO4 := hid o4
    have HG4 := hid G4
    have HB4 := hid (fun q (e : Blk (.slice ao2 (nU + 1) cap2) q) => (show Blk (.slice ua nU uc) q ∨ w.heap.size ≤ q from (bl4 q e).imp id (fun e => Nat.le_trans (((Ch.refl NoB w).alloc (.cells #[.int .i64 z] 3)).size) e)))
    clear o4 g4 F4 G4 bl4
    refine hK.out _ _ (by exact e3) (fun _ => ?_)
    change wpAnyH _ _ _ _ _ _ _ (Act.put _ (some 22) _) _
    simp only [Act.put, List.setIfInBounds_toArray, List.set_cons_zero, List.set_cons_succ]
    clear hK K
    refine takeS_on (i := 17) 23 (v := ?v32) rfl rfl (by kernel_rfl) (by kernel_rfl) (by kernel_rfl) (fun _ _ _ h => h) (by kernel_rfl) ?hy32 (by exact e3) ?_
    case hy32 => (intro w' hSw; go_simp; try (with_reducible rfl))
    simp only [Act.put, List.setIfInBounds_toArray, List.set_cons_zero, List.set_cons_succ]
    refine wpAnyH_ready (rs := [18]) (by kernel_rfl) (by simp) (AllReadyH.cons rfl (fun K hK => ?_) AllReadyH.nil)
    go_simp
    have hs5 := HS.out.cache HU.out HG4.out HO4.out HB4.out
    obtain ⟨W5, hW5⟩ : ∃ W, W = w4.setCell ⟨g1, p, none⟩ (.slice ao2 (nU + 1) cap2) := ⟨_, rfl⟩
    have C5 : Ch (Only g1) w4 W5 := by rw [hW5]; exact (Ch.refl _ _).own _ _
    have F5 := HF4.out.ch C5 (fun e => hne1 e)
    have h5 := (C5.cell (o := 3) HF4.out.lt (fun e => hne1 e)).trans e3
    obtain ⟨g', e', -, hg5, -, d5, df5, -⟩ := hs5.c.get1 (show (cv.set p (.slice ao2 (nU + 1) cap2))[p]? = some (.slice ao2 (nU + 1) cap2) from List.getElem?_set_self hpl)
    cases e'
    rw [← hW5] at hs5 d5 ⊢
    have HS5 := hid hs5
    have HF5 := hid F5
    have HC5 := hid C5
    have bl5 := F5.lt
    clear hW5 hs5 F5 C5 c0 c1 c2 c3 c4 y0 y1 y2 y3 y4 d0 df e0 e1 e2 e3 e4 d4 df4
    refine hK.out _ _ (by exact h5) (fun _ => ?_)
    clear hK K
    refine wpAnyH_done (by kernel_rfl) ?_ _
    have hlf : Left S base w W5 b L (pushS x p z c) := by
      refine Left.of HF5.out HS5.out ?_ HSb.out ?_ ?_
      · intro e
        rcases e.cache with e | e
        · exact HNB.out e
        · exact (HB4.out _ e).elim (fun e => HNB.out (SB.at_ HU.out e)) (fun e => by omega)
      · intro q e
        rcases e.cache with e | e
        · exact .inl (HSB.out q e)
        · exact (HB4.out _ e).imp (fun e => HSB.out q (SB.at_ HU.out e)) id
      · exact (HG4.out.mono (T := S) (fun q e => .inl (HSB.out q (SB.at_ HU.out e)))).trans HC5.out (fun q e => .inl (HSB.out q (SB.c (by have e1 : q = g1 := e; rw [e1]; exact blk_self _ _ _))))
    obtain ⟨c0, c1, c2, c3, c4⟩ := HF5.out.cells
    go_wp2
    go_end0
    exact ⟨rfl, hlf⟩
  · go_simp
    refine hK.out _ _ (by exact (((Ch.refl NoB w).alloc _).cell bl (noB _)).trans c3) (fun _ => ?_)
    clear hK K
    refine wpAnyH_ready (rs := [13]) (by kernel_rfl) (by simp) (AllReadyH.cons rfl (fun K hK => ?_) AllReadyH.nil)
    go_simp
    refine hK.out _ _ (by exact (((Ch.refl NoB w).alloc _).cell bl (noB _)).trans c3) (fun _ => ?_)
    clear hK K
    refine wpAnyH_ready (rs := [16]) (by kernel_rfl) (by simp) (AllReadyH.cons rfl (fun K hK => ?_) AllReadyH.nil)
    refine step_append_ow rfl (.tmp 19) (.tmp 21) 41 3 8 (.int .i64 0) Try.underlying41 int_info rfl rfl base (.slice ua nU uc) (iv c) (by simp [Act.eval]) (HOU.out.drew.alloc _) _ _ [.int .i64 z] (by simp [Act.eval]) (ls_int _ _ _) (fun u hu => by rw [List.mem_singleton.1 hu]; rfl) (nU + 1) HLen.out (by omega) (by unfold maxLen; omega) (by simp; omega) (iv (c ++ [z])) (by rw [iv_append]; rfl) ?_
    intro ao2 cap2 w4 o4 g4 bl4
    have G4 := (((Ch.refl (Blk (.slice ua nU uc)) w).drew).alloc _).trans' g4
    have F4 := HF.out.ch G4 (fun e => HNB.out (SB.at_ HU.out e))
    obtain ⟨e0, e1, e2, e3, e4⟩ := F4.cells
    obtain ⟨g', e', -, hg4, -, d4, df4, -⟩ := (HS.out.c.ch G4 (fun q a e => HS.out.ec p _ HU.out q e a)).get1 HU.out
    cases e'
    have HF4 := hid F4
    have HO4 := hid o4
    have HG4 := hid G4
    have HB4 := hid (fun q (e : Blk (.slice ao2 (nU + 1) cap2) q) => (show Blk (.slice ua nU uc) q ∨ w.heap.size ≤ q from (bl4 q e).imp id (fun e => Nat.le_trans (((Ch.refl NoB w).alloc (.cells #[.int .i64 z] 3)).size) e)))
    clear o4 g4 F4 G4 bl4
    refine hK.out _ _ (by exact e3) (fun _ => ?_)
    change wpAnyH _ _ _ _ _ _ _ (Act.put _ (some 22) _) _
    simp only [Act.put, List.setIfInBounds_toArray, List.set_cons_zero, List.set_cons_succ]
    clear hK K
    refine takeS_on (i := 17) 23 (v := ?v33) rfl rfl (by kernel_rfl) (by kernel_rfl) (by kernel_rfl) (fun _ _ _ h => h) (by kernel_rfl) ?hy33 (by exact e3) ?_
    case hy33 => (intro w' hSw; go_simp; try (with_reducible rfl))
    simp only [Act.put, List.setIfInBounds_toArray, List.set_cons_zero, List.set_cons_succ]
    refine wpAnyH_ready (rs := [18]) (by kernel_rfl) (by simp) (AllReadyH.cons rfl (fun K hK => ?_) AllReadyH.nil)
    go_simp
    have hs5 := HS.out.cache HU.out HG4.out HO4.out HB4.out
    obtain ⟨W5, hW5⟩ : ∃ W, W = w4.setCell ⟨g1, p, none⟩ (.slice ao2 (nU + 1) cap2) := ⟨_, rfl⟩
    have C5 : Ch (Only g1) w4 W5 := by rw [hW5]; exact (Ch.refl _ _).own _ _
    have F5 := HF4.out.ch C5 (fun e => hne1 e)
    have h5 := (C5.cell (o := 3) HF4.out.lt (fun e => hne1 e)).trans e3
    obtain ⟨g', e', -, hg5, -, d5, df5, -⟩ := hs5.c.get1 (show (cv.set p (.slice ao2 (nU + 1) cap2))[p]? = some (.slice ao2 (nU + 1) cap2) from List.getElem?_set_self hpl)
    cases e'
    rw [← hW5] at hs5 d5 ⊢
    have HS5 := hid hs5
    have HF5 := hid F5
    have HC5 := hid C5
    have bl5 := F5.lt
    clear hW5 hs5 F5 C5 c0 c1 c2 c3 c4 y0 y1 y2 y3 y4 d0 df e0 e1 e2 e3 e4 d4 df4
    refine hK.out _ _ (by exact h5) (fun _ => ?_)
    clear hK K
    refine wpAnyH_done (by kernel_rfl) ?_ _
    have hlf : Left S base w W5 b L (pushS x p z c) := by
      refine Left.of HF5.out HS5.out ?_ HSb.out ?_ ?_
      · intro e
        rcases e.cache with e | e
        · exact HNB.out e
        · exact (HB4.out _ e).elim (fun e => HNB.out (SB.at_ HU.out e)) (fun e => by omega)
      · intro q e
        rcases e.cache with e | e
        · exact .inl (HSB.out q e)
        · exact (HB4.out _ e).imp (fun e => HSB.out q (SB.at_ HU.out e)) id
      · exact (HG4.out.mono (T := S) (fun q e => .inl (HSB.out q (SB.at_ HU.out e)))).trans HC5.out (fun q e => .inl (HSB.out q (SB.c (by have e1 : q = g1 := e; rw [e1]; exact blk_self _ _ _))))
    obtain ⟨c0, c1, c2, c3, c4⟩ := HF5.out.cells
    go_wp2
    go_end0
    exact ⟨rfl, hlf⟩

set_option maxHeartbeats 2000000 in
theorem cache_full (S : Nat → Prop) (base b p : Nat) (L z : Int) (x : Sl) (c : List Int) (w : World) (h : SlabIn S base w b L x) (hbase : base ≤ w.heap.size) (hc : x.C[p]? = some c) (hcl : c.length ≤ 4294967295) (hge64 : 64 ≤ c.length + 1) (hfl : x.F.length ≤ 4294967296) :
    Calls Try.prog 29 #[.pointer (some ⟨b, 0, none⟩), .int .i64 (p : Int), .int .i64 z] w fun e w' => e = .returned (.tuple #[]) ∧ Left S base w w' b L (spillS (pushS x p z c) p 32 (c ++ [z])) := by
  obtain ⟨vg, va, vc, vf, cv, hf, hs, hnb, hSb, hSB, hlt⟩ := h
  obtain ⟨ga, gc, rfl⟩ := hs.g.form
  obtain ⟨aa, ac, rfl⟩ := hs.a.form
  obtain ⟨ca, cc, rfl⟩ := hs.c.form
  obtain ⟨fa, fc, rfl⟩ := hs.f.form
  obtain ⟨nG, hnG⟩ : ∃ n, n = (iv x.G).length := ⟨_, rfl⟩
  obtain ⟨nA, hnA⟩ : ∃ n, n = (bv x.A).length := ⟨_, rfl⟩
  obtain ⟨nC, hnC⟩ : ∃ n, n = cv.length := ⟨_, rfl⟩
  obtain ⟨nF, hnF⟩ : ∃ n, n = (iv x.F).length := ⟨_, rfl⟩
  rw [← hnG, ← hnA, ← hnC, ← hnF] at hf hs hnb hSB
  have hp : p < cv.length := by rw [hs.cl]; exact (List.getElem?_eq_some_iff.1 hc).1
  obtain ⟨u, hu⟩ : ∃ u, cv[p]? = some u := ⟨_, List.getElem?_eq_getElem hp⟩
  have hou := hs.e p u c hu hc
  obtain ⟨ua, uc, rfl⟩ := hou.form
  obtain ⟨nU, hnU⟩ : ∃ n, n = (iv c).length := ⟨_, rfl⟩
  rw [← hnU] at hou hu
  obtain ⟨g1, rfl, -, hg1, hcap1, d0, df, -⟩ := hs.c.get1 hu
  have hucap := hou.len.2
  have hnUc : nU ≤ 4294967296 := by rw [hnU, iv_length]; omega
  have hne1 : ¬ (b = g1) := fun e => hnb (.inr (.inr (.inl (by rw [e]; rfl))))
  have hne2 : ¬ (g1 = b) := fun e => hne1 e.symm
  have b3 : (0 : Int) ≤ (p : Int) := by omega
  have b4 : (p : Int) < (nC : Int) := by rw [hnC]; omega
  have HU := hid hu
  have HOU := hid hou
  have HC := hid hc
  obtain ⟨c0, c1, c2, c3, c4⟩ := hf.cells
  obtain ⟨y0, y1, y2, y3, y4⟩ := hf.fz
  have bl := hf.lt
  have HF := hid hf
  have HS := hid hs
  have HNB := hid hnb
  have HSB := hid hSB
  have HLT := hid hlt
  have HSb := hid hSb
  have hpl : p < cv.length := hp
  have HLen := hid (show nU + 1 = (iv c).length + [Value.int .i64 z].length by rw [hnU]; rfl)
  have HPC := hid (show (pushS x p z c).C[p]? = some (c ++ [z]) from List.getElem?_set_self (by rw [← hs.cl]; exact hp))
  have hnUl : nU = c.length := by rw [hnU, iv_length]
  have f64 : decide ((64 : Int) ≤ (nU : Int) + 1) = true := decide_eq_true (by omega)
  have g64 : (64 : Int) ≤ (nU : Int) + 1 := by omega
  clear hf hs hnb hSB hlt hSb hu hou hc hnG hnA hnC hnF hnU hp hnUl
  go_enter Try.func29, Try.ntmps29
  go_wp2_with fail
  refine wp_region_held_drew (S := fun w' => w'.cell? ⟨b, 3, none⟩ = some (.slice (some ⟨g1, 0, none⟩) nC cc)) (by kernel_rfl) (by exact c3) (fun _ => ?_)
  refine takeS_on (i := 0) 6 (v := ?v34) rfl rfl (by kernel_rfl) (by kernel_rfl) (by kernel_rfl) (fun _ _ _ h => h) (by kernel_rfl) ?hy34 (by exact c3) ?_
  case hy34 => (intro w' hSw; go_simp; try (with_reducible rfl))
  simp only [Act.put, List.setIfInBounds_toArray, List.set_cons_zero, List.set_cons_succ]
  refine takeS_on (i := 1) 7 (v := ?v35) rfl rfl (by kernel_rfl) (by kernel_rfl) (by kernel_rfl) (fun _ _ _ h => h) (by kernel_rfl) ?hy35 (by exact c3) ?_
  case hy35 => (intro w' hSw; go_simp; try (with_reducible rfl))
  simp only [Act.put, List.setIfInBounds_toArray, List.set_cons_zero, List.set_cons_succ]
  refine takeS_on (i := 2) 8 (v := ?v36) rfl rfl (by kernel_rfl) (by kernel_rfl) (by kernel_rfl) (fun _ _ _ h => h) (by kernel_rfl) ?hy36 (by exact c3) ?_
  case hy36 => (intro w' hSw; go_simp; try (with_reducible rfl))
  simp only [Act.put, List.setIfInBounds_toArray, List.set_cons_zero, List.set_cons_succ]
  refine takeS_on (i := 3) 9 (v := ?v37) rfl rfl (by kernel_rfl) (by kernel_rfl) (by kernel_rfl) (fun _ _ _ h => h) (by kernel_rfl) ?hy37 (by exact c3) ?_
  case hy37 => (intro w' hSw; go_simp; try (with_reducible rfl))
  simp only [Act.put, List.setIfInBounds_toArray, List.set_cons_zero, List.set_cons_succ]
  refine takeS_on (i := 4) 10 (v := ?v38) rfl rfl (by kernel_rfl) (by kernel_rfl) (by kernel_rfl) (fun _ _ _ h => h) (by kernel_rfl) ?hy38 (by exact c3) ?_
  case hy38 => (intro w' hSw; go_simp; try (with_reducible rfl))
  simp only [Act.put, List.setIfInBounds_toArray, List.set_cons_zero, List.set_cons_succ]
  refine takeS_on (i := 5) 11 (v := ?v39) rfl rfl (by kernel_rfl) (by kernel_rfl) (by kernel_rfl) (fun _ _ _ h => h) (by kernel_rfl) ?hy39 (by exact c3) ?_
  case hy39 => (intro w' hSw; go_simp; try (with_reducible rfl))
  simp only [Act.put, List.setIfInBounds_toArray, List.set_cons_zero, List.set_cons_succ]
  refine takeS_on (i := 6) 12 (v := ?v40) rfl rfl (by kernel_rfl) (by kernel_rfl) (by kernel_rfl) (fun _ _ _ h => h) (by kernel_rfl) ?hy40 (by exact c3) ?_
  case hy40 => (intro w' hSw; go_simp; try (with_reducible rfl))
  simp only [Act.put, List.setIfInBounds_toArray, List.set_cons_zero, List.set_cons_succ]
  refine takeS_on (i := 7) 13 (v := ?v41) rfl rfl (by kernel_rfl) (by kernel_rfl) (by kernel_rfl) (fun _ _ _ h => h) (by kernel_rfl) ?hy41 (by exact c3) ?_
  case hy41 => (intro w' hSw; go_simp; try (with_reducible rfl))
  simp only [Act.put, List.setIfInBounds_toArray, List.set_cons_zero, List.set_cons_succ]
  refine takeS_on (i := 8) 14 (v := ?v42) rfl rfl (by kernel_rfl) (by kernel_rfl) (by kernel_rfl) (fun _ _ _ h => h) (by kernel_rfl) ?hy42 (by exact c3) ?_
  case hy42 => (intro w' hSw; go_simp; try (with_reducible rfl))
  simp only [Act.put, List.setIfInBounds_toArray, List.set_cons_zero, List.set_cons_succ]
  refine takeS_on (i := 9) 15 (v := ?v43) rfl rfl (by kernel_rfl) (by kernel_rfl) (by kernel_rfl) (fun _ _ _ h => h) (by kernel_rfl) ?hy43 (by exact c3) ?_
  case hy43 => (intro w' hSw; go_simp; try (with_reducible rfl))
  simp only [Act.put, List.setIfInBounds_toArray, List.set_cons_zero, List.set_cons_succ]
  refine takeS_on (i := 10) 16 (v := ?v44) rfl rfl (by kernel_rfl) (by kernel_rfl) (by kernel_rfl) (fun _ _ _ h => h) (by kernel_rfl) ?hy44 (by exact c3) ?_
  case hy44 => (intro w' hSw; go_simp; try (with_reducible rfl))
  simp only [Act.put, List.setIfInBounds_toArray, List.set_cons_zero, List.set_cons_succ]
  refine takeS_on (i := 11) 17 (v := ?v45) rfl rfl (by kernel_rfl) (by kernel_rfl) (by kernel_rfl) (fun _ _ _ h => h) (by kernel_rfl) ?hy45 (by exact c3) ?_
  case hy45 => (intro w' hSw; go_simp; try (with_reducible rfl))
  simp only [Act.put, List.setIfInBounds_toArray, List.set_cons_zero, List.set_cons_succ]
  refine takeS_on (i := 12) 18 (v := ?v46) rfl rfl (by kernel_rfl) (by kernel_rfl) (by kernel_rfl) (fun _ _ _ h => h) (by kernel_rfl) ?hy46 (by exact c3) ?_
  case hy46 => (intro w' hSw; go_simp; try (with_reducible rfl))
  simp only [Act.put, List.setIfInBounds_toArray, List.set_cons_zero, List.set_cons_succ]
  refine takeS_on (i := 14) 20 (v := ?v47) rfl rfl (by kernel_rfl) (by kernel_rfl) (by kernel_rfl) (fun _ _ _ h => h) (by kernel_rfl) ?hy47 (by exact c3) ?_
  case hy47 => (intro w' hSw; go_simp; try (with_reducible rfl))
  simp only [Act.put, List.setIfInBounds_toArray, List.set_cons_zero, List.set_cons_succ]
  refine wpAnyH_ready (rs := [13, 15]) (by kernel_rfl) (by simp) (AllReadyH.cons rfl (fun K hK => ?_) (AllReadyH.cons rfl (fun K hK => ?_) AllReadyH.nil))
  · go_simp
    refine hK.out _ _ (by exact c3) (fun _ => ?_)
    clear hK K
    refine wpAnyH_ready (rs := [15]) (by kernel_rfl) (by simp) (AllReadyH.cons rfl (fun K hK => ?_) AllReadyH.nil)
    go_simp
    refine hK.out _ _ (by exact (((Ch.refl NoB w).alloc _).cell bl (noB _)).trans c3) (fun _ => ?_)
    clear hK K
    refine wpAnyH_ready (rs := [16]) (by kernel_rfl) (by simp) (AllReadyH.cons rfl (fun K hK => ?_) AllReadyH.nil)
    refine step_append_ow rfl (.tmp 19) (.tmp 21) 41 3 8 (.int .i64 0) Try.underlying41 int_info rfl rfl base (.slice ua nU uc) (iv c) (by simp [Act.eval]) (HOU.out.drew.alloc _) _ _ [.int .i64 z] (by simp [Act.eval]) (ls_int _ _ _) (fun u hu => by rw [List.mem_singleton.1 hu]; rfl) (nU + 1) HLen.out (by omega) (by unfold maxLen; omega) (by simp; omega) (iv (c ++ [z])) (by rw [iv_append]; rfl) ?_
    intro ao2 cap2 w4 o4 g4 bl4
    have G4 := (((Ch.refl (Blk (.slice ua nU uc)) w).drew).alloc _).trans' g4
    have F4 := HF.out.ch G4 (fun e => HNB.out (SB.at_ HU.out e))
    obtain ⟨e0, e1, e2, e3, e4⟩ := F4.cells
    obtain ⟨g', e', -, hg4, -, d4, df4, -⟩ := (HS.out.c.ch G4 (fun q a e => HS.out.ec p _ HU.out q e a)).get1 HU.out
    cases e'
    have HF4 := hid F4
    have HO4 := hid o4
    have HG4 := hid G4
    have HB4 := hid (fun q (e : Blk (.slice ao2 (nU + 1) cap2) q) => (show Blk (.slice ua nU uc) q ∨ w.heap.size ≤ q from (bl4 q e).imp id (fun e => Nat.le_trans (((Ch.refl NoB w).alloc (.cells #[.int .i64 z] 3)).size) e)))
    clear o4 g4 F4 G4 bl4
    refine hK.out _ _ (by exact e3) (fun _ => ?_)
    change wpAnyH _ _ _ _ _ _ _ (Act.put _ (some 22) _) _
    simp only [Act.put, List.setIfInBounds_toArray, List.set_cons_zero, List.set_cons_succ]
    clear hK K
    refine takeS_on (i := 17) 23 (v := ?v48) rfl rfl (by kernel_rfl) (by kernel_rfl) (by kernel_rfl) (fun _ _ _ h => h) (by kernel_rfl) ?hy48 (by exact e3) ?_
    case hy48 => (intro w' hSw; go_simp; try (with_reducible rfl))
    simp only [Act.put, List.setIfInBounds_toArray, List.set_cons_zero, List.set_cons_succ]
    refine wpAnyH_ready (rs := [18]) (by kernel_rfl) (by simp) (AllReadyH.cons rfl (fun K hK => ?_) AllReadyH.nil)
    go_simp
    have hs5 := HS.out.cache HU.out HG4.out HO4.out HB4.out
    obtain ⟨W5, hW5⟩ : ∃ W, W = w4.setCell ⟨g1, p, none⟩ (.slice ao2 (nU + 1) cap2) := ⟨_, rfl⟩
    have C5 : Ch (Only g1) w4 W5 := by rw [hW5]; exact (Ch.refl _ _).own _ _
    have F5 := HF4.out.ch C5 (fun e => hne1 e)
    have h5 := (C5.cell (o := 3) HF4.out.lt (fun e => hne1 e)).trans e3
    obtain ⟨g', e', -, hg5, -, d5, df5, -⟩ := hs5.c.get1 (show (cv.set p (.slice ao2 (nU + 1) cap2))[p]? = some (.slice ao2 (nU + 1) cap2) from List.getElem?_set_self hpl)
    cases e'
    rw [← hW5] at hs5 d5 ⊢
    have HS5 := hid hs5
    have HF5 := hid F5
    have HC5 := hid C5
    have bl5 := F5.lt
    clear hW5 hs5 F5 C5 c0 c1 c2 c3 c4 y0 y1 y2 y3 y4 d0 df e0 e1 e2 e3 e4 d4 df4
    refine hK.out _ _ (by exact h5) (fun _ => ?_)
    clear hK K
    refine wpAnyH_done (by kernel_rfl) ?_ _
    have hlf : Left S base w W5 b L (pushS x p z c) := by
      refine Left.of HF5.out HS5.out ?_ HSb.out ?_ ?_
      · intro e
        rcases e.cache with e | e
        · exact HNB.out e
        · exact (HB4.out _ e).elim (fun e => HNB.out (SB.at_ HU.out e)) (fun e => by omega)
      · intro q e
        rcases e.cache with e | e
        · exact .inl (HSB.out q e)
        · exact (HB4.out _ e).imp (fun e => HSB.out q (SB.at_ HU.out e)) id
      · exact (HG4.out.mono (T := S) (fun q e => .inl (HSB.out q (SB.at_ HU.out e)))).trans HC5.out (fun q e => .inl (HSB.out q (SB.c (by have e1 : q = g1 := e; rw [e1]; exact blk_self _ _ _))))
    obtain ⟨c0, c1, c2, c3, c4⟩ := HF5.out.cells
    obtain ⟨S2, k1, k2, k3⟩ := hlf
    have HK1 := hid k1
    have HK2 := hid k2
    have HK3 := hid k3
    clear k1 k2 k3
    go_wp2_with fail
    refine (spill_any S2 base b p 32 L (pushS x p z c) (c ++ [z]) W5 HK1.out (Nat.le_trans hbase HK2.out.size) HPC.out (by rw [List.length_append]; simp; omega) (by rw [List.length_append]; simp; omega) hfl).mono ?_
    rintro e w6 ⟨rfl, l6⟩
    go_wp2
    go_end0
    exact ⟨rfl, Left.bind HK2.out HK3.out l6⟩
  · go_simp
    refine hK.out _ _ (by exact (((Ch.refl NoB w).alloc _).cell bl (noB _)).trans c3) (fun _ => ?_)
    clear hK K
    refine wpAnyH_ready (rs := [13]) (by kernel_rfl) (by simp) (AllReadyH.cons rfl (fun K hK => ?_) AllReadyH.nil)
    go_simp
    refine hK.out _ _ (by exact (((Ch.refl NoB w).alloc _).cell bl (noB _)).trans c3) (fun _ => ?_)
    clear hK K
    refine wpAnyH_ready (rs := [16]) (by kernel_rfl) (by simp) (AllReadyH.cons rfl (fun K hK => ?_) AllReadyH.nil)
    refine step_append_ow rfl (.tmp 19) (.tmp 21) 41 3 8 (.int .i64 0) Try.underlying41 int_info rfl rfl base (.slice ua nU uc) (iv c) (by simp [Act.eval]) (HOU.out.drew.alloc _) _ _ [.int .i64 z] (by simp [Act.eval]) (ls_int _ _ _) (fun u hu => by rw [List.mem_singleton.1 hu]; rfl) (nU + 1) HLen.out (by omega) (by unfold maxLen; omega) (by simp; omega) (iv (c ++ [z])) (by rw [iv_append]; rfl) ?_
    intro ao2 cap2 w4 o4 g4 bl4
    have G4 := (((Ch.refl (Blk (.slice ua nU uc)) w).drew).alloc _).trans' g4
    have F4 := HF.out.ch G4 (fun e => HNB.out (SB.at_ HU.out e))
    obtain ⟨e0, e1, e2, e3, e4⟩ := F4.cells
    obtain ⟨g', e', -, hg4, -, d4, df4, -⟩ := (HS.out.c.ch G4 (fun q a e => HS.out.ec p _ HU.out q e a)).get1 HU.out
    cases e'
    have HF4 := hid F4
    have HO4 := hid o4
    have HG4 := hid G4
    have HB4 := hid (fun q (e : Blk (.slice ao2 (nU + 1) cap2) q) => (show Blk (.slice ua nU uc) q ∨ w.heap.size ≤ q from (bl4 q e).imp id (fun e => Nat.le_trans (((Ch.refl NoB w).alloc (.cells #[.int .i64 z] 3)).size) e)))
    clear o4 g4 F4 G4 bl4
    refine hK.out _ _ (by exact e3) (fun _ => ?_)
    change wpAnyH _ _ _ _ _ _ _ (Act.put _ (some 22) _) _
    simp only [Act.put, List.setIfInBounds_toArray, List.set_cons_zero, List.set_cons_succ]
    clear hK K
    refine takeS_on (i := 17) 23 (v := ?v49) rfl rfl (by kernel_rfl) (by kernel_rfl) (by kernel_rfl) (fun _ _ _ h => h) (by kernel_rfl) ?hy49 (by exact e3) ?_
    case hy49 => (intro w' hSw; go_simp; try (with_reducible rfl))
    simp only [Act.put, List.setIfInBounds_toArray, List.set_cons_zero, List.set_cons_succ]
    refine wpAnyH_ready (rs := [18]) (by kernel_rfl) (by simp) (AllReadyH.cons rfl (fun K hK => ?_) AllReadyH.nil)
    go_simp
    have hs5 := HS.out.cache HU.out HG4.out HO4.out HB4.out
    obtain ⟨W5, hW5⟩ : ∃ W, W = w4.setCell ⟨g1, p, none⟩ (.slice ao2 (nU + 1) cap2) := ⟨_, rfl⟩
    have C5 : Ch (Only g1) w4 W5 := by rw [hW5]; exact (Ch.refl _ _).own _ _
    have F5 := HF4.out.ch C5 (fun e => hne1 e)
    have h5 := (C5.cell (o := 3) HF4.out.lt (fun e => hne1 e)).trans e3
    obtain ⟨g', e', -, hg5, -, d5, df5, -⟩ := hs5.c.get1 (show (cv.set p (.slice ao2 (nU + 1) cap2))[p]? = some (.slice ao2 (nU + 1) cap2) from List.getElem?_set_self hpl)
    cases e'
    rw [← hW5] at hs5 d5 ⊢
    have HS5 := hid hs5
    have HF5 := hid F5
    have HC5 := hid C5
    have bl5 := F5.lt
    clear hW5 hs5 F5 C5 c0 c1 c2 c3 c4 y0 y1 y2 y3 y4 d0 df e0 e1 e2 e3 e4 d4 df4
    refine hK.out _ _ (by exact h5) (fun _ => ?_)
    clear hK K
    refine wpAnyH_done (by kernel_rfl) ?_ _
    have hlf : Left S base w W5 b L (pushS x p z c) := by
      refine Left.of HF5.out HS5.out ?_ HSb.out ?_ ?_
      · intro e
        rcases e.cache with e | e
        · exact HNB.out e
        · exact (HB4.out _ e).elim (fun e => HNB.out (SB.at_ HU.out e)) (fun e => by omega)
      · intro q e
        rcases e.cache with e | e
        · exact .inl (HSB.out q e)
        · exact (HB4.out _ e).imp (fun e => HSB.out q (SB.at_ HU.out e)) id
      · exact (HG4.out.mono (T := S) (fun q e => .inl (HSB.out q (SB.at_ HU.out e)))).trans HC5.out (fun q e => .inl (HSB.out q (SB.c (by have e1 : q = g1 := e; rw [e1]; exact blk_self _ _ _))))
    obtain ⟨c0, c1, c2, c3, c4⟩ := HF5.out.cells
    obtain ⟨S2, k1, k2, k3⟩ := hlf
    have HK1 := hid k1
    have HK2 := hid k2
    have HK3 := hid k3
    clear k1 k2 k3
    go_wp2_with fail
    refine (spill_any S2 base b p 32 L (pushS x p z c) (c ++ [z]) W5 HK1.out (Nat.le_trans hbase HK2.out.size) HPC.out (by rw [List.length_append]; simp; omega) (by rw [List.length_append]; simp; omega) hfl).mono ?_
    rintro e w6 ⟨rfl, l6⟩
    go_wp2
    go_end0
    exact ⟨rfl, Left.bind HK2.out HK3.out l6⟩

theorem cache_any (S : Nat → Prop) (base b p : Nat) (L z : Int) (x : Sl) (c : List Int) (w : World) (h : SlabIn S base w b L x) (hbase : base ≤ w.heap.size) (hc : x.C[p]? = some c) (hcl : c.length ≤ 4294967295) (hfl : x.F.length ≤ 4294967296) :
    Calls Try.prog 29 #[.pointer (some ⟨b, 0, none⟩), .int .i64 (p : Int), .int .i64 z] w fun e w' => e = .returned (.tuple #[]) ∧ Left S base w w' b L (cacheS x p z c) := by
  by_cases h64 : 64 ≤ c.length + 1
  · rw [cacheS, if_pos h64]
    exact cache_full S base b p L z x c w h hbase hc hcl h64 hfl
  · rw [cacheS, if_neg h64]
    exact cache_less S base b p L z x c w h hbase hc (by omega) (by omega)
end Go.Proofs.Ytfbkifkfhgkdbab.Sb
