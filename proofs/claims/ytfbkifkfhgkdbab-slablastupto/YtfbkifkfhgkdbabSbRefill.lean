/-
  What refill of a slab leaves: where a cache is empty, some of the list move into it. Condition: the slab is there, with that P, and no list of it is too long.
-/
import Derived.Test.YtfbkifkfhgkdbabSbMake
namespace Go.Proofs.Ytfbkifkfhgkdbab.Sb
open Go.RowKit
attribute [local go_sem ↓] Go.wp_at_zero Go.wp_at_succ

/-- n of the list, moved into a cache -/
def fillS (x : Sl) (p n : Nat) : Sl := { x with C := x.C.set p (x.F.take n), F := x.F.drop n }
/-- a slab whose cache p is not empty, or has been filled -/
def refillS (x : Sl) (p : Nat) (c : List Int) : Sl := if c = [] then fillS x p (min 16 x.F.length) else x

set_option maxHeartbeats 2000000 in
theorem refill_some (S : Nat → Prop) (base b p : Nat) (L : Int) (x : Sl) (c : List Int) (w : World) (h : SlabIn S base w b L x) (hc : x.C[p]? = some c) (hcl : c.length ≤ 4294967296) (hne : c ≠ []) :
    Calls Try.prog 27 #[.pointer (some ⟨b, 0, none⟩), .int .i64 (p : Int)] w fun e w' => e = .returned (.tuple #[]) ∧ w' = w := by
  obtain ⟨vg, va, vc, vf, cv, hf, hs, hnb, hSb, hSB, hlt⟩ := h
  obtain ⟨ga, gc, rfl⟩ := hs.g.form
  obtain ⟨aa, ac, rfl⟩ := hs.a.form
  obtain ⟨ca, cc, rfl⟩ := hs.c.form
  obtain ⟨fa, fc, rfl⟩ := hs.f.form
  obtain ⟨nG, hnG⟩ : ∃ n, n = (iv x.G).length := ⟨_, rfl⟩
  obtain ⟨nA, hnA⟩ : ∃ n, n = (bv x.A).length := ⟨_, rfl⟩
  obtain ⟨nC, hnC⟩ : ∃ n, n = cv.length := ⟨_, rfl⟩
  obtain ⟨nF, hnF⟩ : ∃ n, n = (iv x.F).length := ⟨_, rfl⟩
  rw [← hnG, ← hnA, ← hnC, ← hnF] at hf hs hnb hSB
  have hp : p < cv.length := by rw [hs.cl]; exact (List.getElem?_eq_some_iff.1 hc).1
  obtain ⟨u, hu⟩ : ∃ u, cv[p]? = some u := ⟨_, List.getElem?_eq_getElem hp⟩
  have hou := hs.e p u c hu hc
  obtain ⟨ua, uc, rfl⟩ := hou.form
  obtain ⟨nU, hnU⟩ : ∃ n, n = (iv c).length := ⟨_, rfl⟩
  rw [← hnU] at hou hu
  obtain ⟨g1, rfl, -, hg1, hcap1, d0, df, -⟩ := hs.c.get1 hu
  have hucap := hou.len.2
  have hnUc : nU ≤ 4294967296 := by rw [hnU, iv_length]; exact hcl
  have hne1 : ¬ (b = g1) := fun e => hnb (.inr (.inr (.inl (by rw [e]; rfl))))
  have hne2 : ¬ (g1 = b) := fun e => hne1 e.symm
  have b3 : (0 : Int) ≤ (p : Int) := by omega
  have b4 : (p : Int) < (nC : Int) := by rw [hnC]; omega
  have HU := hid hu
  have HOU := hid hou
  have HC := hid hc
  obtain ⟨c0, c1, c2, c3, c4⟩ := hf.cells
  obtain ⟨y0, y1, y2, y3, y4⟩ := hf.fz
  have bl := hf.lt
  have HF := hid hf
  have HS := hid hs
  have HNB := hid hnb
  have HSB := hid hSB
  have HLT := hid hlt
  have HSb := hid hSb
  have hpos : 0 < nU := by rw [hnU, iv_length]; exact List.length_pos_iff.2 hne
  have f0 : decide ((0 : Int) < (nU : Int)) = true := decide_eq_true (by omega)
  have g0 : (0 : Int) < (nU : Int) := by omega
  clear hf hs hnb hSB hlt hSb hu hou hc hnG hnA hnC hnF hnU hp hcl hne
  go_enter Try.func27, Try.ntmps27
  go_wp2
  refine bodyPost_ret (v := .tuple #[]) (by simp [results, Try.results27, go_sem]) rfl ⟨rfl, rfl⟩

set_option maxHeartbeats 2000000 in
theorem refill_16 (S : Nat → Prop) (base b p : Nat) (L : Int) (x : Sl) (w : World) (h : SlabIn S base w b L x) (hbase : base ≤ w.heap.size) (hc : x.C[p]? = some []) (hfl : x.F.length ≤ 4294967296) (hn : 16 ≤ x.F.length) :
    Calls Try.prog 27 #[.pointer (some ⟨b, 0, none⟩), .int .i64 (p : Int)] w fun e w' => e = .returned (.tuple #[]) ∧ Left S base w w' b L (fillS x p 16) := by
  have hcl : ([] : List Int).length ≤ 4294967296 := by simp
  obtain ⟨vg, va, vc, vf, cv, hf, hs, hnb, hSb, hSB, hlt⟩ := h
  obtain ⟨ga, gc, rfl⟩ := hs.g.form
  obtain ⟨aa, ac, rfl⟩ := hs.a.form
  obtain ⟨ca, cc, rfl⟩ := hs.c.form
  obtain ⟨fa, fc, rfl⟩ := hs.f.form
  obtain ⟨nG, hnG⟩ : ∃ n, n = (iv x.G).length := ⟨_, rfl⟩
  obtain ⟨nA, hnA⟩ : ∃ n, n = (bv x.A).length := ⟨_, rfl⟩
  obtain ⟨nC, hnC⟩ : ∃ n, n = cv.length := ⟨_, rfl⟩
  obtain ⟨nF, hnF⟩ : ∃ n, n = (iv x.F).length := ⟨_, rfl⟩
  rw [← hnG, ← hnA, ← hnC, ← hnF] at hf hs hnb hSB
  have hp : p < cv.length := by rw [hs.cl]; exact (List.getElem?_eq_some_iff.1 hc).1
  obtain ⟨u, hu⟩ : ∃ u, cv[p]? = some u := ⟨_, List.getElem?_eq_getElem hp⟩
  have hou := hs.e p u [] hu hc
  obtain ⟨ua, uc, rfl⟩ := hou.form
  obtain ⟨nU, hnU⟩ : ∃ n, n = (iv []).length := ⟨_, rfl⟩
  rw [← hnU] at hou hu
  obtain ⟨g1, rfl, -, hg1, hcap1, d0, df, -⟩ := hs.c.get1 hu
  have hucap := hou.len.2
  have hnUc : nU ≤ 4294967296 := by rw [hnU, iv_length]; exact hcl
  have hne1 : ¬ (b = g1) := fun e => hnb (.inr (.inr (.inl (by rw [e]; rfl))))
  have hne2 : ¬ (g1 = b) := fun e => hne1 e.symm
  have b3 : (0 : Int) ≤ (p : Int) := by omega
  have b4 : (p : Int) < (nC : Int) := by rw [hnC]; omega
  have HU := hid hu
  have HOU := hid hou
  have HC := hid hc
  obtain ⟨c0, c1, c2, c3, c4⟩ := hf.cells
  obtain ⟨y0, y1, y2, y3, y4⟩ := hf.fz
  have bl := hf.lt
  have HF := hid hf
  have HS := hid hs
  have HNB := hid hnb
  have HSB := hid hSB
  have HLT := hid hlt
  have HSb := hid hSb
  have hU0 : nU = 0 := hnU
  subst hU0
  have hnFe : x.F.length = nF := by rw [hnF, iv_length]
  have HFL := hid hnFe
  have hnFl : nF ≤ 4294967296 := by omega
  have h16 : 16 ≤ nF := by omega
  have g16 : (16 : Int) ≤ (nF : Int) := by omega
  have k16 : ¬ ((nF : Int) < 16) := by omega
  have hfcap := hs.f.len.2
  have b2 : (16 : Int) ≤ (fc : Int) := by omega
  have b5 : (nF : Int) ≤ (fc : Int) := by omega
  have HT := hid (hs.f.take (show 16 ≤ nF by omega)).lstB
  have HLen := hid (show 16 = ([] : List Value).length + ((iv x.F).take 16).length by rw [List.length_take, ← hnF, List.length_nil]; omega)
  clear hf hs hnb hSB hlt hSb hu hou hc hnG hnA hnC hnF hp hcl hfl hnFe hnU
  go_enter Try.func27, Try.ntmps27
  go_wp2_with fail
  refine wp_region_held_drew (S := fun w' => w'.cell? ⟨b, 3, none⟩ = some (.slice (some ⟨g1, 0, none⟩) nC cc) ∧ w'.cell? ⟨b, 4, none⟩ = some (.slice fa nF fc)) (by kernel_rfl) (by exact ⟨c3, c4⟩) (fun _ => ?_)
  refine takeS_on (i := 0) 22 (v := ?v50) rfl rfl (by kernel_rfl) (by kernel_rfl) (by kernel_rfl) (fun _ _ _ h => h) (by kernel_rfl) ?hy50 (by exact ⟨c3, c4⟩) ?_
  case hy50 => (intro w' hSw; go_simp; try (with_reducible rfl))
  simp only [Act.put, List.setIfInBounds_toArray, List.set_cons_zero, List.set_cons_succ]
  refine takeS_on (i := 1) 23 (v := ?v51) rfl rfl (by kernel_rfl) (by kernel_rfl) (by kernel_rfl) (fun _ _ _ h => h) (by kernel_rfl) ?hy51 (by exact ⟨c3, c4⟩) ?_
  case hy51 => (intro w' hSw; go_simp; try (with_reducible rfl))
  simp only [Act.put, List.setIfInBounds_toArray, List.set_cons_zero, List.set_cons_succ]
  refine takeS_on (i := 2) 24 (v := ?v52) rfl rfl (by kernel_rfl) (by kernel_rfl) (by kernel_rfl) (fun _ _ _ h => h) (by kernel_rfl) ?hy52 (by exact ⟨c3, c4⟩) ?_
  case hy52 => (intro w' hSw; go_simp; try (with_reducible rfl))
  simp only [Act.put, List.setIfInBounds_toArray, List.set_cons_zero, List.set_cons_succ]
  refine takeS_on (i := 3) 25 (v := ?v53) rfl rfl (by kernel_rfl) (by kernel_rfl) (by kernel_rfl) (fun _ _ _ h => h) (by kernel_rfl) ?hy53 (by exact ⟨c3, c4⟩) ?_
  case hy53 => (intro w' hSw; go_simp; try (with_reducible rfl))
  simp only [Act.put, List.setIfInBounds_toArray, List.set_cons_zero, List.set_cons_succ]
  refine takeS_on (i := 4) 26 (v := ?v54) rfl rfl (by kernel_rfl) (by kernel_rfl) (by kernel_rfl) (fun _ _ _ h => h) (by kernel_rfl) ?hy54 (by exact ⟨c3, c4⟩) ?_
  case hy54 => (intro w' hSw; go_simp; try (with_reducible rfl))
  simp only [Act.put, List.setIfInBounds_toArray, List.set_cons_zero, List.set_cons_succ]
  refine takeS_on (i := 5) 27 (v := ?v55) rfl rfl (by kernel_rfl) (by kernel_rfl) (by kernel_rfl) (fun _ _ _ h => h) (by kernel_rfl) ?hy55 (by exact ⟨c3, c4⟩) ?_
  case hy55 => (intro w' hSw; go_simp; try (with_reducible rfl))
  simp only [Act.put, List.setIfInBounds_toArray, List.set_cons_zero, List.set_cons_succ]
  refine takeS_on (i := 6) 28 (v := ?v56) rfl rfl (by kernel_rfl) (by kernel_rfl) (by kernel_rfl) (fun _ _ _ h => h) (by kernel_rfl) ?hy56 (by exact ⟨c3, c4⟩) ?_
  case hy56 => (intro w' hSw; go_simp; try (with_reducible rfl))
  simp only [Act.put, List.setIfInBounds_toArray, List.set_cons_zero, List.set_cons_succ]
  refine takeS_on (i := 7) 29 (v := ?v57) rfl rfl (by kernel_rfl) (by kernel_rfl) (by kernel_rfl) (fun _ _ _ h => h) (by kernel_rfl) ?hy57 (by exact ⟨c3, c4⟩) ?_
  case hy57 => (intro w' hSw; go_simp; try (with_reducible rfl))
  simp only [Act.put, List.setIfInBounds_toArray, List.set_cons_zero, List.set_cons_succ]
  refine takeS_on (i := 8) 30 (v := ?v58) rfl rfl (by kernel_rfl) (by kernel_rfl) (by kernel_rfl) (fun _ _ _ h => h) (by kernel_rfl) ?hy58 (by exact ⟨c3, c4⟩) ?_
  case hy58 => (intro w' hSw; go_simp; try (with_reducible rfl))
  simp only [Act.put, List.setIfInBounds_toArray, List.set_cons_zero, List.set_cons_succ]
  refine takeS_on (i := 9) 31 (v := ?v59) rfl rfl (by kernel_rfl) (by kernel_rfl) (by kernel_rfl) (fun _ _ _ h => h) (by kernel_rfl) ?hy59 (by exact ⟨c3, c4⟩) ?_
  case hy59 => (intro w' hSw; go_simp; try (with_reducible rfl))
  simp only [Act.put, List.setIfInBounds_toArray, List.set_cons_zero, List.set_cons_succ]
  refine takeS_on (i := 10) 32 (v := ?v60) rfl rfl (by kernel_rfl) (by kernel_rfl) (by kernel_rfl) (fun _ _ _ h => h) (by kernel_rfl) ?hy60 (by exact ⟨c3, c4⟩) ?_
  case hy60 => (intro w' hSw; go_simp; try (with_reducible rfl))
  simp only [Act.put, List.setIfInBounds_toArray, List.set_cons_zero, List.set_cons_succ]
  refine takeS_on (i := 11) 33 (v := ?v61) rfl rfl (by kernel_rfl) (by kernel_rfl) (by kernel_rfl) (fun _ _ _ h => h) (by kernel_rfl) ?hy61 (by exact ⟨c3, c4⟩) ?_
  case hy61 => (intro w' hSw; go_simp; try (with_reducible rfl))
  simp only [Act.put, List.setIfInBounds_toArray, List.set_cons_zero, List.set_cons_succ]
  refine takeS_on (i := 12) 34 (v := ?v62) rfl rfl (by kernel_rfl) (by kernel_rfl) (by kernel_rfl) (fun _ _ _ h => h) (by kernel_rfl) ?hy62 (by exact ⟨c3, c4⟩) ?_
  case hy62 => (intro w' hSw; go_simp; try (with_reducible rfl))
  simp only [Act.put, List.setIfInBounds_toArray, List.set_cons_zero, List.set_cons_succ]
  refine takeS_on (i := 14) 36 (v := ?v63) rfl rfl (by kernel_rfl) (by kernel_rfl) (by kernel_rfl) (fun _ _ _ h => h) (by kernel_rfl) ?hy63 (by exact ⟨c3, c4⟩) ?_
  case hy63 => (intro w' hSw; go_simp; try (with_reducible rfl))
  simp only [Act.put, List.setIfInBounds_toArray, List.set_cons_zero, List.set_cons_succ]
  refine takeS_on (i := 15) 37 (v := ?v64) rfl rfl (by kernel_rfl) (by kernel_rfl) (by kernel_rfl) (fun _ _ _ h => h) (by kernel_rfl) ?hy64 (by exact ⟨c3, c4⟩) ?_
  case hy64 => (intro w' hSw; go_simp; try (with_reducible rfl))
  simp only [Act.put, List.setIfInBounds_toArray, List.set_cons_zero, List.set_cons_succ]
  refine takeS_on (i := 16) 38 (v := ?v65) rfl rfl (by kernel_rfl) (by kernel_rfl) (by kernel_rfl) (fun _ _ _ h => h) (by kernel_rfl) ?hy65 (by exact ⟨c3, c4⟩) ?_
  case hy65 => (intro w' hSw; go_simp; try (with_reducible rfl))
  simp only [Act.put, List.setIfInBounds_toArray, List.set_cons_zero, List.set_cons_succ]
  refine takeS_on (i := 17) 39 (v := ?v66) rfl rfl (by kernel_rfl) (by kernel_rfl) (by kernel_rfl) (fun _ _ _ h => h) (by kernel_rfl) ?hy66 (by exact ⟨c3, c4⟩) ?_
  case hy66 => (intro w' hSw; go_simp; try (with_reducible rfl))
  simp only [Act.put, List.setIfInBounds_toArray, List.set_cons_zero, List.set_cons_succ]
  refine takeS_on (i := 18) 40 (v := ?v67) rfl rfl (by kernel_rfl) (by kernel_rfl) (by kernel_rfl) (fun _ _ _ h => h) (by kernel_rfl) ?hy67 (by exact ⟨c3, c4⟩) ?_
  case hy67 => (intro w' hSw; go_simp; try (with_reducible rfl))
  simp only [Act.put, List.setIfInBounds_toArray, List.set_cons_zero, List.set_cons_succ]
  refine takeS_on (i := 19) 41 (v := ?v68) rfl rfl (by kernel_rfl) (by kernel_rfl) (by kernel_rfl) (fun _ _ _ h => h) (by kernel_rfl) ?hy68 (by exact ⟨c3, c4⟩) ?_
  case hy68 => (intro w' hSw; go_simp; try (with_reducible rfl))
  simp only [Act.put, List.setIfInBounds_toArray, List.set_cons_zero, List.set_cons_succ]
  refine takeS_on (i := 20) 42 (v := ?v69) rfl rfl (by kernel_rfl) (by kernel_rfl) (by kernel_rfl) (fun _ _ _ h => h) (by kernel_rfl) ?hy69 (by exact ⟨c3, c4⟩) ?_
  case hy69 => (intro w' hSw; go_simp; try (with_reducible rfl))
  simp only [Act.put, List.setIfInBounds_toArray, List.set_cons_zero, List.set_cons_succ]
  refine wpAnyH_ready (rs := [13]) (by kernel_rfl) (by simp) (AllReadyH.cons rfl (fun K hK => ?_) AllReadyH.nil)
  go_simp
  refine hK.out _ _ (by exact ⟨c3, c4⟩) (fun _ => ?_)
  clear hK K
  refine wpAnyH_ready (rs := [21]) (by kernel_rfl) (by simp) (AllReadyH.cons rfl (fun K hK => ?_) AllReadyH.nil)
  refine step_append_ow rfl (.tmp 35) (.tmp 42) 41 3 8 (.int .i64 0) Try.underlying41 int_info rfl rfl base (.slice ua 0 uc) [] (by simp [Act.eval]) HOU.out.drew _ (.slice fa 16 fc) ((iv x.F).take 16) (by simp [Act.eval]) HT.out.drew (by rw [iv_take]; exact iv_one _) 16 HLen.out (by omega) (by unfold maxLen; omega) (by simpa using hbase) (iv (x.F.take 16)) (by rw [iv_take]; rfl) ?_
  intro ao2 cap2 w4 o4 g4 bl4
  have G4 := ((Ch.refl (Blk (.slice ua 0 uc)) w).drew).trans' g4
  have F4 := HF.out.ch G4 (fun e => HNB.out (SB.at_ HU.out e))
  obtain ⟨e0, e1, e2, e3, e4⟩ := F4.cells
  obtain ⟨g', e', -, hg4, -, d4, df4, -⟩ := (HS.out.c.ch G4 (fun q a e => HS.out.ec p _ HU.out q e a)).get1 HU.out
  cases e'
  have HF4 := hid F4
  have HO4 := hid o4
  have HG4 := hid G4
  have HB4 := hid (show ∀ q, Blk (.slice ao2 16 cap2) q → Blk (.slice ua 0 uc) q ∨ w.heap.size ≤ q from bl4)
  clear o4 g4 F4 G4 bl4
  refine hK.out _ _ (by exact ⟨e3, e4⟩) (fun _ => ?_)
  change wpAnyH _ _ _ _ _ _ _ (Act.put _ (some 43) _) _
  simp only [Act.put, List.setIfInBounds_toArray, List.set_cons_zero, List.set_cons_succ]
  clear hK K
  refine takeS_on (i := 22) 44 (v := ?v70) rfl rfl (by kernel_rfl) (by kernel_rfl) (by kernel_rfl) (fun _ _ _ h => h) (by kernel_rfl) ?hy70 (by exact ⟨e3, e4⟩) ?_
  case hy70 => (intro w' hSw; go_simp; try (with_reducible rfl))
  simp only [Act.put, List.setIfInBounds_toArray, List.set_cons_zero, List.set_cons_succ]
  refine wpAnyH_ready (rs := [23]) (by kernel_rfl) (by simp) (AllReadyH.cons rfl (fun K hK => ?_) AllReadyH.nil)
  go_simp
  have hs5 := HS.out.cache HU.out HG4.out HO4.out HB4.out
  obtain ⟨W5, hW5⟩ : ∃ W, W = w4.setCell ⟨g1, p, none⟩ (.slice ao2 16 cap2) := ⟨_, rfl⟩
  have C5 : Ch (Only g1) w4 W5 := by rw [hW5]; exact (Ch.refl _ _).own _ _
  have F5 := HF4.out.ch C5 (fun e => hne1 e)
  have h5 := (C5.cell (o := 3) HF4.out.lt (fun e => hne1 e)).trans e3
  have h6 := (C5.cell (o := 4) HF4.out.lt (fun e => hne1 e)).trans e4
  rw [← hW5] at hs5 ⊢
  have hN5 : ¬ SB (.slice ga nG gc) (.slice aa nA ac) (.slice (some ⟨g1, 0, none⟩) nC cc) (.slice fa nF fc) (cv.set p (.slice ao2 16 cap2)) b := fun e => by
    rcases e.cache with e | e
    · exact HNB.out e
    · exact (HB4.out _ e).elim (fun e => HNB.out (SB.at_ HU.out e)) (fun e => by omega)
  have HS5 := hid hs5
  have HF5 := hid F5
  have HC5 := hid C5
  have HN5 := hid hN5
  have bl5 := F5.lt
  clear hW5 hs5 F5 C5 hN5 c0 c1 c2 c3 c4 y0 y1 y2 y3 y4 d0 df e0 e1 e2 e3 e4 d4 df4
  refine hK.out _ _ (by exact ⟨h5, h6⟩) (fun _ => ?_)
  clear hK K
  refine wpAnyH_done (by kernel_rfl) ?_ _
  obtain ⟨c0, c1, c2, c3, c4⟩ := HF5.out.cells
  go_wp2_with fail
  refine (delete_ow base nF fc 0 16 fa x.F W5 HS5.out.f (by omega) (by omega) (by omega)).mono ?_
  rintro e w6 ⟨rfl, o6, g6⟩
  rw [Nat.zero_add] at o6 ⊢
  have F6 := HF5.out.ch g6 (fun e => HN5.out (SB.f e))
  clear c0 c1 c2 c3 c4 h5 h6
  obtain ⟨c0, c1, c2, c3, c4⟩ := F6.cells
  obtain ⟨y0, y1, y2, y3, y4⟩ := F6.fz
  have bl6 := F6.lt
  have HS6 := hid (HS5.out.free g6 o6 (fun q e => .inl (e.len _)))
  have HF6 := hid F6
  have HC6 := hid g6
  clear o6 g6 F6
  go_wp2
  go_end0
  have C7 := (Ch.refl (Only b) w6).own 4 (.slice fa (nF - 16) fc)
  have hN7 : ¬ SB (.slice ga nG gc) (.slice aa nA ac) (.slice (some ⟨g1, 0, none⟩) nC cc) (.slice fa (nF - 16) fc) (cv.set p (.slice ao2 16 cap2)) b := fun e => by
    rcases SB.free (vf := .slice fa nF fc) e with e | e
    · exact HN5.out e
    · exact HN5.out (SB.f (e.len _))
  refine ⟨rfl, Left.of (setCell_block HF6.out 4 _) (HS6.out.ch C7 (fun q a e => by have e1 : q = b := e; subst e1; exact hN7 a)) hN7 HSb.out ?_ ?_⟩
  · intro q e
    rcases SB.free (vf := .slice fa nF fc) e with e | e
    · rcases e.cache with e | e
      · exact .inl (HSB.out q e)
      · exact (HB4.out q e).imp (fun e => HSB.out q (SB.at_ HU.out e)) id
    · exact .inl (HSB.out q (SB.f (e.len _)))
  · have k1 := HG4.out.mono (T := S) (fun q e => .inl (HSB.out q (SB.at_ HU.out e)))
    have k2 := k1.trans HC5.out (fun q e => .inl (HSB.out q (SB.c (by have e1 : q = g1 := e; rw [e1]; exact blk_self _ _ _))))
    have k3 := k2.trans HC6.out (fun q e => .inl (HSB.out q (SB.f e)))
    exact k3.trans C7 (fun q e => .inl (by have e1 : q = b := e; rw [e1]; exact HSb.out))

set_option maxHeartbeats 2000000 in
theorem refill_all (S : Nat → Prop) (base b p : Nat) (L : Int) (x : Sl) (w : World) (h : SlabIn S base w b L x) (hbase : base ≤ w.heap.size) (hc : x.C[p]? = some []) (hfl : x.F.length ≤ 4294967296) (hn : x.F.length < 16) :
    Calls Try.prog 27 #[.pointer (some ⟨b, 0, none⟩), .int .i64 (p : Int)] w fun e w' => e = .returned (.tuple #[]) ∧ Left S base w w' b L (fillS x p x.F.length) := by
  have hcl : ([] : List Int).length ≤ 4294967296 := by simp
  obtain ⟨vg, va, vc, vf, cv, hf, hs, hnb, hSb, hSB, hlt⟩ := h
  obtain ⟨ga, gc, rfl⟩ := hs.g.form
  obtain ⟨aa, ac, rfl⟩ := hs.a.form
  obtain ⟨ca, cc, rfl⟩ := hs.c.form
  obtain ⟨fa, fc, rfl⟩ := hs.f.form
  obtain ⟨nG, hnG⟩ : ∃ n, n = (iv x.G).length := ⟨_, rfl⟩
  obtain ⟨nA, hnA⟩ : ∃ n, n = (bv x.A).length := ⟨_, rfl⟩
  obtain ⟨nC, hnC⟩ : ∃ n, n = cv.length := ⟨_, rfl⟩
  obtain ⟨nF, hnF⟩ : ∃ n, n = (iv x.F).length := ⟨_, rfl⟩
  rw [← hnG, ← hnA, ← hnC, ← hnF] at hf hs hnb hSB
  have hp : p < cv.length := by rw [hs.cl]; exact (List.getElem?_eq_some_iff.1 hc).1
  obtain ⟨u, hu⟩ : ∃ u, cv[p]? = some u := ⟨_, List.getElem?_eq_getElem hp⟩
  have hou := hs.e p u [] hu hc
  obtain ⟨ua, uc, rfl⟩ := hou.form
  obtain ⟨nU, hnU⟩ : ∃ n, n = (iv []).length := ⟨_, rfl⟩
  rw [← hnU] at hou hu
  obtain ⟨g1, rfl, -, hg1, hcap1, d0, df, -⟩ := hs.c.get1 hu
  have hucap := hou.len.2
  have hnUc : nU ≤ 4294967296 := by rw [hnU, iv_length]; exact hcl
  have hne1 : ¬ (b = g1) := fun e => hnb (.inr (.inr (.inl (by rw [e]; rfl))))
  have hne2 : ¬ (g1 = b) := fun e => hne1 e.symm
  have b3 : (0 : Int) ≤ (p : Int) := by omega
  have b4 : (p : Int) < (nC : Int) := by rw [hnC]; omega
  have HU := hid hu
  have HOU := hid hou
  have HC := hid hc
  obtain ⟨c0, c1, c2, c3, c4⟩ := hf.cells
  obtain ⟨y0, y1, y2, y3, y4⟩ := hf.fz
  have bl := hf.lt
  have HF := hid hf
  have HS := hid hs
  have HNB := hid hnb
  have HSB := hid hSB
  have HLT := hid hlt
  have HSb := hid hSb
  have hU0 : nU = 0 := hnU
  subst hU0
  have hnFe : x.F.length = nF := by rw [hnF, iv_length]
  have HFL := hid hnFe
  have hnFl : nF ≤ 4294967296 := by omega
  have h16 : nF < 16 := by omega
  have g16 : ¬ ((16 : Int) ≤ (nF : Int)) := by omega
  have k16 : (nF : Int) < 16 := by omega
  have b9 : (0 : Int) ≤ (nF : Int) := by omega
  have hfcap := hs.f.len.2
  have b2 : (nF : Int) ≤ (fc : Int) := by omega
  have b5 : (nF : Int) ≤ (fc : Int) := by omega
  have HT := hid (hs.f.take (show nF ≤ nF by omega)).lstB
  have HLen := hid (show nF = ([] : List Value).length + ((iv x.F).take nF).length by rw [List.length_take, ← hnF, List.length_nil]; omega)
  clear hf hs hnb hSB hlt hSb hu hou hc hnG hnA hnC hnF hp hcl hfl hnFe hnU
  go_enter Try.func27, Try.ntmps27
  go_wp2_with fail
  refine wp_region_held_drew (S := fun w' => w'.cell? ⟨b, 3, none⟩ = some (.slice (some ⟨g1, 0, none⟩) nC cc) ∧ w'.cell? ⟨b, 4, none⟩ = some (.slice fa nF fc)) (by kernel_rfl) (by exact ⟨c3, c4⟩) (fun _ => ?_)
  refine takeS_on (i := 0) 22 (v := ?v71) rfl rfl (by kernel_rfl) (by kernel_rfl) (by kernel_rfl) (fun _ _ _ h => h) (by kernel_rfl) ?hy71 (by exact ⟨c3, c4⟩) ?_
  case hy71 => (intro w' hSw; go_simp; try (with_reducible rfl))
  simp only [Act.put, List.setIfInBounds_toArray, List.set_cons_zero, List.set_cons_succ]
  refine takeS_on (i := 1) 23 (v := ?v72) rfl rfl (by kernel_rfl) (by kernel_rfl) (by kernel_rfl) (fun _ _ _ h => h) (by kernel_rfl) ?hy72 (by exact ⟨c3, c4⟩) ?_
  case hy72 => (intro w' hSw; go_simp; try (with_reducible rfl))
  simp only [Act.put, List.setIfInBounds_toArray, List.set_cons_zero, List.set_cons_succ]
  refine takeS_on (i := 2) 24 (v := ?v73) rfl rfl (by kernel_rfl) (by kernel_rfl) (by kernel_rfl) (fun _ _ _ h => h) (by kernel_rfl) ?hy73 (by exact ⟨c3, c4⟩) ?_
  case hy73 => (intro w' hSw; go_simp; try (with_reducible rfl))
  simp only [Act.put, List.setIfInBounds_toArray, List.set_cons_zero, List.set_cons_succ]
  refine takeS_on (i := 3) 25 (v := ?v74) rfl rfl (by kernel_rfl) (by kernel_rfl) (by kernel_rfl) (fun _ _ _ h => h) (by kernel_rfl) ?hy74 (by exact ⟨c3, c4⟩) ?_
  case hy74 => (intro w' hSw; go_simp; try (with_reducible rfl))
  simp only [Act.put, List.setIfInBounds_toArray, List.set_cons_zero, List.set_cons_succ]
  refine takeS_on (i := 4) 26 (v := ?v75) rfl rfl (by kernel_rfl) (by kernel_rfl) (by kernel_rfl) (fun _ _ _ h => h) (by kernel_rfl) ?hy75 (by exact ⟨c3, c4⟩) ?_
  case hy75 => (intro w' hSw; go_simp; try (with_reducible rfl))
  simp only [Act.put, List.setIfInBounds_toArray, List.set_cons_zero, List.set_cons_succ]
  refine takeS_on (i := 5) 27 (v := ?v76) rfl rfl (by kernel_rfl) (by kernel_rfl) (by kernel_rfl) (fun _ _ _ h => h) (by kernel_rfl) ?hy76 (by exact ⟨c3, c4⟩) ?_
  case hy76 => (intro w' hSw; go_simp; try (with_reducible rfl))
  simp only [Act.put, List.setIfInBounds_toArray, List.set_cons_zero, List.set_cons_succ]
  refine takeS_on (i := 6) 28 (v := ?v77) rfl rfl (by kernel_rfl) (by kernel_rfl) (by kernel_rfl) (fun _ _ _ h => h) (by kernel_rfl) ?hy77 (by exact ⟨c3, c4⟩) ?_
  case hy77 => (intro w' hSw; go_simp; try (with_reducible rfl))
  simp only [Act.put, List.setIfInBounds_toArray, List.set_cons_zero, List.set_cons_succ]
  refine takeS_on (i := 7) 29 (v := ?v78) rfl rfl (by kernel_rfl) (by kernel_rfl) (by kernel_rfl) (fun _ _ _ h => h) (by kernel_rfl) ?hy78 (by exact ⟨c3, c4⟩) ?_
  case hy78 => (intro w' hSw; go_simp; try (with_reducible rfl))
  simp only [Act.put, List.setIfInBounds_toArray, List.set_cons_zero, List.set_cons_succ]
  refine takeS_on (i := 8) 30 (v := ?v79) rfl rfl (by kernel_rfl) (by kernel_rfl) (by kernel_rfl) (fun _ _ _ h => h) (by kernel_rfl) ?hy79 (by exact ⟨c3, c4⟩) ?_
  case hy79 => (intro w' hSw; go_simp; try (with_reducible rfl))
  simp only [Act.put, List.setIfInBounds_toArray, List.set_cons_zero, List.set_cons_succ]
  refine takeS_on (i := 9) 31 (v := ?v80) rfl rfl (by kernel_rfl) (by kernel_rfl) (by kernel_rfl) (fun _ _ _ h => h) (by kernel_rfl) ?hy80 (by exact ⟨c3, c4⟩) ?_
  case hy80 => (intro w' hSw; go_simp; try (with_reducible rfl))
  simp only [Act.put, List.setIfInBounds_toArray, List.set_cons_zero, List.set_cons_succ]
  refine takeS_on (i := 10) 32 (v := ?v81) rfl rfl (by kernel_rfl) (by kernel_rfl) (by kernel_rfl) (fun _ _ _ h => h) (by kernel_rfl) ?hy81 (by exact ⟨c3, c4⟩) ?_
  case hy81 => (intro w' hSw; go_simp; try (with_reducible rfl))
  simp only [Act.put, List.setIfInBounds_toArray, List.set_cons_zero, List.set_cons_succ]
  refine takeS_on (i := 11) 33 (v := ?v82) rfl rfl (by kernel_rfl) (by kernel_rfl) (by kernel_rfl) (fun _ _ _ h => h) (by kernel_rfl) ?hy82 (by exact ⟨c3, c4⟩) ?_
  case hy82 => (intro w' hSw; go_simp; try (with_reducible rfl))
  simp only [Act.put, List.setIfInBounds_toArray, List.set_cons_zero, List.set_cons_succ]
  refine takeS_on (i := 12) 34 (v := ?v83) rfl rfl (by kernel_rfl) (by kernel_rfl) (by kernel_rfl) (fun _ _ _ h => h) (by kernel_rfl) ?hy83 (by exact ⟨c3, c4⟩) ?_
  case hy83 => (intro w' hSw; go_simp; try (with_reducible rfl))
  simp only [Act.put, List.setIfInBounds_toArray, List.set_cons_zero, List.set_cons_succ]
  refine takeS_on (i := 14) 36 (v := ?v84) rfl rfl (by kernel_rfl) (by kernel_rfl) (by kernel_rfl) (fun _ _ _ h => h) (by kernel_rfl) ?hy84 (by exact ⟨c3, c4⟩) ?_
  case hy84 => (intro w' hSw; go_simp; try (with_reducible rfl))
  simp only [Act.put, List.setIfInBounds_toArray, List.set_cons_zero, List.set_cons_succ]
  refine takeS_on (i := 15) 37 (v := ?v85) rfl rfl (by kernel_rfl) (by kernel_rfl) (by kernel_rfl) (fun _ _ _ h => h) (by kernel_rfl) ?hy85 (by exact ⟨c3, c4⟩) ?_
  case hy85 => (intro w' hSw; go_simp; try (with_reducible rfl))
  simp only [Act.put, List.setIfInBounds_toArray, List.set_cons_zero, List.set_cons_succ]
  refine takeS_on (i := 16) 38 (v := ?v86) rfl rfl (by kernel_rfl) (by kernel_rfl) (by kernel_rfl) (fun _ _ _ h => h) (by kernel_rfl) ?hy86 (by exact ⟨c3, c4⟩) ?_
  case hy86 => (intro w' hSw; go_simp; try (with_reducible rfl))
  simp only [Act.put, List.setIfInBounds_toArray, List.set_cons_zero, List.set_cons_succ]
  refine takeS_on (i := 17) 39 (v := ?v87) rfl rfl (by kernel_rfl) (by kernel_rfl) (by kernel_rfl) (fun _ _ _ h => h) (by kernel_rfl) ?hy87 (by exact ⟨c3, c4⟩) ?_
  case hy87 => (intro w' hSw; go_simp; try (with_reducible rfl))
  simp only [Act.put, List.setIfInBounds_toArray, List.set_cons_zero, List.set_cons_succ]
  refine takeS_on (i := 18) 40 (v := ?v88) rfl rfl (by kernel_rfl) (by kernel_rfl) (by kernel_rfl) (fun _ _ _ h => h) (by kernel_rfl) ?hy88 (by exact ⟨c3, c4⟩) ?_
  case hy88 => (intro w' hSw; go_simp; try (with_reducible rfl))
  simp only [Act.put, List.setIfInBounds_toArray, List.set_cons_zero, List.set_cons_succ]
  refine takeS_on (i := 19) 41 (v := ?v89) rfl rfl (by kernel_rfl) (by kernel_rfl) (by kernel_rfl) (fun _ _ _ h => h) (by kernel_rfl) ?hy89 (by exact ⟨c3, c4⟩) ?_
  case hy89 => (intro w' hSw; go_simp; try (with_reducible rfl))
  simp only [Act.put, List.setIfInBounds_toArray, List.set_cons_zero, List.set_cons_succ]
  refine takeS_on (i := 20) 42 (v := ?v90) rfl rfl (by kernel_rfl) (by kernel_rfl) (by kernel_rfl) (fun _ _ _ h => h) (by kernel_rfl) ?hy90 (by exact ⟨c3, c4⟩) ?_
  case hy90 => (intro w' hSw; go_simp; try (with_reducible rfl))
  simp only [Act.put, List.setIfInBounds_toArray, List.set_cons_zero, List.set_cons_succ]
  refine wpAnyH_ready (rs := [13]) (by kernel_rfl) (by simp) (AllReadyH.cons rfl (fun K hK => ?_) AllReadyH.nil)
  go_simp
  refine hK.out _ _ (by exact ⟨c3, c4⟩) (fun _ => ?_)
  clear hK K
  refine wpAnyH_ready (rs := [21]) (by kernel_rfl) (by simp) (AllReadyH.cons rfl (fun K hK => ?_) AllReadyH.nil)
  refine step_append_ow rfl (.tmp 35) (.tmp 42) 41 3 8 (.int .i64 0) Try.underlying41 int_info rfl rfl base (.slice ua 0 uc) [] (by simp [Act.eval]) HOU.out.drew _ (.slice fa nF fc) ((iv x.F).take nF) (by simp [Act.eval]) HT.out.drew (by rw [iv_take]; exact iv_one _) nF HLen.out (by omega) (by unfold maxLen; omega) (by simpa using hbase) (iv (x.F.take nF)) (by rw [iv_take]; rfl) ?_
  intro ao2 cap2 w4 o4 g4 bl4
  have G4 := ((Ch.refl (Blk (.slice ua 0 uc)) w).drew).trans' g4
  have F4 := HF.out.ch G4 (fun e => HNB.out (SB.at_ HU.out e))
  obtain ⟨e0, e1, e2, e3, e4⟩ := F4.cells
  obtain ⟨g', e', -, hg4, -, d4, df4, -⟩ := (HS.out.c.ch G4 (fun q a e => HS.out.ec p _ HU.out q e a)).get1 HU.out
  cases e'
  have HF4 := hid F4
  have HO4 := hid o4
  have HG4 := hid G4
  have HB4 := hid (show ∀ q, Blk (.slice ao2 nF cap2) q → Blk (.slice ua 0 uc) q ∨ w.heap.size ≤ q from bl4)
  clear o4 g4 F4 G4 bl4
  refine hK.out _ _ (by exact ⟨e3, e4⟩) (fun _ => ?_)
  change wpAnyH _ _ _ _ _ _ _ (Act.put _ (some 43) _) _
  simp only [Act.put, List.setIfInBounds_toArray, List.set_cons_zero, List.set_cons_succ]
  clear hK K
  refine takeS_on (i := 22) 44 (v := ?v91) rfl rfl (by kernel_rfl) (by kernel_rfl) (by kernel_rfl) (fun _ _ _ h => h) (by kernel_rfl) ?hy91 (by exact ⟨e3, e4⟩) ?_
  case hy91 => (intro w' hSw; go_simp; try (with_reducible rfl))
  simp only [Act.put, List.setIfInBounds_toArray, List.set_cons_zero, List.set_cons_succ]
  refine wpAnyH_ready (rs := [23]) (by kernel_rfl) (by simp) (AllReadyH.cons rfl (fun K hK => ?_) AllReadyH.nil)
  go_simp
  have hs5 := HS.out.cache HU.out HG4.out HO4.out HB4.out
  obtain ⟨W5, hW5⟩ : ∃ W, W = w4.setCell ⟨g1, p, none⟩ (.slice ao2 nF cap2) := ⟨_, rfl⟩
  have C5 : Ch (Only g1) w4 W5 := by rw [hW5]; exact (Ch.refl _ _).own _ _
  have F5 := HF4.out.ch C5 (fun e => hne1 e)
  have h5 := (C5.cell (o := 3) HF4.out.lt (fun e => hne1 e)).trans e3
  have h6 := (C5.cell (o := 4) HF4.out.lt (fun e => hne1 e)).trans e4
  rw [← hW5] at hs5 ⊢
  have hN5 : ¬ SB (.slice ga nG gc) (.slice aa nA ac) (.slice (some ⟨g1, 0, none⟩) nC cc) (.slice fa nF fc) (cv.set p (.slice ao2 nF cap2)) b := fun e => by
    rcases e.cache with e | e
    · exact HNB.out e
    · exact (HB4.out _ e).elim (fun e => HNB.out (SB.at_ HU.out e)) (fun e => by omega)
  have HS5 := hid hs5
  have HF5 := hid F5
  have HC5 := hid C5
  have HN5 := hid hN5
  have bl5 := F5.lt
  clear hW5 hs5 F5 C5 hN5 c0 c1 c2 c3 c4 y0 y1 y2 y3 y4 d0 df e0 e1 e2 e3 e4 d4 df4
  refine hK.out _ _ (by exact ⟨h5, h6⟩) (fun _ => ?_)
  clear hK K
  refine wpAnyH_done (by kernel_rfl) ?_ _
  obtain ⟨c0, c1, c2, c3, c4⟩ := HF5.out.cells
  go_wp2_with fail
  refine (delete_ow base nF fc 0 nF fa x.F W5 HS5.out.f (by omega) (by omega) (by omega)).mono ?_
  rintro e w6 ⟨rfl, o6, g6⟩
  rw [Nat.zero_add] at o6 ⊢
  have F6 := HF5.out.ch g6 (fun e => HN5.out (SB.f e))
  clear c0 c1 c2 c3 c4 h5 h6
  obtain ⟨c0, c1, c2, c3, c4⟩ := F6.cells
  obtain ⟨y0, y1, y2, y3, y4⟩ := F6.fz
  have bl6 := F6.lt
  have HS6 := hid (HS5.out.free g6 o6 (fun q e => .inl (e.len _)))
  have HF6 := hid F6
  have HC6 := hid g6
  clear o6 g6 F6
  go_wp2
  go_end0
  rw [HFL.out]
  rw [Nat.sub_self] at HS6
  have C7 := (Ch.refl (Only b) w6).own 4 (.slice fa 0 fc)
  have hN7 : ¬ SB (.slice ga nG gc) (.slice aa nA ac) (.slice (some ⟨g1, 0, none⟩) nC cc) (.slice fa 0 fc) (cv.set p (.slice ao2 nF cap2)) b := fun e => by
    rcases SB.free (vf := .slice fa nF fc) e with e | e
    · exact HN5.out e
    · exact HN5.out (SB.f (e.len _))
  refine ⟨rfl, Left.of (setCell_block HF6.out 4 _) (HS6.out.ch C7 (fun q a e => by have e1 : q = b := e; subst e1; exact hN7 a)) hN7 HSb.out ?_ ?_⟩
  · intro q e
    rcases SB.free (vf := .slice fa nF fc) e with e | e
    · rcases e.cache with e | e
      · exact .inl (HSB.out q e)
      · exact (HB4.out q e).imp (fun e => HSB.out q (SB.at_ HU.out e)) id
    · exact .inl (HSB.out q (SB.f (e.len _)))
  · have k1 := HG4.out.mono (T := S) (fun q e => .inl (HSB.out q (SB.at_ HU.out e)))
    have k2 := k1.trans HC5.out (fun q e => .inl (HSB.out q (SB.c (by have e1 : q = g1 := e; rw [e1]; exact blk_self _ _ _))))
    have k3 := k2.trans HC6.out (fun q e => .inl (HSB.out q (SB.f e)))
    exact k3.trans C7 (fun q e => .inl (by have e1 : q = b := e; rw [e1]; exact HSb.out))


theorem refill_any (S : Nat → Prop) (base b p : Nat) (L : Int) (x : Sl) (c : List Int) (w : World) (h : SlabIn S base w b L x) (hbase : base ≤ w.heap.size) (hc : x.C[p]? = some c) (hcl : c.length ≤ 4294967296) (hfl : x.F.length ≤ 4294967296) :
    Calls Try.prog 27 #[.pointer (some ⟨b, 0, none⟩), .int .i64 (p : Int)] w fun e w' => e = .returned (.tuple #[]) ∧ Left S base w w' b L (refillS x p c) := by
  by_cases hne : c = []
  · subst hne
    rw [refillS, if_pos rfl]
    by_cases h16 : 16 ≤ x.F.length
    · rw [show min 16 x.F.length = 16 by omega]
      exact refill_16 S base b p L x w h hbase hc hfl h16
    · rw [show min 16 x.F.length = x.F.length by omega]
      exact refill_all S base b p L x w h hbase hc hfl (by omega)
  · rw [refillS, if_neg hne]
    refine (refill_some S base b p L x c w h hc hcl hne).mono ?_
    rintro e w' ⟨rfl, rfl⟩
    exact ⟨rfl, Left.refl h⟩
end Go.Proofs.Ytfbkifkfhgkdbab.Sb
