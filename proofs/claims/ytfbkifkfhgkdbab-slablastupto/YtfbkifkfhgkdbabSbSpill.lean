/-
  What spill of a slab leaves: the first n of a P's cache stand behind the domain's list. Condition: the slab is there, has the P and n in its cache, and no list of it is too long.
-/
import Derived.Test.YtfbkifkfhgkdbabSbStep
namespace Go.Proofs.Ytfbkifkfhgkdbab.Sb
open Go.RowKit
attribute [local go_sem ↓] Go.wp_at_zero Go.wp_at_succ

/-- the first n of a cache, moved behind the list -/
def spillS (x : Sl) (p n : Nat) (c : List Int) : Sl := { x with C := x.C.set p (c.drop n), F := x.F ++ c.take n }

set_option maxHeartbeats 2000000 in
theorem spill_any (S : Nat → Prop) (base b p n : Nat) (L : Int) (x : Sl) (c : List Int) (w : World) (h : SlabIn S base w b L x) (hbase : base ≤ w.heap.size) (hc : x.C[p]? = some c) (hn : n ≤ c.length) (hcl : c.length ≤ 4294967296) (hfl : x.F.length ≤ 4294967296) :
    Calls Try.prog 33 #[.pointer (some ⟨b, 0, none⟩), .int .i64 (p : Int), .int .i64 (n : Int)] w fun e w' => e = .returned (.tuple #[]) ∧ Left S base w w' b L (spillS x p n c) := by
  obtain ⟨vg, va, vc, vf, cv, hf, hs, hnb, hSb, hSB, hlt⟩ := h
  obtain ⟨ga, gc, rfl⟩ := hs.g.form
  obtain ⟨aa, ac, rfl⟩ := hs.a.form
  obtain ⟨ca, cc, rfl⟩ := hs.c.form
  obtain ⟨fa, fc, rfl⟩ := hs.f.form
  obtain ⟨nG, hnG⟩ : ∃ n, n = (iv x.G).length := ⟨_, rfl⟩
  obtain ⟨nA, hnA⟩ : ∃ n, n = (bv x.A).length := ⟨_, rfl⟩
  obtain ⟨nC, hnC⟩ : ∃ n, n = cv.length := ⟨_, rfl⟩
  obtain ⟨nF, hnF⟩ : ∃ n, n = (iv x.F).length := ⟨_, rfl⟩
  rw [← hnG, ← hnA, ← hnC, ← hnF] at hf hs hnb hSB
  have hp : p < cv.length := by rw [hs.cl]; exact (List.getElem?_eq_some_iff.1 hc).1
  obtain ⟨u, hu⟩ : ∃ u, cv[p]? = some u := ⟨_, List.getElem?_eq_getElem hp⟩
  have hou := hs.e p u c hu hc
  obtain ⟨ua, uc, rfl⟩ := hou.form
  obtain ⟨nU, hnU⟩ : ∃ n, n = (iv c).length := ⟨_, rfl⟩
  rw [← hnU] at hou hu
  obtain ⟨g1, rfl, -, hg1, hcap1, d0, -, -⟩ := hs.c.get1 hu
  have hucap := hou.len.2
  have hnUc : nU ≤ 4294967296 := by rw [hnU, iv_length]; exact hcl
  have hnUn : n ≤ nU := by rw [hnU, iv_length]; exact hn
  have hnFl : nF ≤ 4294967296 := by rw [hnF, iv_length]; exact hfl
  have hne1 : ¬ (b = g1) := fun e => hnb (.inr (.inr (.inl (by rw [e]; rfl))))
  have hne2 : ¬ (g1 = b) := fun e => hne1 e.symm
  obtain ⟨c0, c1, c2, c3, c4⟩ := hf.cells
  obtain ⟨y0, y1, y2, y3, y4⟩ := hf.fz
  have bl := hf.lt
  have b1 : (0 : Int) ≤ (n : Int) := by omega
  have b2 : (n : Int) ≤ (uc : Int) := by omega
  have b3 : (0 : Int) ≤ (p : Int) := by omega
  have b4 : (p : Int) < (nC : Int) := by rw [hnC]; omega
  have HF := hid hf
  have HS := hid hs
  have HNB := hid hnb
  have HSB := hid hSB
  have HLT := hid hlt
  have HSb := hid hSb
  have HU := hid hu
  have HOU := hid hou
  have HC := hid hc
  have hT := hou.take (n := n) (by omega)
  have HT := hid hT.lstB
  have HLen := hid (show nF + n = (iv x.F).length + ((iv c).take n).length by rw [List.length_take, ← hnF, ← hnU]; omega)
  clear hf hs hnb hSB hlt hSb hu hou hc hT hnG hnA hnC hnF hnU hp hn hcl hfl
  go_enter Try.func33, Try.ntmps33
  go_wp2_with fail
  refine wp_region_held_drew (S := fun w' => w'.cell? ⟨b, 3, none⟩ = some (.slice (some ⟨g1, 0, none⟩) nC cc) ∧ w'.cell? ⟨g1, p, none⟩ = some (.slice ua nU uc)) (by kernel_rfl) (by exact ⟨c3, d0⟩) (fun _ => ?_)
  refine takeS_on (i := 0) 6 (v := ?v1) rfl rfl (by kernel_rfl) (by kernel_rfl) (by kernel_rfl) (fun _ _ _ h => h) (by kernel_rfl) ?hy1 (by exact ⟨c3, d0⟩) ?_
  case hy1 => (intro w' hSw; go_simp; try (with_reducible rfl))
  simp only [Act.put, List.setIfInBounds_toArray, List.set_cons_zero, List.set_cons_succ]
  refine takeS_on (i := 1) 7 (v := ?v2) rfl rfl (by kernel_rfl) (by kernel_rfl) (by kernel_rfl) (fun _ _ _ h => h) (by kernel_rfl) ?hy2 (by exact ⟨c3, d0⟩) ?_
  case hy2 => (intro w' hSw; go_simp; try (with_reducible rfl))
  simp only [Act.put, List.setIfInBounds_toArray, List.set_cons_zero, List.set_cons_succ]
  refine takeS_on (i := 2) 8 (v := ?v3) rfl rfl (by kernel_rfl) (by kernel_rfl) (by kernel_rfl) (fun _ _ _ h => h) (by kernel_rfl) ?hy3 (by exact ⟨c3, d0⟩) ?_
  case hy3 => (intro w' hSw; go_simp; try (with_reducible rfl))
  simp only [Act.put, List.setIfInBounds_toArray, List.set_cons_zero, List.set_cons_succ]
  refine takeS_on (i := 3) 9 (v := ?v4) rfl rfl (by kernel_rfl) (by kernel_rfl) (by kernel_rfl) (fun _ _ _ h => h) (by kernel_rfl) ?hy4 (by exact ⟨c3, d0⟩) ?_
  case hy4 => (intro w' hSw; go_simp; try (with_reducible rfl))
  simp only [Act.put, List.setIfInBounds_toArray, List.set_cons_zero, List.set_cons_succ]
  refine takeS_on (i := 4) 10 (v := ?v5) rfl rfl (by kernel_rfl) (by kernel_rfl) (by kernel_rfl) (fun _ _ _ h => h) (by kernel_rfl) ?hy5 (by exact ⟨c3, d0⟩) ?_
  case hy5 => (intro w' hSw; go_simp; try (with_reducible rfl))
  simp only [Act.put, List.setIfInBounds_toArray, List.set_cons_zero, List.set_cons_succ]
  refine takeS_on (i := 6) 12 (v := ?v6) rfl rfl (by kernel_rfl) (by kernel_rfl) (by kernel_rfl) (fun _ _ _ h => h) (by kernel_rfl) ?hy6 (by exact ⟨c3, d0⟩) ?_
  case hy6 => (intro w' hSw; go_simp; try (with_reducible rfl))
  simp only [Act.put, List.setIfInBounds_toArray, List.set_cons_zero, List.set_cons_succ]
  refine takeS_on (i := 7) 13 (v := ?v7) rfl rfl (by kernel_rfl) (by kernel_rfl) (by kernel_rfl) (fun _ _ _ h => h) (by kernel_rfl) ?hy7 (by exact ⟨c3, d0⟩) ?_
  case hy7 => (intro w' hSw; go_simp; try (with_reducible rfl))
  simp only [Act.put, List.setIfInBounds_toArray, List.set_cons_zero, List.set_cons_succ]
  refine takeS_on (i := 8) 14 (v := ?v8) rfl rfl (by kernel_rfl) (by kernel_rfl) (by kernel_rfl) (fun _ _ _ h => h) (by kernel_rfl) ?hy8 (by exact ⟨c3, d0⟩) ?_
  case hy8 => (intro w' hSw; go_simp; try (with_reducible rfl))
  simp only [Act.put, List.setIfInBounds_toArray, List.set_cons_zero, List.set_cons_succ]
  refine takeS_on (i := 9) 15 (v := ?v9) rfl rfl (by kernel_rfl) (by kernel_rfl) (by kernel_rfl) (fun _ _ _ h => h) (by kernel_rfl) ?hy9 (by exact ⟨c3, d0⟩) ?_
  case hy9 => (intro w' hSw; go_simp; try (with_reducible rfl))
  simp only [Act.put, List.setIfInBounds_toArray, List.set_cons_zero, List.set_cons_succ]
  refine takeS_on (i := 10) 16 (v := ?v10) rfl rfl (by kernel_rfl) (by kernel_rfl) (by kernel_rfl) (fun _ _ _ h => h) (by kernel_rfl) ?hy10 (by exact ⟨c3, d0⟩) ?_
  case hy10 => (intro w' hSw; go_simp; try (with_reducible rfl))
  simp only [Act.put, List.setIfInBounds_toArray, List.set_cons_zero, List.set_cons_succ]
  refine takeS_on (i := 11) 17 (v := ?v11) rfl rfl (by kernel_rfl) (by kernel_rfl) (by kernel_rfl) (fun _ _ _ h => h) (by kernel_rfl) ?hy11 (by exact ⟨c3, d0⟩) ?_
  case hy11 => (intro w' hSw; go_simp; try (with_reducible rfl))
  simp only [Act.put, List.setIfInBounds_toArray, List.set_cons_zero, List.set_cons_succ]
  refine takeS_on (i := 12) 18 (v := ?v12) rfl rfl (by kernel_rfl) (by kernel_rfl) (by kernel_rfl) (fun _ _ _ h => h) (by kernel_rfl) ?hy12 (by exact ⟨c3, d0⟩) ?_
  case hy12 => (intro w' hSw; go_simp; try (with_reducible rfl))
  simp only [Act.put, List.setIfInBounds_toArray, List.set_cons_zero, List.set_cons_succ]
  refine takeS_on (i := 13) 19 (v := ?v13) rfl rfl (by kernel_rfl) (by kernel_rfl) (by kernel_rfl) (fun _ _ _ h => h) (by kernel_rfl) ?hy13 (by exact ⟨c3, d0⟩) ?_
  case hy13 => (intro w' hSw; go_simp; try (with_reducible rfl))
  simp only [Act.put, List.setIfInBounds_toArray, List.set_cons_zero, List.set_cons_succ]
  refine takeS_on (i := 14) 20 (v := ?v14) rfl rfl (by kernel_rfl) (by kernel_rfl) (by kernel_rfl) (fun _ _ _ h => h) (by kernel_rfl) ?hy14 (by exact ⟨c3, d0⟩) ?_
  case hy14 => (intro w' hSw; go_simp; try (with_reducible rfl))
  simp only [Act.put, List.setIfInBounds_toArray, List.set_cons_zero, List.set_cons_succ]
  refine takeS_on (i := 15) 21 (v := ?v15) rfl rfl (by kernel_rfl) (by kernel_rfl) (by kernel_rfl) (fun _ _ _ h => h) (by kernel_rfl) ?hy15 (by exact ⟨c3, d0⟩) ?_
  case hy15 => (intro w' hSw; go_simp; try (with_reducible rfl))
  simp only [Act.put, List.setIfInBounds_toArray, List.set_cons_zero, List.set_cons_succ]
  refine wpAnyH_ready (rs := [5]) (by kernel_rfl) (by simp) (AllReadyH.cons rfl (fun K hK => ?_) AllReadyH.nil)
  go_simp
  refine hK.out _ _ (by exact ⟨c3, d0⟩) (fun _ => ?_)
  clear hK K
  refine wpAnyH_ready (rs := [16]) (by kernel_rfl) (by simp) (AllReadyH.cons rfl (fun K hK => ?_) AllReadyH.nil)
  refine step_append_ow rfl (.tmp 11) (.tmp 21) 41 3 8 (.int .i64 0) Try.underlying41 int_info rfl rfl base (.slice fa nF fc) (iv x.F) (by simp [Act.eval]) HS.out.f.drew _ (.slice ua n uc) ((iv c).take n) (by simp [Act.eval]) HT.out.drew (by rw [iv_take]; exact iv_one _) (nF + n) HLen.out (by omega) (by unfold maxLen; omega) (by simpa using hbase) _ rfl ?_
  intro ao2 cap2 w2 ow2 cw2 bl2
  have G2 := ((Ch.refl (Blk (.slice fa nF fc)) w).drew).trans' cw2
  have F2 := HF.out.ch G2 (fun e => HNB.out (.inr (.inr (.inr (.inl e)))))
  obtain ⟨e0, e1, e2, e3, e4⟩ := F2.cells
  obtain ⟨z0, z1, z2, z3, z4⟩ := F2.fz
  have d2 := (G2.cell (o := p) hg1 (HS.out.cf g1 rfl)).trans d0
  have HO2 := hid ow2
  have HC2 := hid G2
  have HB2 := hid bl2
  have HF2 := hid F2
  clear ow2 cw2 bl2 G2 F2
  refine hK.out _ _ (by exact ⟨e3, d2⟩) (fun _ => ?_)
  change wpAnyH _ _ _ _ _ _ _ (Act.put _ (some 22) _) _
  simp only [Act.put, List.setIfInBounds_toArray, List.set_cons_zero, List.set_cons_succ]
  clear hK K
  refine takeS_on (i := 17) 23 (v := ?v16) rfl rfl (by kernel_rfl) (by kernel_rfl) (by kernel_rfl) (fun _ _ _ h => h) (by kernel_rfl) ?hy16 (by exact ⟨e3, d2⟩) ?_
  case hy16 => (intro w' hSw; go_simp; try (with_reducible rfl))
  simp only [Act.put, List.setIfInBounds_toArray, List.set_cons_zero, List.set_cons_succ]
  refine takeS_on (i := 18) 24 (v := ?v17) rfl rfl (by kernel_rfl) (by kernel_rfl) (by kernel_rfl) (fun _ _ _ h => h) (by kernel_rfl) ?hy17 (by exact ⟨e3, d2⟩) ?_
  case hy17 => (intro w' hSw; go_simp; try (with_reducible rfl))
  simp only [Act.put, List.setIfInBounds_toArray, List.set_cons_zero, List.set_cons_succ]
  refine takeS_on (i := 19) 25 (v := ?v18) rfl rfl (by kernel_rfl) (by kernel_rfl) (by kernel_rfl) (fun _ _ _ h => h) (by kernel_rfl) ?hy18 (by exact ⟨e3, d2⟩) ?_
  case hy18 => (intro w' hSw; go_simp; try (with_reducible rfl))
  simp only [Act.put, List.setIfInBounds_toArray, List.set_cons_zero, List.set_cons_succ]
  refine wpAnyH_ready (rs := [20]) (by kernel_rfl) (by simp) (AllReadyH.cons rfl (fun K hK => ?_) AllReadyH.nil)
  go_simp
  have hs3 := HS.out.free HC2.out (by rw [iv_take, ← iv_append] at HO2; exact HO2.out) (fun q e => HB2.out q e)
  obtain ⟨W3, hW3⟩ : ∃ W, W = w2.setCell ⟨b, 4, none⟩ (.slice ao2 (nF + n) cap2) := ⟨_, rfl⟩
  have C3 : Ch (Only b) w2 W3 := by rw [hW3]; exact (Ch.refl _ _).own _ _
  have F3 : Fv 51 W3 b (.int .i64 L) (.slice ga nG gc) (.slice aa nA ac) (.slice (some ⟨g1, 0, none⟩) nC cc) (.slice ao2 (nF + n) cap2) := by rw [hW3]; exact setCell_block HF2.out 4 _
  have nb3 : ¬ SB (.slice ga nG gc) (.slice aa nA ac) (.slice (some ⟨g1, 0, none⟩) nC cc) (.slice ao2 (nF + n) cap2) cv b := fun e => by
    rcases e with e | e | e | e | e
    · exact HNB.out (.inl e)
    · exact HNB.out (.inr (.inl e))
    · exact HNB.out (.inr (.inr (.inl e)))
    · exact (HB2.out _ e).elim (fun e => HNB.out (.inr (.inr (.inr (.inl e))))) (fun e => by have e' : w.heap.size ≤ b := e; omega)
    · exact HNB.out (.inr (.inr (.inr (.inr e))))
  have s3 := hs3.ch C3 (fun q a e => by have e1 : q = b := e; subst e1; exact nb3 a)
  rw [← hW3]
  clear c0 c1 c2 c3 c4 y0 y1 y2 y3 y4 e0 e1 e2 e3 e4 z0 z1 z2 z3 z4 d0 d2 hs3 hW3
  obtain ⟨c0, c1, c2, c3, c4⟩ := F3.cells
  obtain ⟨y0, y1, y2, y3, y4⟩ := F3.fz
  obtain ⟨g', e', -, hg3, -, d0, df, -⟩ := s3.c.get1 HU.out
  cases e'
  have HOU3 := hid (s3.e p _ c HU.out HC.out)
  have bl3 := F3.lt
  have HF3 := hid F3
  have HS3 := hid s3
  have HC3 := hid C3
  have HN3 := hid nb3
  clear F3 s3 C3 nb3
  refine hK.out _ _ (by exact ⟨c3, d0⟩) (fun _ => ?_)
  clear hK K
  refine wpAnyH_done (by kernel_rfl) ?_ _
  go_wp2_with fail
  refine wp_region_held_drew (S := fun w' => w'.cell? ⟨b, 3, none⟩ = some (.slice (some ⟨g1, 0, none⟩) nC cc)) (by kernel_rfl) (by exact c3) (fun _ => ?_)
  refine takeS_on (i := 0) 26 (v := ?v19) rfl rfl (by kernel_rfl) (by kernel_rfl) (by kernel_rfl) (fun _ _ _ h => h) (by kernel_rfl) ?hy19 (by exact c3) ?_
  case hy19 => (intro w' hSw; go_simp; try (with_reducible rfl))
  simp only [Act.put, List.setIfInBounds_toArray, List.set_cons_zero, List.set_cons_succ]
  refine takeS_on (i := 1) 27 (v := ?v20) rfl rfl (by kernel_rfl) (by kernel_rfl) (by kernel_rfl) (fun _ _ _ h => h) (by kernel_rfl) ?hy20 (by exact c3) ?_
  case hy20 => (intro w' hSw; go_simp; try (with_reducible rfl))
  simp only [Act.put, List.setIfInBounds_toArray, List.set_cons_zero, List.set_cons_succ]
  refine takeS_on (i := 2) 28 (v := ?v21) rfl rfl (by kernel_rfl) (by kernel_rfl) (by kernel_rfl) (fun _ _ _ h => h) (by kernel_rfl) ?hy21 (by exact c3) ?_
  case hy21 => (intro w' hSw; go_simp; try (with_reducible rfl))
  simp only [Act.put, List.setIfInBounds_toArray, List.set_cons_zero, List.set_cons_succ]
  refine takeS_on (i := 3) 29 (v := ?v22) rfl rfl (by kernel_rfl) (by kernel_rfl) (by kernel_rfl) (fun _ _ _ h => h) (by kernel_rfl) ?hy22 (by exact c3) ?_
  case hy22 => (intro w' hSw; go_simp; try (with_reducible rfl))
  simp only [Act.put, List.setIfInBounds_toArray, List.set_cons_zero, List.set_cons_succ]
  refine takeS_on (i := 4) 30 (v := ?v23) rfl rfl (by kernel_rfl) (by kernel_rfl) (by kernel_rfl) (fun _ _ _ h => h) (by kernel_rfl) ?hy23 (by exact c3) ?_
  case hy23 => (intro w' hSw; go_simp; try (with_reducible rfl))
  simp only [Act.put, List.setIfInBounds_toArray, List.set_cons_zero, List.set_cons_succ]
  refine takeS_on (i := 5) 31 (v := ?v24) rfl rfl (by kernel_rfl) (by kernel_rfl) (by kernel_rfl) (fun _ _ _ h => h) (by kernel_rfl) ?hy24 (by exact c3) ?_
  case hy24 => (intro w' hSw; go_simp; try (with_reducible rfl))
  simp only [Act.put, List.setIfInBounds_toArray, List.set_cons_zero, List.set_cons_succ]
  refine takeS_on (i := 6) 32 (v := ?v25) rfl rfl (by kernel_rfl) (by kernel_rfl) (by kernel_rfl) (fun _ _ _ h => h) (by kernel_rfl) ?hy25 (by exact c3) ?_
  case hy25 => (intro w' hSw; go_simp; try (with_reducible rfl))
  simp only [Act.put, List.setIfInBounds_toArray, List.set_cons_zero, List.set_cons_succ]
  refine takeS_on (i := 7) 33 (v := ?v26) rfl rfl (by kernel_rfl) (by kernel_rfl) (by kernel_rfl) (fun _ _ _ h => h) (by kernel_rfl) ?hy26 (by exact c3) ?_
  case hy26 => (intro w' hSw; go_simp; try (with_reducible rfl))
  simp only [Act.put, List.setIfInBounds_toArray, List.set_cons_zero, List.set_cons_succ]
  refine takeS_on (i := 8) 34 (v := ?v27) rfl rfl (by kernel_rfl) (by kernel_rfl) (by kernel_rfl) (fun _ _ _ h => h) (by kernel_rfl) ?hy27 (by exact c3) ?_
  case hy27 => (intro w' hSw; go_simp; try (with_reducible rfl))
  simp only [Act.put, List.setIfInBounds_toArray, List.set_cons_zero, List.set_cons_succ]
  refine takeS_on (i := 9) 35 (v := ?v28) rfl rfl (by kernel_rfl) (by kernel_rfl) (by kernel_rfl) (fun _ _ _ h => h) (by kernel_rfl) ?hy28 (by exact c3) ?_
  case hy28 => (intro w' hSw; go_simp; try (with_reducible rfl))
  simp only [Act.put, List.setIfInBounds_toArray, List.set_cons_zero, List.set_cons_succ]
  refine takeS_on (i := 10) 36 (v := ?v29) rfl rfl (by kernel_rfl) (by kernel_rfl) (by kernel_rfl) (fun _ _ _ h => h) (by kernel_rfl) ?hy29 (by exact c3) ?_
  case hy29 => (intro w' hSw; go_simp; try (with_reducible rfl))
  simp only [Act.put, List.setIfInBounds_toArray, List.set_cons_zero, List.set_cons_succ]
  refine takeS_on (i := 11) 37 (v := ?v30) rfl rfl (by kernel_rfl) (by kernel_rfl) (by kernel_rfl) (fun _ _ _ h => h) (by kernel_rfl) ?hy30 (by exact c3) ?_
  case hy30 => (intro w' hSw; go_simp; try (with_reducible rfl))
  simp only [Act.put, List.setIfInBounds_toArray, List.set_cons_zero, List.set_cons_succ]
  refine takeS_on (i := 12) 38 (v := ?v31) rfl rfl (by kernel_rfl) (by kernel_rfl) (by kernel_rfl) (fun _ _ _ h => h) (by kernel_rfl) ?hy31 (by exact c3) ?_
  case hy31 => (intro w' hSw; go_simp; try (with_reducible rfl))
  simp only [Act.put, List.setIfInBounds_toArray, List.set_cons_zero, List.set_cons_succ]
  refine takeS_on (i := 14) 40 (v := ?v32) rfl rfl (by kernel_rfl) (by kernel_rfl) (by kernel_rfl) (fun _ _ _ h => h) (by kernel_rfl) ?hy32 (by exact c3) ?_
  case hy32 => (intro w' hSw; go_simp; try (with_reducible rfl))
  simp only [Act.put, List.setIfInBounds_toArray, List.set_cons_zero, List.set_cons_succ]
  refine wpAnyH_ready (rs := [13]) (by kernel_rfl) (by simp) (AllReadyH.cons rfl (fun K hK => ?_) AllReadyH.nil)
  go_simp
  refine hK.out _ _ (by exact c3) (fun _ => ?_)
  clear hK K
  refine wpAnyH_ready (rs := [15]) (by kernel_rfl) (by simp) (AllReadyH.cons rfl (fun K hK => ?_) AllReadyH.nil)
  go_simp
  refine (delete_ow base nU uc 0 n ua c _ HOU3.out.drew (by omega) (by omega) (by omega)).mono ?_
  rintro e w4 ⟨rfl, o4, g4⟩
  rw [Nat.zero_add] at o4 ⊢
  have G4 := ((Ch.refl (Blk (.slice ua nU uc)) W3).drew).trans' g4
  have F4 := HF3.out.ch G4 (fun e => HN3.out (.inr (.inr (.inr (.inr ⟨_, List.mem_iff_getElem?.2 ⟨p, HU.out⟩, e⟩)))))
  obtain ⟨e0, e1, e2, e3, e4⟩ := F4.cells
  obtain ⟨g', e', -, hg4, -, d4, df4, -⟩ := (HS3.out.c.ch G4 (fun q a e => HS3.out.ec p _ HU.out q e a)).get1 HU.out
  cases e'
  have HF4 := hid F4
  have HO4 := hid o4
  have HG4 := hid G4
  clear o4 g4 F4 G4
  refine hK.out _ _ (by exact e3) (fun _ => ?_)
  clear hK K
  refine takeS_on (i := 16) 42 (v := ?v33) rfl rfl (by kernel_rfl) (by kernel_rfl) (by kernel_rfl) (fun _ _ _ h => h) (by kernel_rfl) ?hy33 (by exact e3) ?_
  case hy33 => (intro w' hSw; go_simp; try (with_reducible rfl))
  simp only [Act.put, List.setIfInBounds_toArray, List.set_cons_zero, List.set_cons_succ]
  refine wpAnyH_ready (rs := [17]) (by kernel_rfl) (by simp) (AllReadyH.cons rfl (fun K hK => ?_) AllReadyH.nil)
  go_simp
  have hs5 := HS3.out.cache HU.out HG4.out HO4.out (fun q e => .inl (e.len _))
  obtain ⟨W5, hW5⟩ : ∃ W, W = w4.setCell ⟨g1, p, none⟩ (.slice ua (nU - n) uc) := ⟨_, rfl⟩
  have C5 : Ch (Only g1) w4 W5 := by rw [hW5]; exact (Ch.refl _ _).own _ _
  have F5 := HF4.out.ch C5 (fun e => hne1 e)
  have h5 := (C5.cell (o := 3) HF4.out.lt (fun e => hne1 e)).trans e3
  rw [← hW5] at hs5 ⊢
  clear hW5
  refine hK.out _ _ (by exact h5) (fun _ => ?_)
  clear hK K
  refine wpAnyH_done (by kernel_rfl) ?_ _
  go_wp2
  go_end0
  refine ⟨rfl, Left.of F5 hs5 ?_ HSb.out ?_ ?_⟩
  · intro e
    rcases e with e | e | e | e | ⟨u, hu, e⟩
    · exact HN3.out (.inl e)
    · exact HN3.out (.inr (.inl e))
    · exact HN3.out (.inr (.inr (.inl e)))
    · exact HN3.out (.inr (.inr (.inr (.inl e))))
    · rcases List.mem_or_eq_of_mem_set hu with hu | rfl
      · exact HN3.out (.inr (.inr (.inr (.inr ⟨u, hu, e⟩))))
      · exact HN3.out (.inr (.inr (.inr (.inr ⟨_, List.mem_iff_getElem?.2 ⟨p, HU.out⟩, e.len _⟩))))
  · intro q e
    rcases e with e | e | e | e | ⟨u, hu, e⟩
    · exact .inl (HSB.out q (.inl e))
    · exact .inl (HSB.out q (.inr (.inl e)))
    · exact .inl (HSB.out q (.inr (.inr (.inl e))))
    · exact (HB2.out q e).imp (fun e => HSB.out q (.inr (.inr (.inr (.inl e))))) id
    · rcases List.mem_or_eq_of_mem_set hu with hu | rfl
      · exact .inl (HSB.out q (.inr (.inr (.inr (.inr ⟨u, hu, e⟩)))))
      · exact .inl (HSB.out q (.inr (.inr (.inr (.inr ⟨_, List.mem_iff_getElem?.2 ⟨p, HU.out⟩, e.len _⟩)))))
  · have k1 := HC2.out.mono (T := S) (fun q e => .inl (HSB.out q (.inr (.inr (.inr (.inl e))))))
    have k2 := k1.trans HC3.out (fun q e => .inl (by have e1 : q = b := e; rw [e1]; exact HSb.out))
    have k3 := k2.trans HG4.out (fun q e => .inl (HSB.out q (.inr (.inr (.inr (.inr ⟨_, List.mem_iff_getElem?.2 ⟨p, HU.out⟩, e⟩))))))
    exact k3.trans C5 (fun q e => .inl (HSB.out q (.inr (.inr (.inl (by have e1 : q = g1 := e; rw [e1]; rfl))))))
end Go.Proofs.Ytfbkifkfhgkdbab.Sb
