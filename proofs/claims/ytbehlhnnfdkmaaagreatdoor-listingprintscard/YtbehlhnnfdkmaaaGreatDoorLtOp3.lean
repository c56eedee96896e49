/-
  What the program's readOp answers and leaves at a case. Conditions: words are no longer than a text may be and lie apart from the reader; as many lines as a text may have; the line is an operation's.
-/
import Derived.Test.YtbehlhnnfdkmaaaGreatDoorLtOp
namespace Go.Proofs.YtbehlhnnfdkmaaaGreatDoor.Lt
open Go.RowKit Wd

theorem case_info : (Tryz.prog.info? 46).map (fun i => (i.zero, i.size, i.bytes)) = some (some (.agg #[.bool false, .int .i64 0, .int .i64 0, .int .i64 0]), 4, 32) := by kernel_rfl
theorem eC_one {a : Cs} : ∀ u ∈ [a].flatMap eC, u.oneCell' = true := by
  intro u hu
  simp [eC] at hu
  rcases hu with rfl | rfl | rfl | rfl <;> rfl
set_option maxHeartbeats 2000000 in
set_option maxRecDepth 20000 in
theorem readOp_send (base R M : Nat) (w : World) (x : Rs) (num : Nat) (ws : List ByteArray) (wv : Value) (kind : Int) (op : Nat) (leads : Bool) (s : ByteArray) (wt : List ByteArray) (hws : ws = s :: wt) (h1 : 1 ≤ op) (h2 : op < 59) (hl : Ls eS (fun g => ¬ SR base R M g) w wv ws) (hz : Sml ws) (hf : Few x) (hok : Rok x) (hg : Glb w) (h : Red base R M w x) (hE : fE op wt = 0) (hiT : x.inT = true) (hop : op = 29) (hcb : ∀ cs, (∃ d, (cs, d) ∈ x.tb) → cs.length ≤ 4294967296) :
    Calls Tryz.prog 53 #[.pointer (some ⟨R, 0, none⟩), .agg #[.int .i64 (num : Nat), wv, .int .i64 kind, .int .i64 (op : Nat), .bool leads]] w (Dn base R M w (roE x op wt) (roS x num op wt)) := by
  obtain ⟨va, vf, vt, ts, h⟩ := h
  subst hws
  obtain ⟨g, o, cap, rfl, hP, hgl, hcap, hc⟩ := hl.get eS_len (i := 0) (a := s) rfl
  clear hc
  obtain ⟨n, hn⟩ : ∃ n, n = (s :: wt).length := ⟨_, rfl⟩
  have hn1 : 1 ≤ n := by rw [hn]; simp
  rw [← hn] at hcap hl ⊢
  have HN := hid hn
  clear hn
  obtain ⟨o', hsl, hlt⟩ := slice_tail g o n cap hn1 hcap
  have hlt1 := hlt _ _ _ _ hl
  have HFD := hid (fun (W : World) (q : Gr w W) => fields_any _ (.slice (some ⟨g, o', none⟩) (n - 1) (cap - 1)) wt op h1 h2 W (hlt1.gr q) (fun y hy => hz y (by simp [hy])) (hg.gr q))
  have HH := hid h
  have Hf := hid hf
  have HO := hid hok
  have HG := hid hg
  obtain ⟨I, hI⟩ : ∃ I, I = fI op wt := ⟨_, rfl⟩
  obtain ⟨A, hA⟩ : ∃ A, A = fA op wt := ⟨_, rfl⟩
  obtain ⟨E, hE⟩ : ∃ E, E = fE op wt := ⟨_, rfl⟩
  rw [← hI, ← hA, ← hE] at HFD
  unfold iV at HFD
  have HI := hid hI
  have HA := hid hA
  have HE := hid hE
  have hBx := (MapKept.heap_alloc w (.cells #[.int .i64 (num : Nat), .slice (some ⟨g, o, none⟩) n cap, .int .i64 kind, .int .i64 (op : Nat), .bool leads] 56)).1
  have hgV := Gr.alloc (Gr.refl w) #[.int .i64 (num : Nat), .slice (some ⟨g, o, none⟩) n cap, .int .i64 kind, .int .i64 (op : Nat), .bool leads] 56
  have hszV : (w.alloc (.cells #[.int .i64 (num : Nat), .slice (some ⟨g, o, none⟩) n cap, .int .i64 kind, .int .i64 (op : Nat), .bool leads] 56)).heap.size = w.heap.size + 1 := by simp
  clear hl hz hlt hlt1 hI hA hE h hf hok hg
  rw [← HE.out] at hE
  have hC : roC x op = true := by unfold roC; rw [hiT]; simp [hop]
  have eE : roE x op wt = 0 := by unfold roE; rw [← HE.out, if_pos hE, hC]; rfl
  rw [eE]
  have HRS0 := hid (show roS x num op wt = { x with tb := x.tb.modify (x.tb.length - 1) (fun t => (t.1 ++ [⟨true, I.2.1, I.2.2.1, I.2.2.2.1⟩], t.2)) } by unfold roS roK; rw [hC, HI.out]; simp [hop])
  have HOP := hid hop
  have HE0 := hid hE
  clear eE hC hE hop
  go_enter Tryz.func53, Tryz.ntmps53
  go_upto_region 1 with fail
  generalize w.alloc (.cells #[.int .i64 (num : Nat), .slice (some ⟨g, o, none⟩) n cap, .int .i64 kind, .int .i64 (op : Nat), .bool leads] 56) = V at hBx hgV hszV ⊢
  have HBx := hid hBx
  have HGV := hid hgV
  have HSV := hid hszV
  have x3 : V.cell? ⟨w.heap.size, 3, none⟩ = some (.int .i64 (op : Nat)) := (cell_of hBx 3).trans rfl
  have x1 : V.cell? ⟨w.heap.size, 1, none⟩ = some (.slice (some ⟨g, o, none⟩) n cap) := (cell_of hBx 1).trans rfl
  have lB : w.heap.size < V.heap.size := by omega
  clear hBx hgV hszV
  go_cut [5, 6, 7] (fun p a e wc => Ro1 V I A E p a e wc)
  case first =>
    have hS0 : (fun w' => w'.cell? ⟨w.heap.size, 3, none⟩ = some (.int .i64 (op : Nat)) ∧ w'.cell? ⟨w.heap.size, 1, none⟩ = some (.slice (some ⟨g, o, none⟩) n cap) ∧ w.heap.size < w'.heap.size) V.drew := ⟨x3, x1, lB⟩
    refine wp_region_held_drew (S := fun w' => w'.cell? ⟨w.heap.size, 3, none⟩ = some (.int .i64 (op : Nat)) ∧ w'.cell? ⟨w.heap.size, 1, none⟩ = some (.slice (some ⟨g, o, none⟩) n cap) ∧ w.heap.size < w'.heap.size) (by kernel_rfl) (by exact hS0) (fun hSx => ?_)
    clear hSx
    refine takeS_on (i := 0) 11 (v := ?v208) rfl rfl (by kernel_rfl) (by kernel_rfl) (by kernel_rfl) (fun _ _ _ h => h) (by kernel_rfl) ?hy208 (by exact hS0) ?_
    case hy208 => (intro w' hSw; go_simp; try (with_reducible rfl))
    simp only [Act.put, List.setIfInBounds_toArray, List.set_cons_zero, List.set_cons_succ]
    refine takeS_on (i := 1) 12 (v := ?v209) rfl rfl (by kernel_rfl) (by kernel_rfl) (by kernel_rfl) (fun _ _ _ h => h) (by kernel_rfl) ?hy209 (by exact hS0) ?_
    case hy209 => (intro w' hSw; go_simp; try (with_reducible rfl))
    simp only [Act.put, List.setIfInBounds_toArray, List.set_cons_zero, List.set_cons_succ]
    refine takeS_on (i := 2) 13 (v := ?v210) rfl rfl (by kernel_rfl) (by kernel_rfl) (by kernel_rfl) (fun _ _ _ h => h) (by kernel_rfl) ?hy210 (by exact hS0) ?_
    case hy210 => (intro w' hSw; go_simp; try (with_reducible rfl))
    simp only [Act.put, List.setIfInBounds_toArray, List.set_cons_zero, List.set_cons_succ]
    refine takeS_on (i := 3) 14 (v := ?v211) rfl rfl (by kernel_rfl) (by kernel_rfl) (by kernel_rfl) (fun _ _ _ h => h) (by kernel_rfl) ?hy211 (by exact hS0) ?_
    case hy211 => (intro w' hSw; go_simp; try (with_reducible rfl))
    simp only [Act.put, List.setIfInBounds_toArray, List.set_cons_zero, List.set_cons_succ]
    refine takeS_on (i := 4) 15 (v := ?v212) rfl rfl (by kernel_rfl) (by kernel_rfl) (by kernel_rfl) (fun _ _ _ h => h) (by kernel_rfl) ?hy212 (by exact hS0) ?_
    case hy212 => (intro w' hSw; go_simp; try (with_reducible rfl))
    simp only [Act.put, List.setIfInBounds_toArray, List.set_cons_zero, List.set_cons_succ]
    refine wpAnyH_ready (rs := [5, 10]) (by kernel_rfl) (by simp) (AllReadyH.cons rfl (fun K hK => ?_) (AllReadyH.cons rfl (fun K hK => ?_) AllReadyH.nil))
    · go_simp
      refine (HFD.out _ (Gr.trans HGV.out (Ch.drew (Gr.refl V)))).mono ?_
      rintro e w3 ⟨rfl, g3⟩
      have k3 : Gr V w3 := Gr.trans (Ch.drew (Gr.refl V)) g3
      have hS_w3 : (fun w' => w'.cell? ⟨w.heap.size, 3, none⟩ = some (.int .i64 (op : Nat)) ∧ w'.cell? ⟨w.heap.size, 1, none⟩ = some (.slice (some ⟨g, o, none⟩) n cap) ∧ w.heap.size < w'.heap.size) w3 := ⟨(Ch.cell k3 lB (noB _)).trans x3, (Ch.cell k3 lB (noB _)).trans x1, Nat.lt_of_lt_of_le lB (Ch.size k3)⟩
      have K3 := hid k3
      clear k3 g3
      refine hK.out _ _ (by exact hS_w3) (fun hSx => ?_)
      clear hSx hK K
      refine takeS_on (i := 6) 10 (v := ?v213) rfl rfl (by kernel_rfl) (by kernel_rfl) (by kernel_rfl) (fun _ _ _ h => h) (by kernel_rfl) ?hy213 (by exact hS_w3) ?_
      case hy213 => (intro w' hSw; go_simp; try (with_reducible rfl))
      simp only [Act.put, List.setIfInBounds_toArray, List.set_cons_zero, List.set_cons_succ]
      refine takeS_on (i := 7) 17 (v := ?v214) rfl rfl (by kernel_rfl) (by kernel_rfl) (by kernel_rfl) (fun _ _ _ h => h) (by kernel_rfl) ?hy214 (by exact hS_w3) ?_
      case hy214 => (intro w' hSw; go_simp; try (with_reducible rfl))
      simp only [Act.put, List.setIfInBounds_toArray, List.set_cons_zero, List.set_cons_succ]
      refine takeS_on (i := 8) 18 (v := ?v215) rfl rfl (by kernel_rfl) (by kernel_rfl) (by kernel_rfl) (fun _ _ _ h => h) (by kernel_rfl) ?hy215 (by exact hS_w3) ?_
      case hy215 => (intro w' hSw; go_simp; try (with_reducible rfl))
      simp only [Act.put, List.setIfInBounds_toArray, List.set_cons_zero, List.set_cons_succ]
      refine takeS_on (i := 9) 19 (v := ?v216) rfl rfl (by kernel_rfl) (by kernel_rfl) (by kernel_rfl) (fun _ _ _ h => h) (by kernel_rfl) ?hy216 (by exact hS_w3) ?_
      case hy216 => (intro w' hSw; go_simp; try (with_reducible rfl))
      simp only [Act.put, List.setIfInBounds_toArray, List.set_cons_zero, List.set_cons_succ]
      refine wpAnyH_ready (rs := [10]) (by kernel_rfl) (by simp) (AllReadyH.cons rfl (fun K hK => ?_) AllReadyH.nil)
      go_simp
      have hS_a : (fun w' => w'.cell? ⟨w.heap.size, 3, none⟩ = some (.int .i64 (op : Nat)) ∧ w'.cell? ⟨w.heap.size, 1, none⟩ = some (.slice (some ⟨g, o, none⟩) n cap) ∧ w.heap.size < w'.heap.size) (w3.alloc (.cells #[.int .i64 0, .int .i64 0, .int .i64 0, .int .i64 0, .int .i64 0] 67)) := ⟨(Ch.cell (Ch.alloc K3.out _) lB (noB _)).trans x3, (Ch.cell (Ch.alloc K3.out _) lB (noB _)).trans x1, Nat.lt_of_lt_of_le lB (Ch.size (Ch.alloc K3.out (.cells #[.int .i64 0, .int .i64 0, .int .i64 0, .int .i64 0, .int .i64 0] 67)))⟩
      refine hK.out _ _ (by exact hS_a) (fun hSx => ?_)
      clear hSx hK K
      refine wpAnyH_ready (rs := [11]) (by kernel_rfl) (by simp) (AllReadyH.cons rfl (fun K hK => ?_) AllReadyH.nil)
      go_simp
      have hS_b : (fun w' => w'.cell? ⟨w.heap.size, 3, none⟩ = some (.int .i64 (op : Nat)) ∧ w'.cell? ⟨w.heap.size, 1, none⟩ = some (.slice (some ⟨g, o, none⟩) n cap) ∧ w.heap.size < w'.heap.size) (w3.alloc (.cells #[.int .i64 I.1, .int .i64 I.2.1, .int .i64 I.2.2.1, .int .i64 I.2.2.2.1, .int .i64 I.2.2.2.2] 67)) := ⟨(Ch.cell (Ch.alloc K3.out _) lB (noB _)).trans x3, (Ch.cell (Ch.alloc K3.out _) lB (noB _)).trans x1, Nat.lt_of_lt_of_le lB (Ch.size (Ch.alloc K3.out (.cells #[.int .i64 I.1, .int .i64 I.2.1, .int .i64 I.2.2.1, .int .i64 I.2.2.2.1, .int .i64 I.2.2.2.2] 67)))⟩
      refine hK.out _ _ (by exact hS_b) (fun hSx => ?_)
      clear hSx hK K
      refine takeS_on (i := 12) 6 (v := ?v217) rfl rfl (by kernel_rfl) (by kernel_rfl) (by kernel_rfl) (fun _ _ _ h => h) (by kernel_rfl) ?hy217 (by exact hS_b) ?_
      case hy217 => (intro w' hSw; go_simp; try (with_reducible rfl))
      simp only [Act.put, List.setIfInBounds_toArray, List.set_cons_zero, List.set_cons_succ]
      refine takeS_on (i := 13) 7 (v := ?v218) rfl rfl (by kernel_rfl) (by kernel_rfl) (by kernel_rfl) (fun _ _ _ h => h) (by kernel_rfl) ?hy218 (by exact hS_b) ?_
      case hy218 => (intro w' hSw; go_simp; try (with_reducible rfl))
      simp only [Act.put, List.setIfInBounds_toArray, List.set_cons_zero, List.set_cons_succ]
      refine wpAnyH_done (by kernel_rfl) ?_ _
      clear hS0 hS_w3 hS_a hS_b
      go_wp2_with fail
      go_meet
      exact ⟨w3.heap.size, rfl, rfl, rfl, K3.out.size, (MapKept.heap_alloc w3 _).1, Ch.alloc K3.out _⟩
    · go_simp
      have hS_a : (fun w' => w'.cell? ⟨w.heap.size, 3, none⟩ = some (.int .i64 (op : Nat)) ∧ w'.cell? ⟨w.heap.size, 1, none⟩ = some (.slice (some ⟨g, o, none⟩) n cap) ∧ w.heap.size < w'.heap.size) (V.alloc (.cells #[.int .i64 0, .int .i64 0, .int .i64 0, .int .i64 0, .int .i64 0] 67)).drew := ⟨(Ch.cell (Ch.drew (Ch.alloc (Gr.refl V) _)) lB (noB _)).trans x3, (Ch.cell (Ch.drew (Ch.alloc (Gr.refl V) _)) lB (noB _)).trans x1, Nat.lt_of_lt_of_le lB (Ch.size (Ch.drew (Ch.alloc (Gr.refl V) (.cells #[.int .i64 0, .int .i64 0, .int .i64 0, .int .i64 0, .int .i64 0] 67))))⟩
      refine hK.out _ _ (by exact hS_a) (fun hSx => ?_)
      clear hSx hK K
      refine wpAnyH_ready (rs := [5]) (by kernel_rfl) (by simp) (AllReadyH.cons rfl (fun K hK => ?_) AllReadyH.nil)
      go_simp
      refine (HFD.out _ (Gr.trans HGV.out (Ch.drew (Ch.alloc (Gr.refl V) _)))).mono ?_
      rintro e w3 ⟨rfl, g3⟩
      have hb3 : w3.heap[V.heap.size]? = some (.cells #[.int .i64 0, .int .i64 0, .int .i64 0, .int .i64 0, .int .i64 0] 67 (0, 0)) := gr_blk (w := (V.alloc (.cells #[.int .i64 0, .int .i64 0, .int .i64 0, .int .i64 0, .int .i64 0] 67)).drew) (MapKept.heap_alloc V (.cells #[.int .i64 0, .int .i64 0, .int .i64 0, .int .i64 0, .int .i64 0] 67)).1 g3
      have k3 : Gr V w3 := Gr.trans (Ch.drew (Ch.alloc (Gr.refl V) _)) g3
      have hS_w3 : (fun w' => w'.cell? ⟨w.heap.size, 3, none⟩ = some (.int .i64 (op : Nat)) ∧ w'.cell? ⟨w.heap.size, 1, none⟩ = some (.slice (some ⟨g, o, none⟩) n cap) ∧ w.heap.size < w'.heap.size) w3 := ⟨(Ch.cell k3 lB (noB _)).trans x3, (Ch.cell k3 lB (noB _)).trans x1, Nat.lt_of_lt_of_le lB (Ch.size k3)⟩
      have K3 := hid k3
      have HB3 := hid hb3
      obtain ⟨u0, u1, u2, u3, u4, uz, ul⟩ := Box.of hb3
      have y0 := uz 0
      have y1 := uz 1
      have y2 := uz 2
      have y3 := uz 3
      have y4 := uz 4
      clear k3 g3 hb3 uz
      refine hK.out _ _ (by exact hS_w3) (fun hSx => ?_)
      clear hSx hK K
      refine takeS_on (i := 6) 10 (v := ?v219) rfl rfl (by kernel_rfl) (by kernel_rfl) (by kernel_rfl) (fun _ _ _ h => h) (by kernel_rfl) ?hy219 (by exact hS_w3) ?_
      case hy219 => (intro w' hSw; go_simp; try (with_reducible rfl))
      simp only [Act.put, List.setIfInBounds_toArray, List.set_cons_zero, List.set_cons_succ]
      refine takeS_on (i := 7) 17 (v := ?v220) rfl rfl (by kernel_rfl) (by kernel_rfl) (by kernel_rfl) (fun _ _ _ h => h) (by kernel_rfl) ?hy220 (by exact hS_w3) ?_
      case hy220 => (intro w' hSw; go_simp; try (with_reducible rfl))
      simp only [Act.put, List.setIfInBounds_toArray, List.set_cons_zero, List.set_cons_succ]
      refine takeS_on (i := 8) 18 (v := ?v221) rfl rfl (by kernel_rfl) (by kernel_rfl) (by kernel_rfl) (fun _ _ _ h => h) (by kernel_rfl) ?hy221 (by exact hS_w3) ?_
      case hy221 => (intro w' hSw; go_simp; try (with_reducible rfl))
      simp only [Act.put, List.setIfInBounds_toArray, List.set_cons_zero, List.set_cons_succ]
      refine takeS_on (i := 9) 19 (v := ?v222) rfl rfl (by kernel_rfl) (by kernel_rfl) (by kernel_rfl) (fun _ _ _ h => h) (by kernel_rfl) ?hy222 (by exact hS_w3) ?_
      case hy222 => (intro w' hSw; go_simp; try (with_reducible rfl))
      simp only [Act.put, List.setIfInBounds_toArray, List.set_cons_zero, List.set_cons_succ]
      refine wpAnyH_ready (rs := [11]) (by kernel_rfl) (by simp) (AllReadyH.cons rfl (fun K hK => ?_) AllReadyH.nil)
      go_simp
      have k4 : Gr V (((((w3.setCell ⟨V.heap.size, 0, none⟩ (.int .i64 I.1)).setCell ⟨V.heap.size, 1, none⟩ (.int .i64 I.2.1)).setCell ⟨V.heap.size, 2, none⟩ (.int .i64 I.2.2.1)).setCell ⟨V.heap.size, 3, none⟩ (.int .i64 I.2.2.2.1)).setCell ⟨V.heap.size, 4, none⟩ (.int .i64 I.2.2.2.2)) := fr5 K3.out (Nat.le_refl _) _ _ _ _ _
      have hS_b : (fun w' => w'.cell? ⟨w.heap.size, 3, none⟩ = some (.int .i64 (op : Nat)) ∧ w'.cell? ⟨w.heap.size, 1, none⟩ = some (.slice (some ⟨g, o, none⟩) n cap) ∧ w.heap.size < w'.heap.size) (((((w3.setCell ⟨V.heap.size, 0, none⟩ (.int .i64 I.1)).setCell ⟨V.heap.size, 1, none⟩ (.int .i64 I.2.1)).setCell ⟨V.heap.size, 2, none⟩ (.int .i64 I.2.2.1)).setCell ⟨V.heap.size, 3, none⟩ (.int .i64 I.2.2.2.1)).setCell ⟨V.heap.size, 4, none⟩ (.int .i64 I.2.2.2.2)) := ⟨(Ch.cell k4 lB (noB _)).trans x3, (Ch.cell k4 lB (noB _)).trans x1, Nat.lt_of_lt_of_le lB (Ch.size k4)⟩
      clear k4
      refine hK.out _ _ (by exact hS_b) (fun hSx => ?_)
      clear hSx hK K
      refine takeS_on (i := 12) 6 (v := ?v223) rfl rfl (by kernel_rfl) (by kernel_rfl) (by kernel_rfl) (fun _ _ _ h => h) (by kernel_rfl) ?hy223 (by exact hS_b) ?_
      case hy223 => (intro w' hSw; go_simp; try (with_reducible rfl))
      simp only [Act.put, List.setIfInBounds_toArray, List.set_cons_zero, List.set_cons_succ]
      refine takeS_on (i := 13) 7 (v := ?v224) rfl rfl (by kernel_rfl) (by kernel_rfl) (by kernel_rfl) (fun _ _ _ h => h) (by kernel_rfl) ?hy224 (by exact hS_b) ?_
      case hy224 => (intro w' hSw; go_simp; try (with_reducible rfl))
      simp only [Act.put, List.setIfInBounds_toArray, List.set_cons_zero, List.set_cons_succ]
      refine wpAnyH_done (by kernel_rfl) ?_ _
      clear hS0 hS_w3 hS_a hS_b u0 u1 u2 u3 u4 y0 y1 y2 y3 y4 ul
      go_wp2_with fail
      go_meet
      exact ⟨V.heap.size, rfl, rfl, rfl, Nat.le_refl _, st5 HB3.out _ _ _ _ _, fr5 K3.out (Nat.le_refl _) _ _ _ _ _⟩
  case rest =>
    obtain ⟨kb, rfl, rfl, rfl, hkb, hbk, hgc⟩ := hcut
    have hbx := gr_blk HBx.out hgc
    obtain ⟨b0, b1, b2, b3, b4, -, bl⟩ := Box.of hbx
    obtain ⟨i0, i1, i2, i3, i4, iz, il⟩ := Box.of hbk
    have hrd := HH.out.gr (Gr.trans HGV.out hgc)
    have hbR := hrd.blk
    obtain ⟨r0, r1, r2, r3, r4, r5, rz, rl⟩ := Six.of hbR
    have HRD := hid hrd
    have HGC := hid hgc
    have HKB := hid hkb
    have HBK := hid hbk
    clear hbx hrd hbR hgc hkb hbk rz iz x3 x1 lB
    have hE := HE0.out
    subst hE
    have hop := HOP.out
    subst hop
    rw [hiT] at r5
    have hbx3 := b3
    obtain ⟨mT, t, hmT, ht0⟩ : ∃ mT t, ts.length = mT + 1 ∧ ts[mT]? = some t := by
      have h0 := HO.out.t hiT
      have h3 : 0 < ts.length := by
        have := List.length_pos_iff.2 h0
        rw [← HRD.out.tsq, List.length_map] at this
        exact this
      exact ⟨ts.length - 1, ts[ts.length - 1], by omega, List.getElem?_eq_getElem (by omega)⟩
    obtain ⟨gT, cT, hvT, bT, lT, kT, cT0, zT⟩ := HRD.out.tableAt ht0
    subst hvT
    rw [hmT] at r2 HRD HH kT
    have hcT := HRD.out.cs t (List.mem_of_getElem? ht0)
    obtain ⟨aoc, cc, hcv⟩ := hcT.form
    obtain ⟨nc, hnc⟩ : ∃ n, n = t.cs.length := ⟨_, rfl⟩
    rw [← hnc] at hcv
    have HNC := hid hnc
    have hncl := hcb t.cs (by
      have hmem : (t.cs, t.df) ∈ x.tb := by rw [← HRD.out.tsq]; exact List.mem_map.2 ⟨t, List.mem_of_getElem? ht0, rfl⟩
      exact ⟨t.df, hmem⟩)
    rw [← hnc] at hncl
    have hfl := Hf.out.t
    rw [← HRD.out.tsq, List.length_map, hmT] at hfl
    have hxm : x.tb.length = mT + 1 := by rw [← HRD.out.tsq, List.length_map, hmT]
    have hxt : x.tb[mT]? = some (t.cs, t.df) := by rw [← HRD.out.tsq, List.getElem?_map, ht0]; rfl
    have HRS := hid (show roS x num 29 wt = { x with tb := x.tb.set mT (t.cs ++ [⟨true, I.2.1, I.2.2.1, I.2.2.2.1⟩], t.df) } by rw [HRS0.out, modify_last' x.tb mT _ _ hxm hxt])
    have HTM := hid ht0
    have HBT := hid bT
    have HLT := hid (show gT < w.heap.size from (HH.out.t.blk (show Blk (.slice (some ⟨gT, 0, none⟩) (mT + 1) cT) gT from rfl)).2)
    have HQ := hid (show ∀ q, Blk (.slice aoc nc cc) q → q < w.heap.size from fun q e => ((HH.out.cs t (List.mem_of_getElem? ht0)).blk (by rw [hcv]; exact e)).2)
    have HDT := hid (show Dj (.slice (some ⟨gT, 0, none⟩) (mT + 1) cT) (.slice aoc nc cc) from by have := (HRD.out.parts.2.1 t (List.mem_of_getElem? ht0)).2.2; rwa [hcv] at this)
    rw [hcv] at cT0
    have hwm : IntKind.i64.wrap ((mT : Nat) : Int) = ((mT : Nat) : Int) := IntWalk.i64_in _ (by omega)
    have m0 : (0 : Int) ≤ ((mT : Nat) : Int) := by omega
    have m1 : ((mT : Nat) : Int) < ((mT : Nat) : Int) + 1 := by omega
    have HCV := hid hcv
    clear hnc hcT hcv hxm hxt zT hmT
    go_wp2_with fail
    go_quiet (fail)
    go_wp2_with fail
    have KW := hid (show Gr wc (wc.drewN nq) from Ch.drewN (Gr.refl wc) nq)
    generalize wc.drewN nq = W at KW ⊢
    have HWW := hid (Gr.trans (Gr.trans HGV.out HGC.out) KW.out)
    have RW := hid (HRD.out.gr KW.out)
    have HOC := hid (show Ow eC 4 46 base W (.slice aoc nc cc) t.cs from by have := RW.out.cs t (List.mem_of_getElem? HTM.out); rwa [HCV.out] at this)
    have e3 : W.cell? ⟨w.heap.size, 3, none⟩ = some (.int .i64 29) := (Ch.cell KW.out bl (noB _)).trans b3
    have e4 : W.cell? ⟨kb, 1, none⟩ = some (.int .i64 I.2.1) := (Ch.cell KW.out il (noB _)).trans i1
    have e5 : W.cell? ⟨kb, 2, none⟩ = some (.int .i64 I.2.2.1) := (Ch.cell KW.out il (noB _)).trans i2
    have e6 : W.cell? ⟨kb, 3, none⟩ = some (.int .i64 I.2.2.2.1) := (Ch.cell KW.out il (noB _)).trans i3
    have lBW : w.heap.size < W.heap.size := Nat.lt_of_lt_of_le bl KW.out.size
    have lKW : kb < W.heap.size := Nat.lt_of_lt_of_le il KW.out.size
    have lTW : gT < W.heap.size := Nat.lt_of_lt_of_le lT KW.out.size
    have cTW : W.cell? ⟨gT, mT * 2, none⟩ = some (.slice aoc nc cc) := (Ch.cell KW.out lT (noB _)).trans cT0
    obtain ⟨gcs, HTB⟩ : ∃ cur, Hid (W.heap[gT]? = some (.cells cur 44 (0, 0))) := by
      rcases RW.out.t.2 with ⟨h9, _⟩ | ⟨g9, cap9, cur9, h9, _, h10, _⟩
      · cases h9
      · injection h9 with q1 q2 q3
        injection q1 with q1
        injection q1 with q1
        subst q1
        exact ⟨cur9, h10⟩
    have HTC := hid (show gcs[mT * 2]? = some (.slice aoc nc cc) from by rw [← cell_of HTB.out]; exact cTW)
    clear b0 b1 b2 b3 b4 bl i0 i1 i2 i3 i4 il r0 r1 r2 r3 r4 r5 rl hbx3 lT cT0
    have hS0 : (fun w' => w'.cell? ⟨w.heap.size, 3, none⟩ = some (.int .i64 29) ∧ w'.cell? ⟨kb, 1, none⟩ = some (.int .i64 I.2.1) ∧ w'.cell? ⟨kb, 2, none⟩ = some (.int .i64 I.2.2.1) ∧ w'.cell? ⟨kb, 3, none⟩ = some (.int .i64 I.2.2.2.1) ∧ w.heap.size < w'.heap.size ∧ kb < w'.heap.size) W.drew := ⟨e3, e4, e5, e6, lBW, lKW⟩
    refine wp_region_held_drew (S := fun w' => w'.cell? ⟨w.heap.size, 3, none⟩ = some (.int .i64 29) ∧ w'.cell? ⟨kb, 1, none⟩ = some (.int .i64 I.2.1) ∧ w'.cell? ⟨kb, 2, none⟩ = some (.int .i64 I.2.2.1) ∧ w'.cell? ⟨kb, 3, none⟩ = some (.int .i64 I.2.2.2.1) ∧ w.heap.size < w'.heap.size ∧ kb < w'.heap.size) (by kernel_rfl) (by exact hS0) (fun hSx => ?_)
    clear hSx
    refine takeS_on (i := 0) 48 (v := ?v190) rfl rfl (by kernel_rfl) (by kernel_rfl) (by kernel_rfl) (fun _ _ _ h => h) (by kernel_rfl) ?hy190 (by exact hS0) ?_
    case hy190 => (intro w' hSw; go_simp; try (with_reducible rfl))
    simp only [Act.put, List.setIfInBounds_toArray, List.set_cons_zero, List.set_cons_succ]
    refine takeS_on (i := 1) 49 (v := ?v191) rfl rfl (by kernel_rfl) (by kernel_rfl) (by kernel_rfl) (fun _ _ _ h => h) (by kernel_rfl) ?hy191 (by exact hS0) ?_
    case hy191 => (intro w' hSw; go_simp; try (with_reducible rfl))
    simp only [Act.put, List.setIfInBounds_toArray, List.set_cons_zero, List.set_cons_succ]
    refine takeS_on (i := 2) 50 (v := ?v192) rfl rfl (by kernel_rfl) (by kernel_rfl) (by kernel_rfl) (fun _ _ _ h => h) (by kernel_rfl) ?hy192 (by exact hS0) ?_
    case hy192 => (intro w' hSw; go_simp; try (with_reducible rfl))
    simp only [Act.put, List.setIfInBounds_toArray, List.set_cons_zero, List.set_cons_succ]
    refine takeS_on (i := 3) 51 (v := ?v193) rfl rfl (by kernel_rfl) (by kernel_rfl) (by kernel_rfl) (fun _ _ _ h => h) (by kernel_rfl) ?hy193 (by exact hS0) ?_
    case hy193 => (intro w' hSw; go_simp; try (with_reducible rfl))
    simp only [Act.put, List.setIfInBounds_toArray, List.set_cons_zero, List.set_cons_succ]
    refine takeS_on (i := 5) 53 (v := ?v194) rfl rfl (by kernel_rfl) (by kernel_rfl) (by kernel_rfl) (fun _ _ _ h => h) (by kernel_rfl) ?hy194 (by exact hS0) ?_
    case hy194 => (intro w' hSw; go_simp; try (with_reducible rfl))
    simp only [Act.put, List.setIfInBounds_toArray, List.set_cons_zero, List.set_cons_succ]
    refine takeS_on (i := 6) 54 (v := ?v195) rfl rfl (by kernel_rfl) (by kernel_rfl) (by kernel_rfl) (fun _ _ _ h => h) (by kernel_rfl) ?hy195 (by exact hS0) ?_
    case hy195 => (intro w' hSw; go_simp; try (with_reducible rfl))
    simp only [Act.put, List.setIfInBounds_toArray, List.set_cons_zero, List.set_cons_succ]
    refine takeS_on (i := 7) 55 (v := ?v196) rfl rfl (by kernel_rfl) (by kernel_rfl) (by kernel_rfl) (fun _ _ _ h => h) (by kernel_rfl) ?hy196 (by exact hS0) ?_
    case hy196 => (intro w' hSw; go_simp; try (with_reducible rfl))
    simp only [Act.put, List.setIfInBounds_toArray, List.set_cons_zero, List.set_cons_succ]
    refine takeS_on (i := 8) 56 (v := ?v197) rfl rfl (by kernel_rfl) (by kernel_rfl) (by kernel_rfl) (fun _ _ _ h => h) (by kernel_rfl) ?hy197 (by exact hS0) ?_
    case hy197 => (intro w' hSw; go_simp; try (with_reducible rfl))
    simp only [Act.put, List.setIfInBounds_toArray, List.set_cons_zero, List.set_cons_succ]
    refine takeS_on (i := 9) 57 (v := ?v198) rfl rfl (by kernel_rfl) (by kernel_rfl) (by kernel_rfl) (fun _ _ _ h => h) (by kernel_rfl) ?hy198 (by exact hS0) ?_
    case hy198 => (intro w' hSw; go_simp; try (with_reducible rfl))
    simp only [Act.put, List.setIfInBounds_toArray, List.set_cons_zero, List.set_cons_succ]
    refine takeS_on (i := 10) 58 (v := ?v199) rfl rfl (by kernel_rfl) (by kernel_rfl) (by kernel_rfl) (fun _ _ _ h => h) (by kernel_rfl) ?hy199 (by exact hS0) ?_
    case hy199 => (intro w' hSw; go_simp; try (with_reducible rfl))
    simp only [Act.put, List.setIfInBounds_toArray, List.set_cons_zero, List.set_cons_succ]
    refine takeS_on (i := 11) 59 (v := ?v200) rfl rfl (by kernel_rfl) (by kernel_rfl) (by kernel_rfl) (fun _ _ _ h => h) (by kernel_rfl) ?hy200 (by exact hS0) ?_
    case hy200 => (intro w' hSw; go_simp; try (with_reducible rfl))
    simp only [Act.put, List.setIfInBounds_toArray, List.set_cons_zero, List.set_cons_succ]
    refine takeS_on (i := 12) 60 (v := ?v201) rfl rfl (by kernel_rfl) (by kernel_rfl) (by kernel_rfl) (fun _ _ _ h => h) (by kernel_rfl) ?hy201 (by exact hS0) ?_
    case hy201 => (intro w' hSw; go_simp; try (with_reducible rfl))
    simp only [Act.put, List.setIfInBounds_toArray, List.set_cons_zero, List.set_cons_succ]
    refine takeS_on (i := 13) 61 (v := ?v202) rfl rfl (by kernel_rfl) (by kernel_rfl) (by kernel_rfl) (fun _ _ _ h => h) (by kernel_rfl) ?hy202 (by exact hS0) ?_
    case hy202 => (intro w' hSw; go_simp; try (with_reducible rfl))
    simp only [Act.put, List.setIfInBounds_toArray, List.set_cons_zero, List.set_cons_succ]
    refine takeS_on (i := 14) 62 (v := ?v203) rfl rfl (by kernel_rfl) (by kernel_rfl) (by kernel_rfl) (fun _ _ _ h => h) (by kernel_rfl) ?hy203 (by exact hS0) ?_
    case hy203 => (intro w' hSw; go_simp; try (with_reducible rfl))
    simp only [Act.put, List.setIfInBounds_toArray, List.set_cons_zero, List.set_cons_succ]
    refine wpAnyH_ready (rs := [4, 15]) (by kernel_rfl) (by simp) (AllReadyH.cons rfl (fun K hK => ?_) (AllReadyH.cons rfl (fun K hK => ?_) AllReadyH.nil))
    · go_simp
      refine hK.out _ _ (by exact hS0) (fun hSx => ?_)
      clear hSx hK K
      refine wpAnyH_ready (rs := [15]) (by kernel_rfl) (by simp) (AllReadyH.cons rfl (fun K hK => ?_) AllReadyH.nil)
      go_simp
      have kc : Gr W (W.alloc (.cells #[.bool true, .int .i64 I.2.1, .int .i64 I.2.2.1, .int .i64 I.2.2.2.1] 46)).drew := Ch.drew (Ch.alloc (Gr.refl W) _)
      have hS_c : (fun w' => w'.cell? ⟨w.heap.size, 3, none⟩ = some (.int .i64 29) ∧ w'.cell? ⟨kb, 1, none⟩ = some (.int .i64 I.2.1) ∧ w'.cell? ⟨kb, 2, none⟩ = some (.int .i64 I.2.2.1) ∧ w'.cell? ⟨kb, 3, none⟩ = some (.int .i64 I.2.2.2.1) ∧ w.heap.size < w'.heap.size ∧ kb < w'.heap.size) (W.alloc (.cells #[.bool true, .int .i64 I.2.1, .int .i64 I.2.2.1, .int .i64 I.2.2.2.1] 46)).drew := ⟨(Ch.cell kc lBW (noB _)).trans e3, (Ch.cell kc lKW (noB _)).trans e4, (Ch.cell kc lKW (noB _)).trans e5, (Ch.cell kc lKW (noB _)).trans e6, Nat.lt_of_lt_of_le lBW (Ch.size kc), Nat.lt_of_lt_of_le lKW (Ch.size kc)⟩
      refine hK.out _ _ (by exact hS_c) (fun hSx => ?_)
      clear hSx hK K
      refine wpAnyH_ready (rs := [16]) (by kernel_rfl) (by simp) (AllReadyH.cons rfl (fun K hK => ?_) AllReadyH.nil)
      refine step_append_ow eC_len rfl (.tmp 52) (.tmp 63) 42 46 32 (.agg #[.bool false, .int .i64 0, .int .i64 0, .int .i64 0]) Tryz.underlying42 case_info rfl (by omega) rfl base (.slice aoc nc cc) t.cs (by simp [Act.eval]) (HOC.out.alloc _) _ _ [⟨true, I.2.1, I.2.2.1, I.2.2.2.1⟩] (by simp [Act.eval]) (Ls.single W _ _ _ rfl) eC_one (nc + 1) (by rw [HNC.out]; rfl) (by omega) (by unfold maxLen; omega) (by have := RW.out.ltB; simp; omega) (t.cs ++ [⟨true, I.2.1, I.2.2.1, I.2.2.2.1⟩]) rfl ?_
      intro ao6 cap6 w6 ow6 cw6 bl6
      have oq : ∀ q, Blk (.slice aoc nc cc) q → q < w.heap.size := fun q e => HQ.out q e
      have nB : ¬ Blk (.slice aoc nc cc) w.heap.size := fun e => by have := oq _ e; omega
      have nK : ¬ Blk (.slice aoc nc cc) kb := fun e => by have := oq _ e; have := HKB.out; have := HSV.out; omega
      have hS_d : (fun w' => w'.cell? ⟨w.heap.size, 3, none⟩ = some (.int .i64 29) ∧ w'.cell? ⟨kb, 1, none⟩ = some (.int .i64 I.2.1) ∧ w'.cell? ⟨kb, 2, none⟩ = some (.int .i64 I.2.2.1) ∧ w'.cell? ⟨kb, 3, none⟩ = some (.int .i64 I.2.2.2.1) ∧ w.heap.size < w'.heap.size ∧ kb < w'.heap.size) w6 := ⟨(Ch.cell cw6 hS_c.2.2.2.2.1 nB).trans hS_c.1, (Ch.cell cw6 hS_c.2.2.2.2.2 nK).trans hS_c.2.1, (Ch.cell cw6 hS_c.2.2.2.2.2 nK).trans hS_c.2.2.1, (Ch.cell cw6 hS_c.2.2.2.2.2 nK).trans hS_c.2.2.2.1, Nat.lt_of_lt_of_le hS_c.2.2.2.2.1 cw6.size, Nat.lt_of_lt_of_le hS_c.2.2.2.2.2 cw6.size⟩
      have gT6 := (cw6.block gT (Nat.lt_of_lt_of_le lTW (by simp)) (fun e => HDT.out gT rfl e)).trans (al_blk HTB.out _)
      have c6 : w6.cell? ⟨gT, mT * 2, none⟩ = some (.slice aoc nc cc) := (cell_of gT6 _).trans HTC.out
      have z6 := frozen_of gT6 (mT * 2)
      have HO6 := hid ow6
      have HC6 := hid cw6
      have HB6 := hid bl6
      clear ow6 cw6 bl6 gT6
      refine hK.out _ _ (by exact hS_d) (fun hSx => ?_)
      change wpAnyH _ _ _ _ _ _ _ (Act.put _ (some 64) _) _
      simp only [Act.put, List.setIfInBounds_toArray, List.set_cons_zero, List.set_cons_succ]
      clear hSx hK K
      refine takeS_on (i := 17) 65 (v := ?v204) rfl rfl (by kernel_rfl) (by kernel_rfl) (by kernel_rfl) (fun _ _ _ h => h) (by kernel_rfl) ?hy204 (by exact hS_d) ?_
      case hy204 => (intro w' hSw; go_simp; try (with_reducible rfl))
      simp only [Act.put, List.setIfInBounds_toArray, List.set_cons_zero, List.set_cons_succ]
      refine takeS_on (i := 18) 66 (v := ?v205) rfl rfl (by kernel_rfl) (by kernel_rfl) (by kernel_rfl) (fun _ _ _ h => h) (by kernel_rfl) ?hy205 (by exact hS_d) ?_
      case hy205 => (intro w' hSw; go_simp; try (with_reducible rfl))
      simp only [Act.put, List.setIfInBounds_toArray, List.set_cons_zero, List.set_cons_succ]
      refine wpAnyH_ready (rs := [19]) (by kernel_rfl) (by simp) (AllReadyH.cons rfl (fun K hK => ?_) AllReadyH.nil)
      go_simp
      have k7 : Ch (Only gT) w6 (w6.setCell ⟨gT, mT * 2, none⟩ (.slice ao6 (nc + 1) cap6)) := (Ch.refl _ _).own _ _
      have g1 : ¬ Only gT w.heap.size := fun e => by have e1 : w.heap.size = gT := e; have := HLT.out; omega
      have g2 : ¬ Only gT kb := fun e => by have e1 : kb = gT := e; have := HLT.out; have := HKB.out; have := HSV.out; omega
      have hS_e : (fun w' => w'.cell? ⟨w.heap.size, 3, none⟩ = some (.int .i64 29) ∧ w'.cell? ⟨kb, 1, none⟩ = some (.int .i64 I.2.1) ∧ w'.cell? ⟨kb, 2, none⟩ = some (.int .i64 I.2.2.1) ∧ w'.cell? ⟨kb, 3, none⟩ = some (.int .i64 I.2.2.2.1) ∧ w.heap.size < w'.heap.size ∧ kb < w'.heap.size) (w6.setCell ⟨gT, mT * 2, none⟩ (.slice ao6 (nc + 1) cap6)) := ⟨(Ch.cell k7 hS_d.2.2.2.2.1 g1).trans hS_d.1, (Ch.cell k7 hS_d.2.2.2.2.2 g2).trans hS_d.2.1, (Ch.cell k7 hS_d.2.2.2.2.2 g2).trans hS_d.2.2.1, (Ch.cell k7 hS_d.2.2.2.2.2 g2).trans hS_d.2.2.2.1, Nat.lt_of_lt_of_le hS_d.2.2.2.2.1 k7.size, Nat.lt_of_lt_of_le hS_d.2.2.2.2.2 k7.size⟩
      refine hK.out _ _ (by exact hS_e) (fun hSx => ?_)
      clear hSx hK K
      refine wpAnyH_done (by kernel_rfl) ?_ _
      clear hS0 hS_c hS_d hS_e c6 z6
      have RD7 := RW.out.newC HTM.out rfl (Ch.drew (Ch.alloc (Gr.refl W) _)) HO6.out (by rw [HCV.out]; exact HC6.out) (by rw [HCV.out]; exact HB6.out)
      have C7 : Ch (SR base R M) w (w6.setCell ⟨gT, mT * 2, none⟩ (.slice ao6 (nc + 1) cap6)) := ((Ch.trans (Ch.any HWW.out) (Ch.drew (Ch.alloc (Gr.refl W) _)) (fun _ e => e.elim)).trans HC6.out (fun q e => .inl (.inr (.inr (HOC.out.blk e).1)))).setCell (p := ⟨gT, mT * 2, none⟩) (.inl (.inr (.inr HBT.out))) _
      generalize w6.setCell ⟨gT, mT * 2, none⟩ (.slice ao6 (nc + 1) cap6) = W7 at RD7 C7 ⊢
      have R7 := hid RD7
      have K7 := hid C7
      clear RD7 C7
      go_wp2
      go_ret
      refine ⟨rfl, fun _ => ?_, K7.out, fun h => (h rfl).elim⟩
      rw [HRS.out]
      exact R7.out.red
    · go_simp
      have kc : Gr W (W.alloc (.cells #[.bool true, .int .i64 I.2.1, .int .i64 I.2.2.1, .int .i64 I.2.2.2.1] 46)).drew := Ch.drew (Ch.alloc (Gr.refl W) _)
      have hS_c : (fun w' => w'.cell? ⟨w.heap.size, 3, none⟩ = some (.int .i64 29) ∧ w'.cell? ⟨kb, 1, none⟩ = some (.int .i64 I.2.1) ∧ w'.cell? ⟨kb, 2, none⟩ = some (.int .i64 I.2.2.1) ∧ w'.cell? ⟨kb, 3, none⟩ = some (.int .i64 I.2.2.2.1) ∧ w.heap.size < w'.heap.size ∧ kb < w'.heap.size) (W.alloc (.cells #[.bool true, .int .i64 I.2.1, .int .i64 I.2.2.1, .int .i64 I.2.2.2.1] 46)).drew := ⟨(Ch.cell kc lBW (noB _)).trans e3, (Ch.cell kc lKW (noB _)).trans e4, (Ch.cell kc lKW (noB _)).trans e5, (Ch.cell kc lKW (noB _)).trans e6, Nat.lt_of_lt_of_le lBW (Ch.size kc), Nat.lt_of_lt_of_le lKW (Ch.size kc)⟩
      refine hK.out _ _ (by exact hS_c) (fun hSx => ?_)
      clear hSx hK K
      refine wpAnyH_ready (rs := [4]) (by kernel_rfl) (by simp) (AllReadyH.cons rfl (fun K hK => ?_) AllReadyH.nil)
      go_simp
      refine hK.out _ _ (by exact hS_c) (fun hSx => ?_)
      clear hSx hK K
      refine wpAnyH_ready (rs := [16]) (by kernel_rfl) (by simp) (AllReadyH.cons rfl (fun K hK => ?_) AllReadyH.nil)
      refine step_append_ow eC_len rfl (.tmp 52) (.tmp 63) 42 46 32 (.agg #[.bool false, .int .i64 0, .int .i64 0, .int .i64 0]) Tryz.underlying42 case_info rfl (by omega) rfl base (.slice aoc nc cc) t.cs (by simp [Act.eval]) (HOC.out.alloc _) _ _ [⟨true, I.2.1, I.2.2.1, I.2.2.2.1⟩] (by simp [Act.eval]) (Ls.single W _ _ _ rfl) eC_one (nc + 1) (by rw [HNC.out]; rfl) (by omega) (by unfold maxLen; omega) (by have := RW.out.ltB; simp; omega) (t.cs ++ [⟨true, I.2.1, I.2.2.1, I.2.2.2.1⟩]) rfl ?_
      intro ao6 cap6 w6 ow6 cw6 bl6
      have oq : ∀ q, Blk (.slice aoc nc cc) q → q < w.heap.size := fun q e => HQ.out q e
      have nB : ¬ Blk (.slice aoc nc cc) w.heap.size := fun e => by have := oq _ e; omega
      have nK : ¬ Blk (.slice aoc nc cc) kb := fun e => by have := oq _ e; have := HKB.out; have := HSV.out; omega
      have hS_d : (fun w' => w'.cell? ⟨w.heap.size, 3, none⟩ = some (.int .i64 29) ∧ w'.cell? ⟨kb, 1, none⟩ = some (.int .i64 I.2.1) ∧ w'.cell? ⟨kb, 2, none⟩ = some (.int .i64 I.2.2.1) ∧ w'.cell? ⟨kb, 3, none⟩ = some (.int .i64 I.2.2.2.1) ∧ w.heap.size < w'.heap.size ∧ kb < w'.heap.size) w6 := ⟨(Ch.cell cw6 hS_c.2.2.2.2.1 nB).trans hS_c.1, (Ch.cell cw6 hS_c.2.2.2.2.2 nK).trans hS_c.2.1, (Ch.cell cw6 hS_c.2.2.2.2.2 nK).trans hS_c.2.2.1, (Ch.cell cw6 hS_c.2.2.2.2.2 nK).trans hS_c.2.2.2.1, Nat.lt_of_lt_of_le hS_c.2.2.2.2.1 cw6.size, Nat.lt_of_lt_of_le hS_c.2.2.2.2.2 cw6.size⟩
      have gT6 := (cw6.block gT (Nat.lt_of_lt_of_le lTW (by simp)) (fun e => HDT.out gT rfl e)).trans (al_blk HTB.out _)
      have c6 : w6.cell? ⟨gT, mT * 2, none⟩ = some (.slice aoc nc cc) := (cell_of gT6 _).trans HTC.out
      have z6 := frozen_of gT6 (mT * 2)
      have HO6 := hid ow6
      have HC6 := hid cw6
      have HB6 := hid bl6
      clear ow6 cw6 bl6 gT6
      refine hK.out _ _ (by exact hS_d) (fun hSx => ?_)
      change wpAnyH _ _ _ _ _ _ _ (Act.put _ (some 64) _) _
      simp only [Act.put, List.setIfInBounds_toArray, List.set_cons_zero, List.set_cons_succ]
      clear hSx hK K
      refine takeS_on (i := 17) 65 (v := ?v206) rfl rfl (by kernel_rfl) (by kernel_rfl) (by kernel_rfl) (fun _ _ _ h => h) (by kernel_rfl) ?hy206 (by exact hS_d) ?_
      case hy206 => (intro w' hSw; go_simp; try (with_reducible rfl))
      simp only [Act.put, List.setIfInBounds_toArray, List.set_cons_zero, List.set_cons_succ]
      refine takeS_on (i := 18) 66 (v := ?v207) rfl rfl (by kernel_rfl) (by kernel_rfl) (by kernel_rfl) (fun _ _ _ h => h) (by kernel_rfl) ?hy207 (by exact hS_d) ?_
      case hy207 => (intro w' hSw; go_simp; try (with_reducible rfl))
      simp only [Act.put, List.setIfInBounds_toArray, List.set_cons_zero, List.set_cons_succ]
      refine wpAnyH_ready (rs := [19]) (by kernel_rfl) (by simp) (AllReadyH.cons rfl (fun K hK => ?_) AllReadyH.nil)
      go_simp
      have k7 : Ch (Only gT) w6 (w6.setCell ⟨gT, mT * 2, none⟩ (.slice ao6 (nc + 1) cap6)) := (Ch.refl _ _).own _ _
      have g1 : ¬ Only gT w.heap.size := fun e => by have e1 : w.heap.size = gT := e; have := HLT.out; omega
      have g2 : ¬ Only gT kb := fun e => by have e1 : kb = gT := e; have := HLT.out; have := HKB.out; have := HSV.out; omega
      have hS_e : (fun w' => w'.cell? ⟨w.heap.size, 3, none⟩ = some (.int .i64 29) ∧ w'.cell? ⟨kb, 1, none⟩ = some (.int .i64 I.2.1) ∧ w'.cell? ⟨kb, 2, none⟩ = some (.int .i64 I.2.2.1) ∧ w'.cell? ⟨kb, 3, none⟩ = some (.int .i64 I.2.2.2.1) ∧ w.heap.size < w'.heap.size ∧ kb < w'.heap.size) (w6.setCell ⟨gT, mT * 2, none⟩ (.slice ao6 (nc + 1) cap6)) := ⟨(Ch.cell k7 hS_d.2.2.2.2.1 g1).trans hS_d.1, (Ch.cell k7 hS_d.2.2.2.2.2 g2).trans hS_d.2.1, (Ch.cell k7 hS_d.2.2.2.2.2 g2).trans hS_d.2.2.1, (Ch.cell k7 hS_d.2.2.2.2.2 g2).trans hS_d.2.2.2.1, Nat.lt_of_lt_of_le hS_d.2.2.2.2.1 k7.size, Nat.lt_of_lt_of_le hS_d.2.2.2.2.2 k7.size⟩
      refine hK.out _ _ (by exact hS_e) (fun hSx => ?_)
      clear hSx hK K
      refine wpAnyH_done (by kernel_rfl) ?_ _
      clear hS0 hS_c hS_d hS_e c6 z6
      have RD7 := RW.out.newC HTM.out rfl (Ch.drew (Ch.alloc (Gr.refl W) _)) HO6.out (by rw [HCV.out]; exact HC6.out) (by rw [HCV.out]; exact HB6.out)
      have C7 : Ch (SR base R M) w (w6.setCell ⟨gT, mT * 2, none⟩ (.slice ao6 (nc + 1) cap6)) := ((Ch.trans (Ch.any HWW.out) (Ch.drew (Ch.alloc (Gr.refl W) _)) (fun _ e => e.elim)).trans HC6.out (fun q e => .inl (.inr (.inr (HOC.out.blk e).1)))).setCell (p := ⟨gT, mT * 2, none⟩) (.inl (.inr (.inr HBT.out))) _
      generalize w6.setCell ⟨gT, mT * 2, none⟩ (.slice ao6 (nc + 1) cap6) = W7 at RD7 C7 ⊢
      have R7 := hid RD7
      have K7 := hid C7
      clear RD7 C7
      go_wp2
      go_ret
      refine ⟨rfl, fun _ => ?_, K7.out, fun h => (h rfl).elim⟩
      rw [HRS.out]
      exact R7.out.red

set_option maxHeartbeats 2000000 in
set_option maxRecDepth 20000 in
theorem readOp_recv (base R M : Nat) (w : World) (x : Rs) (num : Nat) (ws : List ByteArray) (wv : Value) (kind : Int) (op : Nat) (leads : Bool) (s : ByteArray) (wt : List ByteArray) (hws : ws = s :: wt) (h1 : 1 ≤ op) (h2 : op < 59) (hl : Ls eS (fun g => ¬ SR base R M g) w wv ws) (hz : Sml ws) (hf : Few x) (hok : Rok x) (hg : Glb w) (h : Red base R M w x) (hE : fE op wt = 0) (hiT : x.inT = true) (hop : op = 30) (hcb : ∀ cs, (∃ d, (cs, d) ∈ x.tb) → cs.length ≤ 4294967296) :
    Calls Tryz.prog 53 #[.pointer (some ⟨R, 0, none⟩), .agg #[.int .i64 (num : Nat), wv, .int .i64 kind, .int .i64 (op : Nat), .bool leads]] w (Dn base R M w (roE x op wt) (roS x num op wt)) := by
  obtain ⟨va, vf, vt, ts, h⟩ := h
  subst hws
  obtain ⟨g, o, cap, rfl, hP, hgl, hcap, hc⟩ := hl.get eS_len (i := 0) (a := s) rfl
  clear hc
  obtain ⟨n, hn⟩ : ∃ n, n = (s :: wt).length := ⟨_, rfl⟩
  have hn1 : 1 ≤ n := by rw [hn]; simp
  rw [← hn] at hcap hl ⊢
  have HN := hid hn
  clear hn
  obtain ⟨o', hsl, hlt⟩ := slice_tail g o n cap hn1 hcap
  have hlt1 := hlt _ _ _ _ hl
  have HFD := hid (fun (W : World) (q : Gr w W) => fields_any _ (.slice (some ⟨g, o', none⟩) (n - 1) (cap - 1)) wt op h1 h2 W (hlt1.gr q) (fun y hy => hz y (by simp [hy])) (hg.gr q))
  have HH := hid h
  have Hf := hid hf
  have HO := hid hok
  have HG := hid hg
  obtain ⟨I, hI⟩ : ∃ I, I = fI op wt := ⟨_, rfl⟩
  obtain ⟨A, hA⟩ : ∃ A, A = fA op wt := ⟨_, rfl⟩
  obtain ⟨E, hE⟩ : ∃ E, E = fE op wt := ⟨_, rfl⟩
  rw [← hI, ← hA, ← hE] at HFD
  unfold iV at HFD
  have HI := hid hI
  have HA := hid hA
  have HE := hid hE
  have hBx := (MapKept.heap_alloc w (.cells #[.int .i64 (num : Nat), .slice (some ⟨g, o, none⟩) n cap, .int .i64 kind, .int .i64 (op : Nat), .bool leads] 56)).1
  have hgV := Gr.alloc (Gr.refl w) #[.int .i64 (num : Nat), .slice (some ⟨g, o, none⟩) n cap, .int .i64 kind, .int .i64 (op : Nat), .bool leads] 56
  have hszV : (w.alloc (.cells #[.int .i64 (num : Nat), .slice (some ⟨g, o, none⟩) n cap, .int .i64 kind, .int .i64 (op : Nat), .bool leads] 56)).heap.size = w.heap.size + 1 := by simp
  clear hl hz hlt hlt1 hI hA hE h hf hok hg
  rw [← HE.out] at hE
  have hC : roC x op = true := by unfold roC; rw [hiT]; simp [hop]
  have eE : roE x op wt = 0 := by unfold roE; rw [← HE.out, if_pos hE, hC]; rfl
  rw [eE]
  have HRS0 := hid (show roS x num op wt = { x with tb := x.tb.modify (x.tb.length - 1) (fun t => (t.1 ++ [⟨false, I.2.1, I.2.2.1, I.2.2.2.1⟩], t.2)) } by unfold roS roK; rw [hC, HI.out]; simp [hop])
  have HOP := hid hop
  have HE0 := hid hE
  clear eE hC hE hop
  go_enter Tryz.func53, Tryz.ntmps53
  go_upto_region 1 with fail
  generalize w.alloc (.cells #[.int .i64 (num : Nat), .slice (some ⟨g, o, none⟩) n cap, .int .i64 kind, .int .i64 (op : Nat), .bool leads] 56) = V at hBx hgV hszV ⊢
  have HBx := hid hBx
  have HGV := hid hgV
  have HSV := hid hszV
  have x3 : V.cell? ⟨w.heap.size, 3, none⟩ = some (.int .i64 (op : Nat)) := (cell_of hBx 3).trans rfl
  have x1 : V.cell? ⟨w.heap.size, 1, none⟩ = some (.slice (some ⟨g, o, none⟩) n cap) := (cell_of hBx 1).trans rfl
  have lB : w.heap.size < V.heap.size := by omega
  clear hBx hgV hszV
  go_cut [5, 6, 7] (fun p a e wc => Ro1 V I A E p a e wc)
  case first =>
    have hS0 : (fun w' => w'.cell? ⟨w.heap.size, 3, none⟩ = some (.int .i64 (op : Nat)) ∧ w'.cell? ⟨w.heap.size, 1, none⟩ = some (.slice (some ⟨g, o, none⟩) n cap) ∧ w.heap.size < w'.heap.size) V.drew := ⟨x3, x1, lB⟩
    refine wp_region_held_drew (S := fun w' => w'.cell? ⟨w.heap.size, 3, none⟩ = some (.int .i64 (op : Nat)) ∧ w'.cell? ⟨w.heap.size, 1, none⟩ = some (.slice (some ⟨g, o, none⟩) n cap) ∧ w.heap.size < w'.heap.size) (by kernel_rfl) (by exact hS0) (fun hSx => ?_)
    clear hSx
    refine takeS_on (i := 0) 11 (v := ?v243) rfl rfl (by kernel_rfl) (by kernel_rfl) (by kernel_rfl) (fun _ _ _ h => h) (by kernel_rfl) ?hy243 (by exact hS0) ?_
    case hy243 => (intro w' hSw; go_simp; try (with_reducible rfl))
    simp only [Act.put, List.setIfInBounds_toArray, List.set_cons_zero, List.set_cons_succ]
    refine takeS_on (i := 1) 12 (v := ?v244) rfl rfl (by kernel_rfl) (by kernel_rfl) (by kernel_rfl) (fun _ _ _ h => h) (by kernel_rfl) ?hy244 (by exact hS0) ?_
    case hy244 => (intro w' hSw; go_simp; try (with_reducible rfl))
    simp only [Act.put, List.setIfInBounds_toArray, List.set_cons_zero, List.set_cons_succ]
    refine takeS_on (i := 2) 13 (v := ?v245) rfl rfl (by kernel_rfl) (by kernel_rfl) (by kernel_rfl) (fun _ _ _ h => h) (by kernel_rfl) ?hy245 (by exact hS0) ?_
    case hy245 => (intro w' hSw; go_simp; try (with_reducible rfl))
    simp only [Act.put, List.setIfInBounds_toArray, List.set_cons_zero, List.set_cons_succ]
    refine takeS_on (i := 3) 14 (v := ?v246) rfl rfl (by kernel_rfl) (by kernel_rfl) (by kernel_rfl) (fun _ _ _ h => h) (by kernel_rfl) ?hy246 (by exact hS0) ?_
    case hy246 => (intro w' hSw; go_simp; try (with_reducible rfl))
    simp only [Act.put, List.setIfInBounds_toArray, List.set_cons_zero, List.set_cons_succ]
    refine takeS_on (i := 4) 15 (v := ?v247) rfl rfl (by kernel_rfl) (by kernel_rfl) (by kernel_rfl) (fun _ _ _ h => h) (by kernel_rfl) ?hy247 (by exact hS0) ?_
    case hy247 => (intro w' hSw; go_simp; try (with_reducible rfl))
    simp only [Act.put, List.setIfInBounds_toArray, List.set_cons_zero, List.set_cons_succ]
    refine wpAnyH_ready (rs := [5, 10]) (by kernel_rfl) (by simp) (AllReadyH.cons rfl (fun K hK => ?_) (AllReadyH.cons rfl (fun K hK => ?_) AllReadyH.nil))
    · go_simp
      refine (HFD.out _ (Gr.trans HGV.out (Ch.drew (Gr.refl V)))).mono ?_
      rintro e w3 ⟨rfl, g3⟩
      have k3 : Gr V w3 := Gr.trans (Ch.drew (Gr.refl V)) g3
      have hS_w3 : (fun w' => w'.cell? ⟨w.heap.size, 3, none⟩ = some (.int .i64 (op : Nat)) ∧ w'.cell? ⟨w.heap.size, 1, none⟩ = some (.slice (some ⟨g, o, none⟩) n cap) ∧ w.heap.size < w'.heap.size) w3 := ⟨(Ch.cell k3 lB (noB _)).trans x3, (Ch.cell k3 lB (noB _)).trans x1, Nat.lt_of_lt_of_le lB (Ch.size k3)⟩
      have K3 := hid k3
      clear k3 g3
      refine hK.out _ _ (by exact hS_w3) (fun hSx => ?_)
      clear hSx hK K
      refine takeS_on (i := 6) 10 (v := ?v248) rfl rfl (by kernel_rfl) (by kernel_rfl) (by kernel_rfl) (fun _ _ _ h => h) (by kernel_rfl) ?hy248 (by exact hS_w3) ?_
      case hy248 => (intro w' hSw; go_simp; try (with_reducible rfl))
      simp only [Act.put, List.setIfInBounds_toArray, List.set_cons_zero, List.set_cons_succ]
      refine takeS_on (i := 7) 17 (v := ?v249) rfl rfl (by kernel_rfl) (by kernel_rfl) (by kernel_rfl) (fun _ _ _ h => h) (by kernel_rfl) ?hy249 (by exact hS_w3) ?_
      case hy249 => (intro w' hSw; go_simp; try (with_reducible rfl))
      simp only [Act.put, List.setIfInBounds_toArray, List.set_cons_zero, List.set_cons_succ]
      refine takeS_on (i := 8) 18 (v := ?v250) rfl rfl (by kernel_rfl) (by kernel_rfl) (by kernel_rfl) (fun _ _ _ h => h) (by kernel_rfl) ?hy250 (by exact hS_w3) ?_
      case hy250 => (intro w' hSw; go_simp; try (with_reducible rfl))
      simp only [Act.put, List.setIfInBounds_toArray, List.set_cons_zero, List.set_cons_succ]
      refine takeS_on (i := 9) 19 (v := ?v251) rfl rfl (by kernel_rfl) (by kernel_rfl) (by kernel_rfl) (fun _ _ _ h => h) (by kernel_rfl) ?hy251 (by exact hS_w3) ?_
      case hy251 => (intro w' hSw; go_simp; try (with_reducible rfl))
      simp only [Act.put, List.setIfInBounds_toArray, List.set_cons_zero, List.set_cons_succ]
      refine wpAnyH_ready (rs := [10]) (by kernel_rfl) (by simp) (AllReadyH.cons rfl (fun K hK => ?_) AllReadyH.nil)
      go_simp
      have hS_a : (fun w' => w'.cell? ⟨w.heap.size, 3, none⟩ = some (.int .i64 (op : Nat)) ∧ w'.cell? ⟨w.heap.size, 1, none⟩ = some (.slice (some ⟨g, o, none⟩) n cap) ∧ w.heap.size < w'.heap.size) (w3.alloc (.cells #[.int .i64 0, .int .i64 0, .int .i64 0, .int .i64 0, .int .i64 0] 67)) := ⟨(Ch.cell (Ch.alloc K3.out _) lB (noB _)).trans x3, (Ch.cell (Ch.alloc K3.out _) lB (noB _)).trans x1, Nat.lt_of_lt_of_le lB (Ch.size (Ch.alloc K3.out (.cells #[.int .i64 0, .int .i64 0, .int .i64 0, .int .i64 0, .int .i64 0] 67)))⟩
      refine hK.out _ _ (by exact hS_a) (fun hSx => ?_)
      clear hSx hK K
      refine wpAnyH_ready (rs := [11]) (by kernel_rfl) (by simp) (AllReadyH.cons rfl (fun K hK => ?_) AllReadyH.nil)
      go_simp
      have hS_b : (fun w' => w'.cell? ⟨w.heap.size, 3, none⟩ = some (.int .i64 (op : Nat)) ∧ w'.cell? ⟨w.heap.size, 1, none⟩ = some (.slice (some ⟨g, o, none⟩) n cap) ∧ w.heap.size < w'.heap.size) (w3.alloc (.cells #[.int .i64 I.1, .int .i64 I.2.1, .int .i64 I.2.2.1, .int .i64 I.2.2.2.1, .int .i64 I.2.2.2.2] 67)) := ⟨(Ch.cell (Ch.alloc K3.out _) lB (noB _)).trans x3, (Ch.cell (Ch.alloc K3.out _) lB (noB _)).trans x1, Nat.lt_of_lt_of_le lB (Ch.size (Ch.alloc K3.out (.cells #[.int .i64 I.1, .int .i64 I.2.1, .int .i64 I.2.2.1, .int .i64 I.2.2.2.1, .int .i64 I.2.2.2.2] 67)))⟩
      refine hK.out _ _ (by exact hS_b) (fun hSx => ?_)
      clear hSx hK K
      refine takeS_on (i := 12) 6 (v := ?v252) rfl rfl (by kernel_rfl) (by kernel_rfl) (by kernel_rfl) (fun _ _ _ h => h) (by kernel_rfl) ?hy252 (by exact hS_b) ?_
      case hy252 => (intro w' hSw; go_simp; try (with_reducible rfl))
      simp only [Act.put, List.setIfInBounds_toArray, List.set_cons_zero, List.set_cons_succ]
      refine takeS_on (i := 13) 7 (v := ?v253) rfl rfl (by kernel_rfl) (by kernel_rfl) (by kernel_rfl) (fun _ _ _ h => h) (by kernel_rfl) ?hy253 (by exact hS_b) ?_
      case hy253 => (intro w' hSw; go_simp; try (with_reducible rfl))
      simp only [Act.put, List.setIfInBounds_toArray, List.set_cons_zero, List.set_cons_succ]
      refine wpAnyH_done (by kernel_rfl) ?_ _
      clear hS0 hS_w3 hS_a hS_b
      go_wp2_with fail
      go_meet
      exact ⟨w3.heap.size, rfl, rfl, rfl, K3.out.size, (MapKept.heap_alloc w3 _).1, Ch.alloc K3.out _⟩
    · go_simp
      have hS_a : (fun w' => w'.cell? ⟨w.heap.size, 3, none⟩ = some (.int .i64 (op : Nat)) ∧ w'.cell? ⟨w.heap.size, 1, none⟩ = some (.slice (some ⟨g, o, none⟩) n cap) ∧ w.heap.size < w'.heap.size) (V.alloc (.cells #[.int .i64 0, .int .i64 0, .int .i64 0, .int .i64 0, .int .i64 0] 67)).drew := ⟨(Ch.cell (Ch.drew (Ch.alloc (Gr.refl V) _)) lB (noB _)).trans x3, (Ch.cell (Ch.drew (Ch.alloc (Gr.refl V) _)) lB (noB _)).trans x1, Nat.lt_of_lt_of_le lB (Ch.size (Ch.drew (Ch.alloc (Gr.refl V) (.cells #[.int .i64 0, .int .i64 0, .int .i64 0, .int .i64 0, .int .i64 0] 67))))⟩
      refine hK.out _ _ (by exact hS_a) (fun hSx => ?_)
      clear hSx hK K
      refine wpAnyH_ready (rs := [5]) (by kernel_rfl) (by simp) (AllReadyH.cons rfl (fun K hK => ?_) AllReadyH.nil)
      go_simp
      refine (HFD.out _ (Gr.trans HGV.out (Ch.drew (Ch.alloc (Gr.refl V) _)))).mono ?_
      rintro e w3 ⟨rfl, g3⟩
      have hb3 : w3.heap[V.heap.size]? = some (.cells #[.int .i64 0, .int .i64 0, .int .i64 0, .int .i64 0, .int .i64 0] 67 (0, 0)) := gr_blk (w := (V.alloc (.cells #[.int .i64 0, .int .i64 0, .int .i64 0, .int .i64 0, .int .i64 0] 67)).drew) (MapKept.heap_alloc V (.cells #[.int .i64 0, .int .i64 0, .int .i64 0, .int .i64 0, .int .i64 0] 67)).1 g3
      have k3 : Gr V w3 := Gr.trans (Ch.drew (Ch.alloc (Gr.refl V) _)) g3
      have hS_w3 : (fun w' => w'.cell? ⟨w.heap.size, 3, none⟩ = some (.int .i64 (op : Nat)) ∧ w'.cell? ⟨w.heap.size, 1, none⟩ = some (.slice (some ⟨g, o, none⟩) n cap) ∧ w.heap.size < w'.heap.size) w3 := ⟨(Ch.cell k3 lB (noB _)).trans x3, (Ch.cell k3 lB (noB _)).trans x1, Nat.lt_of_lt_of_le lB (Ch.size k3)⟩
      have K3 := hid k3
      have HB3 := hid hb3
      obtain ⟨u0, u1, u2, u3, u4, uz, ul⟩ := Box.of hb3
      have y0 := uz 0
      have y1 := uz 1
      have y2 := uz 2
      have y3 := uz 3
      have y4 := uz 4
      clear k3 g3 hb3 uz
      refine hK.out _ _ (by exact hS_w3) (fun hSx => ?_)
      clear hSx hK K
      refine takeS_on (i := 6) 10 (v := ?v254) rfl rfl (by kernel_rfl) (by kernel_rfl) (by kernel_rfl) (fun _ _ _ h => h) (by kernel_rfl) ?hy254 (by exact hS_w3) ?_
      case hy254 => (intro w' hSw; go_simp; try (with_reducible rfl))
      simp only [Act.put, List.setIfInBounds_toArray, List.set_cons_zero, List.set_cons_succ]
      refine takeS_on (i := 7) 17 (v := ?v255) rfl rfl (by kernel_rfl) (by kernel_rfl) (by kernel_rfl) (fun _ _ _ h => h) (by kernel_rfl) ?hy255 (by exact hS_w3) ?_
      case hy255 => (intro w' hSw; go_simp; try (with_reducible rfl))
      simp only [Act.put, List.setIfInBounds_toArray, List.set_cons_zero, List.set_cons_succ]
      refine takeS_on (i := 8) 18 (v := ?v256) rfl rfl (by kernel_rfl) (by kernel_rfl) (by kernel_rfl) (fun _ _ _ h => h) (by kernel_rfl) ?hy256 (by exact hS_w3) ?_
      case hy256 => (intro w' hSw; go_simp; try (with_reducible rfl))
      simp only [Act.put, List.setIfInBounds_toArray, List.set_cons_zero, List.set_cons_succ]
      refine takeS_on (i := 9) 19 (v := ?v257) rfl rfl (by kernel_rfl) (by kernel_rfl) (by kernel_rfl) (fun _ _ _ h => h) (by kernel_rfl) ?hy257 (by exact hS_w3) ?_
      case hy257 => (intro w' hSw; go_simp; try (with_reducible rfl))
      simp only [Act.put, List.setIfInBounds_toArray, List.set_cons_zero, List.set_cons_succ]
      refine wpAnyH_ready (rs := [11]) (by kernel_rfl) (by simp) (AllReadyH.cons rfl (fun K hK => ?_) AllReadyH.nil)
      go_simp
      have k4 : Gr V (((((w3.setCell ⟨V.heap.size, 0, none⟩ (.int .i64 I.1)).setCell ⟨V.heap.size, 1, none⟩ (.int .i64 I.2.1)).setCell ⟨V.heap.size, 2, none⟩ (.int .i64 I.2.2.1)).setCell ⟨V.heap.size, 3, none⟩ (.int .i64 I.2.2.2.1)).setCell ⟨V.heap.size, 4, none⟩ (.int .i64 I.2.2.2.2)) := fr5 K3.out (Nat.le_refl _) _ _ _ _ _
      have hS_b : (fun w' => w'.cell? ⟨w.heap.size, 3, none⟩ = some (.int .i64 (op : Nat)) ∧ w'.cell? ⟨w.heap.size, 1, none⟩ = some (.slice (some ⟨g, o, none⟩) n cap) ∧ w.heap.size < w'.heap.size) (((((w3.setCell ⟨V.heap.size, 0, none⟩ (.int .i64 I.1)).setCell ⟨V.heap.size, 1, none⟩ (.int .i64 I.2.1)).setCell ⟨V.heap.size, 2, none⟩ (.int .i64 I.2.2.1)).setCell ⟨V.heap.size, 3, none⟩ (.int .i64 I.2.2.2.1)).setCell ⟨V.heap.size, 4, none⟩ (.int .i64 I.2.2.2.2)) := ⟨(Ch.cell k4 lB (noB _)).trans x3, (Ch.cell k4 lB (noB _)).trans x1, Nat.lt_of_lt_of_le lB (Ch.size k4)⟩
      clear k4
      refine hK.out _ _ (by exact hS_b) (fun hSx => ?_)
      clear hSx hK K
      refine takeS_on (i := 12) 6 (v := ?v258) rfl rfl (by kernel_rfl) (by kernel_rfl) (by kernel_rfl) (fun _ _ _ h => h) (by kernel_rfl) ?hy258 (by exact hS_b) ?_
      case hy258 => (intro w' hSw; go_simp; try (with_reducible rfl))
      simp only [Act.put, List.setIfInBounds_toArray, List.set_cons_zero, List.set_cons_succ]
      refine takeS_on (i := 13) 7 (v := ?v259) rfl rfl (by kernel_rfl) (by kernel_rfl) (by kernel_rfl) (fun _ _ _ h => h) (by kernel_rfl) ?hy259 (by exact hS_b) ?_
      case hy259 => (intro w' hSw; go_simp; try (with_reducible rfl))
      simp only [Act.put, List.setIfInBounds_toArray, List.set_cons_zero, List.set_cons_succ]
      refine wpAnyH_done (by kernel_rfl) ?_ _
      clear hS0 hS_w3 hS_a hS_b u0 u1 u2 u3 u4 y0 y1 y2 y3 y4 ul
      go_wp2_with fail
      go_meet
      exact ⟨V.heap.size, rfl, rfl, rfl, Nat.le_refl _, st5 HB3.out _ _ _ _ _, fr5 K3.out (Nat.le_refl _) _ _ _ _ _⟩
  case rest =>
    obtain ⟨kb, rfl, rfl, rfl, hkb, hbk, hgc⟩ := hcut
    have hbx := gr_blk HBx.out hgc
    obtain ⟨b0, b1, b2, b3, b4, -, bl⟩ := Box.of hbx
    obtain ⟨i0, i1, i2, i3, i4, iz, il⟩ := Box.of hbk
    have hrd := HH.out.gr (Gr.trans HGV.out hgc)
    have hbR := hrd.blk
    obtain ⟨r0, r1, r2, r3, r4, r5, rz, rl⟩ := Six.of hbR
    have HRD := hid hrd
    have HGC := hid hgc
    have HKB := hid hkb
    have HBK := hid hbk
    clear hbx hrd hbR hgc hkb hbk rz iz x3 x1 lB
    have hE := HE0.out
    subst hE
    have hop := HOP.out
    subst hop
    rw [hiT] at r5
    have hbx3 := b3
    obtain ⟨mT, t, hmT, ht0⟩ : ∃ mT t, ts.length = mT + 1 ∧ ts[mT]? = some t := by
      have h0 := HO.out.t hiT
      have h3 : 0 < ts.length := by
        have := List.length_pos_iff.2 h0
        rw [← HRD.out.tsq, List.length_map] at this
        exact this
      exact ⟨ts.length - 1, ts[ts.length - 1], by omega, List.getElem?_eq_getElem (by omega)⟩
    obtain ⟨gT, cT, hvT, bT, lT, kT, cT0, zT⟩ := HRD.out.tableAt ht0
    subst hvT
    rw [hmT] at r2 HRD HH kT
    have hcT := HRD.out.cs t (List.mem_of_getElem? ht0)
    obtain ⟨aoc, cc, hcv⟩ := hcT.form
    obtain ⟨nc, hnc⟩ : ∃ n, n = t.cs.length := ⟨_, rfl⟩
    rw [← hnc] at hcv
    have HNC := hid hnc
    have hncl := hcb t.cs (by
      have hmem : (t.cs, t.df) ∈ x.tb := by rw [← HRD.out.tsq]; exact List.mem_map.2 ⟨t, List.mem_of_getElem? ht0, rfl⟩
      exact ⟨t.df, hmem⟩)
    rw [← hnc] at hncl
    have hfl := Hf.out.t
    rw [← HRD.out.tsq, List.length_map, hmT] at hfl
    have hxm : x.tb.length = mT + 1 := by rw [← HRD.out.tsq, List.length_map, hmT]
    have hxt : x.tb[mT]? = some (t.cs, t.df) := by rw [← HRD.out.tsq, List.getElem?_map, ht0]; rfl
    have HRS := hid (show roS x num 30 wt = { x with tb := x.tb.set mT (t.cs ++ [⟨false, I.2.1, I.2.2.1, I.2.2.2.1⟩], t.df) } by rw [HRS0.out, modify_last' x.tb mT _ _ hxm hxt])
    have HTM := hid ht0
    have HBT := hid bT
    have HLT := hid (show gT < w.heap.size from (HH.out.t.blk (show Blk (.slice (some ⟨gT, 0, none⟩) (mT + 1) cT) gT from rfl)).2)
    have HQ := hid (show ∀ q, Blk (.slice aoc nc cc) q → q < w.heap.size from fun q e => ((HH.out.cs t (List.mem_of_getElem? ht0)).blk (by rw [hcv]; exact e)).2)
    have HDT := hid (show Dj (.slice (some ⟨gT, 0, none⟩) (mT + 1) cT) (.slice aoc nc cc) from by have := (HRD.out.parts.2.1 t (List.mem_of_getElem? ht0)).2.2; rwa [hcv] at this)
    rw [hcv] at cT0
    have hwm : IntKind.i64.wrap ((mT : Nat) : Int) = ((mT : Nat) : Int) := IntWalk.i64_in _ (by omega)
    have m0 : (0 : Int) ≤ ((mT : Nat) : Int) := by omega
    have m1 : ((mT : Nat) : Int) < ((mT : Nat) : Int) + 1 := by omega
    have HCV := hid hcv
    clear hnc hcT hcv hxm hxt zT hmT
    go_wp2_with fail
    go_quiet (fail)
    go_wp2_with fail
    have KW := hid (show Gr wc (wc.drewN nq) from Ch.drewN (Gr.refl wc) nq)
    generalize wc.drewN nq = W at KW ⊢
    have HWW := hid (Gr.trans (Gr.trans HGV.out HGC.out) KW.out)
    have RW := hid (HRD.out.gr KW.out)
    have HOC := hid (show Ow eC 4 46 base W (.slice aoc nc cc) t.cs from by have := RW.out.cs t (List.mem_of_getElem? HTM.out); rwa [HCV.out] at this)
    have e3 : W.cell? ⟨w.heap.size, 3, none⟩ = some (.int .i64 30) := (Ch.cell KW.out bl (noB _)).trans b3
    have e4 : W.cell? ⟨kb, 1, none⟩ = some (.int .i64 I.2.1) := (Ch.cell KW.out il (noB _)).trans i1
    have e5 : W.cell? ⟨kb, 2, none⟩ = some (.int .i64 I.2.2.1) := (Ch.cell KW.out il (noB _)).trans i2
    have e6 : W.cell? ⟨kb, 3, none⟩ = some (.int .i64 I.2.2.2.1) := (Ch.cell KW.out il (noB _)).trans i3
    have lBW : w.heap.size < W.heap.size := Nat.lt_of_lt_of_le bl KW.out.size
    have lKW : kb < W.heap.size := Nat.lt_of_lt_of_le il KW.out.size
    have lTW : gT < W.heap.size := Nat.lt_of_lt_of_le lT KW.out.size
    have cTW : W.cell? ⟨gT, mT * 2, none⟩ = some (.slice aoc nc cc) := (Ch.cell KW.out lT (noB _)).trans cT0
    obtain ⟨gcs, HTB⟩ : ∃ cur, Hid (W.heap[gT]? = some (.cells cur 44 (0, 0))) := by
      rcases RW.out.t.2 with ⟨h9, _⟩ | ⟨g9, cap9, cur9, h9, _, h10, _⟩
      · cases h9
      · injection h9 with q1 q2 q3
        injection q1 with q1
        injection q1 with q1
        subst q1
        exact ⟨cur9, h10⟩
    have HTC := hid (show gcs[mT * 2]? = some (.slice aoc nc cc) from by rw [← cell_of HTB.out]; exact cTW)
    clear b0 b1 b2 b3 b4 bl i0 i1 i2 i3 i4 il r0 r1 r2 r3 r4 r5 rl hbx3 lT cT0
    have hS0 : (fun w' => w'.cell? ⟨w.heap.size, 3, none⟩ = some (.int .i64 30) ∧ w'.cell? ⟨kb, 1, none⟩ = some (.int .i64 I.2.1) ∧ w'.cell? ⟨kb, 2, none⟩ = some (.int .i64 I.2.2.1) ∧ w'.cell? ⟨kb, 3, none⟩ = some (.int .i64 I.2.2.2.1) ∧ w.heap.size < w'.heap.size ∧ kb < w'.heap.size) W.drew := ⟨e3, e4, e5, e6, lBW, lKW⟩
    refine wp_region_held_drew (S := fun w' => w'.cell? ⟨w.heap.size, 3, none⟩ = some (.int .i64 30) ∧ w'.cell? ⟨kb, 1, none⟩ = some (.int .i64 I.2.1) ∧ w'.cell? ⟨kb, 2, none⟩ = some (.int .i64 I.2.2.1) ∧ w'.cell? ⟨kb, 3, none⟩ = some (.int .i64 I.2.2.2.1) ∧ w.heap.size < w'.heap.size ∧ kb < w'.heap.size) (by kernel_rfl) (by exact hS0) (fun hSx => ?_)
    clear hSx
    refine takeS_on (i := 0) 48 (v := ?v225) rfl rfl (by kernel_rfl) (by kernel_rfl) (by kernel_rfl) (fun _ _ _ h => h) (by kernel_rfl) ?hy225 (by exact hS0) ?_
    case hy225 => (intro w' hSw; go_simp; try (with_reducible rfl))
    simp only [Act.put, List.setIfInBounds_toArray, List.set_cons_zero, List.set_cons_succ]
    refine takeS_on (i := 1) 49 (v := ?v226) rfl rfl (by kernel_rfl) (by kernel_rfl) (by kernel_rfl) (fun _ _ _ h => h) (by kernel_rfl) ?hy226 (by exact hS0) ?_
    case hy226 => (intro w' hSw; go_simp; try (with_reducible rfl))
    simp only [Act.put, List.setIfInBounds_toArray, List.set_cons_zero, List.set_cons_succ]
    refine takeS_on (i := 2) 50 (v := ?v227) rfl rfl (by kernel_rfl) (by kernel_rfl) (by kernel_rfl) (fun _ _ _ h => h) (by kernel_rfl) ?hy227 (by exact hS0) ?_
    case hy227 => (intro w' hSw; go_simp; try (with_reducible rfl))
    simp only [Act.put, List.setIfInBounds_toArray, List.set_cons_zero, List.set_cons_succ]
    refine takeS_on (i := 3) 51 (v := ?v228) rfl rfl (by kernel_rfl) (by kernel_rfl) (by kernel_rfl) (fun _ _ _ h => h) (by kernel_rfl) ?hy228 (by exact hS0) ?_
    case hy228 => (intro w' hSw; go_simp; try (with_reducible rfl))
    simp only [Act.put, List.setIfInBounds_toArray, List.set_cons_zero, List.set_cons_succ]
    refine takeS_on (i := 5) 53 (v := ?v229) rfl rfl (by kernel_rfl) (by kernel_rfl) (by kernel_rfl) (fun _ _ _ h => h) (by kernel_rfl) ?hy229 (by exact hS0) ?_
    case hy229 => (intro w' hSw; go_simp; try (with_reducible rfl))
    simp only [Act.put, List.setIfInBounds_toArray, List.set_cons_zero, List.set_cons_succ]
    refine takeS_on (i := 6) 54 (v := ?v230) rfl rfl (by kernel_rfl) (by kernel_rfl) (by kernel_rfl) (fun _ _ _ h => h) (by kernel_rfl) ?hy230 (by exact hS0) ?_
    case hy230 => (intro w' hSw; go_simp; try (with_reducible rfl))
    simp only [Act.put, List.setIfInBounds_toArray, List.set_cons_zero, List.set_cons_succ]
    refine takeS_on (i := 7) 55 (v := ?v231) rfl rfl (by kernel_rfl) (by kernel_rfl) (by kernel_rfl) (fun _ _ _ h => h) (by kernel_rfl) ?hy231 (by exact hS0) ?_
    case hy231 => (intro w' hSw; go_simp; try (with_reducible rfl))
    simp only [Act.put, List.setIfInBounds_toArray, List.set_cons_zero, List.set_cons_succ]
    refine takeS_on (i := 8) 56 (v := ?v232) rfl rfl (by kernel_rfl) (by kernel_rfl) (by kernel_rfl) (fun _ _ _ h => h) (by kernel_rfl) ?hy232 (by exact hS0) ?_
    case hy232 => (intro w' hSw; go_simp; try (with_reducible rfl))
    simp only [Act.put, List.setIfInBounds_toArray, List.set_cons_zero, List.set_cons_succ]
    refine takeS_on (i := 9) 57 (v := ?v233) rfl rfl (by kernel_rfl) (by kernel_rfl) (by kernel_rfl) (fun _ _ _ h => h) (by kernel_rfl) ?hy233 (by exact hS0) ?_
    case hy233 => (intro w' hSw; go_simp; try (with_reducible rfl))
    simp only [Act.put, List.setIfInBounds_toArray, List.set_cons_zero, List.set_cons_succ]
    refine takeS_on (i := 10) 58 (v := ?v234) rfl rfl (by kernel_rfl) (by kernel_rfl) (by kernel_rfl) (fun _ _ _ h => h) (by kernel_rfl) ?hy234 (by exact hS0) ?_
    case hy234 => (intro w' hSw; go_simp; try (with_reducible rfl))
    simp only [Act.put, List.setIfInBounds_toArray, List.set_cons_zero, List.set_cons_succ]
    refine takeS_on (i := 11) 59 (v := ?v235) rfl rfl (by kernel_rfl) (by kernel_rfl) (by kernel_rfl) (fun _ _ _ h => h) (by kernel_rfl) ?hy235 (by exact hS0) ?_
    case hy235 => (intro w' hSw; go_simp; try (with_reducible rfl))
    simp only [Act.put, List.setIfInBounds_toArray, List.set_cons_zero, List.set_cons_succ]
    refine takeS_on (i := 12) 60 (v := ?v236) rfl rfl (by kernel_rfl) (by kernel_rfl) (by kernel_rfl) (fun _ _ _ h => h) (by kernel_rfl) ?hy236 (by exact hS0) ?_
    case hy236 => (intro w' hSw; go_simp; try (with_reducible rfl))
    simp only [Act.put, List.setIfInBounds_toArray, List.set_cons_zero, List.set_cons_succ]
    refine takeS_on (i := 13) 61 (v := ?v237) rfl rfl (by kernel_rfl) (by kernel_rfl) (by kernel_rfl) (fun _ _ _ h => h) (by kernel_rfl) ?hy237 (by exact hS0) ?_
    case hy237 => (intro w' hSw; go_simp; try (with_reducible rfl))
    simp only [Act.put, List.setIfInBounds_toArray, List.set_cons_zero, List.set_cons_succ]
    refine takeS_on (i := 14) 62 (v := ?v238) rfl rfl (by kernel_rfl) (by kernel_rfl) (by kernel_rfl) (fun _ _ _ h => h) (by kernel_rfl) ?hy238 (by exact hS0) ?_
    case hy238 => (intro w' hSw; go_simp; try (with_reducible rfl))
    simp only [Act.put, List.setIfInBounds_toArray, List.set_cons_zero, List.set_cons_succ]
    refine wpAnyH_ready (rs := [4, 15]) (by kernel_rfl) (by simp) (AllReadyH.cons rfl (fun K hK => ?_) (AllReadyH.cons rfl (fun K hK => ?_) AllReadyH.nil))
    · go_simp
      refine hK.out _ _ (by exact hS0) (fun hSx => ?_)
      clear hSx hK K
      refine wpAnyH_ready (rs := [15]) (by kernel_rfl) (by simp) (AllReadyH.cons rfl (fun K hK => ?_) AllReadyH.nil)
      go_simp
      have kc : Gr W (W.alloc (.cells #[.bool false, .int .i64 I.2.1, .int .i64 I.2.2.1, .int .i64 I.2.2.2.1] 46)).drew := Ch.drew (Ch.alloc (Gr.refl W) _)
      have hS_c : (fun w' => w'.cell? ⟨w.heap.size, 3, none⟩ = some (.int .i64 30) ∧ w'.cell? ⟨kb, 1, none⟩ = some (.int .i64 I.2.1) ∧ w'.cell? ⟨kb, 2, none⟩ = some (.int .i64 I.2.2.1) ∧ w'.cell? ⟨kb, 3, none⟩ = some (.int .i64 I.2.2.2.1) ∧ w.heap.size < w'.heap.size ∧ kb < w'.heap.size) (W.alloc (.cells #[.bool false, .int .i64 I.2.1, .int .i64 I.2.2.1, .int .i64 I.2.2.2.1] 46)).drew := ⟨(Ch.cell kc lBW (noB _)).trans e3, (Ch.cell kc lKW (noB _)).trans e4, (Ch.cell kc lKW (noB _)).trans e5, (Ch.cell kc lKW (noB _)).trans e6, Nat.lt_of_lt_of_le lBW (Ch.size kc), Nat.lt_of_lt_of_le lKW (Ch.size kc)⟩
      refine hK.out _ _ (by exact hS_c) (fun hSx => ?_)
      clear hSx hK K
      refine wpAnyH_ready (rs := [16]) (by kernel_rfl) (by simp) (AllReadyH.cons rfl (fun K hK => ?_) AllReadyH.nil)
      refine step_append_ow eC_len rfl (.tmp 52) (.tmp 63) 42 46 32 (.agg #[.bool false, .int .i64 0, .int .i64 0, .int .i64 0]) Tryz.underlying42 case_info rfl (by omega) rfl base (.slice aoc nc cc) t.cs (by simp [Act.eval]) (HOC.out.alloc _) _ _ [⟨false, I.2.1, I.2.2.1, I.2.2.2.1⟩] (by simp [Act.eval]) (Ls.single W _ _ _ rfl) eC_one (nc + 1) (by rw [HNC.out]; rfl) (by omega) (by unfold maxLen; omega) (by have := RW.out.ltB; simp; omega) (t.cs ++ [⟨false, I.2.1, I.2.2.1, I.2.2.2.1⟩]) rfl ?_
      intro ao6 cap6 w6 ow6 cw6 bl6
      have oq : ∀ q, Blk (.slice aoc nc cc) q → q < w.heap.size := fun q e => HQ.out q e
      have nB : ¬ Blk (.slice aoc nc cc) w.heap.size := fun e => by have := oq _ e; omega
      have nK : ¬ Blk (.slice aoc nc cc) kb := fun e => by have := oq _ e; have := HKB.out; have := HSV.out; omega
      have hS_d : (fun w' => w'.cell? ⟨w.heap.size, 3, none⟩ = some (.int .i64 30) ∧ w'.cell? ⟨kb, 1, none⟩ = some (.int .i64 I.2.1) ∧ w'.cell? ⟨kb, 2, none⟩ = some (.int .i64 I.2.2.1) ∧ w'.cell? ⟨kb, 3, none⟩ = some (.int .i64 I.2.2.2.1) ∧ w.heap.size < w'.heap.size ∧ kb < w'.heap.size) w6 := ⟨(Ch.cell cw6 hS_c.2.2.2.2.1 nB).trans hS_c.1, (Ch.cell cw6 hS_c.2.2.2.2.2 nK).trans hS_c.2.1, (Ch.cell cw6 hS_c.2.2.2.2.2 nK).trans hS_c.2.2.1, (Ch.cell cw6 hS_c.2.2.2.2.2 nK).trans hS_c.2.2.2.1, Nat.lt_of_lt_of_le hS_c.2.2.2.2.1 cw6.size, Nat.lt_of_lt_of_le hS_c.2.2.2.2.2 cw6.size⟩
      have gT6 := (cw6.block gT (Nat.lt_of_lt_of_le lTW (by simp)) (fun e => HDT.out gT rfl e)).trans (al_blk HTB.out _)
      have c6 : w6.cell? ⟨gT, mT * 2, none⟩ = some (.slice aoc nc cc) := (cell_of gT6 _).trans HTC.out
      have z6 := frozen_of gT6 (mT * 2)
      have HO6 := hid ow6
      have HC6 := hid cw6
      have HB6 := hid bl6
      clear ow6 cw6 bl6 gT6
      refine hK.out _ _ (by exact hS_d) (fun hSx => ?_)
      change wpAnyH _ _ _ _ _ _ _ (Act.put _ (some 64) _) _
      simp only [Act.put, List.setIfInBounds_toArray, List.set_cons_zero, List.set_cons_succ]
      clear hSx hK K
      refine takeS_on (i := 17) 65 (v := ?v239) rfl rfl (by kernel_rfl) (by kernel_rfl) (by kernel_rfl) (fun _ _ _ h => h) (by kernel_rfl) ?hy239 (by exact hS_d) ?_
      case hy239 => (intro w' hSw; go_simp; try (with_reducible rfl))
      simp only [Act.put, List.setIfInBounds_toArray, List.set_cons_zero, List.set_cons_succ]
      refine takeS_on (i := 18) 66 (v := ?v240) rfl rfl (by kernel_rfl) (by kernel_rfl) (by kernel_rfl) (fun _ _ _ h => h) (by kernel_rfl) ?hy240 (by exact hS_d) ?_
      case hy240 => (intro w' hSw; go_simp; try (with_reducible rfl))
      simp only [Act.put, List.setIfInBounds_toArray, List.set_cons_zero, List.set_cons_succ]
      refine wpAnyH_ready (rs := [19]) (by kernel_rfl) (by simp) (AllReadyH.cons rfl (fun K hK => ?_) AllReadyH.nil)
      go_simp
      have k7 : Ch (Only gT) w6 (w6.setCell ⟨gT, mT * 2, none⟩ (.slice ao6 (nc + 1) cap6)) := (Ch.refl _ _).own _ _
      have g1 : ¬ Only gT w.heap.size := fun e => by have e1 : w.heap.size = gT := e; have := HLT.out; omega
      have g2 : ¬ Only gT kb := fun e => by have e1 : kb = gT := e; have := HLT.out; have := HKB.out; have := HSV.out; omega
      have hS_e : (fun w' => w'.cell? ⟨w.heap.size, 3, none⟩ = some (.int .i64 30) ∧ w'.cell? ⟨kb, 1, none⟩ = some (.int .i64 I.2.1) ∧ w'.cell? ⟨kb, 2, none⟩ = some (.int .i64 I.2.2.1) ∧ w'.cell? ⟨kb, 3, none⟩ = some (.int .i64 I.2.2.2.1) ∧ w.heap.size < w'.heap.size ∧ kb < w'.heap.size) (w6.setCell ⟨gT, mT * 2, none⟩ (.slice ao6 (nc + 1) cap6)) := ⟨(Ch.cell k7 hS_d.2.2.2.2.1 g1).trans hS_d.1, (Ch.cell k7 hS_d.2.2.2.2.2 g2).trans hS_d.2.1, (Ch.cell k7 hS_d.2.2.2.2.2 g2).trans hS_d.2.2.1, (Ch.cell k7 hS_d.2.2.2.2.2 g2).trans hS_d.2.2.2.1, Nat.lt_of_lt_of_le hS_d.2.2.2.2.1 k7.size, Nat.lt_of_lt_of_le hS_d.2.2.2.2.2 k7.size⟩
      refine hK.out _ _ (by exact hS_e) (fun hSx => ?_)
      clear hSx hK K
      refine wpAnyH_done (by kernel_rfl) ?_ _
      clear hS0 hS_c hS_d hS_e c6 z6
      have RD7 := RW.out.newC HTM.out rfl (Ch.drew (Ch.alloc (Gr.refl W) _)) HO6.out (by rw [HCV.out]; exact HC6.out) (by rw [HCV.out]; exact HB6.out)
      have C7 : Ch (SR base R M) w (w6.setCell ⟨gT, mT * 2, none⟩ (.slice ao6 (nc + 1) cap6)) := ((Ch.trans (Ch.any HWW.out) (Ch.drew (Ch.alloc (Gr.refl W) _)) (fun _ e => e.elim)).trans HC6.out (fun q e => .inl (.inr (.inr (HOC.out.blk e).1)))).setCell (p := ⟨gT, mT * 2, none⟩) (.inl (.inr (.inr HBT.out))) _
      generalize w6.setCell ⟨gT, mT * 2, none⟩ (.slice ao6 (nc + 1) cap6) = W7 at RD7 C7 ⊢
      have R7 := hid RD7
      have K7 := hid C7
      clear RD7 C7
      go_wp2
      go_ret
      refine ⟨rfl, fun _ => ?_, K7.out, fun h => (h rfl).elim⟩
      rw [HRS.out]
      exact R7.out.red
    · go_simp
      have kc : Gr W (W.alloc (.cells #[.bool false, .int .i64 I.2.1, .int .i64 I.2.2.1, .int .i64 I.2.2.2.1] 46)).drew := Ch.drew (Ch.alloc (Gr.refl W) _)
      have hS_c : (fun w' => w'.cell? ⟨w.heap.size, 3, none⟩ = some (.int .i64 30) ∧ w'.cell? ⟨kb, 1, none⟩ = some (.int .i64 I.2.1) ∧ w'.cell? ⟨kb, 2, none⟩ = some (.int .i64 I.2.2.1) ∧ w'.cell? ⟨kb, 3, none⟩ = some (.int .i64 I.2.2.2.1) ∧ w.heap.size < w'.heap.size ∧ kb < w'.heap.size) (W.alloc (.cells #[.bool false, .int .i64 I.2.1, .int .i64 I.2.2.1, .int .i64 I.2.2.2.1] 46)).drew := ⟨(Ch.cell kc lBW (noB _)).trans e3, (Ch.cell kc lKW (noB _)).trans e4, (Ch.cell kc lKW (noB _)).trans e5, (Ch.cell kc lKW (noB _)).trans e6, Nat.lt_of_lt_of_le lBW (Ch.size kc), Nat.lt_of_lt_of_le lKW (Ch.size kc)⟩
      refine hK.out _ _ (by exact hS_c) (fun hSx => ?_)
      clear hSx hK K
      refine wpAnyH_ready (rs := [4]) (by kernel_rfl) (by simp) (AllReadyH.cons rfl (fun K hK => ?_) AllReadyH.nil)
      go_simp
      refine hK.out _ _ (by exact hS_c) (fun hSx => ?_)
      clear hSx hK K
      refine wpAnyH_ready (rs := [16]) (by kernel_rfl) (by simp) (AllReadyH.cons rfl (fun K hK => ?_) AllReadyH.nil)
      refine step_append_ow eC_len rfl (.tmp 52) (.tmp 63) 42 46 32 (.agg #[.bool false, .int .i64 0, .int .i64 0, .int .i64 0]) Tryz.underlying42 case_info rfl (by omega) rfl base (.slice aoc nc cc) t.cs (by simp [Act.eval]) (HOC.out.alloc _) _ _ [⟨false, I.2.1, I.2.2.1, I.2.2.2.1⟩] (by simp [Act.eval]) (Ls.single W _ _ _ rfl) eC_one (nc + 1) (by rw [HNC.out]; rfl) (by omega) (by unfold maxLen; omega) (by have := RW.out.ltB; simp; omega) (t.cs ++ [⟨false, I.2.1, I.2.2.1, I.2.2.2.1⟩]) rfl ?_
      intro ao6 cap6 w6 ow6 cw6 bl6
      have oq : ∀ q, Blk (.slice aoc nc cc) q → q < w.heap.size := fun q e => HQ.out q e
      have nB : ¬ Blk (.slice aoc nc cc) w.heap.size := fun e => by have := oq _ e; omega
      have nK : ¬ Blk (.slice aoc nc cc) kb := fun e => by have := oq _ e; have := HKB.out; have := HSV.out; omega
      have hS_d : (fun w' => w'.cell? ⟨w.heap.size, 3, none⟩ = some (.int .i64 30) ∧ w'.cell? ⟨kb, 1, none⟩ = some (.int .i64 I.2.1) ∧ w'.cell? ⟨kb, 2, none⟩ = some (.int .i64 I.2.2.1) ∧ w'.cell? ⟨kb, 3, none⟩ = some (.int .i64 I.2.2.2.1) ∧ w.heap.size < w'.heap.size ∧ kb < w'.heap.size) w6 := ⟨(Ch.cell cw6 hS_c.2.2.2.2.1 nB).trans hS_c.1, (Ch.cell cw6 hS_c.2.2.2.2.2 nK).trans hS_c.2.1, (Ch.cell cw6 hS_c.2.2.2.2.2 nK).trans hS_c.2.2.1, (Ch.cell cw6 hS_c.2.2.2.2.2 nK).trans hS_c.2.2.2.1, Nat.lt_of_lt_of_le hS_c.2.2.2.2.1 cw6.size, Nat.lt_of_lt_of_le hS_c.2.2.2.2.2 cw6.size⟩
      have gT6 := (cw6.block gT (Nat.lt_of_lt_of_le lTW (by simp)) (fun e => HDT.out gT rfl e)).trans (al_blk HTB.out _)
      have c6 : w6.cell? ⟨gT, mT * 2, none⟩ = some (.slice aoc nc cc) := (cell_of gT6 _).trans HTC.out
      have z6 := frozen_of gT6 (mT * 2)
      have HO6 := hid ow6
      have HC6 := hid cw6
      have HB6 := hid bl6
      clear ow6 cw6 bl6 gT6
      refine hK.out _ _ (by exact hS_d) (fun hSx => ?_)
      change wpAnyH _ _ _ _ _ _ _ (Act.put _ (some 64) _) _
      simp only [Act.put, List.setIfInBounds_toArray, List.set_cons_zero, List.set_cons_succ]
      clear hSx hK K
      refine takeS_on (i := 17) 65 (v := ?v241) rfl rfl (by kernel_rfl) (by kernel_rfl) (by kernel_rfl) (fun _ _ _ h => h) (by kernel_rfl) ?hy241 (by exact hS_d) ?_
      case hy241 => (intro w' hSw; go_simp; try (with_reducible rfl))
      simp only [Act.put, List.setIfInBounds_toArray, List.set_cons_zero, List.set_cons_succ]
      refine takeS_on (i := 18) 66 (v := ?v242) rfl rfl (by kernel_rfl) (by kernel_rfl) (by kernel_rfl) (fun _ _ _ h => h) (by kernel_rfl) ?hy242 (by exact hS_d) ?_
      case hy242 => (intro w' hSw; go_simp; try (with_reducible rfl))
      simp only [Act.put, List.setIfInBounds_toArray, List.set_cons_zero, List.set_cons_succ]
      refine wpAnyH_ready (rs := [19]) (by kernel_rfl) (by simp) (AllReadyH.cons rfl (fun K hK => ?_) AllReadyH.nil)
      go_simp
      have k7 : Ch (Only gT) w6 (w6.setCell ⟨gT, mT * 2, none⟩ (.slice ao6 (nc + 1) cap6)) := (Ch.refl _ _).own _ _
      have g1 : ¬ Only gT w.heap.size := fun e => by have e1 : w.heap.size = gT := e; have := HLT.out; omega
      have g2 : ¬ Only gT kb := fun e => by have e1 : kb = gT := e; have := HLT.out; have := HKB.out; have := HSV.out; omega
      have hS_e : (fun w' => w'.cell? ⟨w.heap.size, 3, none⟩ = some (.int .i64 30) ∧ w'.cell? ⟨kb, 1, none⟩ = some (.int .i64 I.2.1) ∧ w'.cell? ⟨kb, 2, none⟩ = some (.int .i64 I.2.2.1) ∧ w'.cell? ⟨kb, 3, none⟩ = some (.int .i64 I.2.2.2.1) ∧ w.heap.size < w'.heap.size ∧ kb < w'.heap.size) (w6.setCell ⟨gT, mT * 2, none⟩ (.slice ao6 (nc + 1) cap6)) := ⟨(Ch.cell k7 hS_d.2.2.2.2.1 g1).trans hS_d.1, (Ch.cell k7 hS_d.2.2.2.2.2 g2).trans hS_d.2.1, (Ch.cell k7 hS_d.2.2.2.2.2 g2).trans hS_d.2.2.1, (Ch.cell k7 hS_d.2.2.2.2.2 g2).trans hS_d.2.2.2.1, Nat.lt_of_lt_of_le hS_d.2.2.2.2.1 k7.size, Nat.lt_of_lt_of_le hS_d.2.2.2.2.2 k7.size⟩
      refine hK.out _ _ (by exact hS_e) (fun hSx => ?_)
      clear hSx hK K
      refine wpAnyH_done (by kernel_rfl) ?_ _
      clear hS0 hS_c hS_d hS_e c6 z6
      have RD7 := RW.out.newC HTM.out rfl (Ch.drew (Ch.alloc (Gr.refl W) _)) HO6.out (by rw [HCV.out]; exact HC6.out) (by rw [HCV.out]; exact HB6.out)
      have C7 : Ch (SR base R M) w (w6.setCell ⟨gT, mT * 2, none⟩ (.slice ao6 (nc + 1) cap6)) := ((Ch.trans (Ch.any HWW.out) (Ch.drew (Ch.alloc (Gr.refl W) _)) (fun _ e => e.elim)).trans HC6.out (fun q e => .inl (.inr (.inr (HOC.out.blk e).1)))).setCell (p := ⟨gT, mT * 2, none⟩) (.inl (.inr (.inr HBT.out))) _
      generalize w6.setCell ⟨gT, mT * 2, none⟩ (.slice ao6 (nc + 1) cap6) = W7 at RD7 C7 ⊢
      have R7 := hid RD7
      have K7 := hid C7
      clear RD7 C7
      go_wp2
      go_ret
      refine ⟨rfl, fun _ => ?_, K7.out, fun h => (h rfl).elim⟩
      rw [HRS.out]
      exact R7.out.red
end Go.Proofs.YtbehlhnnfdkmaaaGreatDoor.Lt
