/-
  What the program's readOp answers and leaves at an instruction. Conditions: words are no longer than a text may be and lie apart from the reader; as many lines as a text may have; the line is an operation's.
-/
import Derived.Test.YtbehlhnnfdkmaaaGreatDoorLtOp
namespace Go.Proofs.YtbehlhnnfdkmaaaGreatDoor.Lt
open Go.RowKit Wd

theorem ask_info : (Tryz.prog.info? 102).map (fun i => (i.zero, i.size, i.bytes)) = some (some (.agg #[.int .i64 0, .int .i64 0, .int .i64 0, .int .i64 0, .int .i64 0, .int .i64 0, .int .i64 0, .int .i64 0, .string ⟨#[]⟩]), 9, 80) := by kernel_rfl
theorem eA_one {a : Ask} : ∀ u ∈ [a].flatMap eA, u.oneCell' = true := by
  intro u hu
  simp [eA] at hu
  rcases hu with rfl | rfl | rfl | rfl | rfl | rfl | rfl | rfl | rfl <;> rfl
set_option maxHeartbeats 2000000 in
set_option maxRecDepth 20000 in
theorem readOp_ask (base R M : Nat) (w : World) (x : Rs) (num : Nat) (ws : List ByteArray) (wv : Value) (kind : Int) (op : Nat) (leads : Bool) (s : ByteArray) (wt : List ByteArray) (hws : ws = s :: wt) (h1 : 1 ≤ op) (h2 : op < 59) (hl : Ls eS (fun g => ¬ SR base R M g) w wv ws) (hz : Sml ws) (hf : Few x) (hok : Rok x) (hg : Glb w) (h : Red base R M w x) (hE : fE op wt = 0) (hiT : x.inT = false) (hiF : x.inF = true) (hfb : ∀ f ∈ x.fn, f.2 ≤ 4294967296) :
    Calls Tryz.prog 53 #[.pointer (some ⟨R, 0, none⟩), .agg #[.int .i64 (num : Nat), wv, .int .i64 kind, .int .i64 (op : Nat), .bool leads]] w (Dn base R M w (roE x op wt) (roS x num op wt)) := by
  obtain ⟨va, vf, vt, ts, h⟩ := h
  subst hws
  obtain ⟨g, o, cap, rfl, hP, hgl, hcap, hc⟩ := hl.get eS_len (i := 0) (a := s) rfl
  clear hc
  obtain ⟨n, hn⟩ : ∃ n, n = (s :: wt).length := ⟨_, rfl⟩
  have hn1 : 1 ≤ n := by rw [hn]; simp
  rw [← hn] at hcap hl ⊢
  have HN := hid hn
  clear hn
  obtain ⟨o', hsl, hlt⟩ := slice_tail g o n cap hn1 hcap
  have hlt1 := hlt _ _ _ _ hl
  have HFD := hid (fun (W : World) (q : Gr w W) => fields_any _ (.slice (some ⟨g, o', none⟩) (n - 1) (cap - 1)) wt op h1 h2 W (hlt1.gr q) (fun y hy => hz y (by simp [hy])) (hg.gr q))
  have HH := hid h
  have Hf := hid hf
  have HO := hid hok
  have HG := hid hg
  obtain ⟨I, hI⟩ : ∃ I, I = fI op wt := ⟨_, rfl⟩
  obtain ⟨A, hA⟩ : ∃ A, A = fA op wt := ⟨_, rfl⟩
  obtain ⟨E, hE⟩ : ∃ E, E = fE op wt := ⟨_, rfl⟩
  rw [← hI, ← hA, ← hE] at HFD
  unfold iV at HFD
  have HI := hid hI
  have HA := hid hA
  have HE := hid hE
  have hBx := (MapKept.heap_alloc w (.cells #[.int .i64 (num : Nat), .slice (some ⟨g, o, none⟩) n cap, .int .i64 kind, .int .i64 (op : Nat), .bool leads] 56)).1
  have hgV := Gr.alloc (Gr.refl w) #[.int .i64 (num : Nat), .slice (some ⟨g, o, none⟩) n cap, .int .i64 kind, .int .i64 (op : Nat), .bool leads] 56
  have hszV : (w.alloc (.cells #[.int .i64 (num : Nat), .slice (some ⟨g, o, none⟩) n cap, .int .i64 kind, .int .i64 (op : Nat), .bool leads] 56)).heap.size = w.heap.size + 1 := by simp
  clear hl hz hlt hlt1 hI hA hE h hf hok hg
  rw [← HE.out] at hE
  have hC : roC x op = false := by unfold roC; rw [hiT]; rfl
  have eE : roE x op wt = 0 := by unfold roE; rw [← HE.out, if_pos hE, hC, hiF]; rfl
  rw [eE]
  obtain ⟨NX, hNX⟩ : ∃ NX, NX = roN x op wt := ⟨_, rfl⟩
  have HNX := hid hNX
  have HRS0 := hid (show roS x num op wt = { x with ask := x.ask ++ [⟨num, I, NX⟩], fn := x.fn.modify (x.fn.length - 1) (fun f => (f.1, f.2 + 1)) } by unfold roS; rw [hC, hNX, HI.out]; rfl)
  have HE0 := hid hE
  clear eE hC hE hNX
  go_enter Tryz.func53, Tryz.ntmps53
  go_upto_region 1 with fail
  generalize w.alloc (.cells #[.int .i64 (num : Nat), .slice (some ⟨g, o, none⟩) n cap, .int .i64 kind, .int .i64 (op : Nat), .bool leads] 56) = V at hBx hgV hszV ⊢
  have HBx := hid hBx
  have HGV := hid hgV
  have HSV := hid hszV
  have x3 : V.cell? ⟨w.heap.size, 3, none⟩ = some (.int .i64 (op : Nat)) := (cell_of hBx 3).trans rfl
  have x1 : V.cell? ⟨w.heap.size, 1, none⟩ = some (.slice (some ⟨g, o, none⟩) n cap) := (cell_of hBx 1).trans rfl
  have lB : w.heap.size < V.heap.size := by omega
  clear hBx hgV hszV
  go_cut [5, 6, 7] (fun p a e wc => Ro1 V I A E p a e wc)
  case first =>
    have hS0 : (fun w' => w'.cell? ⟨w.heap.size, 3, none⟩ = some (.int .i64 (op : Nat)) ∧ w'.cell? ⟨w.heap.size, 1, none⟩ = some (.slice (some ⟨g, o, none⟩) n cap) ∧ w.heap.size < w'.heap.size) V.drew := ⟨x3, x1, lB⟩
    refine wp_region_held_drew (S := fun w' => w'.cell? ⟨w.heap.size, 3, none⟩ = some (.int .i64 (op : Nat)) ∧ w'.cell? ⟨w.heap.size, 1, none⟩ = some (.slice (some ⟨g, o, none⟩) n cap) ∧ w.heap.size < w'.heap.size) (by kernel_rfl) (by exact hS0) (fun hSx => ?_)
    clear hSx
    refine takeS_on (i := 0) 11 (v := ?v173) rfl rfl (by kernel_rfl) (by kernel_rfl) (by kernel_rfl) (fun _ _ _ h => h) (by kernel_rfl) ?hy173 (by exact hS0) ?_
    case hy173 => (intro w' hSw; go_simp; try (with_reducible rfl))
    simp only [Act.put, List.setIfInBounds_toArray, List.set_cons_zero, List.set_cons_succ]
    refine takeS_on (i := 1) 12 (v := ?v174) rfl rfl (by kernel_rfl) (by kernel_rfl) (by kernel_rfl) (fun _ _ _ h => h) (by kernel_rfl) ?hy174 (by exact hS0) ?_
    case hy174 => (intro w' hSw; go_simp; try (with_reducible rfl))
    simp only [Act.put, List.setIfInBounds_toArray, List.set_cons_zero, List.set_cons_succ]
    refine takeS_on (i := 2) 13 (v := ?v175) rfl rfl (by kernel_rfl) (by kernel_rfl) (by kernel_rfl) (fun _ _ _ h => h) (by kernel_rfl) ?hy175 (by exact hS0) ?_
    case hy175 => (intro w' hSw; go_simp; try (with_reducible rfl))
    simp only [Act.put, List.setIfInBounds_toArray, List.set_cons_zero, List.set_cons_succ]
    refine takeS_on (i := 3) 14 (v := ?v176) rfl rfl (by kernel_rfl) (by kernel_rfl) (by kernel_rfl) (fun _ _ _ h => h) (by kernel_rfl) ?hy176 (by exact hS0) ?_
    case hy176 => (intro w' hSw; go_simp; try (with_reducible rfl))
    simp only [Act.put, List.setIfInBounds_toArray, List.set_cons_zero, List.set_cons_succ]
    refine takeS_on (i := 4) 15 (v := ?v177) rfl rfl (by kernel_rfl) (by kernel_rfl) (by kernel_rfl) (fun _ _ _ h => h) (by kernel_rfl) ?hy177 (by exact hS0) ?_
    case hy177 => (intro w' hSw; go_simp; try (with_reducible rfl))
    simp only [Act.put, List.setIfInBounds_toArray, List.set_cons_zero, List.set_cons_succ]
    refine wpAnyH_ready (rs := [5, 10]) (by kernel_rfl) (by simp) (AllReadyH.cons rfl (fun K hK => ?_) (AllReadyH.cons rfl (fun K hK => ?_) AllReadyH.nil))
    · go_simp
      refine (HFD.out _ (Gr.trans HGV.out (Ch.drew (Gr.refl V)))).mono ?_
      rintro e w3 ⟨rfl, g3⟩
      have k3 : Gr V w3 := Gr.trans (Ch.drew (Gr.refl V)) g3
      have hS_w3 : (fun w' => w'.cell? ⟨w.heap.size, 3, none⟩ = some (.int .i64 (op : Nat)) ∧ w'.cell? ⟨w.heap.size, 1, none⟩ = some (.slice (some ⟨g, o, none⟩) n cap) ∧ w.heap.size < w'.heap.size) w3 := ⟨(Ch.cell k3 lB (noB _)).trans x3, (Ch.cell k3 lB (noB _)).trans x1, Nat.lt_of_lt_of_le lB (Ch.size k3)⟩
      have K3 := hid k3
      clear k3 g3
      refine hK.out _ _ (by exact hS_w3) (fun hSx => ?_)
      clear hSx hK K
      refine takeS_on (i := 6) 10 (v := ?v178) rfl rfl (by kernel_rfl) (by kernel_rfl) (by kernel_rfl) (fun _ _ _ h => h) (by kernel_rfl) ?hy178 (by exact hS_w3) ?_
      case hy178 => (intro w' hSw; go_simp; try (with_reducible rfl))
      simp only [Act.put, List.setIfInBounds_toArray, List.set_cons_zero, List.set_cons_succ]
      refine takeS_on (i := 7) 17 (v := ?v179) rfl rfl (by kernel_rfl) (by kernel_rfl) (by kernel_rfl) (fun _ _ _ h => h) (by kernel_rfl) ?hy179 (by exact hS_w3) ?_
      case hy179 => (intro w' hSw; go_simp; try (with_reducible rfl))
      simp only [Act.put, List.setIfInBounds_toArray, List.set_cons_zero, List.set_cons_succ]
      refine takeS_on (i := 8) 18 (v := ?v180) rfl rfl (by kernel_rfl) (by kernel_rfl) (by kernel_rfl) (fun _ _ _ h => h) (by kernel_rfl) ?hy180 (by exact hS_w3) ?_
      case hy180 => (intro w' hSw; go_simp; try (with_reducible rfl))
      simp only [Act.put, List.setIfInBounds_toArray, List.set_cons_zero, List.set_cons_succ]
      refine takeS_on (i := 9) 19 (v := ?v181) rfl rfl (by kernel_rfl) (by kernel_rfl) (by kernel_rfl) (fun _ _ _ h => h) (by kernel_rfl) ?hy181 (by exact hS_w3) ?_
      case hy181 => (intro w' hSw; go_simp; try (with_reducible rfl))
      simp only [Act.put, List.setIfInBounds_toArray, List.set_cons_zero, List.set_cons_succ]
      refine wpAnyH_ready (rs := [10]) (by kernel_rfl) (by simp) (AllReadyH.cons rfl (fun K hK => ?_) AllReadyH.nil)
      go_simp
      have hS_a : (fun w' => w'.cell? ⟨w.heap.size, 3, none⟩ = some (.int .i64 (op : Nat)) ∧ w'.cell? ⟨w.heap.size, 1, none⟩ = some (.slice (some ⟨g, o, none⟩) n cap) ∧ w.heap.size < w'.heap.size) (w3.alloc (.cells #[.int .i64 0, .int .i64 0, .int .i64 0, .int .i64 0, .int .i64 0] 67)) := ⟨(Ch.cell (Ch.alloc K3.out _) lB (noB _)).trans x3, (Ch.cell (Ch.alloc K3.out _) lB (noB _)).trans x1, Nat.lt_of_lt_of_le lB (Ch.size (Ch.alloc K3.out (.cells #[.int .i64 0, .int .i64 0, .int .i64 0, .int .i64 0, .int .i64 0] 67)))⟩
      refine hK.out _ _ (by exact hS_a) (fun hSx => ?_)
      clear hSx hK K
      refine wpAnyH_ready (rs := [11]) (by kernel_rfl) (by simp) (AllReadyH.cons rfl (fun K hK => ?_) AllReadyH.nil)
      go_simp
      have hS_b : (fun w' => w'.cell? ⟨w.heap.size, 3, none⟩ = some (.int .i64 (op : Nat)) ∧ w'.cell? ⟨w.heap.size, 1, none⟩ = some (.slice (some ⟨g, o, none⟩) n cap) ∧ w.heap.size < w'.heap.size) (w3.alloc (.cells #[.int .i64 I.1, .int .i64 I.2.1, .int .i64 I.2.2.1, .int .i64 I.2.2.2.1, .int .i64 I.2.2.2.2] 67)) := ⟨(Ch.cell (Ch.alloc K3.out _) lB (noB _)).trans x3, (Ch.cell (Ch.alloc K3.out _) lB (noB _)).trans x1, Nat.lt_of_lt_of_le lB (Ch.size (Ch.alloc K3.out (.cells #[.int .i64 I.1, .int .i64 I.2.1, .int .i64 I.2.2.1, .int .i64 I.2.2.2.1, .int .i64 I.2.2.2.2] 67)))⟩
      refine hK.out _ _ (by exact hS_b) (fun hSx => ?_)
      clear hSx hK K
      refine takeS_on (i := 12) 6 (v := ?v182) rfl rfl (by kernel_rfl) (by kernel_rfl) (by kernel_rfl) (fun _ _ _ h => h) (by kernel_rfl) ?hy182 (by exact hS_b) ?_
      case hy182 => (intro w' hSw; go_simp; try (with_reducible rfl))
      simp only [Act.put, List.setIfInBounds_toArray, List.set_cons_zero, List.set_cons_succ]
      refine takeS_on (i := 13) 7 (v := ?v183) rfl rfl (by kernel_rfl) (by kernel_rfl) (by kernel_rfl) (fun _ _ _ h => h) (by kernel_rfl) ?hy183 (by exact hS_b) ?_
      case hy183 => (intro w' hSw; go_simp; try (with_reducible rfl))
      simp only [Act.put, List.setIfInBounds_toArray, List.set_cons_zero, List.set_cons_succ]
      refine wpAnyH_done (by kernel_rfl) ?_ _
      clear hS0 hS_w3 hS_a hS_b
      go_wp2_with fail
      go_meet
      exact ⟨w3.heap.size, rfl, rfl, rfl, K3.out.size, (MapKept.heap_alloc w3 _).1, Ch.alloc K3.out _⟩
    · go_simp
      have hS_a : (fun w' => w'.cell? ⟨w.heap.size, 3, none⟩ = some (.int .i64 (op : Nat)) ∧ w'.cell? ⟨w.heap.size, 1, none⟩ = some (.slice (some ⟨g, o, none⟩) n cap) ∧ w.heap.size < w'.heap.size) (V.alloc (.cells #[.int .i64 0, .int .i64 0, .int .i64 0, .int .i64 0, .int .i64 0] 67)).drew := ⟨(Ch.cell (Ch.drew (Ch.alloc (Gr.refl V) _)) lB (noB _)).trans x3, (Ch.cell (Ch.drew (Ch.alloc (Gr.refl V) _)) lB (noB _)).trans x1, Nat.lt_of_lt_of_le lB (Ch.size (Ch.drew (Ch.alloc (Gr.refl V) (.cells #[.int .i64 0, .int .i64 0, .int .i64 0, .int .i64 0, .int .i64 0] 67))))⟩
      refine hK.out _ _ (by exact hS_a) (fun hSx => ?_)
      clear hSx hK K
      refine wpAnyH_ready (rs := [5]) (by kernel_rfl) (by simp) (AllReadyH.cons rfl (fun K hK => ?_) AllReadyH.nil)
      go_simp
      refine (HFD.out _ (Gr.trans HGV.out (Ch.drew (Ch.alloc (Gr.refl V) _)))).mono ?_
      rintro e w3 ⟨rfl, g3⟩
      have hb3 : w3.heap[V.heap.size]? = some (.cells #[.int .i64 0, .int .i64 0, .int .i64 0, .int .i64 0, .int .i64 0] 67 (0, 0)) := gr_blk (w := (V.alloc (.cells #[.int .i64 0, .int .i64 0, .int .i64 0, .int .i64 0, .int .i64 0] 67)).drew) (MapKept.heap_alloc V (.cells #[.int .i64 0, .int .i64 0, .int .i64 0, .int .i64 0, .int .i64 0] 67)).1 g3
      have k3 : Gr V w3 := Gr.trans (Ch.drew (Ch.alloc (Gr.refl V) _)) g3
      have hS_w3 : (fun w' => w'.cell? ⟨w.heap.size, 3, none⟩ = some (.int .i64 (op : Nat)) ∧ w'.cell? ⟨w.heap.size, 1, none⟩ = some (.slice (some ⟨g, o, none⟩) n cap) ∧ w.heap.size < w'.heap.size) w3 := ⟨(Ch.cell k3 lB (noB _)).trans x3, (Ch.cell k3 lB (noB _)).trans x1, Nat.lt_of_lt_of_le lB (Ch.size k3)⟩
      have K3 := hid k3
      have HB3 := hid hb3
      obtain ⟨u0, u1, u2, u3, u4, uz, ul⟩ := Box.of hb3
      have y0 := uz 0
      have y1 := uz 1
      have y2 := uz 2
      have y3 := uz 3
      have y4 := uz 4
      clear k3 g3 hb3 uz
      refine hK.out _ _ (by exact hS_w3) (fun hSx => ?_)
      clear hSx hK K
      refine takeS_on (i := 6) 10 (v := ?v184) rfl rfl (by kernel_rfl) (by kernel_rfl) (by kernel_rfl) (fun _ _ _ h => h) (by kernel_rfl) ?hy184 (by exact hS_w3) ?_
      case hy184 => (intro w' hSw; go_simp; try (with_reducible rfl))
      simp only [Act.put, List.setIfInBounds_toArray, List.set_cons_zero, List.set_cons_succ]
      refine takeS_on (i := 7) 17 (v := ?v185) rfl rfl (by kernel_rfl) (by kernel_rfl) (by kernel_rfl) (fun _ _ _ h => h) (by kernel_rfl) ?hy185 (by exact hS_w3) ?_
      case hy185 => (intro w' hSw; go_simp; try (with_reducible rfl))
      simp only [Act.put, List.setIfInBounds_toArray, List.set_cons_zero, List.set_cons_succ]
      refine takeS_on (i := 8) 18 (v := ?v186) rfl rfl (by kernel_rfl) (by kernel_rfl) (by kernel_rfl) (fun _ _ _ h => h) (by kernel_rfl) ?hy186 (by exact hS_w3) ?_
      case hy186 => (intro w' hSw; go_simp; try (with_reducible rfl))
      simp only [Act.put, List.setIfInBounds_toArray, List.set_cons_zero, List.set_cons_succ]
      refine takeS_on (i := 9) 19 (v := ?v187) rfl rfl (by kernel_rfl) (by kernel_rfl) (by kernel_rfl) (fun _ _ _ h => h) (by kernel_rfl) ?hy187 (by exact hS_w3) ?_
      case hy187 => (intro w' hSw; go_simp; try (with_reducible rfl))
      simp only [Act.put, List.setIfInBounds_toArray, List.set_cons_zero, List.set_cons_succ]
      refine wpAnyH_ready (rs := [11]) (by kernel_rfl) (by simp) (AllReadyH.cons rfl (fun K hK => ?_) AllReadyH.nil)
      go_simp
      have k4 : Gr V (((((w3.setCell ⟨V.heap.size, 0, none⟩ (.int .i64 I.1)).setCell ⟨V.heap.size, 1, none⟩ (.int .i64 I.2.1)).setCell ⟨V.heap.size, 2, none⟩ (.int .i64 I.2.2.1)).setCell ⟨V.heap.size, 3, none⟩ (.int .i64 I.2.2.2.1)).setCell ⟨V.heap.size, 4, none⟩ (.int .i64 I.2.2.2.2)) := fr5 K3.out (Nat.le_refl _) _ _ _ _ _
      have hS_b : (fun w' => w'.cell? ⟨w.heap.size, 3, none⟩ = some (.int .i64 (op : Nat)) ∧ w'.cell? ⟨w.heap.size, 1, none⟩ = some (.slice (some ⟨g, o, none⟩) n cap) ∧ w.heap.size < w'.heap.size) (((((w3.setCell ⟨V.heap.size, 0, none⟩ (.int .i64 I.1)).setCell ⟨V.heap.size, 1, none⟩ (.int .i64 I.2.1)).setCell ⟨V.heap.size, 2, none⟩ (.int .i64 I.2.2.1)).setCell ⟨V.heap.size, 3, none⟩ (.int .i64 I.2.2.2.1)).setCell ⟨V.heap.size, 4, none⟩ (.int .i64 I.2.2.2.2)) := ⟨(Ch.cell k4 lB (noB _)).trans x3, (Ch.cell k4 lB (noB _)).trans x1, Nat.lt_of_lt_of_le lB (Ch.size k4)⟩
      clear k4
      refine hK.out _ _ (by exact hS_b) (fun hSx => ?_)
      clear hSx hK K
      refine takeS_on (i := 12) 6 (v := ?v188) rfl rfl (by kernel_rfl) (by kernel_rfl) (by kernel_rfl) (fun _ _ _ h => h) (by kernel_rfl) ?hy188 (by exact hS_b) ?_
      case hy188 => (intro w' hSw; go_simp; try (with_reducible rfl))
      simp only [Act.put, List.setIfInBounds_toArray, List.set_cons_zero, List.set_cons_succ]
      refine takeS_on (i := 13) 7 (v := ?v189) rfl rfl (by kernel_rfl) (by kernel_rfl) (by kernel_rfl) (fun _ _ _ h => h) (by kernel_rfl) ?hy189 (by exact hS_b) ?_
      case hy189 => (intro w' hSw; go_simp; try (with_reducible rfl))
      simp only [Act.put, List.setIfInBounds_toArray, List.set_cons_zero, List.set_cons_succ]
      refine wpAnyH_done (by kernel_rfl) ?_ _
      clear hS0 hS_w3 hS_a hS_b u0 u1 u2 u3 u4 y0 y1 y2 y3 y4 ul
      go_wp2_with fail
      go_meet
      exact ⟨V.heap.size, rfl, rfl, rfl, Nat.le_refl _, st5 HB3.out _ _ _ _ _, fr5 K3.out (Nat.le_refl _) _ _ _ _ _⟩
  case rest =>
    obtain ⟨kb, rfl, rfl, rfl, hkb, hbk, hgc⟩ := hcut
    have hbx := gr_blk HBx.out hgc
    obtain ⟨b0, b1, b2, b3, b4, -, bl⟩ := Box.of hbx
    obtain ⟨i0, i1, i2, i3, i4, iz, il⟩ := Box.of hbk
    have hrd := HH.out.gr (Gr.trans HGV.out hgc)
    have hbR := hrd.blk
    obtain ⟨r0, r1, r2, r3, r4, r5, rz, rl⟩ := Six.of hbR
    have HRD := hid hrd
    have HGC := hid hgc
    have HKB := hid hkb
    have HBK := hid hbk
    clear hbx hrd hbR hgc hkb hbk rz iz x3 x1 lB
    have hE := HE0.out
    subst hE
    rw [hiF] at r4
    rw [hiT] at r5
    obtain ⟨mF, f, hmF, hf0⟩ : ∃ mF f, x.fn.length = mF + 1 ∧ x.fn[mF]? = some f := by
      have h0 := HO.out.f hiF
      have h3 : 0 < x.fn.length := List.length_pos_iff.2 h0
      exact ⟨x.fn.length - 1, x.fn[x.fn.length - 1], by omega, List.getElem?_eq_getElem (by omega)⟩
    obtain ⟨gF, cF, hvF, bF, lF, kF, -, -, -⟩ := HRD.out.bumpF hf0
    subst hvF
    rw [hmF] at r1 HRD HH kF
    obtain ⟨aoa, ca, hva⟩ := HRD.out.a.form
    obtain ⟨na, hna⟩ : ∃ n, n = x.ask.length := ⟨_, rfl⟩
    rw [← hna] at hva
    subst hva
    have HNA := hid hna
    have hal := Hf.out.a
    rw [← hna] at hal
    have hfl := Hf.out.f
    rw [hmF] at hfl
    clear hna
    have hf2 : (f.2 : Int) < 9223372036854775807 := by have := hfb f (List.mem_of_getElem? hf0); omega
    have hwm : IntKind.i64.wrap ((mF : Nat) : Int) = ((mF : Nat) : Int) := IntWalk.i64_in _ (by omega)
    have hwf : IntKind.i64.wrap (((f.2 : Nat) : Int) + 1) = ((f.2 : Nat) : Int) + 1 := IntWalk.i64_in _ (by omega)
    have m0 : (0 : Int) ≤ ((mF : Nat) : Int) := by omega
    have m1 : ((mF : Nat) : Int) < ((mF : Nat) : Int) + 1 := by omega
    have hwc : wc.heap.size < wc.heap.size + 1 := by omega
    obtain ⟨kA, hkA⟩ : ∃ kA, kA = wc.heap.size := ⟨_, rfl⟩
    have HKA := hid hkA
    have HRS := hid (show roS x num op wt = { x with ask := x.ask ++ [⟨num, I, NX⟩], fn := x.fn.set mF (f.1, f.2 + 1) } by rw [HRS0.out, modify_last' x.fn mF f _ hmF hf0])
    have hem := emp A
    by_cases hA0 : 0 < A.size
    · have hNX : NX = insN x (knd (op : Nat)) A := by rw [HNX.out]; unfold roN; rw [← HA.out, if_pos hA0]
      have hei : A.toList.isEmpty = false := by rw [hem]; simp [hA0]
      have HND := hid (named_any (op : Nat))
      have HIN := hid (fun (W : World) (q : Rd base R M W (.slice aoa na ca) (.slice (some ⟨gF, 0, none⟩) (mF + 1) cF) vt ts x) => inside_any base R M W _ _ _ ts x (knd (op : Nat)) A (by rw [hmF]; omega) q)
      rw [← hNX] at HIN
      obtain ⟨KD, hKD⟩ : ∃ KD, KD = knd (op : Nat) := ⟨_, rfl⟩
      rw [← hKD] at HND HIN
      unfold kV at HIN
      have hRA := HRD.out.gr (Gr.alloc (Gr.refl wc) #[.int .i64 (num : Nat), .int .i64 I.1, .int .i64 I.2.1, .int .i64 I.2.2.1, .int .i64 I.2.2.2.1, .int .i64 I.2.2.2.2, .int .i64 0, .int .i64 0, .string ⟨#[]⟩] 102)
      have HRA := hid hRA
      have HBA := hid (MapKept.heap_alloc wc (.cells #[.int .i64 (num : Nat), .int .i64 I.1, .int .i64 I.2.1, .int .i64 I.2.2.1, .int .i64 I.2.2.2.1, .int .i64 I.2.2.2.2, .int .i64 0, .int .i64 0, .string ⟨#[]⟩] 102)).1
      have HGA := hid (Gr.alloc (Gr.refl wc) #[.int .i64 (num : Nat), .int .i64 I.1, .int .i64 I.2.1, .int .i64 I.2.2.1, .int .i64 I.2.2.2.1, .int .i64 I.2.2.2.2, .int .i64 0, .int .i64 0, .string ⟨#[]⟩] 102)
      clear hem hNX hKD hRA hkA
      go_wp2_with (first | (go_at_call 78; refine (HND.out _).mono ?_; rintro e w4 ⟨rfl, hw⟩; have hw := hw.symm; subst hw) | (go_at_call 95; refine (HIN.out _ HRA.out).mono ?_; rintro e w5 ⟨rfl, g5⟩; have hb5 := gr_blk HBA.out g5; have n6 : w5.cell? ⟨wc.heap.size, 6, none⟩ = some (.int .i64 0) := (cell_of hb5 6).trans rfl; have n7 : w5.cell? ⟨wc.heap.size, 7, none⟩ = some (.int .i64 0) := (cell_of hb5 7).trans rfl; have n8 : w5.cell? ⟨wc.heap.size, 8, none⟩ = some (.string ⟨#[]⟩) := (cell_of hb5 8).trans rfl; have z6 := frozen_of hb5 6; have z7 := frozen_of hb5 7; have z8 := frozen_of hb5 8; have HB5 := hid hb5; have HG5 := hid (Gr.trans HGA.out g5); clear hb5 g5))
      have HBW := hid (show (((w5.setCell ⟨wc.heap.size, 6, none⟩ (.int .i64 NX.1)).setCell ⟨wc.heap.size, 7, none⟩ (.int .i64 NX.2.1)).setCell ⟨wc.heap.size, 8, none⟩ (.string NX.2.2)).heap[wc.heap.size]? = some (.cells #[.int .i64 (num : Nat), .int .i64 I.1, .int .i64 I.2.1, .int .i64 I.2.2.1, .int .i64 I.2.2.2.1, .int .i64 I.2.2.2.2, .int .i64 NX.1, .int .i64 NX.2.1, .string NX.2.2] 102 (0, 0)) by simpa using setCell_block (setCell_block (setCell_block HB5.out 6 (.int .i64 NX.1)) 7 (.int .i64 NX.2.1)) 8 (.string NX.2.2))
      have KW := hid (show Gr wc (((w5.setCell ⟨wc.heap.size, 6, none⟩ (.int .i64 NX.1)).setCell ⟨wc.heap.size, 7, none⟩ (.int .i64 NX.2.1)).setCell ⟨wc.heap.size, 8, none⟩ (.string NX.2.2)) from ((HG5.out.fresh (Nat.le_refl _) _ _).fresh (Nat.le_refl _) _ _).fresh (Nat.le_refl _) _ _)
      clear n6 n7 n8 z6 z7 z8
      generalize ((w5.setCell ⟨wc.heap.size, 6, none⟩ (.int .i64 NX.1)).setCell ⟨wc.heap.size, 7, none⟩ (.int .i64 NX.2.1)).setCell ⟨wc.heap.size, 8, none⟩ (.string NX.2.2) = W at HBW KW ⊢
      rw [← HKA.out] at HBW ⊢
      have HWW : Hid (Gr w W) := hid (Gr.trans (Gr.trans HGV.out HGC.out) KW.out)
      have RW := hid (HRD.out.gr KW.out)
      have a0 : W.cell? ⟨kA, 0, none⟩ = some (.int .i64 (num : Nat)) := (cell_of HBW.out 0).trans rfl
      have a1 : W.cell? ⟨kA, 1, none⟩ = some (.int .i64 I.1) := (cell_of HBW.out 1).trans rfl
      have a2 : W.cell? ⟨kA, 2, none⟩ = some (.int .i64 I.2.1) := (cell_of HBW.out 2).trans rfl
      have a3 : W.cell? ⟨kA, 3, none⟩ = some (.int .i64 I.2.2.1) := (cell_of HBW.out 3).trans rfl
      have a4 : W.cell? ⟨kA, 4, none⟩ = some (.int .i64 I.2.2.2.1) := (cell_of HBW.out 4).trans rfl
      have a5 : W.cell? ⟨kA, 5, none⟩ = some (.int .i64 I.2.2.2.2) := (cell_of HBW.out 5).trans rfl
      have a6 : W.cell? ⟨kA, 6, none⟩ = some (.int .i64 NX.1) := (cell_of HBW.out 6).trans rfl
      have a7 : W.cell? ⟨kA, 7, none⟩ = some (.int .i64 NX.2.1) := (cell_of HBW.out 7).trans rfl
      have a8 : W.cell? ⟨kA, 8, none⟩ = some (.string NX.2.2) := (cell_of HBW.out 8).trans rfl
      have kl : kA < W.heap.size := lt_of_block HBW.out
      have rlW : R < W.heap.size := lt_of_block RW.out.blk
      have r0W : W.cell? ⟨R, 0, none⟩ = some (.slice aoa na ca) := (cell_of RW.out.blk 0).trans rfl
      have Rk : ¬ R = kA := by have := RW.out.ltR; have := HRD.out.ltB; have := HKA.out; omega
      clear b0 b1 b2 b3 b4 bl i0 i1 i2 i3 i4 il r0 r1 r2 r3 r4 r5 rl hwc
      have hS0 : (fun w' => w'.cell? ⟨kA, 0, none⟩ = some (.int .i64 (num : Nat)) ∧ w'.cell? ⟨kA, 1, none⟩ = some (.int .i64 I.1) ∧ w'.cell? ⟨kA, 2, none⟩ = some (.int .i64 I.2.1) ∧ w'.cell? ⟨kA, 3, none⟩ = some (.int .i64 I.2.2.1) ∧ w'.cell? ⟨kA, 4, none⟩ = some (.int .i64 I.2.2.2.1) ∧ w'.cell? ⟨kA, 5, none⟩ = some (.int .i64 I.2.2.2.2) ∧ w'.cell? ⟨kA, 6, none⟩ = some (.int .i64 NX.1) ∧ w'.cell? ⟨kA, 7, none⟩ = some (.int .i64 NX.2.1) ∧ w'.cell? ⟨kA, 8, none⟩ = some (.string NX.2.2) ∧ kA < w'.heap.size) W.drew := ⟨a0, a1, a2, a3, a4, a5, a6, a7, a8, kl⟩
      refine wp_region_held_drew (S := fun w' => w'.cell? ⟨kA, 0, none⟩ = some (.int .i64 (num : Nat)) ∧ w'.cell? ⟨kA, 1, none⟩ = some (.int .i64 I.1) ∧ w'.cell? ⟨kA, 2, none⟩ = some (.int .i64 I.2.1) ∧ w'.cell? ⟨kA, 3, none⟩ = some (.int .i64 I.2.2.1) ∧ w'.cell? ⟨kA, 4, none⟩ = some (.int .i64 I.2.2.2.1) ∧ w'.cell? ⟨kA, 5, none⟩ = some (.int .i64 I.2.2.2.2) ∧ w'.cell? ⟨kA, 6, none⟩ = some (.int .i64 NX.1) ∧ w'.cell? ⟨kA, 7, none⟩ = some (.int .i64 NX.2.1) ∧ w'.cell? ⟨kA, 8, none⟩ = some (.string NX.2.2) ∧ kA < w'.heap.size) (by kernel_rfl) (by exact hS0) (fun hSx => ?_)
      clear hSx
      refine takeS_on (i := 0) 85 (v := ?v35) rfl rfl (by kernel_rfl) (by kernel_rfl) (by kernel_rfl) (fun _ _ _ h => h) (by kernel_rfl) ?hy35 (by exact hS0) ?_
      case hy35 => (intro w' hSw; go_simp; try (with_reducible rfl))
      simp only [Act.put, List.setIfInBounds_toArray, List.set_cons_zero, List.set_cons_succ]
      refine takeS_on (i := 1) 86 (v := ?v36) rfl rfl (by kernel_rfl) (by kernel_rfl) (by kernel_rfl) (fun _ _ _ h => h) (by kernel_rfl) ?hy36 (by exact hS0) ?_
      case hy36 => (intro w' hSw; go_simp; try (with_reducible rfl))
      simp only [Act.put, List.setIfInBounds_toArray, List.set_cons_zero, List.set_cons_succ]
      refine takeS_on (i := 2) 87 (v := ?v37) rfl rfl (by kernel_rfl) (by kernel_rfl) (by kernel_rfl) (fun _ _ _ h => h) (by kernel_rfl) ?hy37 (by exact hS0) ?_
      case hy37 => (intro w' hSw; go_simp; try (with_reducible rfl))
      simp only [Act.put, List.setIfInBounds_toArray, List.set_cons_zero, List.set_cons_succ]
      refine takeS_on (i := 3) 88 (v := ?v38) rfl rfl (by kernel_rfl) (by kernel_rfl) (by kernel_rfl) (fun _ _ _ h => h) (by kernel_rfl) ?hy38 (by exact hS0) ?_
      case hy38 => (intro w' hSw; go_simp; try (with_reducible rfl))
      simp only [Act.put, List.setIfInBounds_toArray, List.set_cons_zero, List.set_cons_succ]
      refine takeS_on (i := 5) 90 (v := ?v39) rfl rfl (by kernel_rfl) (by kernel_rfl) (by kernel_rfl) (fun _ _ _ h => h) (by kernel_rfl) ?hy39 (by exact hS0) ?_
      case hy39 => (intro w' hSw; go_simp; try (with_reducible rfl))
      simp only [Act.put, List.setIfInBounds_toArray, List.set_cons_zero, List.set_cons_succ]
      refine wpAnyH_ready (rs := [4, 6]) (by kernel_rfl) (by simp) (AllReadyH.cons rfl (fun K hK => ?_) (AllReadyH.cons rfl (fun K hK => ?_) AllReadyH.nil))
      · go_simp
        refine hK.out _ _ (by exact hS0) (fun hSx => ?_)
        clear hSx hK K
        refine wpAnyH_ready (rs := [6]) (by kernel_rfl) (by simp) (AllReadyH.cons rfl (fun K hK => ?_) AllReadyH.nil)
        go_simp
        have hS_c : (fun w' => w'.cell? ⟨kA, 0, none⟩ = some (.int .i64 (num : Nat)) ∧ w'.cell? ⟨kA, 1, none⟩ = some (.int .i64 I.1) ∧ w'.cell? ⟨kA, 2, none⟩ = some (.int .i64 I.2.1) ∧ w'.cell? ⟨kA, 3, none⟩ = some (.int .i64 I.2.2.1) ∧ w'.cell? ⟨kA, 4, none⟩ = some (.int .i64 I.2.2.2.1) ∧ w'.cell? ⟨kA, 5, none⟩ = some (.int .i64 I.2.2.2.2) ∧ w'.cell? ⟨kA, 6, none⟩ = some (.int .i64 NX.1) ∧ w'.cell? ⟨kA, 7, none⟩ = some (.int .i64 NX.2.1) ∧ w'.cell? ⟨kA, 8, none⟩ = some (.string NX.2.2) ∧ kA < w'.heap.size) (W.alloc (.cells #[.int .i64 (num : Nat), .int .i64 I.1, .int .i64 I.2.1, .int .i64 I.2.2.1, .int .i64 I.2.2.2.1, .int .i64 I.2.2.2.2, .int .i64 NX.1, .int .i64 NX.2.1, .string NX.2.2] 102)).drew := ⟨(Ch.cell (Ch.drew (Ch.alloc (Gr.refl W) _)) kl (noB _)).trans a0, (Ch.cell (Ch.drew (Ch.alloc (Gr.refl W) _)) kl (noB _)).trans a1, (Ch.cell (Ch.drew (Ch.alloc (Gr.refl W) _)) kl (noB _)).trans a2, (Ch.cell (Ch.drew (Ch.alloc (Gr.refl W) _)) kl (noB _)).trans a3, (Ch.cell (Ch.drew (Ch.alloc (Gr.refl W) _)) kl (noB _)).trans a4, (Ch.cell (Ch.drew (Ch.alloc (Gr.refl W) _)) kl (noB _)).trans a5, (Ch.cell (Ch.drew (Ch.alloc (Gr.refl W) _)) kl (noB _)).trans a6, (Ch.cell (Ch.drew (Ch.alloc (Gr.refl W) _)) kl (noB _)).trans a7, (Ch.cell (Ch.drew (Ch.alloc (Gr.refl W) _)) kl (noB _)).trans a8, Nat.lt_of_lt_of_le kl (Ch.size (Ch.drew (Ch.alloc (Gr.refl W) (.cells #[.int .i64 (num : Nat), .int .i64 I.1, .int .i64 I.2.1, .int .i64 I.2.2.1, .int .i64 I.2.2.2.1, .int .i64 I.2.2.2.2, .int .i64 NX.1, .int .i64 NX.2.1, .string NX.2.2] 102))))⟩
        refine hK.out _ _ (by exact hS_c) (fun hSx => ?_)
        clear hSx hK K
        refine wpAnyH_ready (rs := [7]) (by kernel_rfl) (by simp) (AllReadyH.cons rfl (fun K hK => ?_) AllReadyH.nil)
        refine step_append_ow eA_len rfl (.tmp 89) (.tmp 91) 49 102 80 (.agg #[.int .i64 0, .int .i64 0, .int .i64 0, .int .i64 0, .int .i64 0, .int .i64 0, .int .i64 0, .int .i64 0, .string ⟨#[]⟩]) Tryz.underlying49 ask_info rfl (by omega) rfl base (.slice aoa na ca) x.ask (by simp [Act.eval]) (RW.out.a.alloc _) _ _ [⟨num, I, NX⟩] (by simp [Act.eval]) (Ls.single W _ _ _ rfl) eA_one (na + 1) (by rw [HNA.out]; rfl) (by omega) (by unfold maxLen; omega) (by have := RW.out.ltB; simp; omega) (x.ask ++ [⟨num, I, NX⟩]) rfl ?_
        intro ao6 cap6 w6 ow6 cw6 bl6
        have nk : ¬ Blk (.slice aoa na ca) kA := fun e => by have := (HRD.out.a.blk e).2; have := HKA.out; omega
        have hS_d : (fun w' => w'.cell? ⟨kA, 0, none⟩ = some (.int .i64 (num : Nat)) ∧ w'.cell? ⟨kA, 1, none⟩ = some (.int .i64 I.1) ∧ w'.cell? ⟨kA, 2, none⟩ = some (.int .i64 I.2.1) ∧ w'.cell? ⟨kA, 3, none⟩ = some (.int .i64 I.2.2.1) ∧ w'.cell? ⟨kA, 4, none⟩ = some (.int .i64 I.2.2.2.1) ∧ w'.cell? ⟨kA, 5, none⟩ = some (.int .i64 I.2.2.2.2) ∧ w'.cell? ⟨kA, 6, none⟩ = some (.int .i64 NX.1) ∧ w'.cell? ⟨kA, 7, none⟩ = some (.int .i64 NX.2.1) ∧ w'.cell? ⟨kA, 8, none⟩ = some (.string NX.2.2) ∧ kA < w'.heap.size) w6 := ⟨(Ch.cell cw6 (Nat.lt_of_lt_of_le kl (by simp)) nk).trans ((Ch.cell (Ch.alloc (Gr.refl W) _) kl (noB _)).trans a0), (Ch.cell cw6 (Nat.lt_of_lt_of_le kl (by simp)) nk).trans ((Ch.cell (Ch.alloc (Gr.refl W) _) kl (noB _)).trans a1), (Ch.cell cw6 (Nat.lt_of_lt_of_le kl (by simp)) nk).trans ((Ch.cell (Ch.alloc (Gr.refl W) _) kl (noB _)).trans a2), (Ch.cell cw6 (Nat.lt_of_lt_of_le kl (by simp)) nk).trans ((Ch.cell (Ch.alloc (Gr.refl W) _) kl (noB _)).trans a3), (Ch.cell cw6 (Nat.lt_of_lt_of_le kl (by simp)) nk).trans ((Ch.cell (Ch.alloc (Gr.refl W) _) kl (noB _)).trans a4), (Ch.cell cw6 (Nat.lt_of_lt_of_le kl (by simp)) nk).trans ((Ch.cell (Ch.alloc (Gr.refl W) _) kl (noB _)).trans a5), (Ch.cell cw6 (Nat.lt_of_lt_of_le kl (by simp)) nk).trans ((Ch.cell (Ch.alloc (Gr.refl W) _) kl (noB _)).trans a6), (Ch.cell cw6 (Nat.lt_of_lt_of_le kl (by simp)) nk).trans ((Ch.cell (Ch.alloc (Gr.refl W) _) kl (noB _)).trans a7), (Ch.cell cw6 (Nat.lt_of_lt_of_le kl (by simp)) nk).trans ((Ch.cell (Ch.alloc (Gr.refl W) _) kl (noB _)).trans a8), Nat.lt_of_lt_of_le kl (Nat.le_trans (by simp) cw6.size)⟩
        have hb6 := (cw6.block R (Nat.lt_of_lt_of_le (lt_of_block RW.out.blk) (by simp)) (fun e => by have := (RW.out.a.blk e).1; have := RW.out.ltR; omega)).trans (al_blk RW.out.blk _)
        obtain ⟨t0, t1, t2, t3, t4, t5, tz, tl⟩ := Six.of hb6
        have tz0 := tz 0
        have HO6 := hid ow6
        have HC6 := hid cw6
        have HB6 := hid bl6
        clear ow6 cw6 bl6 hb6 tz
        refine hK.out _ _ (by exact hS_d) (fun hSx => ?_)
        change wpAnyH _ _ _ _ _ _ _ (Act.put _ (some 92) _) _
        simp only [Act.put, List.setIfInBounds_toArray, List.set_cons_zero, List.set_cons_succ]
        clear hSx hK K
        refine takeS_on (i := 8) 93 (v := ?v40) rfl rfl (by kernel_rfl) (by kernel_rfl) (by kernel_rfl) (fun _ _ _ h => h) (by kernel_rfl) ?hy40 (by exact hS_d) ?_
        case hy40 => (intro w' hSw; go_simp; try (with_reducible rfl))
        simp only [Act.put, List.setIfInBounds_toArray, List.set_cons_zero, List.set_cons_succ]
        refine takeS_on (i := 9) 94 (v := ?v41) rfl rfl (by kernel_rfl) (by kernel_rfl) (by kernel_rfl) (fun _ _ _ h => h) (by kernel_rfl) ?hy41 (by exact hS_d) ?_
        case hy41 => (intro w' hSw; go_simp; try (with_reducible rfl))
        simp only [Act.put, List.setIfInBounds_toArray, List.set_cons_zero, List.set_cons_succ]
        refine wpAnyH_ready (rs := [10]) (by kernel_rfl) (by simp) (AllReadyH.cons rfl (fun K hK => ?_) AllReadyH.nil)
        go_simp
        have k7 : Ch (Only R) w6 (w6.setCell ⟨R, 0, none⟩ (.slice ao6 (na + 1) cap6)) := (Ch.refl _ _).own _ _
        have kR : ¬ Only R kA := fun e => by have e1 : kA = R := e; have := RW.out.ltR; have := HRD.out.ltB; have := HKA.out; omega
        have hS_e : (fun w' => w'.cell? ⟨kA, 0, none⟩ = some (.int .i64 (num : Nat)) ∧ w'.cell? ⟨kA, 1, none⟩ = some (.int .i64 I.1) ∧ w'.cell? ⟨kA, 2, none⟩ = some (.int .i64 I.2.1) ∧ w'.cell? ⟨kA, 3, none⟩ = some (.int .i64 I.2.2.1) ∧ w'.cell? ⟨kA, 4, none⟩ = some (.int .i64 I.2.2.2.1) ∧ w'.cell? ⟨kA, 5, none⟩ = some (.int .i64 I.2.2.2.2) ∧ w'.cell? ⟨kA, 6, none⟩ = some (.int .i64 NX.1) ∧ w'.cell? ⟨kA, 7, none⟩ = some (.int .i64 NX.2.1) ∧ w'.cell? ⟨kA, 8, none⟩ = some (.string NX.2.2) ∧ kA < w'.heap.size) (w6.setCell ⟨R, 0, none⟩ (.slice ao6 (na + 1) cap6)) := ⟨hS_d.1 ▸ (Ch.cell k7 hS_d.2.2.2.2.2.2.2.2.2 kR), hS_d.2.1 ▸ (Ch.cell k7 hS_d.2.2.2.2.2.2.2.2.2 kR), hS_d.2.2.1 ▸ (Ch.cell k7 hS_d.2.2.2.2.2.2.2.2.2 kR), hS_d.2.2.2.1 ▸ (Ch.cell k7 hS_d.2.2.2.2.2.2.2.2.2 kR), hS_d.2.2.2.2.1 ▸ (Ch.cell k7 hS_d.2.2.2.2.2.2.2.2.2 kR), hS_d.2.2.2.2.2.1 ▸ (Ch.cell k7 hS_d.2.2.2.2.2.2.2.2.2 kR), hS_d.2.2.2.2.2.2.1 ▸ (Ch.cell k7 hS_d.2.2.2.2.2.2.2.2.2 kR), hS_d.2.2.2.2.2.2.2.1 ▸ (Ch.cell k7 hS_d.2.2.2.2.2.2.2.2.2 kR), hS_d.2.2.2.2.2.2.2.2.1 ▸ (Ch.cell k7 hS_d.2.2.2.2.2.2.2.2.2 kR), Nat.lt_of_lt_of_le hS_d.2.2.2.2.2.2.2.2.2 k7.size⟩
        refine hK.out _ _ (by exact hS_e) (fun hSx => ?_)
        clear hSx hK K
        refine wpAnyH_done (by kernel_rfl) ?_ _
        clear hS0 hS_c hS_d hS_e t0 t1 t2 t3 t4 t5 tz0 tl
        have RD7 := RW.out.newA (Ch.drew (Ch.alloc (Gr.refl W) _)) HO6.out HC6.out HB6.out
        have C7 : Ch (SR base R M) w (w6.setCell ⟨R, 0, none⟩ (.slice ao6 (na + 1) cap6)) := ((Ch.trans (Ch.any HWW.out) (Ch.drew (Ch.alloc (Gr.refl W) _)) (fun _ e => e.elim)).trans HC6.out (fun q e => .inl (.inr (.inr (RW.out.a.blk e).1)))).setCell (p := ⟨R, 0, none⟩) (.inl (.inl rfl)) _
        generalize w6.setCell ⟨R, 0, none⟩ (.slice ao6 (na + 1) cap6) = W7 at RD7 C7 ⊢
        go_wp2_with fail
        obtain ⟨gF', cF', hvF, bF, lF, kF, cF1, zF1, rd9⟩ := RD7.bumpF (m := mF) (f := f) hf0
        have hvF2 := hvF
        injection hvF2 with v1 v2 v3
        injection v1 with v1
        injection v1 with v1
        subst v1
        clear v2 v3 hvF
        have RD9 := hid (rd9.gr (Ch.drew (Gr.refl _)))
        have C9 := hid (Ch.drew (C7.setCell (p := ⟨gF, mF * 2 + 1, none⟩) (.inl (.inr (.inr bF))) (.int .i64 ((f.2 + 1 : Nat) : Int))))
        have hT00 : W7.cell? ⟨R, 1, none⟩ = some (.slice (some ⟨gF, 0, none⟩) (mF + 1) cF) := (cell_of RD7.blk 1).trans rfl
        clear RD7 C7 rd9
        have hT0 : (fun w' => w'.cell? ⟨R, 1, none⟩ = some (.slice (some ⟨gF, 0, none⟩) (mF + 1) cF)) W7.drew := hT00
        refine wp_region_held_drew (S := fun w' => w'.cell? ⟨R, 1, none⟩ = some (.slice (some ⟨gF, 0, none⟩) (mF + 1) cF)) (by kernel_rfl) (by exact hT0) (fun hSx => ?_)
        clear hSx
        refine takeS_on (i := 0) 95 (v := ?v74) rfl rfl (by kernel_rfl) (by kernel_rfl) (by kernel_rfl) (fun _ _ _ h => h) (by kernel_rfl) ?hy74 (by exact hT0) ?_
        case hy74 => (intro w' hSw; go_simp; try (with_reducible rfl))
        simp only [Act.put, List.setIfInBounds_toArray, List.set_cons_zero, List.set_cons_succ]
        refine takeS_on (i := 1) 96 (v := ?v75) rfl rfl (by kernel_rfl) (by kernel_rfl) (by kernel_rfl) (fun _ _ _ h => h) (by kernel_rfl) ?hy75 (by exact hT0) ?_
        case hy75 => (intro w' hSw; go_simp; try (with_reducible rfl))
        simp only [Act.put, List.setIfInBounds_toArray, List.set_cons_zero, List.set_cons_succ]
        refine takeS_on (i := 2) 97 (v := ?v76) rfl rfl (by kernel_rfl) (by kernel_rfl) (by kernel_rfl) (fun _ _ _ h => h) (by kernel_rfl) ?hy76 (by exact hT0) ?_
        case hy76 => (intro w' hSw; go_simp; try (with_reducible rfl))
        simp only [Act.put, List.setIfInBounds_toArray, List.set_cons_zero, List.set_cons_succ]
        refine takeS_on (i := 3) 98 (v := ?v77) rfl rfl (by kernel_rfl) (by kernel_rfl) (by kernel_rfl) (fun _ _ _ h => h) (by kernel_rfl) ?hy77 (by exact hT0) ?_
        case hy77 => (intro w' hSw; go_simp; try (with_reducible rfl))
        simp only [Act.put, List.setIfInBounds_toArray, List.set_cons_zero, List.set_cons_succ]
        refine takeS_on (i := 4) 99 (v := ?v78) rfl rfl (by kernel_rfl) (by kernel_rfl) (by kernel_rfl) (fun _ _ _ h => h) (by kernel_rfl) ?hy78 (by exact hT0) ?_
        case hy78 => (intro w' hSw; go_simp; try (with_reducible rfl))
        simp only [Act.put, List.setIfInBounds_toArray, List.set_cons_zero, List.set_cons_succ]
        refine takeS_on (i := 5) 100 (v := ?v79) rfl rfl (by kernel_rfl) (by kernel_rfl) (by kernel_rfl) (fun _ _ _ h => h) (by kernel_rfl) ?hy79 (by exact hT0) ?_
        case hy79 => (intro w' hSw; go_simp; try (with_reducible rfl))
        simp only [Act.put, List.setIfInBounds_toArray, List.set_cons_zero, List.set_cons_succ]
        refine takeS_on (i := 6) 101 (v := ?v80) rfl rfl (by kernel_rfl) (by kernel_rfl) (by kernel_rfl) (fun _ _ _ h => h) (by kernel_rfl) ?hy80 (by exact hT0) ?_
        case hy80 => (intro w' hSw; go_simp; try (with_reducible rfl))
        simp only [Act.put, List.setIfInBounds_toArray, List.set_cons_zero, List.set_cons_succ]
        refine takeS_on (i := 7) 102 (v := ?v81) rfl rfl (by kernel_rfl) (by kernel_rfl) (by kernel_rfl) (fun _ _ _ h => h) (by kernel_rfl) ?hy81 (by exact hT0) ?_
        case hy81 => (intro w' hSw; go_simp; try (with_reducible rfl))
        simp only [Act.put, List.setIfInBounds_toArray, List.set_cons_zero, List.set_cons_succ]
        refine takeS_on (i := 8) 103 (v := ?v82) rfl rfl (by kernel_rfl) (by kernel_rfl) (by kernel_rfl) (fun _ _ _ h => h) (by kernel_rfl) ?hy82 (by exact hT0) ?_
        case hy82 => (intro w' hSw; go_simp; try (with_reducible rfl))
        simp only [Act.put, List.setIfInBounds_toArray, List.set_cons_zero, List.set_cons_succ]
        refine takeS_on (i := 9) 104 (v := ?v83) rfl rfl (by kernel_rfl) (by kernel_rfl) (by kernel_rfl) (fun _ _ _ h => h) (by kernel_rfl) ?hy83 (by exact hT0) ?_
        case hy83 => (intro w' hSw; go_simp; try (with_reducible rfl))
        simp only [Act.put, List.setIfInBounds_toArray, List.set_cons_zero, List.set_cons_succ]
        refine takeS_on (i := 10) 105 (v := ?v84) rfl rfl (by kernel_rfl) (by kernel_rfl) (by kernel_rfl) (fun _ _ _ h => h) (by kernel_rfl) ?hy84 (by exact hT0) ?_
        case hy84 => (intro w' hSw; go_simp; try (with_reducible rfl))
        simp only [Act.put, List.setIfInBounds_toArray, List.set_cons_zero, List.set_cons_succ]
        refine takeS_on (i := 11) 106 (v := ?v85) rfl rfl (by kernel_rfl) (by kernel_rfl) (by kernel_rfl) (fun _ _ _ h => h) (by kernel_rfl) ?hy85 (by exact hT0) ?_
        case hy85 => (intro w' hSw; go_simp; try (with_reducible rfl))
        simp only [Act.put, List.setIfInBounds_toArray, List.set_cons_zero, List.set_cons_succ]
        refine wpAnyH_ready (rs := [12]) (by kernel_rfl) (by simp) (AllReadyH.cons rfl (fun K hK => ?_) AllReadyH.nil)
        go_simp
        refine hK.out _ _ (by exact hT0) (fun hSx => ?_)
        clear hSx hK K
        refine takeS_on (i := 13) 108 (v := ?v86) rfl rfl (by kernel_rfl) (by kernel_rfl) (by kernel_rfl) (fun _ _ _ h => h) (by kernel_rfl) ?hy86 (by exact hT0) ?_
        case hy86 => (intro w' hSw; go_simp; try (with_reducible rfl))
        simp only [Act.put, List.setIfInBounds_toArray, List.set_cons_zero, List.set_cons_succ]
        refine takeS_on (i := 14) 109 (v := ?v87) rfl rfl (by kernel_rfl) (by kernel_rfl) (by kernel_rfl) (fun _ _ _ h => h) (by kernel_rfl) ?hy87 (by exact hT0) ?_
        case hy87 => (intro w' hSw; go_simp; try (with_reducible rfl))
        simp only [Act.put, List.setIfInBounds_toArray, List.set_cons_zero, List.set_cons_succ]
        refine takeS_on (i := 15) 110 (v := ?v88) rfl rfl (by kernel_rfl) (by kernel_rfl) (by kernel_rfl) (fun _ _ _ h => h) (by kernel_rfl) ?hy88 (by exact hT0) ?_
        case hy88 => (intro w' hSw; go_simp; try (with_reducible rfl))
        simp only [Act.put, List.setIfInBounds_toArray, List.set_cons_zero, List.set_cons_succ]
        refine wpAnyH_ready (rs := [16]) (by kernel_rfl) (by simp) (AllReadyH.cons rfl (fun K hK => ?_) AllReadyH.nil)
        go_simp
        have hT1 : (fun w' => w'.cell? ⟨R, 1, none⟩ = some (.slice (some ⟨gF, 0, none⟩) (mF + 1) cF)) (W7.setCell ⟨gF, mF * 2 + 1, none⟩ (.int .i64 ((f.2 + 1 : Nat) : Int))).drew := (cell_of RD9.out.blk 1).trans rfl
        refine hK.out _ _ (by exact hT1) (fun hSx => ?_)
        clear hSx hK K
        refine wpAnyH_done (by kernel_rfl) ?_ _
        clear hT0 hT1
        go_wp2
        go_ret
        refine ⟨rfl, fun _ => ?_, C9.out, fun h => (h rfl).elim⟩
        rw [HRS.out]
        exact RD9.out.red
      · go_simp
        have hS_c : (fun w' => w'.cell? ⟨kA, 0, none⟩ = some (.int .i64 (num : Nat)) ∧ w'.cell? ⟨kA, 1, none⟩ = some (.int .i64 I.1) ∧ w'.cell? ⟨kA, 2, none⟩ = some (.int .i64 I.2.1) ∧ w'.cell? ⟨kA, 3, none⟩ = some (.int .i64 I.2.2.1) ∧ w'.cell? ⟨kA, 4, none⟩ = some (.int .i64 I.2.2.2.1) ∧ w'.cell? ⟨kA, 5, none⟩ = some (.int .i64 I.2.2.2.2) ∧ w'.cell? ⟨kA, 6, none⟩ = some (.int .i64 NX.1) ∧ w'.cell? ⟨kA, 7, none⟩ = some (.int .i64 NX.2.1) ∧ w'.cell? ⟨kA, 8, none⟩ = some (.string NX.2.2) ∧ kA < w'.heap.size) (W.alloc (.cells #[.int .i64 (num : Nat), .int .i64 I.1, .int .i64 I.2.1, .int .i64 I.2.2.1, .int .i64 I.2.2.2.1, .int .i64 I.2.2.2.2, .int .i64 NX.1, .int .i64 NX.2.1, .string NX.2.2] 102)).drew := ⟨(Ch.cell (Ch.drew (Ch.alloc (Gr.refl W) _)) kl (noB _)).trans a0, (Ch.cell (Ch.drew (Ch.alloc (Gr.refl W) _)) kl (noB _)).trans a1, (Ch.cell (Ch.drew (Ch.alloc (Gr.refl W) _)) kl (noB _)).trans a2, (Ch.cell (Ch.drew (Ch.alloc (Gr.refl W) _)) kl (noB _)).trans a3, (Ch.cell (Ch.drew (Ch.alloc (Gr.refl W) _)) kl (noB _)).trans a4, (Ch.cell (Ch.drew (Ch.alloc (Gr.refl W) _)) kl (noB _)).trans a5, (Ch.cell (Ch.drew (Ch.alloc (Gr.refl W) _)) kl (noB _)).trans a6, (Ch.cell (Ch.drew (Ch.alloc (Gr.refl W) _)) kl (noB _)).trans a7, (Ch.cell (Ch.drew (Ch.alloc (Gr.refl W) _)) kl (noB _)).trans a8, Nat.lt_of_lt_of_le kl (Ch.size (Ch.drew (Ch.alloc (Gr.refl W) (.cells #[.int .i64 (num : Nat), .int .i64 I.1, .int .i64 I.2.1, .int .i64 I.2.2.1, .int .i64 I.2.2.2.1, .int .i64 I.2.2.2.2, .int .i64 NX.1, .int .i64 NX.2.1, .string NX.2.2] 102))))⟩
        refine hK.out _ _ (by exact hS_c) (fun hSx => ?_)
        clear hSx hK K
        refine wpAnyH_ready (rs := [4]) (by kernel_rfl) (by simp) (AllReadyH.cons rfl (fun K hK => ?_) AllReadyH.nil)
        go_simp
        refine hK.out _ _ (by exact hS_c) (fun hSx => ?_)
        clear hSx hK K
        refine wpAnyH_ready (rs := [7]) (by kernel_rfl) (by simp) (AllReadyH.cons rfl (fun K hK => ?_) AllReadyH.nil)
        refine step_append_ow eA_len rfl (.tmp 89) (.tmp 91) 49 102 80 (.agg #[.int .i64 0, .int .i64 0, .int .i64 0, .int .i64 0, .int .i64 0, .int .i64 0, .int .i64 0, .int .i64 0, .string ⟨#[]⟩]) Tryz.underlying49 ask_info rfl (by omega) rfl base (.slice aoa na ca) x.ask (by simp [Act.eval]) (RW.out.a.alloc _) _ _ [⟨num, I, NX⟩] (by simp [Act.eval]) (Ls.single W _ _ _ rfl) eA_one (na + 1) (by rw [HNA.out]; rfl) (by omega) (by unfold maxLen; omega) (by have := RW.out.ltB; simp; omega) (x.ask ++ [⟨num, I, NX⟩]) rfl ?_
        intro ao6 cap6 w6 ow6 cw6 bl6
        have nk : ¬ Blk (.slice aoa na ca) kA := fun e => by have := (HRD.out.a.blk e).2; have := HKA.out; omega
        have hS_d : (fun w' => w'.cell? ⟨kA, 0, none⟩ = some (.int .i64 (num : Nat)) ∧ w'.cell? ⟨kA, 1, none⟩ = some (.int .i64 I.1) ∧ w'.cell? ⟨kA, 2, none⟩ = some (.int .i64 I.2.1) ∧ w'.cell? ⟨kA, 3, none⟩ = some (.int .i64 I.2.2.1) ∧ w'.cell? ⟨kA, 4, none⟩ = some (.int .i64 I.2.2.2.1) ∧ w'.cell? ⟨kA, 5, none⟩ = some (.int .i64 I.2.2.2.2) ∧ w'.cell? ⟨kA, 6, none⟩ = some (.int .i64 NX.1) ∧ w'.cell? ⟨kA, 7, none⟩ = some (.int .i64 NX.2.1) ∧ w'.cell? ⟨kA, 8, none⟩ = some (.string NX.2.2) ∧ kA < w'.heap.size) w6 := ⟨(Ch.cell cw6 (Nat.lt_of_lt_of_le kl (by simp)) nk).trans ((Ch.cell (Ch.alloc (Gr.refl W) _) kl (noB _)).trans a0), (Ch.cell cw6 (Nat.lt_of_lt_of_le kl (by simp)) nk).trans ((Ch.cell (Ch.alloc (Gr.refl W) _) kl (noB _)).trans a1), (Ch.cell cw6 (Nat.lt_of_lt_of_le kl (by simp)) nk).trans ((Ch.cell (Ch.alloc (Gr.refl W) _) kl (noB _)).trans a2), (Ch.cell cw6 (Nat.lt_of_lt_of_le kl (by simp)) nk).trans ((Ch.cell (Ch.alloc (Gr.refl W) _) kl (noB _)).trans a3), (Ch.cell cw6 (Nat.lt_of_lt_of_le kl (by simp)) nk).trans ((Ch.cell (Ch.alloc (Gr.refl W) _) kl (noB _)).trans a4), (Ch.cell cw6 (Nat.lt_of_lt_of_le kl (by simp)) nk).trans ((Ch.cell (Ch.alloc (Gr.refl W) _) kl (noB _)).trans a5), (Ch.cell cw6 (Nat.lt_of_lt_of_le kl (by simp)) nk).trans ((Ch.cell (Ch.alloc (Gr.refl W) _) kl (noB _)).trans a6), (Ch.cell cw6 (Nat.lt_of_lt_of_le kl (by simp)) nk).trans ((Ch.cell (Ch.alloc (Gr.refl W) _) kl (noB _)).trans a7), (Ch.cell cw6 (Nat.lt_of_lt_of_le kl (by simp)) nk).trans ((Ch.cell (Ch.alloc (Gr.refl W) _) kl (noB _)).trans a8), Nat.lt_of_lt_of_le kl (Nat.le_trans (by simp) cw6.size)⟩
        have hb6 := (cw6.block R (Nat.lt_of_lt_of_le (lt_of_block RW.out.blk) (by simp)) (fun e => by have := (RW.out.a.blk e).1; have := RW.out.ltR; omega)).trans (al_blk RW.out.blk _)
        obtain ⟨t0, t1, t2, t3, t4, t5, tz, tl⟩ := Six.of hb6
        have tz0 := tz 0
        have HO6 := hid ow6
        have HC6 := hid cw6
        have HB6 := hid bl6
        clear ow6 cw6 bl6 hb6 tz
        refine hK.out _ _ (by exact hS_d) (fun hSx => ?_)
        change wpAnyH _ _ _ _ _ _ _ (Act.put _ (some 92) _) _
        simp only [Act.put, List.setIfInBounds_toArray, List.set_cons_zero, List.set_cons_succ]
        clear hSx hK K
        refine takeS_on (i := 8) 93 (v := ?v57) rfl rfl (by kernel_rfl) (by kernel_rfl) (by kernel_rfl) (fun _ _ _ h => h) (by kernel_rfl) ?hy57 (by exact hS_d) ?_
        case hy57 => (intro w' hSw; go_simp; try (with_reducible rfl))
        simp only [Act.put, List.setIfInBounds_toArray, List.set_cons_zero, List.set_cons_succ]
        refine takeS_on (i := 9) 94 (v := ?v58) rfl rfl (by kernel_rfl) (by kernel_rfl) (by kernel_rfl) (fun _ _ _ h => h) (by kernel_rfl) ?hy58 (by exact hS_d) ?_
        case hy58 => (intro w' hSw; go_simp; try (with_reducible rfl))
        simp only [Act.put, List.setIfInBounds_toArray, List.set_cons_zero, List.set_cons_succ]
        refine wpAnyH_ready (rs := [10]) (by kernel_rfl) (by simp) (AllReadyH.cons rfl (fun K hK => ?_) AllReadyH.nil)
        go_simp
        have k7 : Ch (Only R) w6 (w6.setCell ⟨R, 0, none⟩ (.slice ao6 (na + 1) cap6)) := (Ch.refl _ _).own _ _
        have kR : ¬ Only R kA := fun e => by have e1 : kA = R := e; have := RW.out.ltR; have := HRD.out.ltB; have := HKA.out; omega
        have hS_e : (fun w' => w'.cell? ⟨kA, 0, none⟩ = some (.int .i64 (num : Nat)) ∧ w'.cell? ⟨kA, 1, none⟩ = some (.int .i64 I.1) ∧ w'.cell? ⟨kA, 2, none⟩ = some (.int .i64 I.2.1) ∧ w'.cell? ⟨kA, 3, none⟩ = some (.int .i64 I.2.2.1) ∧ w'.cell? ⟨kA, 4, none⟩ = some (.int .i64 I.2.2.2.1) ∧ w'.cell? ⟨kA, 5, none⟩ = some (.int .i64 I.2.2.2.2) ∧ w'.cell? ⟨kA, 6, none⟩ = some (.int .i64 NX.1) ∧ w'.cell? ⟨kA, 7, none⟩ = some (.int .i64 NX.2.1) ∧ w'.cell? ⟨kA, 8, none⟩ = some (.string NX.2.2) ∧ kA < w'.heap.size) (w6.setCell ⟨R, 0, none⟩ (.slice ao6 (na + 1) cap6)) := ⟨hS_d.1 ▸ (Ch.cell k7 hS_d.2.2.2.2.2.2.2.2.2 kR), hS_d.2.1 ▸ (Ch.cell k7 hS_d.2.2.2.2.2.2.2.2.2 kR), hS_d.2.2.1 ▸ (Ch.cell k7 hS_d.2.2.2.2.2.2.2.2.2 kR), hS_d.2.2.2.1 ▸ (Ch.cell k7 hS_d.2.2.2.2.2.2.2.2.2 kR), hS_d.2.2.2.2.1 ▸ (Ch.cell k7 hS_d.2.2.2.2.2.2.2.2.2 kR), hS_d.2.2.2.2.2.1 ▸ (Ch.cell k7 hS_d.2.2.2.2.2.2.2.2.2 kR), hS_d.2.2.2.2.2.2.1 ▸ (Ch.cell k7 hS_d.2.2.2.2.2.2.2.2.2 kR), hS_d.2.2.2.2.2.2.2.1 ▸ (Ch.cell k7 hS_d.2.2.2.2.2.2.2.2.2 kR), hS_d.2.2.2.2.2.2.2.2.1 ▸ (Ch.cell k7 hS_d.2.2.2.2.2.2.2.2.2 kR), Nat.lt_of_lt_of_le hS_d.2.2.2.2.2.2.2.2.2 k7.size⟩
        refine hK.out _ _ (by exact hS_e) (fun hSx => ?_)
        clear hSx hK K
        refine wpAnyH_done (by kernel_rfl) ?_ _
        clear hS0 hS_c hS_d hS_e t0 t1 t2 t3 t4 t5 tz0 tl
        have RD7 := RW.out.newA (Ch.drew (Ch.alloc (Gr.refl W) _)) HO6.out HC6.out HB6.out
        have C7 : Ch (SR base R M) w (w6.setCell ⟨R, 0, none⟩ (.slice ao6 (na + 1) cap6)) := ((Ch.trans (Ch.any HWW.out) (Ch.drew (Ch.alloc (Gr.refl W) _)) (fun _ e => e.elim)).trans HC6.out (fun q e => .inl (.inr (.inr (RW.out.a.blk e).1)))).setCell (p := ⟨R, 0, none⟩) (.inl (.inl rfl)) _
        generalize w6.setCell ⟨R, 0, none⟩ (.slice ao6 (na + 1) cap6) = W7 at RD7 C7 ⊢
        go_wp2_with fail
        obtain ⟨gF', cF', hvF, bF, lF, kF, cF1, zF1, rd9⟩ := RD7.bumpF (m := mF) (f := f) hf0
        have hvF2 := hvF
        injection hvF2 with v1 v2 v3
        injection v1 with v1
        injection v1 with v1
        subst v1
        clear v2 v3 hvF
        have RD9 := hid (rd9.gr (Ch.drew (Gr.refl _)))
        have C9 := hid (Ch.drew (C7.setCell (p := ⟨gF, mF * 2 + 1, none⟩) (.inl (.inr (.inr bF))) (.int .i64 ((f.2 + 1 : Nat) : Int))))
        have hT00 : W7.cell? ⟨R, 1, none⟩ = some (.slice (some ⟨gF, 0, none⟩) (mF + 1) cF) := (cell_of RD7.blk 1).trans rfl
        clear RD7 C7 rd9
        have hT0 : (fun w' => w'.cell? ⟨R, 1, none⟩ = some (.slice (some ⟨gF, 0, none⟩) (mF + 1) cF)) W7.drew := hT00
        refine wp_region_held_drew (S := fun w' => w'.cell? ⟨R, 1, none⟩ = some (.slice (some ⟨gF, 0, none⟩) (mF + 1) cF)) (by kernel_rfl) (by exact hT0) (fun hSx => ?_)
        clear hSx
        refine takeS_on (i := 0) 95 (v := ?v89) rfl rfl (by kernel_rfl) (by kernel_rfl) (by kernel_rfl) (fun _ _ _ h => h) (by kernel_rfl) ?hy89 (by exact hT0) ?_
        case hy89 => (intro w' hSw; go_simp; try (with_reducible rfl))
        simp only [Act.put, List.setIfInBounds_toArray, List.set_cons_zero, List.set_cons_succ]
        refine takeS_on (i := 1) 96 (v := ?v90) rfl rfl (by kernel_rfl) (by kernel_rfl) (by kernel_rfl) (fun _ _ _ h => h) (by kernel_rfl) ?hy90 (by exact hT0) ?_
        case hy90 => (intro w' hSw; go_simp; try (with_reducible rfl))
        simp only [Act.put, List.setIfInBounds_toArray, List.set_cons_zero, List.set_cons_succ]
        refine takeS_on (i := 2) 97 (v := ?v91) rfl rfl (by kernel_rfl) (by kernel_rfl) (by kernel_rfl) (fun _ _ _ h => h) (by kernel_rfl) ?hy91 (by exact hT0) ?_
        case hy91 => (intro w' hSw; go_simp; try (with_reducible rfl))
        simp only [Act.put, List.setIfInBounds_toArray, List.set_cons_zero, List.set_cons_succ]
        refine takeS_on (i := 3) 98 (v := ?v92) rfl rfl (by kernel_rfl) (by kernel_rfl) (by kernel_rfl) (fun _ _ _ h => h) (by kernel_rfl) ?hy92 (by exact hT0) ?_
        case hy92 => (intro w' hSw; go_simp; try (with_reducible rfl))
        simp only [Act.put, List.setIfInBounds_toArray, List.set_cons_zero, List.set_cons_succ]
        refine takeS_on (i := 4) 99 (v := ?v93) rfl rfl (by kernel_rfl) (by kernel_rfl) (by kernel_rfl) (fun _ _ _ h => h) (by kernel_rfl) ?hy93 (by exact hT0) ?_
        case hy93 => (intro w' hSw; go_simp; try (with_reducible rfl))
        simp only [Act.put, List.setIfInBounds_toArray, List.set_cons_zero, List.set_cons_succ]
        refine takeS_on (i := 5) 100 (v := ?v94) rfl rfl (by kernel_rfl) (by kernel_rfl) (by kernel_rfl) (fun _ _ _ h => h) (by kernel_rfl) ?hy94 (by exact hT0) ?_
        case hy94 => (intro w' hSw; go_simp; try (with_reducible rfl))
        simp only [Act.put, List.setIfInBounds_toArray, List.set_cons_zero, List.set_cons_succ]
        refine takeS_on (i := 6) 101 (v := ?v95) rfl rfl (by kernel_rfl) (by kernel_rfl) (by kernel_rfl) (fun _ _ _ h => h) (by kernel_rfl) ?hy95 (by exact hT0) ?_
        case hy95 => (intro w' hSw; go_simp; try (with_reducible rfl))
        simp only [Act.put, List.setIfInBounds_toArray, List.set_cons_zero, List.set_cons_succ]
        refine takeS_on (i := 7) 102 (v := ?v96) rfl rfl (by kernel_rfl) (by kernel_rfl) (by kernel_rfl) (fun _ _ _ h => h) (by kernel_rfl) ?hy96 (by exact hT0) ?_
        case hy96 => (intro w' hSw; go_simp; try (with_reducible rfl))
        simp only [Act.put, List.setIfInBounds_toArray, List.set_cons_zero, List.set_cons_succ]
        refine takeS_on (i := 8) 103 (v := ?v97) rfl rfl (by kernel_rfl) (by kernel_rfl) (by kernel_rfl) (fun _ _ _ h => h) (by kernel_rfl) ?hy97 (by exact hT0) ?_
        case hy97 => (intro w' hSw; go_simp; try (with_reducible rfl))
        simp only [Act.put, List.setIfInBounds_toArray, List.set_cons_zero, List.set_cons_succ]
        refine takeS_on (i := 9) 104 (v := ?v98) rfl rfl (by kernel_rfl) (by kernel_rfl) (by kernel_rfl) (fun _ _ _ h => h) (by kernel_rfl) ?hy98 (by exact hT0) ?_
        case hy98 => (intro w' hSw; go_simp; try (with_reducible rfl))
        simp only [Act.put, List.setIfInBounds_toArray, List.set_cons_zero, List.set_cons_succ]
        refine takeS_on (i := 10) 105 (v := ?v99) rfl rfl (by kernel_rfl) (by kernel_rfl) (by kernel_rfl) (fun _ _ _ h => h) (by kernel_rfl) ?hy99 (by exact hT0) ?_
        case hy99 => (intro w' hSw; go_simp; try (with_reducible rfl))
        simp only [Act.put, List.setIfInBounds_toArray, List.set_cons_zero, List.set_cons_succ]
        refine takeS_on (i := 11) 106 (v := ?v100) rfl rfl (by kernel_rfl) (by kernel_rfl) (by kernel_rfl) (fun _ _ _ h => h) (by kernel_rfl) ?hy100 (by exact hT0) ?_
        case hy100 => (intro w' hSw; go_simp; try (with_reducible rfl))
        simp only [Act.put, List.setIfInBounds_toArray, List.set_cons_zero, List.set_cons_succ]
        refine wpAnyH_ready (rs := [12]) (by kernel_rfl) (by simp) (AllReadyH.cons rfl (fun K hK => ?_) AllReadyH.nil)
        go_simp
        refine hK.out _ _ (by exact hT0) (fun hSx => ?_)
        clear hSx hK K
        refine takeS_on (i := 13) 108 (v := ?v101) rfl rfl (by kernel_rfl) (by kernel_rfl) (by kernel_rfl) (fun _ _ _ h => h) (by kernel_rfl) ?hy101 (by exact hT0) ?_
        case hy101 => (intro w' hSw; go_simp; try (with_reducible rfl))
        simp only [Act.put, List.setIfInBounds_toArray, List.set_cons_zero, List.set_cons_succ]
        refine takeS_on (i := 14) 109 (v := ?v102) rfl rfl (by kernel_rfl) (by kernel_rfl) (by kernel_rfl) (fun _ _ _ h => h) (by kernel_rfl) ?hy102 (by exact hT0) ?_
        case hy102 => (intro w' hSw; go_simp; try (with_reducible rfl))
        simp only [Act.put, List.setIfInBounds_toArray, List.set_cons_zero, List.set_cons_succ]
        refine takeS_on (i := 15) 110 (v := ?v103) rfl rfl (by kernel_rfl) (by kernel_rfl) (by kernel_rfl) (fun _ _ _ h => h) (by kernel_rfl) ?hy103 (by exact hT0) ?_
        case hy103 => (intro w' hSw; go_simp; try (with_reducible rfl))
        simp only [Act.put, List.setIfInBounds_toArray, List.set_cons_zero, List.set_cons_succ]
        refine wpAnyH_ready (rs := [16]) (by kernel_rfl) (by simp) (AllReadyH.cons rfl (fun K hK => ?_) AllReadyH.nil)
        go_simp
        have hT1 : (fun w' => w'.cell? ⟨R, 1, none⟩ = some (.slice (some ⟨gF, 0, none⟩) (mF + 1) cF)) (W7.setCell ⟨gF, mF * 2 + 1, none⟩ (.int .i64 ((f.2 + 1 : Nat) : Int))).drew := (cell_of RD9.out.blk 1).trans rfl
        refine hK.out _ _ (by exact hT1) (fun hSx => ?_)
        clear hSx hK K
        refine wpAnyH_done (by kernel_rfl) ?_ _
        clear hT0 hT1
        go_wp2
        go_ret
        refine ⟨rfl, fun _ => ?_, C9.out, fun h => (h rfl).elim⟩
        rw [HRS.out]
        exact RD9.out.red

    · have hNX : NX = (0, 0, ⟨#[]⟩) := by rw [HNX.out]; unfold roN; rw [← HA.out, if_neg hA0]
      have hei : A.toList.isEmpty = true := by rw [hem]; simp [hA0]
      subst hNX
      have HBW := hid (MapKept.heap_alloc wc (.cells #[.int .i64 (num : Nat), .int .i64 I.1, .int .i64 I.2.1, .int .i64 I.2.2.1, .int .i64 I.2.2.2.1, .int .i64 I.2.2.2.2, .int .i64 0, .int .i64 0, .string ⟨#[]⟩] 102)).1
      have KW := hid (Gr.alloc (Gr.refl wc) #[.int .i64 (num : Nat), .int .i64 I.1, .int .i64 I.2.1, .int .i64 I.2.2.1, .int .i64 I.2.2.2.1, .int .i64 I.2.2.2.2, .int .i64 0, .int .i64 0, .string ⟨#[]⟩] 102)
      clear hem hkA
      go_wp2_with fail
      generalize wc.alloc (.cells #[.int .i64 (num : Nat), .int .i64 I.1, .int .i64 I.2.1, .int .i64 I.2.2.1, .int .i64 I.2.2.2.1, .int .i64 I.2.2.2.2, .int .i64 0, .int .i64 0, .string ⟨#[]⟩] 102) = W at HBW KW ⊢
      rw [← HKA.out] at HBW ⊢
      have HWW : Hid (Gr w W) := hid (Gr.trans (Gr.trans HGV.out HGC.out) KW.out)
      have RW := hid (HRD.out.gr KW.out)
      have a0 : W.cell? ⟨kA, 0, none⟩ = some (.int .i64 (num : Nat)) := (cell_of HBW.out 0).trans rfl
      have a1 : W.cell? ⟨kA, 1, none⟩ = some (.int .i64 I.1) := (cell_of HBW.out 1).trans rfl
      have a2 : W.cell? ⟨kA, 2, none⟩ = some (.int .i64 I.2.1) := (cell_of HBW.out 2).trans rfl
      have a3 : W.cell? ⟨kA, 3, none⟩ = some (.int .i64 I.2.2.1) := (cell_of HBW.out 3).trans rfl
      have a4 : W.cell? ⟨kA, 4, none⟩ = some (.int .i64 I.2.2.2.1) := (cell_of HBW.out 4).trans rfl
      have a5 : W.cell? ⟨kA, 5, none⟩ = some (.int .i64 I.2.2.2.2) := (cell_of HBW.out 5).trans rfl
      have a6 : W.cell? ⟨kA, 6, none⟩ = some (.int .i64 ((0, 0, ⟨#[]⟩) : Nm).1) := (cell_of HBW.out 6).trans rfl
      have a7 : W.cell? ⟨kA, 7, none⟩ = some (.int .i64 ((0, 0, ⟨#[]⟩) : Nm).2.1) := (cell_of HBW.out 7).trans rfl
      have a8 : W.cell? ⟨kA, 8, none⟩ = some (.string ((0, 0, ⟨#[]⟩) : Nm).2.2) := (cell_of HBW.out 8).trans rfl
      have kl : kA < W.heap.size := lt_of_block HBW.out
      have rlW : R < W.heap.size := lt_of_block RW.out.blk
      have r0W : W.cell? ⟨R, 0, none⟩ = some (.slice aoa na ca) := (cell_of RW.out.blk 0).trans rfl
      have Rk : ¬ R = kA := by have := RW.out.ltR; have := HRD.out.ltB; have := HKA.out; omega
      clear b0 b1 b2 b3 b4 bl i0 i1 i2 i3 i4 il r0 r1 r2 r3 r4 r5 rl hwc
      have hS0 : (fun w' => w'.cell? ⟨kA, 0, none⟩ = some (.int .i64 (num : Nat)) ∧ w'.cell? ⟨kA, 1, none⟩ = some (.int .i64 I.1) ∧ w'.cell? ⟨kA, 2, none⟩ = some (.int .i64 I.2.1) ∧ w'.cell? ⟨kA, 3, none⟩ = some (.int .i64 I.2.2.1) ∧ w'.cell? ⟨kA, 4, none⟩ = some (.int .i64 I.2.2.2.1) ∧ w'.cell? ⟨kA, 5, none⟩ = some (.int .i64 I.2.2.2.2) ∧ w'.cell? ⟨kA, 6, none⟩ = some (.int .i64 ((0, 0, ⟨#[]⟩) : Nm).1) ∧ w'.cell? ⟨kA, 7, none⟩ = some (.int .i64 ((0, 0, ⟨#[]⟩) : Nm).2.1) ∧ w'.cell? ⟨kA, 8, none⟩ = some (.string ((0, 0, ⟨#[]⟩) : Nm).2.2) ∧ kA < w'.heap.size) W.drew := ⟨a0, a1, a2, a3, a4, a5, a6, a7, a8, kl⟩
      refine wp_region_held_drew (S := fun w' => w'.cell? ⟨kA, 0, none⟩ = some (.int .i64 (num : Nat)) ∧ w'.cell? ⟨kA, 1, none⟩ = some (.int .i64 I.1) ∧ w'.cell? ⟨kA, 2, none⟩ = some (.int .i64 I.2.1) ∧ w'.cell? ⟨kA, 3, none⟩ = some (.int .i64 I.2.2.1) ∧ w'.cell? ⟨kA, 4, none⟩ = some (.int .i64 I.2.2.2.1) ∧ w'.cell? ⟨kA, 5, none⟩ = some (.int .i64 I.2.2.2.2) ∧ w'.cell? ⟨kA, 6, none⟩ = some (.int .i64 ((0, 0, ⟨#[]⟩) : Nm).1) ∧ w'.cell? ⟨kA, 7, none⟩ = some (.int .i64 ((0, 0, ⟨#[]⟩) : Nm).2.1) ∧ w'.cell? ⟨kA, 8, none⟩ = some (.string ((0, 0, ⟨#[]⟩) : Nm).2.2) ∧ kA < w'.heap.size) (by kernel_rfl) (by exact hS0) (fun hSx => ?_)
      clear hSx
      refine takeS_on (i := 0) 85 (v := ?v104) rfl rfl (by kernel_rfl) (by kernel_rfl) (by kernel_rfl) (fun _ _ _ h => h) (by kernel_rfl) ?hy104 (by exact hS0) ?_
      case hy104 => (intro w' hSw; go_simp; try (with_reducible rfl))
      simp only [Act.put, List.setIfInBounds_toArray, List.set_cons_zero, List.set_cons_succ]
      refine takeS_on (i := 1) 86 (v := ?v105) rfl rfl (by kernel_rfl) (by kernel_rfl) (by kernel_rfl) (fun _ _ _ h => h) (by kernel_rfl) ?hy105 (by exact hS0) ?_
      case hy105 => (intro w' hSw; go_simp; try (with_reducible rfl))
      simp only [Act.put, List.setIfInBounds_toArray, List.set_cons_zero, List.set_cons_succ]
      refine takeS_on (i := 2) 87 (v := ?v106) rfl rfl (by kernel_rfl) (by kernel_rfl) (by kernel_rfl) (fun _ _ _ h => h) (by kernel_rfl) ?hy106 (by exact hS0) ?_
      case hy106 => (intro w' hSw; go_simp; try (with_reducible rfl))
      simp only [Act.put, List.setIfInBounds_toArray, List.set_cons_zero, List.set_cons_succ]
      refine takeS_on (i := 3) 88 (v := ?v107) rfl rfl (by kernel_rfl) (by kernel_rfl) (by kernel_rfl) (fun _ _ _ h => h) (by kernel_rfl) ?hy107 (by exact hS0) ?_
      case hy107 => (intro w' hSw; go_simp; try (with_reducible rfl))
      simp only [Act.put, List.setIfInBounds_toArray, List.set_cons_zero, List.set_cons_succ]
      refine takeS_on (i := 5) 90 (v := ?v108) rfl rfl (by kernel_rfl) (by kernel_rfl) (by kernel_rfl) (fun _ _ _ h => h) (by kernel_rfl) ?hy108 (by exact hS0) ?_
      case hy108 => (intro w' hSw; go_simp; try (with_reducible rfl))
      simp only [Act.put, List.setIfInBounds_toArray, List.set_cons_zero, List.set_cons_succ]
      refine wpAnyH_ready (rs := [4, 6]) (by kernel_rfl) (by simp) (AllReadyH.cons rfl (fun K hK => ?_) (AllReadyH.cons rfl (fun K hK => ?_) AllReadyH.nil))
      · go_simp
        refine hK.out _ _ (by exact hS0) (fun hSx => ?_)
        clear hSx hK K
        refine wpAnyH_ready (rs := [6]) (by kernel_rfl) (by simp) (AllReadyH.cons rfl (fun K hK => ?_) AllReadyH.nil)
        go_simp
        have hS_c : (fun w' => w'.cell? ⟨kA, 0, none⟩ = some (.int .i64 (num : Nat)) ∧ w'.cell? ⟨kA, 1, none⟩ = some (.int .i64 I.1) ∧ w'.cell? ⟨kA, 2, none⟩ = some (.int .i64 I.2.1) ∧ w'.cell? ⟨kA, 3, none⟩ = some (.int .i64 I.2.2.1) ∧ w'.cell? ⟨kA, 4, none⟩ = some (.int .i64 I.2.2.2.1) ∧ w'.cell? ⟨kA, 5, none⟩ = some (.int .i64 I.2.2.2.2) ∧ w'.cell? ⟨kA, 6, none⟩ = some (.int .i64 ((0, 0, ⟨#[]⟩) : Nm).1) ∧ w'.cell? ⟨kA, 7, none⟩ = some (.int .i64 ((0, 0, ⟨#[]⟩) : Nm).2.1) ∧ w'.cell? ⟨kA, 8, none⟩ = some (.string ((0, 0, ⟨#[]⟩) : Nm).2.2) ∧ kA < w'.heap.size) (W.alloc (.cells #[.int .i64 (num : Nat), .int .i64 I.1, .int .i64 I.2.1, .int .i64 I.2.2.1, .int .i64 I.2.2.2.1, .int .i64 I.2.2.2.2, .int .i64 ((0, 0, ⟨#[]⟩) : Nm).1, .int .i64 ((0, 0, ⟨#[]⟩) : Nm).2.1, .string ((0, 0, ⟨#[]⟩) : Nm).2.2] 102)).drew := ⟨(Ch.cell (Ch.drew (Ch.alloc (Gr.refl W) _)) kl (noB _)).trans a0, (Ch.cell (Ch.drew (Ch.alloc (Gr.refl W) _)) kl (noB _)).trans a1, (Ch.cell (Ch.drew (Ch.alloc (Gr.refl W) _)) kl (noB _)).trans a2, (Ch.cell (Ch.drew (Ch.alloc (Gr.refl W) _)) kl (noB _)).trans a3, (Ch.cell (Ch.drew (Ch.alloc (Gr.refl W) _)) kl (noB _)).trans a4, (Ch.cell (Ch.drew (Ch.alloc (Gr.refl W) _)) kl (noB _)).trans a5, (Ch.cell (Ch.drew (Ch.alloc (Gr.refl W) _)) kl (noB _)).trans a6, (Ch.cell (Ch.drew (Ch.alloc (Gr.refl W) _)) kl (noB _)).trans a7, (Ch.cell (Ch.drew (Ch.alloc (Gr.refl W) _)) kl (noB _)).trans a8, Nat.lt_of_lt_of_le kl (Ch.size (Ch.drew (Ch.alloc (Gr.refl W) (.cells #[.int .i64 (num : Nat), .int .i64 I.1, .int .i64 I.2.1, .int .i64 I.2.2.1, .int .i64 I.2.2.2.1, .int .i64 I.2.2.2.2, .int .i64 ((0, 0, ⟨#[]⟩) : Nm).1, .int .i64 ((0, 0, ⟨#[]⟩) : Nm).2.1, .string ((0, 0, ⟨#[]⟩) : Nm).2.2] 102))))⟩
        refine hK.out _ _ (by exact hS_c) (fun hSx => ?_)
        clear hSx hK K
        refine wpAnyH_ready (rs := [7]) (by kernel_rfl) (by simp) (AllReadyH.cons rfl (fun K hK => ?_) AllReadyH.nil)
        refine step_append_ow eA_len rfl (.tmp 89) (.tmp 91) 49 102 80 (.agg #[.int .i64 0, .int .i64 0, .int .i64 0, .int .i64 0, .int .i64 0, .int .i64 0, .int .i64 0, .int .i64 0, .string ⟨#[]⟩]) Tryz.underlying49 ask_info rfl (by omega) rfl base (.slice aoa na ca) x.ask (by simp [Act.eval]) (RW.out.a.alloc _) _ _ [⟨num, I, ((0, 0, ⟨#[]⟩) : Nm)⟩] (by simp [Act.eval]) (Ls.single W _ _ _ rfl) eA_one (na + 1) (by rw [HNA.out]; rfl) (by omega) (by unfold maxLen; omega) (by have := RW.out.ltB; simp; omega) (x.ask ++ [⟨num, I, ((0, 0, ⟨#[]⟩) : Nm)⟩]) rfl ?_
        intro ao6 cap6 w6 ow6 cw6 bl6
        have nk : ¬ Blk (.slice aoa na ca) kA := fun e => by have := (HRD.out.a.blk e).2; have := HKA.out; omega
        have hS_d : (fun w' => w'.cell? ⟨kA, 0, none⟩ = some (.int .i64 (num : Nat)) ∧ w'.cell? ⟨kA, 1, none⟩ = some (.int .i64 I.1) ∧ w'.cell? ⟨kA, 2, none⟩ = some (.int .i64 I.2.1) ∧ w'.cell? ⟨kA, 3, none⟩ = some (.int .i64 I.2.2.1) ∧ w'.cell? ⟨kA, 4, none⟩ = some (.int .i64 I.2.2.2.1) ∧ w'.cell? ⟨kA, 5, none⟩ = some (.int .i64 I.2.2.2.2) ∧ w'.cell? ⟨kA, 6, none⟩ = some (.int .i64 ((0, 0, ⟨#[]⟩) : Nm).1) ∧ w'.cell? ⟨kA, 7, none⟩ = some (.int .i64 ((0, 0, ⟨#[]⟩) : Nm).2.1) ∧ w'.cell? ⟨kA, 8, none⟩ = some (.string ((0, 0, ⟨#[]⟩) : Nm).2.2) ∧ kA < w'.heap.size) w6 := ⟨(Ch.cell cw6 (Nat.lt_of_lt_of_le kl (by simp)) nk).trans ((Ch.cell (Ch.alloc (Gr.refl W) _) kl (noB _)).trans a0), (Ch.cell cw6 (Nat.lt_of_lt_of_le kl (by simp)) nk).trans ((Ch.cell (Ch.alloc (Gr.refl W) _) kl (noB _)).trans a1), (Ch.cell cw6 (Nat.lt_of_lt_of_le kl (by simp)) nk).trans ((Ch.cell (Ch.alloc (Gr.refl W) _) kl (noB _)).trans a2), (Ch.cell cw6 (Nat.lt_of_lt_of_le kl (by simp)) nk).trans ((Ch.cell (Ch.alloc (Gr.refl W) _) kl (noB _)).trans a3), (Ch.cell cw6 (Nat.lt_of_lt_of_le kl (by simp)) nk).trans ((Ch.cell (Ch.alloc (Gr.refl W) _) kl (noB _)).trans a4), (Ch.cell cw6 (Nat.lt_of_lt_of_le kl (by simp)) nk).trans ((Ch.cell (Ch.alloc (Gr.refl W) _) kl (noB _)).trans a5), (Ch.cell cw6 (Nat.lt_of_lt_of_le kl (by simp)) nk).trans ((Ch.cell (Ch.alloc (Gr.refl W) _) kl (noB _)).trans a6), (Ch.cell cw6 (Nat.lt_of_lt_of_le kl (by simp)) nk).trans ((Ch.cell (Ch.alloc (Gr.refl W) _) kl (noB _)).trans a7), (Ch.cell cw6 (Nat.lt_of_lt_of_le kl (by simp)) nk).trans ((Ch.cell (Ch.alloc (Gr.refl W) _) kl (noB _)).trans a8), Nat.lt_of_lt_of_le kl (Nat.le_trans (by simp) cw6.size)⟩
        have hb6 := (cw6.block R (Nat.lt_of_lt_of_le (lt_of_block RW.out.blk) (by simp)) (fun e => by have := (RW.out.a.blk e).1; have := RW.out.ltR; omega)).trans (al_blk RW.out.blk _)
        obtain ⟨t0, t1, t2, t3, t4, t5, tz, tl⟩ := Six.of hb6
        have tz0 := tz 0
        have HO6 := hid ow6
        have HC6 := hid cw6
        have HB6 := hid bl6
        clear ow6 cw6 bl6 hb6 tz
        refine hK.out _ _ (by exact hS_d) (fun hSx => ?_)
        change wpAnyH _ _ _ _ _ _ _ (Act.put _ (some 92) _) _
        simp only [Act.put, List.setIfInBounds_toArray, List.set_cons_zero, List.set_cons_succ]
        clear hSx hK K
        refine takeS_on (i := 8) 93 (v := ?v109) rfl rfl (by kernel_rfl) (by kernel_rfl) (by kernel_rfl) (fun _ _ _ h => h) (by kernel_rfl) ?hy109 (by exact hS_d) ?_
        case hy109 => (intro w' hSw; go_simp; try (with_reducible rfl))
        simp only [Act.put, List.setIfInBounds_toArray, List.set_cons_zero, List.set_cons_succ]
        refine takeS_on (i := 9) 94 (v := ?v110) rfl rfl (by kernel_rfl) (by kernel_rfl) (by kernel_rfl) (fun _ _ _ h => h) (by kernel_rfl) ?hy110 (by exact hS_d) ?_
        case hy110 => (intro w' hSw; go_simp; try (with_reducible rfl))
        simp only [Act.put, List.setIfInBounds_toArray, List.set_cons_zero, List.set_cons_succ]
        refine wpAnyH_ready (rs := [10]) (by kernel_rfl) (by simp) (AllReadyH.cons rfl (fun K hK => ?_) AllReadyH.nil)
        go_simp
        have k7 : Ch (Only R) w6 (w6.setCell ⟨R, 0, none⟩ (.slice ao6 (na + 1) cap6)) := (Ch.refl _ _).own _ _
        have kR : ¬ Only R kA := fun e => by have e1 : kA = R := e; have := RW.out.ltR; have := HRD.out.ltB; have := HKA.out; omega
        have hS_e : (fun w' => w'.cell? ⟨kA, 0, none⟩ = some (.int .i64 (num : Nat)) ∧ w'.cell? ⟨kA, 1, none⟩ = some (.int .i64 I.1) ∧ w'.cell? ⟨kA, 2, none⟩ = some (.int .i64 I.2.1) ∧ w'.cell? ⟨kA, 3, none⟩ = some (.int .i64 I.2.2.1) ∧ w'.cell? ⟨kA, 4, none⟩ = some (.int .i64 I.2.2.2.1) ∧ w'.cell? ⟨kA, 5, none⟩ = some (.int .i64 I.2.2.2.2) ∧ w'.cell? ⟨kA, 6, none⟩ = some (.int .i64 ((0, 0, ⟨#[]⟩) : Nm).1) ∧ w'.cell? ⟨kA, 7, none⟩ = some (.int .i64 ((0, 0, ⟨#[]⟩) : Nm).2.1) ∧ w'.cell? ⟨kA, 8, none⟩ = some (.string ((0, 0, ⟨#[]⟩) : Nm).2.2) ∧ kA < w'.heap.size) (w6.setCell ⟨R, 0, none⟩ (.slice ao6 (na + 1) cap6)) := ⟨hS_d.1 ▸ (Ch.cell k7 hS_d.2.2.2.2.2.2.2.2.2 kR), hS_d.2.1 ▸ (Ch.cell k7 hS_d.2.2.2.2.2.2.2.2.2 kR), hS_d.2.2.1 ▸ (Ch.cell k7 hS_d.2.2.2.2.2.2.2.2.2 kR), hS_d.2.2.2.1 ▸ (Ch.cell k7 hS_d.2.2.2.2.2.2.2.2.2 kR), hS_d.2.2.2.2.1 ▸ (Ch.cell k7 hS_d.2.2.2.2.2.2.2.2.2 kR), hS_d.2.2.2.2.2.1 ▸ (Ch.cell k7 hS_d.2.2.2.2.2.2.2.2.2 kR), hS_d.2.2.2.2.2.2.1 ▸ (Ch.cell k7 hS_d.2.2.2.2.2.2.2.2.2 kR), hS_d.2.2.2.2.2.2.2.1 ▸ (Ch.cell k7 hS_d.2.2.2.2.2.2.2.2.2 kR), hS_d.2.2.2.2.2.2.2.2.1 ▸ (Ch.cell k7 hS_d.2.2.2.2.2.2.2.2.2 kR), Nat.lt_of_lt_of_le hS_d.2.2.2.2.2.2.2.2.2 k7.size⟩
        refine hK.out _ _ (by exact hS_e) (fun hSx => ?_)
        clear hSx hK K
        refine wpAnyH_done (by kernel_rfl) ?_ _
        clear hS0 hS_c hS_d hS_e t0 t1 t2 t3 t4 t5 tz0 tl
        have RD7 := RW.out.newA (Ch.drew (Ch.alloc (Gr.refl W) _)) HO6.out HC6.out HB6.out
        have C7 : Ch (SR base R M) w (w6.setCell ⟨R, 0, none⟩ (.slice ao6 (na + 1) cap6)) := ((Ch.trans (Ch.any HWW.out) (Ch.drew (Ch.alloc (Gr.refl W) _)) (fun _ e => e.elim)).trans HC6.out (fun q e => .inl (.inr (.inr (RW.out.a.blk e).1)))).setCell (p := ⟨R, 0, none⟩) (.inl (.inl rfl)) _
        generalize w6.setCell ⟨R, 0, none⟩ (.slice ao6 (na + 1) cap6) = W7 at RD7 C7 ⊢
        go_wp2_with fail
        obtain ⟨gF', cF', hvF, bF, lF, kF, cF1, zF1, rd9⟩ := RD7.bumpF (m := mF) (f := f) hf0
        have hvF2 := hvF
        injection hvF2 with v1 v2 v3
        injection v1 with v1
        injection v1 with v1
        subst v1
        clear v2 v3 hvF
        have RD9 := hid (rd9.gr (Ch.drew (Gr.refl _)))
        have C9 := hid (Ch.drew (C7.setCell (p := ⟨gF, mF * 2 + 1, none⟩) (.inl (.inr (.inr bF))) (.int .i64 ((f.2 + 1 : Nat) : Int))))
        have hT00 : W7.cell? ⟨R, 1, none⟩ = some (.slice (some ⟨gF, 0, none⟩) (mF + 1) cF) := (cell_of RD7.blk 1).trans rfl
        clear RD7 C7 rd9
        have hT0 : (fun w' => w'.cell? ⟨R, 1, none⟩ = some (.slice (some ⟨gF, 0, none⟩) (mF + 1) cF)) W7.drew := hT00
        refine wp_region_held_drew (S := fun w' => w'.cell? ⟨R, 1, none⟩ = some (.slice (some ⟨gF, 0, none⟩) (mF + 1) cF)) (by kernel_rfl) (by exact hT0) (fun hSx => ?_)
        clear hSx
        refine takeS_on (i := 0) 95 (v := ?v143) rfl rfl (by kernel_rfl) (by kernel_rfl) (by kernel_rfl) (fun _ _ _ h => h) (by kernel_rfl) ?hy143 (by exact hT0) ?_
        case hy143 => (intro w' hSw; go_simp; try (with_reducible rfl))
        simp only [Act.put, List.setIfInBounds_toArray, List.set_cons_zero, List.set_cons_succ]
        refine takeS_on (i := 1) 96 (v := ?v144) rfl rfl (by kernel_rfl) (by kernel_rfl) (by kernel_rfl) (fun _ _ _ h => h) (by kernel_rfl) ?hy144 (by exact hT0) ?_
        case hy144 => (intro w' hSw; go_simp; try (with_reducible rfl))
        simp only [Act.put, List.setIfInBounds_toArray, List.set_cons_zero, List.set_cons_succ]
        refine takeS_on (i := 2) 97 (v := ?v145) rfl rfl (by kernel_rfl) (by kernel_rfl) (by kernel_rfl) (fun _ _ _ h => h) (by kernel_rfl) ?hy145 (by exact hT0) ?_
        case hy145 => (intro w' hSw; go_simp; try (with_reducible rfl))
        simp only [Act.put, List.setIfInBounds_toArray, List.set_cons_zero, List.set_cons_succ]
        refine takeS_on (i := 3) 98 (v := ?v146) rfl rfl (by kernel_rfl) (by kernel_rfl) (by kernel_rfl) (fun _ _ _ h => h) (by kernel_rfl) ?hy146 (by exact hT0) ?_
        case hy146 => (intro w' hSw; go_simp; try (with_reducible rfl))
        simp only [Act.put, List.setIfInBounds_toArray, List.set_cons_zero, List.set_cons_succ]
        refine takeS_on (i := 4) 99 (v := ?v147) rfl rfl (by kernel_rfl) (by kernel_rfl) (by kernel_rfl) (fun _ _ _ h => h) (by kernel_rfl) ?hy147 (by exact hT0) ?_
        case hy147 => (intro w' hSw; go_simp; try (with_reducible rfl))
        simp only [Act.put, List.setIfInBounds_toArray, List.set_cons_zero, List.set_cons_succ]
        refine takeS_on (i := 5) 100 (v := ?v148) rfl rfl (by kernel_rfl) (by kernel_rfl) (by kernel_rfl) (fun _ _ _ h => h) (by kernel_rfl) ?hy148 (by exact hT0) ?_
        case hy148 => (intro w' hSw; go_simp; try (with_reducible rfl))
        simp only [Act.put, List.setIfInBounds_toArray, List.set_cons_zero, List.set_cons_succ]
        refine takeS_on (i := 6) 101 (v := ?v149) rfl rfl (by kernel_rfl) (by kernel_rfl) (by kernel_rfl) (fun _ _ _ h => h) (by kernel_rfl) ?hy149 (by exact hT0) ?_
        case hy149 => (intro w' hSw; go_simp; try (with_reducible rfl))
        simp only [Act.put, List.setIfInBounds_toArray, List.set_cons_zero, List.set_cons_succ]
        refine takeS_on (i := 7) 102 (v := ?v150) rfl rfl (by kernel_rfl) (by kernel_rfl) (by kernel_rfl) (fun _ _ _ h => h) (by kernel_rfl) ?hy150 (by exact hT0) ?_
        case hy150 => (intro w' hSw; go_simp; try (with_reducible rfl))
        simp only [Act.put, List.setIfInBounds_toArray, List.set_cons_zero, List.set_cons_succ]
        refine takeS_on (i := 8) 103 (v := ?v151) rfl rfl (by kernel_rfl) (by kernel_rfl) (by kernel_rfl) (fun _ _ _ h => h) (by kernel_rfl) ?hy151 (by exact hT0) ?_
        case hy151 => (intro w' hSw; go_simp; try (with_reducible rfl))
        simp only [Act.put, List.setIfInBounds_toArray, List.set_cons_zero, List.set_cons_succ]
        refine takeS_on (i := 9) 104 (v := ?v152) rfl rfl (by kernel_rfl) (by kernel_rfl) (by kernel_rfl) (fun _ _ _ h => h) (by kernel_rfl) ?hy152 (by exact hT0) ?_
        case hy152 => (intro w' hSw; go_simp; try (with_reducible rfl))
        simp only [Act.put, List.setIfInBounds_toArray, List.set_cons_zero, List.set_cons_succ]
        refine takeS_on (i := 10) 105 (v := ?v153) rfl rfl (by kernel_rfl) (by kernel_rfl) (by kernel_rfl) (fun _ _ _ h => h) (by kernel_rfl) ?hy153 (by exact hT0) ?_
        case hy153 => (intro w' hSw; go_simp; try (with_reducible rfl))
        simp only [Act.put, List.setIfInBounds_toArray, List.set_cons_zero, List.set_cons_succ]
        refine takeS_on (i := 11) 106 (v := ?v154) rfl rfl (by kernel_rfl) (by kernel_rfl) (by kernel_rfl) (fun _ _ _ h => h) (by kernel_rfl) ?hy154 (by exact hT0) ?_
        case hy154 => (intro w' hSw; go_simp; try (with_reducible rfl))
        simp only [Act.put, List.setIfInBounds_toArray, List.set_cons_zero, List.set_cons_succ]
        refine wpAnyH_ready (rs := [12]) (by kernel_rfl) (by simp) (AllReadyH.cons rfl (fun K hK => ?_) AllReadyH.nil)
        go_simp
        refine hK.out _ _ (by exact hT0) (fun hSx => ?_)
        clear hSx hK K
        refine takeS_on (i := 13) 108 (v := ?v155) rfl rfl (by kernel_rfl) (by kernel_rfl) (by kernel_rfl) (fun _ _ _ h => h) (by kernel_rfl) ?hy155 (by exact hT0) ?_
        case hy155 => (intro w' hSw; go_simp; try (with_reducible rfl))
        simp only [Act.put, List.setIfInBounds_toArray, List.set_cons_zero, List.set_cons_succ]
        refine takeS_on (i := 14) 109 (v := ?v156) rfl rfl (by kernel_rfl) (by kernel_rfl) (by kernel_rfl) (fun _ _ _ h => h) (by kernel_rfl) ?hy156 (by exact hT0) ?_
        case hy156 => (intro w' hSw; go_simp; try (with_reducible rfl))
        simp only [Act.put, List.setIfInBounds_toArray, List.set_cons_zero, List.set_cons_succ]
        refine takeS_on (i := 15) 110 (v := ?v157) rfl rfl (by kernel_rfl) (by kernel_rfl) (by kernel_rfl) (fun _ _ _ h => h) (by kernel_rfl) ?hy157 (by exact hT0) ?_
        case hy157 => (intro w' hSw; go_simp; try (with_reducible rfl))
        simp only [Act.put, List.setIfInBounds_toArray, List.set_cons_zero, List.set_cons_succ]
        refine wpAnyH_ready (rs := [16]) (by kernel_rfl) (by simp) (AllReadyH.cons rfl (fun K hK => ?_) AllReadyH.nil)
        go_simp
        have hT1 : (fun w' => w'.cell? ⟨R, 1, none⟩ = some (.slice (some ⟨gF, 0, none⟩) (mF + 1) cF)) (W7.setCell ⟨gF, mF * 2 + 1, none⟩ (.int .i64 ((f.2 + 1 : Nat) : Int))).drew := (cell_of RD9.out.blk 1).trans rfl
        refine hK.out _ _ (by exact hT1) (fun hSx => ?_)
        clear hSx hK K
        refine wpAnyH_done (by kernel_rfl) ?_ _
        clear hT0 hT1
        go_wp2
        go_ret
        refine ⟨rfl, fun _ => ?_, C9.out, fun h => (h rfl).elim⟩
        rw [HRS.out]
        exact RD9.out.red
      · go_simp
        have hS_c : (fun w' => w'.cell? ⟨kA, 0, none⟩ = some (.int .i64 (num : Nat)) ∧ w'.cell? ⟨kA, 1, none⟩ = some (.int .i64 I.1) ∧ w'.cell? ⟨kA, 2, none⟩ = some (.int .i64 I.2.1) ∧ w'.cell? ⟨kA, 3, none⟩ = some (.int .i64 I.2.2.1) ∧ w'.cell? ⟨kA, 4, none⟩ = some (.int .i64 I.2.2.2.1) ∧ w'.cell? ⟨kA, 5, none⟩ = some (.int .i64 I.2.2.2.2) ∧ w'.cell? ⟨kA, 6, none⟩ = some (.int .i64 ((0, 0, ⟨#[]⟩) : Nm).1) ∧ w'.cell? ⟨kA, 7, none⟩ = some (.int .i64 ((0, 0, ⟨#[]⟩) : Nm).2.1) ∧ w'.cell? ⟨kA, 8, none⟩ = some (.string ((0, 0, ⟨#[]⟩) : Nm).2.2) ∧ kA < w'.heap.size) (W.alloc (.cells #[.int .i64 (num : Nat), .int .i64 I.1, .int .i64 I.2.1, .int .i64 I.2.2.1, .int .i64 I.2.2.2.1, .int .i64 I.2.2.2.2, .int .i64 ((0, 0, ⟨#[]⟩) : Nm).1, .int .i64 ((0, 0, ⟨#[]⟩) : Nm).2.1, .string ((0, 0, ⟨#[]⟩) : Nm).2.2] 102)).drew := ⟨(Ch.cell (Ch.drew (Ch.alloc (Gr.refl W) _)) kl (noB _)).trans a0, (Ch.cell (Ch.drew (Ch.alloc (Gr.refl W) _)) kl (noB _)).trans a1, (Ch.cell (Ch.drew (Ch.alloc (Gr.refl W) _)) kl (noB _)).trans a2, (Ch.cell (Ch.drew (Ch.alloc (Gr.refl W) _)) kl (noB _)).trans a3, (Ch.cell (Ch.drew (Ch.alloc (Gr.refl W) _)) kl (noB _)).trans a4, (Ch.cell (Ch.drew (Ch.alloc (Gr.refl W) _)) kl (noB _)).trans a5, (Ch.cell (Ch.drew (Ch.alloc (Gr.refl W) _)) kl (noB _)).trans a6, (Ch.cell (Ch.drew (Ch.alloc (Gr.refl W) _)) kl (noB _)).trans a7, (Ch.cell (Ch.drew (Ch.alloc (Gr.refl W) _)) kl (noB _)).trans a8, Nat.lt_of_lt_of_le kl (Ch.size (Ch.drew (Ch.alloc (Gr.refl W) (.cells #[.int .i64 (num : Nat), .int .i64 I.1, .int .i64 I.2.1, .int .i64 I.2.2.1, .int .i64 I.2.2.2.1, .int .i64 I.2.2.2.2, .int .i64 ((0, 0, ⟨#[]⟩) : Nm).1, .int .i64 ((0, 0, ⟨#[]⟩) : Nm).2.1, .string ((0, 0, ⟨#[]⟩) : Nm).2.2] 102))))⟩
        refine hK.out _ _ (by exact hS_c) (fun hSx => ?_)
        clear hSx hK K
        refine wpAnyH_ready (rs := [4]) (by kernel_rfl) (by simp) (AllReadyH.cons rfl (fun K hK => ?_) AllReadyH.nil)
        go_simp
        refine hK.out _ _ (by exact hS_c) (fun hSx => ?_)
        clear hSx hK K
        refine wpAnyH_ready (rs := [7]) (by kernel_rfl) (by simp) (AllReadyH.cons rfl (fun K hK => ?_) AllReadyH.nil)
        refine step_append_ow eA_len rfl (.tmp 89) (.tmp 91) 49 102 80 (.agg #[.int .i64 0, .int .i64 0, .int .i64 0, .int .i64 0, .int .i64 0, .int .i64 0, .int .i64 0, .int .i64 0, .string ⟨#[]⟩]) Tryz.underlying49 ask_info rfl (by omega) rfl base (.slice aoa na ca) x.ask (by simp [Act.eval]) (RW.out.a.alloc _) _ _ [⟨num, I, ((0, 0, ⟨#[]⟩) : Nm)⟩] (by simp [Act.eval]) (Ls.single W _ _ _ rfl) eA_one (na + 1) (by rw [HNA.out]; rfl) (by omega) (by unfold maxLen; omega) (by have := RW.out.ltB; simp; omega) (x.ask ++ [⟨num, I, ((0, 0, ⟨#[]⟩) : Nm)⟩]) rfl ?_
        intro ao6 cap6 w6 ow6 cw6 bl6
        have nk : ¬ Blk (.slice aoa na ca) kA := fun e => by have := (HRD.out.a.blk e).2; have := HKA.out; omega
        have hS_d : (fun w' => w'.cell? ⟨kA, 0, none⟩ = some (.int .i64 (num : Nat)) ∧ w'.cell? ⟨kA, 1, none⟩ = some (.int .i64 I.1) ∧ w'.cell? ⟨kA, 2, none⟩ = some (.int .i64 I.2.1) ∧ w'.cell? ⟨kA, 3, none⟩ = some (.int .i64 I.2.2.1) ∧ w'.cell? ⟨kA, 4, none⟩ = some (.int .i64 I.2.2.2.1) ∧ w'.cell? ⟨kA, 5, none⟩ = some (.int .i64 I.2.2.2.2) ∧ w'.cell? ⟨kA, 6, none⟩ = some (.int .i64 ((0, 0, ⟨#[]⟩) : Nm).1) ∧ w'.cell? ⟨kA, 7, none⟩ = some (.int .i64 ((0, 0, ⟨#[]⟩) : Nm).2.1) ∧ w'.cell? ⟨kA, 8, none⟩ = some (.string ((0, 0, ⟨#[]⟩) : Nm).2.2) ∧ kA < w'.heap.size) w6 := ⟨(Ch.cell cw6 (Nat.lt_of_lt_of_le kl (by simp)) nk).trans ((Ch.cell (Ch.alloc (Gr.refl W) _) kl (noB _)).trans a0), (Ch.cell cw6 (Nat.lt_of_lt_of_le kl (by simp)) nk).trans ((Ch.cell (Ch.alloc (Gr.refl W) _) kl (noB _)).trans a1), (Ch.cell cw6 (Nat.lt_of_lt_of_le kl (by simp)) nk).trans ((Ch.cell (Ch.alloc (Gr.refl W) _) kl (noB _)).trans a2), (Ch.cell cw6 (Nat.lt_of_lt_of_le kl (by simp)) nk).trans ((Ch.cell (Ch.alloc (Gr.refl W) _) kl (noB _)).trans a3), (Ch.cell cw6 (Nat.lt_of_lt_of_le kl (by simp)) nk).trans ((Ch.cell (Ch.alloc (Gr.refl W) _) kl (noB _)).trans a4), (Ch.cell cw6 (Nat.lt_of_lt_of_le kl (by simp)) nk).trans ((Ch.cell (Ch.alloc (Gr.refl W) _) kl (noB _)).trans a5), (Ch.cell cw6 (Nat.lt_of_lt_of_le kl (by simp)) nk).trans ((Ch.cell (Ch.alloc (Gr.refl W) _) kl (noB _)).trans a6), (Ch.cell cw6 (Nat.lt_of_lt_of_le kl (by simp)) nk).trans ((Ch.cell (Ch.alloc (Gr.refl W) _) kl (noB _)).trans a7), (Ch.cell cw6 (Nat.lt_of_lt_of_le kl (by simp)) nk).trans ((Ch.cell (Ch.alloc (Gr.refl W) _) kl (noB _)).trans a8), Nat.lt_of_lt_of_le kl (Nat.le_trans (by simp) cw6.size)⟩
        have hb6 := (cw6.block R (Nat.lt_of_lt_of_le (lt_of_block RW.out.blk) (by simp)) (fun e => by have := (RW.out.a.blk e).1; have := RW.out.ltR; omega)).trans (al_blk RW.out.blk _)
        obtain ⟨t0, t1, t2, t3, t4, t5, tz, tl⟩ := Six.of hb6
        have tz0 := tz 0
        have HO6 := hid ow6
        have HC6 := hid cw6
        have HB6 := hid bl6
        clear ow6 cw6 bl6 hb6 tz
        refine hK.out _ _ (by exact hS_d) (fun hSx => ?_)
        change wpAnyH _ _ _ _ _ _ _ (Act.put _ (some 92) _) _
        simp only [Act.put, List.setIfInBounds_toArray, List.set_cons_zero, List.set_cons_succ]
        clear hSx hK K
        refine takeS_on (i := 8) 93 (v := ?v126) rfl rfl (by kernel_rfl) (by kernel_rfl) (by kernel_rfl) (fun _ _ _ h => h) (by kernel_rfl) ?hy126 (by exact hS_d) ?_
        case hy126 => (intro w' hSw; go_simp; try (with_reducible rfl))
        simp only [Act.put, List.setIfInBounds_toArray, List.set_cons_zero, List.set_cons_succ]
        refine takeS_on (i := 9) 94 (v := ?v127) rfl rfl (by kernel_rfl) (by kernel_rfl) (by kernel_rfl) (fun _ _ _ h => h) (by kernel_rfl) ?hy127 (by exact hS_d) ?_
        case hy127 => (intro w' hSw; go_simp; try (with_reducible rfl))
        simp only [Act.put, List.setIfInBounds_toArray, List.set_cons_zero, List.set_cons_succ]
        refine wpAnyH_ready (rs := [10]) (by kernel_rfl) (by simp) (AllReadyH.cons rfl (fun K hK => ?_) AllReadyH.nil)
        go_simp
        have k7 : Ch (Only R) w6 (w6.setCell ⟨R, 0, none⟩ (.slice ao6 (na + 1) cap6)) := (Ch.refl _ _).own _ _
        have kR : ¬ Only R kA := fun e => by have e1 : kA = R := e; have := RW.out.ltR; have := HRD.out.ltB; have := HKA.out; omega
        have hS_e : (fun w' => w'.cell? ⟨kA, 0, none⟩ = some (.int .i64 (num : Nat)) ∧ w'.cell? ⟨kA, 1, none⟩ = some (.int .i64 I.1) ∧ w'.cell? ⟨kA, 2, none⟩ = some (.int .i64 I.2.1) ∧ w'.cell? ⟨kA, 3, none⟩ = some (.int .i64 I.2.2.1) ∧ w'.cell? ⟨kA, 4, none⟩ = some (.int .i64 I.2.2.2.1) ∧ w'.cell? ⟨kA, 5, none⟩ = some (.int .i64 I.2.2.2.2) ∧ w'.cell? ⟨kA, 6, none⟩ = some (.int .i64 ((0, 0, ⟨#[]⟩) : Nm).1) ∧ w'.cell? ⟨kA, 7, none⟩ = some (.int .i64 ((0, 0, ⟨#[]⟩) : Nm).2.1) ∧ w'.cell? ⟨kA, 8, none⟩ = some (.string ((0, 0, ⟨#[]⟩) : Nm).2.2) ∧ kA < w'.heap.size) (w6.setCell ⟨R, 0, none⟩ (.slice ao6 (na + 1) cap6)) := ⟨hS_d.1 ▸ (Ch.cell k7 hS_d.2.2.2.2.2.2.2.2.2 kR), hS_d.2.1 ▸ (Ch.cell k7 hS_d.2.2.2.2.2.2.2.2.2 kR), hS_d.2.2.1 ▸ (Ch.cell k7 hS_d.2.2.2.2.2.2.2.2.2 kR), hS_d.2.2.2.1 ▸ (Ch.cell k7 hS_d.2.2.2.2.2.2.2.2.2 kR), hS_d.2.2.2.2.1 ▸ (Ch.cell k7 hS_d.2.2.2.2.2.2.2.2.2 kR), hS_d.2.2.2.2.2.1 ▸ (Ch.cell k7 hS_d.2.2.2.2.2.2.2.2.2 kR), hS_d.2.2.2.2.2.2.1 ▸ (Ch.cell k7 hS_d.2.2.2.2.2.2.2.2.2 kR), hS_d.2.2.2.2.2.2.2.1 ▸ (Ch.cell k7 hS_d.2.2.2.2.2.2.2.2.2 kR), hS_d.2.2.2.2.2.2.2.2.1 ▸ (Ch.cell k7 hS_d.2.2.2.2.2.2.2.2.2 kR), Nat.lt_of_lt_of_le hS_d.2.2.2.2.2.2.2.2.2 k7.size⟩
        refine hK.out _ _ (by exact hS_e) (fun hSx => ?_)
        clear hSx hK K
        refine wpAnyH_done (by kernel_rfl) ?_ _
        clear hS0 hS_c hS_d hS_e t0 t1 t2 t3 t4 t5 tz0 tl
        have RD7 := RW.out.newA (Ch.drew (Ch.alloc (Gr.refl W) _)) HO6.out HC6.out HB6.out
        have C7 : Ch (SR base R M) w (w6.setCell ⟨R, 0, none⟩ (.slice ao6 (na + 1) cap6)) := ((Ch.trans (Ch.any HWW.out) (Ch.drew (Ch.alloc (Gr.refl W) _)) (fun _ e => e.elim)).trans HC6.out (fun q e => .inl (.inr (.inr (RW.out.a.blk e).1)))).setCell (p := ⟨R, 0, none⟩) (.inl (.inl rfl)) _
        generalize w6.setCell ⟨R, 0, none⟩ (.slice ao6 (na + 1) cap6) = W7 at RD7 C7 ⊢
        go_wp2_with fail
        obtain ⟨gF', cF', hvF, bF, lF, kF, cF1, zF1, rd9⟩ := RD7.bumpF (m := mF) (f := f) hf0
        have hvF2 := hvF
        injection hvF2 with v1 v2 v3
        injection v1 with v1
        injection v1 with v1
        subst v1
        clear v2 v3 hvF
        have RD9 := hid (rd9.gr (Ch.drew (Gr.refl _)))
        have C9 := hid (Ch.drew (C7.setCell (p := ⟨gF, mF * 2 + 1, none⟩) (.inl (.inr (.inr bF))) (.int .i64 ((f.2 + 1 : Nat) : Int))))
        have hT00 : W7.cell? ⟨R, 1, none⟩ = some (.slice (some ⟨gF, 0, none⟩) (mF + 1) cF) := (cell_of RD7.blk 1).trans rfl
        clear RD7 C7 rd9
        have hT0 : (fun w' => w'.cell? ⟨R, 1, none⟩ = some (.slice (some ⟨gF, 0, none⟩) (mF + 1) cF)) W7.drew := hT00
        refine wp_region_held_drew (S := fun w' => w'.cell? ⟨R, 1, none⟩ = some (.slice (some ⟨gF, 0, none⟩) (mF + 1) cF)) (by kernel_rfl) (by exact hT0) (fun hSx => ?_)
        clear hSx
        refine takeS_on (i := 0) 95 (v := ?v158) rfl rfl (by kernel_rfl) (by kernel_rfl) (by kernel_rfl) (fun _ _ _ h => h) (by kernel_rfl) ?hy158 (by exact hT0) ?_
        case hy158 => (intro w' hSw; go_simp; try (with_reducible rfl))
        simp only [Act.put, List.setIfInBounds_toArray, List.set_cons_zero, List.set_cons_succ]
        refine takeS_on (i := 1) 96 (v := ?v159) rfl rfl (by kernel_rfl) (by kernel_rfl) (by kernel_rfl) (fun _ _ _ h => h) (by kernel_rfl) ?hy159 (by exact hT0) ?_
        case hy159 => (intro w' hSw; go_simp; try (with_reducible rfl))
        simp only [Act.put, List.setIfInBounds_toArray, List.set_cons_zero, List.set_cons_succ]
        refine takeS_on (i := 2) 97 (v := ?v160) rfl rfl (by kernel_rfl) (by kernel_rfl) (by kernel_rfl) (fun _ _ _ h => h) (by kernel_rfl) ?hy160 (by exact hT0) ?_
        case hy160 => (intro w' hSw; go_simp; try (with_reducible rfl))
        simp only [Act.put, List.setIfInBounds_toArray, List.set_cons_zero, List.set_cons_succ]
        refine takeS_on (i := 3) 98 (v := ?v161) rfl rfl (by kernel_rfl) (by kernel_rfl) (by kernel_rfl) (fun _ _ _ h => h) (by kernel_rfl) ?hy161 (by exact hT0) ?_
        case hy161 => (intro w' hSw; go_simp; try (with_reducible rfl))
        simp only [Act.put, List.setIfInBounds_toArray, List.set_cons_zero, List.set_cons_succ]
        refine takeS_on (i := 4) 99 (v := ?v162) rfl rfl (by kernel_rfl) (by kernel_rfl) (by kernel_rfl) (fun _ _ _ h => h) (by kernel_rfl) ?hy162 (by exact hT0) ?_
        case hy162 => (intro w' hSw; go_simp; try (with_reducible rfl))
        simp only [Act.put, List.setIfInBounds_toArray, List.set_cons_zero, List.set_cons_succ]
        refine takeS_on (i := 5) 100 (v := ?v163) rfl rfl (by kernel_rfl) (by kernel_rfl) (by kernel_rfl) (fun _ _ _ h => h) (by kernel_rfl) ?hy163 (by exact hT0) ?_
        case hy163 => (intro w' hSw; go_simp; try (with_reducible rfl))
        simp only [Act.put, List.setIfInBounds_toArray, List.set_cons_zero, List.set_cons_succ]
        refine takeS_on (i := 6) 101 (v := ?v164) rfl rfl (by kernel_rfl) (by kernel_rfl) (by kernel_rfl) (fun _ _ _ h => h) (by kernel_rfl) ?hy164 (by exact hT0) ?_
        case hy164 => (intro w' hSw; go_simp; try (with_reducible rfl))
        simp only [Act.put, List.setIfInBounds_toArray, List.set_cons_zero, List.set_cons_succ]
        refine takeS_on (i := 7) 102 (v := ?v165) rfl rfl (by kernel_rfl) (by kernel_rfl) (by kernel_rfl) (fun _ _ _ h => h) (by kernel_rfl) ?hy165 (by exact hT0) ?_
        case hy165 => (intro w' hSw; go_simp; try (with_reducible rfl))
        simp only [Act.put, List.setIfInBounds_toArray, List.set_cons_zero, List.set_cons_succ]
        refine takeS_on (i := 8) 103 (v := ?v166) rfl rfl (by kernel_rfl) (by kernel_rfl) (by kernel_rfl) (fun _ _ _ h => h) (by kernel_rfl) ?hy166 (by exact hT0) ?_
        case hy166 => (intro w' hSw; go_simp; try (with_reducible rfl))
        simp only [Act.put, List.setIfInBounds_toArray, List.set_cons_zero, List.set_cons_succ]
        refine takeS_on (i := 9) 104 (v := ?v167) rfl rfl (by kernel_rfl) (by kernel_rfl) (by kernel_rfl) (fun _ _ _ h => h) (by kernel_rfl) ?hy167 (by exact hT0) ?_
        case hy167 => (intro w' hSw; go_simp; try (with_reducible rfl))
        simp only [Act.put, List.setIfInBounds_toArray, List.set_cons_zero, List.set_cons_succ]
        refine takeS_on (i := 10) 105 (v := ?v168) rfl rfl (by kernel_rfl) (by kernel_rfl) (by kernel_rfl) (fun _ _ _ h => h) (by kernel_rfl) ?hy168 (by exact hT0) ?_
        case hy168 => (intro w' hSw; go_simp; try (with_reducible rfl))
        simp only [Act.put, List.setIfInBounds_toArray, List.set_cons_zero, List.set_cons_succ]
        refine takeS_on (i := 11) 106 (v := ?v169) rfl rfl (by kernel_rfl) (by kernel_rfl) (by kernel_rfl) (fun _ _ _ h => h) (by kernel_rfl) ?hy169 (by exact hT0) ?_
        case hy169 => (intro w' hSw; go_simp; try (with_reducible rfl))
        simp only [Act.put, List.setIfInBounds_toArray, List.set_cons_zero, List.set_cons_succ]
        refine wpAnyH_ready (rs := [12]) (by kernel_rfl) (by simp) (AllReadyH.cons rfl (fun K hK => ?_) AllReadyH.nil)
        go_simp
        refine hK.out _ _ (by exact hT0) (fun hSx => ?_)
        clear hSx hK K
        refine takeS_on (i := 13) 108 (v := ?v170) rfl rfl (by kernel_rfl) (by kernel_rfl) (by kernel_rfl) (fun _ _ _ h => h) (by kernel_rfl) ?hy170 (by exact hT0) ?_
        case hy170 => (intro w' hSw; go_simp; try (with_reducible rfl))
        simp only [Act.put, List.setIfInBounds_toArray, List.set_cons_zero, List.set_cons_succ]
        refine takeS_on (i := 14) 109 (v := ?v171) rfl rfl (by kernel_rfl) (by kernel_rfl) (by kernel_rfl) (fun _ _ _ h => h) (by kernel_rfl) ?hy171 (by exact hT0) ?_
        case hy171 => (intro w' hSw; go_simp; try (with_reducible rfl))
        simp only [Act.put, List.setIfInBounds_toArray, List.set_cons_zero, List.set_cons_succ]
        refine takeS_on (i := 15) 110 (v := ?v172) rfl rfl (by kernel_rfl) (by kernel_rfl) (by kernel_rfl) (fun _ _ _ h => h) (by kernel_rfl) ?hy172 (by exact hT0) ?_
        case hy172 => (intro w' hSw; go_simp; try (with_reducible rfl))
        simp only [Act.put, List.setIfInBounds_toArray, List.set_cons_zero, List.set_cons_succ]
        refine wpAnyH_ready (rs := [16]) (by kernel_rfl) (by simp) (AllReadyH.cons rfl (fun K hK => ?_) AllReadyH.nil)
        go_simp
        have hT1 : (fun w' => w'.cell? ⟨R, 1, none⟩ = some (.slice (some ⟨gF, 0, none⟩) (mF + 1) cF)) (W7.setCell ⟨gF, mF * 2 + 1, none⟩ (.int .i64 ((f.2 + 1 : Nat) : Int))).drew := (cell_of RD9.out.blk 1).trans rfl
        refine hK.out _ _ (by exact hT1) (fun hSx => ?_)
        clear hSx hK K
        refine wpAnyH_done (by kernel_rfl) ?_ _
        clear hT0 hT1
        go_wp2
        go_ret
        refine ⟨rfl, fun _ => ?_, C9.out, fun h => (h rfl).elim⟩
        rw [HRS.out]
        exact RD9.out.red

end Go.Proofs.YtbehlhnnfdkmaaaGreatDoor.Lt
