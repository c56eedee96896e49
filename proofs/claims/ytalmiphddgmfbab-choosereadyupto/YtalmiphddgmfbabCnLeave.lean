/-
  What the document's Leave and Waits of layer 11 answer: the channels without a goroutine, in new memory, and in how many places it has waited. Conditions: there are at most 1024 channels, and the lists are not too long.
-/
import Derived.Test.YtalmiphddgmfbabCnNx
namespace Go.Proofs.Ytalmiphddgmfbab.Lt
open Go.RowKit Wd

theorem Cn.pl_le (c : Cn) (s g : Int) (h1 : c.ss.length ≤ 4398046511104) (h2 : c.rs.length ≤ 4398046511104) : c.pl s g ≤ 8796093022208 := by
  unfold Cn.pl
  omega
theorem pls_snoc (cs : List Cn) (d : Cn) (s g : Int) : pls (cs ++ [d]) s g = pls cs s g + d.pl s g := by
  unfold pls
  rw [List.map_append, List.sum_append]
  simp
theorem pls_le (cs : List Cn) (s g : Int) (h1 : ∀ c ∈ cs, c.ss.length ≤ 4398046511104) (h2 : ∀ c ∈ cs, c.rs.length ≤ 4398046511104) : pls cs s g ≤ cs.length * 8796093022208 := by
  induction cs with
  | nil => simp [pls]
  | cons c l ih =>
    have e : pls (c :: l) s g = c.pl s g + pls l s g := rfl
    have h3 := ih (fun x hx => h1 x (List.mem_cons_of_mem _ hx)) (fun x hx => h2 x (List.mem_cons_of_mem _ hx))
    have h4 := c.pl_le s g (h1 c List.mem_cons_self) (h2 c List.mem_cons_self)
    rw [e, List.length_cons, Nat.add_mul]
    omega
theorem lv_get {cs : List Cn} {j : Nat} {d : Cn} (h : cs[j]? = some d) (s g : Int) : (lvs (cs.take j) s g ++ cs.drop j)[j]? = some d := by
  have hj : j < cs.length := (List.getElem?_eq_some_iff.1 h).1
  have hl : (lvs (cs.take j) s g).length = j := by unfold lvs; rw [List.length_map, List.length_take]; omega
  rw [List.getElem?_append_right (by omega), hl, Nat.sub_self, List.getElem?_drop, Nat.add_zero]
  exact h
theorem lv_set {cs : List Cn} {j : Nat} {d : Cn} (h : cs[j]? = some d) (s g : Int) : (lvs (cs.take j) s g ++ cs.drop j).set j (d.wo s g) = lvs (cs.take (j + 1)) s g ++ cs.drop (j + 1) := by
  obtain ⟨hj, e⟩ := List.getElem?_eq_some_iff.1 h
  have hl : (lvs (cs.take j) s g).length = j := by unfold lvs; rw [List.length_map, List.length_take]; omega
  rw [List.set_append_right _ _ (by omega), hl, Nat.sub_self, List.drop_eq_getElem_cons hj, List.set_cons_zero, take_one h]
  unfold lvs
  rw [List.map_append, List.append_assoc]
  rfl
/-- what Leave tells -/
def LvR (w : World) (cs : List Cn) (s g : Int) (e : Ending) (w' : World) : Prop := ∃ v, e = .returned (.tuple #[v, .int .i64 ((pls cs s g : Nat) : Int)]) ∧ Nx w.heap.size w' v (lvs cs s g) ∧ Gr w w'
set_option maxHeartbeats 4000000 in
set_option maxRecDepth 100000 in
theorem rleave_any (P : Nat → Prop) (w : World) (v : Value) (cs : List Cn) (s g : Int) (h : Rds P w v cs) (hb : Bd cs) (hn : cs.length ≤ 1024) : Calls Try.prog 56 #[v, .agg #[.int .i64 s, .int .i64 g]] w (LvR w cs s g) := by
  have HCP := hid (fun (W : World) (p : Gr w W) => copy_any P W v cs (h.gr p) hb)
  have HBD := hid hb
  obtain ⟨n, hnn⟩ : ∃ n, n = cs.length := ⟨_, rfl⟩
  have hn1 : n ≤ 1024 := by omega
  have HNN := hid hnn
  have hbx : (w.alloc (.cells #[.int .i64 s, .int .i64 g] 24)).heap[w.heap.size]? = some (.cells #[.int .i64 s, .int .i64 g] 24 (0, 0)) := (MapKept.heap_alloc w _).1
  have HB0 := hid hbx
  have G0 := hid (show Gr w (w.alloc (.cells #[.int .i64 s, .int .i64 g] 24)) from Ch.alloc (Gr.refl w) _)
  have hsz : (w.alloc (.cells #[.int .i64 s, .int .i64 g] 24)).heap.size = w.heap.size + 1 := by simp
  have HSZ := hid hsz
  clear h hb hn hnn hbx hsz
  go_enter Try.func56, Try.ntmps56
  go_wp2_with (go_at_call 36; refine (HCP.out _ G0.out).mono ?_; rintro e w1 ⟨v1, t1, xs1, rfl, nl1, g1⟩; have N1 := hid (show Nx (w.heap.size + 1) w1 v1 cs from ⟨t1, xs1, by have := nl1; rw [HSZ.out] at this; exact this⟩); have B1 := hid (gr_blk HB0.out g1); have G1 := hid (Gr.trans G0.out g1); clear nl1 g1; obtain ⟨ao, ca, rfl⟩ : ∃ a c, v1 = .slice a n c := (by obtain ⟨a, c, e⟩ := N1.out.form; exact ⟨a, c, by rw [e, HNN.out]⟩))
  go_loopg [7, 8] n (fun m o i wq => ∃ j : Nat, j + m = n ∧ i = .int .i64 (j : Int) ∧ o = .int .i64 ((pls (cs.take j) s g : Nat) : Int) ∧ Nx (w.heap.size + 1) wq (.slice ao n ca) (lvs (cs.take j) s g ++ cs.drop j) ∧ wq.heap[w.heap.size]? = some (.cells #[.int .i64 s, .int .i64 g] 24 (0, 0)) ∧ Gr w wq)
  case atStart => exact ⟨0, by omega, rfl, rfl, N1.out, B1.out, G1.out⟩
  case round =>
    obtain ⟨j, hjm, rfl, rfl, hN, hX, hG⟩ := hrel
    have NXN := hid hN
    have HBX := hid hX
    have HGG := hid hG
    clear hN hX hG
    by_cases hj : j < n
    · obtain ⟨d, hd⟩ : ∃ d, cs[j]? = some d := ⟨_, List.getElem?_eq_getElem (by rw [← HNN.out]; exact hj)⟩
      have hmem : d ∈ cs := List.mem_of_getElem? hd
      have HBs := hid (HBD.out.s d hmem)
      have HBr := hid (HBD.out.r d hmem)
      have HC7 := hid (lv_get hd s g)
      have HST := hid (lv_set hd s g)
      have HPL := hid (show pls (cs.take (j + 1)) s g = pls (cs.take j) s g + d.pl s g from by rw [take_one hd]; exact pls_snoc _ _ _ _)
      have hpb : pls (cs.take j) s g ≤ 9007199254740992 := by
        have := pls_le (cs.take j) s g (fun c hc => HBD.out.s c (List.mem_of_mem_take hc)) (fun c hc => HBD.out.r c (List.mem_of_mem_take hc))
        have e : (cs.take j).length ≤ 1024 := by rw [List.length_take]; omega
        omega
      have hdb := d.pl_le s g HBs.out HBr.out
      generalize lvs (cs.take j) s g ++ cs.drop j = L0 at NXN HC7 HST
      have HC8 := hid (show (L0.set j (⟨d.cap, d.vs, wo d.ss s g, d.rs, d.cl⟩ : Cn))[j]? = some (⟨d.cap, d.vs, wo d.ss s g, d.rs, d.cl⟩ : Cn) from List.getElem?_set_self (List.getElem?_eq_some_iff.1 HC7.out).1)
      have HS8 := hid (show (L0.set j (⟨d.cap, d.vs, wo d.ss s g, d.rs, d.cl⟩ : Cn)).set j (d.wo s g) = L0.set j (d.wo s g) from List.set_set _)
      obtain ⟨gO, ev⟩ : ∃ gO, ao = some ⟨gO, 0, none⟩ := by
        obtain ⟨t, xs, h⟩ := NXN.out
        obtain ⟨x, hx⟩ : ∃ x, xs[j]? = some x := ⟨_, List.getElem?_eq_getElem (by rw [h.n]; exact (List.getElem?_eq_some_iff.1 HC7.out).1)⟩
        obtain ⟨g, ca', e, _⟩ := h.o.get eR_len hx
        injection e with e _ _
        exact ⟨g, e⟩
      subst ev
      have j0 : (0 : Int) ≤ (j : Int) := by omega
      have j1 : (j : Int) < (n : Int) := by omega
      have NS := hid (Nat.le_refl (w.heap.size + 1))
      clear hd hmem
      go_wp2_with fail
      have hb7 : (fun W' => W'.heap[w.heap.size]? = some (.cells #[.int .i64 s, .int .i64 g] 24 (0, 0))) wr.drew := HBX.out
      have NX7 := hid NXN.out.drew
      have G7 := hid (show Gr w wr.drew from HGG.out.drew)
      have Z7 := hid (show w.heap.size + 1 ≤ wr.drew.heap.size from lt_of_block HBX.out)
      clear NXN HBX HGG
      refine wp_region_held_drew (S := fun W' => W'.heap[w.heap.size]? = some (.cells #[.int .i64 s, .int .i64 g] 24 (0, 0))) (by kernel_rfl) (by exact hb7) (fun _ => ?_)
      generalize World.drew wr = V0 at hb7 NX7 G7 Z7 ⊢
      obtain ⟨x, na⟩ := NX7.out.at HC7.out
      obtain ⟨fa, fn, fc, ef⟩ : ∃ a n c, x.s = .slice a n c := by obtain ⟨a, c, e⟩ := na.s.form; exact ⟨a, _, c, e⟩
      have Ls := hid na.s.lst
      have Es := hid ef
      rw [ef] at Ls
      have Bs := hid (show fn ≤ 4398046511104 from by rw [Ls.out.len.1]; exact HBs.out)
      have NA := hid na
      clear ef na NX7
      refine takeS_on (i := 0) 20 (v := ?v1) rfl rfl (by kernel_rfl) (by kernel_rfl) (by kernel_rfl) (fun _ _ _ h => h) (by kernel_rfl) ?hy1 (by exact hb7) ?_
      case hy1 => (intro w' hSw; go_simp; try (with_reducible rfl))
      simp only [Act.put, List.setIfInBounds_toArray, List.set_cons_zero, List.set_cons_succ]
      refine takeS_on (i := 1) 21 (v := ?v2) rfl rfl (by kernel_rfl) (by kernel_rfl) (by kernel_rfl) (fun _ _ _ h => h) (by kernel_rfl) ?hy2 (by exact hb7) ?_
      case hy2 => (intro w' hSw; go_simp; try (with_reducible rfl))
      simp only [Act.put, List.setIfInBounds_toArray, List.set_cons_zero, List.set_cons_succ]
      refine takeS_on (i := 2) 22 (v := ?v3) rfl rfl (by kernel_rfl) (by kernel_rfl) (by kernel_rfl) (fun _ _ _ h => h) (by kernel_rfl) ?hy3 (by exact hb7) ?_
      case hy3 => (intro w' hSw; go_simp; try (with_reducible rfl))
      simp only [Act.put, List.setIfInBounds_toArray, List.set_cons_zero, List.set_cons_succ]
      refine takeS_on (i := 3) 23 (v := ?v4) rfl rfl (by kernel_rfl) (by kernel_rfl) (by kernel_rfl) (fun _ _ _ h => h) (by kernel_rfl) ?hy4 (by exact hb7) ?_
      case hy4 => (intro w' hSw; go_simp; try (with_reducible rfl))
      simp only [Act.put, List.setIfInBounds_toArray, List.set_cons_zero, List.set_cons_succ]
      refine takeS_on (i := 4) 24 (v := ?v5) rfl rfl (by kernel_rfl) (by kernel_rfl) (by kernel_rfl) (fun _ _ _ h => h) (by kernel_rfl) ?hy5 (by exact hb7) ?_
      case hy5 => (intro w' hSw; go_simp; try (with_reducible rfl))
      simp only [Act.put, List.setIfInBounds_toArray, List.set_cons_zero, List.set_cons_succ]
      refine takeS_on (i := 5) 25 (v := ?v6) rfl rfl (by kernel_rfl) (by kernel_rfl) (by kernel_rfl) (fun _ _ _ h => h) (by kernel_rfl) ?hy6 (by exact hb7) ?_
      case hy6 => (intro w' hSw; go_simp; try (with_reducible rfl))
      simp only [Act.put, List.setIfInBounds_toArray, List.set_cons_zero, List.set_cons_succ]
      refine takeS_on (i := 7) 27 (v := ?v7) rfl rfl (by kernel_rfl) (by kernel_rfl) (by kernel_rfl) (fun _ _ _ h => h) (by kernel_rfl) ?hy7 (by exact hb7) ?_
      case hy7 => (intro w' hSw; refine Eq.trans (exec_row 24 (.tmp 3) rfl _ rfl _ _ _ _ hSw Try.underlying24 rfl gid_size) ?_; with_reducible rfl)
      simp only [Act.put, List.setIfInBounds_toArray, List.set_cons_zero, List.set_cons_succ]
      refine wpAnyH_ready (rs := [6]) (by kernel_rfl) (by simp) (AllReadyH.cons rfl (fun K hK => ?_) AllReadyH.nil)
      have c1 := NA.out.c2
      rw [show _ = _ from Es.out] at c1
      go_simp
      clear c1
      refine hK.out _ _ (by exact hb7) (fun _ => ?_)
      clear hK K
      refine wpAnyH_ready (rs := [8]) (by kernel_rfl) (by simp) (AllReadyH.cons rfl (fun K hK => ?_) AllReadyH.nil)
      go_simp
      refine (rwithout_any _ V0 _ _ _ _ s g Ls.out Bs.out).mono ?_
      rintro e V01 ⟨v9, rfl, o9, g9⟩
      have hb71 : (fun W' => W'.heap[w.heap.size]? = some (.cells #[.int .i64 s, .int .i64 g] 24 (0, 0))) V01 := gr_blk hb7 g9
      obtain ⟨sna, snn, snc, rfl⟩ : ∃ a n c, v9 = .slice a n c := by obtain ⟨a, c, e⟩ := o9.form; exact ⟨a, _, c, e⟩
      obtain ⟨ce, fz, lg, nx⟩ := NA.out.ws V01 _ _ g9.any (o9.lower (by have := NS.out; have := Z7.out; omega)) (fun q hq => .inr (o9.blk hq).1)
      rw [show _ = _ from Es.out] at ce
      generalize hq7 : d.ss.length - (wo d.ss s g).length = n7
      have HQ7 := hid hq7
      clear hq7
      have NXN := hid nx
      have LO := hid NA.out.lo
      have G9 := hid (Gr.trans G7.out g9)
      have HB9 := hid hb71
      clear nx o9 g9 NA
      refine hK.out _ _ (by exact hb71) (fun _ => ?_)
      clear hK K
      refine takeS_on (i := 9) 19 (v := ?v8) rfl rfl (by kernel_rfl) (by kernel_rfl) (by kernel_rfl) (fun _ _ _ h => h) (by kernel_rfl) ?hy8 (by exact hb71) ?_
      case hy8 => (intro w' hSw; go_simp; try (with_reducible rfl))
      simp only [Act.put, List.setIfInBounds_toArray, List.set_cons_zero, List.set_cons_succ]
      refine takeS_on (i := 10) 29 (v := ?v9) rfl rfl (by kernel_rfl) (by kernel_rfl) (by kernel_rfl) (fun _ _ _ h => h) (by kernel_rfl) ?hy9 (by exact hb71) ?_
      case hy9 => (intro w' hSw; go_simp; try (with_reducible rfl))
      simp only [Act.put, List.setIfInBounds_toArray, List.set_cons_zero, List.set_cons_succ]
      refine takeS_on (i := 11) 30 (v := ?v10) rfl rfl (by kernel_rfl) (by kernel_rfl) (by kernel_rfl) (fun _ _ _ h => h) (by kernel_rfl) ?hy10 (by exact hb71) ?_
      case hy10 => (intro w' hSw; go_simp; try (with_reducible rfl))
      simp only [Act.put, List.setIfInBounds_toArray, List.set_cons_zero, List.set_cons_succ]
      refine takeS_on (i := 12) 31 (v := ?v11) rfl rfl (by kernel_rfl) (by kernel_rfl) (by kernel_rfl) (fun _ _ _ h => h) (by kernel_rfl) ?hy11 (by exact hb71) ?_
      case hy11 => (intro w' hSw; go_simp; try (with_reducible rfl))
      simp only [Act.put, List.setIfInBounds_toArray, List.set_cons_zero, List.set_cons_succ]
      refine takeS_on (i := 13) 32 (v := ?v12) rfl rfl (by kernel_rfl) (by kernel_rfl) (by kernel_rfl) (fun _ _ _ h => h) (by kernel_rfl) ?hy12 (by exact hb71) ?_
      case hy12 => (intro w' hSw; go_simp; try (with_reducible rfl))
      simp only [Act.put, List.setIfInBounds_toArray, List.set_cons_zero, List.set_cons_succ]
      refine wpAnyH_ready (rs := [14]) (by kernel_rfl) (by simp) (AllReadyH.cons rfl (fun K hK => ?_) AllReadyH.nil)
      go_simp
      have k9 : Ch (Only gO) V01 (V01.setCell ⟨gO, j * 5 + 2, none⟩ (.slice sna snn snc)) := (Ch.refl _ _).own _ _
      have hb72 : (fun W' => W'.heap[w.heap.size]? = some (.cells #[.int .i64 s, .int .i64 g] 24 (0, 0))) (V01.setCell ⟨gO, j * 5 + 2, none⟩ (.slice sna snn snc)) := (k9.block _ (lt_of_block hb71) (fun e => by have e1 : w.heap.size = gO := e; have := LO.out; omega)).trans hb71
      have G10 := hid (show Gr w (V01.setCell ⟨gO, j * 5 + 2, none⟩ (.slice sna snn snc)) from Ch.trans G9.out k9 (fun q e => .inr (by have e1 : q = gO := e; have := LO.out; omega)))
      clear ce fz lg k9 G9 HB9
      generalize V01.setCell ⟨gO, j * 5 + 2, none⟩ (.slice sna snn snc) = V02 at NXN hb72 G10 ⊢
      refine hK.out _ _ (by exact hb72) (fun _ => ?_)
      clear hK K
      refine takeS_on (i := 15) 9 (v := ?v13) rfl rfl (by kernel_rfl) (by kernel_rfl) (by kernel_rfl) (fun _ _ _ h => h) (by kernel_rfl) ?hy13 (by exact hb72) ?_
      case hy13 => (intro w' hSw; go_simp; try (with_reducible rfl))
      simp only [Act.put, List.setIfInBounds_toArray, List.set_cons_zero, List.set_cons_succ]
      refine wpAnyH_done (by kernel_rfl) ?_ _
      have HBX := hid hb72
      have HGG := hid G10.out
      have HBs := hid (Nat.zero_le 0)
      clear hb7 hb71 hb72 G10 LO Ls Es Bs G7 Z7 HC7 HBs
      go_wp2_with fail
      have hb8 : (fun W' => W'.heap[w.heap.size]? = some (.cells #[.int .i64 s, .int .i64 g] 24 (0, 0))) V02.drew := HBX.out
      have NX8 := hid NXN.out.drew
      have G8 := hid (show Gr w V02.drew from HGG.out.drew)
      have Z8 := hid (show w.heap.size + 1 ≤ V02.drew.heap.size from lt_of_block HBX.out)
      clear NXN HBX HGG
      refine wp_region_held_drew (S := fun W' => W'.heap[w.heap.size]? = some (.cells #[.int .i64 s, .int .i64 g] 24 (0, 0))) (by kernel_rfl) (by exact hb8) (fun _ => ?_)
      generalize World.drew V02 = V1 at hb8 NX8 G8 Z8 ⊢
      obtain ⟨x, na⟩ := NX8.out.at HC8.out
      obtain ⟨fa, fn, fc, ef⟩ : ∃ a n c, x.r = .slice a n c := by obtain ⟨a, c, e⟩ := na.r.form; exact ⟨a, _, c, e⟩
      have Lr := hid na.r.lst
      have Er := hid ef
      rw [ef] at Lr
      have Br := hid (show fn ≤ 4398046511104 from by rw [Lr.out.len.1]; exact HBr.out)
      have NA := hid na
      clear ef na NX8
      refine takeS_on (i := 0) 34 (v := ?v14) rfl rfl (by kernel_rfl) (by kernel_rfl) (by kernel_rfl) (fun _ _ _ h => h) (by kernel_rfl) ?hy14 (by exact hb8) ?_
      case hy14 => (intro w' hSw; go_simp; try (with_reducible rfl))
      simp only [Act.put, List.setIfInBounds_toArray, List.set_cons_zero, List.set_cons_succ]
      refine takeS_on (i := 1) 35 (v := ?v15) rfl rfl (by kernel_rfl) (by kernel_rfl) (by kernel_rfl) (fun _ _ _ h => h) (by kernel_rfl) ?hy15 (by exact hb8) ?_
      case hy15 => (intro w' hSw; go_simp; try (with_reducible rfl))
      simp only [Act.put, List.setIfInBounds_toArray, List.set_cons_zero, List.set_cons_succ]
      refine takeS_on (i := 2) 36 (v := ?v16) rfl rfl (by kernel_rfl) (by kernel_rfl) (by kernel_rfl) (fun _ _ _ h => h) (by kernel_rfl) ?hy16 (by exact hb8) ?_
      case hy16 => (intro w' hSw; go_simp; try (with_reducible rfl))
      simp only [Act.put, List.setIfInBounds_toArray, List.set_cons_zero, List.set_cons_succ]
      refine takeS_on (i := 3) 37 (v := ?v17) rfl rfl (by kernel_rfl) (by kernel_rfl) (by kernel_rfl) (fun _ _ _ h => h) (by kernel_rfl) ?hy17 (by exact hb8) ?_
      case hy17 => (intro w' hSw; go_simp; try (with_reducible rfl))
      simp only [Act.put, List.setIfInBounds_toArray, List.set_cons_zero, List.set_cons_succ]
      refine takeS_on (i := 4) 38 (v := ?v18) rfl rfl (by kernel_rfl) (by kernel_rfl) (by kernel_rfl) (fun _ _ _ h => h) (by kernel_rfl) ?hy18 (by exact hb8) ?_
      case hy18 => (intro w' hSw; go_simp; try (with_reducible rfl))
      simp only [Act.put, List.setIfInBounds_toArray, List.set_cons_zero, List.set_cons_succ]
      refine takeS_on (i := 5) 39 (v := ?v19) rfl rfl (by kernel_rfl) (by kernel_rfl) (by kernel_rfl) (fun _ _ _ h => h) (by kernel_rfl) ?hy19 (by exact hb8) ?_
      case hy19 => (intro w' hSw; go_simp; try (with_reducible rfl))
      simp only [Act.put, List.setIfInBounds_toArray, List.set_cons_zero, List.set_cons_succ]
      refine takeS_on (i := 7) 41 (v := ?v20) rfl rfl (by kernel_rfl) (by kernel_rfl) (by kernel_rfl) (fun _ _ _ h => h) (by kernel_rfl) ?hy20 (by exact hb8) ?_
      case hy20 => (intro w' hSw; refine Eq.trans (exec_row 24 (.tmp 3) rfl _ rfl _ _ _ _ hSw Try.underlying24 rfl gid_size) ?_; with_reducible rfl)
      simp only [Act.put, List.setIfInBounds_toArray, List.set_cons_zero, List.set_cons_succ]
      refine wpAnyH_ready (rs := [6]) (by kernel_rfl) (by simp) (AllReadyH.cons rfl (fun K hK => ?_) AllReadyH.nil)
      have c1 := NA.out.c3
      rw [show _ = _ from Er.out] at c1
      go_simp
      clear c1
      refine hK.out _ _ (by exact hb8) (fun _ => ?_)
      clear hK K
      refine wpAnyH_ready (rs := [8]) (by kernel_rfl) (by simp) (AllReadyH.cons rfl (fun K hK => ?_) AllReadyH.nil)
      go_simp
      refine (rwithout_any _ V1 _ _ _ _ s g Lr.out Br.out).mono ?_
      rintro e V11 ⟨v9, rfl, o9, g9⟩
      have hb81 : (fun W' => W'.heap[w.heap.size]? = some (.cells #[.int .i64 s, .int .i64 g] 24 (0, 0))) V11 := gr_blk hb8 g9
      obtain ⟨rna, rnn, rnc, rfl⟩ : ∃ a n c, v9 = .slice a n c := by obtain ⟨a, c, e⟩ := o9.form; exact ⟨a, _, c, e⟩
      obtain ⟨ce, fz, lg, nx⟩ := NA.out.wr V11 _ _ g9.any (o9.lower (by have := NS.out; have := Z8.out; omega)) (fun q hq => .inr (o9.blk hq).1)
      rw [show _ = _ from Er.out] at ce
      generalize hq8 : (⟨d.cap, d.vs, wo d.ss s g, d.rs, d.cl⟩ : Cn).rs.length - (wo (⟨d.cap, d.vs, wo d.ss s g, d.rs, d.cl⟩ : Cn).rs s g).length = n8
      have HQ8 := hid hq8
      clear hq8
      have NXN := hid nx
      have LO := hid NA.out.lo
      have G9 := hid (Gr.trans G8.out g9)
      have HB9 := hid hb81
      clear nx o9 g9 NA
      refine hK.out _ _ (by exact hb81) (fun _ => ?_)
      clear hK K
      refine takeS_on (i := 9) 33 (v := ?v21) rfl rfl (by kernel_rfl) (by kernel_rfl) (by kernel_rfl) (fun _ _ _ h => h) (by kernel_rfl) ?hy21 (by exact hb81) ?_
      case hy21 => (intro w' hSw; go_simp; try (with_reducible rfl))
      simp only [Act.put, List.setIfInBounds_toArray, List.set_cons_zero, List.set_cons_succ]
      refine takeS_on (i := 10) 43 (v := ?v22) rfl rfl (by kernel_rfl) (by kernel_rfl) (by kernel_rfl) (fun _ _ _ h => h) (by kernel_rfl) ?hy22 (by exact hb81) ?_
      case hy22 => (intro w' hSw; go_simp; try (with_reducible rfl))
      simp only [Act.put, List.setIfInBounds_toArray, List.set_cons_zero, List.set_cons_succ]
      refine takeS_on (i := 11) 44 (v := ?v23) rfl rfl (by kernel_rfl) (by kernel_rfl) (by kernel_rfl) (fun _ _ _ h => h) (by kernel_rfl) ?hy23 (by exact hb81) ?_
      case hy23 => (intro w' hSw; go_simp; try (with_reducible rfl))
      simp only [Act.put, List.setIfInBounds_toArray, List.set_cons_zero, List.set_cons_succ]
      refine takeS_on (i := 12) 45 (v := ?v24) rfl rfl (by kernel_rfl) (by kernel_rfl) (by kernel_rfl) (fun _ _ _ h => h) (by kernel_rfl) ?hy24 (by exact hb81) ?_
      case hy24 => (intro w' hSw; go_simp; try (with_reducible rfl))
      simp only [Act.put, List.setIfInBounds_toArray, List.set_cons_zero, List.set_cons_succ]
      refine takeS_on (i := 13) 46 (v := ?v25) rfl rfl (by kernel_rfl) (by kernel_rfl) (by kernel_rfl) (fun _ _ _ h => h) (by kernel_rfl) ?hy25 (by exact hb81) ?_
      case hy25 => (intro w' hSw; go_simp; try (with_reducible rfl))
      simp only [Act.put, List.setIfInBounds_toArray, List.set_cons_zero, List.set_cons_succ]
      refine wpAnyH_ready (rs := [14]) (by kernel_rfl) (by simp) (AllReadyH.cons rfl (fun K hK => ?_) AllReadyH.nil)
      go_simp
      have k9 : Ch (Only gO) V11 (V11.setCell ⟨gO, j * 5 + 3, none⟩ (.slice rna rnn rnc)) := (Ch.refl _ _).own _ _
      have hb82 : (fun W' => W'.heap[w.heap.size]? = some (.cells #[.int .i64 s, .int .i64 g] 24 (0, 0))) (V11.setCell ⟨gO, j * 5 + 3, none⟩ (.slice rna rnn rnc)) := (k9.block _ (lt_of_block hb81) (fun e => by have e1 : w.heap.size = gO := e; have := LO.out; omega)).trans hb81
      have G10 := hid (show Gr w (V11.setCell ⟨gO, j * 5 + 3, none⟩ (.slice rna rnn rnc)) from Ch.trans G9.out k9 (fun q e => .inr (by have e1 : q = gO := e; have := LO.out; omega)))
      clear ce fz lg k9 G9 HB9
      generalize V11.setCell ⟨gO, j * 5 + 3, none⟩ (.slice rna rnn rnc) = V12 at NXN hb82 G10 ⊢
      refine hK.out _ _ (by exact hb82) (fun _ => ?_)
      clear hK K
      refine takeS_on (i := 15) 10 (v := ?v26) rfl rfl (by kernel_rfl) (by kernel_rfl) (by kernel_rfl) (fun _ _ _ h => h) (by kernel_rfl) ?hy26 (by exact hb82) ?_
      case hy26 => (intro w' hSw; go_simp; try (with_reducible rfl))
      simp only [Act.put, List.setIfInBounds_toArray, List.set_cons_zero, List.set_cons_succ]
      refine wpAnyH_done (by kernel_rfl) ?_ _
      have NXF := hid (show Nx (w.heap.size + 1) V12 (.slice (some ⟨gO, 0, none⟩) n ca) (lvs (cs.take (j + 1)) s g ++ cs.drop (j + 1)) from by rw [← HST.out, ← HS8.out]; exact NXN.out)
      have hpl : d.pl s g = n7 + n8 := by rw [← HQ7.out, ← HQ8.out]; rfl
      have HPL2 := hid (show pls (cs.take (j + 1)) s g = pls (cs.take j) s g + (n7 + n8) from by rw [HPL.out, hpl])
      have hnb : n7 + n8 ≤ 8796093022208 := by rw [← hpl]; exact hdb
      have HBX := hid hb82
      clear hb8 hb81 hb82 HPL hpl hdb NXN HST HS8 HC8
      generalize pls (cs.take j) s g = p0 at hpb HPL2 ⊢
      go_wp2_with fail
      go_roundg (gk - 1)
      case measure => omega
      case rel => exact ⟨j + 1, by omega, by simp, by rw [HPL2.out]; simp, NXF.out, HBX.out, G10.out⟩
    · have jn : ¬ (j : Int) < (n : Int) := by omega
      have HT := hid (show cs.take j = cs from List.take_of_length_le (by rw [← HNN.out]; omega))
      have HD := hid (show cs.drop j = [] from List.drop_eq_nil_of_le (by rw [← HNN.out]; omega))
      rw [HT.out, HD.out, List.append_nil] at NXN
      go_wp2
      refine bodyPost_ret (v := .tuple #[.slice ao n ca, .int .i64 ((pls (cs.take j) s g : Nat) : Int)]) (by simp [results, Try.results56, go_sem]) rfl ⟨_, by rw [HT.out], NXN.out.lower (by omega), HGG.out⟩
end Go.Proofs.Ytalmiphddgmfbab.Lt
