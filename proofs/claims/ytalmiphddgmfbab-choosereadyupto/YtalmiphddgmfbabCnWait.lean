/-
  What the document's Wait of layer 11 answers, where there is such a channel. Conditions: there is; the lists are not too long.
-/
import Derived.Test.YtalmiphddgmfbabCnRef3
namespace Go.Proofs.Ytalmiphddgmfbab.Lt
open Go.RowKit Wd

theorem NxA.gr {base : Nat} {w w' : World} {gO n ca i : Nat} {cs : List Cn} {c : Cn} {x : Rw} (h : NxA base w gO n ca cs i c x) (g : Gr w w') : NxA base w' gO n ca cs i c x :=
  ⟨h.cap, h.cl, (g.cell h.hi).trans h.c0, (g.cell h.hi).trans h.c1, (g.cell h.hi).trans h.c2, (g.cell h.hi).trans h.c3, (g.cell h.hi).trans h.c4, h.v.gr g, h.s.gr g, h.r.gr g, h.lo, Nat.lt_of_lt_of_le h.hi g.size, h.dv, h.ds, h.dr, (fun w1 u us k o hu => h.wv w1 u us (Ch.trans g.any k (fun q e => .inl e)) o (fun q hq => (hu q hq).imp id (fun z => by have := g.size; omega))), (fun w1 u us k o hu => h.ws w1 u us (Ch.trans g.any k (fun q e => .inl e)) o (fun q hq => (hu q hq).imp id (fun z => by have := g.size; omega))), (fun w1 u us k o hu => h.wr w1 u us (Ch.trans g.any k (fun q e => .inl e)) o (fun q hq => (hu q hq).imp id (fun z => by have := g.size; omega)))⟩
/-- what Wait tells -/
def WaR (w : World) (cs : List Cn) (e : Ending) (w' : World) : Prop := ∃ v, e = .returned (.tuple #[v, .int .i64 0]) ∧ Nx w.heap.size w' v cs ∧ Gr w w'
set_option maxHeartbeats 4000000 in
set_option maxRecDepth 20000 in
theorem rwait_send (P : Nat → Prop) (w : World) (ao : Option Addr) (n cap : Nat) (cs : List Cn) (k : Nat) (d : Cn) (s g c x : Int) (h : Rds P w (.slice ao n cap) cs) (hb : Bd cs) (hnn : n = cs.length) (hk : cs[k]? = some d) (hl : d.ss.length < 4398046511104) :
    Calls Try.prog 42 #[.slice ao n cap, .int .i64 ((k + 1 : Nat) : Int), .agg #[.int .i64 s, .int .i64 g, .int .i64 c, .int .i64 x], .bool true] w (WaR w (cs.set k ⟨d.cap, d.vs, d.ss ++ [⟨s, g, c, x⟩], d.rs, d.cl⟩)) := by
  have hkn : k < n := by rw [hnn]; exact (List.getElem?_eq_some_iff.1 hk).1
  have hnb : n ≤ 1599289640400 := by rw [hnn]; exact hb.n
  have HC := hid (fun (W : World) (p : Gr w W) => copy_any P W _ cs (h.gr p) hb)
  have HI := hid ris_any
  have HNN := hid hnn
  have HCK := hid hk
  have HFL := hid hl
  have hd : decide (1 ≤ ((k + 1 : Nat) : Int) ∧ ((k + 1 : Nat) : Int) ≤ (n : Int)) = true := decide_eq_true (by omega)
  have hw1 : wrap64 (((k + 1 : Nat) : Int) - 1) = (k : Int) := by unfold wrap64; omega
  have hw2 : IntKind.i64.wrap (((k + 1 : Nat) : Int) - 1) = (k : Int) := by simp [IntKind.wrap, IntKind.bits, IntKind.signed]; omega
  have k0 : (0 : Int) ≤ (k : Int) := by omega
  have k1 : (k : Int) < (n : Int) := by omega
  obtain ⟨ch, hch⟩ : ∃ ch : Int, ch = ((k + 1 : Nat) : Int) := ⟨_, rfl⟩
  rw [← hch] at hd hw1 hw2 ⊢
  have hbx : (w.alloc (.cells #[.int .i64 s, .int .i64 g, .int .i64 c, .int .i64 x] 95)).heap[w.heap.size]? = some (.cells #[.int .i64 s, .int .i64 g, .int .i64 c, .int .i64 x] 95 (0, 0)) := (MapKept.heap_alloc w _).1
  have HB0 := hid hbx
  have G00 := hid (show Gr w (w.alloc (.cells #[.int .i64 s, .int .i64 g, .int .i64 c, .int .i64 x] 95)) from Ch.alloc (Gr.refl w) _)
  have HSZ := hid (show (w.alloc (.cells #[.int .i64 s, .int .i64 g, .int .i64 c, .int .i64 x] 95)).heap.size = w.heap.size + 1 from by simp)
  clear h hb hnn hk hl hch hbx
  go_enter Try.func42, Try.ntmps42
  go_wp2_with (first
    | (go_at_call 57; refine (HI.out _ _ _ _ _).mono ?_; rw [hd]; rintro e w0 ⟨rfl, hw⟩; subst hw)
    | (go_at_call 36; refine (HC.out _ G00.out).mono ?_; rintro e w1 ⟨v1, t1, xs1, rfl, nl1, g1⟩; have N1 := hid (show Nx (w.heap.size + 1) w1 v1 cs from ⟨t1, xs1, by have := nl1; rw [HSZ.out] at this; exact this⟩); have B1 := hid (gr_blk HB0.out g1); have G1 := hid (Gr.trans G00.out g1); clear nl1 g1; obtain ⟨a1, ca, rfl⟩ : ∃ a c, v1 = .slice a n c := (by obtain ⟨a, c, e⟩ := N1.out.form; exact ⟨a, c, by rw [e, HNN.out]⟩); obtain ⟨gO, ev⟩ : ∃ gO, a1 = some ⟨gO, 0, none⟩ := (by obtain ⟨t, xs, h⟩ := N1.out; obtain ⟨y, hy⟩ : ∃ y, xs[k]? = some y := ⟨_, List.getElem?_eq_getElem (by rw [h.n]; exact (List.getElem?_eq_some_iff.1 HCK.out).1)⟩; obtain ⟨g, ca', e, _⟩ := h.o.get eR_len hy; injection e with e _ _; exact ⟨g, e⟩); subst ev))
  have B2 := hid B1.out
  have N2 := hid N1.out
  have G2' := hid G1.out
  clear N1 B1 G1
  generalize w1 = W1 at B2 N2 G2' ⊢
  obtain ⟨y, na⟩ := N2.out.at HCK.out
  obtain ⟨fa, fn, fc, ef⟩ : ∃ a n c, y.s = .slice a n c := by obtain ⟨a, c, e⟩ := na.s.form; exact ⟨a, _, c, e⟩
  have EF := hid ef
  have NA := hid (na.gr (Ch.drew (Gr.refl W1)))
  have HFN := hid (show fn = d.ss.length from by have := na.s; rw [ef] at this; exact this.len.1)
  have HFB := hid (show fn < 4398046511104 from by have := HFN.out; have := HFL.out; omega)
  have G0 := hid (show Gr w W1.drew from G2'.out.drew)
  have hb0 : (fun W' : World => W'.heap[w.heap.size]? = some (.cells #[.int .i64 s, .int .i64 g, .int .i64 c, .int .i64 x] 95 (0, 0))) W1.drew := B2.out
  have OF := hid (fun (W : World) (z : NxA (w.heap.size + 1) W gO n ca cs k d y) => show Ow eW 4 95 (w.heap.size + 1) W (.slice fa fn fc) d.ss from by have := z.s; rw [EF.out] at this; exact this)
  clear ef na N2 B2 G2'
  generalize hus : d.ss = us at HFN OF
  subst hus
  refine wp_region_held_drew (S := fun W' => W'.heap[w.heap.size]? = some (.cells #[.int .i64 s, .int .i64 g, .int .i64 c, .int .i64 x] 95 (0, 0))) (by kernel_rfl) (by exact hb0) (fun _ => ?_)
  generalize World.drew W1 = V0 at hb0 NA G0 ⊢
  refine takeS_on (i := 0) 22 (v := ?v1) rfl rfl (by kernel_rfl) (by kernel_rfl) (by kernel_rfl) (fun _ _ _ h => h) (by kernel_rfl) ?hy1 (by exact hb0) ?_
  case hy1 => (intro w' hSw; go_simp; try (with_reducible rfl))
  simp only [Act.put, List.setIfInBounds_toArray, List.set_cons_zero, List.set_cons_succ]
  refine takeS_on (i := 1) 23 (v := ?v2) rfl rfl (by kernel_rfl) (by kernel_rfl) (by kernel_rfl) (fun _ _ _ h => h) (by kernel_rfl) ?hy2 (by exact hb0) ?_
  case hy2 => (intro w' hSw; go_simp; try (with_reducible rfl))
  simp only [Act.put, List.setIfInBounds_toArray, List.set_cons_zero, List.set_cons_succ]
  refine takeS_on (i := 2) 24 (v := ?v3) rfl rfl (by kernel_rfl) (by kernel_rfl) (by kernel_rfl) (fun _ _ _ h => h) (by kernel_rfl) ?hy3 (by exact hb0) ?_
  case hy3 => (intro w' hSw; go_simp; try (with_reducible rfl))
  simp only [Act.put, List.setIfInBounds_toArray, List.set_cons_zero, List.set_cons_succ]
  refine takeS_on (i := 3) 25 (v := ?v4) rfl rfl (by kernel_rfl) (by kernel_rfl) (by kernel_rfl) (fun _ _ _ h => h) (by kernel_rfl) ?hy4 (by exact hb0) ?_
  case hy4 => (intro w' hSw; go_simp; try (with_reducible rfl))
  simp only [Act.put, List.setIfInBounds_toArray, List.set_cons_zero, List.set_cons_succ]
  refine takeS_on (i := 4) 26 (v := ?v5) rfl rfl (by kernel_rfl) (by kernel_rfl) (by kernel_rfl) (fun _ _ _ h => h) (by kernel_rfl) ?hy5 (by exact hb0) ?_
  case hy5 => (intro w' hSw; go_simp; try (with_reducible rfl))
  simp only [Act.put, List.setIfInBounds_toArray, List.set_cons_zero, List.set_cons_succ]
  refine takeS_on (i := 5) 27 (v := ?v6) rfl rfl (by kernel_rfl) (by kernel_rfl) (by kernel_rfl) (fun _ _ _ h => h) (by kernel_rfl) ?hy6 (by exact hb0) ?_
  case hy6 => (intro w' hSw; go_simp; try (with_reducible rfl))
  simp only [Act.put, List.setIfInBounds_toArray, List.set_cons_zero, List.set_cons_succ]
  refine takeS_on (i := 6) 28 (v := ?v7) rfl rfl (by kernel_rfl) (by kernel_rfl) (by kernel_rfl) (fun _ _ _ h => h) (by kernel_rfl) ?hy7 (by exact hb0) ?_
  case hy7 => (intro w' hSw; go_simp; try (with_reducible rfl))
  simp only [Act.put, List.setIfInBounds_toArray, List.set_cons_zero, List.set_cons_succ]
  refine takeS_on (i := 7) 29 (v := ?v8) rfl rfl (by kernel_rfl) (by kernel_rfl) (by kernel_rfl) (fun _ _ _ h => h) (by kernel_rfl) ?hy8 (by exact hb0) ?_
  case hy8 => (intro w' hSw; go_simp; try (with_reducible rfl))
  simp only [Act.put, List.setIfInBounds_toArray, List.set_cons_zero, List.set_cons_succ]
  refine takeS_on (i := 9) 31 (v := ?v9) rfl rfl (by kernel_rfl) (by kernel_rfl) (by kernel_rfl) (fun _ _ _ h => h) (by kernel_rfl) ?hy9 (by exact hb0) ?_
  case hy9 => (intro w' hSw; refine Eq.trans (exec_row 95 (.tmp 6) rfl _ rfl _ _ _ _ hSw Try.underlying95 rfl wtr_size) ?_; with_reducible rfl)
  simp only [Act.put, List.setIfInBounds_toArray, List.set_cons_zero, List.set_cons_succ]
  refine wpAnyH_ready (rs := [8, 10]) (by kernel_rfl) (by simp) (AllReadyH.cons rfl (fun K hK => ?_) (AllReadyH.cons rfl (fun K hK => ?_) AllReadyH.nil))
  · have c1 : V0.cell? ⟨gO, k * 5 + 2, none⟩ = some (.slice fa fn fc) := NA.out.c2.trans (congrArg some EF.out)
    go_simp
    clear c1
    refine hK.out _ _ (by exact hb0) (fun _ => ?_)
    clear hK K
    refine wpAnyH_ready (rs := [10]) (by kernel_rfl) (by simp) (AllReadyH.cons rfl (fun K hK => ?_) AllReadyH.nil)
    go_simp
    have hb1 : (fun W' => W'.heap[w.heap.size]? = some (.cells #[.int .i64 s, .int .i64 g, .int .i64 c, .int .i64 x] 95 (0, 0))) (V0.alloc (.cells #[.int .i64 s, .int .i64 g, .int .i64 c, .int .i64 x] 95)) := al_blk hb0 _
    have LY := hid (Ls.single (enc := eW) V0 (Wt.mk s g c x) 95 #[.int .i64 s, .int .i64 g, .int .i64 c, .int .i64 x] rfl)
    have NA := hid (NA.out.gr (show Gr V0 (V0.alloc (.cells #[.int .i64 s, .int .i64 g, .int .i64 c, .int .i64 x] 95)) from Ch.alloc (Gr.refl V0) _))
    have G1 := hid (show Gr w (V0.alloc (.cells #[.int .i64 s, .int .i64 g, .int .i64 c, .int .i64 x] 95)) from Ch.alloc G0.out _)
    generalize V0.alloc (.cells #[.int .i64 s, .int .i64 g, .int .i64 c, .int .i64 x] 95) = q1 at hb1 LY NA G1 ⊢
    refine hK.out _ _ (by exact hb1) (fun _ => ?_)
    clear hK K
    refine wpAnyH_ready (rs := [11]) (by kernel_rfl) (by simp) (AllReadyH.cons rfl (fun K hK => ?_) AllReadyH.nil)
    refine step_append_ow eW_len rfl (.tmp 30) (.tmp 32) 68 95 32 Wt.zero Try.underlying68 wtr_info rfl (by omega) rfl (w.heap.size + 1) (.slice fa fn fc) d.ss (by simp [Act.eval]) (OF.out _ NA.out) _ _ [Wt.mk s g c x] (by simp [Act.eval]) LY.out (eW_one _) (fn + 1) (by rw [← HFN.out]; rfl) (by have := HFB.out; omega) (by unfold maxLen; have := HFB.out; omega) (by have := lt_of_block hb1; omega) (d.ss ++ [Wt.mk s g c x]) rfl ?_
    intro a6 c6 q2 ow6 cw6 bl6
    have hb2 : (fun W' => W'.heap[w.heap.size]? = some (.cells #[.int .i64 s, .int .i64 g, .int .i64 c, .int .i64 x] 95 (0, 0))) q2 := (cw6.block _ (lt_of_block hb1) (fun hq => by have := ((OF.out _ NA.out).blk hq).1; omega)).trans hb1
    obtain ⟨ce, fz, lg, nx⟩ := NA.out.ws q2 (.slice a6 (fn + 1) c6) _ (by rw [EF.out]; exact cw6) ow6 (fun q hq => by rw [EF.out]; exact bl6 q hq)
    rw [EF.out] at ce
    have NXN := hid nx
    have LO := hid NA.out.lo
    have G2 := hid (show Gr w q2 from Ch.trans G1.out cw6 (fun q hq => .inr (by have := ((OF.out _ NA.out).blk hq).1; omega)))
    clear ow6 cw6 bl6 nx NA LY
    refine hK.out _ _ (by exact hb2) (fun _ => ?_)
    change wpAnyH _ _ _ _ _ _ _ (Act.put _ (some 33) _) _
    simp only [Act.put, List.setIfInBounds_toArray, List.set_cons_zero, List.set_cons_succ]
    clear hK K
    refine takeS_on (i := 12) 34 (v := ?v10) rfl rfl (by kernel_rfl) (by kernel_rfl) (by kernel_rfl) (fun _ _ _ h => h) (by kernel_rfl) ?hy10 (by exact hb2) ?_
    case hy10 => (intro w' hSw; go_simp; try (with_reducible rfl))
    simp only [Act.put, List.setIfInBounds_toArray, List.set_cons_zero, List.set_cons_succ]
    refine takeS_on (i := 13) 35 (v := ?v11) rfl rfl (by kernel_rfl) (by kernel_rfl) (by kernel_rfl) (fun _ _ _ h => h) (by kernel_rfl) ?hy11 (by exact hb2) ?_
    case hy11 => (intro w' hSw; go_simp; try (with_reducible rfl))
    simp only [Act.put, List.setIfInBounds_toArray, List.set_cons_zero, List.set_cons_succ]
    refine wpAnyH_ready (rs := [14]) (by kernel_rfl) (by simp) (AllReadyH.cons rfl (fun K hK => ?_) AllReadyH.nil)
    go_simp
    have k9 : Ch (Only gO) q2 (q2.setCell ⟨gO, k * 5 + 2, none⟩ (.slice a6 (fn + 1) c6)) := (Ch.refl _ _).own _ _
    have hb3 : (fun W' => W'.heap[w.heap.size]? = some (.cells #[.int .i64 s, .int .i64 g, .int .i64 c, .int .i64 x] 95 (0, 0))) (q2.setCell ⟨gO, k * 5 + 2, none⟩ (.slice a6 (fn + 1) c6)) := (k9.block _ (lt_of_block hb2) (fun e => by have e1 : w.heap.size = gO := e; have := LO.out; omega)).trans hb2
    have G3 := hid (show Gr w (q2.setCell ⟨gO, k * 5 + 2, none⟩ (.slice a6 (fn + 1) c6)) from Ch.trans G2.out k9 (fun q e => .inr (by have e1 : q = gO := e; have := LO.out; omega)))
    clear ce fz lg k9
    generalize q2.setCell ⟨gO, k * 5 + 2, none⟩ (.slice a6 (fn + 1) c6) = q3 at NXN hb3 G3 ⊢
    refine hK.out _ _ (by exact hb3) (fun _ => ?_)
    clear hK K
    refine wpAnyH_done (by kernel_rfl) ?_ _
    go_wp2_with fail
    exact bodyPost_ret (v := .tuple #[.slice (some ⟨gO, 0, none⟩) n ca, .int .i64 0]) (by simp [results, Try.results42, go_sem]) rfl ⟨_, rfl, NXN.out.lower (by omega), G3.out⟩
  · go_simp
    have hb1 : (fun W' => W'.heap[w.heap.size]? = some (.cells #[.int .i64 s, .int .i64 g, .int .i64 c, .int .i64 x] 95 (0, 0))) (V0.alloc (.cells #[.int .i64 s, .int .i64 g, .int .i64 c, .int .i64 x] 95)) := al_blk hb0 _
    have LY := hid (Ls.single (enc := eW) V0 (Wt.mk s g c x) 95 #[.int .i64 s, .int .i64 g, .int .i64 c, .int .i64 x] rfl)
    have NA := hid (NA.out.gr (show Gr V0 (V0.alloc (.cells #[.int .i64 s, .int .i64 g, .int .i64 c, .int .i64 x] 95)) from Ch.alloc (Gr.refl V0) _))
    have G1 := hid (show Gr w (V0.alloc (.cells #[.int .i64 s, .int .i64 g, .int .i64 c, .int .i64 x] 95)) from Ch.alloc G0.out _)
    generalize V0.alloc (.cells #[.int .i64 s, .int .i64 g, .int .i64 c, .int .i64 x] 95) = q1 at hb1 LY NA G1 ⊢
    refine hK.out _ _ (by exact hb1) (fun _ => ?_)
    clear hK K
    refine wpAnyH_ready (rs := [8]) (by kernel_rfl) (by simp) (AllReadyH.cons rfl (fun K hK => ?_) AllReadyH.nil)
    have c1 : q1.cell? ⟨gO, k * 5 + 2, none⟩ = some (.slice fa fn fc) := NA.out.c2.trans (congrArg some EF.out)
    go_simp
    clear c1
    refine hK.out _ _ (by exact hb1) (fun _ => ?_)
    clear hK K
    refine wpAnyH_ready (rs := [11]) (by kernel_rfl) (by simp) (AllReadyH.cons rfl (fun K hK => ?_) AllReadyH.nil)
    refine step_append_ow eW_len rfl (.tmp 30) (.tmp 32) 68 95 32 Wt.zero Try.underlying68 wtr_info rfl (by omega) rfl (w.heap.size + 1) (.slice fa fn fc) d.ss (by simp [Act.eval]) (OF.out _ NA.out) _ _ [Wt.mk s g c x] (by simp [Act.eval]) LY.out (eW_one _) (fn + 1) (by rw [← HFN.out]; rfl) (by have := HFB.out; omega) (by unfold maxLen; have := HFB.out; omega) (by have := lt_of_block hb1; omega) (d.ss ++ [Wt.mk s g c x]) rfl ?_
    intro a6 c6 q2 ow6 cw6 bl6
    have hb2 : (fun W' => W'.heap[w.heap.size]? = some (.cells #[.int .i64 s, .int .i64 g, .int .i64 c, .int .i64 x] 95 (0, 0))) q2 := (cw6.block _ (lt_of_block hb1) (fun hq => by have := ((OF.out _ NA.out).blk hq).1; omega)).trans hb1
    obtain ⟨ce, fz, lg, nx⟩ := NA.out.ws q2 (.slice a6 (fn + 1) c6) _ (by rw [EF.out]; exact cw6) ow6 (fun q hq => by rw [EF.out]; exact bl6 q hq)
    rw [EF.out] at ce
    have NXN := hid nx
    have LO := hid NA.out.lo
    have G2 := hid (show Gr w q2 from Ch.trans G1.out cw6 (fun q hq => .inr (by have := ((OF.out _ NA.out).blk hq).1; omega)))
    clear ow6 cw6 bl6 nx NA LY
    refine hK.out _ _ (by exact hb2) (fun _ => ?_)
    change wpAnyH _ _ _ _ _ _ _ (Act.put _ (some 33) _) _
    simp only [Act.put, List.setIfInBounds_toArray, List.set_cons_zero, List.set_cons_succ]
    clear hK K
    refine takeS_on (i := 12) 34 (v := ?v12) rfl rfl (by kernel_rfl) (by kernel_rfl) (by kernel_rfl) (fun _ _ _ h => h) (by kernel_rfl) ?hy12 (by exact hb2) ?_
    case hy12 => (intro w' hSw; go_simp; try (with_reducible rfl))
    simp only [Act.put, List.setIfInBounds_toArray, List.set_cons_zero, List.set_cons_succ]
    refine takeS_on (i := 13) 35 (v := ?v13) rfl rfl (by kernel_rfl) (by kernel_rfl) (by kernel_rfl) (fun _ _ _ h => h) (by kernel_rfl) ?hy13 (by exact hb2) ?_
    case hy13 => (intro w' hSw; go_simp; try (with_reducible rfl))
    simp only [Act.put, List.setIfInBounds_toArray, List.set_cons_zero, List.set_cons_succ]
    refine wpAnyH_ready (rs := [14]) (by kernel_rfl) (by simp) (AllReadyH.cons rfl (fun K hK => ?_) AllReadyH.nil)
    go_simp
    have k9 : Ch (Only gO) q2 (q2.setCell ⟨gO, k * 5 + 2, none⟩ (.slice a6 (fn + 1) c6)) := (Ch.refl _ _).own _ _
    have hb3 : (fun W' => W'.heap[w.heap.size]? = some (.cells #[.int .i64 s, .int .i64 g, .int .i64 c, .int .i64 x] 95 (0, 0))) (q2.setCell ⟨gO, k * 5 + 2, none⟩ (.slice a6 (fn + 1) c6)) := (k9.block _ (lt_of_block hb2) (fun e => by have e1 : w.heap.size = gO := e; have := LO.out; omega)).trans hb2
    have G3 := hid (show Gr w (q2.setCell ⟨gO, k * 5 + 2, none⟩ (.slice a6 (fn + 1) c6)) from Ch.trans G2.out k9 (fun q e => .inr (by have e1 : q = gO := e; have := LO.out; omega)))
    clear ce fz lg k9
    generalize q2.setCell ⟨gO, k * 5 + 2, none⟩ (.slice a6 (fn + 1) c6) = q3 at NXN hb3 G3 ⊢
    refine hK.out _ _ (by exact hb3) (fun _ => ?_)
    clear hK K
    refine wpAnyH_done (by kernel_rfl) ?_ _
    go_wp2_with fail
    exact bodyPost_ret (v := .tuple #[.slice (some ⟨gO, 0, none⟩) n ca, .int .i64 0]) (by simp [results, Try.results42, go_sem]) rfl ⟨_, rfl, NXN.out.lower (by omega), G3.out⟩
set_option maxHeartbeats 4000000 in
set_option maxRecDepth 20000 in
theorem rwait_recv (P : Nat → Prop) (w : World) (ao : Option Addr) (n cap : Nat) (cs : List Cn) (k : Nat) (d : Cn) (s g c x : Int) (h : Rds P w (.slice ao n cap) cs) (hb : Bd cs) (hnn : n = cs.length) (hk : cs[k]? = some d) (hl : d.rs.length < 4398046511104) :
    Calls Try.prog 42 #[.slice ao n cap, .int .i64 ((k + 1 : Nat) : Int), .agg #[.int .i64 s, .int .i64 g, .int .i64 c, .int .i64 x], .bool false] w (WaR w (cs.set k ⟨d.cap, d.vs, d.ss, d.rs ++ [⟨s, g, c, 0⟩], d.cl⟩)) := by
  have hkn : k < n := by rw [hnn]; exact (List.getElem?_eq_some_iff.1 hk).1
  have hnb : n ≤ 1599289640400 := by rw [hnn]; exact hb.n
  have HC := hid (fun (W : World) (p : Gr w W) => copy_any P W _ cs (h.gr p) hb)
  have HI := hid ris_any
  have HNN := hid hnn
  have HCK := hid hk
  have HFL := hid hl
  have hd : decide (1 ≤ ((k + 1 : Nat) : Int) ∧ ((k + 1 : Nat) : Int) ≤ (n : Int)) = true := decide_eq_true (by omega)
  have hw1 : wrap64 (((k + 1 : Nat) : Int) - 1) = (k : Int) := by unfold wrap64; omega
  have hw2 : IntKind.i64.wrap (((k + 1 : Nat) : Int) - 1) = (k : Int) := by simp [IntKind.wrap, IntKind.bits, IntKind.signed]; omega
  have k0 : (0 : Int) ≤ (k : Int) := by omega
  have k1 : (k : Int) < (n : Int) := by omega
  obtain ⟨ch, hch⟩ : ∃ ch : Int, ch = ((k + 1 : Nat) : Int) := ⟨_, rfl⟩
  rw [← hch] at hd hw1 hw2 ⊢
  have hbx : (w.alloc (.cells #[.int .i64 s, .int .i64 g, .int .i64 c, .int .i64 x] 95)).heap[w.heap.size]? = some (.cells #[.int .i64 s, .int .i64 g, .int .i64 c, .int .i64 x] 95 (0, 0)) := (MapKept.heap_alloc w _).1
  have HB0 := hid hbx
  have G00 := hid (show Gr w (w.alloc (.cells #[.int .i64 s, .int .i64 g, .int .i64 c, .int .i64 x] 95)) from Ch.alloc (Gr.refl w) _)
  have HSZ := hid (show (w.alloc (.cells #[.int .i64 s, .int .i64 g, .int .i64 c, .int .i64 x] 95)).heap.size = w.heap.size + 1 from by simp)
  clear h hb hnn hk hl hch hbx
  go_enter Try.func42, Try.ntmps42
  go_wp2_with (first
    | (go_at_call 57; refine (HI.out _ _ _ _ _).mono ?_; rw [hd]; rintro e w0 ⟨rfl, hw⟩; subst hw)
    | (go_at_call 36; refine (HC.out _ G00.out).mono ?_; rintro e w1 ⟨v1, t1, xs1, rfl, nl1, g1⟩; have N1 := hid (show Nx (w.heap.size + 1) w1 v1 cs from ⟨t1, xs1, by have := nl1; rw [HSZ.out] at this; exact this⟩); have B1 := hid (gr_blk HB0.out g1); have G1 := hid (Gr.trans G00.out g1); clear nl1 g1; obtain ⟨a1, ca, rfl⟩ : ∃ a c, v1 = .slice a n c := (by obtain ⟨a, c, e⟩ := N1.out.form; exact ⟨a, c, by rw [e, HNN.out]⟩); obtain ⟨gO, ev⟩ : ∃ gO, a1 = some ⟨gO, 0, none⟩ := (by obtain ⟨t, xs, h⟩ := N1.out; obtain ⟨y, hy⟩ : ∃ y, xs[k]? = some y := ⟨_, List.getElem?_eq_getElem (by rw [h.n]; exact (List.getElem?_eq_some_iff.1 HCK.out).1)⟩; obtain ⟨g, ca', e, _⟩ := h.o.get eR_len hy; injection e with e _ _; exact ⟨g, e⟩); subst ev; have cb := (cell_of B1.out 3); have fb := frozen_of B1.out 3; have lb := lt_of_block B1.out; simp at cb))
  have B2 := hid (show (w1.setCell ⟨w.heap.size, 3, none⟩ (.int .i64 0)).heap[w.heap.size]? = some (.cells #[.int .i64 s, .int .i64 g, .int .i64 c, .int .i64 0] 95 (0, 0)) by simpa using setCell_block B1.out 3 (.int .i64 0))
  have k0' : Ch (Only w.heap.size) w1 (w1.setCell ⟨w.heap.size, 3, none⟩ (.int .i64 0)) := (Ch.refl _ _).own _ _
  have N2 := hid (N1.out.ch k0' (fun q e => by have e1 : q = w.heap.size := e; omega))
  have G2' := hid (show Gr w (w1.setCell ⟨w.heap.size, 3, none⟩ (.int .i64 0)) from Ch.trans G1.out k0' (fun q e => .inr (by have e1 : q = w.heap.size := e; omega)))
  clear k0' N1 B1 G1 cb fb lb
  generalize w1.setCell ⟨w.heap.size, 3, none⟩ (.int .i64 0) = W1 at B2 N2 G2' ⊢
  obtain ⟨y, na⟩ := N2.out.at HCK.out
  obtain ⟨fa, fn, fc, ef⟩ : ∃ a n c, y.r = .slice a n c := by obtain ⟨a, c, e⟩ := na.r.form; exact ⟨a, _, c, e⟩
  have EF := hid ef
  have NA := hid (na.gr (Ch.drew (Gr.refl W1)))
  have HFN := hid (show fn = d.rs.length from by have := na.r; rw [ef] at this; exact this.len.1)
  have HFB := hid (show fn < 4398046511104 from by have := HFN.out; have := HFL.out; omega)
  have G0 := hid (show Gr w W1.drew from G2'.out.drew)
  have hb0 : (fun W' : World => W'.heap[w.heap.size]? = some (.cells #[.int .i64 s, .int .i64 g, .int .i64 c, .int .i64 0] 95 (0, 0))) W1.drew := B2.out
  have OF := hid (fun (W : World) (z : NxA (w.heap.size + 1) W gO n ca cs k d y) => show Ow eW 4 95 (w.heap.size + 1) W (.slice fa fn fc) d.rs from by have := z.r; rw [EF.out] at this; exact this)
  clear ef na N2 B2 G2'
  generalize hus : d.rs = us at HFN OF
  subst hus
  refine wp_region_held_drew (S := fun W' => W'.heap[w.heap.size]? = some (.cells #[.int .i64 s, .int .i64 g, .int .i64 c, .int .i64 0] 95 (0, 0))) (by kernel_rfl) (by exact hb0) (fun _ => ?_)
  generalize World.drew W1 = V0 at hb0 NA G0 ⊢
  refine takeS_on (i := 0) 38 (v := ?v14) rfl rfl (by kernel_rfl) (by kernel_rfl) (by kernel_rfl) (fun _ _ _ h => h) (by kernel_rfl) ?hy14 (by exact hb0) ?_
  case hy14 => (intro w' hSw; go_simp; try (with_reducible rfl))
  simp only [Act.put, List.setIfInBounds_toArray, List.set_cons_zero, List.set_cons_succ]
  refine takeS_on (i := 1) 39 (v := ?v15) rfl rfl (by kernel_rfl) (by kernel_rfl) (by kernel_rfl) (fun _ _ _ h => h) (by kernel_rfl) ?hy15 (by exact hb0) ?_
  case hy15 => (intro w' hSw; go_simp; try (with_reducible rfl))
  simp only [Act.put, List.setIfInBounds_toArray, List.set_cons_zero, List.set_cons_succ]
  refine takeS_on (i := 2) 40 (v := ?v16) rfl rfl (by kernel_rfl) (by kernel_rfl) (by kernel_rfl) (fun _ _ _ h => h) (by kernel_rfl) ?hy16 (by exact hb0) ?_
  case hy16 => (intro w' hSw; go_simp; try (with_reducible rfl))
  simp only [Act.put, List.setIfInBounds_toArray, List.set_cons_zero, List.set_cons_succ]
  refine takeS_on (i := 3) 41 (v := ?v17) rfl rfl (by kernel_rfl) (by kernel_rfl) (by kernel_rfl) (fun _ _ _ h => h) (by kernel_rfl) ?hy17 (by exact hb0) ?_
  case hy17 => (intro w' hSw; go_simp; try (with_reducible rfl))
  simp only [Act.put, List.setIfInBounds_toArray, List.set_cons_zero, List.set_cons_succ]
  refine takeS_on (i := 4) 42 (v := ?v18) rfl rfl (by kernel_rfl) (by kernel_rfl) (by kernel_rfl) (fun _ _ _ h => h) (by kernel_rfl) ?hy18 (by exact hb0) ?_
  case hy18 => (intro w' hSw; go_simp; try (with_reducible rfl))
  simp only [Act.put, List.setIfInBounds_toArray, List.set_cons_zero, List.set_cons_succ]
  refine takeS_on (i := 5) 43 (v := ?v19) rfl rfl (by kernel_rfl) (by kernel_rfl) (by kernel_rfl) (fun _ _ _ h => h) (by kernel_rfl) ?hy19 (by exact hb0) ?_
  case hy19 => (intro w' hSw; go_simp; try (with_reducible rfl))
  simp only [Act.put, List.setIfInBounds_toArray, List.set_cons_zero, List.set_cons_succ]
  refine takeS_on (i := 6) 44 (v := ?v20) rfl rfl (by kernel_rfl) (by kernel_rfl) (by kernel_rfl) (fun _ _ _ h => h) (by kernel_rfl) ?hy20 (by exact hb0) ?_
  case hy20 => (intro w' hSw; go_simp; try (with_reducible rfl))
  simp only [Act.put, List.setIfInBounds_toArray, List.set_cons_zero, List.set_cons_succ]
  refine takeS_on (i := 7) 45 (v := ?v21) rfl rfl (by kernel_rfl) (by kernel_rfl) (by kernel_rfl) (fun _ _ _ h => h) (by kernel_rfl) ?hy21 (by exact hb0) ?_
  case hy21 => (intro w' hSw; go_simp; try (with_reducible rfl))
  simp only [Act.put, List.setIfInBounds_toArray, List.set_cons_zero, List.set_cons_succ]
  refine takeS_on (i := 9) 47 (v := ?v22) rfl rfl (by kernel_rfl) (by kernel_rfl) (by kernel_rfl) (fun _ _ _ h => h) (by kernel_rfl) ?hy22 (by exact hb0) ?_
  case hy22 => (intro w' hSw; refine Eq.trans (exec_row 95 (.tmp 6) rfl _ rfl _ _ _ _ hSw Try.underlying95 rfl wtr_size) ?_; with_reducible rfl)
  simp only [Act.put, List.setIfInBounds_toArray, List.set_cons_zero, List.set_cons_succ]
  refine wpAnyH_ready (rs := [8, 10]) (by kernel_rfl) (by simp) (AllReadyH.cons rfl (fun K hK => ?_) (AllReadyH.cons rfl (fun K hK => ?_) AllReadyH.nil))
  · have c1 : V0.cell? ⟨gO, k * 5 + 3, none⟩ = some (.slice fa fn fc) := NA.out.c3.trans (congrArg some EF.out)
    go_simp
    clear c1
    refine hK.out _ _ (by exact hb0) (fun _ => ?_)
    clear hK K
    refine wpAnyH_ready (rs := [10]) (by kernel_rfl) (by simp) (AllReadyH.cons rfl (fun K hK => ?_) AllReadyH.nil)
    go_simp
    have hb1 : (fun W' => W'.heap[w.heap.size]? = some (.cells #[.int .i64 s, .int .i64 g, .int .i64 c, .int .i64 0] 95 (0, 0))) (V0.alloc (.cells #[.int .i64 s, .int .i64 g, .int .i64 c, .int .i64 0] 95)) := al_blk hb0 _
    have LY := hid (Ls.single (enc := eW) V0 (Wt.mk s g c 0) 95 #[.int .i64 s, .int .i64 g, .int .i64 c, .int .i64 0] rfl)
    have NA := hid (NA.out.gr (show Gr V0 (V0.alloc (.cells #[.int .i64 s, .int .i64 g, .int .i64 c, .int .i64 0] 95)) from Ch.alloc (Gr.refl V0) _))
    have G1 := hid (show Gr w (V0.alloc (.cells #[.int .i64 s, .int .i64 g, .int .i64 c, .int .i64 0] 95)) from Ch.alloc G0.out _)
    generalize V0.alloc (.cells #[.int .i64 s, .int .i64 g, .int .i64 c, .int .i64 0] 95) = q1 at hb1 LY NA G1 ⊢
    refine hK.out _ _ (by exact hb1) (fun _ => ?_)
    clear hK K
    refine wpAnyH_ready (rs := [11]) (by kernel_rfl) (by simp) (AllReadyH.cons rfl (fun K hK => ?_) AllReadyH.nil)
    refine step_append_ow eW_len rfl (.tmp 46) (.tmp 48) 68 95 32 Wt.zero Try.underlying68 wtr_info rfl (by omega) rfl (w.heap.size + 1) (.slice fa fn fc) d.rs (by simp [Act.eval]) (OF.out _ NA.out) _ _ [Wt.mk s g c 0] (by simp [Act.eval]) LY.out (eW_one _) (fn + 1) (by rw [← HFN.out]; rfl) (by have := HFB.out; omega) (by unfold maxLen; have := HFB.out; omega) (by have := lt_of_block hb1; omega) (d.rs ++ [Wt.mk s g c 0]) rfl ?_
    intro a6 c6 q2 ow6 cw6 bl6
    have hb2 : (fun W' => W'.heap[w.heap.size]? = some (.cells #[.int .i64 s, .int .i64 g, .int .i64 c, .int .i64 0] 95 (0, 0))) q2 := (cw6.block _ (lt_of_block hb1) (fun hq => by have := ((OF.out _ NA.out).blk hq).1; omega)).trans hb1
    obtain ⟨ce, fz, lg, nx⟩ := NA.out.wr q2 (.slice a6 (fn + 1) c6) _ (by rw [EF.out]; exact cw6) ow6 (fun q hq => by rw [EF.out]; exact bl6 q hq)
    rw [EF.out] at ce
    have NXN := hid nx
    have LO := hid NA.out.lo
    have G2 := hid (show Gr w q2 from Ch.trans G1.out cw6 (fun q hq => .inr (by have := ((OF.out _ NA.out).blk hq).1; omega)))
    clear ow6 cw6 bl6 nx NA LY
    refine hK.out _ _ (by exact hb2) (fun _ => ?_)
    change wpAnyH _ _ _ _ _ _ _ (Act.put _ (some 49) _) _
    simp only [Act.put, List.setIfInBounds_toArray, List.set_cons_zero, List.set_cons_succ]
    clear hK K
    refine takeS_on (i := 12) 50 (v := ?v23) rfl rfl (by kernel_rfl) (by kernel_rfl) (by kernel_rfl) (fun _ _ _ h => h) (by kernel_rfl) ?hy23 (by exact hb2) ?_
    case hy23 => (intro w' hSw; go_simp; try (with_reducible rfl))
    simp only [Act.put, List.setIfInBounds_toArray, List.set_cons_zero, List.set_cons_succ]
    refine takeS_on (i := 13) 51 (v := ?v24) rfl rfl (by kernel_rfl) (by kernel_rfl) (by kernel_rfl) (fun _ _ _ h => h) (by kernel_rfl) ?hy24 (by exact hb2) ?_
    case hy24 => (intro w' hSw; go_simp; try (with_reducible rfl))
    simp only [Act.put, List.setIfInBounds_toArray, List.set_cons_zero, List.set_cons_succ]
    refine wpAnyH_ready (rs := [14]) (by kernel_rfl) (by simp) (AllReadyH.cons rfl (fun K hK => ?_) AllReadyH.nil)
    go_simp
    have k9 : Ch (Only gO) q2 (q2.setCell ⟨gO, k * 5 + 3, none⟩ (.slice a6 (fn + 1) c6)) := (Ch.refl _ _).own _ _
    have hb3 : (fun W' => W'.heap[w.heap.size]? = some (.cells #[.int .i64 s, .int .i64 g, .int .i64 c, .int .i64 0] 95 (0, 0))) (q2.setCell ⟨gO, k * 5 + 3, none⟩ (.slice a6 (fn + 1) c6)) := (k9.block _ (lt_of_block hb2) (fun e => by have e1 : w.heap.size = gO := e; have := LO.out; omega)).trans hb2
    have G3 := hid (show Gr w (q2.setCell ⟨gO, k * 5 + 3, none⟩ (.slice a6 (fn + 1) c6)) from Ch.trans G2.out k9 (fun q e => .inr (by have e1 : q = gO := e; have := LO.out; omega)))
    clear ce fz lg k9
    generalize q2.setCell ⟨gO, k * 5 + 3, none⟩ (.slice a6 (fn + 1) c6) = q3 at NXN hb3 G3 ⊢
    refine hK.out _ _ (by exact hb3) (fun _ => ?_)
    clear hK K
    refine wpAnyH_done (by kernel_rfl) ?_ _
    go_wp2_with fail
    exact bodyPost_ret (v := .tuple #[.slice (some ⟨gO, 0, none⟩) n ca, .int .i64 0]) (by simp [results, Try.results42, go_sem]) rfl ⟨_, rfl, NXN.out.lower (by omega), G3.out⟩
  · go_simp
    have hb1 : (fun W' => W'.heap[w.heap.size]? = some (.cells #[.int .i64 s, .int .i64 g, .int .i64 c, .int .i64 0] 95 (0, 0))) (V0.alloc (.cells #[.int .i64 s, .int .i64 g, .int .i64 c, .int .i64 0] 95)) := al_blk hb0 _
    have LY := hid (Ls.single (enc := eW) V0 (Wt.mk s g c 0) 95 #[.int .i64 s, .int .i64 g, .int .i64 c, .int .i64 0] rfl)
    have NA := hid (NA.out.gr (show Gr V0 (V0.alloc (.cells #[.int .i64 s, .int .i64 g, .int .i64 c, .int .i64 0] 95)) from Ch.alloc (Gr.refl V0) _))
    have G1 := hid (show Gr w (V0.alloc (.cells #[.int .i64 s, .int .i64 g, .int .i64 c, .int .i64 0] 95)) from Ch.alloc G0.out _)
    generalize V0.alloc (.cells #[.int .i64 s, .int .i64 g, .int .i64 c, .int .i64 0] 95) = q1 at hb1 LY NA G1 ⊢
    refine hK.out _ _ (by exact hb1) (fun _ => ?_)
    clear hK K
    refine wpAnyH_ready (rs := [8]) (by kernel_rfl) (by simp) (AllReadyH.cons rfl (fun K hK => ?_) AllReadyH.nil)
    have c1 : q1.cell? ⟨gO, k * 5 + 3, none⟩ = some (.slice fa fn fc) := NA.out.c3.trans (congrArg some EF.out)
    go_simp
    clear c1
    refine hK.out _ _ (by exact hb1) (fun _ => ?_)
    clear hK K
    refine wpAnyH_ready (rs := [11]) (by kernel_rfl) (by simp) (AllReadyH.cons rfl (fun K hK => ?_) AllReadyH.nil)
    refine step_append_ow eW_len rfl (.tmp 46) (.tmp 48) 68 95 32 Wt.zero Try.underlying68 wtr_info rfl (by omega) rfl (w.heap.size + 1) (.slice fa fn fc) d.rs (by simp [Act.eval]) (OF.out _ NA.out) _ _ [Wt.mk s g c 0] (by simp [Act.eval]) LY.out (eW_one _) (fn + 1) (by rw [← HFN.out]; rfl) (by have := HFB.out; omega) (by unfold maxLen; have := HFB.out; omega) (by have := lt_of_block hb1; omega) (d.rs ++ [Wt.mk s g c 0]) rfl ?_
    intro a6 c6 q2 ow6 cw6 bl6
    have hb2 : (fun W' => W'.heap[w.heap.size]? = some (.cells #[.int .i64 s, .int .i64 g, .int .i64 c, .int .i64 0] 95 (0, 0))) q2 := (cw6.block _ (lt_of_block hb1) (fun hq => by have := ((OF.out _ NA.out).blk hq).1; omega)).trans hb1
    obtain ⟨ce, fz, lg, nx⟩ := NA.out.wr q2 (.slice a6 (fn + 1) c6) _ (by rw [EF.out]; exact cw6) ow6 (fun q hq => by rw [EF.out]; exact bl6 q hq)
    rw [EF.out] at ce
    have NXN := hid nx
    have LO := hid NA.out.lo
    have G2 := hid (show Gr w q2 from Ch.trans G1.out cw6 (fun q hq => .inr (by have := ((OF.out _ NA.out).blk hq).1; omega)))
    clear ow6 cw6 bl6 nx NA LY
    refine hK.out _ _ (by exact hb2) (fun _ => ?_)
    change wpAnyH _ _ _ _ _ _ _ (Act.put _ (some 49) _) _
    simp only [Act.put, List.setIfInBounds_toArray, List.set_cons_zero, List.set_cons_succ]
    clear hK K
    refine takeS_on (i := 12) 50 (v := ?v25) rfl rfl (by kernel_rfl) (by kernel_rfl) (by kernel_rfl) (fun _ _ _ h => h) (by kernel_rfl) ?hy25 (by exact hb2) ?_
    case hy25 => (intro w' hSw; go_simp; try (with_reducible rfl))
    simp only [Act.put, List.setIfInBounds_toArray, List.set_cons_zero, List.set_cons_succ]
    refine takeS_on (i := 13) 51 (v := ?v26) rfl rfl (by kernel_rfl) (by kernel_rfl) (by kernel_rfl) (fun _ _ _ h => h) (by kernel_rfl) ?hy26 (by exact hb2) ?_
    case hy26 => (intro w' hSw; go_simp; try (with_reducible rfl))
    simp only [Act.put, List.setIfInBounds_toArray, List.set_cons_zero, List.set_cons_succ]
    refine wpAnyH_ready (rs := [14]) (by kernel_rfl) (by simp) (AllReadyH.cons rfl (fun K hK => ?_) AllReadyH.nil)
    go_simp
    have k9 : Ch (Only gO) q2 (q2.setCell ⟨gO, k * 5 + 3, none⟩ (.slice a6 (fn + 1) c6)) := (Ch.refl _ _).own _ _
    have hb3 : (fun W' => W'.heap[w.heap.size]? = some (.cells #[.int .i64 s, .int .i64 g, .int .i64 c, .int .i64 0] 95 (0, 0))) (q2.setCell ⟨gO, k * 5 + 3, none⟩ (.slice a6 (fn + 1) c6)) := (k9.block _ (lt_of_block hb2) (fun e => by have e1 : w.heap.size = gO := e; have := LO.out; omega)).trans hb2
    have G3 := hid (show Gr w (q2.setCell ⟨gO, k * 5 + 3, none⟩ (.slice a6 (fn + 1) c6)) from Ch.trans G2.out k9 (fun q e => .inr (by have e1 : q = gO := e; have := LO.out; omega)))
    clear ce fz lg k9
    generalize q2.setCell ⟨gO, k * 5 + 3, none⟩ (.slice a6 (fn + 1) c6) = q3 at NXN hb3 G3 ⊢
    refine hK.out _ _ (by exact hb3) (fun _ => ?_)
    clear hK K
    refine wpAnyH_done (by kernel_rfl) ?_ _
    go_wp2_with fail
    exact bodyPost_ret (v := .tuple #[.slice (some ⟨gO, 0, none⟩) n ca, .int .i64 0]) (by simp [results, Try.results42, go_sem]) rfl ⟨_, rfl, NXN.out.lower (by omega), G3.out⟩
end Go.Proofs.Ytalmiphddgmfbab.Lt
