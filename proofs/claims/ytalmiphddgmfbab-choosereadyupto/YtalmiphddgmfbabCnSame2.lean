/-
  The document's Same of layer 11 tells channels that are the same. Condition: the lists are not too long.
-/
import Derived.Test.YtalmiphddgmfbabCnSame
import Derived.Test.YtalmiphddgmfbabCnCopy
import Derived.Test.YtalmiphddgmfbabGnGrd
namespace Go.Proofs.Ytalmiphddgmfbab.Lt
open Go.RowKit Wd

theorem keepO11 {W W' : World} {x z : Nat} {o : Obj} (k : Ch (Only z) W W') (h : W.heap[x]? = some o) (n : x ≠ z) : W'.heap[x]? = some o := (k.block _ (lt_of_block h) (fun q => n q)).trans h
theorem exec_sub11 {P : Program} {o : Oper} {a : Act} {w : World} (ty : TypeId) (x : Operand) (ho : o.op = .load ty x) (g k : Nat) (hx : a.eval x = .pointer (some ⟨g, k, none⟩)) (cs : List Value) (d : TypeDesc) (hc : ∀ j v, cs[j]? = some v → w.cell? ⟨g, k + j, none⟩ = some v)
    (hu : P.underlying ty = some d) (hd : (match d with | .struct _ | .array _ _ => true | _ => false) = true) (hi : (P.info? ty).map (·.size) = some cs.length) : (execOp a.eval o).run P w = .ok (.value (.agg cs.toArray)) w := by
  have hl : (loadCells ⟨g, k, none⟩ cs.length).run P w = .ok cs.toArray w :=
    run_loadCells_list (P := P) w ⟨g, k, none⟩ cs (fun j v hv => by rw [add_none]; exact hc j v hv)
  have hr : (loadVar ty ⟨g, k, none⟩).run P w = .ok (.agg cs.toArray) w := by
    cases hq : P.info? ty with
    | none => simp [hq] at hi
    | some i =>
      have hs : i.size = cs.length := by simpa [hq] using hi
      have hagg : (isAgg ty).run P w = .ok true w := by
        unfold isAgg
        rw [Sem.run_bind, run_underlying hu w]
        cases d <;> simp_all
      simp [loadVar, Sem.run_bind, hagg, sizeOf, typeInfo, hq, hs, hl]
  unfold execOp
  simp only [ho, hx, Instr.loadAt, Instr.sureAddr, Sem.run_bind, Sem.run_pure, Result.andThen_ok, hr]
theorem five_cells {w : World} {X : Nat} {a b c d e : Value} {T : TypeId} (h : w.heap[X]? = some (.cells #[a, b, c, d, e] T (0, 0))) : w.cell? ⟨X, 0, none⟩ = some a ∧ w.cell? ⟨X, 1, none⟩ = some b ∧ w.cell? ⟨X, 2, none⟩ = some c ∧ w.cell? ⟨X, 3, none⟩ = some d ∧ w.cell? ⟨X, 4, none⟩ = some e :=
  ⟨(cell_of h 0).trans rfl, (cell_of h 1).trans rfl, (cell_of h 2).trans rfl, (cell_of h 3).trans rfl, (cell_of h 4).trans rfl⟩
/-- two channels in variables of their own -/
def MidSame (w : World) (ga oa gb ob n ca cb j : Nat) (Xa Xb : Array Value) : Exit → Act → World → Prop := fun e ac W => e = Exit.normal ∧ ∃ (A B : Nat) (x4 x8 x14 x15 x16 x17 x18 x19 x20 x21 x22 x23 x24 x25 x26 x27 x28 x29 x30 x31 x32 x33 x34 x35 x36 x37 x38 x39 x40 x41 x42 x43 x44 x45 x46 x47 x48 x49 x50 x51 x52 x53 x54 x55 x56 x57 x58 x59 x60 x61 x62 x63 x64 x65 x66 x67 x68 x69 x70 x71 x72 x73 x74 x75 x76 x77 x78 x79 x80 x81 x82 : Value), ac = Act.mk #[.slice (some ⟨ga, oa, none⟩) n ca, .slice (some ⟨gb, ob, none⟩) n cb, undef, undef, x4, .int .i64 (j : Int), .pointer (some ⟨A, 0, none⟩), .pointer (some ⟨B, 0, none⟩), x8, .slice (some ⟨ga, oa, none⟩) n ca, .int .i64 (n : Int), .slice (some ⟨gb, ob, none⟩) n cb, .int .i64 (n : Int), .bool false, x14, x15, x16, x17, x18, x19, x20, x21, x22, x23, x24, x25, x26, x27, x28, x29, x30, x31, x32, x33, x34, x35, x36, x37, x38, x39, x40, x41, x42, x43, x44, x45, x46, x47, x48, x49, x50, x51, x52, x53, x54, x55, x56, x57, x58, x59, x60, x61, x62, x63, x64, x65, x66, x67, x68, x69, x70, x71, x72, x73, x74, x75, x76, x77, x78, x79, x80, x81, x82] [] ∧ Gr w W ∧ W.heap[A]? = some (.cells Xa 70 (0, 0)) ∧ W.heap[B]? = some (.cells Xb 70 (0, 0))
set_option maxHeartbeats 4000000 in
set_option maxRecDepth 100000 in
theorem rsame_any (P Q : Nat → Prop) (w : World) (va vb : Value) (cs : List Cn) (h : Rds P w va cs) (k : Rds Q w vb cs) (hb : Bd cs) : Calls Try.prog 20 #[va, vb] w fun e w' => e = .returned (.bool true) ∧ Gr w w' := by
  obtain ⟨xs, hl, hn, hf⟩ := h
  obtain ⟨ys, kl, kn, kf⟩ := k
  obtain ⟨ao, ca, rfl⟩ := hl.form
  obtain ⟨bo, cb, rfl⟩ := kl.form
  rw [hn] at hl ⊢
  rw [kn] at kl ⊢
  obtain ⟨n, hnn⟩ : ∃ n, n = cs.length := ⟨_, rfl⟩
  rw [← hnn] at hl kl ⊢
  have HL := hid hl
  have HK := hid kl
  have HF := hid hf
  have KF := hid kf
  have HN := hid hnn
  have HXN := hid hn
  have HYN := hid kn
  have HBD := hid hb
  have hnb : n ≤ 1599289640400 := by rw [hnn]; exact hb.n
  clear hl kl hf kf hnn hn kn hb
  go_enter Try.func20, Try.ntmps20
  go_wp2_with fail
  go_loopg [5] n (fun m i wq => ∃ j : Nat, j + m = n ∧ i = .int .i64 ((j : Nat) : Int) ∧ Gr w wq)
  case atStart => exact ⟨0, by omega, rfl, Gr.refl w⟩
  case round =>
    obtain ⟨j, hjm, rfl, hG0⟩ := hrel
    have HG := hid hG0
    clear hG0
    by_cases hj : j < n
    · obtain ⟨d, hd⟩ : ∃ d, cs[j]? = some d := ⟨_, List.getElem?_eq_getElem (by rw [← HN.out]; exact hj)⟩
      obtain ⟨x, hx⟩ : ∃ x, xs[j]? = some x := ⟨_, List.getElem?_eq_getElem (by rw [HXN.out, ← HN.out]; exact hj)⟩
      obtain ⟨y, hy⟩ : ∃ y, ys[j]? = some y := ⟨_, List.getElem?_eq_getElem (by rw [HYN.out, ← HN.out]; exact hj)⟩
      have rx := HF.out j x d hx hd
      have ry := KF.out j y d hy hd
      obtain ⟨avo, avc, eav⟩ := rx.v.form
      obtain ⟨aso, asc, eas⟩ := rx.s.form
      obtain ⟨aro, arc, ear⟩ := rx.r.form
      obtain ⟨bvo, bvc, ebv⟩ := ry.v.form
      obtain ⟨bso, bsc, ebs⟩ := ry.s.form
      obtain ⟨bro, brc, ebr⟩ := ry.r.form
      have hmem : d ∈ cs := List.mem_of_getElem? hd
      obtain ⟨ga, oa, ca', hv, _, hgl, _, hcs⟩ := HL.out.get eR_len hx
      obtain ⟨gb, ob, cb', hvk, _, hglk, _, hck⟩ := HK.out.get eR_len hy
      injection hv with hv1 hv2 hv3
      injection hvk with hk1 hk2 hk3
      subst hv1 hk1
      have ex : eR x = [.int .i64 d.cap, .slice avo d.vs.length avc, .slice aso d.ss.length asc, .slice aro d.rs.length arc, .bool d.cl] := by unfold eR; rw [rx.cap, rx.cl, eav, eas, ear]
      have ey : eR y = [.int .i64 d.cap, .slice bvo d.vs.length bvc, .slice bso d.ss.length bsc, .slice bro d.rs.length brc, .bool d.cl] := by unfold eR; rw [ry.cap, ry.cl, ebv, ebs, ebr]
      rw [ex] at hcs
      rw [ey] at hck
      have HCA := hid (fun (W : World) (g : Gr w W) (i : Nat) (v : Value) (hi : ([.int .i64 d.cap, .slice avo d.vs.length avc, .slice aso d.ss.length asc, .slice aro d.rs.length arc, .bool d.cl] : List Value)[i]? = some v) => (g.cell hgl).trans (hcs i v hi))
      have HCB := hid (fun (W : World) (g : Gr w W) (i : Nat) (v : Value) (hi : ([.int .i64 d.cap, .slice bvo d.vs.length bvc, .slice bso d.ss.length bsc, .slice bro d.rs.length brc, .bool d.cl] : List Value)[i]? = some v) => (g.cell hglk).trans (hck i v hi))
      have HAv := hid (show Ls eI P w (.slice avo d.vs.length avc) d.vs from by rw [← eav]; exact rx.v)
      have HAs := hid (show Ls eW P w (.slice aso d.ss.length asc) d.ss from by rw [← eas]; exact rx.s)
      have HAr := hid (show Ls eW P w (.slice aro d.rs.length arc) d.rs from by rw [← ear]; exact rx.r)
      have HBv := hid (show Ls eI Q w (.slice bvo d.vs.length bvc) d.vs from by rw [← ebv]; exact ry.v)
      have HBs := hid (show Ls eW Q w (.slice bso d.ss.length bsc) d.ss from by rw [← ebs]; exact ry.s)
      have HBr := hid (show Ls eW Q w (.slice bro d.rs.length brc) d.rs from by rw [← ebr]; exact ry.r)
      have HDv := hid (HBD.out.v d hmem)
      have HDs := hid (HBD.out.s d hmem)
      have HDr := hid (HBD.out.r d hmem)
      have j0 : (0 : Int) ≤ (j : Int) := by omega
      have j1 : (j : Int) < (n : Int) := by omega
      clear hcs hck hv2 hv3 hk2 hk3 hx hy hd rx ry hmem eav eas ear ebv ebs ebr ex ey hgl hglk HL HK HF KF HBD
      go_wp2_with fail
      refine Code.wp_mono (Q := MidSame w ga oa gb ob n ca cb j #[.int .i64 d.cap, .slice avo d.vs.length avc, .slice aso d.ss.length asc, .slice aro d.rs.length arc, .bool d.cl] #[.int .i64 d.cap, .slice bvo d.vs.length bvc, .slice bso d.ss.length bsc, .slice bro d.rs.length brc, .bool d.cl]) ?_ ?_
      · intro e ac W hM; unfold MidSame at hM; obtain ⟨rfl, A, B, x4, x8, x14, x15, x16, x17, x18, x19, x20, x21, x22, x23, x24, x25, x26, x27, x28, x29, x30, x31, x32, x33, x34, x35, x36, x37, x38, x39, x40, x41, x42, x43, x44, x45, x46, x47, x48, x49, x50, x51, x52, x53, x54, x55, x56, x57, x58, x59, x60, x61, x62, x63, x64, x65, x66, x67, x68, x69, x70, x71, x72, x73, x74, x75, x76, x77, x78, x79, x80, x81, x82, rfl, hG, hA, hB⟩ := hM
        obtain ⟨a0, a1, a2, a3, a4⟩ := five_cells hA
        obtain ⟨b0, b1, b2, b3, b4⟩ := five_cells hB
        have GG := hid hG
        have AA := hid hA
        have BB := hid hB
        clear hG hA hB
        go_wp2_with (first
          | (refine callG (by kernel_rfl) 44 #[.tmp 51, .tmp 53] #[68, 68] rfl #[.slice aso d.ss.length asc, .slice bso d.ss.length bsc] (by kernel_rfl) (rsamew_any P Q _ _ _ _ _ _ d.ss (HAs.out.gr GG.out) (HBs.out.gr GG.out) HDs.out) ?_; rintro e v1 ⟨rfl, g9⟩; refine ⟨_, rfl, ?_⟩; simp only [Act.put, List.setIfInBounds_toArray, List.set_cons_zero, List.set_cons_succ]; have Gv1 := hid (Gr.trans GG.out g9); obtain ⟨-, c1, -, c3, -⟩ := five_cells (gr_blk AA.out g9); obtain ⟨-, e1, -, e3, -⟩ := five_cells (gr_blk BB.out g9); have A1 := hid (gr_blk AA.out g9); have B1 := hid (gr_blk BB.out g9); clear g9 a0 a1 a2 a3 a4 b0 b1 b2 b3 b4)
          | (refine notG (by kernel_rfl) (.tmp 54) true rfl rfl ?_; simp only [Act.put, List.setIfInBounds_toArray, List.set_cons_zero, List.set_cons_succ]; simp only [Bool.not_true])
          | (refine callG (by kernel_rfl) 44 #[.tmp 59, .tmp 61] #[68, 68] rfl #[.slice aro d.rs.length arc, .slice bro d.rs.length brc] (by kernel_rfl) (rsamew_any P Q _ _ _ _ _ _ d.rs (HAr.out.gr Gv1.out) (HBr.out.gr Gv1.out) HDr.out) ?_; rintro e v2 ⟨rfl, g9⟩; refine ⟨_, rfl, ?_⟩; simp only [Act.put, List.setIfInBounds_toArray, List.set_cons_zero, List.set_cons_succ]; have Gv2 := hid (Gr.trans Gv1.out g9); obtain ⟨-, f1, -, -, -⟩ := five_cells (gr_blk A1.out g9); obtain ⟨-, h1, -, -, -⟩ := five_cells (gr_blk B1.out g9); have A2 := hid (gr_blk A1.out g9); have B2 := hid (gr_blk B1.out g9); clear g9 c1 c3 e1 e3)
          | (refine notG (by kernel_rfl) (.tmp 62) true rfl rfl ?_; simp only [Act.put, List.setIfInBounds_toArray, List.set_cons_zero, List.set_cons_succ]; simp only [Bool.not_true]))
        clear f1 h1
        have hLb := HDv.out
        have AV := hid HAv.out
        have BV := hid HBv.out
        generalize d.vs = us at A2 B2 AV BV hLb ⊢
        clear HAv HBv HDv AA BB A1 B1 HAs HBs HAr HBr HDs HDr HCA HCB GG Gv1
        obtain ⟨m, hm⟩ : ∃ m, m = us.length := ⟨_, rfl⟩
        rw [← hm] at A2 B2 AV BV hLb ⊢
        have HM := hid hm
        clear hm
        go_loopg [8] m (fun q i9 wq => ∃ k : Nat, k + q = m ∧ i9 = .int .i64 (k : Int) ∧ Gr w wq ∧ wq.heap[A]? = some (.cells #[.int .i64 d.cap, .slice avo m avc, .slice aso d.ss.length asc, .slice aro d.rs.length arc, .bool d.cl] 70 (0, 0)) ∧ wq.heap[B]? = some (.cells #[.int .i64 d.cap, .slice bvo m bvc, .slice bso d.ss.length bsc, .slice bro d.rs.length brc, .bool d.cl] 70 (0, 0)))
        case atStart => exact ⟨0, by omega, rfl, Gv2.out, A2.out, B2.out⟩
        case round =>
          obtain ⟨k, hkq, rfl, hg, hA, hB⟩ := hrel
          have HG3 := hid hg
          have HA3 := hid hA
          have HB3 := hid hB
          obtain ⟨-, p1, -, -, -⟩ := five_cells hA
          obtain ⟨-, q1, -, -, -⟩ := five_cells hB
          clear hg hA hB
          by_cases hk : k < m
          · obtain ⟨y, hy⟩ : ∃ y, us[k]? = some y := ⟨_, List.getElem?_eq_getElem (by rw [← HM.out]; exact hk)⟩
            obtain ⟨g1, o1, c1, e1, -, -, -, d1⟩ := (AV.out.gr HG3.out).get eI_len hy
            obtain ⟨g2, o2, c2, e2, -, -, -, d2⟩ := (BV.out.gr HG3.out).get eI_len hy
            injection e1 with e1 e12 e13
            injection e2 with e2 e22 e23
            subst e1 e2
            have r1 := d1 0 _ rfl
            have r2 := d2 0 _ rfl
            rw [Nat.mul_one, Nat.add_zero] at r1 r2
            have k0 : (0 : Int) ≤ (k : Int) := by omega
            have k1 : (k : Int) < (m : Int) := by omega
            clear d1 d2 e12 e13 e22 e23 hy
            go_wp2_with fail
            go_region
            all_goals go_wp2
            all_goals go_roundg (m - (k + 1))
            all_goals first | omega | skip
            all_goals exact ⟨k + 1, by omega, by simp, HG3.out.drew, HA3.out, HB3.out⟩
          · have kn : ¬ (k : Int) < (m : Int) := by omega
            go_wp2_with fail
            go_roundg (n - (j + 1))
            case measure => omega
            case rel => exact ⟨j + 1, by omega, by simp, HG3.out⟩
      · have hS0 : Gr w wr.drew := HG.out.drew
        have hz0 : w.heap.size ≤ wr.drew.heap.size := HG.out.size
        clear HAv HAs HAr HBv HBs HBr HDv HDs HDr HXN HYN
        refine wp_region_held_drew (S := Gr w) (by kernel_rfl) (by exact hS0) (fun _ => ?_)
        generalize World.drew wr = V0 at hS0 hz0 ⊢
        refine takeS_on (i := 0) 20 (v := ?v1) rfl rfl (by kernel_rfl) (by kernel_rfl) (by kernel_rfl) (fun _ _ _ h => nomatch h.1) (by kernel_rfl) ?hy1 (by exact hS0) ?_
        case hy1 => (intro w' hSw; go_simp; try (with_reducible rfl))
        simp only [Act.put, List.setIfInBounds_toArray, List.set_cons_zero, List.set_cons_succ]
        refine takeS_on (i := 1) 21 (v := ?v2) rfl rfl (by kernel_rfl) (by kernel_rfl) (by kernel_rfl) (fun _ _ _ h => nomatch h.1) (by kernel_rfl) ?hy2 (by exact hS0) ?_
        case hy2 => (intro w' hSw; go_simp; try (with_reducible rfl))
        simp only [Act.put, List.setIfInBounds_toArray, List.set_cons_zero, List.set_cons_succ]
        refine takeS_on (i := 2) 22 (v := ?v3) rfl rfl (by kernel_rfl) (by kernel_rfl) (by kernel_rfl) (fun _ _ _ h => nomatch h.1) (by kernel_rfl) ?hy3 (by exact hS0) ?_
        case hy3 => (intro w' hSw; go_simp; try (with_reducible rfl))
        simp only [Act.put, List.setIfInBounds_toArray, List.set_cons_zero, List.set_cons_succ]
        refine takeS_on (i := 3) 23 (v := ?v4) rfl rfl (by kernel_rfl) (by kernel_rfl) (by kernel_rfl) (fun _ _ _ h => nomatch h.1) (by kernel_rfl) ?hy4 (by exact hS0) ?_
        case hy4 => (intro w' hSw; refine Eq.trans (exec_sub11 70 (.tmp 22) rfl _ _ rfl _ _ (HCA.out _ hSw) Try.underlying70 rfl chn_size) ?_; with_reducible rfl)
        simp only [Act.put, List.setIfInBounds_toArray, List.set_cons_zero, List.set_cons_succ]
        refine takeS_on (i := 4) 24 (v := ?v5) rfl rfl (by kernel_rfl) (by kernel_rfl) (by kernel_rfl) (fun _ _ _ h => nomatch h.1) (by kernel_rfl) ?hy5 (by exact hS0) ?_
        case hy5 => (intro w' hSw; go_simp; try (with_reducible rfl))
        simp only [Act.put, List.setIfInBounds_toArray, List.set_cons_zero, List.set_cons_succ]
        refine takeS_on (i := 5) 25 (v := ?v6) rfl rfl (by kernel_rfl) (by kernel_rfl) (by kernel_rfl) (fun _ _ _ h => nomatch h.1) (by kernel_rfl) ?hy6 (by exact hS0) ?_
        case hy6 => (intro w' hSw; go_simp; try (with_reducible rfl))
        simp only [Act.put, List.setIfInBounds_toArray, List.set_cons_zero, List.set_cons_succ]
        refine takeS_on (i := 6) 26 (v := ?v7) rfl rfl (by kernel_rfl) (by kernel_rfl) (by kernel_rfl) (fun _ _ _ h => nomatch h.1) (by kernel_rfl) ?hy7 (by exact hS0) ?_
        case hy7 => (intro w' hSw; go_simp; try (with_reducible rfl))
        simp only [Act.put, List.setIfInBounds_toArray, List.set_cons_zero, List.set_cons_succ]
        refine takeS_on (i := 7) 27 (v := ?v8) rfl rfl (by kernel_rfl) (by kernel_rfl) (by kernel_rfl) (fun _ _ _ h => nomatch h.1) (by kernel_rfl) ?hy8 (by exact hS0) ?_
        case hy8 => (intro w' hSw; refine Eq.trans (exec_sub11 70 (.tmp 26) rfl _ _ rfl _ _ (HCB.out _ hSw) Try.underlying70 rfl chn_size) ?_; with_reducible rfl)
        simp only [Act.put, List.setIfInBounds_toArray, List.set_cons_zero, List.set_cons_succ]
        refine wpAnyH_ready (rs := [8, 9]) (by kernel_rfl) (by simp) (AllReadyH.cons rfl (fun K hK => ?_) (AllReadyH.cons rfl (fun K hK => ?_) AllReadyH.nil))
        · go_simp
          have g1 : Gr V0 (V0.alloc (.cells #[.int .i64 0, .slice none 0 0, .slice none 0 0, .slice none 0 0, .bool false] 70)) := Ch.alloc (Gr.refl _) _
          have z1 : V0.heap.size < (V0.alloc (.cells #[.int .i64 0, .slice none 0 0, .slice none 0 0, .slice none 0 0, .bool false] 70)).heap.size := by simp
          have hS1 := Gr.trans hS0 g1
          have AA := hid (show (V0.alloc (.cells #[.int .i64 0, .slice none 0 0, .slice none 0 0, .slice none 0 0, .bool false] 70)).heap[V0.heap.size]? = some (.cells #[.int .i64 0, .slice none 0 0, .slice none 0 0, .slice none 0 0, .bool false] 70 (0, 0)) from (MapKept.heap_alloc V0 (.cells #[.int .i64 0, .slice none 0 0, .slice none 0 0, .slice none 0 0, .bool false] 70)).1)
          clear g1
          generalize V0.alloc (.cells #[.int .i64 0, .slice none 0 0, .slice none 0 0, .slice none 0 0, .bool false] 70) = u1 at hS1 z1 AA ⊢
          refine hK.out _ _ (by exact hS1) (fun _ => ?_)
          clear hK K
          refine wpAnyH_ready (rs := [9]) (by kernel_rfl) (by simp) (AllReadyH.cons rfl (fun K hK => ?_) AllReadyH.nil)
          go_simp
          have g2 : Gr u1 (u1.alloc (.cells #[.int .i64 0, .slice none 0 0, .slice none 0 0, .slice none 0 0, .bool false] 70)) := Ch.alloc (Gr.refl _) _
          have z2 : u1.heap.size < (u1.alloc (.cells #[.int .i64 0, .slice none 0 0, .slice none 0 0, .slice none 0 0, .bool false] 70)).heap.size := by simp
          have hS2 := Gr.trans hS1 g2
          have AA := hid (gr_blk AA.out g2)
          have BB := hid (show (u1.alloc (.cells #[.int .i64 0, .slice none 0 0, .slice none 0 0, .slice none 0 0, .bool false] 70)).heap[u1.heap.size]? = some (.cells #[.int .i64 0, .slice none 0 0, .slice none 0 0, .slice none 0 0, .bool false] 70 (0, 0)) from (MapKept.heap_alloc u1 (.cells #[.int .i64 0, .slice none 0 0, .slice none 0 0, .slice none 0 0, .bool false] 70)).1)
          clear g2
          generalize u1.alloc (.cells #[.int .i64 0, .slice none 0 0, .slice none 0 0, .slice none 0 0, .bool false] 70) = u2 at hS2 z2 BB AA ⊢
          refine hK.out _ _ (by exact hS2) (fun _ => ?_)
          clear hK K
          refine wpAnyH_ready (rs := [10]) (by kernel_rfl) (by simp) (AllReadyH.cons rfl (fun K hK => ?_) AllReadyH.nil)
          rw [if_pos (by kernel_rfl)]
          refine op_row 70 (.tmp 6) (.tmp 23) rfl V0.heap.size _ rfl rfl _ _ AA.out chn_size rfl (one5 _ _ _ _ _ _ _ _ _ _ _) ?_
          intro u3 b9 k9
          have z3 : u2.heap.size ≤ u3.heap.size := k9.size
          have hS3 : Gr w u3 := Ch.trans hS2 k9 (fun q e => .inr (by have e1 : q = V0.heap.size := e; omega))
          have BB := hid (keepO11 k9 BB.out (by omega))
          have AA := hid b9
          clear b9 k9
          refine hK.out _ _ (by exact hS3) (fun _ => ?_)
          clear hK K
          refine wpAnyH_ready (rs := [11]) (by kernel_rfl) (by simp) (AllReadyH.cons rfl (fun K hK => ?_) AllReadyH.nil)
          rw [if_pos (by kernel_rfl)]
          refine op_row 70 (.tmp 7) (.tmp 27) rfl u1.heap.size _ rfl rfl _ _ BB.out chn_size rfl (one5 _ _ _ _ _ _ _ _ _ _ _) ?_
          intro u4 b9 k9
          have z4 : u3.heap.size ≤ u4.heap.size := k9.size
          have hS4 : Gr w u4 := Ch.trans hS3 k9 (fun q e => .inr (by have e1 : q = u1.heap.size := e; omega))
          have AA := hid (keepO11 k9 AA.out (by omega))
          have BB := hid b9
          clear b9 k9
          refine hK.out _ _ (by exact hS4) (fun _ => ?_)
          clear hK K
          refine wpAnyH_done (by kernel_rfl) ?_ _
          unfold MidSame
          exact ⟨rfl, V0.heap.size, u1.heap.size, _, _, _, _, _, _, _, _, _, _, _, _, _, _, _, _, _, _, _, _, _, _, _, _, _, _, _, _, _, _, _, _, _, _, _, _, _, _, _, _, _, _, _, _, _, _, _, _, _, _, _, _, _, _, _, _, _, _, _, _, _, _, _, _, _, _, _, _, _, _, _, rfl, hS4, AA.out, BB.out⟩
        · go_simp
          have g1 : Gr V0 (V0.alloc (.cells #[.int .i64 0, .slice none 0 0, .slice none 0 0, .slice none 0 0, .bool false] 70)) := Ch.alloc (Gr.refl _) _
          have z1 : V0.heap.size < (V0.alloc (.cells #[.int .i64 0, .slice none 0 0, .slice none 0 0, .slice none 0 0, .bool false] 70)).heap.size := by simp
          have hS1 := Gr.trans hS0 g1
          have BB := hid (show (V0.alloc (.cells #[.int .i64 0, .slice none 0 0, .slice none 0 0, .slice none 0 0, .bool false] 70)).heap[V0.heap.size]? = some (.cells #[.int .i64 0, .slice none 0 0, .slice none 0 0, .slice none 0 0, .bool false] 70 (0, 0)) from (MapKept.heap_alloc V0 (.cells #[.int .i64 0, .slice none 0 0, .slice none 0 0, .slice none 0 0, .bool false] 70)).1)
          clear g1
          generalize V0.alloc (.cells #[.int .i64 0, .slice none 0 0, .slice none 0 0, .slice none 0 0, .bool false] 70) = u1 at hS1 z1 BB ⊢
          refine hK.out _ _ (by exact hS1) (fun _ => ?_)
          clear hK K
          refine wpAnyH_ready (rs := [8]) (by kernel_rfl) (by simp) (AllReadyH.cons rfl (fun K hK => ?_) AllReadyH.nil)
          go_simp
          have g2 : Gr u1 (u1.alloc (.cells #[.int .i64 0, .slice none 0 0, .slice none 0 0, .slice none 0 0, .bool false] 70)) := Ch.alloc (Gr.refl _) _
          have z2 : u1.heap.size < (u1.alloc (.cells #[.int .i64 0, .slice none 0 0, .slice none 0 0, .slice none 0 0, .bool false] 70)).heap.size := by simp
          have hS2 := Gr.trans hS1 g2
          have BB := hid (gr_blk BB.out g2)
          have AA := hid (show (u1.alloc (.cells #[.int .i64 0, .slice none 0 0, .slice none 0 0, .slice none 0 0, .bool false] 70)).heap[u1.heap.size]? = some (.cells #[.int .i64 0, .slice none 0 0, .slice none 0 0, .slice none 0 0, .bool false] 70 (0, 0)) from (MapKept.heap_alloc u1 (.cells #[.int .i64 0, .slice none 0 0, .slice none 0 0, .slice none 0 0, .bool false] 70)).1)
          clear g2
          generalize u1.alloc (.cells #[.int .i64 0, .slice none 0 0, .slice none 0 0, .slice none 0 0, .bool false] 70) = u2 at hS2 z2 AA BB ⊢
          refine hK.out _ _ (by exact hS2) (fun _ => ?_)
          clear hK K
          refine wpAnyH_ready (rs := [10]) (by kernel_rfl) (by simp) (AllReadyH.cons rfl (fun K hK => ?_) AllReadyH.nil)
          rw [if_pos (by kernel_rfl)]
          refine op_row 70 (.tmp 6) (.tmp 23) rfl u1.heap.size _ rfl rfl _ _ AA.out chn_size rfl (one5 _ _ _ _ _ _ _ _ _ _ _) ?_
          intro u3 b9 k9
          have z3 : u2.heap.size ≤ u3.heap.size := k9.size
          have hS3 : Gr w u3 := Ch.trans hS2 k9 (fun q e => .inr (by have e1 : q = u1.heap.size := e; omega))
          have BB := hid (keepO11 k9 BB.out (by omega))
          have AA := hid b9
          clear b9 k9
          refine hK.out _ _ (by exact hS3) (fun _ => ?_)
          clear hK K
          refine wpAnyH_ready (rs := [11]) (by kernel_rfl) (by simp) (AllReadyH.cons rfl (fun K hK => ?_) AllReadyH.nil)
          rw [if_pos (by kernel_rfl)]
          refine op_row 70 (.tmp 7) (.tmp 27) rfl V0.heap.size _ rfl rfl _ _ BB.out chn_size rfl (one5 _ _ _ _ _ _ _ _ _ _ _) ?_
          intro u4 b9 k9
          have z4 : u3.heap.size ≤ u4.heap.size := k9.size
          have hS4 : Gr w u4 := Ch.trans hS3 k9 (fun q e => .inr (by have e1 : q = V0.heap.size := e; omega))
          have AA := hid (keepO11 k9 AA.out (by omega))
          have BB := hid b9
          clear b9 k9
          refine hK.out _ _ (by exact hS4) (fun _ => ?_)
          clear hK K
          refine wpAnyH_done (by kernel_rfl) ?_ _
          unfold MidSame
          exact ⟨rfl, u1.heap.size, V0.heap.size, _, _, _, _, _, _, _, _, _, _, _, _, _, _, _, _, _, _, _, _, _, _, _, _, _, _, _, _, _, _, _, _, _, _, _, _, _, _, _, _, _, _, _, _, _, _, _, _, _, _, _, _, _, _, _, _, _, _, _, _, _, _, _, _, _, _, _, _, _, _, _, rfl, hS4, AA.out, BB.out⟩

    · have jn : ¬ (j : Int) < (n : Int) := by omega
      go_wp2
      go_ret
      exact ⟨rfl, HG.out⟩
end Go.Proofs.Ytalmiphddgmfbab.Lt
