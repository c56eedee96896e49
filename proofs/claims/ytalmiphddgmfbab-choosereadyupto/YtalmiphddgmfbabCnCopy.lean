/-
  What the document's Copy of channels answers: the same channels in new memory. Condition: the lists are not too long.
-/
import Derived.Test.YtalmiphddgmfbabCnRef1
import Derived.Test.YtalmiphddgmfbabGnHeld
namespace Go.Proofs.Ytalmiphddgmfbab.Lt
open Go.RowKit Wd

theorem op_row {o : Oper} {a : Act} {w : World} {K : Act → World → Prop} {Q : Exit → Act → World → Prop} (ty : TypeId) (x y : Operand) (ho : o.op = .store ty x y)
    (g : Nat) (cells : Array Value) (hx : a.eval x = .pointer (some ⟨g, 0, none⟩)) (hy : a.eval y = .agg cells)
    (t : TypeId) (old : Array Value) (hg : w.heap[g]? = some (.cells old t (0, 0))) (hi : (Try.prog.info? ty).map (·.size) = some cells.size)
    (hold : old.size = cells.size) (h1 : cells.all (·.oneCell') = true)
    (h : ∀ w', w'.heap[g]? = some (.cells cells t (0, 0)) → Ch (Only g) w w' → K (a.put o.dst undef) w') : o.wp Try.prog a w K Q :=
  wp_store_row ty x y ho g cells hx hy t old hg hi hold h1 (h _ (setRow_blk hg) (setRow_ch w g cells))
theorem one5 (a : Int) (b d e : Option Addr) (bn dn en bc dc ec : Nat) (x : Bool) : (#[.int .i64 a, .slice b bn bc, .slice d dn dc, .slice e en ec, .bool x] : Array Value).all (·.oneCell') = true := by simp [Value.oneCell']
theorem eR1_one (a : Int) (b d e : Option Addr) (bn dn en bc dc ec : Nat) (x : Bool) : ∀ u ∈ [Rw.mk a (.slice b bn bc) (.slice d dn dc) (.slice e en ec) x].flatMap eR, u.oneCell' = true := by
  intro u hu
  simp only [List.flatMap_cons, List.flatMap_nil, List.append_nil, eR, List.mem_cons, List.not_mem_nil, or_false] at hu
  rcases hu with h | h | h | h | h <;> rw [h] <;> rfl
/-- lists that are not too long -/
structure Bd (cs : List Cn) : Prop where
  n : cs.length ≤ 1599289640400
  v : ∀ c ∈ cs, c.vs.length ≤ 17592186044416
  s : ∀ c ∈ cs, c.ss.length ≤ 4398046511104
  r : ∀ c ∈ cs, c.rs.length ≤ 4398046511104
theorem NL.nil {base : Nat} {w : World} {v : Value} (h : Ow eR 5 70 base w v []) : NL (fun _ => .out) base w v [] [] := ⟨h, fun _ _ => rfl, rfl, fun i x c hx => by simp at hx⟩
/-- channels told in new memory -/
def CyR (w : World) (cs : List Cn) (e : Ending) (w' : World) : Prop := ∃ v t xs, e = .returned v ∧ NL t w.heap.size w' v xs cs ∧ Gr w w'
/-- a channel's copy begun -/
structure Cy (w wr : World) (B : Nat) (sv rv : Value) (x : Rw) (ss rs : List Wt) (W : World) : Prop where
  g : Gr w W
  gw : Gr wr W
  z : wr.heap.size ≤ W.heap.size
  zb : wr.heap.size ≤ B
  b : W.heap[B]? = some (.cells #[.int .i64 x.cap, .slice none 0 0, sv, rv, .bool x.cl] 70 (0, 0))
  s : Ow eW 4 95 wr.heap.size W sv ss
  r : Ow eW 4 95 wr.heap.size W rv rs
  ds : ∀ q, Blk sv q → q ≠ B
  dr : ∀ q, Blk rv q → q ≠ B ∧ ¬ Blk sv q
theorem Ls.get1 {P : Nat → Prop} {w : World} {g o n cap : Nat} {ys : List Int} (h : Ls eI P w (.slice (some ⟨g, o, none⟩) n cap) ys) {j : Nat} {y : Int} (hj : ys[j]? = some y) : w.cell? ⟨g, o + j, none⟩ = some (.int .i64 y) := by
  obtain ⟨g', o', cap1, e1, -, -, -, d2⟩ := h.get eI_len hj
  injection e1 with e1 _ _
  injection e1 with e1
  injection e1 with e1 e2 _
  subst e1 e2
  simpa using d2 0 _ rfl
/-- a channel's copy, its values under way -/
structure Ci (w W : World) (B : Nat) (sv rv : Value) (x : Rw) (va : Value) (us : List Int) (wq : World) : Prop where
  g : Gr w wq
  b : wq.heap[B]? = some (.cells #[.int .i64 x.cap, va, sv, rv, .bool x.cl] 70 (0, 0))
  o : Ow eI 1 2 W.heap.size wq va us
  k : Ch (Only B) W wq
/-- a channel's copy begun: its capacity, its lists of those that wait -/
def MidCopy (w wr : World) (gg oo n cap : Nat) (a : Option Addr) (j c : Nat) (x : Rw) (ss rs : List Wt) : Exit → Act → World → Prop := fun e ac W => e = Exit.normal ∧ ∃ (B : Nat) (sa : Option Addr) (sn sc : Nat) (ra : Option Addr) (rn rc : Nat) (x6 x8 x9 x10 x11 x12 x13 x14 x15 x16 x17 x18 x19 x20 x21 x22 x23 x24 x25 x26 x27 x28 x29 x30 x31 x32 x33 x34 x35 x36 x37 x38 x39 x40 x41 x42 x43 x44 x45 x46 x47 x48 x49 x50 x51 x52 x53 x54 x55 x56 x57 x58 x59 x60 x61 x62 x63 : Value), ac = Act.mk #[.slice (some ⟨gg, oo, none⟩) n cap, undef, .slice none 0 0, .slice a j c, .int .i64 (j : Int), .pointer (some ⟨B, 0, none⟩), x6, .slice (some ⟨w.heap.size, 0, none⟩) 0 0, x8, x9, x10, x11, x12, x13, x14, x15, x16, x17, x18, x19, x20, x21, x22, x23, x24, x25, x26, x27, x28, x29, x30, x31, x32, x33, x34, x35, x36, x37, x38, x39, x40, x41, x42, x43, x44, x45, x46, x47, x48, x49, x50, x51, x52, x53, x54, x55, x56, x57, x58, x59, x60, x61, x62, x63, undef] [] ∧ Cy w wr B (.slice sa sn sc) (.slice ra rn rc) x ss rs W
set_option maxHeartbeats 4000000 in
set_option maxRecDepth 100000 in
theorem copy_any (P : Nat → Prop) (w : World) (v : Value) (cs : List Cn) (h : Rds P w v cs) (hb : Bd cs) : Calls Try.prog 36 #[v] w (CyR w cs) := by
  obtain ⟨raws, hl, hn, hf⟩ := h
  obtain ⟨ao, cap, rfl⟩ := hl.form
  obtain ⟨n, hnn⟩ : ∃ n, n = raws.length := ⟨_, rfl⟩
  rw [← hnn] at hl ⊢
  have HN := hid hnn
  have HNC := hid (hnn.trans hn)
  have HB := hid hl
  have HF := hid hf
  have HBD := hid hb
  have hnb : n ≤ 1599289640400 := by rw [hnn, hn]; exact hb.n
  have HE := hid (NL.nil (ow_emptyR w))
  have K0 := hid (show Gr w (w.alloc (.cells #[] 70)) from Ch.alloc (Gr.refl w) _)
  clear hl hf hb hn hnn
  go_enter Try.func36, Try.ntmps36
  go_wp2_with fail
  go_loopg [3, 4] n (fun m o i wq => ∃ (j c : Nat) (a : Option Addr) (t : Nat → Tg) (ys : List Rw), j + m = n ∧ i = .int .i64 ((j : Nat) : Int) ∧ o = .slice a j c ∧ NL t w.heap.size wq (.slice a j c) ys (cs.take j) ∧ Gr w wq)
  case atStart => exact ⟨0, 0, _, _, _, by omega, rfl, rfl, HE.out, K0.out⟩
  case round =>
    obtain ⟨j, c, a, t, ys, hjm, rfl, rfl, hO, hG⟩ := hrel
    have HO := hid hO
    have HG := hid hG
    clear hO hG
    by_cases hj : j < n
    · obtain ⟨x, hx⟩ : ∃ x, raws[j]? = some x := ⟨_, List.getElem?_eq_getElem (by rw [← HN.out]; exact hj)⟩
      obtain ⟨d, hd⟩ : ∃ d, cs[j]? = some d := ⟨_, List.getElem?_eq_getElem (by rw [← HNC.out]; exact hj)⟩
      have hrd := HF.out j x d hx hd
      obtain ⟨gg, oo, cap', hv, _, hgl, _, hcs⟩ := HB.out.get eR_len hx
      injection hv with hv1 hv2 hv3
      subst hv1
      have HC := hid (fun (W : World) (g : Gr w W) => show W.cell? ⟨gg, oo + j * 5, none⟩ = some (.int .i64 x.cap) ∧ W.cell? ⟨gg, oo + j * 5 + 1, none⟩ = some x.v ∧ W.cell? ⟨gg, oo + j * 5 + 2, none⟩ = some x.s ∧ W.cell? ⟨gg, oo + j * 5 + 3, none⟩ = some x.r ∧ W.cell? ⟨gg, oo + j * 5 + 4, none⟩ = some (.bool x.cl) from
        ⟨(g.cell hgl).trans (hcs 0 _ rfl), (g.cell hgl).trans (hcs 1 _ rfl), (g.cell hgl).trans (hcs 2 _ rfl), (g.cell hgl).trans (hcs 3 _ rfl), (g.cell hgl).trans (hcs 4 _ rfl)⟩)
      obtain ⟨vo, vm, vk, ev⟩ : ∃ a n c, x.v = .slice a n c := by obtain ⟨a, c, e⟩ := hrd.v.form; exact ⟨a, _, c, e⟩
      obtain ⟨so, sm, sk, es⟩ : ∃ a n c, x.s = .slice a n c := by obtain ⟨a, c, e⟩ := hrd.s.form; exact ⟨a, _, c, e⟩
      obtain ⟨ro, rm, rk, er⟩ : ∃ a n c, x.r = .slice a n c := by obtain ⟨a, c, e⟩ := hrd.r.form; exact ⟨a, _, c, e⟩
      have hmem : d ∈ cs := List.mem_of_getElem? hd
      have HLV := hid (show Ls eI P w (.slice vo vm vk) d.vs from by rw [← ev]; exact hrd.v)
      have HLS := hid (show Ls eW P w (.slice so sm sk) d.ss from by rw [← es]; exact hrd.s)
      have HLR := hid (show Ls eW P w (.slice ro rm rk) d.rs from by rw [← er]; exact hrd.r)
      have HLVB := hid (show vm ≤ 17592186044416 from by rw [HLV.out.len.1]; exact HBD.out.v d hmem)
      have HLSB := hid (show sm ≤ 4398046511104 from by rw [HLS.out.len.1]; exact HBD.out.s d hmem)
      have HLRB := hid (show rm ≤ 4398046511104 from by rw [HLR.out.len.1]; exact HBD.out.r d hmem)
      rw [ev, es, er] at HC
      have HXC := hid hrd.cap
      have HXL := hid hrd.cl
      have HT := hid (take_one hd)
      have j0 : (0 : Int) ≤ (j : Int) := by omega
      have j1 : (j : Int) < (n : Int) := by omega
      clear hcs hv2 hv3 hx hd hrd hmem ev es er hgl
      go_wp2_with fail
      refine Code.wp_mono (Q := MidCopy w wr gg oo n cap a j c x d.ss d.rs) ?_ ?_
      · intro e ac W hM; unfold MidCopy at hM; obtain ⟨rfl, B, sa, sn, sc, ra, rn, rc, x6, x8, x9, x10, x11, x12, x13, x14, x15, x16, x17, x18, x19, x20, x21, x22, x23, x24, x25, x26, x27, x28, x29, x30, x31, x32, x33, x34, x35, x36, x37, x38, x39, x40, x41, x42, x43, x44, x45, x46, x47, x48, x49, x50, x51, x52, x53, x54, x55, x56, x57, x58, x59, x60, x61, x62, x63, rfl, hX⟩ := hM
        have CY := hid hX
        clear hX
        have HGZ := hid HG.out.size
        have hvb := HLVB.out
        go_wp2_with fail
        go_loopg [6] vm (fun m i wq => ∃ (k vc : Nat) (va : Option Addr), k + m = vm ∧ i = .int .i64 ((k : Nat) : Int) ∧ Ci w W B (.slice sa sn sc) (.slice ra rn rc) x (.slice va k vc) (d.vs.take k) wq)
        case atStart => exact ⟨0, 0, none, by omega, rfl, ⟨CY.out.g, CY.out.b, Ow.nil _ _ _ _ _, Ch.refl _ _⟩⟩
        case round =>
          obtain ⟨k, vc, va, hkm, rfl, hci⟩ := hrel
          have CI := hid hci
          clear hci
          obtain ⟨-, y1, -, -, -⟩ := HC.out _ CI.out.g
          by_cases hk : k < vm
          · obtain ⟨y, hy⟩ : ∃ y, d.vs[k]? = some y := ⟨_, List.getElem?_eq_getElem (by rw [← HLV.out.len.1]; exact hk)⟩
            obtain ⟨gv, ov, capv, hv, -, -, -, -⟩ := HLV.out.get eI_len hy
            injection hv with hv1 hv2 hv3
            subst hv1
            clear hv2 hv3
            have k0 : (0 : Int) ≤ (k : Int) := by omega
            have k1 : (k : Int) < (vm : Int) := by omega
            have HYK := hid hy
            have HTK := hid (take_one hy)
            have HKL := hid (show k = (d.vs.take k).length from CI.out.o.len.1)
            clear hy
            go_wp2_with fail
            have hR0 : Gr w wr.drew := CI.out.g.drew
            have CB := hid (show wr.drew.heap[B]? = some (.cells #[.int .i64 x.cap, .slice va k vc, .slice sa sn sc, .slice ra rn rc, .bool x.cl] 70 (0, 0)) from CI.out.b)
            have OV := hid (CI.out.o.drew)
            have CW := hid (show Ch (Only B) W wr.drew from CI.out.k.drew)
            clear CI
            generalize d.vs.take k = zs at OV HTK HKL
            refine wp_region_held_drew (S := Gr w) (by kernel_rfl) (by exact hR0) (fun _ => ?_)
            generalize World.drew wr = V1 at hR0 CB OV CW ⊢
            refine takeS_on (i := 0) 47 (v := ?v24) rfl rfl (by kernel_rfl) (by kernel_rfl) (by kernel_rfl) (fun _ _ _ h => h) (by kernel_rfl) ?hy24 (by exact hR0) ?_
            case hy24 => (intro w' hSw; go_simp; try (with_reducible rfl))
            simp only [Act.put, List.setIfInBounds_toArray, List.set_cons_zero, List.set_cons_succ]
            refine takeS_on (i := 2) 49 (v := ?v25) rfl rfl (by kernel_rfl) (by kernel_rfl) (by kernel_rfl) (fun _ _ _ h => h) (by kernel_rfl) ?hy25 (by exact hR0) ?_
            case hy25 => (intro w' hSw; go_simp; try (with_reducible rfl))
            simp only [Act.put, List.setIfInBounds_toArray, List.set_cons_zero, List.set_cons_succ]
            refine takeS_on (i := 3) 50 (v := ?v26) rfl rfl (by kernel_rfl) (by kernel_rfl) (by kernel_rfl) (fun _ _ _ h => h) (by kernel_rfl) ?hy26 (by exact hR0) ?_
            case hy26 => (intro w' hSw; go_simp; try (with_reducible rfl))
            simp only [Act.put, List.setIfInBounds_toArray, List.set_cons_zero, List.set_cons_succ]
            refine takeS_on (i := 4) 51 (v := ?v27) rfl rfl (by kernel_rfl) (by kernel_rfl) (by kernel_rfl) (fun _ _ _ h => h) (by kernel_rfl) ?hy27 (by exact hR0) ?_
            case hy27 => (intro w' hSw; go_simp; try (with_reducible rfl))
            simp only [Act.put, List.setIfInBounds_toArray, List.set_cons_zero, List.set_cons_succ]
            refine takeS_on (i := 5) 52 (v := ?v28) rfl rfl (by kernel_rfl) (by kernel_rfl) (by kernel_rfl) (fun _ _ _ h => h) (by kernel_rfl) ?hy28 (by exact hR0) ?_
            case hy28 => (intro w' hSw; go_simp; try (with_reducible rfl))
            simp only [Act.put, List.setIfInBounds_toArray, List.set_cons_zero, List.set_cons_succ]
            refine takeS_on (i := 6) 53 (v := ?v29) rfl rfl (by kernel_rfl) (by kernel_rfl) (by kernel_rfl) (fun _ _ _ h => h) (by kernel_rfl) ?hy29 (by exact hR0) ?_
            case hy29 => (intro w' hSw; obtain ⟨y0, y1, y2, y3, y4⟩ := HC.out _ hSw; go_simp; try (with_reducible rfl))
            simp only [Act.put, List.setIfInBounds_toArray, List.set_cons_zero, List.set_cons_succ]
            refine takeS_on (i := 7) 54 (v := ?v30) rfl rfl (by kernel_rfl) (by kernel_rfl) (by kernel_rfl) (fun _ _ _ h => h) (by kernel_rfl) ?hy30 (by exact hR0) ?_
            case hy30 => (intro w' hSw; go_simp; try (with_reducible rfl))
            simp only [Act.put, List.setIfInBounds_toArray, List.set_cons_zero, List.set_cons_succ]
            refine takeS_on (i := 8) 55 (v := ?v31) rfl rfl (by kernel_rfl) (by kernel_rfl) (by kernel_rfl) (fun _ _ _ h => h) (by kernel_rfl) ?hy31 (by exact hR0) ?_
            case hy31 => (intro w' hSw; go_simp; try (with_reducible rfl))
            simp only [Act.put, List.setIfInBounds_toArray, List.set_cons_zero, List.set_cons_succ]
            refine takeS_on (i := 9) 56 (v := ?v32) rfl rfl (by kernel_rfl) (by kernel_rfl) (by kernel_rfl) (fun _ _ _ h => h) (by kernel_rfl) ?hy32 (by exact hR0) ?_
            case hy32 => (intro w' hSw; have jy := (HLV.out.gr hSw).get1 HYK.out; go_simp; try (with_reducible rfl))
            simp only [Act.put, List.setIfInBounds_toArray, List.set_cons_zero, List.set_cons_succ]
            refine wpAnyH_ready (rs := [1, 10]) (by kernel_rfl) (by simp) (AllReadyH.cons rfl (fun K hK => ?_) (AllReadyH.cons rfl (fun K hK => ?_) AllReadyH.nil))
            · have c1 : V1.cell? ⟨B, 1, none⟩ = some (.slice va k vc) := (cell_of CB.out 1).trans rfl
              go_simp
              clear c1
              refine hK.out _ _ (by exact hR0) (fun _ => ?_)
              clear hK K
              refine wpAnyH_ready (rs := [10]) (by kernel_rfl) (by simp) (AllReadyH.cons rfl (fun K hK => ?_) AllReadyH.nil)
              go_simp
              have hR1 : Gr w (V1.alloc (.cells #[.int .i64 y] 2)) := Ch.alloc hR0 _
              have LY := hid (Ls.single (enc := eI) V1 y 2 #[.int .i64 y] rfl)
              have CB := hid (al_blk CB.out (.cells #[.int .i64 y] 2))
              have OV := hid (OV.out.alloc (.cells #[.int .i64 y] 2))
              have CW := hid (Ch.alloc CW.out (.cells #[.int .i64 y] 2))
              generalize V1.alloc (.cells #[.int .i64 y] 2) = q1 at hR1 LY CB OV CW ⊢
              refine hK.out _ _ (by exact hR1) (fun _ => ?_)
              clear hK K
              refine wpAnyH_ready (rs := [11]) (by kernel_rfl) (by simp) (AllReadyH.cons rfl (fun K hK => ?_) AllReadyH.nil)
              refine step_append_ow eI_len rfl (.tmp 48) (.tmp 57) 67 2 8 (.int .i64 0) Try.underlying67 i64_info rfl (by omega) rfl W.heap.size (.slice va k vc) zs (by simp [Act.eval]) OV.out _ _ [y] (by simp [Act.eval]) LY.out (eI_one _) (k + 1) (by rw [← HKL.out]; rfl) (by have := HLVB.out; omega) (by unfold maxLen; have := HLVB.out; omega) CW.out.size (zs ++ [y]) rfl ?_
              intro a6 c6 q2 ow6 cw6 bl6
              have hR2 : Gr w q2 := Ch.trans hR1 cw6 (fun q hq => .inr (by have l1 := (OV.out.blk hq).1; have l2 := CY.out.g.size; omega))
              have nB : ¬ Blk (.slice va k vc) B := fun hq => by have l1 := (OV.out.blk hq).1; have l2 := lt_of_block CY.out.b; omega
              have CB := hid ((cw6.block B (lt_of_block CB.out) nB).trans CB.out)
              have c1 : q2.cell? ⟨B, 1, none⟩ = some (.slice va k vc) := (cell_of CB.out 1).trans rfl
              have f1 := frozen_of CB.out 1
              have CW := hid (show Ch (Only B) W q2 from Ch.trans CW.out cw6 (fun q hq => .inr (OV.out.blk hq).1))
              have O6 := hid ow6
              clear ow6 cw6 bl6 OV LY
              refine hK.out _ _ (by exact hR2) (fun _ => ?_)
              change wpAnyH _ _ _ _ _ _ _ (Act.put _ (some 58) _) _
              simp only [Act.put, List.setIfInBounds_toArray, List.set_cons_zero, List.set_cons_succ]
              clear hK K
              refine takeS_on (i := 12) 59 (v := ?v33) rfl rfl (by kernel_rfl) (by kernel_rfl) (by kernel_rfl) (fun _ _ _ h => h) (by kernel_rfl) ?hy33 (by exact hR2) ?_
              case hy33 => (intro w' hSw; go_simp; try (with_reducible rfl))
              simp only [Act.put, List.setIfInBounds_toArray, List.set_cons_zero, List.set_cons_succ]
              refine wpAnyH_ready (rs := [13]) (by kernel_rfl) (by simp) (AllReadyH.cons rfl (fun K hK => ?_) AllReadyH.nil)
              go_simp
              have k7 : Ch (Only B) q2 (q2.setCell ⟨B, 1, none⟩ (.slice a6 (k + 1) c6)) := (Ch.refl _ _).own _ _
              have hR3 : Gr w (q2.setCell ⟨B, 1, none⟩ (.slice a6 (k + 1) c6)) := Ch.trans hR2 k7 (fun q e => .inr (by have e1 : q = B := e; have l1 := CY.out.zb; have l2 := HGZ.out; omega))
              have C7 := hid (show (q2.setCell ⟨B, 1, none⟩ (.slice a6 (k + 1) c6)).heap[B]? = some (.cells #[.int .i64 x.cap, .slice a6 (k + 1) c6, .slice sa sn sc, .slice ra rn rc, .bool x.cl] 70 (0, 0)) by simpa using setCell_block CB.out 1 (.slice a6 (k + 1) c6))
              have O7 := hid (O6.out.ch k7 (fun q hq e => by have e1 : q = B := e; have l1 := (O6.out.blk hq).1; have l2 := lt_of_block CY.out.b; omega))
              have W7 := hid (CW.out.trans' k7)
              clear k7 c1 f1 O6 CB CW
              generalize q2.setCell ⟨B, 1, none⟩ (.slice a6 (k + 1) c6) = q3 at hR3 C7 O7 W7 ⊢
              refine hK.out _ _ (by exact hR3) (fun _ => ?_)
              clear hK K
              refine wpAnyH_done (by kernel_rfl) ?_ _
              have G7 := hid hR3
              clear hR0 hR1 hR2 hR3
              go_wp2_with fail
              go_roundg (gk - 1)
              case measure => omega
              case rel => exact ⟨k + 1, c6, a6, by omega, by simp, ⟨G7.out, C7.out, by rw [HTK.out]; exact O7.out, W7.out⟩⟩
            · go_simp
              have hR1 : Gr w (V1.alloc (.cells #[.int .i64 y] 2)) := Ch.alloc hR0 _
              have LY := hid (Ls.single (enc := eI) V1 y 2 #[.int .i64 y] rfl)
              have CB := hid (al_blk CB.out (.cells #[.int .i64 y] 2))
              have OV := hid (OV.out.alloc (.cells #[.int .i64 y] 2))
              have CW := hid (Ch.alloc CW.out (.cells #[.int .i64 y] 2))
              generalize V1.alloc (.cells #[.int .i64 y] 2) = q1 at hR1 LY CB OV CW ⊢
              refine hK.out _ _ (by exact hR1) (fun _ => ?_)
              clear hK K
              refine wpAnyH_ready (rs := [1]) (by kernel_rfl) (by simp) (AllReadyH.cons rfl (fun K hK => ?_) AllReadyH.nil)
              have c1 : q1.cell? ⟨B, 1, none⟩ = some (.slice va k vc) := (cell_of CB.out 1).trans rfl
              go_simp
              clear c1
              refine hK.out _ _ (by exact hR1) (fun _ => ?_)
              clear hK K
              refine wpAnyH_ready (rs := [11]) (by kernel_rfl) (by simp) (AllReadyH.cons rfl (fun K hK => ?_) AllReadyH.nil)
              refine step_append_ow eI_len rfl (.tmp 48) (.tmp 57) 67 2 8 (.int .i64 0) Try.underlying67 i64_info rfl (by omega) rfl W.heap.size (.slice va k vc) zs (by simp [Act.eval]) OV.out _ _ [y] (by simp [Act.eval]) LY.out (eI_one _) (k + 1) (by rw [← HKL.out]; rfl) (by have := HLVB.out; omega) (by unfold maxLen; have := HLVB.out; omega) CW.out.size (zs ++ [y]) rfl ?_
              intro a6 c6 q2 ow6 cw6 bl6
              have hR2 : Gr w q2 := Ch.trans hR1 cw6 (fun q hq => .inr (by have l1 := (OV.out.blk hq).1; have l2 := CY.out.g.size; omega))
              have nB : ¬ Blk (.slice va k vc) B := fun hq => by have l1 := (OV.out.blk hq).1; have l2 := lt_of_block CY.out.b; omega
              have CB := hid ((cw6.block B (lt_of_block CB.out) nB).trans CB.out)
              have c1 : q2.cell? ⟨B, 1, none⟩ = some (.slice va k vc) := (cell_of CB.out 1).trans rfl
              have f1 := frozen_of CB.out 1
              have CW := hid (show Ch (Only B) W q2 from Ch.trans CW.out cw6 (fun q hq => .inr (OV.out.blk hq).1))
              have O6 := hid ow6
              clear ow6 cw6 bl6 OV LY
              refine hK.out _ _ (by exact hR2) (fun _ => ?_)
              change wpAnyH _ _ _ _ _ _ _ (Act.put _ (some 58) _) _
              simp only [Act.put, List.setIfInBounds_toArray, List.set_cons_zero, List.set_cons_succ]
              clear hK K
              refine takeS_on (i := 12) 59 (v := ?v34) rfl rfl (by kernel_rfl) (by kernel_rfl) (by kernel_rfl) (fun _ _ _ h => h) (by kernel_rfl) ?hy34 (by exact hR2) ?_
              case hy34 => (intro w' hSw; go_simp; try (with_reducible rfl))
              simp only [Act.put, List.setIfInBounds_toArray, List.set_cons_zero, List.set_cons_succ]
              refine wpAnyH_ready (rs := [13]) (by kernel_rfl) (by simp) (AllReadyH.cons rfl (fun K hK => ?_) AllReadyH.nil)
              go_simp
              have k7 : Ch (Only B) q2 (q2.setCell ⟨B, 1, none⟩ (.slice a6 (k + 1) c6)) := (Ch.refl _ _).own _ _
              have hR3 : Gr w (q2.setCell ⟨B, 1, none⟩ (.slice a6 (k + 1) c6)) := Ch.trans hR2 k7 (fun q e => .inr (by have e1 : q = B := e; have l1 := CY.out.zb; have l2 := HGZ.out; omega))
              have C7 := hid (show (q2.setCell ⟨B, 1, none⟩ (.slice a6 (k + 1) c6)).heap[B]? = some (.cells #[.int .i64 x.cap, .slice a6 (k + 1) c6, .slice sa sn sc, .slice ra rn rc, .bool x.cl] 70 (0, 0)) by simpa using setCell_block CB.out 1 (.slice a6 (k + 1) c6))
              have O7 := hid (O6.out.ch k7 (fun q hq e => by have e1 : q = B := e; have l1 := (O6.out.blk hq).1; have l2 := lt_of_block CY.out.b; omega))
              have W7 := hid (CW.out.trans' k7)
              clear k7 c1 f1 O6 CB CW
              generalize q2.setCell ⟨B, 1, none⟩ (.slice a6 (k + 1) c6) = q3 at hR3 C7 O7 W7 ⊢
              refine hK.out _ _ (by exact hR3) (fun _ => ?_)
              clear hK K
              refine wpAnyH_done (by kernel_rfl) ?_ _
              have G7 := hid hR3
              clear hR0 hR1 hR2 hR3
              go_wp2_with fail
              go_roundg (gk - 1)
              case measure => omega
              case rel => exact ⟨k + 1, c6, a6, by omega, by simp, ⟨G7.out, C7.out, by rw [HTK.out]; exact O7.out, W7.out⟩⟩

          · have kn : ¬ (k : Int) < (vm : Int) := by omega
            have HTV := hid (show d.vs.take k = d.vs from List.take_of_length_le (by rw [← HLV.out.len.1]; omega))
            have OV := hid (show Ow eI 1 2 W.heap.size wr (.slice va k vc) d.vs from by have := CI.out.o; rw [HTV.out] at this; exact this)
            have GO := hid (Ch.trans CY.out.gw CI.out.k (fun q e => .inr (by have e1 : q = B := e; have := CY.out.zb; omega)))
            have HYL := hid HO.out.o.len.1
            go_wp2_with (first
              | (refine wpList_load_row rfl 70 (.tmp 5) rfl B rfl _ _ _ _ CI.out.b Try.underlying70 rfl chn_size ?_)
              | (at_builtin; refine wpList_append_ow eR_len rfl (.tmp 60) (.tmp 62) _ 70 88 _ Try.underlying22 chn_info rfl (by omega) rfl w.heap.size _ ys rfl ((HO.out.o.gr GO.out).alloc _) _ _ [Rw.mk x.cap (.slice va k vc) (.slice sa sn sc) (.slice ra rn rc) x.cl] rfl (Ls.single wr (Rw.mk x.cap (.slice va k vc) (.slice sa sn sc) (.slice ra rn rc) x.cl) 70 #[.int .i64 x.cap, .slice va k vc, .slice sa sn sc, .slice ra rn rc, .bool x.cl] rfl) (eR1_one _ _ _ _ _ _ _ _ _ _ _) (j + 1) (by rw [← HYL.out]; rfl) (by omega) (by unfold maxLen; omega) (by have := CI.out.g.size; simp; omega) (ys ++ [Rw.mk x.cap (.slice va k vc) (.slice sa sn sc) (.slice ra rn rc) x.cl]) rfl ?_; intro a9 c9 w9 ow9 cw9 bl9; have O9 := hid ow9; have C9 := hid cw9; have B9 := hid bl9; clear ow9 cw9 bl9))
            obtain ⟨t', -, nl⟩ := HO.out.snoc (c := d) (x := Rw.mk x.cap (.slice va k vc) (.slice sa sn sc) (.slice ra rn rc) x.cl) (Ch.alloc GO.out _) HXC.out HXL.out ((OV.out.alloc _).lower CY.out.g.size) (((CY.out.s.ch CI.out.k (fun q hq e => CY.out.ds q hq e)).alloc _).lower HGZ.out) (((CY.out.r.ch CI.out.k (fun q hq e => (CY.out.dr q hq).1 e)).alloc _).lower HGZ.out)
              (fun q hq => by have l1 := (OV.out.blk hq).1; have := CY.out.z; omega) (fun q hq => ⟨(CY.out.s.blk hq).1, fun h9 => by have l1 := (OV.out.blk h9).1; have l2 := (CY.out.s.blk hq).2; omega⟩) (fun q hq => ⟨(CY.out.r.blk hq).1, fun h9 => by have l1 := (OV.out.blk h9).1; have l2 := (CY.out.r.blk hq).2; omega, (CY.out.dr q hq).2⟩) O9.out C9.out B9.out
            have G9 := hid (show Gr w w9 from Ch.trans (Ch.alloc CI.out.g _) C9.out (fun q hq => .inr ((HO.out.o.blk hq).1)))
            have N9 := hid nl
            clear nl
            rw [← HT.out] at N9
            go_roundg (n - (j + 1))
            case measure => omega
            case rel => exact ⟨j + 1, c9, a9, t', _, by omega, by simp, rfl, N9.out, G9.out⟩
      · have hS0 : Gr wr wr.drew := Ch.drew (Gr.refl wr)
        have hz0 : wr.heap.size ≤ wr.drew.heap.size := Nat.le_refl _
        have hzw : w.heap.size ≤ wr.heap.size := HG.out.size
        clear HO HE K0 HB HF HBD HT HLV HLVB HXC HXL
        refine wp_region_held_drew (S := Gr wr) (by kernel_rfl) (by exact hS0) (fun _ => ?_)
        generalize World.drew wr = V0 at hS0 hz0 ⊢
        refine takeS_on (i := 0) 14 (v := ?v1) rfl rfl (by kernel_rfl) (by kernel_rfl) (by kernel_rfl) (fun _ _ _ h => nomatch h.1) (by kernel_rfl) ?hy1 (by exact hS0) ?_
        case hy1 => (intro w' hSw; go_simp; try (with_reducible rfl))
        simp only [Act.put, List.setIfInBounds_toArray, List.set_cons_zero, List.set_cons_succ]
        refine takeS_on (i := 1) 15 (v := ?v2) rfl rfl (by kernel_rfl) (by kernel_rfl) (by kernel_rfl) (fun _ _ _ h => nomatch h.1) (by kernel_rfl) ?hy2 (by exact hS0) ?_
        case hy2 => (intro w' hSw; go_simp; try (with_reducible rfl))
        simp only [Act.put, List.setIfInBounds_toArray, List.set_cons_zero, List.set_cons_succ]
        refine takeS_on (i := 2) 16 (v := ?v3) rfl rfl (by kernel_rfl) (by kernel_rfl) (by kernel_rfl) (fun _ _ _ h => nomatch h.1) (by kernel_rfl) ?hy3 (by exact hS0) ?_
        case hy3 => (intro w' hSw; go_simp; try (with_reducible rfl))
        simp only [Act.put, List.setIfInBounds_toArray, List.set_cons_zero, List.set_cons_succ]
        refine takeS_on (i := 3) 17 (v := ?v4) rfl rfl (by kernel_rfl) (by kernel_rfl) (by kernel_rfl) (fun _ _ _ h => nomatch h.1) (by kernel_rfl) ?hy4 (by exact hS0) ?_
        case hy4 => (intro w' hSw; go_simp; try (with_reducible rfl))
        simp only [Act.put, List.setIfInBounds_toArray, List.set_cons_zero, List.set_cons_succ]
        refine takeS_on (i := 4) 18 (v := ?v5) rfl rfl (by kernel_rfl) (by kernel_rfl) (by kernel_rfl) (fun _ _ _ h => nomatch h.1) (by kernel_rfl) ?hy5 (by exact hS0) ?_
        case hy5 => (intro w' hSw; obtain ⟨y0, y1, y2, y3, y4⟩ := HC.out _ (Gr.trans HG.out hSw); go_simp; try (with_reducible rfl))
        simp only [Act.put, List.setIfInBounds_toArray, List.set_cons_zero, List.set_cons_succ]
        refine takeS_on (i := 5) 19 (v := ?v6) rfl rfl (by kernel_rfl) (by kernel_rfl) (by kernel_rfl) (fun _ _ _ h => nomatch h.1) (by kernel_rfl) ?hy6 (by exact hS0) ?_
        case hy6 => (intro w' hSw; go_simp; try (with_reducible rfl))
        simp only [Act.put, List.setIfInBounds_toArray, List.set_cons_zero, List.set_cons_succ]
        refine takeS_on (i := 6) 20 (v := ?v7) rfl rfl (by kernel_rfl) (by kernel_rfl) (by kernel_rfl) (fun _ _ _ h => nomatch h.1) (by kernel_rfl) ?hy7 (by exact hS0) ?_
        case hy7 => (intro w' hSw; go_simp; try (with_reducible rfl))
        simp only [Act.put, List.setIfInBounds_toArray, List.set_cons_zero, List.set_cons_succ]
        refine takeS_on (i := 7) 21 (v := ?v8) rfl rfl (by kernel_rfl) (by kernel_rfl) (by kernel_rfl) (fun _ _ _ h => nomatch h.1) (by kernel_rfl) ?hy8 (by exact hS0) ?_
        case hy8 => (intro w' hSw; go_simp; try (with_reducible rfl))
        simp only [Act.put, List.setIfInBounds_toArray, List.set_cons_zero, List.set_cons_succ]
        refine takeS_on (i := 8) 22 (v := ?v9) rfl rfl (by kernel_rfl) (by kernel_rfl) (by kernel_rfl) (fun _ _ _ h => nomatch h.1) (by kernel_rfl) ?hy9 (by exact hS0) ?_
        case hy9 => (intro w' hSw; go_simp; try (with_reducible rfl))
        simp only [Act.put, List.setIfInBounds_toArray, List.set_cons_zero, List.set_cons_succ]
        refine takeS_on (i := 9) 23 (v := ?v10) rfl rfl (by kernel_rfl) (by kernel_rfl) (by kernel_rfl) (fun _ _ _ h => nomatch h.1) (by kernel_rfl) ?hy10 (by exact hS0) ?_
        case hy10 => (intro w' hSw; obtain ⟨y0, y1, y2, y3, y4⟩ := HC.out _ (Gr.trans HG.out hSw); go_simp; try (with_reducible rfl))
        simp only [Act.put, List.setIfInBounds_toArray, List.set_cons_zero, List.set_cons_succ]
        refine takeS_on (i := 10) 24 (v := ?v11) rfl rfl (by kernel_rfl) (by kernel_rfl) (by kernel_rfl) (fun _ _ _ h => nomatch h.1) (by kernel_rfl) ?hy11 (by exact hS0) ?_
        case hy11 => (intro w' hSw; go_simp; try (with_reducible rfl))
        simp only [Act.put, List.setIfInBounds_toArray, List.set_cons_zero, List.set_cons_succ]
        refine takeS_on (i := 11) 25 (v := ?v12) rfl rfl (by kernel_rfl) (by kernel_rfl) (by kernel_rfl) (fun _ _ _ h => nomatch h.1) (by kernel_rfl) ?hy12 (by exact hS0) ?_
        case hy12 => (intro w' hSw; go_simp; try (with_reducible rfl))
        simp only [Act.put, List.setIfInBounds_toArray, List.set_cons_zero, List.set_cons_succ]
        refine takeS_on (i := 12) 26 (v := ?v13) rfl rfl (by kernel_rfl) (by kernel_rfl) (by kernel_rfl) (fun _ _ _ h => nomatch h.1) (by kernel_rfl) ?hy13 (by exact hS0) ?_
        case hy13 => (intro w' hSw; go_simp; try (with_reducible rfl))
        simp only [Act.put, List.setIfInBounds_toArray, List.set_cons_zero, List.set_cons_succ]
        refine takeS_on (i := 13) 27 (v := ?v14) rfl rfl (by kernel_rfl) (by kernel_rfl) (by kernel_rfl) (fun _ _ _ h => nomatch h.1) (by kernel_rfl) ?hy14 (by exact hS0) ?_
        case hy14 => (intro w' hSw; go_simp; try (with_reducible rfl))
        simp only [Act.put, List.setIfInBounds_toArray, List.set_cons_zero, List.set_cons_succ]
        refine takeS_on (i := 14) 28 (v := ?v15) rfl rfl (by kernel_rfl) (by kernel_rfl) (by kernel_rfl) (fun _ _ _ h => nomatch h.1) (by kernel_rfl) ?hy15 (by exact hS0) ?_
        case hy15 => (intro w' hSw; obtain ⟨y0, y1, y2, y3, y4⟩ := HC.out _ (Gr.trans HG.out hSw); go_simp; try (with_reducible rfl))
        simp only [Act.put, List.setIfInBounds_toArray, List.set_cons_zero, List.set_cons_succ]
        refine takeS_on (i := 16) 30 (v := ?v16) rfl rfl (by kernel_rfl) (by kernel_rfl) (by kernel_rfl) (fun _ _ _ h => nomatch h.1) (by kernel_rfl) ?hy16 (by exact hS0) ?_
        case hy16 => (intro w' hSw; go_simp; try (with_reducible rfl))
        simp only [Act.put, List.setIfInBounds_toArray, List.set_cons_zero, List.set_cons_succ]
        refine takeS_on (i := 17) 31 (v := ?v17) rfl rfl (by kernel_rfl) (by kernel_rfl) (by kernel_rfl) (fun _ _ _ h => nomatch h.1) (by kernel_rfl) ?hy17 (by exact hS0) ?_
        case hy17 => (intro w' hSw; go_simp; try (with_reducible rfl))
        simp only [Act.put, List.setIfInBounds_toArray, List.set_cons_zero, List.set_cons_succ]
        refine takeS_on (i := 18) 32 (v := ?v18) rfl rfl (by kernel_rfl) (by kernel_rfl) (by kernel_rfl) (fun _ _ _ h => nomatch h.1) (by kernel_rfl) ?hy18 (by exact hS0) ?_
        case hy18 => (intro w' hSw; go_simp; try (with_reducible rfl))
        simp only [Act.put, List.setIfInBounds_toArray, List.set_cons_zero, List.set_cons_succ]
        refine takeS_on (i := 19) 33 (v := ?v19) rfl rfl (by kernel_rfl) (by kernel_rfl) (by kernel_rfl) (fun _ _ _ h => nomatch h.1) (by kernel_rfl) ?hy19 (by exact hS0) ?_
        case hy19 => (intro w' hSw; go_simp; try (with_reducible rfl))
        simp only [Act.put, List.setIfInBounds_toArray, List.set_cons_zero, List.set_cons_succ]
        refine takeS_on (i := 20) 34 (v := ?v20) rfl rfl (by kernel_rfl) (by kernel_rfl) (by kernel_rfl) (fun _ _ _ h => nomatch h.1) (by kernel_rfl) ?hy20 (by exact hS0) ?_
        case hy20 => (intro w' hSw; obtain ⟨y0, y1, y2, y3, y4⟩ := HC.out _ (Gr.trans HG.out hSw); go_simp; try (with_reducible rfl))
        simp only [Act.put, List.setIfInBounds_toArray, List.set_cons_zero, List.set_cons_succ]
        refine wpAnyH_ready (rs := [15, 23]) (by kernel_rfl) (by simp) (AllReadyH.cons rfl (fun K hK => ?_) (AllReadyH.cons rfl (fun K hK => ?_) AllReadyH.nil))
        · go_simp
          refine (waiters_any P V0 _ _ _ _ (HLS.out.gr (Gr.trans HG.out hS0)) HLSB.out).mono ?_
          rintro e u1 ⟨v9, rfl, o9, g1⟩
          have z1 : V0.heap.size ≤ u1.heap.size := g1.size
          obtain ⟨sa, sn, sc, rfl⟩ : ∃ a n c, v9 = .slice a n c := by obtain ⟨a, c, e⟩ := o9.form; exact ⟨a, _, c, e⟩
          have LS := hid (fun (q : Nat) (hq : Blk (.slice sa sn sc) q) => show V0.heap.size ≤ q ∧ q < u1.heap.size from o9.blk hq)
          have OS := hid (o9.lower (base' := wr.heap.size) (by omega))
          have hS1 := Gr.trans hS0 g1
          clear o9 g1
          refine hK.out _ _ (by exact hS1) (fun _ => ?_)
          clear hK K
          refine wpAnyH_ready (rs := [21, 23]) (by kernel_rfl) (by simp) (AllReadyH.cons rfl (fun K hK => ?_) (AllReadyH.cons rfl (fun K hK => ?_) AllReadyH.nil))
          · go_simp
            refine (waiters_any P u1 _ _ _ _ (HLR.out.gr (Gr.trans HG.out hS1)) HLRB.out).mono ?_
            rintro e u2 ⟨v9, rfl, o9, g2⟩
            have z2 : u1.heap.size ≤ u2.heap.size := g2.size
            obtain ⟨ra, rn, rc, rfl⟩ : ∃ a n c, v9 = .slice a n c := by obtain ⟨a, c, e⟩ := o9.form; exact ⟨a, _, c, e⟩
            have LR := hid (fun (q : Nat) (hq : Blk (.slice ra rn rc) q) => show u1.heap.size ≤ q ∧ q < u2.heap.size from o9.blk hq)
            have OR := hid (o9.lower (base' := wr.heap.size) (by omega))
            have hS2 := Gr.trans hS1 g2
            have OS := hid (OS.out.gr g2)
            clear o9 g2
            refine hK.out _ _ (by exact hS2) (fun _ => ?_)
            clear hK K
            refine takeS_on (i := 22) 36 (v := ?v21) rfl rfl (by kernel_rfl) (by kernel_rfl) (by kernel_rfl) (fun _ _ _ h => nomatch h.1) (by kernel_rfl) ?hy21 (by exact hS2) ?_
            case hy21 => (intro w' hSw; go_simp; try (with_reducible rfl))
            simp only [Act.put, List.setIfInBounds_toArray, List.set_cons_zero, List.set_cons_succ]
            refine wpAnyH_ready (rs := [23]) (by kernel_rfl) (by simp) (AllReadyH.cons rfl (fun K hK => ?_) AllReadyH.nil)
            go_simp
            have g3 : Gr u2 (u2.alloc (.cells #[.int .i64 0, .slice none 0 0, .slice none 0 0, .slice none 0 0, .bool false] 70)) := Ch.alloc (Gr.refl _) _
            have z3 : u2.heap.size < (u2.alloc (.cells #[.int .i64 0, .slice none 0 0, .slice none 0 0, .slice none 0 0, .bool false] 70)).heap.size := by simp
            have hS3 := Gr.trans hS2 g3
            have OS := hid (OS.out.gr g3)
            have OR := hid (OR.out.gr g3)
            have AA := hid (show (u2.alloc (.cells #[.int .i64 0, .slice none 0 0, .slice none 0 0, .slice none 0 0, .bool false] 70)).heap[u2.heap.size]? = some (.cells #[.int .i64 0, .slice none 0 0, .slice none 0 0, .slice none 0 0, .bool false] 70 (0, 0)) from (MapKept.heap_alloc u2 (.cells #[.int .i64 0, .slice none 0 0, .slice none 0 0, .slice none 0 0, .bool false] 70)).1)
            clear g3
            generalize u2.alloc (.cells #[.int .i64 0, .slice none 0 0, .slice none 0 0, .slice none 0 0, .bool false] 70) = u3 at hS3 z3 OS OR AA ⊢
            refine hK.out _ _ (by exact hS3) (fun _ => ?_)
            clear hK K
            refine wpAnyH_ready (rs := [24]) (by kernel_rfl) (by simp) (AllReadyH.cons rfl (fun K hK => ?_) AllReadyH.nil)
            rw [if_pos (by kernel_rfl)]
            refine op_row 70 (.tmp 5) (.tmp 36) rfl u2.heap.size _ rfl rfl _ _ AA.out chn_size rfl (one5 _ _ _ _ _ _ _ _ _ _ _) ?_
            intro u4 b9 k9
            have z4 : u3.heap.size ≤ u4.heap.size := k9.size
            have hS4 : Gr wr u4 := Ch.trans hS3 k9 (fun q e => .inr (by have e1 : q = u2.heap.size := e; omega))
            skip
            have OS := hid (OS.out.ch k9 (fun q hq e => by have e1 : q = u2.heap.size := e; have := LS.out q hq; omega))
            have OR := hid (OR.out.ch k9 (fun q hq e => by have e1 : q = u2.heap.size := e; have := LR.out q hq; omega))
            have AA := hid b9
            clear b9 k9
            refine hK.out _ _ (by exact hS4) (fun _ => ?_)
            clear hK K
            refine wpAnyH_done (by kernel_rfl) ?_ _
            unfold MidCopy
            exact ⟨rfl, u2.heap.size, sa, sn, sc, ra, rn, rc, _, _, _, _, _, _, _, _, _, _, _, _, _, _, _, _, _, _, _, _, _, _, _, _, _, _, _, _, _, _, _, _, _, _, _, _, _, _, _, _, _, _, _, _, _, _, _, _, _, _, _, _, _, _, _, _, _, rfl, ⟨Gr.trans HG.out hS4, hS4, by omega, by omega, AA.out, OS.out, OR.out, fun q hq e => by have := LS.out q hq; omega, fun q hq => ⟨fun e => by have := LR.out q hq; omega, fun h9 => by have := LR.out q hq; have := LS.out q h9; omega⟩⟩⟩
          · go_simp
            have g2 : Gr u1 (u1.alloc (.cells #[.int .i64 0, .slice none 0 0, .slice none 0 0, .slice none 0 0, .bool false] 70)) := Ch.alloc (Gr.refl _) _
            have z2 : u1.heap.size < (u1.alloc (.cells #[.int .i64 0, .slice none 0 0, .slice none 0 0, .slice none 0 0, .bool false] 70)).heap.size := by simp
            have hS2 := Gr.trans hS1 g2
            have OS := hid (OS.out.gr g2)
            have AA := hid (show (u1.alloc (.cells #[.int .i64 0, .slice none 0 0, .slice none 0 0, .slice none 0 0, .bool false] 70)).heap[u1.heap.size]? = some (.cells #[.int .i64 0, .slice none 0 0, .slice none 0 0, .slice none 0 0, .bool false] 70 (0, 0)) from (MapKept.heap_alloc u1 (.cells #[.int .i64 0, .slice none 0 0, .slice none 0 0, .slice none 0 0, .bool false] 70)).1)
            clear g2
            generalize u1.alloc (.cells #[.int .i64 0, .slice none 0 0, .slice none 0 0, .slice none 0 0, .bool false] 70) = u2 at hS2 z2 OS AA ⊢
            refine hK.out _ _ (by exact hS2) (fun _ => ?_)
            clear hK K
            refine wpAnyH_ready (rs := [21]) (by kernel_rfl) (by simp) (AllReadyH.cons rfl (fun K hK => ?_) AllReadyH.nil)
            go_simp
            refine (waiters_any P u2 _ _ _ _ (HLR.out.gr (Gr.trans HG.out hS2)) HLRB.out).mono ?_
            rintro e u3 ⟨v9, rfl, o9, g3⟩
            have z3 : u2.heap.size ≤ u3.heap.size := g3.size
            obtain ⟨ra, rn, rc, rfl⟩ : ∃ a n c, v9 = .slice a n c := by obtain ⟨a, c, e⟩ := o9.form; exact ⟨a, _, c, e⟩
            have LR := hid (fun (q : Nat) (hq : Blk (.slice ra rn rc) q) => show u2.heap.size ≤ q ∧ q < u3.heap.size from o9.blk hq)
            have OR := hid (o9.lower (base' := wr.heap.size) (by omega))
            have hS3 := Gr.trans hS2 g3
            have OS := hid (OS.out.gr g3)
            have AA := hid (gr_blk AA.out g3)
            clear o9 g3
            refine hK.out _ _ (by exact hS3) (fun _ => ?_)
            clear hK K
            refine takeS_on (i := 22) 36 (v := ?v22) rfl rfl (by kernel_rfl) (by kernel_rfl) (by kernel_rfl) (fun _ _ _ h => nomatch h.1) (by kernel_rfl) ?hy22 (by exact hS3) ?_
            case hy22 => (intro w' hSw; go_simp; try (with_reducible rfl))
            simp only [Act.put, List.setIfInBounds_toArray, List.set_cons_zero, List.set_cons_succ]
            refine wpAnyH_ready (rs := [24]) (by kernel_rfl) (by simp) (AllReadyH.cons rfl (fun K hK => ?_) AllReadyH.nil)
            rw [if_pos (by kernel_rfl)]
            refine op_row 70 (.tmp 5) (.tmp 36) rfl u1.heap.size _ rfl rfl _ _ AA.out chn_size rfl (one5 _ _ _ _ _ _ _ _ _ _ _) ?_
            intro u4 b9 k9
            have z4 : u3.heap.size ≤ u4.heap.size := k9.size
            have hS4 : Gr wr u4 := Ch.trans hS3 k9 (fun q e => .inr (by have e1 : q = u1.heap.size := e; omega))
            skip
            have OS := hid (OS.out.ch k9 (fun q hq e => by have e1 : q = u1.heap.size := e; have := LS.out q hq; omega))
            have OR := hid (OR.out.ch k9 (fun q hq e => by have e1 : q = u1.heap.size := e; have := LR.out q hq; omega))
            have AA := hid b9
            clear b9 k9
            refine hK.out _ _ (by exact hS4) (fun _ => ?_)
            clear hK K
            refine wpAnyH_done (by kernel_rfl) ?_ _
            unfold MidCopy
            exact ⟨rfl, u1.heap.size, sa, sn, sc, ra, rn, rc, _, _, _, _, _, _, _, _, _, _, _, _, _, _, _, _, _, _, _, _, _, _, _, _, _, _, _, _, _, _, _, _, _, _, _, _, _, _, _, _, _, _, _, _, _, _, _, _, _, _, _, _, _, _, _, _, _, rfl, ⟨Gr.trans HG.out hS4, hS4, by omega, by omega, AA.out, OS.out, OR.out, fun q hq e => by have := LS.out q hq; omega, fun q hq => ⟨fun e => by have := LR.out q hq; omega, fun h9 => by have := LR.out q hq; have := LS.out q h9; omega⟩⟩⟩
        · go_simp
          have g1 : Gr V0 (V0.alloc (.cells #[.int .i64 0, .slice none 0 0, .slice none 0 0, .slice none 0 0, .bool false] 70)) := Ch.alloc (Gr.refl _) _
          have z1 : V0.heap.size < (V0.alloc (.cells #[.int .i64 0, .slice none 0 0, .slice none 0 0, .slice none 0 0, .bool false] 70)).heap.size := by simp
          have hS1 := Gr.trans hS0 g1
          have AA := hid (show (V0.alloc (.cells #[.int .i64 0, .slice none 0 0, .slice none 0 0, .slice none 0 0, .bool false] 70)).heap[V0.heap.size]? = some (.cells #[.int .i64 0, .slice none 0 0, .slice none 0 0, .slice none 0 0, .bool false] 70 (0, 0)) from (MapKept.heap_alloc V0 (.cells #[.int .i64 0, .slice none 0 0, .slice none 0 0, .slice none 0 0, .bool false] 70)).1)
          clear g1
          generalize V0.alloc (.cells #[.int .i64 0, .slice none 0 0, .slice none 0 0, .slice none 0 0, .bool false] 70) = u1 at hS1 z1 AA ⊢
          refine hK.out _ _ (by exact hS1) (fun _ => ?_)
          clear hK K
          refine wpAnyH_ready (rs := [15]) (by kernel_rfl) (by simp) (AllReadyH.cons rfl (fun K hK => ?_) AllReadyH.nil)
          go_simp
          refine (waiters_any P u1 _ _ _ _ (HLS.out.gr (Gr.trans HG.out hS1)) HLSB.out).mono ?_
          rintro e u2 ⟨v9, rfl, o9, g2⟩
          have z2 : u1.heap.size ≤ u2.heap.size := g2.size
          obtain ⟨sa, sn, sc, rfl⟩ : ∃ a n c, v9 = .slice a n c := by obtain ⟨a, c, e⟩ := o9.form; exact ⟨a, _, c, e⟩
          have LS := hid (fun (q : Nat) (hq : Blk (.slice sa sn sc) q) => show u1.heap.size ≤ q ∧ q < u2.heap.size from o9.blk hq)
          have OS := hid (o9.lower (base' := wr.heap.size) (by omega))
          have hS2 := Gr.trans hS1 g2
          have AA := hid (gr_blk AA.out g2)
          clear o9 g2
          refine hK.out _ _ (by exact hS2) (fun _ => ?_)
          clear hK K
          refine wpAnyH_ready (rs := [21]) (by kernel_rfl) (by simp) (AllReadyH.cons rfl (fun K hK => ?_) AllReadyH.nil)
          go_simp
          refine (waiters_any P u2 _ _ _ _ (HLR.out.gr (Gr.trans HG.out hS2)) HLRB.out).mono ?_
          rintro e u3 ⟨v9, rfl, o9, g3⟩
          have z3 : u2.heap.size ≤ u3.heap.size := g3.size
          obtain ⟨ra, rn, rc, rfl⟩ : ∃ a n c, v9 = .slice a n c := by obtain ⟨a, c, e⟩ := o9.form; exact ⟨a, _, c, e⟩
          have LR := hid (fun (q : Nat) (hq : Blk (.slice ra rn rc) q) => show u2.heap.size ≤ q ∧ q < u3.heap.size from o9.blk hq)
          have OR := hid (o9.lower (base' := wr.heap.size) (by omega))
          have hS3 := Gr.trans hS2 g3
          have OS := hid (OS.out.gr g3)
          have AA := hid (gr_blk AA.out g3)
          clear o9 g3
          refine hK.out _ _ (by exact hS3) (fun _ => ?_)
          clear hK K
          refine takeS_on (i := 22) 36 (v := ?v23) rfl rfl (by kernel_rfl) (by kernel_rfl) (by kernel_rfl) (fun _ _ _ h => nomatch h.1) (by kernel_rfl) ?hy23 (by exact hS3) ?_
          case hy23 => (intro w' hSw; go_simp; try (with_reducible rfl))
          simp only [Act.put, List.setIfInBounds_toArray, List.set_cons_zero, List.set_cons_succ]
          refine wpAnyH_ready (rs := [24]) (by kernel_rfl) (by simp) (AllReadyH.cons rfl (fun K hK => ?_) AllReadyH.nil)
          rw [if_pos (by kernel_rfl)]
          refine op_row 70 (.tmp 5) (.tmp 36) rfl V0.heap.size _ rfl rfl _ _ AA.out chn_size rfl (one5 _ _ _ _ _ _ _ _ _ _ _) ?_
          intro u4 b9 k9
          have z4 : u3.heap.size ≤ u4.heap.size := k9.size
          have hS4 : Gr wr u4 := Ch.trans hS3 k9 (fun q e => .inr (by have e1 : q = V0.heap.size := e; omega))
          skip
          have OS := hid (OS.out.ch k9 (fun q hq e => by have e1 : q = V0.heap.size := e; have := LS.out q hq; omega))
          have OR := hid (OR.out.ch k9 (fun q hq e => by have e1 : q = V0.heap.size := e; have := LR.out q hq; omega))
          have AA := hid b9
          clear b9 k9
          refine hK.out _ _ (by exact hS4) (fun _ => ?_)
          clear hK K
          refine wpAnyH_done (by kernel_rfl) ?_ _
          unfold MidCopy
          exact ⟨rfl, V0.heap.size, sa, sn, sc, ra, rn, rc, _, _, _, _, _, _, _, _, _, _, _, _, _, _, _, _, _, _, _, _, _, _, _, _, _, _, _, _, _, _, _, _, _, _, _, _, _, _, _, _, _, _, _, _, _, _, _, _, _, _, _, _, _, _, _, _, _, rfl, ⟨Gr.trans HG.out hS4, hS4, by omega, by omega, AA.out, OS.out, OR.out, fun q hq e => by have := LS.out q hq; omega, fun q hq => ⟨fun e => by have := LR.out q hq; omega, fun h9 => by have := LR.out q hq; have := LS.out q h9; omega⟩⟩⟩

    · have jn : ¬ (j : Int) < (n : Int) := by omega
      have HT := hid (show cs.take j = cs from List.take_of_length_le (by rw [← HNC.out]; omega))
      rw [HT.out] at HO
      go_wp2
      go_ret
      exact ⟨_, _, _, rfl, HO.out, HG.out⟩
end Go.Proofs.Ytalmiphddgmfbab.Lt
