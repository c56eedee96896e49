/-
  What the statements' 'log' of layer 10 answers and leaves. Conditions: the cells lie where New left them; there are no more than 1048576 calls.
-/
import Derived.Test.YtpmhmikefkgbdaaClLogP
namespace Go.Proofs.Ytpmhmikefkgbdaa.Lt
open Go.RowKit Wd
attribute [local go_sem ↓] Go.wp_at_zero Go.wp_at_succ

/-- a call that is read, and nothing that was there has turned -/
structure So (w0 : World) (x p : Nat) (o : O4) (W : World) : Prop where
  g : Gr w0 W
  l : x < w0.heap.size
  c0 : W.cell? ⟨x, p, none⟩ = some (.int .i64 o.k)
  c1 : W.cell? ⟨x, p + 1, none⟩ = some (.int .i64 o.c)
  c2 : W.cell? ⟨x, p + 2, none⟩ = some (.int .i64 o.o)
  c3 : W.cell? ⟨x, p + 3, none⟩ = some (.int .i64 o.v)
theorem So.new {w0 : World} {g p : Nat} {o : O4} (l : g < w0.heap.size) (c0 : w0.cell? ⟨g, p + 0, none⟩ = some (.int .i64 o.k)) (c1 : w0.cell? ⟨g, p + 1, none⟩ = some (.int .i64 o.c)) (c2 : w0.cell? ⟨g, p + 2, none⟩ = some (.int .i64 o.o)) (c3 : w0.cell? ⟨g, p + 3, none⟩ = some (.int .i64 o.v)) : So w0 g p o w0 := ⟨Gr.refl w0, l, c0, c1, c2, c3⟩
theorem So.ch {w0 : World} {g p : Nat} {o : O4} {W W' : World} (h : So w0 g p o W) (k : Ch (fun q => w0.heap.size ≤ q) W W') : So w0 g p o W' := by
  have hn : ¬ (w0.heap.size ≤ g) := by have := h.l; omega
  have hl : g < W.heap.size := Nat.lt_of_lt_of_le h.l h.g.size
  exact ⟨Ch.trans h.g k (fun q e => .inr e), h.l, (k.cell hl hn).trans h.c0, (k.cell hl hn).trans h.c1, (k.cell hl hn).trans h.c2, (k.cell hl hn).trans h.c3⟩
theorem acc_info : (Try.prog.info? 37).map (fun i => (i.zero, i.size, i.bytes)) = some (some (.agg #[.int .i64 0, .int .i64 0, .int .i64 0, .int .i64 0, .bool false]), 5, 40) := by kernel_rfl
set_option maxHeartbeats 4000000 in
set_option maxRecDepth 20000 in
theorem log_any (P : Nat → Prop) (w0 w : World) (b : Nat) (v : Value) (vs : List Int) (vo : Value) (os : List O4) (hc : CAt w0.heap.size w b v vs) (hb : w0.heap.size ≤ b) (ho : Ls eO P w0 vo os) (hg : Gr w0 w) (hv : vs.length ≤ 256) (hl : os.length ≤ 1048576) :
    Calls Try.prog 21 #[.pointer (some ⟨b, 0, none⟩), vo] w fun e w' => ∃ ao n cap, e = .returned (.slice ao n cap) ∧ Ow eA 5 37 w0.heap.size w' (.slice ao n cap) (lgs os vs os.length) ∧ CAt w0.heap.size w' b v (cur os vs os.length) ∧ Gr w0 w' := by
  obtain ⟨aoo, capo, rfl⟩ := ho.form
  obtain ⟨M, hM⟩ : ∃ M, M = os.length := ⟨_, rfl⟩
  rw [← hM] at ho hl ⊢
  have HH := hid ho
  have HM := hid hM
  have HCV := hid (cur_len os vs)
  have HB0 := hid hb
  have HC1 := hid hc
  have HG1 := hid hg
  have HSG := hid (show ∀ (W W' : World), Gr w0 W → Ch (fun q => w0.heap.size ≤ q) W W' → Gr w0 W' from fun W W' p q => Ch.trans p q (fun x e => .inr e))
  clear ho hM hc hg
  go_enter Try.func21, Try.ntmps21
  go_wp2_with fail
  go_loopg [5, 6] M (fun q l5 i wr => ∃ (j : Nat) (ao : Option Addr) (ln cap : Nat), j + q = M ∧ i = .int .i64 (j : Int) ∧ l5 = .slice ao ln cap ∧ Ow eA 5 37 w0.heap.size wr (.slice ao ln cap) (lgs os vs j) ∧ (∀ q, Blk (.slice ao ln cap) q → ¬ Blk v q ∧ q ≠ b) ∧ CAt w0.heap.size wr b v (cur os vs j) ∧ Gr w0 wr)
  case atStart => exact ⟨0, none, 0, 0, by omega, rfl, rfl, Ow.nil _ _ _ _ _, (fun q e => by cases e), HC1.out, HG1.out⟩
  case round =>
    obtain ⟨j, lao, ln, lcap, hjk, rfl, rfl, hlo, hld, hc5, hg5⟩ := hrel
    have HLO := hid hlo
    have HLD := hid hld
    have C5 := hid hc5
    have G5 := hid hg5
    clear hlo hld hc5 hg5
    by_cases hj : j < M
    · obtain ⟨o, ho⟩ : ∃ o, os[j]? = some o := ⟨_, List.getElem?_eq_getElem (by rw [← HM.out]; exact hj)⟩
      obtain ⟨g, oo, cap1, e1, -, hgl, -, d⟩ := HH.out.get eO_len ho
      injection e1 with e1 h1 h2
      subst e1
      have hS0 : So w0 g (oo + j * 4) o wr.drew := (So.new hgl (d 0 _ rfl) (d 1 _ rfl) (d 2 _ rfl) (d 3 _ rfl)).ch (Ch.drew (G5.out.any))
      have j0 : (0 : Int) ≤ (j : Int) := by omega
      have j1 : (j : Int) < (M : Int) := by omega
      obtain ⟨N, hN⟩ : ∃ N, N = vs.length := ⟨_, rfl⟩
      obtain ⟨ck, hck⟩ : ∃ ck, cOk o (cur os vs j) = ck := ⟨_, rfl⟩
      obtain ⟨tc, tk, tb, ta, tx, hT⟩ : ∃ tc tk tb ta tx, cTold o (cur os vs j) = ⟨tc, tk, tb, ta, tx⟩ := ⟨_, _, _, _, _, rfl⟩
      have HLN := hid (show ck = false → lgs os vs (j + 1) = lgs os vs j from fun q => lgs_no ho (hck.trans q))
      have HLY := hid (show ck = true → lgs os vs (j + 1) = lgs os vs j ++ [⟨tc, tk, tb, ta, tx⟩] from fun q => by rw [lgs_yes ho (hck.trans q), hT])
      have HCU := hid (cur_succ (vs := vs) ho)
      have HVS := hid (show (cur os vs j).length = N from (cur_len os vs j).trans hN.symm)
      have HLL := hid (show ln = (lgs os vs j).length from HLO.out.len.1)
      have hln : ln ≤ 1048576 := by have := HLL.out; have := lgs_len os vs j; omega
      have HV := hid (fun (W : World) (p : CAt w0.heap.size W b v (cur os vs j)) => values_any _ W b v _ p (by rw [HVS.out]; omega))
      have HC := hid (show ∀ (W : World) (ao : Option Addr) (cap : Nat), CAt w0.heap.size W b v (cur os vs j) → Ls eI (Bes W v) W (.slice ao N cap) (cur os vs j) → Calls Try.prog 16 #[.pointer (some ⟨b, 0, none⟩), .slice ao N cap, .agg #[.int .i64 o.k, .int .i64 o.c, .int .i64 o.o, .int .i64 o.v]] W fun e w' => ∃ ao cap, e = .returned (.tuple #[.slice ao N cap, .agg #[.int .i64 tc, .int .i64 tk, .int .i64 tb, .int .i64 ta, .bool tx], .bool ck, .bool true]) ∧ Ls eI (Bes w' v) w' (.slice ao N cap) (cLeft o (cur os vs j)) ∧ CAt w0.heap.size w' b v (cLeft o (cur os vs j)) ∧ Ch (Blk v) W w' from fun W ao cap p q => by
        have := calls_bes w0.heap.size W b v (cur os vs j) o ao cap p (by rw [HVS.out]; exact q) (by rw [HVS.out]; omega)
        rw [HVS.out, hT, hck] at this
        exact this)
      have HVB := hid (show ∀ q, Blk v q → w0.heap.size ≤ q from fun q e => (C5.out.vo.blk e).1)
      have HVB2 := hid (show ∀ q, Blk v q → q < wr.heap.size from fun q e => (C5.out.vo.blk e).2)
      have HLB := hid (show ∀ q, Blk (.slice lao ln lcap) q → q < wr.heap.size from fun q e => (HLO.out.blk e).2)
      have HBL := hid (lt_of_block C5.out.bk)
      have C0 := hid (show CAt w0.heap.size wr.drew b v (cur os vs j) from ⟨C5.out.bk, C5.out.vo.drew, C5.out.av⟩)
      have LO0 := hid (show Ow eA 5 37 w0.heap.size wr.drew (.slice lao ln lcap) (lgs os vs j) from HLO.out)
      have HCK := hid hck
      have HT := hid hT
      have HO := hid ho
      have HNN := hid hN
      clear d h1 h2 ho hck hT hN
      go_wp2_with fail
      refine wp_region_held_drew (S := So w0 g (oo + j * 4) o) (by kernel_rfl) (by exact hS0) (fun _ => ?_)
      refine takeS_on (i := 0) 18 (v := ?v1) rfl rfl (by kernel_rfl) (by kernel_rfl) (by kernel_rfl) (fun _ _ _ h => h) (by kernel_rfl) ?hy1 (by exact hS0) ?_
      case hy1 => (intro w' hSw; go_simp; try (with_reducible rfl))
      simp only [Act.put, List.setIfInBounds_toArray, List.set_cons_zero, List.set_cons_succ]
      refine takeS_on (i := 1) 19 (v := ?v2) rfl rfl (by kernel_rfl) (by kernel_rfl) (by kernel_rfl) (fun _ _ _ h => h) (by kernel_rfl) ?hy2 (by exact hS0) ?_
      case hy2 => (intro w' hSw; go_simp; try (with_reducible rfl))
      simp only [Act.put, List.setIfInBounds_toArray, List.set_cons_zero, List.set_cons_succ]
      refine takeS_on (i := 3) 21 (v := ?v3) rfl rfl (by kernel_rfl) (by kernel_rfl) (by kernel_rfl) (fun _ _ _ h => h) (by kernel_rfl) ?hy3 (by exact hS0) ?_
      case hy3 => (intro w' hSw; go_simp; try (with_reducible rfl))
      simp only [Act.put, List.setIfInBounds_toArray, List.set_cons_zero, List.set_cons_succ]
      refine takeS_on (i := 4) 22 (v := ?v4) rfl rfl (by kernel_rfl) (by kernel_rfl) (by kernel_rfl) (fun _ _ _ h => h) (by kernel_rfl) ?hy4 (by exact hS0) ?_
      case hy4 => (intro w' hSw; go_simp; try (with_reducible rfl))
      simp only [Act.put, List.setIfInBounds_toArray, List.set_cons_zero, List.set_cons_succ]
      refine takeS_on (i := 5) 23 (v := ?v5) rfl rfl (by kernel_rfl) (by kernel_rfl) (by kernel_rfl) (fun _ _ _ h => h) (by kernel_rfl) ?hy5 (by exact hS0) ?_
      case hy5 => (intro w' hSw; go_simp; try (with_reducible rfl))
      simp only [Act.put, List.setIfInBounds_toArray, List.set_cons_zero, List.set_cons_succ]
      refine takeS_on (i := 6) 24 (v := ?v6) rfl rfl (by kernel_rfl) (by kernel_rfl) (by kernel_rfl) (fun _ _ _ h => h) (by kernel_rfl) ?hy6 (by exact hS0) ?_
      case hy6 => (intro w' hSw; have z0 := hSw.c0; have z1 := hSw.c1; have z2 := hSw.c2; have z3 := hSw.c3; go_simp; try (with_reducible rfl))
      simp only [Act.put, List.setIfInBounds_toArray, List.set_cons_zero, List.set_cons_succ]
      refine wpAnyH_ready (rs := [2, 13]) (by kernel_rfl) (by simp) (AllReadyH.cons rfl (fun K hK => ?_) (AllReadyH.cons rfl (fun K hK => ?_) AllReadyH.nil))
      · go_simp
        refine (HV.out _ C0.out).mono ?_
        rintro e w1 ⟨v2, rfl, o2, g2⟩
        obtain ⟨ao2, cap2, hv2⟩ := o2.form
        rw [HVS.out] at hv2
        subst hv2
        have L2 := hid (Ls.bes C0.out o2.lst)
        have C1 := hid (C0.out.gr g2)
        have LO1 := hid (LO0.out.gr g2)
        have hS1 := hS0.ch (g2.any)
        have Z1 := hid (show wr.heap.size ≤ w1.heap.size from g2.size)
        clear o2 g2
        refine hK.out _ _ (by exact hS1) (fun _ => ?_)
        clear hK K
        refine wpAnyH_ready (rs := [7, 13]) (by kernel_rfl) (by simp) (AllReadyH.cons rfl (fun K hK => ?_) (AllReadyH.cons rfl (fun K hK => ?_) AllReadyH.nil))
        · go_simp
          refine (HC.out _ _ _ C1.out L2.out).mono ?_
          rintro e w2 ⟨ao6, cap6, rfl, l6, c6, g6⟩
          have C2 := hid c6
          have LO2 := hid (LO1.out.ch g6 (fun q hq e => (HLD.out q hq).1 e))
          have hS2 := hS1.ch (g6.mono (fun q e => .inl (HVB.out q e)))
          have Z2 := hid (show wr.heap.size ≤ w2.heap.size from Nat.le_trans Z1.out g6.size)
          clear l6 c6 g6
          refine hK.out _ _ (by exact hS2) (fun _ => ?_)
          clear hK K
          refine takeS_on (i := 8) 17 (v := ?v7) rfl rfl (by kernel_rfl) (by kernel_rfl) (by kernel_rfl) (fun _ _ _ h => h) (by kernel_rfl) ?hy7 (by exact hS2) ?_
          case hy7 => (intro w' hSw; go_simp; try (with_reducible rfl))
          simp only [Act.put, List.setIfInBounds_toArray, List.set_cons_zero, List.set_cons_succ]
          refine takeS_on (i := 9) 26 (v := ?v8) rfl rfl (by kernel_rfl) (by kernel_rfl) (by kernel_rfl) (fun _ _ _ h => h) (by kernel_rfl) ?hy8 (by exact hS2) ?_
          case hy8 => (intro w' hSw; go_simp; try (with_reducible rfl))
          simp only [Act.put, List.setIfInBounds_toArray, List.set_cons_zero, List.set_cons_succ]
          refine takeS_on (i := 10) 27 (v := ?v9) rfl rfl (by kernel_rfl) (by kernel_rfl) (by kernel_rfl) (fun _ _ _ h => h) (by kernel_rfl) ?hy9 (by exact hS2) ?_
          case hy9 => (intro w' hSw; go_simp; try (with_reducible rfl))
          simp only [Act.put, List.setIfInBounds_toArray, List.set_cons_zero, List.set_cons_succ]
          refine takeS_on (i := 11) 28 (v := ?v10) rfl rfl (by kernel_rfl) (by kernel_rfl) (by kernel_rfl) (fun _ _ _ h => h) (by kernel_rfl) ?hy10 (by exact hS2) ?_
          case hy10 => (intro w' hSw; go_simp; try (with_reducible rfl))
          simp only [Act.put, List.setIfInBounds_toArray, List.set_cons_zero, List.set_cons_succ]
          refine takeS_on (i := 12) 29 (v := ?v11) rfl rfl (by kernel_rfl) (by kernel_rfl) (by kernel_rfl) (fun _ _ _ h => h) (by kernel_rfl) ?hy11 (by exact hS2) ?_
          case hy11 => (intro w' hSw; go_simp; try (with_reducible rfl))
          simp only [Act.put, List.setIfInBounds_toArray, List.set_cons_zero, List.set_cons_succ]
          refine wpAnyH_ready (rs := [13]) (by kernel_rfl) (by simp) (AllReadyH.cons rfl (fun K hK => ?_) AllReadyH.nil)
          go_simp
          have C3 := hid (C2.out.gr ((Gr.refl w2).alloc #[.int .i64 0, .int .i64 0, .int .i64 0, .int .i64 0, .bool false] 37))
          have LO3 := hid (LO2.out.alloc (.cells #[.int .i64 0, .int .i64 0, .int .i64 0, .int .i64 0, .bool false] 37))
          have hS3 := hS2.ch ((Ch.refl _ w2).alloc (.cells #[.int .i64 0, .int .i64 0, .int .i64 0, .int .i64 0, .bool false] 37))
          have BT2 := hid (show (w2.alloc (.cells #[.int .i64 0, .int .i64 0, .int .i64 0, .int .i64 0, .bool false] 37)).heap[w2.heap.size]? = some (.cells #[.int .i64 0, .int .i64 0, .int .i64 0, .int .i64 0, .bool false] 37 (0, 0)) from al_at _ rfl)
          have KWR := hid (show wr.heap.size ≤ w2.heap.size from Z2.out)
          refine hK.out _ _ (by exact hS3) (fun _ => ?_)
          clear hK K
          refine takeS_on (i := 14) 7 (v := ?v12) rfl rfl (by kernel_rfl) (by kernel_rfl) (by kernel_rfl) (fun _ _ _ h => h) (by kernel_rfl) ?hy12 (by exact hS3) ?_
          case hy12 => (intro w' hSw; go_simp; try (with_reducible rfl))
          simp only [Act.put, List.setIfInBounds_toArray, List.set_cons_zero, List.set_cons_succ]
          refine wpAnyH_ready (rs := [15]) (by kernel_rfl) (by simp) (AllReadyH.cons rfl (fun K hK => ?_) AllReadyH.nil)
          rw [if_pos (by kernel_rfl)]
          refine wp_store_row 37 (.tmp 8) (.tmp 27) rfl w2.heap.size #[.int .i64 tc, .int .i64 tk, .int .i64 tb, .int .i64 ta, .bool tx] rfl rfl _ _ BT2.out acc_size rfl (one5 _ _ _ _ _) ?_
          have B3 := hid (setRow_blk (c := #[.int .i64 tc, .int .i64 tk, .int .i64 tb, .int .i64 ta, .bool tx]) BT2.out)
          have K3 := setRow_ch (w2.alloc (.cells #[.int .i64 0, .int .i64 0, .int .i64 0, .int .i64 0, .bool false] 37)) w2.heap.size #[.int .i64 tc, .int .i64 tk, .int .i64 tb, .int .i64 ta, .bool tx]
          have hS4 := hS3.ch (K3.mono (fun q e => .inl (by have e1 : q = w2.heap.size := e; have := KWR.out; have := G5.out.size; omega)))
          have C4 := hid (C3.out.ch K3 (fun e => by have e1 : b = w2.heap.size := e; have := HBL.out; have := KWR.out; omega) (fun q hq e => by have e1 : q = w2.heap.size := e; have := HVB2.out _ hq; have := KWR.out; omega))
          have LO4 := hid (LO3.out.ch K3 (fun q hq e => by have e1 : q = w2.heap.size := e; have := HLB.out _ hq; have := KWR.out; omega))
          have G4 := hid hS4.g
          clear K3
          refine hK.out _ _ (by exact hS4) (fun _ => ?_)
          clear hK K
          refine takeS_on (i := 16) 9 (v := ?v13) rfl rfl (by kernel_rfl) (by kernel_rfl) (by kernel_rfl) (fun _ _ _ h => h) (by kernel_rfl) ?hy13 (by exact hS4) ?_
          case hy13 => (intro w' hSw; go_simp; try (with_reducible rfl))
          (try simp only [Act.put]); (try simp only [List.setIfInBounds_toArray])
          refine takeS_on (i := 17) 10 (v := ?v14) rfl rfl (by kernel_rfl) (by kernel_rfl) (by kernel_rfl) (fun _ _ _ h => h) (by kernel_rfl) ?hy14 (by exact hS4) ?_
          case hy14 => (intro w' hSw; go_simp; try (with_reducible rfl))
          (try simp only [Act.put]); (try simp only [List.setIfInBounds_toArray])
          refine wpAnyH_done (by kernel_rfl) ?_ _
          clear hS0 hS1 hS2 hS3 hS4
          obtain ⟨wF, hwF⟩ : ∃ x, x = ((w2.alloc (.cells #[.int .i64 0, .int .i64 0, .int .i64 0, .int .i64 0, .bool false] 37)).setRow w2.heap.size #[.int .i64 tc, .int .i64 tk, .int .i64 tb, .int .i64 ta, .bool tx]) := ⟨_, rfl⟩
          rw [← hwF] at B3 C4 LO4 G4 ⊢
          clear hwF
          cases ck with
          | false =>
            go_wp2
            go_roundg (gk - 1)
            case measure => omega
            case rel => exact ⟨j + 1, _, _, _, by omega, by simp, rfl, (by rw [HLN.out (by first | rfl | trivial)]; exact LO4.out), HLD.out, (by rw [HCU.out]; exact C4.out), G4.out⟩
          | true =>
            go_wp2_with (first | (refine wpList_load_row rfl 37 (.tmp 8) rfl w2.heap.size rfl _ _ _ _ B3.out Try.underlying37 rfl acc_size ?_) | (at_builtin; refine wpList_append_ow eA_len rfl (.tmp 31) (.tmp 33) _ 37 40 _ Try.underlying43 acc_info rfl (by omega) rfl w0.heap.size _ (lgs os vs j) rfl (LO4.out.alloc _) _ _ [(⟨tc, tk, tb, ta, tx⟩ : Ac)] rfl (Ls.single wF _ 37 _ rfl) (eA_one _) (ln + 1) (by rw [HLL.out]; rfl) (by omega) (by unfold maxLen; omega) (by simp; have := G4.out.size; omega) (lgs os vs (j + 1)) (HLY.out (by first | rfl | trivial)).symm ?_; intro ao7 cap7 w7 o7 c7 b7; have LO7 := hid o7; have C7 := hid ((C4.out.gr ((Gr.refl wF).alloc _ _)).ch c7 (fun e => (HLD.out _ e).2 rfl) (fun q hq e => (HLD.out q e).1 hq)); have G7 := hid (show Gr w0 w7 from Ch.trans (Ch.alloc G4.out _) c7 (fun q e => .inr (LO4.out.blk e).1)); have D7 := hid (show ∀ q, Blk (.slice ao7 (ln + 1) cap7) q → ¬ Blk v q ∧ q ≠ b from fun q e => by rcases b7 q e with z | z; (exact HLD.out q z); (have z1 : wF.heap.size + 1 ≤ q := (by simpa using z); exact ⟨fun y => by have := (C4.out.vo.blk y).2; omega, fun y => by have := lt_of_block C4.out.bk; omega⟩)); clear o7 c7 b7))
            go_roundg (gk - 1)
            case measure => omega
            case rel => exact ⟨j + 1, _, _, _, by omega, by simp, rfl, LO7.out, D7.out, (by rw [HCU.out]; exact C7.out), G7.out⟩
        · go_simp
          have C2 := hid (C1.out.gr ((Gr.refl w1).alloc #[.int .i64 0, .int .i64 0, .int .i64 0, .int .i64 0, .bool false] 37))
          have LO2 := hid (LO1.out.alloc (.cells #[.int .i64 0, .int .i64 0, .int .i64 0, .int .i64 0, .bool false] 37))
          have hS2 := hS1.ch ((Ch.refl _ w1).alloc (.cells #[.int .i64 0, .int .i64 0, .int .i64 0, .int .i64 0, .bool false] 37))
          have BT0 := hid (show (w1.alloc (.cells #[.int .i64 0, .int .i64 0, .int .i64 0, .int .i64 0, .bool false] 37)).heap[w1.heap.size]? = some (.cells #[.int .i64 0, .int .i64 0, .int .i64 0, .int .i64 0, .bool false] 37 (0, 0)) from al_at _ rfl)
          have KWR := hid (show wr.heap.size ≤ w1.heap.size from Z1.out)
          refine hK.out _ _ (by exact hS2) (fun _ => ?_)
          clear hK K
          refine wpAnyH_ready (rs := [7]) (by kernel_rfl) (by simp) (AllReadyH.cons rfl (fun K hK => ?_) AllReadyH.nil)
          go_simp
          refine (HC.out _ _ _ C2.out (Bes.gr L2.out (Gr.alloc (Gr.refl _) _ _))).mono ?_
          rintro e w3 ⟨ao6, cap6, rfl, l6, c6, g6⟩
          have C3 := hid c6
          have LO3 := hid (LO2.out.ch g6 (fun q hq e => (HLD.out q hq).1 e))
          have hS3 := hS2.ch (g6.mono (fun q e => .inl (HVB.out q e)))
          have BT2 := hid ((g6.block w1.heap.size (lt_of_block BT0.out) (fun e => by have q2 := HVB2.out _ e; have := KWR.out; omega)).trans BT0.out)
          clear l6 c6 g6
          refine hK.out _ _ (by exact hS3) (fun _ => ?_)
          clear hK K
          refine takeS_on (i := 8) 17 (v := ?v15) rfl rfl (by kernel_rfl) (by kernel_rfl) (by kernel_rfl) (fun _ _ _ h => h) (by kernel_rfl) ?hy15 (by exact hS3) ?_
          case hy15 => (intro w' hSw; go_simp; try (with_reducible rfl))
          simp only [Act.put, List.setIfInBounds_toArray, List.set_cons_zero, List.set_cons_succ]
          refine takeS_on (i := 9) 26 (v := ?v16) rfl rfl (by kernel_rfl) (by kernel_rfl) (by kernel_rfl) (fun _ _ _ h => h) (by kernel_rfl) ?hy16 (by exact hS3) ?_
          case hy16 => (intro w' hSw; go_simp; try (with_reducible rfl))
          simp only [Act.put, List.setIfInBounds_toArray, List.set_cons_zero, List.set_cons_succ]
          refine takeS_on (i := 10) 27 (v := ?v17) rfl rfl (by kernel_rfl) (by kernel_rfl) (by kernel_rfl) (fun _ _ _ h => h) (by kernel_rfl) ?hy17 (by exact hS3) ?_
          case hy17 => (intro w' hSw; go_simp; try (with_reducible rfl))
          simp only [Act.put, List.setIfInBounds_toArray, List.set_cons_zero, List.set_cons_succ]
          refine takeS_on (i := 11) 28 (v := ?v18) rfl rfl (by kernel_rfl) (by kernel_rfl) (by kernel_rfl) (fun _ _ _ h => h) (by kernel_rfl) ?hy18 (by exact hS3) ?_
          case hy18 => (intro w' hSw; go_simp; try (with_reducible rfl))
          simp only [Act.put, List.setIfInBounds_toArray, List.set_cons_zero, List.set_cons_succ]
          refine takeS_on (i := 12) 29 (v := ?v19) rfl rfl (by kernel_rfl) (by kernel_rfl) (by kernel_rfl) (fun _ _ _ h => h) (by kernel_rfl) ?hy19 (by exact hS3) ?_
          case hy19 => (intro w' hSw; go_simp; try (with_reducible rfl))
          simp only [Act.put, List.setIfInBounds_toArray, List.set_cons_zero, List.set_cons_succ]
          refine takeS_on (i := 14) 7 (v := ?v20) rfl rfl (by kernel_rfl) (by kernel_rfl) (by kernel_rfl) (fun _ _ _ h => h) (by kernel_rfl) ?hy20 (by exact hS3) ?_
          case hy20 => (intro w' hSw; go_simp; try (with_reducible rfl))
          simp only [Act.put, List.setIfInBounds_toArray, List.set_cons_zero, List.set_cons_succ]
          refine wpAnyH_ready (rs := [15]) (by kernel_rfl) (by simp) (AllReadyH.cons rfl (fun K hK => ?_) AllReadyH.nil)
          rw [if_pos (by kernel_rfl)]
          refine wp_store_row 37 (.tmp 8) (.tmp 27) rfl w1.heap.size #[.int .i64 tc, .int .i64 tk, .int .i64 tb, .int .i64 ta, .bool tx] rfl rfl _ _ BT2.out acc_size rfl (one5 _ _ _ _ _) ?_
          have B3 := hid (setRow_blk (c := #[.int .i64 tc, .int .i64 tk, .int .i64 tb, .int .i64 ta, .bool tx]) BT2.out)
          have K3 := setRow_ch w3 w1.heap.size #[.int .i64 tc, .int .i64 tk, .int .i64 tb, .int .i64 ta, .bool tx]
          have hS4 := hS3.ch (K3.mono (fun q e => .inl (by have e1 : q = w1.heap.size := e; have := KWR.out; have := G5.out.size; omega)))
          have C4 := hid (C3.out.ch K3 (fun e => by have e1 : b = w1.heap.size := e; have := HBL.out; have := KWR.out; omega) (fun q hq e => by have e1 : q = w1.heap.size := e; have := HVB2.out _ hq; have := KWR.out; omega))
          have LO4 := hid (LO3.out.ch K3 (fun q hq e => by have e1 : q = w1.heap.size := e; have := HLB.out _ hq; have := KWR.out; omega))
          have G4 := hid hS4.g
          clear K3
          refine hK.out _ _ (by exact hS4) (fun _ => ?_)
          clear hK K
          refine takeS_on (i := 16) 9 (v := ?v21) rfl rfl (by kernel_rfl) (by kernel_rfl) (by kernel_rfl) (fun _ _ _ h => h) (by kernel_rfl) ?hy21 (by exact hS4) ?_
          case hy21 => (intro w' hSw; go_simp; try (with_reducible rfl))
          (try simp only [Act.put]); (try simp only [List.setIfInBounds_toArray])
          refine takeS_on (i := 17) 10 (v := ?v22) rfl rfl (by kernel_rfl) (by kernel_rfl) (by kernel_rfl) (fun _ _ _ h => h) (by kernel_rfl) ?hy22 (by exact hS4) ?_
          case hy22 => (intro w' hSw; go_simp; try (with_reducible rfl))
          (try simp only [Act.put]); (try simp only [List.setIfInBounds_toArray])
          refine wpAnyH_done (by kernel_rfl) ?_ _
          clear hS0 hS1 hS2 hS3 hS4
          obtain ⟨wF, hwF⟩ : ∃ x, x = (w3.setRow w1.heap.size #[.int .i64 tc, .int .i64 tk, .int .i64 tb, .int .i64 ta, .bool tx]) := ⟨_, rfl⟩
          rw [← hwF] at B3 C4 LO4 G4 ⊢
          clear hwF
          cases ck with
          | false =>
            go_wp2
            go_roundg (gk - 1)
            case measure => omega
            case rel => exact ⟨j + 1, _, _, _, by omega, by simp, rfl, (by rw [HLN.out (by first | rfl | trivial)]; exact LO4.out), HLD.out, (by rw [HCU.out]; exact C4.out), G4.out⟩
          | true =>
            go_wp2_with (first | (refine wpList_load_row rfl 37 (.tmp 8) rfl w1.heap.size rfl _ _ _ _ B3.out Try.underlying37 rfl acc_size ?_) | (at_builtin; refine wpList_append_ow eA_len rfl (.tmp 31) (.tmp 33) _ 37 40 _ Try.underlying43 acc_info rfl (by omega) rfl w0.heap.size _ (lgs os vs j) rfl (LO4.out.alloc _) _ _ [(⟨tc, tk, tb, ta, tx⟩ : Ac)] rfl (Ls.single wF _ 37 _ rfl) (eA_one _) (ln + 1) (by rw [HLL.out]; rfl) (by omega) (by unfold maxLen; omega) (by simp; have := G4.out.size; omega) (lgs os vs (j + 1)) (HLY.out (by first | rfl | trivial)).symm ?_; intro ao7 cap7 w7 o7 c7 b7; have LO7 := hid o7; have C7 := hid ((C4.out.gr ((Gr.refl wF).alloc _ _)).ch c7 (fun e => (HLD.out _ e).2 rfl) (fun q hq e => (HLD.out q e).1 hq)); have G7 := hid (show Gr w0 w7 from Ch.trans (Ch.alloc G4.out _) c7 (fun q e => .inr (LO4.out.blk e).1)); have D7 := hid (show ∀ q, Blk (.slice ao7 (ln + 1) cap7) q → ¬ Blk v q ∧ q ≠ b from fun q e => by rcases b7 q e with z | z; (exact HLD.out q z); (have z1 : wF.heap.size + 1 ≤ q := (by simpa using z); exact ⟨fun y => by have := (C4.out.vo.blk y).2; omega, fun y => by have := lt_of_block C4.out.bk; omega⟩)); clear o7 c7 b7))
            go_roundg (gk - 1)
            case measure => omega
            case rel => exact ⟨j + 1, _, _, _, by omega, by simp, rfl, LO7.out, D7.out, (by rw [HCU.out]; exact C7.out), G7.out⟩
      · go_simp
        have C1 := hid (C0.out.gr ((Gr.refl wr.drew).alloc #[.int .i64 0, .int .i64 0, .int .i64 0, .int .i64 0, .bool false] 37))
        have LO1 := hid (LO0.out.alloc (.cells #[.int .i64 0, .int .i64 0, .int .i64 0, .int .i64 0, .bool false] 37))
        have hS1 := hS0.ch ((Ch.refl _ wr.drew).alloc (.cells #[.int .i64 0, .int .i64 0, .int .i64 0, .int .i64 0, .bool false] 37))
        have BT0 := hid (show (wr.drew.alloc (.cells #[.int .i64 0, .int .i64 0, .int .i64 0, .int .i64 0, .bool false] 37)).heap[wr.heap.size]? = some (.cells #[.int .i64 0, .int .i64 0, .int .i64 0, .int .i64 0, .bool false] 37 (0, 0)) from al_at _ rfl)
        have KWR := hid (show wr.heap.size ≤ wr.heap.size from Nat.le_refl _)
        refine hK.out _ _ (by exact hS1) (fun _ => ?_)
        clear hK K
        refine wpAnyH_ready (rs := [2]) (by kernel_rfl) (by simp) (AllReadyH.cons rfl (fun K hK => ?_) AllReadyH.nil)
        go_simp
        refine (HV.out _ C1.out).mono ?_
        rintro e w2 ⟨v2, rfl, o2, g2⟩
        obtain ⟨ao2, cap2, hv2⟩ := o2.form
        rw [HVS.out] at hv2
        subst hv2
        have L2 := hid (Ls.bes C1.out o2.lst)
        have C2 := hid (C1.out.gr g2)
        have LO2 := hid (LO1.out.gr g2)
        have hS2 := hS1.ch (g2.any)
        have Z1 := hid (show wr.heap.size ≤ w2.heap.size from Nat.le_trans (by simp) g2.size)
        have BT1 := hid (gr_blk BT0.out g2)
        clear o2 g2
        refine hK.out _ _ (by exact hS2) (fun _ => ?_)
        clear hK K
        refine wpAnyH_ready (rs := [7]) (by kernel_rfl) (by simp) (AllReadyH.cons rfl (fun K hK => ?_) AllReadyH.nil)
        go_simp
        refine (HC.out _ _ _ C2.out L2.out).mono ?_
        rintro e w3 ⟨ao6, cap6, rfl, l6, c6, g6⟩
        have C3 := hid c6
        have LO3 := hid (LO2.out.ch g6 (fun q hq e => (HLD.out q hq).1 e))
        have hS3 := hS2.ch (g6.mono (fun q e => .inl (HVB.out q e)))
        have BT2 := hid ((g6.block wr.heap.size (lt_of_block BT1.out) (fun e => by have q2 := HVB2.out _ e; have := KWR.out; omega)).trans BT1.out)
        clear l6 c6 g6
        refine hK.out _ _ (by exact hS3) (fun _ => ?_)
        clear hK K
        refine takeS_on (i := 8) 17 (v := ?v23) rfl rfl (by kernel_rfl) (by kernel_rfl) (by kernel_rfl) (fun _ _ _ h => h) (by kernel_rfl) ?hy23 (by exact hS3) ?_
        case hy23 => (intro w' hSw; go_simp; try (with_reducible rfl))
        simp only [Act.put, List.setIfInBounds_toArray, List.set_cons_zero, List.set_cons_succ]
        refine takeS_on (i := 9) 26 (v := ?v24) rfl rfl (by kernel_rfl) (by kernel_rfl) (by kernel_rfl) (fun _ _ _ h => h) (by kernel_rfl) ?hy24 (by exact hS3) ?_
        case hy24 => (intro w' hSw; go_simp; try (with_reducible rfl))
        simp only [Act.put, List.setIfInBounds_toArray, List.set_cons_zero, List.set_cons_succ]
        refine takeS_on (i := 10) 27 (v := ?v25) rfl rfl (by kernel_rfl) (by kernel_rfl) (by kernel_rfl) (fun _ _ _ h => h) (by kernel_rfl) ?hy25 (by exact hS3) ?_
        case hy25 => (intro w' hSw; go_simp; try (with_reducible rfl))
        simp only [Act.put, List.setIfInBounds_toArray, List.set_cons_zero, List.set_cons_succ]
        refine takeS_on (i := 11) 28 (v := ?v26) rfl rfl (by kernel_rfl) (by kernel_rfl) (by kernel_rfl) (fun _ _ _ h => h) (by kernel_rfl) ?hy26 (by exact hS3) ?_
        case hy26 => (intro w' hSw; go_simp; try (with_reducible rfl))
        simp only [Act.put, List.setIfInBounds_toArray, List.set_cons_zero, List.set_cons_succ]
        refine takeS_on (i := 12) 29 (v := ?v27) rfl rfl (by kernel_rfl) (by kernel_rfl) (by kernel_rfl) (fun _ _ _ h => h) (by kernel_rfl) ?hy27 (by exact hS3) ?_
        case hy27 => (intro w' hSw; go_simp; try (with_reducible rfl))
        simp only [Act.put, List.setIfInBounds_toArray, List.set_cons_zero, List.set_cons_succ]
        refine takeS_on (i := 14) 7 (v := ?v28) rfl rfl (by kernel_rfl) (by kernel_rfl) (by kernel_rfl) (fun _ _ _ h => h) (by kernel_rfl) ?hy28 (by exact hS3) ?_
        case hy28 => (intro w' hSw; go_simp; try (with_reducible rfl))
        simp only [Act.put, List.setIfInBounds_toArray, List.set_cons_zero, List.set_cons_succ]
        refine wpAnyH_ready (rs := [15]) (by kernel_rfl) (by simp) (AllReadyH.cons rfl (fun K hK => ?_) AllReadyH.nil)
        rw [if_pos (by kernel_rfl)]
        refine wp_store_row 37 (.tmp 8) (.tmp 27) rfl wr.heap.size #[.int .i64 tc, .int .i64 tk, .int .i64 tb, .int .i64 ta, .bool tx] rfl rfl _ _ BT2.out acc_size rfl (one5 _ _ _ _ _) ?_
        have B3 := hid (setRow_blk (c := #[.int .i64 tc, .int .i64 tk, .int .i64 tb, .int .i64 ta, .bool tx]) BT2.out)
        have K3 := setRow_ch w3 wr.heap.size #[.int .i64 tc, .int .i64 tk, .int .i64 tb, .int .i64 ta, .bool tx]
        have hS4 := hS3.ch (K3.mono (fun q e => .inl (by have e1 : q = wr.heap.size := e; have := KWR.out; have := G5.out.size; omega)))
        have C4 := hid (C3.out.ch K3 (fun e => by have e1 : b = wr.heap.size := e; have := HBL.out; have := KWR.out; omega) (fun q hq e => by have e1 : q = wr.heap.size := e; have := HVB2.out _ hq; have := KWR.out; omega))
        have LO4 := hid (LO3.out.ch K3 (fun q hq e => by have e1 : q = wr.heap.size := e; have := HLB.out _ hq; have := KWR.out; omega))
        have G4 := hid hS4.g
        clear K3
        refine hK.out _ _ (by exact hS4) (fun _ => ?_)
        clear hK K
        refine takeS_on (i := 16) 9 (v := ?v29) rfl rfl (by kernel_rfl) (by kernel_rfl) (by kernel_rfl) (fun _ _ _ h => h) (by kernel_rfl) ?hy29 (by exact hS4) ?_
        case hy29 => (intro w' hSw; go_simp; try (with_reducible rfl))
        (try simp only [Act.put]); (try simp only [List.setIfInBounds_toArray])
        refine takeS_on (i := 17) 10 (v := ?v30) rfl rfl (by kernel_rfl) (by kernel_rfl) (by kernel_rfl) (fun _ _ _ h => h) (by kernel_rfl) ?hy30 (by exact hS4) ?_
        case hy30 => (intro w' hSw; go_simp; try (with_reducible rfl))
        (try simp only [Act.put]); (try simp only [List.setIfInBounds_toArray])
        refine wpAnyH_done (by kernel_rfl) ?_ _
        clear hS0 hS1 hS2 hS3 hS4
        obtain ⟨wF, hwF⟩ : ∃ x, x = (w3.setRow wr.heap.size #[.int .i64 tc, .int .i64 tk, .int .i64 tb, .int .i64 ta, .bool tx]) := ⟨_, rfl⟩
        rw [← hwF] at B3 C4 LO4 G4 ⊢
        clear hwF
        cases ck with
        | false =>
          go_wp2
          go_roundg (gk - 1)
          case measure => omega
          case rel => exact ⟨j + 1, _, _, _, by omega, by simp, rfl, (by rw [HLN.out (by first | rfl | trivial)]; exact LO4.out), HLD.out, (by rw [HCU.out]; exact C4.out), G4.out⟩
        | true =>
          go_wp2_with (first | (refine wpList_load_row rfl 37 (.tmp 8) rfl wr.heap.size rfl _ _ _ _ B3.out Try.underlying37 rfl acc_size ?_) | (at_builtin; refine wpList_append_ow eA_len rfl (.tmp 31) (.tmp 33) _ 37 40 _ Try.underlying43 acc_info rfl (by omega) rfl w0.heap.size _ (lgs os vs j) rfl (LO4.out.alloc _) _ _ [(⟨tc, tk, tb, ta, tx⟩ : Ac)] rfl (Ls.single wF _ 37 _ rfl) (eA_one _) (ln + 1) (by rw [HLL.out]; rfl) (by omega) (by unfold maxLen; omega) (by simp; have := G4.out.size; omega) (lgs os vs (j + 1)) (HLY.out (by first | rfl | trivial)).symm ?_; intro ao7 cap7 w7 o7 c7 b7; have LO7 := hid o7; have C7 := hid ((C4.out.gr ((Gr.refl wF).alloc _ _)).ch c7 (fun e => (HLD.out _ e).2 rfl) (fun q hq e => (HLD.out q e).1 hq)); have G7 := hid (show Gr w0 w7 from Ch.trans (Ch.alloc G4.out _) c7 (fun q e => .inr (LO4.out.blk e).1)); have D7 := hid (show ∀ q, Blk (.slice ao7 (ln + 1) cap7) q → ¬ Blk v q ∧ q ≠ b from fun q e => by rcases b7 q e with z | z; (exact HLD.out q z); (have z1 : wF.heap.size + 1 ≤ q := (by simpa using z); exact ⟨fun y => by have := (C4.out.vo.blk y).2; omega, fun y => by have := lt_of_block C4.out.bk; omega⟩)); clear o7 c7 b7))
          go_roundg (gk - 1)
          case measure => omega
          case rel => exact ⟨j + 1, _, _, _, by omega, by simp, rfl, LO7.out, D7.out, (by rw [HCU.out]; exact C7.out), G7.out⟩

    · have jn : ¬ (j : Int) < (M : Int) := by omega
      have e : j = M := by omega
      subst e
      go_wp2
      go_ret
      exact ⟨_, _, _, rfl, HLO.out, C5.out, G5.out⟩
end Go.Proofs.Ytpmhmikefkgbdaa.Lt
