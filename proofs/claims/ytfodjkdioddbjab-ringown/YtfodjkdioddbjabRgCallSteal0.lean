/-
  What 'calls' of the statements does at Steal, where ring 0 is meant. Condition: rings and lists are there.
-/
import Derived.Test.YtfodjkdioddbjabRgStolen2
namespace Go.Proofs.Ytfodjkdioddbjab.Rg
open Go.RowKit
attribute [local go_sem ↓] Go.wp_at_zero Go.wp_at_succ

set_option maxHeartbeats 20000000 in
set_option maxRecDepth 20000 in
theorem calls_steal0 (b c pk : Nat) (u v : Value) (xs zs : List W3) (nx ny : Option W3) (x : W3) (w : World)
    (hb : RingAt w b xs nx) (hc : RingAt w c zs ny) (hlu : Lst (Av b c pk) w u xs) (hlv : Lst (Av b c pk) w v zs) (hpk : pk < w.heap.size) (hbc : b ≠ c) :
    Calls Try.prog 23 #[.agg #[.pointer (some ⟨b, 0, none⟩), .pointer (some ⟨c, 0, none⟩), u, .bool nx.isSome, .int .i64 (nx.getD W3.zero).s, .int .i64 (nx.getD W3.zero).g, .int .u64 (nx.getD W3.zero).t, v, .bool ny.isSome, .int .i64 (ny.getD W3.zero).s, .int .i64 (ny.getD W3.zero).g, .int .u64 (ny.getD W3.zero).t, .int .i64 0], .agg #[.int .i64 5, .int .i64 x.s, .int .i64 x.g, .int .u64 x.t]] w fun e w' => Out b c pk w e w' := by
  obtain ⟨ua, uc, rfl⟩ := hlu.form
  obtain ⟨va, vc, rfl⟩ := hlv.form
  have hb0 := hb.lt
  have hc0 := hc.lt
  have HB := hid hb
  have HC := hid hc
  have HU := hid hlu
  have HV := hid hlv
  clear hb hc hlu hlv
  go_enter Try.func23, Try.ntmps23
  go_wp2_with fail
  obtain ⟨F1, F2, F3, F4, G, hsz⟩ := four_laid w #[.pointer (some ⟨b, 0, none⟩), .pointer (some ⟨c, 0, none⟩), (.slice ua xs.length uc), .bool nx.isSome, .int .i64 (nx.getD W3.zero).s, .int .i64 (nx.getD W3.zero).g, .int .u64 (nx.getD W3.zero).t, (.slice va zs.length vc), .bool ny.isSome, .int .i64 (ny.getD W3.zero).s, .int .i64 (ny.getD W3.zero).g, .int .u64 (ny.getD W3.zero).t, .int .i64 0] 5 x (.slice ua xs.length uc) (.bool nx.isSome) (.int .i64 (nx.getD W3.zero).s) (.int .i64 (nx.getD W3.zero).g) (.int .u64 (nx.getD W3.zero).t) _ rfl
  have HRB := hid (HB.out.ch G (noB _))
  have HRC := hid (HC.out.ch G (noB _))
  have HLU := hid ((HU.out.mono (Q := (fun g => Av b c pk g ∧ g < w.heap.size)) (fun g h p => ⟨p, h⟩)).ch G (fun _ _ _ => noB _))
  have HLV := hid ((HV.out.mono (Q := (fun g => Av b c pk g ∧ g < w.heap.size)) (fun g h p => ⟨p, h⟩)).ch G (fun _ _ _ => noB _))
  have HF1 := hid F1
  have HF4 := hid F4
  have HF3 := hid F3
  have HG := hid G
  have HSZ := hid hsz
  have HLF := hid HRC.out.len
  have HLT := hid HRB.out.len
  clear F1 F2 F3 F4 G hsz HB HC HU HV
  obtain ⟨X, hX⟩ : ∃ X, X = stX zs ny xs nx := ⟨_, rfl⟩
  obtain ⟨E, hE⟩ : ∃ E, E = stE zs ny xs nx := ⟨_, rfl⟩
  obtain ⟨N, hN⟩ : ∃ N, N = stN zs ny xs nx := ⟨_, rfl⟩
  obtain ⟨PP, hP⟩ : ∃ P, P = stP zs xs nx := ⟨_, rfl⟩
  obtain ⟨QQ, hQQ⟩ : ∃ Q, Q = stQ zs xs nx := ⟨_, rfl⟩
  have hD := fun w2 (h2 : RingAt w2 c zs ny) (h3 : RingAt w2 b xs nx) => steal_any c b zs ny xs nx w2 h2 h3 (Ne.symm hbc)
  have hQ := fun w2 (h2 : Lst (fun g => Av b c pk g ∧ g < w.heap.size) w2 (.slice va zs.length vc) zs) (h3 : Lst (fun g => Av b c pk g ∧ g < w.heap.size) w2 (.slice ua xs.length uc) xs) => rsteal_nx _ _ _ zs xs ny nx w2 h2 h3 HLF.out HLT.out
  rw [← hX, ← hE, ← hN, ← hP, ← hQQ] at hD hQ
  have HD := hid hD
  have HQ := hid hQ
  clear hD hQ hX hE hN hP hQQ
  refine (HD.out _ HRC.out HRB.out).mono ?_
  rintro e w1 ⟨rfl, r1, q1, g1⟩
  have hs1 : w.heap.size + 4 ≤ w1.heap.size := by have := g1.size; have := HSZ.out; omega
  have A4 := HF4.out.ch g1 (fun e => by rcases e with e | e <;> omega)
  have A1 := HF1.out.ch g1 (fun e => by rcases e with e | e <;> omega)
  have HA1 := hid A1
  have HA4 := hid A4
  have HA3 := hid (HF3.out.ch g1 (fun e => by rcases e with e | e <;> omega))
  have HLF1 := hid (HLV.out.ch g1 (fun g _ h e => by rcases e with e | e; exact h.1.2 e; exact h.1.1 e))
  have HLT1 := hid (HLU.out.ch g1 (fun g _ h e => by rcases e with e | e; exact h.1.2 e; exact h.1.1 e))
  have HRF1 := hid r1
  have HRT1 := hid q1
  have HG1 := hid ((HG.out.any (S := Two b c)).trans g1 (fun _ e => .inl (e.elim .inr .inl)))
  clear r1 q1 g1
  obtain ⟨s0, s1, s2, s3, s4⟩ := (A4.alloc (.cells #[.int .i64 X.s, .int .i64 X.g, .int .u64 X.t] 27)).cells
  obtain ⟨p0, p1, p2, p3, p4, p5, p6, p7, p8, p9, p10, p11, p12⟩ := (A1.alloc (.cells #[.int .i64 X.s, .int .i64 X.g, .int .u64 X.t] 27)).cells
  have lt4 := A4.lt
  have lt1 := A1.lt
  clear A1 A4
  go_wp2_with fail
  have hI : IntKind.i64.wrap ((1 : Int) - 0) = 1 := by decide
  have hI2 : IntKind.i64.wrap ((1 : Int) + -0) = 1 := by decide
  have hI3 : IntKind.i64.wrap (1 : Int) = 1 := by decide
  go_cut [30, 31, 32, 33] from 186 to 198 (fun y0 y1 y2 y3 wr => Stolen b c pk w w1.heap.size (w1.alloc (.cells #[.int .i64 X.s, .int .i64 X.g, .int .u64 X.t] 27)) X E N nx PP QQ y0 y1 y2 y3 wr)
  case first =>
    have d1 : ¬ w1.heap.size + 1 = w.heap.size := by omega
    have d2 : ¬ w1.heap.size + 1 + 1 = w.heap.size := by omega
    have d3 : ¬ w1.heap.size + 1 + 1 + 1 = w.heap.size := by omega
    have d4 : ¬ w1.heap.size + 1 = w.heap.size + 1 + 1 + 1 := by omega
    have d5 : ¬ w1.heap.size + 1 + 1 = w.heap.size + 1 + 1 + 1 := by omega
    have d6 : ¬ w1.heap.size + 1 + 1 + 1 = w.heap.size + 1 + 1 + 1 := by omega
    have e01 : w1.heap.size < w1.heap.size + 1 + 1 := by omega
    have e02 : w1.heap.size < w1.heap.size + 1 + 1 + 1 := by omega
    have e03 : w1.heap.size < w1.heap.size + 1 + 1 + 1 + 1 := by omega
    have e12 : w1.heap.size + 1 < w1.heap.size + 1 + 1 + 1 := by omega
    have e13 : w1.heap.size + 1 < w1.heap.size + 1 + 1 + 1 + 1 := by omega
    have e23 : w1.heap.size + 1 + 1 < w1.heap.size + 1 + 1 + 1 + 1 := by omega
    go_region_held3 (fun w' => w'.cell? ⟨w.heap.size, 12, none⟩ = some (.int .i64 0) ∧ w'.cell? ⟨w.heap.size, 7, none⟩ = some (.slice va zs.length vc) ∧ w'.cell? ⟨w.heap.size, 8, none⟩ = some (.bool ny.isSome) ∧ w'.cell? ⟨w.heap.size, 9, none⟩ = some (.int .i64 (ny.getD W3.zero).s) ∧ w'.cell? ⟨w.heap.size, 10, none⟩ = some (.int .i64 (ny.getD W3.zero).g) ∧ w'.cell? ⟨w.heap.size, 11, none⟩ = some (.int .u64 (ny.getD W3.zero).t) ∧ w'.cell? ⟨w.heap.size + 1 + 1 + 1, 0, none⟩ = some (.slice ua xs.length uc) ∧ w'.cell? ⟨w.heap.size + 1 + 1 + 1, 1, none⟩ = some (.bool nx.isSome) ∧ w'.cell? ⟨w.heap.size + 1 + 1 + 1, 2, none⟩ = some (.int .i64 (nx.getD W3.zero).s) ∧ w'.cell? ⟨w.heap.size + 1 + 1 + 1, 3, none⟩ = some (.int .i64 (nx.getD W3.zero).g) ∧ w'.cell? ⟨w.heap.size + 1 + 1 + 1, 4, none⟩ = some (.int .u64 (nx.getD W3.zero).t)) (first | (simp (maxDischargeDepth := 12) only [World.cell?_drew, World.cell?_alloc_some, Option.isSome_some, p12, p7, p8, p9, p10, p11, s0, s1, s2, s3, s4, and_self]; done) | (simp (maxDischargeDepth := 12) only [World.cell?_alloc_some, Option.isSome_some, a12, a7, a8, a9, a10, a11, t0, t1, t2, t3, t4, and_self]; done) | (simp (maxDischargeDepth := 12) only [World.cell?_alloc_some, World.cell?_setCell_far, ne_eq, not_false_eq_true, d1, d2, d3, d4, d5, d6, Option.isSome_some, a12, a7, a8, a9, a10, a11, t0, t1, t2, t3, t4, and_self]; done) | (go_keep; done))
      (first
        | (go_at_call 37; refine (HQ.out _ ?_ ?_).mono ?_; (repeat (with_reducible first | exact HLF1.out | refine Lst.alloc ?_ _ | refine Lst.drew ?_)); (repeat (with_reducible first | exact HLT1.out | refine Lst.alloc ?_ _ | refine Lst.drew ?_)); rintro e w2 ⟨fv, tv, rfl, l2, l3, g2⟩; obtain ⟨fa, fc, rfl⟩ := l2.form; obtain ⟨ta, tc, rfl⟩ := l3.form; have A2 : Pair w2 w.heap.size #[.pointer (some ⟨b, 0, none⟩), .pointer (some ⟨c, 0, none⟩), (.slice ua xs.length uc), .bool nx.isSome, .int .i64 (nx.getD W3.zero).s, .int .i64 (nx.getD W3.zero).g, .int .u64 (nx.getD W3.zero).t, (.slice va zs.length vc), .bool ny.isSome, .int .i64 (ny.getD W3.zero).s, .int .i64 (ny.getD W3.zero).g, .int .u64 (ny.getD W3.zero).t, .int .i64 0] := (by refine Pair.ch ?_ g2 (noB _); repeat (with_reducible first | exact HA1.out | refine Pair.alloc ?_ _ | refine Pair.drew ?_)); obtain ⟨a0, a1, a2, a3, a4, a5, a6, a7, a8, a9, a10, a11, a12⟩ := A2.cells; have B2 : Five w2 (w.heap.size + 1 + 1 + 1) (.slice ua xs.length uc) (.bool nx.isSome) (.int .i64 (nx.getD W3.zero).s) (.int .i64 (nx.getD W3.zero).g) (.int .u64 (nx.getD W3.zero).t) := (by refine Five.ch ?_ g2 (noB _); repeat (with_reducible first | exact HA4.out | refine Five.alloc ?_ _ | refine Five.drew ?_)); obtain ⟨t0, t1, t2, t3, t4⟩ := B2.cells; (first | (with_reducible have K := lay_FFT (w1 := w1) (w2 := w2) (Z := .cells #[.int .i64 X.s, .int .i64 X.g, .int .u64 X.t] 27) g2; obtain ⟨F0, z0, za0, zb0, F1, z1, za1, zb1, F2, z2, za2, zb2⟩ := K; obtain ⟨y00, y01, y02, y03, y04⟩ := F0.cells; obtain ⟨x00, x01, x02, x03, x04⟩ := F0.fz; clear F0; obtain ⟨y10, y11, y12, y13, y14⟩ := F1.cells; obtain ⟨x10, x11, x12, x13, x14⟩ := F1.fz; clear F1; obtain ⟨y20, y21, y22⟩ := F2.cells; obtain ⟨x20, x21, x22⟩ := F2.fz; clear F2) | (with_reducible have K := lay_FTF (w1 := w1) (w2 := w2) (Z := .cells #[.int .i64 X.s, .int .i64 X.g, .int .u64 X.t] 27) g2; obtain ⟨F0, z0, za0, zb0, F1, z1, za1, zb1, F2, z2, za2, zb2⟩ := K; obtain ⟨y00, y01, y02, y03, y04⟩ := F0.cells; obtain ⟨x00, x01, x02, x03, x04⟩ := F0.fz; clear F0; obtain ⟨y10, y11, y12⟩ := F1.cells; obtain ⟨x10, x11, x12⟩ := F1.fz; clear F1; obtain ⟨y20, y21, y22, y23, y24⟩ := F2.cells; obtain ⟨x20, x21, x22, x23, x24⟩ := F2.fz; clear F2) | (with_reducible have K := lay_TFF (w1 := w1) (w2 := w2) (Z := .cells #[.int .i64 X.s, .int .i64 X.g, .int .u64 X.t] 27) g2; obtain ⟨F0, z0, za0, zb0, F1, z1, za1, zb1, F2, z2, za2, zb2⟩ := K; obtain ⟨y00, y01, y02⟩ := F0.cells; obtain ⟨x00, x01, x02⟩ := F0.fz; clear F0; obtain ⟨y10, y11, y12, y13, y14⟩ := F1.cells; obtain ⟨x10, x11, x12, x13, x14⟩ := F1.fz; clear F1; obtain ⟨y20, y21, y22, y23, y24⟩ := F2.cells; obtain ⟨x20, x21, x22, x23, x24⟩ := F2.fz; clear F2) | (with_reducible have K := lay_FF (w1 := w1) (w2 := w2) (Z := .cells #[.int .i64 X.s, .int .i64 X.g, .int .u64 X.t] 27) g2; obtain ⟨F0, z0, za0, zb0, F1, z1, za1, zb1⟩ := K; obtain ⟨y00, y01, y02, y03, y04⟩ := F0.cells; obtain ⟨x00, x01, x02, x03, x04⟩ := F0.fz; clear F0; obtain ⟨y10, y11, y12, y13, y14⟩ := F1.cells; obtain ⟨x10, x11, x12, x13, x14⟩ := F1.fz; clear F1) | (with_reducible have K := lay_FT (w1 := w1) (w2 := w2) (Z := .cells #[.int .i64 X.s, .int .i64 X.g, .int .u64 X.t] 27) g2; obtain ⟨F0, z0, za0, zb0, F1, z1, za1, zb1⟩ := K; obtain ⟨y00, y01, y02, y03, y04⟩ := F0.cells; obtain ⟨x00, x01, x02, x03, x04⟩ := F0.fz; clear F0; obtain ⟨y10, y11, y12⟩ := F1.cells; obtain ⟨x10, x11, x12⟩ := F1.fz; clear F1) | (with_reducible have K := lay_TF (w1 := w1) (w2 := w2) (Z := .cells #[.int .i64 X.s, .int .i64 X.g, .int .u64 X.t] 27) g2; obtain ⟨F0, z0, za0, zb0, F1, z1, za1, zb1⟩ := K; obtain ⟨y00, y01, y02⟩ := F0.cells; obtain ⟨x00, x01, x02⟩ := F0.fz; clear F0; obtain ⟨y10, y11, y12, y13, y14⟩ := F1.cells; obtain ⟨x10, x11, x12, x13, x14⟩ := F1.fz; clear F1) | (with_reducible have K := lay_F (w1 := w1) (w2 := w2) (Z := .cells #[.int .i64 X.s, .int .i64 X.g, .int .u64 X.t] 27) g2; obtain ⟨F0, z0, za0, zb0⟩ := K; obtain ⟨y00, y01, y02, y03, y04⟩ := F0.cells; obtain ⟨x00, x01, x02, x03, x04⟩ := F0.fz; clear F0) | (with_reducible have K := lay_T (w1 := w1) (w2 := w2) (Z := .cells #[.int .i64 X.s, .int .i64 X.g, .int .u64 X.t] 27) g2; obtain ⟨F0, z0, za0, zb0⟩ := K; obtain ⟨y00, y01, y02⟩ := F0.cells; obtain ⟨x00, x01, x02⟩ := F0.fz; clear F0) | skip); have HL2 := hid (stolen_lst l2 hb0 hc0 hpk hs1 (by simp <;> omega)); have HL3 := hid (stolen_lst l3 hb0 hc0 hpk hs1 (by simp <;> omega)); have hz2 := g2.size; simp at hz2; have HG2 := hid g2; clear l2 l3 g2 A2 B2))
    all_goals go_wp2_with fail
    all_goals go_meet
    all_goals (with_reducible first | (refine stolen_o_ABC (w1 := w1) (w2 := w2) hs1 ?_ ?_ ?_; exact HG2.out; exact HL2.out; exact HL3.out) | (refine stolen_A_BC (w1 := w1) (w2 := w2) hs1 ?_ ?_ ?_; exact HG2.out; exact HL2.out; exact HL3.out) | (refine stolen_AB_C (w1 := w1) (w2 := w2) hs1 ?_ ?_ ?_; exact HG2.out; exact HL2.out; exact HL3.out) | (refine stolen_ABC_o (w1 := w1) (w2 := w2) hs1 ?_ ?_ ?_; exact HG2.out; exact HL2.out; exact HL3.out) | (refine stolen_o_ACB (w1 := w1) (w2 := w2) hs1 ?_ ?_ ?_; exact HG2.out; exact HL2.out; exact HL3.out) | (refine stolen_A_CB (w1 := w1) (w2 := w2) hs1 ?_ ?_ ?_; exact HG2.out; exact HL2.out; exact HL3.out) | (refine stolen_AC_B (w1 := w1) (w2 := w2) hs1 ?_ ?_ ?_; exact HG2.out; exact HL2.out; exact HL3.out) | (refine stolen_ACB_o (w1 := w1) (w2 := w2) hs1 ?_ ?_ ?_; exact HG2.out; exact HL2.out; exact HL3.out) | (refine stolen_o_BAC (w1 := w1) (w2 := w2) hs1 ?_ ?_ ?_; exact HG2.out; exact HL2.out; exact HL3.out) | (refine stolen_B_AC (w1 := w1) (w2 := w2) hs1 ?_ ?_ ?_; exact HG2.out; exact HL2.out; exact HL3.out) | (refine stolen_BA_C (w1 := w1) (w2 := w2) hs1 ?_ ?_ ?_; exact HG2.out; exact HL2.out; exact HL3.out) | (refine stolen_BAC_o (w1 := w1) (w2 := w2) hs1 ?_ ?_ ?_; exact HG2.out; exact HL2.out; exact HL3.out) | (refine stolen_o_BCA (w1 := w1) (w2 := w2) hs1 ?_ ?_ ?_; exact HG2.out; exact HL2.out; exact HL3.out) | (refine stolen_B_CA (w1 := w1) (w2 := w2) hs1 ?_ ?_ ?_; exact HG2.out; exact HL2.out; exact HL3.out) | (refine stolen_BC_A (w1 := w1) (w2 := w2) hs1 ?_ ?_ ?_; exact HG2.out; exact HL2.out; exact HL3.out) | (refine stolen_BCA_o (w1 := w1) (w2 := w2) hs1 ?_ ?_ ?_; exact HG2.out; exact HL2.out; exact HL3.out) | (refine stolen_o_CAB (w1 := w1) (w2 := w2) hs1 ?_ ?_ ?_; exact HG2.out; exact HL2.out; exact HL3.out) | (refine stolen_C_AB (w1 := w1) (w2 := w2) hs1 ?_ ?_ ?_; exact HG2.out; exact HL2.out; exact HL3.out) | (refine stolen_CA_B (w1 := w1) (w2 := w2) hs1 ?_ ?_ ?_; exact HG2.out; exact HL2.out; exact HL3.out) | (refine stolen_CAB_o (w1 := w1) (w2 := w2) hs1 ?_ ?_ ?_; exact HG2.out; exact HL2.out; exact HL3.out) | (refine stolen_o_CBA (w1 := w1) (w2 := w2) hs1 ?_ ?_ ?_; exact HG2.out; exact HL2.out; exact HL3.out) | (refine stolen_C_BA (w1 := w1) (w2 := w2) hs1 ?_ ?_ ?_; exact HG2.out; exact HL2.out; exact HL3.out) | (refine stolen_CB_A (w1 := w1) (w2 := w2) hs1 ?_ ?_ ?_; exact HG2.out; exact HL2.out; exact HL3.out) | (refine stolen_CBA_o (w1 := w1) (w2 := w2) hs1 ?_ ?_ ?_; exact HG2.out; exact HL2.out; exact HL3.out))
  case rest =>
    obtain ⟨k0, k1, k2, fa, ta, fc, tc, rfl, rfl, rfl, rfl, hk0, hk1, hk2, F0, F1, T2, L1, L2, G⟩ := hcut
    have hsc := G.size
    simp only [World.size_alloc] at hsc
    clear p0 p1 p2 p3 p4 p5 p6 p7 p8 p9 p10 p11 p12 s0 s1 s2 s3 s4 hI hI2 hI3
    have A1 := (HA1.out.alloc (.cells #[.int .i64 X.s, .int .i64 X.g, .int .u64 X.t] 27)).ch G (noB _)
    obtain ⟨p0, p1, p2, p3, p4, p5, p6, p7, p8, p9, p10, p11, p12⟩ := A1.cells
    obtain ⟨f0, f1, f2, f3, f4, f5, f6, f7, f8, f9, f10, f11, f12⟩ := A1.fz
    have lt0 : w.heap.size < wc.heap.size := A1.lt
    obtain ⟨c0, c1, c2, c3, c4⟩ := F0.cells
    obtain ⟨d0, d1, d2, d3, d4⟩ := F1.cells
    have e0 : ¬ k0 = w.heap.size := by omega
    have e1 : ¬ k1 = w.heap.size := by omega
    have e2 : ¬ w.heap.size = k0 := by omega
    have e3 : ¬ w.heap.size = k1 := by omega
    have HA1' := hid A1
    have HA3' := hid ((HA3.out.alloc (.cells #[.int .i64 X.s, .int .i64 X.g, .int .u64 X.t] 27)).ch G (noB _))
    have HT1 := hid ((Three.new w1 X).ch G (noB _))
    have HT2 := hid T2
    have HL1 := hid L1
    have HL2 := hid L2
    have HRF2 := hid ((HRF1.out.alloc (.cells #[.int .i64 X.s, .int .i64 X.g, .int .u64 X.t] 27)).ch G (noB _))
    have HRT2 := hid ((HRT1.out.alloc (.cells #[.int .i64 X.s, .int .i64 X.g, .int .u64 X.t] 27)).ch G (noB _))
    have HG2 := hid ((HG1.out.alloc _).trans G (fun _ e => e.elim))
    clear A1 F0 F1 T2 L1 L2 G
    go_wp2_with fail
    obtain ⟨w3, hw3⟩ : ∃ w3, w3 = ((((((((((wc).setCell ⟨w.heap.size, 7, none⟩ (.slice fa PP.length fc)).setCell ⟨w.heap.size, 8, none⟩ (.bool N.isSome)).setCell ⟨w.heap.size, 9, none⟩ (.int .i64 (N.getD W3.zero).s)).setCell ⟨w.heap.size, 10, none⟩ (.int .i64 (N.getD W3.zero).g)).setCell ⟨w.heap.size, 11, none⟩ (.int .u64 (N.getD W3.zero).t)).setCell ⟨w.heap.size, 2, none⟩ (.slice ta QQ.length tc)).setCell ⟨w.heap.size, 3, none⟩ (.bool nx.isSome)).setCell ⟨w.heap.size, 4, none⟩ (.int .i64 (nx.getD W3.zero).s)).setCell ⟨w.heap.size, 5, none⟩ (.int .i64 (nx.getD W3.zero).g)).setCell ⟨w.heap.size, 6, none⟩ (.int .u64 (nx.getD W3.zero).t) := ⟨_, rfl⟩
    have C3 : Ch (Only w.heap.size) wc w3 := by
      rw [hw3]
      exact Ch.own (Ch.own (Ch.own (Ch.own (Ch.own (Ch.own (Ch.own (Ch.own (Ch.own (Ch.own (Ch.refl _ _) _ _) _ _) _ _) _ _) _ _) _ _) _ _) _ _) _ _) _ _
    have B1 : Pair w3 w.heap.size #[.pointer (some ⟨b, 0, none⟩), .pointer (some ⟨c, 0, none⟩), .slice ta QQ.length tc, .bool nx.isSome, .int .i64 (nx.getD W3.zero).s, .int .i64 (nx.getD W3.zero).g, .int .u64 (nx.getD W3.zero).t, .slice fa PP.length fc, .bool N.isSome, .int .i64 (N.getD W3.zero).s, .int .i64 (N.getD W3.zero).g, .int .u64 (N.getD W3.zero).t, .int .i64 0] := by rw [hw3]; exact (HA1'.out.put1 _ _ _ _ _).put0 _ _ _ _ _
    rw [← hw3]
    clear hw3 p0 p1 p2 p3 p4 p5 p6 p7 p8 p9 p10 p11 p12 f0 f1 f2 f3 f4 f5 f6 f7 f8 f9 f10 f11 f12 c0 c1 c2 c3 c4 d0 d1 d2 d3 d4
    obtain ⟨p0, p1, p2, p3, p4, p5, p6, p7, p8, p9, p10, p11, p12⟩ := B1.cells
    obtain ⟨u0, u1, u2⟩ := (HT2.out.ch C3 (fun e => by have : k2 = w.heap.size := e; omega)).cells
    obtain ⟨t0, t1, t2⟩ := (HT1.out.ch C3 (fun e => by have : w1.heap.size = w.heap.size := e; omega)).cells
    have B3 := HA3'.out.ch C3 (fun e => by have : w.heap.size + 1 + 1 = w.heap.size := e; omega)
    obtain ⟨q0, q1, q2, q3, q4, q5, q6, q7, q8, q9, q10, q11, q12⟩ := B3.cells
    obtain ⟨f0, f1, f2, f3, f4, f5, f6, f7, f8, f9, f10, f11, f12⟩ := B3.fz
    have l3 := B3.lt
    have hb3 : ¬ Only w.heap.size b := fun e => by have : b = w.heap.size := e; omega
    have hc3 : ¬ Only w.heap.size c := fun e => by have : c = w.heap.size := e; omega
    have HC3 := hid C3
    have hCmp := fun w' => same_w3 X w'
    clear B1 B3 C3
    go_region_held3 (fun w' => w'.cell? ⟨w.heap.size, 0, none⟩ = some (.pointer (some ⟨b, 0, none⟩)) ∧ w'.cell? ⟨w.heap.size, 1, none⟩ = some (.pointer (some ⟨c, 0, none⟩)) ∧ w'.cell? ⟨w.heap.size, 2, none⟩ = some (.slice ta QQ.length tc) ∧ w'.cell? ⟨w.heap.size, 3, none⟩ = some (.bool nx.isSome) ∧ w'.cell? ⟨w.heap.size, 4, none⟩ = some (.int .i64 (nx.getD W3.zero).s) ∧ w'.cell? ⟨w.heap.size, 5, none⟩ = some (.int .i64 (nx.getD W3.zero).g) ∧ w'.cell? ⟨w.heap.size, 6, none⟩ = some (.int .u64 (nx.getD W3.zero).t) ∧ w'.cell? ⟨w.heap.size, 7, none⟩ = some (.slice fa PP.length fc) ∧ w'.cell? ⟨w.heap.size, 8, none⟩ = some (.bool N.isSome) ∧ w'.cell? ⟨w.heap.size, 9, none⟩ = some (.int .i64 (N.getD W3.zero).s) ∧ w'.cell? ⟨w.heap.size, 10, none⟩ = some (.int .i64 (N.getD W3.zero).g) ∧ w'.cell? ⟨w.heap.size, 11, none⟩ = some (.int .u64 (N.getD W3.zero).t) ∧ w'.cell? ⟨w.heap.size, 12, none⟩ = some (.int .i64 0) ∧ w'.cell? ⟨w1.heap.size, 0, none⟩ = some (.int .i64 X.s) ∧ w'.cell? ⟨w1.heap.size, 1, none⟩ = some (.int .i64 X.g) ∧ w'.cell? ⟨w1.heap.size, 2, none⟩ = some (.int .u64 X.t) ∧ w'.cell? ⟨k2, 0, none⟩ = some (.int .i64 X.s) ∧ w'.cell? ⟨k2, 1, none⟩ = some (.int .i64 X.g) ∧ w'.cell? ⟨k2, 2, none⟩ = some (.int .u64 X.t)) (first | (simp only [p0, p1, p2, p3, p4, p5, p6, p7, p8, p9, p10, p11, p12, t0, t1, t2, u0, u1, u2, and_self]; done) | (go_keep; done) | (refine ⟨?_, ?_, ?_, ?_, ?_, ?_, ?_, ?_, ?_, ?_, ?_, ?_, ?_, ?_, ?_, ?_, ?_, ?_, ?_⟩ <;> (go_simp; done)))
      (fail)
    all_goals go_wp2
    refine bodyPost_ret (v := .tuple #[.agg #[.pointer (some ⟨b, 0, none⟩), .pointer (some ⟨c, 0, none⟩), .slice ta QQ.length tc, .bool nx.isSome, .int .i64 (nx.getD W3.zero).s, .int .i64 (nx.getD W3.zero).g, .int .u64 (nx.getD W3.zero).t, .slice fa PP.length fc, .bool N.isSome, .int .i64 (N.getD W3.zero).s, .int .i64 (N.getD W3.zero).g, .int .u64 (N.getD W3.zero).t, .int .i64 0], .bool true]) (by simp [results, Try.results23, go_sem, q0, q1, q2, q3, q4, q5, q6, q7, q8, q9, q10, q11, q12]) rfl ?_
    have D : ∀ (wf : World), Ch (Only (w.heap.size + 1 + 1)) w3 wf → Out b c pk w (.returned (.tuple #[.agg #[.pointer (some ⟨b, 0, none⟩), .pointer (some ⟨c, 0, none⟩), .slice ta QQ.length tc, .bool nx.isSome, .int .i64 (nx.getD W3.zero).s, .int .i64 (nx.getD W3.zero).g, .int .u64 (nx.getD W3.zero).t, .slice fa PP.length fc, .bool N.isSome, .int .i64 (N.getD W3.zero).s, .int .i64 (N.getD W3.zero).g, .int .u64 (N.getD W3.zero).t, .int .i64 0], .bool true])) wf := by
      intro wf D
      have hb4 : ¬ Only (w.heap.size + 1 + 1) b := fun e => by have : b = w.heap.size + 1 + 1 := e; omega
      have hc4 : ¬ Only (w.heap.size + 1 + 1) c := fun e => by have : c = w.heap.size + 1 + 1 := e; omega
      have L1 := (((HL1.out.ch HC3.out (fun g _ h e => by have : g = w.heap.size := e; omega)).ch D (fun g _ h e => by have : g = w.heap.size + 1 + 1 := e; omega))).mono (Q := Av b c pk) (fun _ _ h => h.1)
      have L2 := (((HL2.out.ch HC3.out (fun g _ h e => by have : g = w.heap.size := e; omega)).ch D (fun g _ h e => by have : g = w.heap.size + 1 + 1 := e; omega))).mono (Q := Av b c pk) (fun _ _ h => h.1)
      have RF := HRF2.out.ch HC3.out hc3
      have RT := HRT2.out.ch HC3.out hb3
      have G := (HG2.out.trans HC3.out (fun q e => .inr (by have : q = w.heap.size := e; omega))).trans D (fun q e => .inr (by have : q = w.heap.size + 1 + 1 := e; omega))
      exact ⟨QQ, PP, nx, N, _, _, 0, rfl, by omega, RT.ch D hb4, RF.ch D hc4, L2, L1, G⟩
    refine D _ (Ch.drew ?_)
    repeat refine Ch.own ?_ _ _
    exact Ch.refl _ _

end Go.Proofs.Ytfodjkdioddbjab.Rg
