/-
  What 'calls' of the statements does at Ready. Condition: rings and lists are there.
-/
import Derived.Test.YtfodjkdioddbjabRgCalls
namespace Go.Proofs.Ytfodjkdioddbjab.Rg
open Go.RowKit
attribute [local go_sem ↓] Go.wp_at_zero Go.wp_at_succ

set_option maxHeartbeats 2000000 in
set_option maxRecDepth 20000 in
theorem calls_ready0 (b c pk : Nat) (u v : Value) (xs zs : List W3) (nx ny : Option W3) (x : W3) (w : World)
    (hb : RingAt w b xs nx) (hc : RingAt w c zs ny) (hlu : Lst (Av b c pk) w u xs) (hlv : Lst (Av b c pk) w v zs) (hpk : pk < w.heap.size) (hbc : b ≠ c) :
    Calls Try.prog 23 #[.agg #[.pointer (some ⟨b, 0, none⟩), .pointer (some ⟨c, 0, none⟩), u, .bool nx.isSome, .int .i64 (nx.getD W3.zero).s, .int .i64 (nx.getD W3.zero).g, .int .u64 (nx.getD W3.zero).t, v, .bool ny.isSome, .int .i64 (ny.getD W3.zero).s, .int .i64 (ny.getD W3.zero).g, .int .u64 (ny.getD W3.zero).t, .int .i64 0], .agg #[.int .i64 1, .int .i64 x.s, .int .i64 x.g, .int .u64 x.t]] w fun e w' => Out b c pk w e w' := by
  obtain ⟨ua, uc, rfl⟩ := hlu.form
  obtain ⟨va, vc, rfl⟩ := hlv.form
  have hb0 := hb.lt
  have hc0 := hc.lt
  have HB := hid hb
  have HC := hid hc
  have HU := hid hlu
  have HV := hid hlv
  clear hb hc hlu hlv
  go_enter Try.func23, Try.ntmps23
  go_wp2_with fail
  obtain ⟨F1, F2, F3, F4, G, hsz⟩ := four_laid w #[.pointer (some ⟨b, 0, none⟩), .pointer (some ⟨c, 0, none⟩), (.slice ua xs.length uc), .bool nx.isSome, .int .i64 (nx.getD W3.zero).s, .int .i64 (nx.getD W3.zero).g, .int .u64 (nx.getD W3.zero).t, (.slice va zs.length vc), .bool ny.isSome, .int .i64 (ny.getD W3.zero).s, .int .i64 (ny.getD W3.zero).g, .int .u64 (ny.getD W3.zero).t, .int .i64 0] 1 x (.slice ua xs.length uc) (.bool nx.isSome) (.int .i64 (nx.getD W3.zero).s) (.int .i64 (nx.getD W3.zero).g) (.int .u64 (nx.getD W3.zero).t) _ rfl
  have HRB := hid (HB.out.ch G (noB _))
  have HRC := hid (HC.out.ch G (noB _))
  have HLU := hid ((HU.out.mono (Q := (fun g => Av b c pk g ∧ g < w.heap.size)) (fun g h p => ⟨p, h⟩)).ch G (fun _ _ _ => noB _))
  have HLV := hid ((HV.out.mono (Q := (fun g => Av b c pk g ∧ g < w.heap.size)) (fun g h p => ⟨p, h⟩)).ch G (fun _ _ _ => noB _))
  have HF1 := hid F1
  have HF2 := hid F2
  have HF3 := hid F3
  have HF4 := hid F4
  have HG := hid G
  have HSZ := hid hsz
  clear F1 F2 F3 F4 G hsz HB HC HU HV
  refine (ready_any b x xs nx _ HRB.out).mono ?_
  rintro e w1 ⟨pl, rfl, l1, r1, g1⟩
  obtain ⟨la, lc, rfl⟩ := l1.form
  have hs1 : w.heap.size + 4 ≤ w1.heap.size := by have := g1.size; have := HSZ.out; omega
  have A2 := HF2.out.ch g1 (fun e => by have : w.heap.size + 1 = b := e; omega)
  obtain ⟨o0, o1, o2, o3⟩ := A2.cells
  have A4 := HF4.out.ch g1 (fun e => by have : w.heap.size + 1 + 1 + 1 = b := e; omega)
  obtain ⟨s0, s1, s2, s3, s4⟩ := A4.cells
  have HF1' := hid (HF1.out.ch g1 (fun e => by have : w.heap.size = b := e; omega))
  have HF3' := hid (HF3.out.ch g1 (fun e => by have : w.heap.size + 1 + 1 = b := e; omega))
  have HLU1 := hid (HLU.out.ch g1 (fun g _ h e => h.1.1 e))
  have HLV1 := hid (HLV.out.ch g1 (fun g _ h e => h.1.1 e))
  have HRN := hid r1
  have HRO := hid (HRC.out.ch g1 (fun e => hbc (e : c = b).symm))
  have HL1 := hid (l1.mono (Q := (fun g => w.heap.size + 4 ≤ g ∧ g < w1.heap.size)) (fun g h p => ⟨by have := HSZ.out; omega, h⟩))
  have HG1 := hid ((HG.out.any (S := Two b c)).trans g1 (fun _ e => .inl (.inl e)))
  have h64 := HRB.out.len
  have H64 := hid h64
  clear A2 A4 l1 r1 g1 h64
  go_wp2_with fail
  refine (rready_nx (fun g => Av b c pk g ∧ g < w.heap.size) _ xs nx x _ HLU1.out H64.out).mono ?_
  rintro e w2 ⟨v2, k2, rfl, l2, l3, g2⟩
  obtain ⟨ra, rc, rfl⟩ := l2.form
  obtain ⟨ka, kc, rfl⟩ := l3.form
  have hs2 := g2.size
  have A1 := HF1'.out.ch g2 (noB _)
  obtain ⟨p0, p1, p2, p3, p4, p5, p6, p7, p8, p9, p10, p11, p12⟩ := A1.cells
  obtain ⟨f0, f1, f2, f3, f4, f5, f6, f7, f8, f9, f10, f11, f12⟩ := A1.fz
  have HA1 := hid A1
  have hlA := A1.lt
  have HA3 := hid (HF3'.out.ch g2 (noB _))
  have HLN := hid (l2.mono (Q := (fun g => Av b c pk g ∧ (g < w.heap.size ∨ w.heap.size + 4 ≤ g))) (fun g h p => by rcases p with p | p; exact ⟨p.1, .inl p.2⟩; exact ⟨⟨by omega, by omega, by omega⟩, .inr (by omega)⟩))
  have HLO := hid ((HLV1.out.ch g2 (fun _ _ _ => noB _)).mono (Q := (fun g => Av b c pk g ∧ (g < w.heap.size ∨ w.heap.size + 4 ≤ g))) (fun g h p => ⟨p.1, .inl p.2⟩))
  have HRN2 := hid (HRN.out.ch g2 (noB _))
  have HRO2 := hid (HRO.out.ch g2 (noB _))
  have HL12 := hid (HL1.out.ch g2 (fun _ _ _ => noB _))
  have HLK := hid l3
  have HG2 := hid (HG1.out.trans g2 (fun _ e => e.elim))
  have HG12 := hid g2
  clear l2 l3 g2 A1
  go_wp2_with fail
  obtain ⟨w3, hw3⟩ : ∃ w3, w3 = (((((w2.setCell ⟨w.heap.size, 2, none⟩ (.slice ra (readyP xs nx x).length rc)).setCell ⟨w.heap.size, 3, none⟩ (.bool (readyN xs nx x).isSome)).setCell ⟨w.heap.size, 4, none⟩ (.int .i64 ((readyN xs nx x).getD W3.zero).s)).setCell ⟨w.heap.size, 5, none⟩ (.int .i64 ((readyN xs nx x).getD W3.zero).g)).setCell ⟨w.heap.size, 6, none⟩ (.int .u64 ((readyN xs nx x).getD W3.zero).t)).alloc (.cells #[.slice ra (readyP xs nx x).length rc, .bool (readyN xs nx x).isSome, .int .i64 ((readyN xs nx x).getD W3.zero).s, .int .i64 ((readyN xs nx x).getD W3.zero).g, .int .u64 ((readyN xs nx x).getD W3.zero).t] 29) := ⟨_, rfl⟩
  have C3 : Ch (Only w.heap.size) w2 w3 := by
    rw [hw3]
    refine Ch.alloc ?_ _
    repeat refine Ch.own ?_ _ _
    exact Ch.refl _ _
  have B1 : Pair w3 w.heap.size #[.pointer (some ⟨b, 0, none⟩), .pointer (some ⟨c, 0, none⟩), .slice ra (readyP xs nx x).length rc, .bool (readyN xs nx x).isSome, .int .i64 ((readyN xs nx x).getD W3.zero).s, .int .i64 ((readyN xs nx x).getD W3.zero).g, .int .u64 ((readyN xs nx x).getD W3.zero).t, .slice va zs.length vc, .bool ny.isSome, .int .i64 (ny.getD W3.zero).s, .int .i64 (ny.getD W3.zero).g, .int .u64 (ny.getD W3.zero).t, .int .i64 0] := by rw [hw3]; exact (HA1.out.put0 _ _ _ _ _).alloc _
  rw [← hw3]
  clear hw3 p0 p1 p2 p3 p4 p5 p6 p7 p8 p9 p10 p11 p12 f0 f1 f2 f3 f4 f5 f6 f7 f8 f9 f10 f11 f12
  obtain ⟨p0, p1, p2, p3, p4, p5, p6, p7, p8, p9, p10, p11, p12⟩ := B1.cells
  have B3 : Pair w3 (w.heap.size + 1 + 1) #[.pointer none, .pointer none, .slice none 0 0, .bool false, .int .i64 0, .int .i64 0, .int .u64 0, .slice none 0 0, .bool false, .int .i64 0, .int .i64 0, .int .u64 0, .int .i64 0] := HA3.out.ch C3 (fun e => by have : w.heap.size + 1 + 1 = w.heap.size := e; omega)
  obtain ⟨q0, q1, q2, q3, q4, q5, q6, q7, q8, q9, q10, q11, q12⟩ := B3.cells
  obtain ⟨f0, f1, f2, f3, f4, f5, f6, f7, f8, f9, f10, f11, f12⟩ := B3.fz
  have l3 := B3.lt
  have HB1 := hid B1
  have HC3 := hid C3
  have HL13 := hid (HL12.out.ch C3 (fun g _ h e => by have : g = w.heap.size := e; omega))
  have HLK3 := hid (HLK.out.ch C3 (fun g _ h e => by have : g = w.heap.size := e; omega))
  clear B1 B3 C3
  have hne : ¬ (w.heap.size = w.heap.size + 1 + 1) ∧ ¬ (w.heap.size + 1 + 1 = w.heap.size) := by omega
  go_region_held3 (fun w' => w'.cell? ⟨w.heap.size, 0, none⟩ = some (.pointer (some ⟨b, 0, none⟩)) ∧ w'.cell? ⟨w.heap.size, 1, none⟩ = some (.pointer (some ⟨c, 0, none⟩)) ∧ w'.cell? ⟨w.heap.size, 2, none⟩ = some (.slice ra (readyP xs nx x).length rc) ∧ w'.cell? ⟨w.heap.size, 3, none⟩ = some (.bool (readyN xs nx x).isSome) ∧ w'.cell? ⟨w.heap.size, 4, none⟩ = some (.int .i64 ((readyN xs nx x).getD W3.zero).s) ∧ w'.cell? ⟨w.heap.size, 5, none⟩ = some (.int .i64 ((readyN xs nx x).getD W3.zero).g) ∧ w'.cell? ⟨w.heap.size, 6, none⟩ = some (.int .u64 ((readyN xs nx x).getD W3.zero).t) ∧ w'.cell? ⟨w.heap.size, 7, none⟩ = some (.slice va zs.length vc) ∧ w'.cell? ⟨w.heap.size, 8, none⟩ = some (.bool ny.isSome) ∧ w'.cell? ⟨w.heap.size, 9, none⟩ = some (.int .i64 (ny.getD W3.zero).s) ∧ w'.cell? ⟨w.heap.size, 10, none⟩ = some (.int .i64 (ny.getD W3.zero).g) ∧ w'.cell? ⟨w.heap.size, 11, none⟩ = some (.int .u64 (ny.getD W3.zero).t) ∧ w'.cell? ⟨w.heap.size, 12, none⟩ = some (.int .i64 0)) (first | (simp only [p0, p1, p2, p3, p4, p5, p6, p7, p8, p9, p10, p11, p12, and_self]; done) | (go_keep; done) | (refine ⟨?_, ?_, ?_, ?_, ?_, ?_, ?_, ?_, ?_, ?_, ?_, ?_, ?_⟩ <;> (go_simp; done)))
    (first | (go_at_call 14; refine (sameList_eq _ _ _ _ (readyL xs nx x) _ HL13.out.drew HLK3.out.drew (by have := readyL_len xs nx x; omega)).mono ?_; rintro e w5 ⟨rfl, m5, rfl⟩))
  all_goals go_wp2
  refine bodyPost_ret (v := .tuple #[.agg #[.pointer (some ⟨b, 0, none⟩), .pointer (some ⟨c, 0, none⟩), .slice ra (readyP xs nx x).length rc, .bool (readyN xs nx x).isSome, .int .i64 ((readyN xs nx x).getD W3.zero).s, .int .i64 ((readyN xs nx x).getD W3.zero).g, .int .u64 ((readyN xs nx x).getD W3.zero).t, .slice va zs.length vc, .bool ny.isSome, .int .i64 (ny.getD W3.zero).s, .int .i64 (ny.getD W3.zero).g, .int .u64 (ny.getD W3.zero).t, .int .i64 0], .bool true]) (by simp [results, Try.results23, go_sem, q0, q1, q2, q3, q4, q5, q6, q7, q8, q9, q10, q11, q12]) rfl ?_
  have D : ∀ (wf : World), Ch (Only (w.heap.size + 1 + 1)) w3 wf → Out b c pk w (.returned (.tuple #[.agg #[.pointer (some ⟨b, 0, none⟩), .pointer (some ⟨c, 0, none⟩), .slice ra (readyP xs nx x).length rc, .bool (readyN xs nx x).isSome, .int .i64 ((readyN xs nx x).getD W3.zero).s, .int .i64 ((readyN xs nx x).getD W3.zero).g, .int .u64 ((readyN xs nx x).getD W3.zero).t, .slice va zs.length vc, .bool ny.isSome, .int .i64 (ny.getD W3.zero).s, .int .i64 (ny.getD W3.zero).g, .int .u64 (ny.getD W3.zero).t, .int .i64 0], .bool true])) wf := by
    intro wf D
    have hb3 : ¬ Only w.heap.size b := fun e => by have : b = w.heap.size := e; omega
    have hb4 : ¬ Only (w.heap.size + 1 + 1) b := fun e => by have : b = w.heap.size + 1 + 1 := e; omega
    have hc3 : ¬ Only w.heap.size c := fun e => by have : c = w.heap.size := e; omega
    have hc4 : ¬ Only (w.heap.size + 1 + 1) c := fun e => by have : c = w.heap.size + 1 + 1 := e; omega
    have L1 := (((HLN.out.ch HC3.out (fun g _ h e => by have : g = w.heap.size := e; omega)).ch D (fun g _ h e => by have : g = w.heap.size + 1 + 1 := e; omega))).mono (Q := Av b c pk) (fun _ _ h => h.1)
    have L2 := (((HLO.out.ch HC3.out (fun g _ h e => by have : g = w.heap.size := e; omega)).ch D (fun g _ h e => by have : g = w.heap.size + 1 + 1 := e; omega))).mono (Q := Av b c pk) (fun _ _ h => h.1)
    have G := (HG2.out.trans HC3.out (fun q e => .inr (by have : q = w.heap.size := e; omega))).trans D (fun q e => .inr (by have : q = w.heap.size + 1 + 1 := e; omega))
    exact ⟨readyP xs nx x, zs, (readyN xs nx x), ny, _, _, 0, rfl, by omega, (HRN2.out.ch HC3.out hb3).ch D hb4, (HRO2.out.ch HC3.out hc3).ch D hc4, L1, L2, G⟩
  refine D _ ?_
  repeat refine Ch.own ?_ _ _
  exact (Ch.refl _ _).drewN _

set_option maxHeartbeats 2000000 in
set_option maxRecDepth 20000 in
theorem calls_ready1 (b c pk : Nat) (u v : Value) (xs zs : List W3) (nx ny : Option W3) (x : W3) (w : World)
    (hb : RingAt w b xs nx) (hc : RingAt w c zs ny) (hlu : Lst (Av b c pk) w u xs) (hlv : Lst (Av b c pk) w v zs) (hpk : pk < w.heap.size) (hbc : b ≠ c) :
    Calls Try.prog 23 #[.agg #[.pointer (some ⟨b, 0, none⟩), .pointer (some ⟨c, 0, none⟩), u, .bool nx.isSome, .int .i64 (nx.getD W3.zero).s, .int .i64 (nx.getD W3.zero).g, .int .u64 (nx.getD W3.zero).t, v, .bool ny.isSome, .int .i64 (ny.getD W3.zero).s, .int .i64 (ny.getD W3.zero).g, .int .u64 (ny.getD W3.zero).t, .int .i64 1], .agg #[.int .i64 1, .int .i64 x.s, .int .i64 x.g, .int .u64 x.t]] w fun e w' => Out b c pk w e w' := by
  obtain ⟨ua, uc, rfl⟩ := hlu.form
  obtain ⟨va, vc, rfl⟩ := hlv.form
  have hb0 := hb.lt
  have hc0 := hc.lt
  have HB := hid hb
  have HC := hid hc
  have HU := hid hlu
  have HV := hid hlv
  clear hb hc hlu hlv
  go_enter Try.func23, Try.ntmps23
  go_wp2_with fail
  obtain ⟨F1, F2, F3, F4, G, hsz⟩ := four_laid w #[.pointer (some ⟨b, 0, none⟩), .pointer (some ⟨c, 0, none⟩), (.slice ua xs.length uc), .bool nx.isSome, .int .i64 (nx.getD W3.zero).s, .int .i64 (nx.getD W3.zero).g, .int .u64 (nx.getD W3.zero).t, (.slice va zs.length vc), .bool ny.isSome, .int .i64 (ny.getD W3.zero).s, .int .i64 (ny.getD W3.zero).g, .int .u64 (ny.getD W3.zero).t, .int .i64 1] 1 x (.slice va zs.length vc) (.bool ny.isSome) (.int .i64 (ny.getD W3.zero).s) (.int .i64 (ny.getD W3.zero).g) (.int .u64 (ny.getD W3.zero).t) _ rfl
  have HRB := hid (HB.out.ch G (noB _))
  have HRC := hid (HC.out.ch G (noB _))
  have HLU := hid ((HU.out.mono (Q := (fun g => Av b c pk g ∧ g < w.heap.size)) (fun g h p => ⟨p, h⟩)).ch G (fun _ _ _ => noB _))
  have HLV := hid ((HV.out.mono (Q := (fun g => Av b c pk g ∧ g < w.heap.size)) (fun g h p => ⟨p, h⟩)).ch G (fun _ _ _ => noB _))
  have HF1 := hid F1
  have HF2 := hid F2
  have HF3 := hid F3
  have HF4 := hid F4
  have HG := hid G
  have HSZ := hid hsz
  clear F1 F2 F3 F4 G hsz HB HC HU HV
  refine (ready_any c x zs ny _ HRC.out).mono ?_
  rintro e w1 ⟨pl, rfl, l1, r1, g1⟩
  obtain ⟨la, lc, rfl⟩ := l1.form
  have hs1 : w.heap.size + 4 ≤ w1.heap.size := by have := g1.size; have := HSZ.out; omega
  have A2 := HF2.out.ch g1 (fun e => by have : w.heap.size + 1 = c := e; omega)
  obtain ⟨o0, o1, o2, o3⟩ := A2.cells
  have A4 := HF4.out.ch g1 (fun e => by have : w.heap.size + 1 + 1 + 1 = c := e; omega)
  obtain ⟨s0, s1, s2, s3, s4⟩ := A4.cells
  have HF1' := hid (HF1.out.ch g1 (fun e => by have : w.heap.size = c := e; omega))
  have HF3' := hid (HF3.out.ch g1 (fun e => by have : w.heap.size + 1 + 1 = c := e; omega))
  have HLU1 := hid (HLU.out.ch g1 (fun g _ h e => h.1.2 e))
  have HLV1 := hid (HLV.out.ch g1 (fun g _ h e => h.1.2 e))
  have HRN := hid r1
  have HRO := hid (HRB.out.ch g1 (fun e => hbc e))
  have HL1 := hid (l1.mono (Q := (fun g => w.heap.size + 4 ≤ g ∧ g < w1.heap.size)) (fun g h p => ⟨by have := HSZ.out; omega, h⟩))
  have HG1 := hid ((HG.out.any (S := Two b c)).trans g1 (fun _ e => .inl (.inr e)))
  have h64 := HRC.out.len
  have H64 := hid h64
  clear A2 A4 l1 r1 g1 h64
  go_wp2_with fail
  refine (rready_nx (fun g => Av b c pk g ∧ g < w.heap.size) _ zs ny x _ HLV1.out H64.out).mono ?_
  rintro e w2 ⟨v2, k2, rfl, l2, l3, g2⟩
  obtain ⟨ra, rc, rfl⟩ := l2.form
  obtain ⟨ka, kc, rfl⟩ := l3.form
  have hs2 := g2.size
  have A1 := HF1'.out.ch g2 (noB _)
  obtain ⟨p0, p1, p2, p3, p4, p5, p6, p7, p8, p9, p10, p11, p12⟩ := A1.cells
  obtain ⟨f0, f1, f2, f3, f4, f5, f6, f7, f8, f9, f10, f11, f12⟩ := A1.fz
  have HA1 := hid A1
  have hlA := A1.lt
  have HA3 := hid (HF3'.out.ch g2 (noB _))
  have HLN := hid (l2.mono (Q := (fun g => Av b c pk g ∧ (g < w.heap.size ∨ w.heap.size + 4 ≤ g))) (fun g h p => by rcases p with p | p; exact ⟨p.1, .inl p.2⟩; exact ⟨⟨by omega, by omega, by omega⟩, .inr (by omega)⟩))
  have HLO := hid ((HLU1.out.ch g2 (fun _ _ _ => noB _)).mono (Q := (fun g => Av b c pk g ∧ (g < w.heap.size ∨ w.heap.size + 4 ≤ g))) (fun g h p => ⟨p.1, .inl p.2⟩))
  have HRN2 := hid (HRN.out.ch g2 (noB _))
  have HRO2 := hid (HRO.out.ch g2 (noB _))
  have HL12 := hid (HL1.out.ch g2 (fun _ _ _ => noB _))
  have HLK := hid l3
  have HG2 := hid (HG1.out.trans g2 (fun _ e => e.elim))
  have HG12 := hid g2
  clear l2 l3 g2 A1
  go_wp2_with fail
  obtain ⟨w3, hw3⟩ : ∃ w3, w3 = (((((w2.setCell ⟨w.heap.size, 7, none⟩ (.slice ra (readyP zs ny x).length rc)).setCell ⟨w.heap.size, 8, none⟩ (.bool (readyN zs ny x).isSome)).setCell ⟨w.heap.size, 9, none⟩ (.int .i64 ((readyN zs ny x).getD W3.zero).s)).setCell ⟨w.heap.size, 10, none⟩ (.int .i64 ((readyN zs ny x).getD W3.zero).g)).setCell ⟨w.heap.size, 11, none⟩ (.int .u64 ((readyN zs ny x).getD W3.zero).t)).alloc (.cells #[.slice ra (readyP zs ny x).length rc, .bool (readyN zs ny x).isSome, .int .i64 ((readyN zs ny x).getD W3.zero).s, .int .i64 ((readyN zs ny x).getD W3.zero).g, .int .u64 ((readyN zs ny x).getD W3.zero).t] 29) := ⟨_, rfl⟩
  have C3 : Ch (Only w.heap.size) w2 w3 := by
    rw [hw3]
    refine Ch.alloc ?_ _
    repeat refine Ch.own ?_ _ _
    exact Ch.refl _ _
  have B1 : Pair w3 w.heap.size #[.pointer (some ⟨b, 0, none⟩), .pointer (some ⟨c, 0, none⟩), .slice ua xs.length uc, .bool nx.isSome, .int .i64 (nx.getD W3.zero).s, .int .i64 (nx.getD W3.zero).g, .int .u64 (nx.getD W3.zero).t, .slice ra (readyP zs ny x).length rc, .bool (readyN zs ny x).isSome, .int .i64 ((readyN zs ny x).getD W3.zero).s, .int .i64 ((readyN zs ny x).getD W3.zero).g, .int .u64 ((readyN zs ny x).getD W3.zero).t, .int .i64 1] := by rw [hw3]; exact (HA1.out.put1 _ _ _ _ _).alloc _
  rw [← hw3]
  clear hw3 p0 p1 p2 p3 p4 p5 p6 p7 p8 p9 p10 p11 p12 f0 f1 f2 f3 f4 f5 f6 f7 f8 f9 f10 f11 f12
  obtain ⟨p0, p1, p2, p3, p4, p5, p6, p7, p8, p9, p10, p11, p12⟩ := B1.cells
  have B3 : Pair w3 (w.heap.size + 1 + 1) #[.pointer none, .pointer none, .slice none 0 0, .bool false, .int .i64 0, .int .i64 0, .int .u64 0, .slice none 0 0, .bool false, .int .i64 0, .int .i64 0, .int .u64 0, .int .i64 0] := HA3.out.ch C3 (fun e => by have : w.heap.size + 1 + 1 = w.heap.size := e; omega)
  obtain ⟨q0, q1, q2, q3, q4, q5, q6, q7, q8, q9, q10, q11, q12⟩ := B3.cells
  obtain ⟨f0, f1, f2, f3, f4, f5, f6, f7, f8, f9, f10, f11, f12⟩ := B3.fz
  have l3 := B3.lt
  have HB1 := hid B1
  have HC3 := hid C3
  have HL13 := hid (HL12.out.ch C3 (fun g _ h e => by have : g = w.heap.size := e; omega))
  have HLK3 := hid (HLK.out.ch C3 (fun g _ h e => by have : g = w.heap.size := e; omega))
  clear B1 B3 C3
  have hne : ¬ (w.heap.size = w.heap.size + 1 + 1) ∧ ¬ (w.heap.size + 1 + 1 = w.heap.size) := by omega
  go_region_held3 (fun w' => w'.cell? ⟨w.heap.size, 0, none⟩ = some (.pointer (some ⟨b, 0, none⟩)) ∧ w'.cell? ⟨w.heap.size, 1, none⟩ = some (.pointer (some ⟨c, 0, none⟩)) ∧ w'.cell? ⟨w.heap.size, 2, none⟩ = some (.slice ua xs.length uc) ∧ w'.cell? ⟨w.heap.size, 3, none⟩ = some (.bool nx.isSome) ∧ w'.cell? ⟨w.heap.size, 4, none⟩ = some (.int .i64 (nx.getD W3.zero).s) ∧ w'.cell? ⟨w.heap.size, 5, none⟩ = some (.int .i64 (nx.getD W3.zero).g) ∧ w'.cell? ⟨w.heap.size, 6, none⟩ = some (.int .u64 (nx.getD W3.zero).t) ∧ w'.cell? ⟨w.heap.size, 7, none⟩ = some (.slice ra (readyP zs ny x).length rc) ∧ w'.cell? ⟨w.heap.size, 8, none⟩ = some (.bool (readyN zs ny x).isSome) ∧ w'.cell? ⟨w.heap.size, 9, none⟩ = some (.int .i64 ((readyN zs ny x).getD W3.zero).s) ∧ w'.cell? ⟨w.heap.size, 10, none⟩ = some (.int .i64 ((readyN zs ny x).getD W3.zero).g) ∧ w'.cell? ⟨w.heap.size, 11, none⟩ = some (.int .u64 ((readyN zs ny x).getD W3.zero).t) ∧ w'.cell? ⟨w.heap.size, 12, none⟩ = some (.int .i64 1)) (first | (simp only [p0, p1, p2, p3, p4, p5, p6, p7, p8, p9, p10, p11, p12, and_self]; done) | (go_keep; done) | (refine ⟨?_, ?_, ?_, ?_, ?_, ?_, ?_, ?_, ?_, ?_, ?_, ?_, ?_⟩ <;> (go_simp; done)))
    (first | (go_at_call 14; refine (sameList_eq _ _ _ _ (readyL zs ny x) _ HL13.out.drew HLK3.out.drew (by have := readyL_len zs ny x; omega)).mono ?_; rintro e w5 ⟨rfl, m5, rfl⟩))
  all_goals go_wp2
  refine bodyPost_ret (v := .tuple #[.agg #[.pointer (some ⟨b, 0, none⟩), .pointer (some ⟨c, 0, none⟩), .slice ua xs.length uc, .bool nx.isSome, .int .i64 (nx.getD W3.zero).s, .int .i64 (nx.getD W3.zero).g, .int .u64 (nx.getD W3.zero).t, .slice ra (readyP zs ny x).length rc, .bool (readyN zs ny x).isSome, .int .i64 ((readyN zs ny x).getD W3.zero).s, .int .i64 ((readyN zs ny x).getD W3.zero).g, .int .u64 ((readyN zs ny x).getD W3.zero).t, .int .i64 1], .bool true]) (by simp [results, Try.results23, go_sem, q0, q1, q2, q3, q4, q5, q6, q7, q8, q9, q10, q11, q12]) rfl ?_
  have D : ∀ (wf : World), Ch (Only (w.heap.size + 1 + 1)) w3 wf → Out b c pk w (.returned (.tuple #[.agg #[.pointer (some ⟨b, 0, none⟩), .pointer (some ⟨c, 0, none⟩), .slice ua xs.length uc, .bool nx.isSome, .int .i64 (nx.getD W3.zero).s, .int .i64 (nx.getD W3.zero).g, .int .u64 (nx.getD W3.zero).t, .slice ra (readyP zs ny x).length rc, .bool (readyN zs ny x).isSome, .int .i64 ((readyN zs ny x).getD W3.zero).s, .int .i64 ((readyN zs ny x).getD W3.zero).g, .int .u64 ((readyN zs ny x).getD W3.zero).t, .int .i64 1], .bool true])) wf := by
    intro wf D
    have hb3 : ¬ Only w.heap.size b := fun e => by have : b = w.heap.size := e; omega
    have hb4 : ¬ Only (w.heap.size + 1 + 1) b := fun e => by have : b = w.heap.size + 1 + 1 := e; omega
    have hc3 : ¬ Only w.heap.size c := fun e => by have : c = w.heap.size := e; omega
    have hc4 : ¬ Only (w.heap.size + 1 + 1) c := fun e => by have : c = w.heap.size + 1 + 1 := e; omega
    have L1 := (((HLN.out.ch HC3.out (fun g _ h e => by have : g = w.heap.size := e; omega)).ch D (fun g _ h e => by have : g = w.heap.size + 1 + 1 := e; omega))).mono (Q := Av b c pk) (fun _ _ h => h.1)
    have L2 := (((HLO.out.ch HC3.out (fun g _ h e => by have : g = w.heap.size := e; omega)).ch D (fun g _ h e => by have : g = w.heap.size + 1 + 1 := e; omega))).mono (Q := Av b c pk) (fun _ _ h => h.1)
    have G := (HG2.out.trans HC3.out (fun q e => .inr (by have : q = w.heap.size := e; omega))).trans D (fun q e => .inr (by have : q = w.heap.size + 1 + 1 := e; omega))
    exact ⟨xs, readyP zs ny x, nx, (readyN zs ny x), _, _, 1, rfl, by omega, (HRO2.out.ch HC3.out hb3).ch D hb4, (HRN2.out.ch HC3.out hc3).ch D hc4, L2, L1, G⟩
  refine D _ ?_
  repeat refine Ch.own ?_ _ _
  exact (Ch.refl _ _).drewN _

end Go.Proofs.Ytfodjkdioddbjab.Rg
