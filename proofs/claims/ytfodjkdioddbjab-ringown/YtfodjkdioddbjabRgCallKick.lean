/-
  What 'calls' of the statements does at Kick. Condition: rings and lists are there.
-/
import Derived.Test.YtfodjkdioddbjabRgCalls
namespace Go.Proofs.Ytfodjkdioddbjab.Rg
open Go.RowKit
attribute [local go_sem ↓] Go.wp_at_zero Go.wp_at_succ

set_option maxHeartbeats 2000000 in
set_option maxRecDepth 20000 in
theorem calls_kick0 (b c pk : Nat) (u v : Value) (xs zs : List W3) (nx ny : Option W3) (x : W3) (w : World)
    (hb : RingAt w b xs nx) (hc : RingAt w c zs ny) (hlu : Lst (Av b c pk) w u xs) (hlv : Lst (Av b c pk) w v zs) (hpk : pk < w.heap.size) (hbc : b ≠ c) :
    Calls Try.prog 23 #[.agg #[.pointer (some ⟨b, 0, none⟩), .pointer (some ⟨c, 0, none⟩), u, .bool nx.isSome, .int .i64 (nx.getD W3.zero).s, .int .i64 (nx.getD W3.zero).g, .int .u64 (nx.getD W3.zero).t, v, .bool ny.isSome, .int .i64 (ny.getD W3.zero).s, .int .i64 (ny.getD W3.zero).g, .int .u64 (ny.getD W3.zero).t, .int .i64 0], .agg #[.int .i64 2, .int .i64 x.s, .int .i64 x.g, .int .u64 x.t]] w fun e w' => Out b c pk w e w' := by
  obtain ⟨ua, uc, rfl⟩ := hlu.form
  obtain ⟨va, vc, rfl⟩ := hlv.form
  have hb0 := hb.lt
  have hc0 := hc.lt
  have HB := hid hb
  have HC := hid hc
  have HU := hid hlu
  have HV := hid hlv
  clear hb hc hlu hlv
  go_enter Try.func23, Try.ntmps23
  go_wp2_with fail
  obtain ⟨F1, F2, F3, F4, G, hsz⟩ := four_laid w #[.pointer (some ⟨b, 0, none⟩), .pointer (some ⟨c, 0, none⟩), (.slice ua xs.length uc), .bool nx.isSome, .int .i64 (nx.getD W3.zero).s, .int .i64 (nx.getD W3.zero).g, .int .u64 (nx.getD W3.zero).t, (.slice va zs.length vc), .bool ny.isSome, .int .i64 (ny.getD W3.zero).s, .int .i64 (ny.getD W3.zero).g, .int .u64 (ny.getD W3.zero).t, .int .i64 0] 2 x (.slice ua xs.length uc) (.bool nx.isSome) (.int .i64 (nx.getD W3.zero).s) (.int .i64 (nx.getD W3.zero).g) (.int .u64 (nx.getD W3.zero).t) _ rfl
  have HRB := hid (HB.out.ch G (noB _))
  have HRC := hid (HC.out.ch G (noB _))
  have HLU := hid ((HU.out.mono (Q := (fun g => Av b c pk g ∧ g < w.heap.size)) (fun g h p => ⟨p, h⟩)).ch G (fun _ _ _ => noB _))
  have HLV := hid ((HV.out.mono (Q := (fun g => Av b c pk g ∧ g < w.heap.size)) (fun g h p => ⟨p, h⟩)).ch G (fun _ _ _ => noB _))
  have HF1 := hid F1
  have HF3 := hid F3
  have HG := hid G
  have HSZ := hid hsz
  have h64 := HRB.out.len
  have H64 := hid h64
  clear F1 F2 F3 F4 G hsz HB HC HU HV h64
  refine (rkick_nx (fun g => Av b c pk g ∧ g < w.heap.size) _ xs nx _ HLU.out H64.out).mono ?_
  rintro e w2 ⟨v2, k2, rfl, l2, l3, g2⟩
  obtain ⟨ra, rc, rfl⟩ := l2.form
  obtain ⟨ka, kc, rfl⟩ := l3.form
  have hs2 : w.heap.size + 4 ≤ w2.heap.size := by have := g2.size; have := HSZ.out; omega
  have A1 := HF1.out.ch g2 (noB _)
  obtain ⟨p0, p1, p2, p3, p4, p5, p6, p7, p8, p9, p10, p11, p12⟩ := A1.cells
  obtain ⟨f0, f1, f2, f3, f4, f5, f6, f7, f8, f9, f10, f11, f12⟩ := A1.fz
  have HA1 := hid A1
  have hlA := A1.lt
  have HA3 := hid (HF3.out.ch g2 (noB _))
  have HLN := hid (l2.mono (Q := (fun g => Av b c pk g ∧ (g < w.heap.size ∨ w.heap.size + 4 ≤ g))) (fun g h p => by have := HSZ.out; rcases p with p | p; exact ⟨p.1, .inl p.2⟩; exact ⟨⟨by omega, by omega, by omega⟩, .inr (by omega)⟩))
  have HLO := hid ((HLV.out.ch g2 (fun _ _ _ => noB _)).mono (Q := (fun g => Av b c pk g ∧ (g < w.heap.size ∨ w.heap.size + 4 ≤ g))) (fun g h p => ⟨p.1, .inl p.2⟩))
  have HRN2 := hid (HRB.out.ch g2 (noB _))
  have HRO2 := hid (HRC.out.ch g2 (noB _))
  have HLK := hid (l3.mono (Q := (w.heap.size + 4 ≤ ·)) (fun g h p => by have := HSZ.out; omega))
  have HG2 := hid (HG.out.trans' g2)
  clear l2 l3 g2 A1
  go_wp2_with fail
  obtain ⟨w3, hw3⟩ : ∃ w3, w3 = (((((w2.setCell ⟨w.heap.size, 2, none⟩ (.slice ra (kickP xs nx).length rc)).setCell ⟨w.heap.size, 3, none⟩ (.bool false)).setCell ⟨w.heap.size, 4, none⟩ (.int .i64 0)).setCell ⟨w.heap.size, 5, none⟩ (.int .i64 0)).setCell ⟨w.heap.size, 6, none⟩ (.int .u64 0)).alloc (.cells #[.slice ra (kickP xs nx).length rc, .bool false, .int .i64 0, .int .i64 0, .int .u64 0] 29) := ⟨_, rfl⟩
  have C3 : Ch (Only w.heap.size) w2 w3 := by
    rw [hw3]
    refine Ch.alloc ?_ _
    repeat refine Ch.own ?_ _ _
    exact Ch.refl _ _
  have B1 : Pair w3 w.heap.size #[.pointer (some ⟨b, 0, none⟩), .pointer (some ⟨c, 0, none⟩), .slice ra (kickP xs nx).length rc, .bool false, .int .i64 0, .int .i64 0, .int .u64 0, .slice va zs.length vc, .bool ny.isSome, .int .i64 (ny.getD W3.zero).s, .int .i64 (ny.getD W3.zero).g, .int .u64 (ny.getD W3.zero).t, .int .i64 0] := by rw [hw3]; exact (HA1.out.put0 _ _ _ _ _).alloc _
  rw [← hw3]
  clear hw3 p0 p1 p2 p3 p4 p5 p6 p7 p8 p9 p10 p11 p12 f0 f1 f2 f3 f4 f5 f6 f7 f8 f9 f10 f11 f12
  obtain ⟨p0, p1, p2, p3, p4, p5, p6, p7, p8, p9, p10, p11, p12⟩ := B1.cells
  have hb3 : ¬ Only w.heap.size b := fun e => by have : b = w.heap.size := e; omega
  have hc3 : ¬ Only w.heap.size c := fun e => by have : c = w.heap.size := e; omega
  have HB3 := hid (HA3.out.ch C3 (fun e => by have : w.heap.size + 1 + 1 = w.heap.size := e; omega))
  have HB1 := hid B1
  have HRN3 := hid (HRN2.out.ch C3 hb3)
  have HRO3 := hid (HRO2.out.ch C3 hc3)
  have HLK3 := hid (HLK.out.ch C3 (fun g _ h e => by have : g = w.heap.size := e; omega))
  have HLN3 := hid (HLN.out.ch C3 (fun g _ h e => by have : g = w.heap.size := e; omega))
  have HLO3 := hid (HLO.out.ch C3 (fun g _ h e => by have : g = w.heap.size := e; omega))
  have HG3 := hid ((HG2.out.any (S := Two b c)).trans C3 (fun q e => .inr (by have : q = w.heap.size := e; omega)))
  have hs3 := C3.size
  clear B1 C3 hb3 hc3
  go_region_held3 (fun w' => w'.cell? ⟨w.heap.size, 0, none⟩ = some (.pointer (some ⟨b, 0, none⟩)) ∧ w'.cell? ⟨w.heap.size, 1, none⟩ = some (.pointer (some ⟨c, 0, none⟩)) ∧ w'.cell? ⟨w.heap.size, 2, none⟩ = some (.slice ra (kickP xs nx).length rc) ∧ w'.cell? ⟨w.heap.size, 3, none⟩ = some (.bool false) ∧ w'.cell? ⟨w.heap.size, 4, none⟩ = some (.int .i64 0) ∧ w'.cell? ⟨w.heap.size, 5, none⟩ = some (.int .i64 0) ∧ w'.cell? ⟨w.heap.size, 6, none⟩ = some (.int .u64 0) ∧ w'.cell? ⟨w.heap.size, 7, none⟩ = some (.slice va zs.length vc) ∧ w'.cell? ⟨w.heap.size, 8, none⟩ = some (.bool ny.isSome) ∧ w'.cell? ⟨w.heap.size, 9, none⟩ = some (.int .i64 (ny.getD W3.zero).s) ∧ w'.cell? ⟨w.heap.size, 10, none⟩ = some (.int .i64 (ny.getD W3.zero).g) ∧ w'.cell? ⟨w.heap.size, 11, none⟩ = some (.int .u64 (ny.getD W3.zero).t) ∧ w'.cell? ⟨w.heap.size, 12, none⟩ = some (.int .i64 0)) (first | (simp only [a0, a1, a2, a3, a4, a5, a6, a7, a8, a9, a10, a11, a12, and_self]; done) | (simp only [p0, p1, p2, p3, p4, p5, p6, p7, p8, p9, p10, p11, p12, and_self]; done) | (go_keep; done) | (refine ⟨?_, ?_, ?_, ?_, ?_, ?_, ?_, ?_, ?_, ?_, ?_, ?_, ?_⟩ <;> (go_simp; done)))
    (first
      | (go_at_call 19; refine (kick_any b xs nx _ HRN3.out.drew).mono ?_; rintro e w5 ⟨pl, rfl, l5, r5, g5⟩; obtain ⟨la, lc, rfl⟩ := l5.form; obtain ⟨a0, a1, a2, a3, a4, a5, a6, a7, a8, a9, a10, a11, a12⟩ := (HB1.out.drew.ch g5 (fun e => by have : w.heap.size = b := e; omega)).cells; have R5 := HB3.out.drew.ch g5 (fun e => by have : w.heap.size + 1 + 1 = b := e; omega); obtain ⟨q0, q1, q2, q3, q4, q5, q6, q7, q8, q9, q10, q11, q12⟩ := R5.cells; obtain ⟨f0, f1, f2, f3, f4, f5, f6, f7, f8, f9, f10, f11, f12⟩ := R5.fz; have hlR := R5.lt; have HL5 := hid (l5.mono (Q := (w.heap.size + 4 ≤ ·)) (fun g h p => by simp at p; omega)); have HR5 := hid r5; have HG5 := hid g5; clear l5 r5 g5 R5)
      | (go_at_call 14; refine (sameList_eq _ _ _ _ (kickL xs nx) _ HL5.out (HLK3.out.drew.ch HG5.out (fun g _ h e => by have : g = b := e; omega)) (by have := kickL_len xs nx; omega)).mono ?_; rintro e w6 ⟨rfl, m6, rfl⟩))
  all_goals go_wp2
  refine bodyPost_ret (v := .tuple #[.agg #[.pointer (some ⟨b, 0, none⟩), .pointer (some ⟨c, 0, none⟩), .slice ra (kickP xs nx).length rc, .bool false, .int .i64 0, .int .i64 0, .int .u64 0, .slice va zs.length vc, .bool ny.isSome, .int .i64 (ny.getD W3.zero).s, .int .i64 (ny.getD W3.zero).g, .int .u64 (ny.getD W3.zero).t, .int .i64 0], .bool true]) (by simp [results, Try.results23, go_sem, q0, q1, q2, q3, q4, q5, q6, q7, q8, q9, q10, q11, q12]) rfl ?_
  have D : ∀ (wf : World), Ch (Only (w.heap.size + 1 + 1)) w5 wf → Out b c pk w (.returned (.tuple #[.agg #[.pointer (some ⟨b, 0, none⟩), .pointer (some ⟨c, 0, none⟩), .slice ra (kickP xs nx).length rc, .bool false, .int .i64 0, .int .i64 0, .int .u64 0, .slice va zs.length vc, .bool ny.isSome, .int .i64 (ny.getD W3.zero).s, .int .i64 (ny.getD W3.zero).g, .int .u64 (ny.getD W3.zero).t, .int .i64 0], .bool true])) wf := by
    intro wf D
    have hb4 : ¬ Only (w.heap.size + 1 + 1) b := fun e => by have : b = w.heap.size + 1 + 1 := e; omega
    have hc4 : ¬ Only (w.heap.size + 1 + 1) c := fun e => by have : c = w.heap.size + 1 + 1 := e; omega
    have L1 := (((HLN3.out.drew.ch HG5.out (fun g _ h e => h.1.1 e)).ch D (fun g _ h e => by have : g = w.heap.size + 1 + 1 := e; omega))).mono (Q := Av b c pk) (fun _ _ h => h.1)
    have L2 := (((HLO3.out.drew.ch HG5.out (fun g _ h e => h.1.1 e)).ch D (fun g _ h e => by have : g = w.heap.size + 1 + 1 := e; omega))).mono (Q := Av b c pk) (fun _ _ h => h.1)
    have RO := HRO3.out.drew.ch HG5.out (fun e => hbc (e : c = b).symm)
    have G := (HG3.out.drew.trans HG5.out (fun _ e => .inl (.inl e))).trans D (fun q e => .inr (by have : q = w.heap.size + 1 + 1 := e; omega))
    exact ⟨kickP xs nx, zs, none, ny, _, _, 0, rfl, by omega, HR5.out.ch D hb4, RO.ch D hc4, L1, L2, G⟩
  refine D _ ?_
  repeat refine Ch.own ?_ _ _
  exact (Ch.refl _ _).drewN _

set_option maxHeartbeats 2000000 in
set_option maxRecDepth 20000 in
theorem calls_kick1 (b c pk : Nat) (u v : Value) (xs zs : List W3) (nx ny : Option W3) (x : W3) (w : World)
    (hb : RingAt w b xs nx) (hc : RingAt w c zs ny) (hlu : Lst (Av b c pk) w u xs) (hlv : Lst (Av b c pk) w v zs) (hpk : pk < w.heap.size) (hbc : b ≠ c) :
    Calls Try.prog 23 #[.agg #[.pointer (some ⟨b, 0, none⟩), .pointer (some ⟨c, 0, none⟩), u, .bool nx.isSome, .int .i64 (nx.getD W3.zero).s, .int .i64 (nx.getD W3.zero).g, .int .u64 (nx.getD W3.zero).t, v, .bool ny.isSome, .int .i64 (ny.getD W3.zero).s, .int .i64 (ny.getD W3.zero).g, .int .u64 (ny.getD W3.zero).t, .int .i64 1], .agg #[.int .i64 2, .int .i64 x.s, .int .i64 x.g, .int .u64 x.t]] w fun e w' => Out b c pk w e w' := by
  obtain ⟨ua, uc, rfl⟩ := hlu.form
  obtain ⟨va, vc, rfl⟩ := hlv.form
  have hb0 := hb.lt
  have hc0 := hc.lt
  have HB := hid hb
  have HC := hid hc
  have HU := hid hlu
  have HV := hid hlv
  clear hb hc hlu hlv
  go_enter Try.func23, Try.ntmps23
  go_wp2_with fail
  obtain ⟨F1, F2, F3, F4, G, hsz⟩ := four_laid w #[.pointer (some ⟨b, 0, none⟩), .pointer (some ⟨c, 0, none⟩), (.slice ua xs.length uc), .bool nx.isSome, .int .i64 (nx.getD W3.zero).s, .int .i64 (nx.getD W3.zero).g, .int .u64 (nx.getD W3.zero).t, (.slice va zs.length vc), .bool ny.isSome, .int .i64 (ny.getD W3.zero).s, .int .i64 (ny.getD W3.zero).g, .int .u64 (ny.getD W3.zero).t, .int .i64 1] 2 x (.slice va zs.length vc) (.bool ny.isSome) (.int .i64 (ny.getD W3.zero).s) (.int .i64 (ny.getD W3.zero).g) (.int .u64 (ny.getD W3.zero).t) _ rfl
  have HRB := hid (HB.out.ch G (noB _))
  have HRC := hid (HC.out.ch G (noB _))
  have HLU := hid ((HU.out.mono (Q := (fun g => Av b c pk g ∧ g < w.heap.size)) (fun g h p => ⟨p, h⟩)).ch G (fun _ _ _ => noB _))
  have HLV := hid ((HV.out.mono (Q := (fun g => Av b c pk g ∧ g < w.heap.size)) (fun g h p => ⟨p, h⟩)).ch G (fun _ _ _ => noB _))
  have HF1 := hid F1
  have HF3 := hid F3
  have HG := hid G
  have HSZ := hid hsz
  have h64 := HRC.out.len
  have H64 := hid h64
  clear F1 F2 F3 F4 G hsz HB HC HU HV h64
  refine (rkick_nx (fun g => Av b c pk g ∧ g < w.heap.size) _ zs ny _ HLV.out H64.out).mono ?_
  rintro e w2 ⟨v2, k2, rfl, l2, l3, g2⟩
  obtain ⟨ra, rc, rfl⟩ := l2.form
  obtain ⟨ka, kc, rfl⟩ := l3.form
  have hs2 : w.heap.size + 4 ≤ w2.heap.size := by have := g2.size; have := HSZ.out; omega
  have A1 := HF1.out.ch g2 (noB _)
  obtain ⟨p0, p1, p2, p3, p4, p5, p6, p7, p8, p9, p10, p11, p12⟩ := A1.cells
  obtain ⟨f0, f1, f2, f3, f4, f5, f6, f7, f8, f9, f10, f11, f12⟩ := A1.fz
  have HA1 := hid A1
  have hlA := A1.lt
  have HA3 := hid (HF3.out.ch g2 (noB _))
  have HLN := hid (l2.mono (Q := (fun g => Av b c pk g ∧ (g < w.heap.size ∨ w.heap.size + 4 ≤ g))) (fun g h p => by have := HSZ.out; rcases p with p | p; exact ⟨p.1, .inl p.2⟩; exact ⟨⟨by omega, by omega, by omega⟩, .inr (by omega)⟩))
  have HLO := hid ((HLU.out.ch g2 (fun _ _ _ => noB _)).mono (Q := (fun g => Av b c pk g ∧ (g < w.heap.size ∨ w.heap.size + 4 ≤ g))) (fun g h p => ⟨p.1, .inl p.2⟩))
  have HRN2 := hid (HRC.out.ch g2 (noB _))
  have HRO2 := hid (HRB.out.ch g2 (noB _))
  have HLK := hid (l3.mono (Q := (w.heap.size + 4 ≤ ·)) (fun g h p => by have := HSZ.out; omega))
  have HG2 := hid (HG.out.trans' g2)
  clear l2 l3 g2 A1
  go_wp2_with fail
  obtain ⟨w3, hw3⟩ : ∃ w3, w3 = (((((w2.setCell ⟨w.heap.size, 7, none⟩ (.slice ra (kickP zs ny).length rc)).setCell ⟨w.heap.size, 8, none⟩ (.bool false)).setCell ⟨w.heap.size, 9, none⟩ (.int .i64 0)).setCell ⟨w.heap.size, 10, none⟩ (.int .i64 0)).setCell ⟨w.heap.size, 11, none⟩ (.int .u64 0)).alloc (.cells #[.slice ra (kickP zs ny).length rc, .bool false, .int .i64 0, .int .i64 0, .int .u64 0] 29) := ⟨_, rfl⟩
  have C3 : Ch (Only w.heap.size) w2 w3 := by
    rw [hw3]
    refine Ch.alloc ?_ _
    repeat refine Ch.own ?_ _ _
    exact Ch.refl _ _
  have B1 : Pair w3 w.heap.size #[.pointer (some ⟨b, 0, none⟩), .pointer (some ⟨c, 0, none⟩), .slice ua xs.length uc, .bool nx.isSome, .int .i64 (nx.getD W3.zero).s, .int .i64 (nx.getD W3.zero).g, .int .u64 (nx.getD W3.zero).t, .slice ra (kickP zs ny).length rc, .bool false, .int .i64 0, .int .i64 0, .int .u64 0, .int .i64 1] := by rw [hw3]; exact (HA1.out.put1 _ _ _ _ _).alloc _
  rw [← hw3]
  clear hw3 p0 p1 p2 p3 p4 p5 p6 p7 p8 p9 p10 p11 p12 f0 f1 f2 f3 f4 f5 f6 f7 f8 f9 f10 f11 f12
  obtain ⟨p0, p1, p2, p3, p4, p5, p6, p7, p8, p9, p10, p11, p12⟩ := B1.cells
  have hb3 : ¬ Only w.heap.size b := fun e => by have : b = w.heap.size := e; omega
  have hc3 : ¬ Only w.heap.size c := fun e => by have : c = w.heap.size := e; omega
  have HB3 := hid (HA3.out.ch C3 (fun e => by have : w.heap.size + 1 + 1 = w.heap.size := e; omega))
  have HB1 := hid B1
  have HRN3 := hid (HRN2.out.ch C3 hc3)
  have HRO3 := hid (HRO2.out.ch C3 hb3)
  have HLK3 := hid (HLK.out.ch C3 (fun g _ h e => by have : g = w.heap.size := e; omega))
  have HLN3 := hid (HLN.out.ch C3 (fun g _ h e => by have : g = w.heap.size := e; omega))
  have HLO3 := hid (HLO.out.ch C3 (fun g _ h e => by have : g = w.heap.size := e; omega))
  have HG3 := hid ((HG2.out.any (S := Two b c)).trans C3 (fun q e => .inr (by have : q = w.heap.size := e; omega)))
  have hs3 := C3.size
  clear B1 C3 hb3 hc3
  go_region_held3 (fun w' => w'.cell? ⟨w.heap.size, 0, none⟩ = some (.pointer (some ⟨b, 0, none⟩)) ∧ w'.cell? ⟨w.heap.size, 1, none⟩ = some (.pointer (some ⟨c, 0, none⟩)) ∧ w'.cell? ⟨w.heap.size, 2, none⟩ = some (.slice ua xs.length uc) ∧ w'.cell? ⟨w.heap.size, 3, none⟩ = some (.bool nx.isSome) ∧ w'.cell? ⟨w.heap.size, 4, none⟩ = some (.int .i64 (nx.getD W3.zero).s) ∧ w'.cell? ⟨w.heap.size, 5, none⟩ = some (.int .i64 (nx.getD W3.zero).g) ∧ w'.cell? ⟨w.heap.size, 6, none⟩ = some (.int .u64 (nx.getD W3.zero).t) ∧ w'.cell? ⟨w.heap.size, 7, none⟩ = some (.slice ra (kickP zs ny).length rc) ∧ w'.cell? ⟨w.heap.size, 8, none⟩ = some (.bool false) ∧ w'.cell? ⟨w.heap.size, 9, none⟩ = some (.int .i64 0) ∧ w'.cell? ⟨w.heap.size, 10, none⟩ = some (.int .i64 0) ∧ w'.cell? ⟨w.heap.size, 11, none⟩ = some (.int .u64 0) ∧ w'.cell? ⟨w.heap.size, 12, none⟩ = some (.int .i64 1)) (first | (simp only [a0, a1, a2, a3, a4, a5, a6, a7, a8, a9, a10, a11, a12, and_self]; done) | (simp only [p0, p1, p2, p3, p4, p5, p6, p7, p8, p9, p10, p11, p12, and_self]; done) | (go_keep; done) | (refine ⟨?_, ?_, ?_, ?_, ?_, ?_, ?_, ?_, ?_, ?_, ?_, ?_, ?_⟩ <;> (go_simp; done)))
    (first
      | (go_at_call 19; refine (kick_any c zs ny _ HRN3.out.drew).mono ?_; rintro e w5 ⟨pl, rfl, l5, r5, g5⟩; obtain ⟨la, lc, rfl⟩ := l5.form; obtain ⟨a0, a1, a2, a3, a4, a5, a6, a7, a8, a9, a10, a11, a12⟩ := (HB1.out.drew.ch g5 (fun e => by have : w.heap.size = c := e; omega)).cells; have R5 := HB3.out.drew.ch g5 (fun e => by have : w.heap.size + 1 + 1 = c := e; omega); obtain ⟨q0, q1, q2, q3, q4, q5, q6, q7, q8, q9, q10, q11, q12⟩ := R5.cells; obtain ⟨f0, f1, f2, f3, f4, f5, f6, f7, f8, f9, f10, f11, f12⟩ := R5.fz; have hlR := R5.lt; have HL5 := hid (l5.mono (Q := (w.heap.size + 4 ≤ ·)) (fun g h p => by simp at p; omega)); have HR5 := hid r5; have HG5 := hid g5; clear l5 r5 g5 R5)
      | (go_at_call 14; refine (sameList_eq _ _ _ _ (kickL zs ny) _ HL5.out (HLK3.out.drew.ch HG5.out (fun g _ h e => by have : g = c := e; omega)) (by have := kickL_len zs ny; omega)).mono ?_; rintro e w6 ⟨rfl, m6, rfl⟩))
  all_goals go_wp2
  refine bodyPost_ret (v := .tuple #[.agg #[.pointer (some ⟨b, 0, none⟩), .pointer (some ⟨c, 0, none⟩), .slice ua xs.length uc, .bool nx.isSome, .int .i64 (nx.getD W3.zero).s, .int .i64 (nx.getD W3.zero).g, .int .u64 (nx.getD W3.zero).t, .slice ra (kickP zs ny).length rc, .bool false, .int .i64 0, .int .i64 0, .int .u64 0, .int .i64 1], .bool true]) (by simp [results, Try.results23, go_sem, q0, q1, q2, q3, q4, q5, q6, q7, q8, q9, q10, q11, q12]) rfl ?_
  have D : ∀ (wf : World), Ch (Only (w.heap.size + 1 + 1)) w5 wf → Out b c pk w (.returned (.tuple #[.agg #[.pointer (some ⟨b, 0, none⟩), .pointer (some ⟨c, 0, none⟩), .slice ua xs.length uc, .bool nx.isSome, .int .i64 (nx.getD W3.zero).s, .int .i64 (nx.getD W3.zero).g, .int .u64 (nx.getD W3.zero).t, .slice ra (kickP zs ny).length rc, .bool false, .int .i64 0, .int .i64 0, .int .u64 0, .int .i64 1], .bool true])) wf := by
    intro wf D
    have hb4 : ¬ Only (w.heap.size + 1 + 1) b := fun e => by have : b = w.heap.size + 1 + 1 := e; omega
    have hc4 : ¬ Only (w.heap.size + 1 + 1) c := fun e => by have : c = w.heap.size + 1 + 1 := e; omega
    have L1 := (((HLN3.out.drew.ch HG5.out (fun g _ h e => h.1.2 e)).ch D (fun g _ h e => by have : g = w.heap.size + 1 + 1 := e; omega))).mono (Q := Av b c pk) (fun _ _ h => h.1)
    have L2 := (((HLO3.out.drew.ch HG5.out (fun g _ h e => h.1.2 e)).ch D (fun g _ h e => by have : g = w.heap.size + 1 + 1 := e; omega))).mono (Q := Av b c pk) (fun _ _ h => h.1)
    have RO := HRO3.out.drew.ch HG5.out (fun e => hbc e)
    have G := (HG3.out.drew.trans HG5.out (fun _ e => .inl (.inr e))).trans D (fun q e => .inr (by have : q = w.heap.size + 1 + 1 := e; omega))
    exact ⟨xs, kickP zs ny, nx, none, _, _, 1, rfl, by omega, RO.ch D hb4, HR5.out.ch D hc4, L2, L1, G⟩
  refine D _ ?_
  repeat refine Ch.own ?_ _ _
  exact (Ch.refl _ _).drewN _

end Go.Proofs.Ytfodjkdioddbjab.Rg
