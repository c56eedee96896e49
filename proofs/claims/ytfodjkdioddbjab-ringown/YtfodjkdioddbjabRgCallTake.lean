/-
  What 'calls' of the statements does at Take. Condition: rings and lists are there.
-/
import Derived.Test.YtfodjkdioddbjabRgCmp
namespace Go.Proofs.Ytfodjkdioddbjab.Rg
open Go.RowKit
attribute [local go_sem ↓] Go.wp_at_zero Go.wp_at_succ

set_option maxHeartbeats 3000000 in
set_option maxRecDepth 20000 in
theorem calls_take0 (b c pk : Nat) (u v : Value) (xs zs : List W3) (nx ny : Option W3) (x : W3) (w : World)
    (hb : RingAt w b xs nx) (hc : RingAt w c zs ny) (hlu : Lst (Av b c pk) w u xs) (hlv : Lst (Av b c pk) w v zs) (hpk : pk < w.heap.size) (hbc : b ≠ c) :
    Calls Try.prog 23 #[.agg #[.pointer (some ⟨b, 0, none⟩), .pointer (some ⟨c, 0, none⟩), u, .bool nx.isSome, .int .i64 (nx.getD W3.zero).s, .int .i64 (nx.getD W3.zero).g, .int .u64 (nx.getD W3.zero).t, v, .bool ny.isSome, .int .i64 (ny.getD W3.zero).s, .int .i64 (ny.getD W3.zero).g, .int .u64 (ny.getD W3.zero).t, .int .i64 0], .agg #[.int .i64 3, .int .i64 x.s, .int .i64 x.g, .int .u64 x.t]] w fun e w' => Out b c pk w e w' := by
  obtain ⟨ua, uc, rfl⟩ := hlu.form
  obtain ⟨va, vc, rfl⟩ := hlv.form
  have hb0 := hb.lt
  have hc0 := hc.lt
  have HB := hid hb
  have HC := hid hc
  have HU := hid hlu
  have HV := hid hlv
  clear hb hc hlu hlv
  go_enter Try.func23, Try.ntmps23
  go_wp2_with fail
  obtain ⟨F1, F2, F3, F4, G, hsz⟩ := four_laid w #[.pointer (some ⟨b, 0, none⟩), .pointer (some ⟨c, 0, none⟩), (.slice ua xs.length uc), .bool nx.isSome, .int .i64 (nx.getD W3.zero).s, .int .i64 (nx.getD W3.zero).g, .int .u64 (nx.getD W3.zero).t, (.slice va zs.length vc), .bool ny.isSome, .int .i64 (ny.getD W3.zero).s, .int .i64 (ny.getD W3.zero).g, .int .u64 (ny.getD W3.zero).t, .int .i64 0] 3 x (.slice ua xs.length uc) (.bool nx.isSome) (.int .i64 (nx.getD W3.zero).s) (.int .i64 (nx.getD W3.zero).g) (.int .u64 (nx.getD W3.zero).t) _ rfl
  have HRB := hid (HB.out.ch G (noB _))
  have HRC := hid (HC.out.ch G (noB _))
  have HLU := hid ((HU.out.mono (Q := (fun g => Av b c pk g ∧ g < w.heap.size)) (fun g h p => ⟨p, h⟩)).ch G (fun _ _ _ => noB _))
  have HLV := hid ((HV.out.mono (Q := (fun g => Av b c pk g ∧ g < w.heap.size)) (fun g h p => ⟨p, h⟩)).ch G (fun _ _ _ => noB _))
  have HF1 := hid F1
  have HF4 := hid F4
  have HF3 := hid F3
  have HG := hid G
  have HSZ := hid hsz
  have h64 := HRB.out.len
  have H64 := hid h64
  clear F1 F2 F3 F4 G hsz HB HC HU HV h64
  obtain ⟨X, hX⟩ : ∃ X, X = tkX xs nx := ⟨_, rfl⟩
  obtain ⟨E, hE⟩ : ∃ E, E = tkE xs nx := ⟨_, rfl⟩
  have hD := fun w2 (h2 : RingAt w2 b xs nx) => take_any b xs nx w2 h2
  have hQ := fun w2 (h2 : Lst (fun g => Av b c pk g ∧ g < w.heap.size) w2 (.slice ua xs.length uc) xs) => rtake_nx _ _ xs nx w2 h2 H64.out
  rw [← hX, ← hE] at hD hQ
  have HD := hid hD
  have HQ := hid hQ
  clear hD hQ hX hE
  refine (HD.out _ HRB.out).mono ?_
  rintro e w1 ⟨rfl, r1, g1⟩
  have hs1 : w.heap.size + 4 ≤ w1.heap.size := by have := g1.size; have := HSZ.out; omega
  have A4 := HF4.out.ch g1 (fun e => by have : w.heap.size + 1 + 1 + 1 = b := e; omega)
  obtain ⟨s0, s1, s2, s3, s4⟩ := A4.cells
  have lt4 := A4.lt
  have HA1 := hid (HF1.out.ch g1 (fun e => by have : w.heap.size = b := e; omega))
  have HA3 := hid (HF3.out.ch g1 (fun e => by have : w.heap.size + 1 + 1 = b := e; omega))
  have HLS := hid (HLU.out.ch g1 (fun g _ h e => h.1.1 e))
  have HLO := hid (HLV.out.ch g1 (fun g _ h e => h.1.1 e))
  have HRN1 := hid r1
  have HRO1 := hid (HRC.out.ch g1 (fun e => hbc (e : c = b).symm))
  have HG1 := hid ((HG.out.any (S := Two b c)).trans g1 (fun _ e => .inl (.inl e)))
  clear r1 g1 A4
  go_wp2_with fail
  refine (HQ.out _ (HLS.out.alloc _)).mono ?_
  rintro e w2 ⟨v2, rfl, l2, g2⟩
  obtain ⟨ra, rc, rfl⟩ := l2.form
  have hs2 := g2.size
  simp only [World.size_alloc] at hs2
  have A1 := (HA1.out.alloc _).ch g2 (noB _)
  obtain ⟨p0, p1, p2, p3, p4, p5, p6, p7, p8, p9, p10, p11, p12⟩ := A1.cells
  obtain ⟨f0, f1, f2, f3, f4, f5, f6, f7, f8, f9, f10, f11, f12⟩ := A1.fz
  have HA1' := hid A1
  have lt0 : w.heap.size < w2.heap.size := A1.lt
  have HA3' := hid ((HA3.out.alloc _).ch g2 (noB _))
  have HT1 := hid ((Three.new w1 X).ch g2 (noB _))
  have HLN := hid (l2.mono (Q := (fun g => Av b c pk g ∧ (g < w.heap.size ∨ w.heap.size + 4 ≤ g))) (fun g h p => by rcases p with p | p; exact ⟨p.1, .inl p.2⟩; simp at p; exact ⟨⟨by omega, by omega, by omega⟩, .inr (by omega)⟩))
  have HLO2 := hid (((HLO.out.alloc _).ch g2 (fun _ _ _ => noB _)).mono (Q := (fun g => Av b c pk g ∧ (g < w.heap.size ∨ w.heap.size + 4 ≤ g))) (fun g h p => ⟨p.1, .inl p.2⟩))
  have HRN2 := hid ((HRN1.out.alloc _).ch g2 (noB _))
  have HRO2 := hid ((HRO1.out.alloc _).ch g2 (noB _))
  have HG2 := hid ((HG1.out.alloc _).trans g2 (fun _ e => e.elim))
  clear l2 g2 A1
  go_wp2_with fail
  obtain ⟨w3, hw3⟩ : ∃ w3, w3 = ((((((w2.setCell ⟨w.heap.size, 2, none⟩ (.slice ra (tkP xs nx).length rc)).setCell ⟨w.heap.size, 3, none⟩ (.bool false)).setCell ⟨w.heap.size, 4, none⟩ (.int .i64 0)).setCell ⟨w.heap.size, 5, none⟩ (.int .i64 0)).setCell ⟨w.heap.size, 6, none⟩ (.int .u64 0)).alloc (.cells #[.slice ra (tkP xs nx).length rc, .bool false, .int .i64 0, .int .i64 0, .int .u64 0] 29)).alloc (.cells #[.int .i64 X.s, .int .i64 X.g, .int .u64 X.t] 27) := ⟨_, rfl⟩
  have C3 : Ch (Only w.heap.size) w2 w3 := by
    rw [hw3]
    refine Ch.alloc (Ch.alloc ?_ _) _
    repeat refine Ch.own ?_ _ _
    exact Ch.refl _ _
  have B1 : Pair w3 w.heap.size #[.pointer (some ⟨b, 0, none⟩), .pointer (some ⟨c, 0, none⟩), .slice ra (tkP xs nx).length rc, .bool false, .int .i64 0, .int .i64 0, .int .u64 0, .slice va zs.length vc, .bool ny.isSome, .int .i64 (ny.getD W3.zero).s, .int .i64 (ny.getD W3.zero).g, .int .u64 (ny.getD W3.zero).t, .int .i64 0] := by rw [hw3]; exact ((HA1'.out.put0 _ _ _ _ _).alloc _).alloc _
  have U3 : Three w3 (w2.heap.size + 1) X := by
    rw [hw3]
    have := Three.new ((((((w2.setCell ⟨w.heap.size, 2, none⟩ (.slice ra (tkP xs nx).length rc)).setCell ⟨w.heap.size, 3, none⟩ (.bool false)).setCell ⟨w.heap.size, 4, none⟩ (.int .i64 0)).setCell ⟨w.heap.size, 5, none⟩ (.int .i64 0)).setCell ⟨w.heap.size, 6, none⟩ (.int .u64 0)).alloc (.cells #[.slice ra (tkP xs nx).length rc, .bool false, .int .i64 0, .int .i64 0, .int .u64 0] 29)) X
    simpa [World.setCell] using this
  rw [← hw3]
  clear hw3 p0 p1 p2 p3 p4 p5 p6 p7 p8 p9 p10 p11 p12 f0 f1 f2 f3 f4 f5 f6 f7 f8 f9 f10 f11 f12
  obtain ⟨p0, p1, p2, p3, p4, p5, p6, p7, p8, p9, p10, p11, p12⟩ := B1.cells
  obtain ⟨u0, u1, u2⟩ := U3.cells
  obtain ⟨t0, t1, t2⟩ := (HT1.out.ch C3 (fun e => by have : w1.heap.size = w.heap.size := e; omega)).cells
  have B3 := HA3'.out.ch C3 (fun e => by have : w.heap.size + 1 + 1 = w.heap.size := e; omega)
  obtain ⟨q0, q1, q2, q3, q4, q5, q6, q7, q8, q9, q10, q11, q12⟩ := B3.cells
  obtain ⟨f0, f1, f2, f3, f4, f5, f6, f7, f8, f9, f10, f11, f12⟩ := B3.fz
  have l3 := B3.lt
  have hb3 : ¬ Only w.heap.size b := fun e => by have : b = w.heap.size := e; omega
  have hc3 : ¬ Only w.heap.size c := fun e => by have : c = w.heap.size := e; omega
  have HC3 := hid C3
  clear B1 B3 C3 U3
  have hCmp := fun w' => same_w3 X w'
  go_region_held3 (fun w' => w'.cell? ⟨w.heap.size, 0, none⟩ = some (.pointer (some ⟨b, 0, none⟩)) ∧ w'.cell? ⟨w.heap.size, 1, none⟩ = some (.pointer (some ⟨c, 0, none⟩)) ∧ w'.cell? ⟨w.heap.size, 2, none⟩ = some (.slice ra (tkP xs nx).length rc) ∧ w'.cell? ⟨w.heap.size, 3, none⟩ = some (.bool false) ∧ w'.cell? ⟨w.heap.size, 4, none⟩ = some (.int .i64 0) ∧ w'.cell? ⟨w.heap.size, 5, none⟩ = some (.int .i64 0) ∧ w'.cell? ⟨w.heap.size, 6, none⟩ = some (.int .u64 0) ∧ w'.cell? ⟨w.heap.size, 7, none⟩ = some (.slice va zs.length vc) ∧ w'.cell? ⟨w.heap.size, 8, none⟩ = some (.bool ny.isSome) ∧ w'.cell? ⟨w.heap.size, 9, none⟩ = some (.int .i64 (ny.getD W3.zero).s) ∧ w'.cell? ⟨w.heap.size, 10, none⟩ = some (.int .i64 (ny.getD W3.zero).g) ∧ w'.cell? ⟨w.heap.size, 11, none⟩ = some (.int .u64 (ny.getD W3.zero).t) ∧ w'.cell? ⟨w.heap.size, 12, none⟩ = some (.int .i64 0) ∧ w'.cell? ⟨w1.heap.size, 0, none⟩ = some (.int .i64 X.s) ∧ w'.cell? ⟨w1.heap.size, 1, none⟩ = some (.int .i64 X.g) ∧ w'.cell? ⟨w1.heap.size, 2, none⟩ = some (.int .u64 X.t) ∧ w'.cell? ⟨w2.heap.size + 1, 0, none⟩ = some (.int .i64 X.s) ∧ w'.cell? ⟨w2.heap.size + 1, 1, none⟩ = some (.int .i64 X.g) ∧ w'.cell? ⟨w2.heap.size + 1, 2, none⟩ = some (.int .u64 X.t)) (first | (simp only [p0, p1, p2, p3, p4, p5, p6, p7, p8, p9, p10, p11, p12, t0, t1, t2, u0, u1, u2, and_self]; done) | (go_keep; done) | (refine ⟨?_, ?_, ?_, ?_, ?_, ?_, ?_, ?_, ?_, ?_, ?_, ?_, ?_, ?_, ?_, ?_, ?_, ?_, ?_⟩ <;> (go_simp; done)))
    (fail)
  all_goals go_wp2
  refine bodyPost_ret (v := .tuple #[.agg #[.pointer (some ⟨b, 0, none⟩), .pointer (some ⟨c, 0, none⟩), .slice ra (tkP xs nx).length rc, .bool false, .int .i64 0, .int .i64 0, .int .u64 0, .slice va zs.length vc, .bool ny.isSome, .int .i64 (ny.getD W3.zero).s, .int .i64 (ny.getD W3.zero).g, .int .u64 (ny.getD W3.zero).t, .int .i64 0], .bool true]) (by simp [results, Try.results23, go_sem, q0, q1, q2, q3, q4, q5, q6, q7, q8, q9, q10, q11, q12]) rfl ?_
  have D : ∀ (wf : World), Ch (Only (w.heap.size + 1 + 1)) w3 wf → Out b c pk w (.returned (.tuple #[.agg #[.pointer (some ⟨b, 0, none⟩), .pointer (some ⟨c, 0, none⟩), .slice ra (tkP xs nx).length rc, .bool false, .int .i64 0, .int .i64 0, .int .u64 0, .slice va zs.length vc, .bool ny.isSome, .int .i64 (ny.getD W3.zero).s, .int .i64 (ny.getD W3.zero).g, .int .u64 (ny.getD W3.zero).t, .int .i64 0], .bool true])) wf := by
    intro wf D
    have hb4 : ¬ Only (w.heap.size + 1 + 1) b := fun e => by have : b = w.heap.size + 1 + 1 := e; omega
    have hc4 : ¬ Only (w.heap.size + 1 + 1) c := fun e => by have : c = w.heap.size + 1 + 1 := e; omega
    have L1 := (((HLN.out.ch HC3.out (fun g _ h e => by have : g = w.heap.size := e; omega)).ch D (fun g _ h e => by have : g = w.heap.size + 1 + 1 := e; omega))).mono (Q := Av b c pk) (fun _ _ h => h.1)
    have L2 := (((HLO2.out.ch HC3.out (fun g _ h e => by have : g = w.heap.size := e; omega)).ch D (fun g _ h e => by have : g = w.heap.size + 1 + 1 := e; omega))).mono (Q := Av b c pk) (fun _ _ h => h.1)
    have RN := HRN2.out.ch HC3.out hb3
    have RO := HRO2.out.ch HC3.out hc3
    have G := (HG2.out.trans HC3.out (fun q e => .inr (by have : q = w.heap.size := e; omega))).trans D (fun q e => .inr (by have : q = w.heap.size + 1 + 1 := e; omega))
    exact ⟨tkP xs nx, zs, none, ny, _, _, 0, rfl, by omega, RN.ch D hb4, RO.ch D hc4, L1, L2, G⟩
  refine D _ (Ch.drew ?_)
  repeat refine Ch.own ?_ _ _
  exact Ch.refl _ _

set_option maxHeartbeats 3000000 in
set_option maxRecDepth 20000 in
theorem calls_take1 (b c pk : Nat) (u v : Value) (xs zs : List W3) (nx ny : Option W3) (x : W3) (w : World)
    (hb : RingAt w b xs nx) (hc : RingAt w c zs ny) (hlu : Lst (Av b c pk) w u xs) (hlv : Lst (Av b c pk) w v zs) (hpk : pk < w.heap.size) (hbc : b ≠ c) :
    Calls Try.prog 23 #[.agg #[.pointer (some ⟨b, 0, none⟩), .pointer (some ⟨c, 0, none⟩), u, .bool nx.isSome, .int .i64 (nx.getD W3.zero).s, .int .i64 (nx.getD W3.zero).g, .int .u64 (nx.getD W3.zero).t, v, .bool ny.isSome, .int .i64 (ny.getD W3.zero).s, .int .i64 (ny.getD W3.zero).g, .int .u64 (ny.getD W3.zero).t, .int .i64 1], .agg #[.int .i64 3, .int .i64 x.s, .int .i64 x.g, .int .u64 x.t]] w fun e w' => Out b c pk w e w' := by
  obtain ⟨ua, uc, rfl⟩ := hlu.form
  obtain ⟨va, vc, rfl⟩ := hlv.form
  have hb0 := hb.lt
  have hc0 := hc.lt
  have HB := hid hb
  have HC := hid hc
  have HU := hid hlu
  have HV := hid hlv
  clear hb hc hlu hlv
  go_enter Try.func23, Try.ntmps23
  go_wp2_with fail
  obtain ⟨F1, F2, F3, F4, G, hsz⟩ := four_laid w #[.pointer (some ⟨b, 0, none⟩), .pointer (some ⟨c, 0, none⟩), (.slice ua xs.length uc), .bool nx.isSome, .int .i64 (nx.getD W3.zero).s, .int .i64 (nx.getD W3.zero).g, .int .u64 (nx.getD W3.zero).t, (.slice va zs.length vc), .bool ny.isSome, .int .i64 (ny.getD W3.zero).s, .int .i64 (ny.getD W3.zero).g, .int .u64 (ny.getD W3.zero).t, .int .i64 1] 3 x (.slice va zs.length vc) (.bool ny.isSome) (.int .i64 (ny.getD W3.zero).s) (.int .i64 (ny.getD W3.zero).g) (.int .u64 (ny.getD W3.zero).t) _ rfl
  have HRB := hid (HB.out.ch G (noB _))
  have HRC := hid (HC.out.ch G (noB _))
  have HLU := hid ((HU.out.mono (Q := (fun g => Av b c pk g ∧ g < w.heap.size)) (fun g h p => ⟨p, h⟩)).ch G (fun _ _ _ => noB _))
  have HLV := hid ((HV.out.mono (Q := (fun g => Av b c pk g ∧ g < w.heap.size)) (fun g h p => ⟨p, h⟩)).ch G (fun _ _ _ => noB _))
  have HF1 := hid F1
  have HF4 := hid F4
  have HF3 := hid F3
  have HG := hid G
  have HSZ := hid hsz
  have h64 := HRC.out.len
  have H64 := hid h64
  clear F1 F2 F3 F4 G hsz HB HC HU HV h64
  obtain ⟨X, hX⟩ : ∃ X, X = tkX zs ny := ⟨_, rfl⟩
  obtain ⟨E, hE⟩ : ∃ E, E = tkE zs ny := ⟨_, rfl⟩
  have hD := fun w2 (h2 : RingAt w2 c zs ny) => take_any c zs ny w2 h2
  have hQ := fun w2 (h2 : Lst (fun g => Av b c pk g ∧ g < w.heap.size) w2 (.slice va zs.length vc) zs) => rtake_nx _ _ zs ny w2 h2 H64.out
  rw [← hX, ← hE] at hD hQ
  have HD := hid hD
  have HQ := hid hQ
  clear hD hQ hX hE
  refine (HD.out _ HRC.out).mono ?_
  rintro e w1 ⟨rfl, r1, g1⟩
  have hs1 : w.heap.size + 4 ≤ w1.heap.size := by have := g1.size; have := HSZ.out; omega
  have A4 := HF4.out.ch g1 (fun e => by have : w.heap.size + 1 + 1 + 1 = c := e; omega)
  obtain ⟨s0, s1, s2, s3, s4⟩ := A4.cells
  have lt4 := A4.lt
  have HA1 := hid (HF1.out.ch g1 (fun e => by have : w.heap.size = c := e; omega))
  have HA3 := hid (HF3.out.ch g1 (fun e => by have : w.heap.size + 1 + 1 = c := e; omega))
  have HLS := hid (HLV.out.ch g1 (fun g _ h e => h.1.2 e))
  have HLO := hid (HLU.out.ch g1 (fun g _ h e => h.1.2 e))
  have HRN1 := hid r1
  have HRO1 := hid (HRB.out.ch g1 (fun e => hbc e))
  have HG1 := hid ((HG.out.any (S := Two b c)).trans g1 (fun _ e => .inl (.inr e)))
  clear r1 g1 A4
  go_wp2_with fail
  refine (HQ.out _ (HLS.out.alloc _)).mono ?_
  rintro e w2 ⟨v2, rfl, l2, g2⟩
  obtain ⟨ra, rc, rfl⟩ := l2.form
  have hs2 := g2.size
  simp only [World.size_alloc] at hs2
  have A1 := (HA1.out.alloc _).ch g2 (noB _)
  obtain ⟨p0, p1, p2, p3, p4, p5, p6, p7, p8, p9, p10, p11, p12⟩ := A1.cells
  obtain ⟨f0, f1, f2, f3, f4, f5, f6, f7, f8, f9, f10, f11, f12⟩ := A1.fz
  have HA1' := hid A1
  have lt0 : w.heap.size < w2.heap.size := A1.lt
  have HA3' := hid ((HA3.out.alloc _).ch g2 (noB _))
  have HT1 := hid ((Three.new w1 X).ch g2 (noB _))
  have HLN := hid (l2.mono (Q := (fun g => Av b c pk g ∧ (g < w.heap.size ∨ w.heap.size + 4 ≤ g))) (fun g h p => by rcases p with p | p; exact ⟨p.1, .inl p.2⟩; simp at p; exact ⟨⟨by omega, by omega, by omega⟩, .inr (by omega)⟩))
  have HLO2 := hid (((HLO.out.alloc _).ch g2 (fun _ _ _ => noB _)).mono (Q := (fun g => Av b c pk g ∧ (g < w.heap.size ∨ w.heap.size + 4 ≤ g))) (fun g h p => ⟨p.1, .inl p.2⟩))
  have HRN2 := hid ((HRN1.out.alloc _).ch g2 (noB _))
  have HRO2 := hid ((HRO1.out.alloc _).ch g2 (noB _))
  have HG2 := hid ((HG1.out.alloc _).trans g2 (fun _ e => e.elim))
  clear l2 g2 A1
  go_wp2_with fail
  obtain ⟨w3, hw3⟩ : ∃ w3, w3 = ((((((w2.setCell ⟨w.heap.size, 7, none⟩ (.slice ra (tkP zs ny).length rc)).setCell ⟨w.heap.size, 8, none⟩ (.bool false)).setCell ⟨w.heap.size, 9, none⟩ (.int .i64 0)).setCell ⟨w.heap.size, 10, none⟩ (.int .i64 0)).setCell ⟨w.heap.size, 11, none⟩ (.int .u64 0)).alloc (.cells #[.slice ra (tkP zs ny).length rc, .bool false, .int .i64 0, .int .i64 0, .int .u64 0] 29)).alloc (.cells #[.int .i64 X.s, .int .i64 X.g, .int .u64 X.t] 27) := ⟨_, rfl⟩
  have C3 : Ch (Only w.heap.size) w2 w3 := by
    rw [hw3]
    refine Ch.alloc (Ch.alloc ?_ _) _
    repeat refine Ch.own ?_ _ _
    exact Ch.refl _ _
  have B1 : Pair w3 w.heap.size #[.pointer (some ⟨b, 0, none⟩), .pointer (some ⟨c, 0, none⟩), .slice ua xs.length uc, .bool nx.isSome, .int .i64 (nx.getD W3.zero).s, .int .i64 (nx.getD W3.zero).g, .int .u64 (nx.getD W3.zero).t, .slice ra (tkP zs ny).length rc, .bool false, .int .i64 0, .int .i64 0, .int .u64 0, .int .i64 1] := by rw [hw3]; exact ((HA1'.out.put1 _ _ _ _ _).alloc _).alloc _
  have U3 : Three w3 (w2.heap.size + 1) X := by
    rw [hw3]
    have := Three.new ((((((w2.setCell ⟨w.heap.size, 7, none⟩ (.slice ra (tkP zs ny).length rc)).setCell ⟨w.heap.size, 8, none⟩ (.bool false)).setCell ⟨w.heap.size, 9, none⟩ (.int .i64 0)).setCell ⟨w.heap.size, 10, none⟩ (.int .i64 0)).setCell ⟨w.heap.size, 11, none⟩ (.int .u64 0)).alloc (.cells #[.slice ra (tkP zs ny).length rc, .bool false, .int .i64 0, .int .i64 0, .int .u64 0] 29)) X
    simpa [World.setCell] using this
  rw [← hw3]
  clear hw3 p0 p1 p2 p3 p4 p5 p6 p7 p8 p9 p10 p11 p12 f0 f1 f2 f3 f4 f5 f6 f7 f8 f9 f10 f11 f12
  obtain ⟨p0, p1, p2, p3, p4, p5, p6, p7, p8, p9, p10, p11, p12⟩ := B1.cells
  obtain ⟨u0, u1, u2⟩ := U3.cells
  obtain ⟨t0, t1, t2⟩ := (HT1.out.ch C3 (fun e => by have : w1.heap.size = w.heap.size := e; omega)).cells
  have B3 := HA3'.out.ch C3 (fun e => by have : w.heap.size + 1 + 1 = w.heap.size := e; omega)
  obtain ⟨q0, q1, q2, q3, q4, q5, q6, q7, q8, q9, q10, q11, q12⟩ := B3.cells
  obtain ⟨f0, f1, f2, f3, f4, f5, f6, f7, f8, f9, f10, f11, f12⟩ := B3.fz
  have l3 := B3.lt
  have hb3 : ¬ Only w.heap.size b := fun e => by have : b = w.heap.size := e; omega
  have hc3 : ¬ Only w.heap.size c := fun e => by have : c = w.heap.size := e; omega
  have HC3 := hid C3
  clear B1 B3 C3 U3
  have hCmp := fun w' => same_w3 X w'
  go_region_held3 (fun w' => w'.cell? ⟨w.heap.size, 0, none⟩ = some (.pointer (some ⟨b, 0, none⟩)) ∧ w'.cell? ⟨w.heap.size, 1, none⟩ = some (.pointer (some ⟨c, 0, none⟩)) ∧ w'.cell? ⟨w.heap.size, 2, none⟩ = some (.slice ua xs.length uc) ∧ w'.cell? ⟨w.heap.size, 3, none⟩ = some (.bool nx.isSome) ∧ w'.cell? ⟨w.heap.size, 4, none⟩ = some (.int .i64 (nx.getD W3.zero).s) ∧ w'.cell? ⟨w.heap.size, 5, none⟩ = some (.int .i64 (nx.getD W3.zero).g) ∧ w'.cell? ⟨w.heap.size, 6, none⟩ = some (.int .u64 (nx.getD W3.zero).t) ∧ w'.cell? ⟨w.heap.size, 7, none⟩ = some (.slice ra (tkP zs ny).length rc) ∧ w'.cell? ⟨w.heap.size, 8, none⟩ = some (.bool false) ∧ w'.cell? ⟨w.heap.size, 9, none⟩ = some (.int .i64 0) ∧ w'.cell? ⟨w.heap.size, 10, none⟩ = some (.int .i64 0) ∧ w'.cell? ⟨w.heap.size, 11, none⟩ = some (.int .u64 0) ∧ w'.cell? ⟨w.heap.size, 12, none⟩ = some (.int .i64 1) ∧ w'.cell? ⟨w1.heap.size, 0, none⟩ = some (.int .i64 X.s) ∧ w'.cell? ⟨w1.heap.size, 1, none⟩ = some (.int .i64 X.g) ∧ w'.cell? ⟨w1.heap.size, 2, none⟩ = some (.int .u64 X.t) ∧ w'.cell? ⟨w2.heap.size + 1, 0, none⟩ = some (.int .i64 X.s) ∧ w'.cell? ⟨w2.heap.size + 1, 1, none⟩ = some (.int .i64 X.g) ∧ w'.cell? ⟨w2.heap.size + 1, 2, none⟩ = some (.int .u64 X.t)) (first | (simp only [p0, p1, p2, p3, p4, p5, p6, p7, p8, p9, p10, p11, p12, t0, t1, t2, u0, u1, u2, and_self]; done) | (go_keep; done) | (refine ⟨?_, ?_, ?_, ?_, ?_, ?_, ?_, ?_, ?_, ?_, ?_, ?_, ?_, ?_, ?_, ?_, ?_, ?_, ?_⟩ <;> (go_simp; done)))
    (fail)
  all_goals go_wp2
  refine bodyPost_ret (v := .tuple #[.agg #[.pointer (some ⟨b, 0, none⟩), .pointer (some ⟨c, 0, none⟩), .slice ua xs.length uc, .bool nx.isSome, .int .i64 (nx.getD W3.zero).s, .int .i64 (nx.getD W3.zero).g, .int .u64 (nx.getD W3.zero).t, .slice ra (tkP zs ny).length rc, .bool false, .int .i64 0, .int .i64 0, .int .u64 0, .int .i64 1], .bool true]) (by simp [results, Try.results23, go_sem, q0, q1, q2, q3, q4, q5, q6, q7, q8, q9, q10, q11, q12]) rfl ?_
  have D : ∀ (wf : World), Ch (Only (w.heap.size + 1 + 1)) w3 wf → Out b c pk w (.returned (.tuple #[.agg #[.pointer (some ⟨b, 0, none⟩), .pointer (some ⟨c, 0, none⟩), .slice ua xs.length uc, .bool nx.isSome, .int .i64 (nx.getD W3.zero).s, .int .i64 (nx.getD W3.zero).g, .int .u64 (nx.getD W3.zero).t, .slice ra (tkP zs ny).length rc, .bool false, .int .i64 0, .int .i64 0, .int .u64 0, .int .i64 1], .bool true])) wf := by
    intro wf D
    have hb4 : ¬ Only (w.heap.size + 1 + 1) b := fun e => by have : b = w.heap.size + 1 + 1 := e; omega
    have hc4 : ¬ Only (w.heap.size + 1 + 1) c := fun e => by have : c = w.heap.size + 1 + 1 := e; omega
    have L1 := (((HLN.out.ch HC3.out (fun g _ h e => by have : g = w.heap.size := e; omega)).ch D (fun g _ h e => by have : g = w.heap.size + 1 + 1 := e; omega))).mono (Q := Av b c pk) (fun _ _ h => h.1)
    have L2 := (((HLO2.out.ch HC3.out (fun g _ h e => by have : g = w.heap.size := e; omega)).ch D (fun g _ h e => by have : g = w.heap.size + 1 + 1 := e; omega))).mono (Q := Av b c pk) (fun _ _ h => h.1)
    have RN := HRN2.out.ch HC3.out hc3
    have RO := HRO2.out.ch HC3.out hb3
    have G := (HG2.out.trans HC3.out (fun q e => .inr (by have : q = w.heap.size := e; omega))).trans D (fun q e => .inr (by have : q = w.heap.size + 1 + 1 := e; omega))
    exact ⟨xs, tkP zs ny, nx, none, _, _, 1, rfl, by omega, RO.ch D hb4, RN.ch D hc4, L2, L1, G⟩
  refine D _ (Ch.drew ?_)
  repeat refine Ch.own ?_ _ _
  exact Ch.refl _ _

end Go.Proofs.Ytfodjkdioddbjab.Rg
