/-
  The statement's walk: RingLeaves answers true at any state and any Waiting. Condition: the state's list is there.
-/
import Derived.Test.YtfodjkdioddbjabRgLaw0
import Derived.Test.YtfodjkdioddbjabRgRef3
namespace Go.Proofs.Ytfodjkdioddbjab.Rg
open Go.RowKit
attribute [local go_sem ↓] Go.wp_at_zero Go.wp_at_succ

theorem field_places' (v0 v1 v2 v3 v4 : Value) (w : World) : Sem.run Try.prog (Instr.field 29 (.agg #[v0, v1, v2, v3, v4]) 0) w = .ok v0 w := by kernel_rfl

theorem leaves_bad (P : Nat → Prop) (sv : Value) (xs : List W3) (hs : Bool) (y x : W3) (w : World) (hx : Lst P w sv xs) (hmax : xs.length ≤ 9223372036854775807) (E : Int) (hE : ldE xs (nxo hs y) = E) (h0 : E ≠ 0) :
    Calls Try.prog 3 #[.agg #[sv, .bool hs, .int .i64 y.s, .int .i64 y.g, .int .u64 y.t], .agg #[.int .i64 x.s, .int .i64 x.g, .int .u64 x.t]] w fun e w' => e = .returned (.bool true) ∧ Ch NoB w w' := by
  obtain ⟨ao, cap, rfl⟩ := hx.form
  have hd : (E != 0) = true := by simpa using h0
  have HX := hid hx
  have HM := hid hmax
  have HE := hid hE
  clear hx hmax hE
  go_enter Try.func3, Try.ntmps3
  go_wp2_with fail
  refine (rload_bad ((HX.out.alloc _).alloc _) HM.out HE.out h0).mono ?_
  rintro e w1 ⟨rfl, g1⟩
  have HG := hid ((((Ch.refl NoB w).alloc _).alloc _).trans' g1)
  clear g1
  go_wp2_with fail
  refine (awake_any _).mono ?_
  rintro e w2 ⟨rfl, g2⟩
  have HG2 := hid ((HG.out.alloc _).trans' g2)
  clear g2
  go_wp2
  go_ret
  exact ⟨rfl, HG2.out⟩

set_option maxHeartbeats 2000000 in
theorem leaves_good (P : Nat → Prop) (sv : Value) (xs : List W3) (hs : Bool) (y x : W3) (w : World) (hx : Lst P w sv xs) (hE : ldE xs (nxo hs y) = 0) :
    Calls Try.prog 3 #[.agg #[sv, .bool hs, .int .i64 y.s, .int .i64 y.g, .int .u64 y.t], .agg #[.int .i64 x.s, .int .i64 x.g, .int .u64 x.t]] w fun e w' => e = .returned (.bool true) ∧ Ch NoB w w' := by
  obtain ⟨ao, cap, rfl⟩ := hx.form
  obtain ⟨hl64, _⟩ := ldE_zero hE
  obtain ⟨n, hlen⟩ : ∃ n, xs.length = n := ⟨_, rfl⟩
  rw [hlen] at hx hl64 ⊢
  obtain ⟨z, hz⟩ : ∃ z, (nxo hs y).getD W3.zero = z := ⟨_, rfl⟩
  have hnz : nxo hs z = nxo hs y := by rw [← hz]; exact nxo_getD hs y
  have his : (nxo hs y).isSome = hs := by cases hs <;> rfl
  have hm : xs.length ≤ 9223372036854775807 := by omega
  have HX := hid hx
  have HM := hid hm
  have HE := hid hE
  have HZ := hid hz
  have HNZ := hid hnz
  have HLEN := hid hlen
  have HIS := hid his
  clear hx hE hz hnz hm hlen his
  have hfp := field_places'
  go_enter Try.func3, Try.ntmps3
  go_wp2_with fail
  refine (rload_good ((HX.out.alloc _).alloc _) HM.out HE.out HZ.out).mono ?_
  rintro e w1 ⟨v, rfl, l1, g1⟩
  obtain ⟨va, vc, rfl⟩ := l1.form
  rw [HLEN.out] at l1 ⊢
  have HL1 := hid (l1.mono (Q := (· < w1.heap.size)) (fun g h _ => h))
  have B1 := (Three.new (w.alloc (.cells #[.slice ao n cap, .bool hs, .int .i64 y.s, .int .i64 y.g, .int .u64 y.t] 29)) x).ch g1 (noB _)
  simp only [World.size_alloc] at B1
  have HB1 := hid B1
  have hb1 := B1.lt
  have HG := hid ((((Ch.refl NoB w).alloc _).alloc _).trans' g1)
  have hw1 := HG.out.size
  clear g1 l1 B1
  go_wp2_with fail
  refine (load_good (HL1.out.alloc _) HM.out HNZ.out HE.out).mono ?_
  rintro e w2 ⟨a, rfl, ha, r2, g2⟩
  simp only [World.size_alloc] at ha
  have HT2 := hid ((Five.new w1 (.slice va n vc) (.bool hs) (.int .i64 z.s) (.int .i64 z.g) (.int .u64 z.t)).ch g2 (noB _))
  have HL2 := hid ((HL1.out.alloc _).ch g2 (fun _ _ _ => noB _))
  have B2 := (HB1.out.alloc _).ch g2 (noB _)
  have HB2 := hid B2
  obtain ⟨b0, b1, b2⟩ := B2.cells
  have HR2 := hid r2
  have HG2 := hid ((HG.out.alloc _).trans' g2)
  have ha2 := r2.lt
  clear g2 r2 B2
  go_wp2_with fail
  clear b0 b1 b2
  refine (put_any a x xs (nxo hs y) _ HR2.out).mono ?_
  rintro e w3 ⟨v3, rfl, l3, r3, g3⟩
  obtain ⟨la, lc, rfl⟩ := l3.form
  have T3 := HT2.out.ch g3 (fun e => by have : w1.heap.size = a := e; omega)
  have HT3 := hid T3
  obtain ⟨t0, t1, t2, t3, t4⟩ := T3.cells
  have HTL3 := hid (HL2.out.ch g3 (fun g _ h e => by have : g = a := e; omega))
  have B3 := HB2.out.ch g3 (fun e => by have : w.heap.size + 1 = a := e; omega)
  have HB3 := hid B3
  obtain ⟨b0, b1, b2⟩ := B3.cells
  have HR3 := hid r3
  have HL3 := hid l3
  have HG3 := hid (HG2.out.trans g3 (fun q e => .inr (by have : q = a := e; omega)))
  clear g3 r3 l3 T3 B3
  cases hbad : putBad xs (nxo hs y) x with
  | true =>
    have e1 : putE xs (nxo hs y) x = 20 := by unfold putE; rw [hbad]; rfl
    have e2 : putL xs (nxo hs y) x = [] := by unfold putL; rw [hbad]; rfl
    have e3 : putP xs (nxo hs y) x = xs := by unfold putP; rw [hbad]; rfl
    rw [e3] at HR3
    rw [e1, e2]
    have hS := fun w2 (h2 : RingAt w2 a xs (nxo hs y)) => state_any a xs (nxo hs y) w2 h2
    rw [HIS.out, HZ.out] at hS
    have HS := hid hS
    clear e1 e2 e3 hbad hS HL3
    go_wp2
    go_region_held3 (fun w' => w'.cell? ⟨w1.heap.size, 0, none⟩ = some (.slice va n vc) ∧ w'.cell? ⟨w1.heap.size, 1, none⟩ = some (.bool hs) ∧ w'.cell? ⟨w1.heap.size, 2, none⟩ = some (.int .i64 z.s) ∧ w'.cell? ⟨w1.heap.size, 3, none⟩ = some (.int .i64 z.g) ∧ w'.cell? ⟨w1.heap.size, 4, none⟩ = some (.int .u64 z.t)) (first | (simp only [m0, m1, m2, m3, m4, and_self]; done) | (simp only [k0, k1, k2, k3, k4, and_self]; done) | (go_keep; done))
      (first
        | (go_at_call 11; refine (HS.out _ HR3.out.drew).mono ?_; rintro e w5 ⟨v5, rfl, l5, g5⟩; obtain ⟨sa, sc, rfl⟩ := l5.form; obtain ⟨k0, k1, k2, k3, k4⟩ := (HT3.out.drew.ch g5 (noB _)).cells; have HL5 := hid l5; have HG5 := hid g5; clear l5 g5)
        | (go_at_call 10; refine (same_eq _ _ _ _ xs hs z _ HL5.out (HTL3.out.drew.ch HG5.out (fun _ _ _ => noB _)) (by rw [HLEN.out]; omega)).mono ?_; rintro e w6 ⟨rfl, g6⟩; obtain ⟨m0, m1, m2, m3, m4⟩ := ((HT3.out.drew.ch HG5.out (noB _)).ch g6 (noB _)).cells; have HG6 := hid g6; clear g6))
    all_goals go_wp2
    all_goals go_ret
    all_goals exact ⟨rfl, (HG3.out.drew.trans' HG5.out).trans' HG6.out⟩
  | false =>
    have e1 : putE xs (nxo hs y) x = 0 := by unfold putE; rw [hbad]; rfl
    have e2 : putL xs (nxo hs y) x = behindL xs x := by unfold putL; rw [hbad]; rfl
    have e3 : putP xs (nxo hs y) x = behindP xs x := by unfold putP; rw [hbad]; rfl
    rw [e3] at HR3
    rw [e2] at HL3
    rw [e1, e2]
    clear e1 e2 e3 hbad
    by_cases hn : n < 64
    · have e4 : behindL xs x = [] := by unfold behindL; rw [HLEN.out, if_pos hn]
      have e5 : behindP xs x = xs ++ [x] := by unfold behindP; rw [HLEN.out, if_pos hn]
      rw [e5] at HR3
      rw [e4]
      clear e4 e5
      have hLn := fun w2 (h2 : RingAt w2 a (xs ++ [x]) (nxo hs y)) => len_any a (xs ++ [x]) (nxo hs y) w2 h2
      obtain ⟨N, hN⟩ : ∃ N, N = n + (nxo hs y).toList.length := ⟨_, rfl⟩
      have hN2 : (xs ++ [x]).length + (nxo hs y).toList.length = N + 1 := by rw [List.length_append, HLEN.out, hN]; simp; omega
      have hN3 : N ≤ 65 := by rw [hN]; cases hs <;> simp [nxo] <;> omega
      rw [hN2] at hLn
      have hRL := fun w2 (h2 : Lst (· < w1.heap.size) w2 (.slice va n vc) xs) => rlen_any _ _ xs hs z w2 h2 (by rw [HLEN.out]; omega)
      rw [HNZ.out, HLEN.out, ← hN] at hRL
      have HLN := hid hLn
      have HRL := hid hRL
      have r1 : IntKind.i64.wrap ((N : Int) + 1) = (N : Int) + 1 := by rw [IntKind.wrap_i64]; omega
      clear hLn hRL hN hN2
      go_wp2
      go_region_held3 (fun w' => w'.cell? ⟨w1.heap.size, 0, none⟩ = some (.slice va n vc) ∧ w'.cell? ⟨w1.heap.size, 1, none⟩ = some (.bool hs) ∧ w'.cell? ⟨w1.heap.size, 2, none⟩ = some (.int .i64 z.s) ∧ w'.cell? ⟨w1.heap.size, 3, none⟩ = some (.int .i64 z.g) ∧ w'.cell? ⟨w1.heap.size, 4, none⟩ = some (.int .u64 z.t)) (first | (simp only [m0, m1, m2, m3, m4, and_self]; done) | (go_keep; done))
        (first
          | (go_at_call 12; refine (HLN.out _ HR3.out.drew).mono ?_; rintro e w5 ⟨rfl, rfl⟩)
          | (go_at_call 13; refine (HRL.out _ HTL3.out.drew).mono ?_; rintro e w6 ⟨rfl, g6⟩; obtain ⟨m0, m1, m2, m3, m4⟩ := (HT3.out.drew.ch g6 (noB _)).cells; have HG6 := hid g6; clear g6))
      all_goals go_wp2
      all_goals go_ret
      all_goals exact ⟨rfl, HG3.out.drew.trans' HG6.out⟩
    · have hn64 : n = 64 := by omega
      subst hn64
      have e4 : behindL xs x = xs.take 32 ++ [x] := by unfold behindL; rw [HLEN.out, if_neg hn]
      have e5 : behindP xs x = xs.drop 32 := by unfold behindP; rw [HLEN.out, if_neg hn]
      have e6 : (xs.take 32 ++ [x]).length = 33 := by rw [List.length_append, List.length_take, HLEN.out]; rfl
      rw [e5] at HR3
      rw [e4, e6] at HL3 ⊢
      have hx32 : (xs.take 32 ++ [x])[32]? = some x := by
        have e : (xs.take 32).length = 32 := by rw [List.length_take, HLEN.out]; rfl
        rw [List.getElem?_append_right (by omega), e]
        rfl
      obtain ⟨g, o, rfl, hg2, hg3, k0, k1, k2⟩ := HL3.out.get hx32
      obtain ⟨p, hp⟩ : ∃ p, xs[0]? = some p := ⟨_, List.getElem?_eq_getElem (by rw [HLEN.out]; omega)⟩
      obtain ⟨tg, to, rfl, htg, htg3, _⟩ := HTL3.out.get hp
      have hvc : 64 ≤ vc := by
        obtain ⟨_, _, he, ⟨hc, _⟩, _⟩ := HTL3.out
        injection he with h1 h2 h3
        rw [HLEN.out] at hc
        omega
      have hlc : 33 ≤ lc := by
        obtain ⟨_, _, he, ⟨hc, _⟩, _⟩ := HL3.out
        injection he with h1 h2 h3
        rw [e6] at hc
        omega
      have i1 : (32 : Int) ≤ (lc : Int) := by omega
      have i2 : (32 : Int) ≤ (vc : Int) := by omega
      have i3 : (64 : Int) ≤ (vc : Int) := by omega
      have i4 : ¬ (vc = 32) := by omega
      have LT1 : ∀ w9, Lst (w2.heap.size ≤ ·) w9 (.slice (some ⟨g, o, none⟩) 33 lc) (xs.take 32 ++ [x]) → Lst (w2.heap.size ≤ ·) w9 (.slice (some ⟨g, o, none⟩) 32 lc) (xs.take 32) := by
        intro w9 h2
        have := h2.take 32 (by omega)
        have e : (xs.take 32 ++ [x]).take 32 = xs.take 32 := by
          have e : (xs.take 32).length = 32 := by rw [List.length_take, HLEN.out]; rfl
          rw [List.take_append_of_le_length (by omega), List.take_of_length_le (by omega)]
        rw [e] at this
        exact this
      have LT2 : ∀ w2, Lst (· < w1.heap.size) w2 (.slice (some ⟨tg, to, none⟩) 64 vc) xs → Lst (· < w1.heap.size) w2 (.slice (some ⟨tg, to, none⟩) 32 vc) (xs.take 32) := fun w2 h2 => h2.take 32 (by omega)
      have LT3 : ∀ w2, Lst (· < w1.heap.size) w2 (.slice (some ⟨tg, to, none⟩) 64 vc) xs → Lst (· < w1.heap.size) w2 (.slice (some ⟨tg, to + 96, none⟩) 32 (vc - 32)) (xs.drop 32) := by
        intro w2 h2
        obtain ⟨g', o', e, h⟩ := h2.drop 32 (by omega)
        injection e with e1 e2
        subst e1 e2
        exact h
      have HLT1 := hid LT1
      have HLT2 := hid LT2
      have HLT3 := hid LT3
      have hS := fun w2 (h2 : RingAt w2 a (xs.drop 32) (nxo hs y)) => state_any a (xs.drop 32) (nxo hs y) w2 h2
      rw [HIS.out, HZ.out] at hS
      have HS := hid hS
      have HD32 : Hid ((xs.drop 32).length = 32) := by show _ = _; rw [List.length_drop, HLEN.out]
      have HT32 : Hid ((xs.take 32).length = 32) := by show _ = _; rw [List.length_take, HLEN.out]; rfl
      have hga : g ≠ a := by omega
      clear LT1 LT2 LT3 hS e4 e5 e6 hx32 hp hvc hlc
      simp only [Nat.reduceMul] at k0 k1 k2
      have hw1' : IntKind.i64.wrap 32 = 32 := by rw [IntKind.wrap_i64]; rfl
      have hw2' : IntKind.i64.wrap ((33 : Int) - 1) = 32 := by rw [IntKind.wrap_i64]; rfl
      go_wp2
      go_region_held3 (fun w' => w'.cell? ⟨w1.heap.size, 0, none⟩ = some (.slice (some ⟨tg, to, none⟩) 64 vc) ∧ w'.cell? ⟨w.heap.size + 1, 0, none⟩ = some (.int .i64 x.s) ∧ w'.cell? ⟨w.heap.size + 1, 1, none⟩ = some (.int .i64 x.g) ∧ w'.cell? ⟨w.heap.size + 1, 2, none⟩ = some (.int .u64 x.t) ∧ w'.cell? ⟨g, o + 96, none⟩ = some (.int .i64 x.s) ∧ w'.cell? ⟨g, o + 96 + 1, none⟩ = some (.int .i64 x.g) ∧ w'.cell? ⟨g, o + 96 + 2, none⟩ = some (.int .u64 x.t)) (first | (simp only [j0, j1, j2, j3, j4, j5, j6, and_self]; done) | (go_keep; done))
        (first
          | (go_at_call 14; refine (sameList_eq _ _ _ _ (xs.drop 32) _ HL5.out (HLT3.out _ ((HTL3.out.drewN _).ch HG5.out (fun _ _ _ => noB _))) (by rw [HD32.out]; omega)).mono ?_; rintro e w6 ⟨rfl, m6, rfl⟩)
          | (go_at_call 14; refine (sameList_eq _ _ _ _ (xs.take 32) _ (HLT1.out _ HL3.out.drew) (HLT2.out _ HTL3.out.drew) (by rw [HT32.out]; omega)).mono ?_; rintro e w4 ⟨rfl, m4, rfl⟩)
          | (go_at_call 11; refine (HS.out _ (HR3.out.drewN _)).mono ?_; rintro e w5 ⟨v5, rfl, l5, g5⟩; obtain ⟨sa, sc, rfl⟩ := l5.form; rw [HD32.out] at l5 ⊢; have j0 := (HT3.out.drewN _ |>.ch g5 (noB _)).cells.1; obtain ⟨j1, j2, j3⟩ := (HB3.out.drewN _ |>.ch g5 (noB _)).cells; have j4 := (g5.cell (b := g) hg3 (noB _)).trans k0; have j5 := (g5.cell (b := g) hg3 (noB _)).trans k1; have j6 := (g5.cell (b := g) hg3 (noB _)).trans k2; have HL5 := hid l5; have HG5 := hid g5; clear l5 g5))
      all_goals go_wp2
      all_goals go_ret
      all_goals exact ⟨rfl, ((HG3.out.drewN _).trans' HG5.out).drewN _⟩

theorem leaves_law (sv : Value) (xs : List W3) (hs : Bool) (y : W3) (x : W3) (w : World) (hx : Lst (fun _ => True) w sv xs) (hmax : xs.length ≤ 9223372036854775807) :
    Calls Try.prog 3 #[.agg #[sv, .bool hs, .int .i64 y.s, .int .i64 y.g, .int .u64 y.t], .agg #[.int .i64 x.s, .int .i64 x.g, .int .u64 x.t]] w fun e w' => e = .returned (.bool true) ∧ Ch NoB w w' := by
  by_cases h : ldE xs (nxo hs y) = 0
  · exact leaves_good _ sv xs hs y x w hx h
  · exact leaves_bad _ sv xs hs y x w hx hmax _ rfl h
end Go.Proofs.Ytfodjkdioddbjab.Rg
