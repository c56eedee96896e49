/-
  The statement's walk: RingOldest answers true at any state. Condition: the state's list is there.
-/
import Derived.Test.YtfodjkdioddbjaaRgLaw0
namespace Go.Proofs.Ytfodjkdioddbjaa.Rg
open Go.RowKit
attribute [local go_sem ↓] Go.wp_at_zero Go.wp_at_succ

theorem oldest_bad (P : Nat → Prop) (sv : Value) (xs : List W3) (hs : Bool) (y : W3) (w : World) (hx : Lst P w sv xs) (hmax : xs.length ≤ 9223372036854775807) (E : Int) (hE : ldE xs (nxo hs y) = E) (h0 : E ≠ 0) :
    Calls Try.prog 7 #[.agg #[sv, .bool hs, .int .i64 y.s, .int .i64 y.g, .int .u64 y.t]] w fun e w' => e = .returned (.bool true) ∧ Ch NoB w w' := by
  obtain ⟨ao, cap, rfl⟩ := hx.form
  have hd : (E != 0) = true := by simpa using h0
  have HX := hid hx
  have HM := hid hmax
  have HE := hid hE
  clear hx hmax hE
  go_enter Try.func7, Try.ntmps7
  go_wp2_with fail
  refine (rload_bad (HX.out.alloc _) HM.out HE.out h0).mono ?_
  rintro e w1 ⟨rfl, g1⟩
  have F := (Five.new w (.slice ao xs.length cap) (.bool hs) (.int .i64 y.s) (.int .i64 y.g) (.int .u64 y.t)).ch g1 (noB _)
  obtain ⟨f0, f1, f2, f3, f4⟩ := F.cells
  have hlt1 := F.lt
  have HX1 := hid ((HX.out.alloc _).ch g1 (fun _ _ _ => noB _))
  have HG := hid (((Ch.refl NoB w).alloc _).trans' g1)
  clear F g1
  go_wp2_with fail
  refine (load_bad (HX1.out.alloc _) HM.out HE.out h0).mono ?_
  rintro e w2 ⟨rfl, g2⟩
  have HG2 := hid ((HG.out.alloc _).trans' g2)
  clear g2
  go_wp2
  go_ret
  exact ⟨rfl, HG2.out⟩

theorem oldest_good (P : Nat → Prop) (sv : Value) (xs : List W3) (hs : Bool) (y : W3) (w : World) (hx : Lst P w sv xs) (hmax : xs.length ≤ 9223372036854775807) (hE : ldE xs (nxo hs y) = 0) :
    Calls Try.prog 7 #[.agg #[sv, .bool hs, .int .i64 y.s, .int .i64 y.g, .int .u64 y.t]] w fun e w' => e = .returned (.bool true) ∧ Ch NoB w w' := by
  obtain ⟨ao, cap, rfl⟩ := hx.form
  obtain ⟨hl64, hup⟩ := ldE_zero hE
  have hE0 := ldE_none hE
  obtain ⟨z, hz⟩ : ∃ z, (nxo hs y).getD W3.zero = z := ⟨_, rfl⟩
  have hnz : nxo hs z = nxo hs y := by rw [← hz]; exact nxo_getD hs y
  have HX := hid hx
  have HM := hid hmax
  have HE := hid hE
  have HE0 := hid hE0
  have HZ := hid hz
  have HNZ := hid hnz
  clear hx hmax hE hE0 hz hnz hup
  go_enter Try.func7, Try.ntmps7
  go_wp2_with fail
  refine (rload_good (HX.out.alloc _) HM.out HE.out HZ.out).mono ?_
  rintro e w1 ⟨v, rfl, l1, g1⟩
  obtain ⟨va, vc, rfl⟩ := l1.form
  have F := (Five.new w (.slice ao xs.length cap) (.bool hs) (.int .i64 y.s) (.int .i64 y.g) (.int .u64 y.t)).ch g1 (noB _)
  have HF := hid F
  have hlt1 := F.lt
  have HL1 := hid (l1.mono (Q := (· < w1.heap.size)) (fun g h _ => h))
  have HG := hid (((Ch.refl NoB w).alloc _).trans' g1)
  clear F g1 l1
  go_wp2_with fail
  refine (load_good (HL1.out.alloc _) HM.out HNZ.out HE.out).mono ?_
  rintro e w2 ⟨a, rfl, ha, r2, g2⟩
  simp only [World.size_alloc] at ha
  have T := (Five.new w1 (.slice va xs.length vc) (.bool hs) (.int .i64 z.s) (.int .i64 z.g) (.int .u64 z.t)).ch g2 (noB _)
  have HT := hid T
  obtain ⟨t0, t1, t2, t3, t4⟩ := T.cells
  obtain ⟨z0, z1, z2, z3, z4⟩ := T.fz
  have hlt2 := T.lt
  have HF2 := hid ((HF.out.alloc _).ch g2 (noB _))
  have HL2 := hid ((HL1.out.alloc _).ch g2 (fun _ _ _ => noB _))
  have HR2 := hid r2
  have HG2 := hid ((HG.out.alloc _).trans' g2)
  clear T g2 r2
  go_wp2_with fail
  obtain ⟨w3, hw3⟩ : ∃ w3, w3 = (((w2.setCell ⟨w1.heap.size, 1, none⟩ (.bool false)).setCell ⟨w1.heap.size, 2, none⟩ (.int .i64 0)).setCell ⟨w1.heap.size, 3, none⟩ (.int .i64 0)).setCell ⟨w1.heap.size, 4, none⟩ (.int .u64 0) := ⟨_, rfl⟩
  have C3 : Ch (Only w1.heap.size) w2 w3 := by rw [hw3]; exact ((((Ch.refl _ _).own _ _).own _ _).own _ _).own _ _
  have T3 : Five w3 w1.heap.size (.slice va xs.length vc) (.bool false) (.int .i64 0) (.int .i64 0) (.int .u64 0) := by rw [hw3]; exact HT.out.put _ _ _ _
  rw [← hw3]
  clear hw3 t0 t1 t2 t3 t4 z0 z1 z2 z3 z4
  have HL3 := hid (HL2.out.ch C3 (fun g _ h e => by have : g = w1.heap.size := e; omega))
  have HF3 := hid (HF2.out.ch C3 (fun e => by have : w.heap.size = w1.heap.size := e; omega))
  have HR3 := hid (HR2.out.ch C3 (fun e => by have : a = w1.heap.size := e; omega))
  have HG3 := hid (HG2.out.trans C3 (fun q e => .inr (by have : q = w1.heap.size := e; omega)))
  have HT3 := hid T3
  clear C3 T3
  refine (load_good (hs := false) (y := W3.zero) (nx := none) HL3.out HM.out rfl HE0.out).mono ?_
  rintro e w4 ⟨b, rfl, hb, r4, g4⟩
  have hlt3 := HR3.out.lt
  have HR4 := hid r4
  have HRA4 := hid (HR3.out.ch g4 (noB _))
  have HF4 := hid (HF3.out.ch g4 (noB _))
  have HT4 := hid (HT3.out.ch g4 (noB _))
  have HL4 := hid (HL3.out.ch g4 (fun _ _ _ => noB _))
  have HG4 := hid (HG3.out.trans' g4)
  have hw3 : w1.heap.size < w3.heap.size := HT3.out.lt
  clear r4 g4
  go_wp2_with fail
  refine (take_any b xs none _ HR4.out).mono ?_
  rintro e w5 ⟨rfl, _, g5⟩
  have HRA5 := hid (HRA4.out.ch g5 (fun e => by have : a = b := e; omega))
  have HF5 := hid (HF4.out.ch g5 (fun e => by have : w.heap.size = b := e; omega))
  have HT5 := hid (HT4.out.ch g5 (fun e => by have : w1.heap.size = b := e; omega))
  have HL5 := hid (HL4.out.ch g5 (fun g _ h e => by have : g = b := e; omega))
  have HG5 := hid (HG4.out.trans g5 (fun q e => .inr (by have : q = b := e; have := HG.out.size; omega)))
  have hw5 : w1.heap.size < w5.heap.size := HT5.out.lt
  have ha5 : a < w5.heap.size := HRA5.out.lt
  clear g5
  go_wp2_with fail
  refine (new_ex _).mono ?_
  rintro e w6 ⟨c, rfl, hc, r6, g6⟩
  simp only [World.size_alloc] at hc
  have HX6 := hid ((Three.new w5 (tkX xs none)).ch g6 (noB _))
  have HRA6 := hid ((HRA5.out.alloc _).ch g6 (noB _))
  have HF6 := hid ((HF5.out.alloc _).ch g6 (noB _))
  have HT6 := hid ((HT5.out.alloc _).ch g6 (noB _))
  have HL6 := hid ((HL5.out.alloc _).ch g6 (fun _ _ _ => noB _))
  have HG6 := hid ((HG5.out.alloc _).trans' g6)
  have HR6 := hid r6
  clear g6 r6
  go_wp2_with fail
  refine (steal_any a c xs (nxo hs y) [] none _ HRA6.out HR6.out (by omega)).mono ?_
  rintro e w7 ⟨rfl, _, _, g7⟩
  have hnS : ∀ k, k ≤ w5.heap.size → k ≠ a → ¬ Two a c k := fun k h1 h2 e => by rcases e with e | e <;> omega
  have X7 := HX6.out.ch g7 (hnS _ (Nat.le_refl _) (by omega))
  have F7 := HF6.out.ch g7 (hnS _ (by omega) (by omega))
  have T7 := HT6.out.ch g7 (hnS _ (by omega) (by omega))
  have HL7 := hid (HL6.out.ch g7 (fun g _ h => hnS g (by omega) (by omega)))
  have HG7 := hid (HG6.out.trans g7 (fun q e => .inr (by rcases e with e | e <;> (have := HG.out.size; omega))))
  obtain ⟨x0, x1, x2⟩ := X7.cells
  obtain ⟨f0, f1, f2, f3, f4⟩ := F7.cells
  obtain ⟨t0, t1, t2, t3, t4⟩ := T7.cells
  have hltX := X7.lt
  have hltF := F7.lt
  have hltT := T7.lt
  clear g7 hnS X7 F7 T7
  cases xs with
  | nil =>
    cases hs with
    | false =>
      go_wp2
      go_ret
      exact ⟨rfl, HG7.out.alloc _⟩
    | true =>
      have e1 : stX [] (nxo true y) [] none = y := rfl
      have e2 : stE [] (nxo true y) [] none = 0 := rfl
      rw [e1, e2]
      clear e1 e2
      go_wp2
      go_ret
      exact ⟨rfl, HG7.out.alloc _⟩
  | cons q r =>
    have e1 : stX (q :: r) (nxo hs y) [] none = q := rfl
    have e2 : stE (q :: r) (nxo hs y) [] none = 0 := rfl
    have e3 : tkX (q :: r) none = q := rfl
    have e4 : tkE (q :: r) none = 0 := rfl
    rw [e1, e2]
    rw [e3] at x0 x1 x2 ⊢
    rw [e4]
    clear e1 e2 e3 e4
    obtain ⟨g, o, rfl, _, hg7, k0, k1, k2⟩ := HL7.out.get (i := 0) (x := q) rfl
    simp only [Nat.zero_mul, Nat.add_zero] at k0 k1 k2
    have hlen : (0 : Int) < ((r.length + 1 : Nat) : Int) := by omega
    simp only [List.length_cons] at *
    go_wp2
    go_quiet (fail)
    go_wp2
    go_ret
    exact ⟨rfl, (HG7.out.alloc _).drewN _⟩
end Go.Proofs.Ytfodjkdioddbjaa.Rg
