/-
  What Batch answers and leaves, of a queue that is there, and that the queue's list stays in its block. Condition: the queue's list is owned, and has no more than 4096 elements.
-/
import Derived.Test.YtphohfafehjafaaFfBatch
namespace Go.Proofs.Ytphohfafehjafaa.Ff
open Go.RowKit
attribute [local go_sem ↓] Go.wp_at_zero Go.wp_at_succ

/-- what a call of a queue leaves of it, its list in its block -/
def Left2 (base : Nat) (b : Nat) (v : Value) (w : World) (xs : List W3) (w' : World) : Prop := ∃ v', Que base w' b v' xs ∧ Ch (QS b v) w w' ∧ (∀ q, Blk v' q → Blk v q)

theorem batch_left2 {base b : Nat} {V v' out : Value} {w w1 w2 : World} {L xs ys : List W3} (hQ : QAt w1 b V) (hO : Own base w1 V xs) (hG : Ch NoB w w1) (hu : Own w.heap.size w1 out ys) (o2 : Own base w2 v' L) (g2 : Ch (Blk V) w1 w2)
    (b2 : ∀ q, Blk v' q → Blk V q) (hbb : b < base) (hl : L.length ≤ 4096) (hV : ∀ q, Blk V q → q < w.heap.size) (hb : b < w.heap.size) : Left2 base b V w L (w2.setCell ⟨b, 0, none⟩ v') ∧ Own w.heap.size (w2.setCell ⟨b, 0, none⟩ v') out ys := by
  have hnb : ∀ q, Blk V q → q ≠ b := fun q h => by have := (hO.blk h).1; omega
  have C1 := (Ch.refl (Only b) w2).own 0 v'
  refine ⟨⟨v', ⟨QAt.put (hQ.ch g2 (fun e => hnb b e rfl)) v', o2.ch C1 (fun q h e => hnb q (b2 q h) e), hbb, hl⟩, ?_, fun q h => b2 q h⟩, ?_⟩
  · exact ((hG.any (S := QS b V)).trans g2 (fun q e => .inl (.inr e))).trans C1 (fun q e => .inl (.inl e))
  · exact (hu.ch g2 (fun q h e => by have := (hu.blk h).1; have := hV q e; omega)).ch C1 (fun q h e => by have := (hu.blk h).1; have : q = b := e; omega)

set_option maxHeartbeats 1000000 in
set_option maxRecDepth 20000 in
theorem batch_some2 (base b n cap m : Nat) (p r d : Int) (ao : Option Addr) (xs : List W3) (w : World) (hq : QAt w b (.slice ao n cap)) (ho : Own base w (.slice ao n cap) xs) (hn : n ≤ 4096) (hxn : n = xs.length) (hbb : b < base) (hp : ¬ p < 1) (hr : ¬ r < 0)
    (hd : d = (n : Int) / p + 1) (hmn : (if d < (if r < (n : Int) then r else (n : Int)) then d else (if r < (n : Int) then r else (n : Int))) = (m : Int)) (hm : m ≤ n) :
    Calls Try.prog 20 #[.pointer (some ⟨b, 0, none⟩), .int .i64 p, .int .i64 r] w fun e w' => ∃ out, e = .returned (.tuple #[out, .int .i64 0]) ∧ Own w.heap.size w' out (xs.take m) ∧ Left2 base b (.slice ao n cap) w (xs.drop m) w' := by
  have c0 := hq.cell
  have bl := hq.lt
  have hcap : n ≤ cap := by
    obtain ⟨ao', cap', e, ⟨h1, _⟩, _⟩ := ho.lst
    injection e with e1 e2 e3
    omega
  have p0 : ¬ p = 0 := by omega
  have p1 : ((n : Int).tdiv p) = (n : Int) / p := Int.tdiv_eq_ediv_of_nonneg (by omega)
  have q0 : (0 : Int) ≤ (n : Int) / p := Int.ediv_nonneg (by omega) (by omega)
  have q1 : (n : Int) / p ≤ (n : Int) := Int.ediv_le_self _ (by omega)
  obtain ⟨e, he⟩ : ∃ e, e = (n : Int) / p := ⟨_, rfl⟩
  rw [← he] at p1 q0 q1 hd
  have w1 : IntKind.i64.wrap e = e := by rw [IntKind.wrap_i64]; omega
  have w2 : IntKind.i64.wrap (e + 1) = d := by rw [IntKind.wrap_i64]; omega
  have m0 : (0 : Int) ≤ (m : Int) := by omega
  have m1 : (m : Int) ≤ (cap : Int) := by omega
  have HC := hid (fun W (h : Own base W (.slice ao n cap) xs) => clone_any (base ≤ ·) (.slice ao m cap) (xs.take m) W (h.lst.take (by omega)) (by rw [List.length_take]; omega))
  have HD := hid (fun W (h : Own base W (.slice ao n cap) xs) => delete_head base m (.slice ao n cap) xs W h (by omega) (by omega))
  have HQ := hid hq
  have HO := hid ho
  have HL := hid (show (xs.drop m).length ≤ 4096 by rw [List.length_drop]; omega)
  have HM := hid hmn
  have HX := hid hxn
  clear hq ho he hd hmn hxn
  go_enter Try.func20, Try.ntmps20
  go_wp2_with fail
  refine wp_region_any (by kernel_rfl) ?_
  change wpAny _ _ _ _ _ _ _ (World.drew _)
  refine held_here ?_
  refine takeW_on (i := 0) 16 (v := ?v1) rfl rfl (by kernel_rfl) (by kernel_rfl) (by kernel_rfl) (fun _ _ _ h => h) (by kernel_rfl) ?hy1 ?_
  case hy1 => (go_simp; try (with_reducible rfl))
  simp only [Act.put, List.setIfInBounds_toArray, List.set_cons_zero, List.set_cons_succ]
  refine takeW_on (i := 1) 17 (v := ?v2) rfl rfl (by kernel_rfl) (by kernel_rfl) (by kernel_rfl) (fun _ _ _ h => h) (by kernel_rfl) ?hy2 ?_
  case hy2 => (go_simp; try (with_reducible rfl))
  simp only [Act.put, List.setIfInBounds_toArray, List.set_cons_zero, List.set_cons_succ]
  refine takeW_on (i := 2) 18 (v := ?v3) rfl rfl (by kernel_rfl) (by kernel_rfl) (by kernel_rfl) (fun _ _ _ h => h) (by kernel_rfl) ?hy3 ?_
  case hy3 => (go_simp; try (with_reducible rfl))
  simp only [Act.put, List.setIfInBounds_toArray, List.set_cons_zero, List.set_cons_succ]
  refine takeW_on (i := 3) 19 (v := ?v4) rfl rfl (by kernel_rfl) (by kernel_rfl) (by kernel_rfl) (fun _ _ _ h => h) (by kernel_rfl) ?hy4 ?_
  case hy4 => (go_simp; try (with_reducible rfl))
  simp only [Act.put, List.setIfInBounds_toArray, List.set_cons_zero, List.set_cons_succ]
  refine takeW_on (i := 4) 20 (v := ?v5) rfl rfl (by kernel_rfl) (by kernel_rfl) (by kernel_rfl) (fun _ _ _ h => h) (by kernel_rfl) ?hy5 ?_
  case hy5 => (go_simp; try (with_reducible rfl))
  simp only [Act.put, List.setIfInBounds_toArray, List.set_cons_zero, List.set_cons_succ]
  refine takeW_on (i := 5) 21 (v := ?v6) rfl rfl (by kernel_rfl) (by kernel_rfl) (by kernel_rfl) (fun _ _ _ h => h) (by kernel_rfl) ?hy6 ?_
  case hy6 => (go_simp; try (with_reducible rfl))
  simp only [Act.put, List.setIfInBounds_toArray, List.set_cons_zero, List.set_cons_succ]
  refine takeW_on (i := 6) 22 (v := ?v7) rfl rfl (by kernel_rfl) (by kernel_rfl) (by kernel_rfl) (fun _ _ _ h => h) (by kernel_rfl) ?hy7 ?_
  case hy7 => (go_simp; try (with_reducible rfl))
  simp only [Act.put, List.setIfInBounds_toArray, List.set_cons_zero, List.set_cons_succ]
  refine takeW_on (i := 7) 23 (v := ?v8) rfl rfl (by kernel_rfl) (by kernel_rfl) (by kernel_rfl) (fun _ _ _ h => h) (by kernel_rfl) ?hy8 ?_
  case hy8 => (go_simp; try (with_reducible rfl))
  simp only [Act.put, List.setIfInBounds_toArray, List.set_cons_zero, List.set_cons_succ]
  refine takeW_on (i := 8) 24 (v := ?v9) rfl rfl (by kernel_rfl) (by kernel_rfl) (by kernel_rfl) (fun _ _ _ h => h) (by kernel_rfl) ?hy9 ?_
  case hy9 => (go_simp; try (with_reducible rfl))
  simp only [Act.put, List.setIfInBounds_toArray, List.set_cons_zero, List.set_cons_succ]
  refine takeW_on (i := 9) 25 (v := ?v10) rfl rfl (by kernel_rfl) (by kernel_rfl) (by kernel_rfl) (fun _ _ _ h => h) (by kernel_rfl) ?hy10 ?_
  case hy10 => (go_simp; try (with_reducible rfl))
  simp only [Act.put, List.setIfInBounds_toArray, List.set_cons_zero, List.set_cons_succ]
  refine takeW_on (i := 10) 26 (v := ?v11) rfl rfl (by kernel_rfl) (by kernel_rfl) (by kernel_rfl) (fun _ _ _ h => h) (by kernel_rfl) ?hy11 ?_
  case hy11 => (go_simp; try (with_reducible rfl))
  simp only [Act.put, List.setIfInBounds_toArray, List.set_cons_zero, List.set_cons_succ]
  refine takeW_on (i := 11) 27 (v := ?v12) rfl rfl (by kernel_rfl) (by kernel_rfl) (by kernel_rfl) (fun _ _ _ h => h) (by kernel_rfl) ?hy12 ?_
  case hy12 => (go_simp; try (with_reducible rfl))
  simp only [Act.put, List.setIfInBounds_toArray, List.set_cons_zero, List.set_cons_succ]
  refine takeW_on (i := 12) 28 (v := ?v13) rfl rfl (by kernel_rfl) (by kernel_rfl) (by kernel_rfl) (fun _ _ _ h => h) (by kernel_rfl) ?hy13 ?_
  case hy13 => (go_simp; try (with_reducible rfl))
  simp only [Act.put, List.setIfInBounds_toArray, List.set_cons_zero, List.set_cons_succ]
  refine takeW_on (i := 13) 29 (v := ?v14) rfl rfl (by kernel_rfl) (by kernel_rfl) (by kernel_rfl) (fun _ _ _ h => h) (by kernel_rfl) ?hy14 ?_
  case hy14 => (go_simp; try (with_reducible rfl))
  simp only [Act.put, List.setIfInBounds_toArray, List.set_cons_zero, List.set_cons_succ]
  refine takeW_on (i := 14) 30 (v := .int .i64 (m : Int)) rfl rfl (by kernel_rfl) (by kernel_rfl) (by kernel_rfl) (fun _ _ _ h => h) (by kernel_rfl) ?hyMIN ?_
  case hyMIN => (go_simp; exact HM.out)
  simp only [Act.put, List.setIfInBounds_toArray, List.set_cons_zero, List.set_cons_succ]
  refine takeW_on (i := 15) 8 (v := ?v16) rfl rfl (by kernel_rfl) (by kernel_rfl) (by kernel_rfl) (fun _ _ _ h => h) (by kernel_rfl) ?hy16 ?_
  case hy16 => (go_simp; try (with_reducible rfl))
  simp only [Act.put, List.setIfInBounds_toArray, List.set_cons_zero, List.set_cons_succ]
  refine wpAnyH_done (by kernel_rfl) ?_ _
  go_wp2_with fail
  refine (HC.out _ HO.out.drew).mono ?_
  rintro e w3 ⟨v3, rfl, o3, g3⟩
  obtain ⟨ao3, cap3, rfl⟩ := o3.form
  have HQ3 := hid (HQ.out.drew.ch g3 (noB _))
  have HO3 := hid (Own.ch HO.out.drew g3 (fun _ _ => noB _))
  have HU := hid o3
  have HG := hid ((Ch.refl NoB w).drew.trans' g3)
  have c3 := HQ3.out.cell
  have l3 := HQ3.out.lt
  clear o3 g3
  go_wp2_with fail
  refine (HD.out _ HO3.out).mono ?_
  rintro e w4 ⟨v4, rfl, o4, g4, b4⟩
  obtain ⟨ao4, cap4, rfl⟩ := o4.form
  have hF := batch_left2 HQ3.out HO3.out HG.out HU.out o4 g4 b4 hbb HL.out (fun q h => (HO.out.blk h).2) bl
  simp only [List.length_drop] at hF
  have HF := hid hF
  clear hF
  have q4 := HQ3.out.ch g4 (fun e => by have := (HO3.out.blk e).1; omega)
  have c4 := q4.cell
  have z4 := q4.fz
  have l4 := q4.lt
  clear q4 o4 g4 b4
  go_wp2
  exact bodyPost_ret (v := .tuple #[.slice ao3 (xs.take m).length cap3, .int .i64 0]) (by simp [results, Try.results20, go_sem]) rfl ⟨_, rfl, HF.out.2, HF.out.1⟩

theorem batch_any2 (base b : Nat) (v : Value) (p r : Int) (xs : List W3) (w : World) (hq : Que base w b v xs) (hp : ¬ p < 1) (hr : ¬ r < 0) :
    Calls Try.prog 20 #[.pointer (some ⟨b, 0, none⟩), .int .i64 p, .int .i64 r] w fun e w' => ∃ out, e = .returned (.tuple #[out, .int .i64 0]) ∧ Own w.heap.size w' out (xs.take (batchN p r xs.length)) ∧ Left2 base b v w (xs.drop (batchN p r xs.length)) w' := by
  obtain ⟨ao, cap, rfl⟩ := hq.2.1.form
  have q0 : (0 : Int) ≤ (xs.length : Int) / p := Int.ediv_nonneg (by omega) (by omega)
  refine batch_some2 base b xs.length cap (batchN p r xs.length) p r _ ao xs w hq.1 hq.2.1 hq.2.2.2 rfl hq.2.2.1 hp hr rfl ?_ (batchN_le _ _ _)
  unfold batchN
  generalize (xs.length : Int) / p = e at *
  simp only [Nat.min_def]
  repeat' split
  all_goals omega
end Go.Proofs.Ytphohfafehjafaa.Ff
