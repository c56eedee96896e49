/-
  What Put answers and leaves, of a queue that is there. Condition: the queue's list is owned, has no more than 4096 elements, and its turns rise.
-/
import Derived.Test.YtphohfafehjafaaFfRegion
namespace Go.Proofs.Ytphohfafehjafaa.Ff
open Go.RowKit
attribute [local go_sem ↓] Go.wp_at_zero Go.wp_at_succ

theorem put_left {base b : Nat} {V v' : Value} {w w2 w3 : World} {L xs : List W3} {O : Obj} (hQ : QAt w2 b V) (hO : Own base w2 V xs) (hG : Ch NoB w w2) (o3 : Own base w3 v' L) (g3 : Ch (Blk V) (w2.drew.alloc O) w3)
    (b3 : ∀ q, Blk v' q → Blk V q ∨ (w2.drew.alloc O).heap.size ≤ q) (hbb : b < base) (hl : L.length ≤ 4096) : Left base b V w L (w3.setCell ⟨b, 0, none⟩ v') := by
  have hnb : ∀ q, Blk V q → q ≠ b := fun q h => by have := (hO.blk h).1; omega
  have C1 := (Ch.refl (Only b) w3).own 0 v'
  have hbw := hQ.lt
  have hz : (w2.drew.alloc O).heap.size = w2.heap.size + 1 := by simp
  have hws := hG.size
  refine ⟨v', ⟨QAt.put ((hQ.drew.alloc O).ch g3 (fun e => hnb b e rfl)) v', o3.ch C1 (fun q h e => ?_), hbb, hl⟩, ?_, fun q h => (b3 q h).imp id (fun x => by omega)⟩
  · have e' : q = b := e
    rcases b3 q h with a | a
    · exact hnb q a e'
    · omega
  · exact (((hG.drew.alloc O).any (S := QS b V)).trans g3 (fun q e => .inl (.inr e))).trans C1 (fun q e => .inl (.inl e))

set_option maxHeartbeats 1000000 in
set_option maxRecDepth 60000 in
theorem put_has (base b i n cap : Nat) (ao : Option Addr) (xs : List W3) (x : W3) (w : World) (hq : QAt w b (.slice ao n cap)) (ho : Own base w (.slice ao n cap) xs) (_hn : n ≤ 4096) (_hi : i ≤ n)
    (hP : ∀ w', QAt w' b (.slice ao n cap) → Lst (base ≤ ·) w' (.slice ao n cap) xs → w'.cell? ⟨w.heap.size, 2, none⟩ = some (.int .u64 x.t) → Calls Try.prog 28 #[.pointer (some ⟨b, 0, none⟩), .func (.func 29) #[] #[.pointer (some ⟨w.heap.size, 0, none⟩)]] w' fun e w'' => e = .returned (.int .i64 (i : Int)) ∧ Ch NoB w' w'')
    (hH : ∀ w', QAt w' b (.slice ao n cap) → Lst (base ≤ ·) w' (.slice ao n cap) xs → Calls Try.prog 17 #[.pointer (some ⟨b, 0, none⟩), .agg #[.int .i64 x.s, .int .i64 x.g]] w' fun e w'' => e = .returned (.bool true) ∧ Ch NoB w' w'') :
    Calls Try.prog 15 #[.pointer (some ⟨b, 0, none⟩), .agg #[.int .i64 x.s, .int .i64 x.g, .int .u64 x.t]] w fun e w' => e = .returned (.int .i64 30) ∧ Ch NoB w w' := by
  have hbl := hq.lt
  have HQ := hid hq
  have HO := hid ho
  have HP := hid hP
  have HH := hid hH
  clear hq ho hP hH
  go_enter Try.func15, Try.ntmps15
  go_wp2_with fail
  refine (HP.out _ (HQ.out.alloc _) (HO.out.lst.alloc _) (by simp)).mono ?_
  rintro e w1 ⟨rfl, g1⟩
  have T0 := Three.new w x
  have HT := hid (T0.ch g1 (noB _))
  have HQ1 := hid ((HQ.out.alloc _).ch g1 (noB _))
  have HO1 := hid ((HO.out.alloc (.cells #[.int .i64 x.s, .int .i64 x.g, .int .u64 x.t] 33)).ch g1 (fun _ _ => noB _))
  have HG1 := hid (((Ch.refl NoB w).alloc (.cells #[.int .i64 x.s, .int .i64 x.g, .int .u64 x.t] 33)).trans' g1)
  have hs1 := g1.size
  simp only [World.size_alloc] at hs1
  have p0 := HQ1.out.cell
  have bl1 := HQ1.out.lt
  have kl1 := HT.out.lt
  obtain ⟨q0, q1, q2⟩ := HT.out.cells
  clear T0 g1
  go_wp2_with fail
  refine wp_region_any (by kernel_rfl) ?_
  change wpAny _ _ _ _ _ _ _ (World.drew _)
  refine take_on (i := 0) 9 (v := ?v1) rfl rfl (by kernel_rfl) (by kernel_rfl) (by kernel_rfl) (fun _ _ _ h => h) (by kernel_rfl) ?hy1 ?_
  case hy1 => (intro w; go_simp; try (with_reducible rfl))
  simp only [Act.put, List.setIfInBounds_toArray, List.set_cons_zero, List.set_cons_succ]
  refine take_on (i := 1) 10 (v := ?v2) rfl rfl (by kernel_rfl) (by kernel_rfl) (by kernel_rfl) (fun _ _ _ h => h) (by kernel_rfl) ?hy2 ?_
  case hy2 => (intro w; go_simp; try (with_reducible rfl))
  simp only [Act.put, List.setIfInBounds_toArray, List.set_cons_zero, List.set_cons_succ]
  refine wpAny_ready (rs := [2]) (by kernel_rfl) (by simp) (AllReady.cons rfl (fun K hK => ?_) AllReady.nil)
  go_simp
  refine hK _ _ ?_
  clear hK K
  refine wpAny_ready (rs := [3]) (by kernel_rfl) (by simp) (AllReady.cons rfl (fun K hK => ?_) AllReady.nil)
  go_simp
  refine (HH.out _ HQ1.out.drew HO1.out.lst.drew).mono ?_
  rintro e w2 ⟨rfl, g2⟩
  have HG2 := hid (HG1.out.drew.trans' g2)
  have HT2 := hid (Three.ch (HT.out.drew) g2 (noB _))
  have HQ2 := hid (QAt.ch (HQ1.out.drew) g2 (noB _))
  have HO2 := hid (Own.ch (HO1.out.drew) g2 (fun _ _ => noB _))
  have s0 := HQ2.out.cell
  have bl2 := HQ2.out.lt
  have kl2 := HT2.out.lt
  obtain ⟨t0, t1, t2⟩ := HT2.out.cells
  clear g2
  go_wp2_with fail
  refine take_on (i := 4) 13 (v := ?v3) rfl rfl (by kernel_rfl) (by kernel_rfl) (by kernel_rfl) (fun _ _ _ h => h) (by kernel_rfl) ?hy3 ?_
  case hy3 => (intro w; go_simp; try (with_reducible rfl))
  simp only [Act.put, List.setIfInBounds_toArray, List.set_cons_zero, List.set_cons_succ]
  refine skip_on (i := 5) 14 rfl rfl (by kernel_rfl) (by kernel_rfl) (by kernel_rfl) (fun _ _ _ h => h) (by kernel_rfl) ?_
  simp only [Act.put, List.setIfInBounds_toArray, List.set_cons_zero, List.set_cons_succ]
  refine skip_on (i := 6) 15 rfl rfl (by kernel_rfl) (by kernel_rfl) (by kernel_rfl) (fun _ _ _ h => h) (by kernel_rfl) ?_
  simp only [Act.put, List.setIfInBounds_toArray, List.set_cons_zero, List.set_cons_succ]
  refine skip_on (i := 7) 16 rfl rfl (by kernel_rfl) (by kernel_rfl) (by kernel_rfl) (fun _ _ _ h => h) (by kernel_rfl) ?_
  simp only [Act.put, List.setIfInBounds_toArray, List.set_cons_zero, List.set_cons_succ]
  refine skip_on (i := 8) 17 rfl rfl (by kernel_rfl) (by kernel_rfl) (by kernel_rfl) (fun _ _ _ h => h) (by kernel_rfl) ?_
  simp only [Act.put, List.setIfInBounds_toArray, List.set_cons_zero, List.set_cons_succ]
  refine skip_on (i := 9) 18 rfl rfl (by kernel_rfl) (by kernel_rfl) (by kernel_rfl) (fun _ _ _ h => h) (by kernel_rfl) ?_
  simp only [Act.put, List.setIfInBounds_toArray, List.set_cons_zero, List.set_cons_succ]
  refine skip_on (i := 10) 19 rfl rfl (by kernel_rfl) (by kernel_rfl) (by kernel_rfl) (fun _ _ _ h => h) (by kernel_rfl) ?_
  simp only [Act.put, List.setIfInBounds_toArray, List.set_cons_zero, List.set_cons_succ]
  refine skip_on (i := 11) 20 rfl rfl (by kernel_rfl) (by kernel_rfl) (by kernel_rfl) (fun _ _ _ h => h) (by kernel_rfl) ?_
  simp only [Act.put, List.setIfInBounds_toArray, List.set_cons_zero, List.set_cons_succ]
  refine skip_on (i := 12) 21 rfl rfl (by kernel_rfl) (by kernel_rfl) (by kernel_rfl) (fun _ _ _ h => h) (by kernel_rfl) ?_
  simp only [Act.put, List.setIfInBounds_toArray, List.set_cons_zero, List.set_cons_succ]
  refine skip_on (i := 13) 22 rfl rfl (by kernel_rfl) (by kernel_rfl) (by kernel_rfl) (fun _ _ _ h => h) (by kernel_rfl) ?_
  simp only [Act.put, List.setIfInBounds_toArray, List.set_cons_zero, List.set_cons_succ]
  refine skip_on (i := 14) 23 rfl rfl (by kernel_rfl) (by kernel_rfl) (by kernel_rfl) (fun _ _ _ h => h) (by kernel_rfl) ?_
  simp only [Act.put, List.setIfInBounds_toArray, List.set_cons_zero, List.set_cons_succ]
  refine skip_on (i := 15) 24 rfl rfl (by kernel_rfl) (by kernel_rfl) (by kernel_rfl) (fun _ _ _ h => h) (by kernel_rfl) ?_
  simp only [Act.put, List.setIfInBounds_toArray, List.set_cons_zero, List.set_cons_succ]
  refine skip_on (i := 16) 25 rfl rfl (by kernel_rfl) (by kernel_rfl) (by kernel_rfl) (fun _ _ _ h => h) (by kernel_rfl) ?_
  simp only [Act.put, List.setIfInBounds_toArray, List.set_cons_zero, List.set_cons_succ]
  refine skip_on (i := 17) 26 rfl rfl (by kernel_rfl) (by kernel_rfl) (by kernel_rfl) (fun _ _ _ h => h) (by kernel_rfl) ?_
  simp only [Act.put, List.setIfInBounds_toArray, List.set_cons_zero, List.set_cons_succ]
  refine skip_on (i := 18) 27 rfl rfl (by kernel_rfl) (by kernel_rfl) (by kernel_rfl) (fun _ _ _ h => h) (by kernel_rfl) ?_
  simp only [Act.put, List.setIfInBounds_toArray, List.set_cons_zero, List.set_cons_succ]
  refine skip_on (i := 19) 28 rfl rfl (by kernel_rfl) (by kernel_rfl) (by kernel_rfl) (fun _ _ _ h => h) (by kernel_rfl) ?_
  simp only [Act.put, List.setIfInBounds_toArray, List.set_cons_zero, List.set_cons_succ]
  refine skip_on (i := 20) 29 rfl rfl (by kernel_rfl) (by kernel_rfl) (by kernel_rfl) (fun _ _ _ h => h) (by kernel_rfl) ?_
  simp only [Act.put, List.setIfInBounds_toArray, List.set_cons_zero, List.set_cons_succ]
  refine skip_on (i := 21) 30 rfl rfl (by kernel_rfl) (by kernel_rfl) (by kernel_rfl) (fun _ _ _ h => h) (by kernel_rfl) ?_
  simp only [Act.put, List.setIfInBounds_toArray, List.set_cons_zero, List.set_cons_succ]
  refine skip_on (i := 22) 31 rfl rfl (by kernel_rfl) (by kernel_rfl) (by kernel_rfl) (fun _ _ _ h => h) (by kernel_rfl) ?_
  simp only [Act.put, List.setIfInBounds_toArray, List.set_cons_zero, List.set_cons_succ]
  refine skip_on (i := 23) 32 rfl rfl (by kernel_rfl) (by kernel_rfl) (by kernel_rfl) (fun _ _ _ h => h) (by kernel_rfl) ?_
  simp only [Act.put, List.setIfInBounds_toArray, List.set_cons_zero, List.set_cons_succ]
  refine skip_on (i := 24) 33 rfl rfl (by kernel_rfl) (by kernel_rfl) (by kernel_rfl) (fun _ _ _ h => h) (by kernel_rfl) ?_
  simp only [Act.put, List.setIfInBounds_toArray, List.set_cons_zero, List.set_cons_succ]
  refine take_on (i := 25) 34 (v := ?v24) rfl rfl (by kernel_rfl) (by kernel_rfl) (by kernel_rfl) (fun _ _ _ h => h) (by kernel_rfl) ?hy24 ?_
  case hy24 => (intro w; go_simp; try (with_reducible rfl))
  simp only [Act.put, List.setIfInBounds_toArray, List.set_cons_zero, List.set_cons_succ]
  refine wpAny_done (by kernel_rfl) ?_ _
  go_wp2
  go_ret
  exact ⟨rfl, HG2.out⟩

set_option maxHeartbeats 1000000 in
set_option maxRecDepth 60000 in
theorem put_turn (base b i n cap : Nat) (g : Nat) (t : Int) (xs : List W3) (x : W3) (w : World) (hq : QAt w b (.slice (some ⟨g, 0, none⟩) n cap)) (ho : Own base w (.slice (some ⟨g, 0, none⟩) n cap) xs) (_hn : n ≤ 4096) (hi : i < n) (ha : w.cell? ⟨g, i * 3 + 2, none⟩ = some (.int .u64 t)) (ht : t = x.t) (hgl : g < w.heap.size)
    (hP : ∀ w', QAt w' b (.slice (some ⟨g, 0, none⟩) n cap) → Lst (base ≤ ·) w' (.slice (some ⟨g, 0, none⟩) n cap) xs → w'.cell? ⟨w.heap.size, 2, none⟩ = some (.int .u64 x.t) → Calls Try.prog 28 #[.pointer (some ⟨b, 0, none⟩), .func (.func 29) #[] #[.pointer (some ⟨w.heap.size, 0, none⟩)]] w' fun e w'' => e = .returned (.int .i64 (i : Int)) ∧ Ch NoB w' w'')
    (hH : ∀ w', QAt w' b (.slice (some ⟨g, 0, none⟩) n cap) → Lst (base ≤ ·) w' (.slice (some ⟨g, 0, none⟩) n cap) xs → Calls Try.prog 17 #[.pointer (some ⟨b, 0, none⟩), .agg #[.int .i64 x.s, .int .i64 x.g]] w' fun e w'' => e = .returned (.bool false) ∧ Ch NoB w' w'') :
    Calls Try.prog 15 #[.pointer (some ⟨b, 0, none⟩), .agg #[.int .i64 x.s, .int .i64 x.g, .int .u64 x.t]] w fun e w' => e = .returned (.int .i64 30) ∧ Ch NoB w w' := by
  have hbl := hq.lt
  have HQ := hid hq
  have HO := hid ho
  have HP := hid hP
  have HH := hid hH
  have HA := hid ha
  clear hq ho hP hH ha
  have i0 : (0 : Int) ≤ (i : Int) := by omega
  have i1 : (i : Int) < (n : Int) := by omega
  subst ht
  go_enter Try.func15, Try.ntmps15
  go_wp2_with fail
  refine (HP.out _ (HQ.out.alloc _) (HO.out.lst.alloc _) (by simp)).mono ?_
  rintro e w1 ⟨rfl, g1⟩
  have T0 := Three.new w x
  have HT := hid (T0.ch g1 (noB _))
  have HQ1 := hid ((HQ.out.alloc _).ch g1 (noB _))
  have HO1 := hid ((HO.out.alloc (.cells #[.int .i64 x.s, .int .i64 x.g, .int .u64 x.t] 33)).ch g1 (fun _ _ => noB _))
  have HG1 := hid (((Ch.refl NoB w).alloc (.cells #[.int .i64 x.s, .int .i64 x.g, .int .u64 x.t] 33)).trans' g1)
  have hs1 := g1.size
  simp only [World.size_alloc] at hs1
  have p0 := HQ1.out.cell
  have bl1 := HQ1.out.lt
  have kl1 := HT.out.lt
  obtain ⟨q0, q1, q2⟩ := HT.out.cells
  have gl1 : g < w1.heap.size := by omega
  have r0 : w1.cell? ⟨g, i * 3 + 2, none⟩ = some (.int .u64 x.t) := (HG1.out.cell hgl (noB _)).trans HA.out
  clear T0 g1
  go_wp2_with fail
  refine wp_region_any (by kernel_rfl) ?_
  change wpAny _ _ _ _ _ _ _ (World.drew _)
  refine take_on (i := 0) 9 (v := ?v25) rfl rfl (by kernel_rfl) (by kernel_rfl) (by kernel_rfl) (fun _ _ _ h => h) (by kernel_rfl) ?hy25 ?_
  case hy25 => (intro w; go_simp; try (with_reducible rfl))
  simp only [Act.put, List.setIfInBounds_toArray, List.set_cons_zero, List.set_cons_succ]
  refine take_on (i := 1) 10 (v := ?v26) rfl rfl (by kernel_rfl) (by kernel_rfl) (by kernel_rfl) (fun _ _ _ h => h) (by kernel_rfl) ?hy26 ?_
  case hy26 => (intro w; go_simp; try (with_reducible rfl))
  simp only [Act.put, List.setIfInBounds_toArray, List.set_cons_zero, List.set_cons_succ]
  refine wpAny_ready (rs := [2]) (by kernel_rfl) (by simp) (AllReady.cons rfl (fun K hK => ?_) AllReady.nil)
  go_simp
  refine hK _ _ ?_
  clear hK K
  refine wpAny_ready (rs := [3]) (by kernel_rfl) (by simp) (AllReady.cons rfl (fun K hK => ?_) AllReady.nil)
  go_simp
  refine (HH.out _ HQ1.out.drew HO1.out.lst.drew).mono ?_
  rintro e w2 ⟨rfl, g2⟩
  have HG2 := hid (HG1.out.drew.trans' g2)
  have HT2 := hid (Three.ch (HT.out.drew) g2 (noB _))
  have HQ2 := hid (QAt.ch (HQ1.out.drew) g2 (noB _))
  have HO2 := hid (Own.ch (HO1.out.drew) g2 (fun _ _ => noB _))
  have s0 := HQ2.out.cell
  have bl2 := HQ2.out.lt
  have kl2 := HT2.out.lt
  obtain ⟨t0, t1, t2⟩ := HT2.out.cells
  have gl2 : g < w2.heap.size := by have := g2.size; simp at this; omega
  have u0 : w2.cell? ⟨g, i * 3 + 2, none⟩ = some (.int .u64 x.t) := (HG2.out.cell hgl (noB _)).trans HA.out
  clear g2
  go_wp2_with fail
  refine held_here ?_
  refine takeW_on (i := 4) 13 (v := ?v27) rfl rfl (by kernel_rfl) (by kernel_rfl) (by kernel_rfl) (fun _ _ _ h => h) (by kernel_rfl) ?hy27 ?_
  case hy27 => (go_simp; try (with_reducible rfl))
  simp only [Act.put, List.setIfInBounds_toArray, List.set_cons_zero, List.set_cons_succ]
  refine takeW_on (i := 5) 14 (v := ?v28) rfl rfl (by kernel_rfl) (by kernel_rfl) (by kernel_rfl) (fun _ _ _ h => h) (by kernel_rfl) ?hy28 ?_
  case hy28 => (go_simp; try (with_reducible rfl))
  simp only [Act.put, List.setIfInBounds_toArray, List.set_cons_zero, List.set_cons_succ]
  refine takeW_on (i := 6) 15 (v := ?v29) rfl rfl (by kernel_rfl) (by kernel_rfl) (by kernel_rfl) (fun _ _ _ h => h) (by kernel_rfl) ?hy29 ?_
  case hy29 => (go_simp; try (with_reducible rfl))
  simp only [Act.put, List.setIfInBounds_toArray, List.set_cons_zero, List.set_cons_succ]
  refine takeW_on (i := 7) 16 (v := ?v30) rfl rfl (by kernel_rfl) (by kernel_rfl) (by kernel_rfl) (fun _ _ _ h => h) (by kernel_rfl) ?hy30 ?_
  case hy30 => (go_simp; try (with_reducible rfl))
  simp only [Act.put, List.setIfInBounds_toArray, List.set_cons_zero, List.set_cons_succ]
  refine takeW_on (i := 8) 17 (v := ?v31) rfl rfl (by kernel_rfl) (by kernel_rfl) (by kernel_rfl) (fun _ _ _ h => h) (by kernel_rfl) ?hy31 ?_
  case hy31 => (go_simp; try (with_reducible rfl))
  simp only [Act.put, List.setIfInBounds_toArray, List.set_cons_zero, List.set_cons_succ]
  refine takeW_on (i := 9) 18 (v := ?v32) rfl rfl (by kernel_rfl) (by kernel_rfl) (by kernel_rfl) (fun _ _ _ h => h) (by kernel_rfl) ?hy32 ?_
  case hy32 => (go_simp; try (with_reducible rfl))
  simp only [Act.put, List.setIfInBounds_toArray, List.set_cons_zero, List.set_cons_succ]
  refine takeW_on (i := 10) 19 (v := ?v33) rfl rfl (by kernel_rfl) (by kernel_rfl) (by kernel_rfl) (fun _ _ _ h => h) (by kernel_rfl) ?hy33 ?_
  case hy33 => (go_simp; try (with_reducible rfl))
  simp only [Act.put, List.setIfInBounds_toArray, List.set_cons_zero, List.set_cons_succ]
  refine takeW_on (i := 11) 20 (v := ?v34) rfl rfl (by kernel_rfl) (by kernel_rfl) (by kernel_rfl) (fun _ _ _ h => h) (by kernel_rfl) ?hy34 ?_
  case hy34 => (go_simp; try (with_reducible rfl))
  simp only [Act.put, List.setIfInBounds_toArray, List.set_cons_zero, List.set_cons_succ]
  refine takeW_on (i := 12) 21 (v := ?v35) rfl rfl (by kernel_rfl) (by kernel_rfl) (by kernel_rfl) (fun _ _ _ h => h) (by kernel_rfl) ?hy35 ?_
  case hy35 => (go_simp; try (with_reducible rfl))
  simp only [Act.put, List.setIfInBounds_toArray, List.set_cons_zero, List.set_cons_succ]
  refine takeW_on (i := 13) 22 (v := ?v36) rfl rfl (by kernel_rfl) (by kernel_rfl) (by kernel_rfl) (fun _ _ _ h => h) (by kernel_rfl) ?hy36 ?_
  case hy36 => (go_simp; try (with_reducible rfl))
  simp only [Act.put, List.setIfInBounds_toArray, List.set_cons_zero, List.set_cons_succ]
  refine takeW_on (i := 14) 23 (v := ?v37) rfl rfl (by kernel_rfl) (by kernel_rfl) (by kernel_rfl) (fun _ _ _ h => h) (by kernel_rfl) ?hy37 ?_
  case hy37 => (go_simp; try (with_reducible rfl))
  simp only [Act.put, List.setIfInBounds_toArray, List.set_cons_zero, List.set_cons_succ]
  refine takeW_on (i := 15) 24 (v := ?v38) rfl rfl (by kernel_rfl) (by kernel_rfl) (by kernel_rfl) (fun _ _ _ h => h) (by kernel_rfl) ?hy38 ?_
  case hy38 => (go_simp; try (with_reducible rfl))
  simp only [Act.put, List.setIfInBounds_toArray, List.set_cons_zero, List.set_cons_succ]
  refine takeW_on (i := 16) 25 (v := ?v39) rfl rfl (by kernel_rfl) (by kernel_rfl) (by kernel_rfl) (fun _ _ _ h => h) (by kernel_rfl) ?hy39 ?_
  case hy39 => (go_simp; try (with_reducible rfl))
  simp only [Act.put, List.setIfInBounds_toArray, List.set_cons_zero, List.set_cons_succ]
  refine takeW_on (i := 17) 26 (v := ?v40) rfl rfl (by kernel_rfl) (by kernel_rfl) (by kernel_rfl) (fun _ _ _ h => h) (by kernel_rfl) ?hy40 ?_
  case hy40 => (go_simp; try (with_reducible rfl))
  simp only [Act.put, List.setIfInBounds_toArray, List.set_cons_zero, List.set_cons_succ]
  refine takeW_on (i := 18) 27 (v := ?v41) rfl rfl (by kernel_rfl) (by kernel_rfl) (by kernel_rfl) (fun _ _ _ h => h) (by kernel_rfl) ?hy41 ?_
  case hy41 => (go_simp; try (with_reducible rfl))
  simp only [Act.put, List.setIfInBounds_toArray, List.set_cons_zero, List.set_cons_succ]
  refine takeW_on (i := 19) 28 (v := ?v42) rfl rfl (by kernel_rfl) (by kernel_rfl) (by kernel_rfl) (fun _ _ _ h => h) (by kernel_rfl) ?hy42 ?_
  case hy42 => (go_simp; try (with_reducible rfl))
  simp only [Act.put, List.setIfInBounds_toArray, List.set_cons_zero, List.set_cons_succ]
  refine takeW_on (i := 20) 29 (v := ?v43) rfl rfl (by kernel_rfl) (by kernel_rfl) (by kernel_rfl) (fun _ _ _ h => h) (by kernel_rfl) ?hy43 ?_
  case hy43 => (go_simp; try (with_reducible rfl))
  simp only [Act.put, List.setIfInBounds_toArray, List.set_cons_zero, List.set_cons_succ]
  refine takeW_on (i := 21) 30 (v := ?v44) rfl rfl (by kernel_rfl) (by kernel_rfl) (by kernel_rfl) (fun _ _ _ h => h) (by kernel_rfl) ?hy44 ?_
  case hy44 => (go_simp; try (with_reducible rfl))
  simp only [Act.put, List.setIfInBounds_toArray, List.set_cons_zero, List.set_cons_succ]
  refine takeW_on (i := 22) 31 (v := ?v45) rfl rfl (by kernel_rfl) (by kernel_rfl) (by kernel_rfl) (fun _ _ _ h => h) (by kernel_rfl) ?hy45 ?_
  case hy45 => (go_simp; try (with_reducible rfl))
  simp only [Act.put, List.setIfInBounds_toArray, List.set_cons_zero, List.set_cons_succ]
  refine takeW_on (i := 23) 32 (v := ?v46) rfl rfl (by kernel_rfl) (by kernel_rfl) (by kernel_rfl) (fun _ _ _ h => h) (by kernel_rfl) ?hy46 ?_
  case hy46 => (go_simp; try (with_reducible rfl))
  simp only [Act.put, List.setIfInBounds_toArray, List.set_cons_zero, List.set_cons_succ]
  refine takeW_on (i := 24) 33 (v := ?v47) rfl rfl (by kernel_rfl) (by kernel_rfl) (by kernel_rfl) (fun _ _ _ h => h) (by kernel_rfl) ?hy47 ?_
  case hy47 => (go_simp; try (with_reducible rfl))
  simp only [Act.put, List.setIfInBounds_toArray, List.set_cons_zero, List.set_cons_succ]
  refine takeW_on (i := 25) 34 (v := ?v48) rfl rfl (by kernel_rfl) (by kernel_rfl) (by kernel_rfl) (fun _ _ _ h => h) (by kernel_rfl) ?hy48 ?_
  case hy48 => (go_simp; try (with_reducible rfl))
  simp only [Act.put, List.setIfInBounds_toArray, List.set_cons_zero, List.set_cons_succ]
  refine wpAnyH_done (by kernel_rfl) ?_ _
  go_wp2
  go_ret
  exact ⟨rfl, HG2.out⟩

set_option maxHeartbeats 1000000 in
set_option maxRecDepth 60000 in
theorem put_mid (base b i n cap : Nat) (g : Nat) (t : Int) (xs : List W3) (x : W3) (w : World) (hq : QAt w b (.slice (some ⟨g, 0, none⟩) n cap)) (ho : Own base w (.slice (some ⟨g, 0, none⟩) n cap) xs) (_hn : n ≤ 4096) (hi : i < n) (ha : w.cell? ⟨g, i * 3 + 2, none⟩ = some (.int .u64 t)) (ht : ¬ t = x.t) (hgl : g < w.heap.size) (hf : n < 4096) (hxn : n = xs.length) (hb : base ≤ w.heap.size) (hbb : b < base)
    (hP : ∀ w', QAt w' b (.slice (some ⟨g, 0, none⟩) n cap) → Lst (base ≤ ·) w' (.slice (some ⟨g, 0, none⟩) n cap) xs → w'.cell? ⟨w.heap.size, 2, none⟩ = some (.int .u64 x.t) → Calls Try.prog 28 #[.pointer (some ⟨b, 0, none⟩), .func (.func 29) #[] #[.pointer (some ⟨w.heap.size, 0, none⟩)]] w' fun e w'' => e = .returned (.int .i64 (i : Int)) ∧ Ch NoB w' w'')
    (hH : ∀ w', QAt w' b (.slice (some ⟨g, 0, none⟩) n cap) → Lst (base ≤ ·) w' (.slice (some ⟨g, 0, none⟩) n cap) xs → Calls Try.prog 17 #[.pointer (some ⟨b, 0, none⟩), .agg #[.int .i64 x.s, .int .i64 x.g]] w' fun e w'' => e = .returned (.bool false) ∧ Ch NoB w' w'') :
    Calls Try.prog 15 #[.pointer (some ⟨b, 0, none⟩), .agg #[.int .i64 x.s, .int .i64 x.g, .int .u64 x.t]] w fun e w' => e = .returned (.int .i64 0) ∧ Left base b (.slice (some ⟨g, 0, none⟩) n cap) w (xs.take i ++ x :: xs.drop i) w' := by
  have hbl := hq.lt
  have HQ := hid hq
  have HO := hid ho
  have HP := hid hP
  have HH := hid hH
  have HA := hid ha
  obtain ⟨L, hL⟩ : ∃ L, L = xs.take i ++ x :: xs.drop i := ⟨_, rfl⟩
  have hI := fun (W : World) (k : Nat) (h1 : Own base W (.slice (some ⟨g, 0, none⟩) n cap) xs) (h2 : Three W k x) (h3 : base ≤ W.heap.size) (h4 : ¬ Blk (.slice (some ⟨g, 0, none⟩) n cap) k) => insert_any base k i (.slice (some ⟨g, 0, none⟩) n cap) xs x W h1 h2 (by omega) (by omega) h3 h4
  rw [← hL] at hI ⊢
  have hLl : L.length ≤ 4096 := by rw [hL, List.length_append, List.length_take, List.length_cons, List.length_drop]; omega
  have HI := hid hI
  have HLL := hid hLl
  clear hI hL hLl
  clear hq ho hP hH ha hxn
  have i0 : (0 : Int) ≤ (i : Int) := by omega
  have i1 : (i : Int) < (n : Int) := by omega
  have hteq : (t == x.t) = false := by simp only [beq_eq_false_iff_ne, ne_eq]; exact ht
  have f0 : ¬ ((4096 : Int) ≤ (n : Int)) := by omega
  have f1 : (n : Int) < 4096 := by omega
  go_enter Try.func15, Try.ntmps15
  go_wp2_with fail
  refine (HP.out _ (HQ.out.alloc _) (HO.out.lst.alloc _) (by simp)).mono ?_
  rintro e w1 ⟨rfl, g1⟩
  have T0 := Three.new w x
  have HT := hid (T0.ch g1 (noB _))
  have HQ1 := hid ((HQ.out.alloc _).ch g1 (noB _))
  have HO1 := hid ((HO.out.alloc (.cells #[.int .i64 x.s, .int .i64 x.g, .int .u64 x.t] 33)).ch g1 (fun _ _ => noB _))
  have HG1 := hid (((Ch.refl NoB w).alloc (.cells #[.int .i64 x.s, .int .i64 x.g, .int .u64 x.t] 33)).trans' g1)
  have hs1 := g1.size
  simp only [World.size_alloc] at hs1
  have p0 := HQ1.out.cell
  have bl1 := HQ1.out.lt
  have kl1 := HT.out.lt
  obtain ⟨q0, q1, q2⟩ := HT.out.cells
  have gl1 : g < w1.heap.size := by omega
  have r0 : w1.cell? ⟨g, i * 3 + 2, none⟩ = some (.int .u64 t) := (HG1.out.cell hgl (noB _)).trans HA.out
  clear T0 g1
  go_wp2_with fail
  refine wp_region_any (by kernel_rfl) ?_
  change wpAny _ _ _ _ _ _ _ (World.drew _)
  refine take_on (i := 0) 9 (v := ?v60) rfl rfl (by kernel_rfl) (by kernel_rfl) (by kernel_rfl) (fun _ _ _ h => h) (by kernel_rfl) ?hy60 ?_
  case hy60 => (intro w; go_simp; try (with_reducible rfl))
  simp only [Act.put, List.setIfInBounds_toArray, List.set_cons_zero, List.set_cons_succ]
  refine take_on (i := 1) 10 (v := ?v61) rfl rfl (by kernel_rfl) (by kernel_rfl) (by kernel_rfl) (fun _ _ _ h => h) (by kernel_rfl) ?hy61 ?_
  case hy61 => (intro w; go_simp; try (with_reducible rfl))
  simp only [Act.put, List.setIfInBounds_toArray, List.set_cons_zero, List.set_cons_succ]
  refine wpAny_ready (rs := [2]) (by kernel_rfl) (by simp) (AllReady.cons rfl (fun K hK => ?_) AllReady.nil)
  go_simp
  refine hK _ _ ?_
  clear hK K
  refine wpAny_ready (rs := [3]) (by kernel_rfl) (by simp) (AllReady.cons rfl (fun K hK => ?_) AllReady.nil)
  go_simp
  refine (HH.out _ HQ1.out.drew HO1.out.lst.drew).mono ?_
  rintro e w2 ⟨rfl, g2⟩
  have HG2 := hid (HG1.out.drew.trans' g2)
  have HT2 := hid (Three.ch (HT.out.drew) g2 (noB _))
  have HQ2 := hid (QAt.ch (HQ1.out.drew) g2 (noB _))
  have HO2 := hid (Own.ch (HO1.out.drew) g2 (fun _ _ => noB _))
  have s0 := HQ2.out.cell
  have bl2 := HQ2.out.lt
  have kl2 := HT2.out.lt
  obtain ⟨t0, t1, t2⟩ := HT2.out.cells
  have gl2 : g < w2.heap.size := by have := g2.size; simp at this; omega
  have u0 : w2.cell? ⟨g, i * 3 + 2, none⟩ = some (.int .u64 t) := (HG2.out.cell hgl (noB _)).trans HA.out
  clear g2
  go_wp2_with fail
  refine held_here ?_
  refine takeW_on (i := 4) 13 (v := ?v62) rfl rfl (by kernel_rfl) (by kernel_rfl) (by kernel_rfl) (fun _ _ _ h => h) (by kernel_rfl) ?hy62 ?_
  case hy62 => (go_simp; try (with_reducible rfl))
  simp only [Act.put, List.setIfInBounds_toArray, List.set_cons_zero, List.set_cons_succ]
  refine takeW_on (i := 5) 14 (v := ?v63) rfl rfl (by kernel_rfl) (by kernel_rfl) (by kernel_rfl) (fun _ _ _ h => h) (by kernel_rfl) ?hy63 ?_
  case hy63 => (go_simp; try (with_reducible rfl))
  simp only [Act.put, List.setIfInBounds_toArray, List.set_cons_zero, List.set_cons_succ]
  refine takeW_on (i := 6) 15 (v := ?v64) rfl rfl (by kernel_rfl) (by kernel_rfl) (by kernel_rfl) (fun _ _ _ h => h) (by kernel_rfl) ?hy64 ?_
  case hy64 => (go_simp; try (with_reducible rfl))
  simp only [Act.put, List.setIfInBounds_toArray, List.set_cons_zero, List.set_cons_succ]
  refine takeW_on (i := 7) 16 (v := ?v65) rfl rfl (by kernel_rfl) (by kernel_rfl) (by kernel_rfl) (fun _ _ _ h => h) (by kernel_rfl) ?hy65 ?_
  case hy65 => (go_simp; try (with_reducible rfl))
  simp only [Act.put, List.setIfInBounds_toArray, List.set_cons_zero, List.set_cons_succ]
  refine takeW_on (i := 8) 17 (v := ?v66) rfl rfl (by kernel_rfl) (by kernel_rfl) (by kernel_rfl) (fun _ _ _ h => h) (by kernel_rfl) ?hy66 ?_
  case hy66 => (go_simp; try (with_reducible rfl))
  simp only [Act.put, List.setIfInBounds_toArray, List.set_cons_zero, List.set_cons_succ]
  refine takeW_on (i := 9) 18 (v := ?v67) rfl rfl (by kernel_rfl) (by kernel_rfl) (by kernel_rfl) (fun _ _ _ h => h) (by kernel_rfl) ?hy67 ?_
  case hy67 => (go_simp; try (with_reducible rfl))
  simp only [Act.put, List.setIfInBounds_toArray, List.set_cons_zero, List.set_cons_succ]
  refine takeW_on (i := 10) 19 (v := ?v68) rfl rfl (by kernel_rfl) (by kernel_rfl) (by kernel_rfl) (fun _ _ _ h => h) (by kernel_rfl) ?hy68 ?_
  case hy68 => (go_simp; try (with_reducible rfl))
  simp only [Act.put, List.setIfInBounds_toArray, List.set_cons_zero, List.set_cons_succ]
  refine takeW_on (i := 11) 20 (v := ?v69) rfl rfl (by kernel_rfl) (by kernel_rfl) (by kernel_rfl) (fun _ _ _ h => h) (by kernel_rfl) ?hy69 ?_
  case hy69 => (go_simp; try (with_reducible rfl))
  simp only [Act.put, List.setIfInBounds_toArray, List.set_cons_zero, List.set_cons_succ]
  refine takeW_on (i := 12) 21 (v := ?v70) rfl rfl (by kernel_rfl) (by kernel_rfl) (by kernel_rfl) (fun _ _ _ h => h) (by kernel_rfl) ?hy70 ?_
  case hy70 => (go_simp; try (with_reducible rfl))
  simp only [Act.put, List.setIfInBounds_toArray, List.set_cons_zero, List.set_cons_succ]
  refine takeW_on (i := 13) 22 (v := ?v71) rfl rfl (by kernel_rfl) (by kernel_rfl) (by kernel_rfl) (fun _ _ _ h => h) (by kernel_rfl) ?hy71 ?_
  case hy71 => (go_simp; try (with_reducible rfl))
  simp only [Act.put, List.setIfInBounds_toArray, List.set_cons_zero, List.set_cons_succ]
  refine takeW_on (i := 14) 23 (v := ?v72) rfl rfl (by kernel_rfl) (by kernel_rfl) (by kernel_rfl) (fun _ _ _ h => h) (by kernel_rfl) ?hy72 ?_
  case hy72 => (go_simp; try (with_reducible rfl))
  simp only [Act.put, List.setIfInBounds_toArray, List.set_cons_zero, List.set_cons_succ]
  refine takeW_on (i := 15) 24 (v := ?v73) rfl rfl (by kernel_rfl) (by kernel_rfl) (by kernel_rfl) (fun _ _ _ h => h) (by kernel_rfl) ?hy73 ?_
  case hy73 => (go_simp; try (with_reducible rfl))
  simp only [Act.put, List.setIfInBounds_toArray, List.set_cons_zero, List.set_cons_succ]
  refine takeW_on (i := 16) 25 (v := ?v74) rfl rfl (by kernel_rfl) (by kernel_rfl) (by kernel_rfl) (fun _ _ _ h => h) (by kernel_rfl) ?hy74 ?_
  case hy74 => (go_simp; try (with_reducible rfl))
  simp only [Act.put, List.setIfInBounds_toArray, List.set_cons_zero, List.set_cons_succ]
  refine takeW_on (i := 17) 26 (v := ?v75) rfl rfl (by kernel_rfl) (by kernel_rfl) (by kernel_rfl) (fun _ _ _ h => h) (by kernel_rfl) ?hy75 ?_
  case hy75 => (go_simp; try (with_reducible rfl))
  simp only [Act.put, List.setIfInBounds_toArray, List.set_cons_zero, List.set_cons_succ]
  refine takeW_on (i := 18) 27 (v := ?v76) rfl rfl (by kernel_rfl) (by kernel_rfl) (by kernel_rfl) (fun _ _ _ h => h) (by kernel_rfl) ?hy76 ?_
  case hy76 => (go_simp; try (with_reducible rfl))
  simp only [Act.put, List.setIfInBounds_toArray, List.set_cons_zero, List.set_cons_succ]
  refine takeW_on (i := 19) 28 (v := ?v77) rfl rfl (by kernel_rfl) (by kernel_rfl) (by kernel_rfl) (fun _ _ _ h => h) (by kernel_rfl) ?hy77 ?_
  case hy77 => (go_simp; try (with_reducible rfl))
  simp only [Act.put, List.setIfInBounds_toArray, List.set_cons_zero, List.set_cons_succ]
  refine takeW_on (i := 20) 29 (v := ?v78) rfl rfl (by kernel_rfl) (by kernel_rfl) (by kernel_rfl) (fun _ _ _ h => h) (by kernel_rfl) ?hy78 ?_
  case hy78 => (go_simp; try (with_reducible rfl))
  simp only [Act.put, List.setIfInBounds_toArray, List.set_cons_zero, List.set_cons_succ]
  refine takeW_on (i := 21) 30 (v := ?v79) rfl rfl (by kernel_rfl) (by kernel_rfl) (by kernel_rfl) (fun _ _ _ h => h) (by kernel_rfl) ?hy79 ?_
  case hy79 => (go_simp; try (with_reducible rfl))
  simp only [Act.put, List.setIfInBounds_toArray, List.set_cons_zero, List.set_cons_succ]
  refine takeW_on (i := 22) 31 (v := ?v80) rfl rfl (by kernel_rfl) (by kernel_rfl) (by kernel_rfl) (fun _ _ _ h => h) (by kernel_rfl) ?hy80 ?_
  case hy80 => (go_simp; try (with_reducible rfl))
  simp only [Act.put, List.setIfInBounds_toArray, List.set_cons_zero, List.set_cons_succ]
  refine takeW_on (i := 23) 32 (v := ?v81) rfl rfl (by kernel_rfl) (by kernel_rfl) (by kernel_rfl) (fun _ _ _ h => h) (by kernel_rfl) ?hy81 ?_
  case hy81 => (go_simp; try (with_reducible rfl))
  simp only [Act.put, List.setIfInBounds_toArray, List.set_cons_zero, List.set_cons_succ]
  refine takeW_on (i := 24) 33 (v := ?v82) rfl rfl (by kernel_rfl) (by kernel_rfl) (by kernel_rfl) (fun _ _ _ h => h) (by kernel_rfl) ?hy82 ?_
  case hy82 => (go_simp; try (with_reducible rfl))
  simp only [Act.put, List.setIfInBounds_toArray, List.set_cons_zero, List.set_cons_succ]
  refine takeW_on (i := 25) 34 (v := ?v83) rfl rfl (by kernel_rfl) (by kernel_rfl) (by kernel_rfl) (fun _ _ _ h => h) (by kernel_rfl) ?hy83 ?_
  case hy83 => (go_simp; try (with_reducible rfl))
  simp only [Act.put, List.setIfInBounds_toArray, List.set_cons_zero, List.set_cons_succ]
  refine wpAnyH_done (by kernel_rfl) ?_ _
  go_wp2_with fail
  refine wp_region_any (by kernel_rfl) ?_
  change wpAny _ _ _ _ _ _ _ (World.drew _)
  refine take_on (i := 0) 41 (v := ?v49) rfl rfl (by kernel_rfl) (by kernel_rfl) (by kernel_rfl) (fun _ _ _ h => h) (by kernel_rfl) ?hy49 ?_
  case hy49 => (intro w; go_simp; try (with_reducible rfl))
  simp only [Act.put, List.setIfInBounds_toArray, List.set_cons_zero, List.set_cons_succ]
  refine take_on (i := 1) 42 (v := ?v50) rfl rfl (by kernel_rfl) (by kernel_rfl) (by kernel_rfl) (fun _ _ _ h => h) (by kernel_rfl) ?hy50 ?_
  case hy50 => (intro w; go_simp; try (with_reducible rfl))
  simp only [Act.put, List.setIfInBounds_toArray, List.set_cons_zero, List.set_cons_succ]
  refine take_on (i := 2) 43 (v := ?v51) rfl rfl (by kernel_rfl) (by kernel_rfl) (by kernel_rfl) (fun _ _ _ h => h) (by kernel_rfl) ?hy51 ?_
  case hy51 => (intro w; go_simp; try (with_reducible rfl))
  simp only [Act.put, List.setIfInBounds_toArray, List.set_cons_zero, List.set_cons_succ]
  refine take_on (i := 3) 44 (v := ?v52) rfl rfl (by kernel_rfl) (by kernel_rfl) (by kernel_rfl) (fun _ _ _ h => h) (by kernel_rfl) ?hy52 ?_
  case hy52 => (intro w; go_simp; try (with_reducible rfl))
  simp only [Act.put, List.setIfInBounds_toArray, List.set_cons_zero, List.set_cons_succ]
  refine take_on (i := 5) 46 (v := ?v53) rfl rfl (by kernel_rfl) (by kernel_rfl) (by kernel_rfl) (fun _ _ _ h => h) (by kernel_rfl) ?hy53 ?_
  case hy53 => (intro w; go_simp; try (with_reducible rfl))
  simp only [Act.put, List.setIfInBounds_toArray, List.set_cons_zero, List.set_cons_succ]
  refine wpAny_ready (rs := [4, 6]) (by kernel_rfl) (by simp) (AllReady.cons rfl (fun K hK => ?_) (AllReady.cons rfl (fun K hK => ?_) AllReady.nil))
  · go_simp
    refine hK _ _ ?_
    clear hK K
    refine wpAny_ready (rs := [6]) (by kernel_rfl) (by simp) (AllReady.cons rfl (fun K hK => ?_) AllReady.nil)
    go_simp
    refine hK _ _ ?_
    clear hK K
    refine wpAny_ready (rs := [7]) (by kernel_rfl) (by simp) (AllReady.cons rfl (fun K hK => ?_) AllReady.nil)
    go_simp
    refine hK _ _ ?_
    clear hK K
    refine wpAny_ready (rs := [8]) (by kernel_rfl) (by simp) (AllReady.cons rfl (fun K hK => ?_) AllReady.nil)
    go_simp
    refine (HI.out _ w2.heap.size (HO2.out.drew.alloc _) (Three.new w2.drew x) (by have := HG2.out.size; simp; omega) (fun e => by have := (HO2.out.blk e).2; omega)).mono ?_
    rintro e w3 ⟨v', rfl, o3, g3, b3⟩
    obtain ⟨ao3, c3, rfl⟩ := o3.form
    have HL3 := hid (put_left HQ2.out HO2.out HG2.out o3 g3 b3 hbb HLL.out)
    have q3 := (HQ2.out.drew.alloc (.cells #[.int .i64 x.s, .int .i64 x.g, .int .u64 x.t] 33)).ch g3 (fun e => by have := (HO2.out.blk e).1; omega)
    have c3' := q3.cell
    have z3' := q3.fz
    have l3' := q3.lt
    clear q3 o3 g3 b3
    go_wp2_with fail
    refine take_on (i := 9) 50 (v := ?v54) rfl rfl (by kernel_rfl) (by kernel_rfl) (by kernel_rfl) (fun _ _ _ h => h) (by kernel_rfl) ?hy54 ?_
    case hy54 => (intro w; go_simp; try (with_reducible rfl))
    simp only [Act.put, List.setIfInBounds_toArray, List.set_cons_zero, List.set_cons_succ]
    refine take_on (i := 10) 51 (v := ?v55) rfl rfl (by kernel_rfl) (by kernel_rfl) (by kernel_rfl) (fun _ _ _ h => h) (by kernel_rfl) ?hy55 ?_
    case hy55 => (intro w; go_simp; try (with_reducible rfl))
    simp only [Act.put, List.setIfInBounds_toArray, List.set_cons_zero, List.set_cons_succ]
    refine wpAny_ready (rs := [11]) (by kernel_rfl) (by simp) (AllReady.cons rfl (fun K hK => ?_) AllReady.nil)
    go_simp
    refine hK _ _ ?_
    clear hK K
    refine wpAny_done (by kernel_rfl) ?_ _
    go_wp2
    go_ret
    exact ⟨rfl, HL3.out⟩
  · go_simp
    refine hK _ _ ?_
    clear hK K
    refine wpAny_ready (rs := [4, 7]) (by kernel_rfl) (by simp) (AllReady.cons rfl (fun K hK => ?_) (AllReady.cons rfl (fun K hK => ?_) AllReady.nil))
    · go_simp
      refine hK _ _ ?_
      clear hK K
      refine wpAny_ready (rs := [7]) (by kernel_rfl) (by simp) (AllReady.cons rfl (fun K hK => ?_) AllReady.nil)
      go_simp
      refine hK _ _ ?_
      clear hK K
      refine wpAny_ready (rs := [8]) (by kernel_rfl) (by simp) (AllReady.cons rfl (fun K hK => ?_) AllReady.nil)
      go_simp
      refine (HI.out _ w2.heap.size (HO2.out.drew.alloc _) (Three.new w2.drew x) (by have := HG2.out.size; simp; omega) (fun e => by have := (HO2.out.blk e).2; omega)).mono ?_
      rintro e w3 ⟨v', rfl, o3, g3, b3⟩
      obtain ⟨ao3, c3, rfl⟩ := o3.form
      have HL3 := hid (put_left HQ2.out HO2.out HG2.out o3 g3 b3 hbb HLL.out)
      have q3 := (HQ2.out.drew.alloc (.cells #[.int .i64 x.s, .int .i64 x.g, .int .u64 x.t] 33)).ch g3 (fun e => by have := (HO2.out.blk e).1; omega)
      have c3' := q3.cell
      have z3' := q3.fz
      have l3' := q3.lt
      clear q3 o3 g3 b3
      go_wp2_with fail
      refine take_on (i := 9) 50 (v := ?v56) rfl rfl (by kernel_rfl) (by kernel_rfl) (by kernel_rfl) (fun _ _ _ h => h) (by kernel_rfl) ?hy56 ?_
      case hy56 => (intro w; go_simp; try (with_reducible rfl))
      simp only [Act.put, List.setIfInBounds_toArray, List.set_cons_zero, List.set_cons_succ]
      refine take_on (i := 10) 51 (v := ?v57) rfl rfl (by kernel_rfl) (by kernel_rfl) (by kernel_rfl) (fun _ _ _ h => h) (by kernel_rfl) ?hy57 ?_
      case hy57 => (intro w; go_simp; try (with_reducible rfl))
      simp only [Act.put, List.setIfInBounds_toArray, List.set_cons_zero, List.set_cons_succ]
      refine wpAny_ready (rs := [11]) (by kernel_rfl) (by simp) (AllReady.cons rfl (fun K hK => ?_) AllReady.nil)
      go_simp
      refine hK _ _ ?_
      clear hK K
      refine wpAny_done (by kernel_rfl) ?_ _
      go_wp2
      go_ret
      exact ⟨rfl, HL3.out⟩
    · go_simp
      refine hK _ _ ?_
      clear hK K
      refine wpAny_ready (rs := [4]) (by kernel_rfl) (by simp) (AllReady.cons rfl (fun K hK => ?_) AllReady.nil)
      go_simp
      refine hK _ _ ?_
      clear hK K
      refine wpAny_ready (rs := [8]) (by kernel_rfl) (by simp) (AllReady.cons rfl (fun K hK => ?_) AllReady.nil)
      go_simp
      refine (HI.out _ w2.heap.size (HO2.out.drew.alloc _) (Three.new w2.drew x) (by have := HG2.out.size; simp; omega) (fun e => by have := (HO2.out.blk e).2; omega)).mono ?_
      rintro e w3 ⟨v', rfl, o3, g3, b3⟩
      obtain ⟨ao3, c3, rfl⟩ := o3.form
      have HL3 := hid (put_left HQ2.out HO2.out HG2.out o3 g3 b3 hbb HLL.out)
      have q3 := (HQ2.out.drew.alloc (.cells #[.int .i64 x.s, .int .i64 x.g, .int .u64 x.t] 33)).ch g3 (fun e => by have := (HO2.out.blk e).1; omega)
      have c3' := q3.cell
      have z3' := q3.fz
      have l3' := q3.lt
      clear q3 o3 g3 b3
      go_wp2_with fail
      refine take_on (i := 9) 50 (v := ?v58) rfl rfl (by kernel_rfl) (by kernel_rfl) (by kernel_rfl) (fun _ _ _ h => h) (by kernel_rfl) ?hy58 ?_
      case hy58 => (intro w; go_simp; try (with_reducible rfl))
      simp only [Act.put, List.setIfInBounds_toArray, List.set_cons_zero, List.set_cons_succ]
      refine take_on (i := 10) 51 (v := ?v59) rfl rfl (by kernel_rfl) (by kernel_rfl) (by kernel_rfl) (fun _ _ _ h => h) (by kernel_rfl) ?hy59 ?_
      case hy59 => (intro w; go_simp; try (with_reducible rfl))
      simp only [Act.put, List.setIfInBounds_toArray, List.set_cons_zero, List.set_cons_succ]
      refine wpAny_ready (rs := [11]) (by kernel_rfl) (by simp) (AllReady.cons rfl (fun K hK => ?_) AllReady.nil)
      go_simp
      refine hK _ _ ?_
      clear hK K
      refine wpAny_done (by kernel_rfl) ?_ _
      go_wp2
      go_ret
      exact ⟨rfl, HL3.out⟩

set_option maxHeartbeats 1000000 in
set_option maxRecDepth 60000 in
theorem put_end (base b i n cap : Nat) (ao : Option Addr) (xs : List W3) (x : W3) (w : World) (hq : QAt w b (.slice ao n cap)) (ho : Own base w (.slice ao n cap) xs) (_hn : n ≤ 4096) (hi : i = n) (hf : n < 4096) (hxn : n = xs.length) (hb : base ≤ w.heap.size) (hbb : b < base)
    (hP : ∀ w', QAt w' b (.slice ao n cap) → Lst (base ≤ ·) w' (.slice ao n cap) xs → w'.cell? ⟨w.heap.size, 2, none⟩ = some (.int .u64 x.t) → Calls Try.prog 28 #[.pointer (some ⟨b, 0, none⟩), .func (.func 29) #[] #[.pointer (some ⟨w.heap.size, 0, none⟩)]] w' fun e w'' => e = .returned (.int .i64 (i : Int)) ∧ Ch NoB w' w'')
    (hH : ∀ w', QAt w' b (.slice ao n cap) → Lst (base ≤ ·) w' (.slice ao n cap) xs → Calls Try.prog 17 #[.pointer (some ⟨b, 0, none⟩), .agg #[.int .i64 x.s, .int .i64 x.g]] w' fun e w'' => e = .returned (.bool false) ∧ Ch NoB w' w'') :
    Calls Try.prog 15 #[.pointer (some ⟨b, 0, none⟩), .agg #[.int .i64 x.s, .int .i64 x.g, .int .u64 x.t]] w fun e w' => e = .returned (.int .i64 0) ∧ Left base b (.slice ao n cap) w (xs.take i ++ x :: xs.drop i) w' := by
  have hbl := hq.lt
  have HQ := hid hq
  have HO := hid ho
  have HP := hid hP
  have HH := hid hH
  obtain ⟨L, hL⟩ : ∃ L, L = xs.take i ++ x :: xs.drop i := ⟨_, rfl⟩
  have hI := fun (W : World) (k : Nat) (h1 : Own base W (.slice ao n cap) xs) (h2 : Three W k x) (h3 : base ≤ W.heap.size) (h4 : ¬ Blk (.slice ao n cap) k) => insert_any base k i (.slice ao n cap) xs x W h1 h2 (by omega) (by omega) h3 h4
  rw [← hL] at hI ⊢
  have hLl : L.length ≤ 4096 := by rw [hL, List.length_append, List.length_take, List.length_cons, List.length_drop]; omega
  have HI := hid hI
  have HLL := hid hLl
  clear hI hL hLl
  clear hq ho hP hH hxn
  subst hi
  have f0 : ¬ ((4096 : Int) ≤ (i : Int)) := by omega
  have f1 : (i : Int) < 4096 := by omega
  go_enter Try.func15, Try.ntmps15
  go_wp2_with fail
  refine (HP.out _ (HQ.out.alloc _) (HO.out.lst.alloc _) (by simp)).mono ?_
  rintro e w1 ⟨rfl, g1⟩
  have T0 := Three.new w x
  have HT := hid (T0.ch g1 (noB _))
  have HQ1 := hid ((HQ.out.alloc _).ch g1 (noB _))
  have HO1 := hid ((HO.out.alloc (.cells #[.int .i64 x.s, .int .i64 x.g, .int .u64 x.t] 33)).ch g1 (fun _ _ => noB _))
  have HG1 := hid (((Ch.refl NoB w).alloc (.cells #[.int .i64 x.s, .int .i64 x.g, .int .u64 x.t] 33)).trans' g1)
  have hs1 := g1.size
  simp only [World.size_alloc] at hs1
  have p0 := HQ1.out.cell
  have bl1 := HQ1.out.lt
  have kl1 := HT.out.lt
  obtain ⟨q0, q1, q2⟩ := HT.out.cells
  clear T0 g1
  go_wp2_with fail
  refine wp_region_any (by kernel_rfl) ?_
  change wpAny _ _ _ _ _ _ _ (World.drew _)
  refine take_on (i := 0) 9 (v := ?v84) rfl rfl (by kernel_rfl) (by kernel_rfl) (by kernel_rfl) (fun _ _ _ h => h) (by kernel_rfl) ?hy84 ?_
  case hy84 => (intro w; go_simp; try (with_reducible rfl))
  simp only [Act.put, List.setIfInBounds_toArray, List.set_cons_zero, List.set_cons_succ]
  refine take_on (i := 1) 10 (v := ?v85) rfl rfl (by kernel_rfl) (by kernel_rfl) (by kernel_rfl) (fun _ _ _ h => h) (by kernel_rfl) ?hy85 ?_
  case hy85 => (intro w; go_simp; try (with_reducible rfl))
  simp only [Act.put, List.setIfInBounds_toArray, List.set_cons_zero, List.set_cons_succ]
  refine wpAny_ready (rs := [2]) (by kernel_rfl) (by simp) (AllReady.cons rfl (fun K hK => ?_) AllReady.nil)
  go_simp
  refine hK _ _ ?_
  clear hK K
  refine wpAny_ready (rs := [3]) (by kernel_rfl) (by simp) (AllReady.cons rfl (fun K hK => ?_) AllReady.nil)
  go_simp
  refine (HH.out _ HQ1.out.drew HO1.out.lst.drew).mono ?_
  rintro e w2 ⟨rfl, g2⟩
  have HG2 := hid (HG1.out.drew.trans' g2)
  have HT2 := hid (Three.ch (HT.out.drew) g2 (noB _))
  have HQ2 := hid (QAt.ch (HQ1.out.drew) g2 (noB _))
  have HO2 := hid (Own.ch (HO1.out.drew) g2 (fun _ _ => noB _))
  have s0 := HQ2.out.cell
  have bl2 := HQ2.out.lt
  have kl2 := HT2.out.lt
  obtain ⟨t0, t1, t2⟩ := HT2.out.cells
  clear g2
  go_wp2_with fail
  refine held_here ?_
  refine takeW_on (i := 4) 13 (v := ?v86) rfl rfl (by kernel_rfl) (by kernel_rfl) (by kernel_rfl) (fun _ _ _ h => h) (by kernel_rfl) ?hy86 ?_
  case hy86 => (go_simp; try (with_reducible rfl))
  simp only [Act.put, List.setIfInBounds_toArray, List.set_cons_zero, List.set_cons_succ]
  refine takeW_on (i := 5) 14 (v := ?v87) rfl rfl (by kernel_rfl) (by kernel_rfl) (by kernel_rfl) (fun _ _ _ h => h) (by kernel_rfl) ?hy87 ?_
  case hy87 => (go_simp; try (with_reducible rfl))
  simp only [Act.put, List.setIfInBounds_toArray, List.set_cons_zero, List.set_cons_succ]
  refine takeW_on (i := 6) 15 (v := ?v88) rfl rfl (by kernel_rfl) (by kernel_rfl) (by kernel_rfl) (fun _ _ _ h => h) (by kernel_rfl) ?hy88 ?_
  case hy88 => (go_simp; try (with_reducible rfl))
  simp only [Act.put, List.setIfInBounds_toArray, List.set_cons_zero, List.set_cons_succ]
  refine takeW_on (i := 7) 16 (v := ?v89) rfl rfl (by kernel_rfl) (by kernel_rfl) (by kernel_rfl) (fun _ _ _ h => h) (by kernel_rfl) ?hy89 ?_
  case hy89 => (go_simp; try (with_reducible rfl))
  simp only [Act.put, List.setIfInBounds_toArray, List.set_cons_zero, List.set_cons_succ]
  refine takeW_on (i := 8) 17 (v := ?v90) rfl rfl (by kernel_rfl) (by kernel_rfl) (by kernel_rfl) (fun _ _ _ h => h) (by kernel_rfl) ?hy90 ?_
  case hy90 => (go_simp; try (with_reducible rfl))
  simp only [Act.put, List.setIfInBounds_toArray, List.set_cons_zero, List.set_cons_succ]
  refine takeW_on (i := 9) 18 (v := ?v91) rfl rfl (by kernel_rfl) (by kernel_rfl) (by kernel_rfl) (fun _ _ _ h => h) (by kernel_rfl) ?hy91 ?_
  case hy91 => (go_simp; try (with_reducible rfl))
  simp only [Act.put, List.setIfInBounds_toArray, List.set_cons_zero, List.set_cons_succ]
  refine takeW_on (i := 10) 19 (v := ?v92) rfl rfl (by kernel_rfl) (by kernel_rfl) (by kernel_rfl) (fun _ _ _ h => h) (by kernel_rfl) ?hy92 ?_
  case hy92 => (go_simp; try (with_reducible rfl))
  simp only [Act.put, List.setIfInBounds_toArray, List.set_cons_zero, List.set_cons_succ]
  refine takeW_on (i := 11) 20 (v := ?v93) rfl rfl (by kernel_rfl) (by kernel_rfl) (by kernel_rfl) (fun _ _ _ h => h) (by kernel_rfl) ?hy93 ?_
  case hy93 => (go_simp; try (with_reducible rfl))
  simp only [Act.put, List.setIfInBounds_toArray, List.set_cons_zero, List.set_cons_succ]
  refine takeW_on (i := 12) 21 (v := ?v94) rfl rfl (by kernel_rfl) (by kernel_rfl) (by kernel_rfl) (fun _ _ _ h => h) (by kernel_rfl) ?hy94 ?_
  case hy94 => (go_simp; try (with_reducible rfl))
  simp only [Act.put, List.setIfInBounds_toArray, List.set_cons_zero, List.set_cons_succ]
  refine skipW_on (i := 13) 22 rfl rfl (by kernel_rfl) (by kernel_rfl) (by kernel_rfl) (fun _ _ _ h => h) (by kernel_rfl) ?_
  simp only [Act.put, List.setIfInBounds_toArray, List.set_cons_zero, List.set_cons_succ]
  refine skipW_on (i := 14) 23 rfl rfl (by kernel_rfl) (by kernel_rfl) (by kernel_rfl) (fun _ _ _ h => h) (by kernel_rfl) ?_
  simp only [Act.put, List.setIfInBounds_toArray, List.set_cons_zero, List.set_cons_succ]
  refine skipW_on (i := 15) 24 rfl rfl (by kernel_rfl) (by kernel_rfl) (by kernel_rfl) (fun _ _ _ h => h) (by kernel_rfl) ?_
  simp only [Act.put, List.setIfInBounds_toArray, List.set_cons_zero, List.set_cons_succ]
  refine skipW_on (i := 16) 25 rfl rfl (by kernel_rfl) (by kernel_rfl) (by kernel_rfl) (fun _ _ _ h => h) (by kernel_rfl) ?_
  simp only [Act.put, List.setIfInBounds_toArray, List.set_cons_zero, List.set_cons_succ]
  refine skipW_on (i := 17) 26 rfl rfl (by kernel_rfl) (by kernel_rfl) (by kernel_rfl) (fun _ _ _ h => h) (by kernel_rfl) ?_
  simp only [Act.put, List.setIfInBounds_toArray, List.set_cons_zero, List.set_cons_succ]
  refine skipW_on (i := 18) 27 rfl rfl (by kernel_rfl) (by kernel_rfl) (by kernel_rfl) (fun _ _ _ h => h) (by kernel_rfl) ?_
  simp only [Act.put, List.setIfInBounds_toArray, List.set_cons_zero, List.set_cons_succ]
  refine skipW_on (i := 19) 28 rfl rfl (by kernel_rfl) (by kernel_rfl) (by kernel_rfl) (fun _ _ _ h => h) (by kernel_rfl) ?_
  simp only [Act.put, List.setIfInBounds_toArray, List.set_cons_zero, List.set_cons_succ]
  refine skipW_on (i := 20) 29 rfl rfl (by kernel_rfl) (by kernel_rfl) (by kernel_rfl) (fun _ _ _ h => h) (by kernel_rfl) ?_
  simp only [Act.put, List.setIfInBounds_toArray, List.set_cons_zero, List.set_cons_succ]
  refine skipW_on (i := 21) 30 rfl rfl (by kernel_rfl) (by kernel_rfl) (by kernel_rfl) (fun _ _ _ h => h) (by kernel_rfl) ?_
  simp only [Act.put, List.setIfInBounds_toArray, List.set_cons_zero, List.set_cons_succ]
  refine skipW_on (i := 22) 31 rfl rfl (by kernel_rfl) (by kernel_rfl) (by kernel_rfl) (fun _ _ _ h => h) (by kernel_rfl) ?_
  simp only [Act.put, List.setIfInBounds_toArray, List.set_cons_zero, List.set_cons_succ]
  refine skipW_on (i := 23) 32 rfl rfl (by kernel_rfl) (by kernel_rfl) (by kernel_rfl) (fun _ _ _ h => h) (by kernel_rfl) ?_
  simp only [Act.put, List.setIfInBounds_toArray, List.set_cons_zero, List.set_cons_succ]
  refine takeW_on (i := 24) 33 (v := ?v106) rfl rfl (by kernel_rfl) (by kernel_rfl) (by kernel_rfl) (fun _ _ _ h => h) (by kernel_rfl) ?hy106 ?_
  case hy106 => (go_simp; try (with_reducible rfl))
  simp only [Act.put, List.setIfInBounds_toArray, List.set_cons_zero, List.set_cons_succ]
  refine takeW_on (i := 25) 34 (v := ?v107) rfl rfl (by kernel_rfl) (by kernel_rfl) (by kernel_rfl) (fun _ _ _ h => h) (by kernel_rfl) ?hy107 ?_
  case hy107 => (go_simp; try (with_reducible rfl))
  simp only [Act.put, List.setIfInBounds_toArray, List.set_cons_zero, List.set_cons_succ]
  refine wpAnyH_done (by kernel_rfl) ?_ _
  go_wp2_with fail
  refine wp_region_any (by kernel_rfl) ?_
  change wpAny _ _ _ _ _ _ _ (World.drew _)
  refine take_on (i := 0) 41 (v := ?v49) rfl rfl (by kernel_rfl) (by kernel_rfl) (by kernel_rfl) (fun _ _ _ h => h) (by kernel_rfl) ?hy49 ?_
  case hy49 => (intro w; go_simp; try (with_reducible rfl))
  simp only [Act.put, List.setIfInBounds_toArray, List.set_cons_zero, List.set_cons_succ]
  refine take_on (i := 1) 42 (v := ?v50) rfl rfl (by kernel_rfl) (by kernel_rfl) (by kernel_rfl) (fun _ _ _ h => h) (by kernel_rfl) ?hy50 ?_
  case hy50 => (intro w; go_simp; try (with_reducible rfl))
  simp only [Act.put, List.setIfInBounds_toArray, List.set_cons_zero, List.set_cons_succ]
  refine take_on (i := 2) 43 (v := ?v51) rfl rfl (by kernel_rfl) (by kernel_rfl) (by kernel_rfl) (fun _ _ _ h => h) (by kernel_rfl) ?hy51 ?_
  case hy51 => (intro w; go_simp; try (with_reducible rfl))
  simp only [Act.put, List.setIfInBounds_toArray, List.set_cons_zero, List.set_cons_succ]
  refine take_on (i := 3) 44 (v := ?v52) rfl rfl (by kernel_rfl) (by kernel_rfl) (by kernel_rfl) (fun _ _ _ h => h) (by kernel_rfl) ?hy52 ?_
  case hy52 => (intro w; go_simp; try (with_reducible rfl))
  simp only [Act.put, List.setIfInBounds_toArray, List.set_cons_zero, List.set_cons_succ]
  refine take_on (i := 5) 46 (v := ?v53) rfl rfl (by kernel_rfl) (by kernel_rfl) (by kernel_rfl) (fun _ _ _ h => h) (by kernel_rfl) ?hy53 ?_
  case hy53 => (intro w; go_simp; try (with_reducible rfl))
  simp only [Act.put, List.setIfInBounds_toArray, List.set_cons_zero, List.set_cons_succ]
  refine wpAny_ready (rs := [4, 6]) (by kernel_rfl) (by simp) (AllReady.cons rfl (fun K hK => ?_) (AllReady.cons rfl (fun K hK => ?_) AllReady.nil))
  · go_simp
    refine hK _ _ ?_
    clear hK K
    refine wpAny_ready (rs := [6]) (by kernel_rfl) (by simp) (AllReady.cons rfl (fun K hK => ?_) AllReady.nil)
    go_simp
    refine hK _ _ ?_
    clear hK K
    refine wpAny_ready (rs := [7]) (by kernel_rfl) (by simp) (AllReady.cons rfl (fun K hK => ?_) AllReady.nil)
    go_simp
    refine hK _ _ ?_
    clear hK K
    refine wpAny_ready (rs := [8]) (by kernel_rfl) (by simp) (AllReady.cons rfl (fun K hK => ?_) AllReady.nil)
    go_simp
    refine (HI.out _ w2.heap.size (HO2.out.drew.alloc _) (Three.new w2.drew x) (by have := HG2.out.size; simp; omega) (fun e => by have := (HO2.out.blk e).2; omega)).mono ?_
    rintro e w3 ⟨v', rfl, o3, g3, b3⟩
    obtain ⟨ao3, c3, rfl⟩ := o3.form
    have HL3 := hid (put_left HQ2.out HO2.out HG2.out o3 g3 b3 hbb HLL.out)
    have q3 := (HQ2.out.drew.alloc (.cells #[.int .i64 x.s, .int .i64 x.g, .int .u64 x.t] 33)).ch g3 (fun e => by have := (HO2.out.blk e).1; omega)
    have c3' := q3.cell
    have z3' := q3.fz
    have l3' := q3.lt
    clear q3 o3 g3 b3
    go_wp2_with fail
    refine take_on (i := 9) 50 (v := ?v54) rfl rfl (by kernel_rfl) (by kernel_rfl) (by kernel_rfl) (fun _ _ _ h => h) (by kernel_rfl) ?hy54 ?_
    case hy54 => (intro w; go_simp; try (with_reducible rfl))
    simp only [Act.put, List.setIfInBounds_toArray, List.set_cons_zero, List.set_cons_succ]
    refine take_on (i := 10) 51 (v := ?v55) rfl rfl (by kernel_rfl) (by kernel_rfl) (by kernel_rfl) (fun _ _ _ h => h) (by kernel_rfl) ?hy55 ?_
    case hy55 => (intro w; go_simp; try (with_reducible rfl))
    simp only [Act.put, List.setIfInBounds_toArray, List.set_cons_zero, List.set_cons_succ]
    refine wpAny_ready (rs := [11]) (by kernel_rfl) (by simp) (AllReady.cons rfl (fun K hK => ?_) AllReady.nil)
    go_simp
    refine hK _ _ ?_
    clear hK K
    refine wpAny_done (by kernel_rfl) ?_ _
    go_wp2
    go_ret
    exact ⟨rfl, HL3.out⟩
  · go_simp
    refine hK _ _ ?_
    clear hK K
    refine wpAny_ready (rs := [4, 7]) (by kernel_rfl) (by simp) (AllReady.cons rfl (fun K hK => ?_) (AllReady.cons rfl (fun K hK => ?_) AllReady.nil))
    · go_simp
      refine hK _ _ ?_
      clear hK K
      refine wpAny_ready (rs := [7]) (by kernel_rfl) (by simp) (AllReady.cons rfl (fun K hK => ?_) AllReady.nil)
      go_simp
      refine hK _ _ ?_
      clear hK K
      refine wpAny_ready (rs := [8]) (by kernel_rfl) (by simp) (AllReady.cons rfl (fun K hK => ?_) AllReady.nil)
      go_simp
      refine (HI.out _ w2.heap.size (HO2.out.drew.alloc _) (Three.new w2.drew x) (by have := HG2.out.size; simp; omega) (fun e => by have := (HO2.out.blk e).2; omega)).mono ?_
      rintro e w3 ⟨v', rfl, o3, g3, b3⟩
      obtain ⟨ao3, c3, rfl⟩ := o3.form
      have HL3 := hid (put_left HQ2.out HO2.out HG2.out o3 g3 b3 hbb HLL.out)
      have q3 := (HQ2.out.drew.alloc (.cells #[.int .i64 x.s, .int .i64 x.g, .int .u64 x.t] 33)).ch g3 (fun e => by have := (HO2.out.blk e).1; omega)
      have c3' := q3.cell
      have z3' := q3.fz
      have l3' := q3.lt
      clear q3 o3 g3 b3
      go_wp2_with fail
      refine take_on (i := 9) 50 (v := ?v56) rfl rfl (by kernel_rfl) (by kernel_rfl) (by kernel_rfl) (fun _ _ _ h => h) (by kernel_rfl) ?hy56 ?_
      case hy56 => (intro w; go_simp; try (with_reducible rfl))
      simp only [Act.put, List.setIfInBounds_toArray, List.set_cons_zero, List.set_cons_succ]
      refine take_on (i := 10) 51 (v := ?v57) rfl rfl (by kernel_rfl) (by kernel_rfl) (by kernel_rfl) (fun _ _ _ h => h) (by kernel_rfl) ?hy57 ?_
      case hy57 => (intro w; go_simp; try (with_reducible rfl))
      simp only [Act.put, List.setIfInBounds_toArray, List.set_cons_zero, List.set_cons_succ]
      refine wpAny_ready (rs := [11]) (by kernel_rfl) (by simp) (AllReady.cons rfl (fun K hK => ?_) AllReady.nil)
      go_simp
      refine hK _ _ ?_
      clear hK K
      refine wpAny_done (by kernel_rfl) ?_ _
      go_wp2
      go_ret
      exact ⟨rfl, HL3.out⟩
    · go_simp
      refine hK _ _ ?_
      clear hK K
      refine wpAny_ready (rs := [4]) (by kernel_rfl) (by simp) (AllReady.cons rfl (fun K hK => ?_) AllReady.nil)
      go_simp
      refine hK _ _ ?_
      clear hK K
      refine wpAny_ready (rs := [8]) (by kernel_rfl) (by simp) (AllReady.cons rfl (fun K hK => ?_) AllReady.nil)
      go_simp
      refine (HI.out _ w2.heap.size (HO2.out.drew.alloc _) (Three.new w2.drew x) (by have := HG2.out.size; simp; omega) (fun e => by have := (HO2.out.blk e).2; omega)).mono ?_
      rintro e w3 ⟨v', rfl, o3, g3, b3⟩
      obtain ⟨ao3, c3, rfl⟩ := o3.form
      have HL3 := hid (put_left HQ2.out HO2.out HG2.out o3 g3 b3 hbb HLL.out)
      have q3 := (HQ2.out.drew.alloc (.cells #[.int .i64 x.s, .int .i64 x.g, .int .u64 x.t] 33)).ch g3 (fun e => by have := (HO2.out.blk e).1; omega)
      have c3' := q3.cell
      have z3' := q3.fz
      have l3' := q3.lt
      clear q3 o3 g3 b3
      go_wp2_with fail
      refine take_on (i := 9) 50 (v := ?v58) rfl rfl (by kernel_rfl) (by kernel_rfl) (by kernel_rfl) (fun _ _ _ h => h) (by kernel_rfl) ?hy58 ?_
      case hy58 => (intro w; go_simp; try (with_reducible rfl))
      simp only [Act.put, List.setIfInBounds_toArray, List.set_cons_zero, List.set_cons_succ]
      refine take_on (i := 10) 51 (v := ?v59) rfl rfl (by kernel_rfl) (by kernel_rfl) (by kernel_rfl) (fun _ _ _ h => h) (by kernel_rfl) ?hy59 ?_
      case hy59 => (intro w; go_simp; try (with_reducible rfl))
      simp only [Act.put, List.setIfInBounds_toArray, List.set_cons_zero, List.set_cons_succ]
      refine wpAny_ready (rs := [11]) (by kernel_rfl) (by simp) (AllReady.cons rfl (fun K hK => ?_) AllReady.nil)
      go_simp
      refine hK _ _ ?_
      clear hK K
      refine wpAny_done (by kernel_rfl) ?_ _
      go_wp2
      go_ret
      exact ⟨rfl, HL3.out⟩

set_option maxHeartbeats 1000000 in
set_option maxRecDepth 60000 in
theorem put_full1 (base b i n cap : Nat) (g : Nat) (t : Int) (xs : List W3) (x : W3) (w : World) (hq : QAt w b (.slice (some ⟨g, 0, none⟩) n cap)) (ho : Own base w (.slice (some ⟨g, 0, none⟩) n cap) xs) (_hn : n ≤ 4096) (hi : i < n) (ha : w.cell? ⟨g, i * 3 + 2, none⟩ = some (.int .u64 t)) (ht : ¬ t = x.t) (hgl : g < w.heap.size) (hf : 4096 ≤ n)
    (hP : ∀ w', QAt w' b (.slice (some ⟨g, 0, none⟩) n cap) → Lst (base ≤ ·) w' (.slice (some ⟨g, 0, none⟩) n cap) xs → w'.cell? ⟨w.heap.size, 2, none⟩ = some (.int .u64 x.t) → Calls Try.prog 28 #[.pointer (some ⟨b, 0, none⟩), .func (.func 29) #[] #[.pointer (some ⟨w.heap.size, 0, none⟩)]] w' fun e w'' => e = .returned (.int .i64 (i : Int)) ∧ Ch NoB w' w'')
    (hH : ∀ w', QAt w' b (.slice (some ⟨g, 0, none⟩) n cap) → Lst (base ≤ ·) w' (.slice (some ⟨g, 0, none⟩) n cap) xs → Calls Try.prog 17 #[.pointer (some ⟨b, 0, none⟩), .agg #[.int .i64 x.s, .int .i64 x.g]] w' fun e w'' => e = .returned (.bool false) ∧ Ch NoB w' w'') :
    Calls Try.prog 15 #[.pointer (some ⟨b, 0, none⟩), .agg #[.int .i64 x.s, .int .i64 x.g, .int .u64 x.t]] w fun e w' => e = .returned (.int .i64 2) ∧ Ch NoB w w' := by
  have hbl := hq.lt
  have HQ := hid hq
  have HO := hid ho
  have HP := hid hP
  have HH := hid hH
  have HA := hid ha
  clear hq ho hP hH ha
  have i0 : (0 : Int) ≤ (i : Int) := by omega
  have i1 : (i : Int) < (n : Int) := by omega
  have hteq : (t == x.t) = false := by simp only [beq_eq_false_iff_ne, ne_eq]; exact ht
  have f0 : (4096 : Int) ≤ (n : Int) := by omega
  go_enter Try.func15, Try.ntmps15
  go_wp2_with fail
  refine (HP.out _ (HQ.out.alloc _) (HO.out.lst.alloc _) (by simp)).mono ?_
  rintro e w1 ⟨rfl, g1⟩
  have T0 := Three.new w x
  have HT := hid (T0.ch g1 (noB _))
  have HQ1 := hid ((HQ.out.alloc _).ch g1 (noB _))
  have HO1 := hid ((HO.out.alloc (.cells #[.int .i64 x.s, .int .i64 x.g, .int .u64 x.t] 33)).ch g1 (fun _ _ => noB _))
  have HG1 := hid (((Ch.refl NoB w).alloc (.cells #[.int .i64 x.s, .int .i64 x.g, .int .u64 x.t] 33)).trans' g1)
  have hs1 := g1.size
  simp only [World.size_alloc] at hs1
  have p0 := HQ1.out.cell
  have bl1 := HQ1.out.lt
  have kl1 := HT.out.lt
  obtain ⟨q0, q1, q2⟩ := HT.out.cells
  have gl1 : g < w1.heap.size := by omega
  have r0 : w1.cell? ⟨g, i * 3 + 2, none⟩ = some (.int .u64 t) := (HG1.out.cell hgl (noB _)).trans HA.out
  clear T0 g1
  go_wp2_with fail
  refine wp_region_any (by kernel_rfl) ?_
  change wpAny _ _ _ _ _ _ _ (World.drew _)
  refine take_on (i := 0) 9 (v := ?v108) rfl rfl (by kernel_rfl) (by kernel_rfl) (by kernel_rfl) (fun _ _ _ h => h) (by kernel_rfl) ?hy108 ?_
  case hy108 => (intro w; go_simp; try (with_reducible rfl))
  simp only [Act.put, List.setIfInBounds_toArray, List.set_cons_zero, List.set_cons_succ]
  refine take_on (i := 1) 10 (v := ?v109) rfl rfl (by kernel_rfl) (by kernel_rfl) (by kernel_rfl) (fun _ _ _ h => h) (by kernel_rfl) ?hy109 ?_
  case hy109 => (intro w; go_simp; try (with_reducible rfl))
  simp only [Act.put, List.setIfInBounds_toArray, List.set_cons_zero, List.set_cons_succ]
  refine wpAny_ready (rs := [2]) (by kernel_rfl) (by simp) (AllReady.cons rfl (fun K hK => ?_) AllReady.nil)
  go_simp
  refine hK _ _ ?_
  clear hK K
  refine wpAny_ready (rs := [3]) (by kernel_rfl) (by simp) (AllReady.cons rfl (fun K hK => ?_) AllReady.nil)
  go_simp
  refine (HH.out _ HQ1.out.drew HO1.out.lst.drew).mono ?_
  rintro e w2 ⟨rfl, g2⟩
  have HG2 := hid (HG1.out.drew.trans' g2)
  have HT2 := hid (Three.ch (HT.out.drew) g2 (noB _))
  have HQ2 := hid (QAt.ch (HQ1.out.drew) g2 (noB _))
  have HO2 := hid (Own.ch (HO1.out.drew) g2 (fun _ _ => noB _))
  have s0 := HQ2.out.cell
  have bl2 := HQ2.out.lt
  have kl2 := HT2.out.lt
  obtain ⟨t0, t1, t2⟩ := HT2.out.cells
  have gl2 : g < w2.heap.size := by have := g2.size; simp at this; omega
  have u0 : w2.cell? ⟨g, i * 3 + 2, none⟩ = some (.int .u64 t) := (HG2.out.cell hgl (noB _)).trans HA.out
  clear g2
  go_wp2_with fail
  refine held_here ?_
  refine takeW_on (i := 4) 13 (v := ?v110) rfl rfl (by kernel_rfl) (by kernel_rfl) (by kernel_rfl) (fun _ _ _ h => h) (by kernel_rfl) ?hy110 ?_
  case hy110 => (go_simp; try (with_reducible rfl))
  simp only [Act.put, List.setIfInBounds_toArray, List.set_cons_zero, List.set_cons_succ]
  refine takeW_on (i := 5) 14 (v := ?v111) rfl rfl (by kernel_rfl) (by kernel_rfl) (by kernel_rfl) (fun _ _ _ h => h) (by kernel_rfl) ?hy111 ?_
  case hy111 => (go_simp; try (with_reducible rfl))
  simp only [Act.put, List.setIfInBounds_toArray, List.set_cons_zero, List.set_cons_succ]
  refine takeW_on (i := 6) 15 (v := ?v112) rfl rfl (by kernel_rfl) (by kernel_rfl) (by kernel_rfl) (fun _ _ _ h => h) (by kernel_rfl) ?hy112 ?_
  case hy112 => (go_simp; try (with_reducible rfl))
  simp only [Act.put, List.setIfInBounds_toArray, List.set_cons_zero, List.set_cons_succ]
  refine takeW_on (i := 7) 16 (v := ?v113) rfl rfl (by kernel_rfl) (by kernel_rfl) (by kernel_rfl) (fun _ _ _ h => h) (by kernel_rfl) ?hy113 ?_
  case hy113 => (go_simp; try (with_reducible rfl))
  simp only [Act.put, List.setIfInBounds_toArray, List.set_cons_zero, List.set_cons_succ]
  refine takeW_on (i := 8) 17 (v := ?v114) rfl rfl (by kernel_rfl) (by kernel_rfl) (by kernel_rfl) (fun _ _ _ h => h) (by kernel_rfl) ?hy114 ?_
  case hy114 => (go_simp; try (with_reducible rfl))
  simp only [Act.put, List.setIfInBounds_toArray, List.set_cons_zero, List.set_cons_succ]
  refine takeW_on (i := 9) 18 (v := ?v115) rfl rfl (by kernel_rfl) (by kernel_rfl) (by kernel_rfl) (fun _ _ _ h => h) (by kernel_rfl) ?hy115 ?_
  case hy115 => (go_simp; try (with_reducible rfl))
  simp only [Act.put, List.setIfInBounds_toArray, List.set_cons_zero, List.set_cons_succ]
  refine takeW_on (i := 10) 19 (v := ?v116) rfl rfl (by kernel_rfl) (by kernel_rfl) (by kernel_rfl) (fun _ _ _ h => h) (by kernel_rfl) ?hy116 ?_
  case hy116 => (go_simp; try (with_reducible rfl))
  simp only [Act.put, List.setIfInBounds_toArray, List.set_cons_zero, List.set_cons_succ]
  refine takeW_on (i := 11) 20 (v := ?v117) rfl rfl (by kernel_rfl) (by kernel_rfl) (by kernel_rfl) (fun _ _ _ h => h) (by kernel_rfl) ?hy117 ?_
  case hy117 => (go_simp; try (with_reducible rfl))
  simp only [Act.put, List.setIfInBounds_toArray, List.set_cons_zero, List.set_cons_succ]
  refine takeW_on (i := 12) 21 (v := ?v118) rfl rfl (by kernel_rfl) (by kernel_rfl) (by kernel_rfl) (fun _ _ _ h => h) (by kernel_rfl) ?hy118 ?_
  case hy118 => (go_simp; try (with_reducible rfl))
  simp only [Act.put, List.setIfInBounds_toArray, List.set_cons_zero, List.set_cons_succ]
  refine takeW_on (i := 13) 22 (v := ?v119) rfl rfl (by kernel_rfl) (by kernel_rfl) (by kernel_rfl) (fun _ _ _ h => h) (by kernel_rfl) ?hy119 ?_
  case hy119 => (go_simp; try (with_reducible rfl))
  simp only [Act.put, List.setIfInBounds_toArray, List.set_cons_zero, List.set_cons_succ]
  refine takeW_on (i := 14) 23 (v := ?v120) rfl rfl (by kernel_rfl) (by kernel_rfl) (by kernel_rfl) (fun _ _ _ h => h) (by kernel_rfl) ?hy120 ?_
  case hy120 => (go_simp; try (with_reducible rfl))
  simp only [Act.put, List.setIfInBounds_toArray, List.set_cons_zero, List.set_cons_succ]
  refine takeW_on (i := 15) 24 (v := ?v121) rfl rfl (by kernel_rfl) (by kernel_rfl) (by kernel_rfl) (fun _ _ _ h => h) (by kernel_rfl) ?hy121 ?_
  case hy121 => (go_simp; try (with_reducible rfl))
  simp only [Act.put, List.setIfInBounds_toArray, List.set_cons_zero, List.set_cons_succ]
  refine takeW_on (i := 16) 25 (v := ?v122) rfl rfl (by kernel_rfl) (by kernel_rfl) (by kernel_rfl) (fun _ _ _ h => h) (by kernel_rfl) ?hy122 ?_
  case hy122 => (go_simp; try (with_reducible rfl))
  simp only [Act.put, List.setIfInBounds_toArray, List.set_cons_zero, List.set_cons_succ]
  refine takeW_on (i := 17) 26 (v := ?v123) rfl rfl (by kernel_rfl) (by kernel_rfl) (by kernel_rfl) (fun _ _ _ h => h) (by kernel_rfl) ?hy123 ?_
  case hy123 => (go_simp; try (with_reducible rfl))
  simp only [Act.put, List.setIfInBounds_toArray, List.set_cons_zero, List.set_cons_succ]
  refine takeW_on (i := 18) 27 (v := ?v124) rfl rfl (by kernel_rfl) (by kernel_rfl) (by kernel_rfl) (fun _ _ _ h => h) (by kernel_rfl) ?hy124 ?_
  case hy124 => (go_simp; try (with_reducible rfl))
  simp only [Act.put, List.setIfInBounds_toArray, List.set_cons_zero, List.set_cons_succ]
  refine takeW_on (i := 19) 28 (v := ?v125) rfl rfl (by kernel_rfl) (by kernel_rfl) (by kernel_rfl) (fun _ _ _ h => h) (by kernel_rfl) ?hy125 ?_
  case hy125 => (go_simp; try (with_reducible rfl))
  simp only [Act.put, List.setIfInBounds_toArray, List.set_cons_zero, List.set_cons_succ]
  refine takeW_on (i := 20) 29 (v := ?v126) rfl rfl (by kernel_rfl) (by kernel_rfl) (by kernel_rfl) (fun _ _ _ h => h) (by kernel_rfl) ?hy126 ?_
  case hy126 => (go_simp; try (with_reducible rfl))
  simp only [Act.put, List.setIfInBounds_toArray, List.set_cons_zero, List.set_cons_succ]
  refine takeW_on (i := 21) 30 (v := ?v127) rfl rfl (by kernel_rfl) (by kernel_rfl) (by kernel_rfl) (fun _ _ _ h => h) (by kernel_rfl) ?hy127 ?_
  case hy127 => (go_simp; try (with_reducible rfl))
  simp only [Act.put, List.setIfInBounds_toArray, List.set_cons_zero, List.set_cons_succ]
  refine takeW_on (i := 22) 31 (v := ?v128) rfl rfl (by kernel_rfl) (by kernel_rfl) (by kernel_rfl) (fun _ _ _ h => h) (by kernel_rfl) ?hy128 ?_
  case hy128 => (go_simp; try (with_reducible rfl))
  simp only [Act.put, List.setIfInBounds_toArray, List.set_cons_zero, List.set_cons_succ]
  refine takeW_on (i := 23) 32 (v := ?v129) rfl rfl (by kernel_rfl) (by kernel_rfl) (by kernel_rfl) (fun _ _ _ h => h) (by kernel_rfl) ?hy129 ?_
  case hy129 => (go_simp; try (with_reducible rfl))
  simp only [Act.put, List.setIfInBounds_toArray, List.set_cons_zero, List.set_cons_succ]
  refine takeW_on (i := 24) 33 (v := ?v130) rfl rfl (by kernel_rfl) (by kernel_rfl) (by kernel_rfl) (fun _ _ _ h => h) (by kernel_rfl) ?hy130 ?_
  case hy130 => (go_simp; try (with_reducible rfl))
  simp only [Act.put, List.setIfInBounds_toArray, List.set_cons_zero, List.set_cons_succ]
  refine takeW_on (i := 25) 34 (v := ?v131) rfl rfl (by kernel_rfl) (by kernel_rfl) (by kernel_rfl) (fun _ _ _ h => h) (by kernel_rfl) ?hy131 ?_
  case hy131 => (go_simp; try (with_reducible rfl))
  simp only [Act.put, List.setIfInBounds_toArray, List.set_cons_zero, List.set_cons_succ]
  refine wpAnyH_done (by kernel_rfl) ?_ _
  go_wp2
  go_ret
  exact ⟨rfl, HG2.out⟩

set_option maxHeartbeats 1000000 in
set_option maxRecDepth 60000 in
theorem put_full2 (base b i n cap : Nat) (ao : Option Addr) (xs : List W3) (x : W3) (w : World) (hq : QAt w b (.slice ao n cap)) (ho : Own base w (.slice ao n cap) xs) (_hn : n ≤ 4096) (hi : i = n) (hf : 4096 ≤ n)
    (hP : ∀ w', QAt w' b (.slice ao n cap) → Lst (base ≤ ·) w' (.slice ao n cap) xs → w'.cell? ⟨w.heap.size, 2, none⟩ = some (.int .u64 x.t) → Calls Try.prog 28 #[.pointer (some ⟨b, 0, none⟩), .func (.func 29) #[] #[.pointer (some ⟨w.heap.size, 0, none⟩)]] w' fun e w'' => e = .returned (.int .i64 (i : Int)) ∧ Ch NoB w' w'')
    (hH : ∀ w', QAt w' b (.slice ao n cap) → Lst (base ≤ ·) w' (.slice ao n cap) xs → Calls Try.prog 17 #[.pointer (some ⟨b, 0, none⟩), .agg #[.int .i64 x.s, .int .i64 x.g]] w' fun e w'' => e = .returned (.bool false) ∧ Ch NoB w' w'') :
    Calls Try.prog 15 #[.pointer (some ⟨b, 0, none⟩), .agg #[.int .i64 x.s, .int .i64 x.g, .int .u64 x.t]] w fun e w' => e = .returned (.int .i64 2) ∧ Ch NoB w w' := by
  have hbl := hq.lt
  have HQ := hid hq
  have HO := hid ho
  have HP := hid hP
  have HH := hid hH
  clear hq ho hP hH
  subst hi
  have f0 : (4096 : Int) ≤ (i : Int) := by omega
  go_enter Try.func15, Try.ntmps15
  go_wp2_with fail
  refine (HP.out _ (HQ.out.alloc _) (HO.out.lst.alloc _) (by simp)).mono ?_
  rintro e w1 ⟨rfl, g1⟩
  have T0 := Three.new w x
  have HT := hid (T0.ch g1 (noB _))
  have HQ1 := hid ((HQ.out.alloc _).ch g1 (noB _))
  have HO1 := hid ((HO.out.alloc (.cells #[.int .i64 x.s, .int .i64 x.g, .int .u64 x.t] 33)).ch g1 (fun _ _ => noB _))
  have HG1 := hid (((Ch.refl NoB w).alloc (.cells #[.int .i64 x.s, .int .i64 x.g, .int .u64 x.t] 33)).trans' g1)
  have hs1 := g1.size
  simp only [World.size_alloc] at hs1
  have p0 := HQ1.out.cell
  have bl1 := HQ1.out.lt
  have kl1 := HT.out.lt
  obtain ⟨q0, q1, q2⟩ := HT.out.cells
  clear T0 g1
  go_wp2_with fail
  refine wp_region_any (by kernel_rfl) ?_
  change wpAny _ _ _ _ _ _ _ (World.drew _)
  refine take_on (i := 0) 9 (v := ?v132) rfl rfl (by kernel_rfl) (by kernel_rfl) (by kernel_rfl) (fun _ _ _ h => h) (by kernel_rfl) ?hy132 ?_
  case hy132 => (intro w; go_simp; try (with_reducible rfl))
  simp only [Act.put, List.setIfInBounds_toArray, List.set_cons_zero, List.set_cons_succ]
  refine take_on (i := 1) 10 (v := ?v133) rfl rfl (by kernel_rfl) (by kernel_rfl) (by kernel_rfl) (fun _ _ _ h => h) (by kernel_rfl) ?hy133 ?_
  case hy133 => (intro w; go_simp; try (with_reducible rfl))
  simp only [Act.put, List.setIfInBounds_toArray, List.set_cons_zero, List.set_cons_succ]
  refine wpAny_ready (rs := [2]) (by kernel_rfl) (by simp) (AllReady.cons rfl (fun K hK => ?_) AllReady.nil)
  go_simp
  refine hK _ _ ?_
  clear hK K
  refine wpAny_ready (rs := [3]) (by kernel_rfl) (by simp) (AllReady.cons rfl (fun K hK => ?_) AllReady.nil)
  go_simp
  refine (HH.out _ HQ1.out.drew HO1.out.lst.drew).mono ?_
  rintro e w2 ⟨rfl, g2⟩
  have HG2 := hid (HG1.out.drew.trans' g2)
  have HT2 := hid (Three.ch (HT.out.drew) g2 (noB _))
  have HQ2 := hid (QAt.ch (HQ1.out.drew) g2 (noB _))
  have HO2 := hid (Own.ch (HO1.out.drew) g2 (fun _ _ => noB _))
  have s0 := HQ2.out.cell
  have bl2 := HQ2.out.lt
  have kl2 := HT2.out.lt
  obtain ⟨t0, t1, t2⟩ := HT2.out.cells
  clear g2
  go_wp2_with fail
  refine held_here ?_
  refine takeW_on (i := 4) 13 (v := ?v134) rfl rfl (by kernel_rfl) (by kernel_rfl) (by kernel_rfl) (fun _ _ _ h => h) (by kernel_rfl) ?hy134 ?_
  case hy134 => (go_simp; try (with_reducible rfl))
  simp only [Act.put, List.setIfInBounds_toArray, List.set_cons_zero, List.set_cons_succ]
  refine takeW_on (i := 5) 14 (v := ?v135) rfl rfl (by kernel_rfl) (by kernel_rfl) (by kernel_rfl) (fun _ _ _ h => h) (by kernel_rfl) ?hy135 ?_
  case hy135 => (go_simp; try (with_reducible rfl))
  simp only [Act.put, List.setIfInBounds_toArray, List.set_cons_zero, List.set_cons_succ]
  refine takeW_on (i := 6) 15 (v := ?v136) rfl rfl (by kernel_rfl) (by kernel_rfl) (by kernel_rfl) (fun _ _ _ h => h) (by kernel_rfl) ?hy136 ?_
  case hy136 => (go_simp; try (with_reducible rfl))
  simp only [Act.put, List.setIfInBounds_toArray, List.set_cons_zero, List.set_cons_succ]
  refine takeW_on (i := 7) 16 (v := ?v137) rfl rfl (by kernel_rfl) (by kernel_rfl) (by kernel_rfl) (fun _ _ _ h => h) (by kernel_rfl) ?hy137 ?_
  case hy137 => (go_simp; try (with_reducible rfl))
  simp only [Act.put, List.setIfInBounds_toArray, List.set_cons_zero, List.set_cons_succ]
  refine takeW_on (i := 8) 17 (v := ?v138) rfl rfl (by kernel_rfl) (by kernel_rfl) (by kernel_rfl) (fun _ _ _ h => h) (by kernel_rfl) ?hy138 ?_
  case hy138 => (go_simp; try (with_reducible rfl))
  simp only [Act.put, List.setIfInBounds_toArray, List.set_cons_zero, List.set_cons_succ]
  refine takeW_on (i := 9) 18 (v := ?v139) rfl rfl (by kernel_rfl) (by kernel_rfl) (by kernel_rfl) (fun _ _ _ h => h) (by kernel_rfl) ?hy139 ?_
  case hy139 => (go_simp; try (with_reducible rfl))
  simp only [Act.put, List.setIfInBounds_toArray, List.set_cons_zero, List.set_cons_succ]
  refine takeW_on (i := 10) 19 (v := ?v140) rfl rfl (by kernel_rfl) (by kernel_rfl) (by kernel_rfl) (fun _ _ _ h => h) (by kernel_rfl) ?hy140 ?_
  case hy140 => (go_simp; try (with_reducible rfl))
  simp only [Act.put, List.setIfInBounds_toArray, List.set_cons_zero, List.set_cons_succ]
  refine takeW_on (i := 11) 20 (v := ?v141) rfl rfl (by kernel_rfl) (by kernel_rfl) (by kernel_rfl) (fun _ _ _ h => h) (by kernel_rfl) ?hy141 ?_
  case hy141 => (go_simp; try (with_reducible rfl))
  simp only [Act.put, List.setIfInBounds_toArray, List.set_cons_zero, List.set_cons_succ]
  refine takeW_on (i := 12) 21 (v := ?v142) rfl rfl (by kernel_rfl) (by kernel_rfl) (by kernel_rfl) (fun _ _ _ h => h) (by kernel_rfl) ?hy142 ?_
  case hy142 => (go_simp; try (with_reducible rfl))
  simp only [Act.put, List.setIfInBounds_toArray, List.set_cons_zero, List.set_cons_succ]
  refine skipW_on (i := 13) 22 rfl rfl (by kernel_rfl) (by kernel_rfl) (by kernel_rfl) (fun _ _ _ h => h) (by kernel_rfl) ?_
  simp only [Act.put, List.setIfInBounds_toArray, List.set_cons_zero, List.set_cons_succ]
  refine skipW_on (i := 14) 23 rfl rfl (by kernel_rfl) (by kernel_rfl) (by kernel_rfl) (fun _ _ _ h => h) (by kernel_rfl) ?_
  simp only [Act.put, List.setIfInBounds_toArray, List.set_cons_zero, List.set_cons_succ]
  refine skipW_on (i := 15) 24 rfl rfl (by kernel_rfl) (by kernel_rfl) (by kernel_rfl) (fun _ _ _ h => h) (by kernel_rfl) ?_
  simp only [Act.put, List.setIfInBounds_toArray, List.set_cons_zero, List.set_cons_succ]
  refine skipW_on (i := 16) 25 rfl rfl (by kernel_rfl) (by kernel_rfl) (by kernel_rfl) (fun _ _ _ h => h) (by kernel_rfl) ?_
  simp only [Act.put, List.setIfInBounds_toArray, List.set_cons_zero, List.set_cons_succ]
  refine skipW_on (i := 17) 26 rfl rfl (by kernel_rfl) (by kernel_rfl) (by kernel_rfl) (fun _ _ _ h => h) (by kernel_rfl) ?_
  simp only [Act.put, List.setIfInBounds_toArray, List.set_cons_zero, List.set_cons_succ]
  refine skipW_on (i := 18) 27 rfl rfl (by kernel_rfl) (by kernel_rfl) (by kernel_rfl) (fun _ _ _ h => h) (by kernel_rfl) ?_
  simp only [Act.put, List.setIfInBounds_toArray, List.set_cons_zero, List.set_cons_succ]
  refine skipW_on (i := 19) 28 rfl rfl (by kernel_rfl) (by kernel_rfl) (by kernel_rfl) (fun _ _ _ h => h) (by kernel_rfl) ?_
  simp only [Act.put, List.setIfInBounds_toArray, List.set_cons_zero, List.set_cons_succ]
  refine skipW_on (i := 20) 29 rfl rfl (by kernel_rfl) (by kernel_rfl) (by kernel_rfl) (fun _ _ _ h => h) (by kernel_rfl) ?_
  simp only [Act.put, List.setIfInBounds_toArray, List.set_cons_zero, List.set_cons_succ]
  refine skipW_on (i := 21) 30 rfl rfl (by kernel_rfl) (by kernel_rfl) (by kernel_rfl) (fun _ _ _ h => h) (by kernel_rfl) ?_
  simp only [Act.put, List.setIfInBounds_toArray, List.set_cons_zero, List.set_cons_succ]
  refine skipW_on (i := 22) 31 rfl rfl (by kernel_rfl) (by kernel_rfl) (by kernel_rfl) (fun _ _ _ h => h) (by kernel_rfl) ?_
  simp only [Act.put, List.setIfInBounds_toArray, List.set_cons_zero, List.set_cons_succ]
  refine skipW_on (i := 23) 32 rfl rfl (by kernel_rfl) (by kernel_rfl) (by kernel_rfl) (fun _ _ _ h => h) (by kernel_rfl) ?_
  simp only [Act.put, List.setIfInBounds_toArray, List.set_cons_zero, List.set_cons_succ]
  refine takeW_on (i := 24) 33 (v := ?v154) rfl rfl (by kernel_rfl) (by kernel_rfl) (by kernel_rfl) (fun _ _ _ h => h) (by kernel_rfl) ?hy154 ?_
  case hy154 => (go_simp; try (with_reducible rfl))
  simp only [Act.put, List.setIfInBounds_toArray, List.set_cons_zero, List.set_cons_succ]
  refine takeW_on (i := 25) 34 (v := ?v155) rfl rfl (by kernel_rfl) (by kernel_rfl) (by kernel_rfl) (fun _ _ _ h => h) (by kernel_rfl) ?hy155 ?_
  case hy155 => (go_simp; try (with_reducible rfl))
  simp only [Act.put, List.setIfInBounds_toArray, List.set_cons_zero, List.set_cons_succ]
  refine wpAnyH_done (by kernel_rfl) ?_ _
  go_wp2
  go_ret
  exact ⟨rfl, HG2.out⟩

/-- is one of that goroutine, or of that turn, there? -/
def isThere (xs : List W3) (x : W3) : Bool := decide (0 ≤ atG x.s x.g xs) || (match xs[below x.t xs]? with | some y => y.t == x.t | none => false)
def putE (xs : List W3) (x : W3) : Int := if isThere xs x = true then 30 else if 4096 ≤ xs.length then 2 else 0
def putL (xs : List W3) (x : W3) : List W3 := if putE xs x = 0 then xs.take (below x.t xs) ++ x :: xs.drop (below x.t xs) else xs
theorem Left.same {base b : Nat} {v : Value} {w w' : World} {xs : List W3} (h : Que base w b v xs) (g : Ch NoB w w') : Left base b v w xs w' := ⟨v, h.ch g (fun _ _ => noB _), g.any, fun _ e => .inl e⟩

theorem put_any (base b : Nat) (v : Value) (xs : List W3) (x : W3) (w : World) (hq : Que base w b v xs) (hu : Up xs) (hb : base ≤ w.heap.size) :
    Calls Try.prog 15 #[.pointer (some ⟨b, 0, none⟩), .agg #[.int .i64 x.s, .int .i64 x.g, .int .u64 x.t]] w fun e w' => e = .returned (.int .i64 (putE xs x)) ∧ Left base b v w (putL xs x) w' := by
  have hP := fun w' (h1 : QAt w' b v) (h2 : Lst (base ≤ ·) w' v xs) (h3 : w'.cell? ⟨w.heap.size, 2, none⟩ = some (.int .u64 x.t)) => place_any (base ≤ ·) b w.heap.size v xs x.t w' h1 h2 (by have := hq.2.2.2; omega) hu h3
  have hH := fun w' (h1 : QAt w' b v) (h2 : Lst (base ≤ ·) w' v xs) => has_any (base ≤ ·) b v xs x.s x.g w' h1 h2 (by have := hq.2.2.2; omega)
  have hlen := hq.2.2.2
  have hle := below_le x.t xs
  by_cases hh : 0 ≤ atG x.s x.g xs
  · have hd : decide (0 ≤ atG x.s x.g xs) = true := decide_eq_true hh
    rw [hd] at hH
    have ht : isThere xs x = true := by unfold isThere; rw [hd]; rfl
    have he : putE xs x = 30 := by unfold putE; rw [if_pos ht]
    have hl : putL xs x = xs := by unfold putL; rw [he]; rfl
    rw [he, hl]
    obtain ⟨ao, cap, rfl⟩ := hq.2.1.form
    refine (put_has base b (below x.t xs) xs.length cap ao xs x w hq.1 hq.2.1 hlen hle hP hH).mono ?_
    rintro e w' ⟨rfl, g⟩
    exact ⟨rfl, Left.same hq g⟩
  · have hd : decide (0 ≤ atG x.s x.g xs) = false := decide_eq_false hh
    rw [hd] at hH
    by_cases hi : below x.t xs < xs.length
    · obtain ⟨y, hy⟩ : ∃ y, xs[below x.t xs]? = some y := ⟨_, List.getElem?_eq_getElem hi⟩
      obtain ⟨g, cap, rfl, hbg, hgl⟩ := hq.some (by omega)
      obtain ⟨-, -, ha⟩ := hq.2.1.get hy
      by_cases hty : y.t = x.t
      · have ht : isThere xs x = true := by unfold isThere; rw [hy, hd]; simp [hty]
        have he : putE xs x = 30 := by unfold putE; rw [if_pos ht]
        have hl : putL xs x = xs := by unfold putL; rw [he]; rfl
        rw [he, hl]
        refine (put_turn base b (below x.t xs) xs.length cap g y.t xs x w hq.1 hq.2.1 hlen hi ha hty hgl hP hH).mono ?_
        rintro e w' ⟨rfl, g'⟩
        exact ⟨rfl, Left.same hq g'⟩
      · have ht : isThere xs x = false := by unfold isThere; rw [hy, hd]; simp [hty]
        by_cases hf : 4096 ≤ xs.length
        · have he : putE xs x = 2 := by unfold putE; rw [ht, if_neg (by simp), if_pos hf]
          have hl : putL xs x = xs := by unfold putL; rw [he]; rfl
          rw [he, hl]
          refine (put_full1 base b (below x.t xs) xs.length cap g y.t xs x w hq.1 hq.2.1 hlen hi ha hty hgl hf hP hH).mono ?_
          rintro e w' ⟨rfl, g'⟩
          exact ⟨rfl, Left.same hq g'⟩
        · have he : putE xs x = 0 := by unfold putE; rw [ht, if_neg (by simp), if_neg hf]
          have hl : putL xs x = xs.take (below x.t xs) ++ x :: xs.drop (below x.t xs) := by unfold putL; rw [he]; rfl
          rw [he, hl]
          exact put_mid base b (below x.t xs) xs.length cap g y.t xs x w hq.1 hq.2.1 hlen hi ha hty hgl (by omega) rfl hb hq.2.2.1 hP hH
    · have hie : below x.t xs = xs.length := by omega
      have hy : xs[below x.t xs]? = none := List.getElem?_eq_none (by omega)
      have ht : isThere xs x = false := by unfold isThere; rw [hy, hd]; rfl
      obtain ⟨ao, cap, rfl⟩ := hq.2.1.form
      by_cases hf : 4096 ≤ xs.length
      · have he : putE xs x = 2 := by unfold putE; rw [ht, if_neg (by simp), if_pos hf]
        have hl : putL xs x = xs := by unfold putL; rw [he]; rfl
        rw [he, hl]
        refine (put_full2 base b (below x.t xs) xs.length cap ao xs x w hq.1 hq.2.1 hlen hie hf hP hH).mono ?_
        rintro e w' ⟨rfl, g'⟩
        exact ⟨rfl, Left.same hq g'⟩
      · have he : putE xs x = 0 := by unfold putE; rw [ht, if_neg (by simp), if_neg hf]
        have hl : putL xs x = xs.take (below x.t xs) ++ x :: xs.drop (below x.t xs) := by unfold putL; rw [he]; rfl
        rw [he, hl]
        exact put_end base b (below x.t xs) xs.length cap ao xs x w hq.1 hq.2.1 hlen hie (by omega) rfl hb hq.2.2.1 hP hH
end Go.Proofs.Ytphohfafehjafaa.Ff
