/-
  What RingLoads of the statements answers: true, at any state and any calls. Condition: the lists are there, and the calls fewer than 2^62; what 'calls' does is known.
-/
import Derived.Test.YtfodjkdioddbjaaRgStand
import Derived.Test.YtfodjkdioddbjaaRgLaw0
import Derived.Deep.RegionWith
namespace Go.Proofs.Ytfodjkdioddbjaa.Rg
open Go.RowKit
attribute [local go_sem ↓] Go.wp_at_zero Go.wp_at_succ

theorem loads_bad (P : Nat → Prop) (sv : Value) (xs : List W3) (hs : Bool) (y : W3) (ov : Value) (w : World) (hx : Lst P w sv xs) (hmax : xs.length ≤ 9223372036854775807) (E : Int) (hE : ldE xs (nxo hs y) = E) (h0 : E ≠ 0) :
    Calls Try.prog 4 #[.agg #[sv, .bool hs, .int .i64 y.s, .int .i64 y.g, .int .u64 y.t], ov] w fun e w' => e = .returned (.bool true) ∧ Ch NoB w w' := by
  obtain ⟨ao, cap, rfl⟩ := hx.form
  have hd : (E != 0) = true := by simpa using h0
  have hd2 : (E == 0) = false := by simpa using h0
  have HX := hid hx
  have HM := hid hmax
  have HE := hid hE
  clear hx hmax hE
  go_enter Try.func4, Try.ntmps4
  go_wp2_with fail
  refine (load_bad (HX.out.alloc _) HM.out HE.out h0).mono ?_
  rintro e w1 ⟨rfl, g1⟩
  have F := (Five.new w (.slice ao xs.length cap) (.bool hs) (.int .i64 y.s) (.int .i64 y.g) (.int .u64 y.t)).ch g1 (noB _)
  obtain ⟨c0, c1, c2, c3, c4⟩ := F.cells
  have hlt := F.lt
  have HX1 := hid ((HX.out.alloc (.cells #[.slice ao xs.length cap, .bool hs, .int .i64 y.s, .int .i64 y.g, .int .u64 y.t] 32)).ch g1 (fun _ _ _ => noB _))
  have HG := hid (((Ch.refl NoB w).alloc _).trans' g1)
  clear g1 F
  go_wp2_with fail
  refine (rload_bad HX1.out HM.out HE.out h0).mono ?_
  rintro e w2 ⟨rfl, g2⟩
  have HG2 := hid (HG.out.trans' g2)
  clear g2
  go_wp2_with fail
  refine (awake_any _).mono ?_
  rintro e w3 ⟨rfl, g3⟩
  have HG3 := hid ((HG2.out.alloc _).trans' g3)
  clear g3
  go_wp2
  go_ret
  exact ⟨rfl, HG3.out⟩

theorem nxo_isSome (hs : Bool) (y : W3) : (nxo hs y).isSome = hs := by cases hs <;> rfl

set_option maxHeartbeats 2000000 in
theorem loads_good (hC : CallsAll) (P : Nat → Prop) (sv : Value) (xs : List W3) (hs : Bool) (y : W3) (ov : Value) (os : List (Int × W3)) (w : World) (hx : Lst P w sv xs) (hmax : xs.length ≤ 9223372036854775807) (hE : ldE xs (nxo hs y) = 0) (ho : Ops w.heap.size w ov os) (hl : os.length ≤ 4611686018427387903) :
    Calls Try.prog 4 #[.agg #[sv, .bool hs, .int .i64 y.s, .int .i64 y.g, .int .u64 y.t], ov] w fun e w' => e = .returned (.bool true) ∧ Ch NoB w w' := by
  obtain ⟨ao, cap, rfl⟩ := hx.form
  obtain ⟨oa, oc, rfl⟩ := ho.form
  obtain ⟨m, hm⟩ : ∃ m, m = os.length := ⟨_, rfl⟩
  rw [← hm] at ho hl ⊢
  obtain ⟨nx, hn⟩ : ∃ nx, nxo hs y = nx := ⟨_, rfl⟩
  have hh : hs = nx.isSome := by rw [← hn, nxo_isSome]
  rw [hn] at hE
  have HX := hid hx
  have HMX := hid hmax
  have HE := hid hE
  have HN := hid hn
  have HH := hid hh
  have HO := hid ho
  have HCA := hid hC
  have HM := hid hm
  clear hx hmax hE hn hh ho hC hm
  go_enter Try.func4, Try.ntmps4
  go_wp2_with fail
  refine (load_good (HX.out.alloc _) HMX.out HN.out HE.out).mono ?_
  rintro e w1 ⟨b, rfl, hb, r1, g1⟩
  simp only [World.size_alloc] at hb
  have hb1 := r1.lt
  have F := (Five.new w (.slice ao xs.length cap) (.bool hs) (.int .i64 y.s) (.int .i64 y.g) (.int .u64 y.t)).ch g1 (noB _)
  obtain ⟨c0, c1, c2, c3, c4⟩ := F.cells
  have hlt := F.lt
  have HX1 := hid ((HX.out.alloc (.cells #[.slice ao xs.length cap, .bool hs, .int .i64 y.s, .int .i64 y.g, .int .u64 y.t] 32)).ch g1 (fun _ _ _ => noB _))
  have HR1 := hid r1
  have HG1 := hid (((Ch.refl NoB w).alloc _).trans' g1)
  clear g1 F r1
  go_wp2_with fail
  refine (rload_good HX1.out HMX.out (by rw [HN.out]; exact HE.out) (by rw [HN.out])).mono ?_
  rintro e w2 ⟨v, rfl, l2, g2⟩
  obtain ⟨ta, tc, rfl⟩ := l2.form
  have hs2 := g2.size
  have HR2 := hid (HR1.out.ch g2 (noB _))
  have HL2 := hid l2
  have HG2 := hid (HG1.out.trans' g2)
  clear l2 g2
  go_wp2_with fail
  refine (begun_any _).mono ?_
  rintro e w3 ⟨b', c, rfl, hb', hbc, q1, q2, g3⟩
  simp only [World.size_alloc] at hb'
  have hs3 := g3.size
  simp only [World.size_alloc] at hs3
  have hc3 := q2.lt
  have F3 := (Five.new w2 (.slice ta xs.length tc) (.bool hs) (.int .i64 (nx.getD W3.zero).s) (.int .i64 (nx.getD W3.zero).g) (.int .u64 (nx.getD W3.zero).t)).ch g3 (noB _)
  obtain ⟨t0, t1, t2, t3, t4⟩ := F3.cells
  have ht3 := F3.lt
  have HR3 := hid ((HR2.out.alloc (.cells #[.slice ta xs.length tc, .bool hs, .int .i64 (nx.getD W3.zero).s, .int .i64 (nx.getD W3.zero).g, .int .u64 (nx.getD W3.zero).t] 32)).ch g3 (noB _))
  have HQ3 := hid q2
  have HL3 := hid (((HL2.out.alloc (.cells #[.slice ta xs.length tc, .bool hs, .int .i64 (nx.getD W3.zero).s, .int .i64 (nx.getD W3.zero).g, .int .u64 (nx.getD W3.zero).t] 32)).mono (Q := fun g => w1.heap.size ≤ g ∧ g < w2.heap.size + 1) (fun g h1 h2 => ⟨h2, by simpa using h1⟩)).ch g3 (fun _ _ _ => noB _))
  have HG3 := hid ((HG2.out.alloc _).trans' g3)
  clear g3 F3 q1 q2
  go_wp2_with fail
  refine (tells_any (fun g => w1.heap.size ≤ g ∧ g < w2.heap.size + 1) b c _ _ xs [] nx none hs false (nx.getD W3.zero) W3.zero 0 _ HH.out.symm rfl rfl rfl (HR3.out.alloc _) (HQ3.out.alloc _) (HL3.out.alloc _) (Lst.nil _ _)).mono ?_
  rintro e w4 ⟨rfl, g4⟩
  have hst : Stand b c w3.heap.size w w4 := by
    refine ⟨xs, [], nx, none, .slice ta xs.length tc, .slice none 0 0, 0, .inl rfl, ?_, (HR3.out.alloc _).ch g4 (noB _), (HQ3.out.alloc _).ch g4 (noB _), ?_, Lst.nil _ _, (HG3.out.alloc _).trans' g4⟩
    · rw [← HH.out]
      exact (Pair.new w3 _).ch g4 (noB _)
    · exact ((HL3.out.alloc _).ch g4 (fun _ _ _ => noB _)).mono (fun g _ h => ⟨by omega, by omega, by omega⟩)
  have HST := hid hst
  have hpkw : w.heap.size ≤ w3.heap.size := by omega
  clear g4 hst c0 c1 c2 c3 c4 t0 t1 t2 t3 t4
  go_wp2_with fail
  go_loopg [10, 11] m (fun k ok i wr => ∃ j, j + k = m ∧ ok = .bool true ∧ i = .int .i64 ((j : Nat) : Int) ∧ Stand b c w3.heap.size w wr)
  case atStart => exact ⟨0, by omega, rfl, rfl, HST.out⟩
  case round =>
    obtain ⟨j, hjk, rfl, rfl, hst⟩ := hrel
    by_cases hj : j < m
    · obtain ⟨⟨d, x⟩, hq⟩ : ∃ q, os[j]? = some q := ⟨_, List.getElem?_eq_getElem (by rw [← HM.out]; exact hj)⟩
      obtain ⟨xs, zs, nx, ny, u, v, n, hn, hp, hr1, hr2, hl1, hl2, hg⟩ := hst
      obtain ⟨ua, uc, rfl⟩ := hl1.form
      obtain ⟨va, vc, rfl⟩ := hl2.form
      obtain ⟨g, o, rfl, hgB, o0, o1, o2, o3⟩ := (HO.out.ch hg (Nat.le_refl _) (fun _ _ => noB _)).get hq
      obtain ⟨p0, p1, p2, p3, p4, p5, p6, p7, p8, p9, p10, p11, p12⟩ := hp.cells
      have hpl := hp.lt
      have hgl := hg.size
      have j0 : (0 : Int) ≤ (j : Int) := by omega
      have j1 : (j : Int) < (m : Int) := by omega
      have HC := hid (fun w2 (h1 : RingAt w2 b xs nx) (h2 : RingAt w2 c zs ny) (h3 : Lst (Av b c w3.heap.size) w2 (.slice ua xs.length uc) xs) (h4 : Lst (Av b c w3.heap.size) w2 (.slice va zs.length vc) zs) (h5 : w3.heap.size < w2.heap.size) => HCA.out b c w3.heap.size _ _ xs zs nx ny n d x w2 h1 h2 h3 h4 h5 (by omega) hn)
      have HP := hid hp
      have HR1 := hid hr1
      have HR2 := hid hr2
      have HL1 := hid hl1
      have HL2 := hid hl2
      have HG := hid hg
      clear hp hr1 hr2 hl1 hl2 hg hq hn
      go_wp2
      go_region_with (first
          | (go_at_call 10; refine (HC.out _ HR1.out.drew HR2.out.drew HL1.out.drew HL2.out.drew hpl).mono ?_; rintro e w5 ⟨xs', zs', nx', ny', u', v', n', rfl, hn', r1', r2', l1', l2', g5⟩; obtain ⟨ua', uc', rfl⟩ := l1'.form; obtain ⟨va', vc', rfl⟩ := l2'.form; have P5 := HP.out.drew.ch g5 (fun e => by rcases e with e | e <;> omega); obtain ⟨q0, q1, q2, q3, q4, q5, q6, q7, q8, q9, q10, q11, q12⟩ := P5.cells; obtain ⟨f0, f1, f2, f3, f4, f5, f6, f7, f8, f9, f10, f11, f12⟩ := P5.fz; have HP5 := hid P5; have HR1' := hid r1'; have HR2' := hid r2'; have HL1' := hid l1'; have HL2' := hid l2'; have HG5 := hid g5; have HN' := hid hn'; clear P5 r1' r2' l1' l2' g5 hn'))
      all_goals go_wp2
      all_goals go_roundg (gk - 1)
      all_goals first
        | omega
        | exact ⟨j + 1, by omega, rfl, by simp, Stand.put (by omega) (by omega) (by omega) (by omega) (by omega) HG.out.drew HN'.out HR1'.out HR2'.out HL1'.out HL2'.out HG5.out HP5.out⟩
    · obtain ⟨xs', zs', nx', ny', u', v', n', hn', hp', hr1', hr2', hl1', hl2', hg'⟩ := hst
      obtain ⟨ua', uc', rfl⟩ := hl1'.form
      obtain ⟨va', vc', rfl⟩ := hl2'.form
      obtain ⟨p0, p1, p2, p3, p4, p5, p6, p7, p8, p9, p10, p11, p12⟩ := hp'.cells
      have HR1' := hid hr1'
      have HR2' := hid hr2'
      have HL1' := hid hl1'
      have HL2' := hid hl2'
      have HG := hid hg'
      clear hp' hr1' hr2' hl1' hl2' hg' hn'
      go_wp2_with fail
      refine (tells_any (Av b c w3.heap.size) b c _ _ xs' zs' nx' ny' nx'.isSome ny'.isSome (nx'.getD W3.zero) (ny'.getD W3.zero) n' _ rfl rfl rfl rfl HR1'.out HR2'.out HL1'.out HL2'.out).mono ?_
      rintro e w6 ⟨rfl, g6⟩
      have HG6 := hid g6
      clear g6
      go_wp2
      go_ret
      exact ⟨rfl, HG.out.trans' HG6.out⟩
theorem loads_law (hC : CallsAll) (sv : Value) (xs : List W3) (hs : Bool) (y : W3) (ov : Value) (os : List (Int × W3)) (w : World) (hx : Lst (fun _ => True) w sv xs) (hmax : xs.length ≤ 9223372036854775807) (ho : Ops w.heap.size w ov os) (hl : os.length ≤ 4611686018427387903) :
    Calls Try.prog 4 #[.agg #[sv, .bool hs, .int .i64 y.s, .int .i64 y.g, .int .u64 y.t], ov] w fun e w' => e = .returned (.bool true) ∧ Ch NoB w w' := by
  by_cases hE : ldE xs (nxo hs y) = 0
  · exact loads_good hC _ sv xs hs y ov os w hx hmax hE ho hl
  · exact loads_bad _ sv xs hs y ov w hx hmax _ rfl hE
end Go.Proofs.Ytfodjkdioddbjaa.Rg
