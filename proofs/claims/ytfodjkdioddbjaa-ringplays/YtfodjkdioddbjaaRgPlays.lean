/-
  What RingPlays of the statements answers: true, at any calls. Condition: the list of calls is there, and shorter than 2^62; what 'calls' does is known.
-/
import Derived.Test.YtfodjkdioddbjaaRgStand
import Derived.Deep.DeepCutAuto
import Derived.Deep.RegionWith
namespace Go.Proofs.Ytfodjkdioddbjaa.Rg
open Go.RowKit
attribute [local go_sem ↓] Go.wp_at_zero Go.wp_at_succ

set_option maxHeartbeats 1000000 in
theorem plays_law (hC : CallsAll) (ov : Value) (os : List (Int × W3)) (w : World) (ho : Ops w.heap.size w ov os) (hl : os.length ≤ 4611686018427387903) :
    Calls Try.prog 3 #[ov] w fun e w' => e = .returned (.bool true) ∧ Ch NoB w w' := by
  obtain ⟨oa, oc, rfl⟩ := ho.form
  obtain ⟨m, hm⟩ : ∃ m, m = os.length := ⟨_, rfl⟩
  rw [← hm] at ho hl ⊢
  have HO := hid ho
  have HCA := hid hC
  clear hC
  have HM := hid hm
  clear ho hm
  go_enter Try.func3, Try.ntmps3
  go_wp2_with fail
  refine (begun_any _).mono ?_
  rintro e w1 ⟨b, c, rfl, hb, hbc, r1, r2, g1⟩
  have hs1 := g1.size
  have hb1 := r1.lt
  have hc1 := r2.lt
  have HS := hid (stand_begun r1 r2 g1 rfl)
  clear r1 r2 g1
  go_wp2_with fail
  go_loopg [4, 5] m (fun k ok i wr => ∃ j, j + k = m ∧ ok = .bool true ∧ i = .int .i64 ((j : Nat) : Int) ∧ Stand b c w1.heap.size w wr)
  case atStart => exact ⟨0, by omega, rfl, rfl, HS.out⟩
  case round =>
    obtain ⟨j, hjk, rfl, rfl, hst⟩ := hrel
    by_cases hj : j < m
    · obtain ⟨⟨d, x⟩, hq⟩ : ∃ q, os[j]? = some q := ⟨_, List.getElem?_eq_getElem (by rw [← HM.out]; exact hj)⟩
      obtain ⟨xs, zs, nx, ny, u, v, n, hn, hp, hr1, hr2, hl1, hl2, hg⟩ := hst
      obtain ⟨ua, uc, rfl⟩ := hl1.form
      obtain ⟨va, vc, rfl⟩ := hl2.form
      obtain ⟨g, o, rfl, hgB, o0, o1, o2, o3⟩ := (HO.out.ch hg (Nat.le_refl _) (fun _ _ => noB _)).get hq
      obtain ⟨p0, p1, p2, p3, p4, p5, p6, p7, p8, p9, p10, p11, p12⟩ := hp.cells
      have hpl := hp.lt
      have hgl := hg.size
      have j0 : (0 : Int) ≤ (j : Int) := by omega
      have j1 : (j : Int) < (m : Int) := by omega
      have HC := hid (fun w2 (h1 : RingAt w2 b xs nx) (h2 : RingAt w2 c zs ny) (h3 : Lst (Av b c w1.heap.size) w2 (.slice ua xs.length uc) xs) (h4 : Lst (Av b c w1.heap.size) w2 (.slice va zs.length vc) zs) (h5 : w1.heap.size < w2.heap.size) => HCA.out b c w1.heap.size _ _ xs zs nx ny n d x w2 h1 h2 h3 h4 h5 (by omega) hn)
      have HP := hid hp
      have HR1 := hid hr1
      have HR2 := hid hr2
      have HL1 := hid hl1
      have HL2 := hid hl2
      have HG := hid hg
      clear hp hr1 hr2 hl1 hl2 hg hq hn
      go_wp2
      go_cut [4] (fun y wr => y = .bool true ∧ Stand b c w1.heap.size w wr)
      case first =>
        go_region_with (first
          | (go_at_call 10; refine (HC.out _ HR1.out.drew HR2.out.drew HL1.out.drew HL2.out.drew hpl).mono ?_; rintro e w5 ⟨xs', zs', nx', ny', u', v', n', rfl, hn', r1', r2', l1', l2', g5⟩; obtain ⟨ua', uc', rfl⟩ := l1'.form; obtain ⟨va', vc', rfl⟩ := l2'.form; have P5 := HP.out.drew.ch g5 (fun e => by rcases e with e | e <;> omega); obtain ⟨q0, q1, q2, q3, q4, q5, q6, q7, q8, q9, q10, q11, q12⟩ := P5.cells; obtain ⟨f0, f1, f2, f3, f4, f5, f6, f7, f8, f9, f10, f11, f12⟩ := P5.fz; have HP5 := hid P5; have HR1' := hid r1'; have HR2' := hid r2'; have HL1' := hid l1'; have HL2' := hid l2'; have HG5 := hid g5; have HN' := hid hn'; clear P5 r1' r2' l1' l2' g5 hn'))
        all_goals go_wp2_with fail
        all_goals go_meet
        all_goals exact ⟨rfl, Stand.put (by omega) (by omega) (by omega) (by omega) (by omega) HG.out.drew HN'.out HR1'.out HR2'.out HL1'.out HL2'.out HG5.out HP5.out⟩
      case rest =>
        obtain ⟨rfl, hst⟩ := hcut
        have HST := hid hst
        obtain ⟨xs', zs', nx', ny', u', v', n', hn', hp', hr1', hr2', hl1', hl2', hg'⟩ := hst
        obtain ⟨ua', uc', rfl⟩ := hl1'.form
        obtain ⟨va', vc', rfl⟩ := hl2'.form
        clear p0 p1 p2 p3 p4 p5 p6 p7 p8 p9 p10 p11 p12 hn'
        obtain ⟨p0, p1, p2, p3, p4, p5, p6, p7, p8, p9, p10, p11, p12⟩ := hp'.cells
        have HR1' := hid hr1'
        have HR2' := hid hr2'
        have HL1' := hid hl1'
        have HL2' := hid hl2'
        clear hp' hr1' hr2' hl1' hl2' hg'
        go_wp2_with fail
        refine (tells_any (Av b c w1.heap.size) b c _ _ xs' zs' nx' ny' nx'.isSome ny'.isSome (nx'.getD W3.zero) (ny'.getD W3.zero) n' _ rfl rfl rfl rfl HR1'.out HR2'.out HL1'.out HL2'.out).mono ?_
        rintro e w6 ⟨rfl, g6⟩
        have HG6 := hid g6
        clear g6
        go_wp2
        go_roundg (gk - 1)
        case measure => omega
        case rel => exact ⟨j + 1, by omega, rfl, by simp, HST.out.ch HG6.out⟩
    · obtain ⟨xs', zs', nx', ny', u', v', n', hn', hp', hr1', hr2', hl1', hl2', hg'⟩ := hst
      obtain ⟨ua', uc', rfl⟩ := hl1'.form
      obtain ⟨va', vc', rfl⟩ := hl2'.form
      obtain ⟨p0, p1, p2, p3, p4, p5, p6, p7, p8, p9, p10, p11, p12⟩ := hp'.cells
      have HR1' := hid hr1'
      have HR2' := hid hr2'
      have HL1' := hid hl1'
      have HL2' := hid hl2'
      have HG := hid hg'
      clear hp' hr1' hr2' hl1' hl2' hg' hn'
      go_wp2_with fail
      refine (tells_any (Av b c w1.heap.size) b c _ _ xs' zs' nx' ny' nx'.isSome ny'.isSome (nx'.getD W3.zero) (ny'.getD W3.zero) n' _ rfl rfl rfl rfl HR1'.out HR2'.out HL1'.out HL2'.out).mono ?_
      rintro e w6 ⟨rfl, g6⟩
      have HG6 := hid g6
      clear g6
      go_wp2_with fail
      refine (awake_any _).mono ?_
      rintro e w7 ⟨rfl, g7⟩
      have HG7 := hid g7
      clear g7
      go_wp2
      go_ret
      exact ⟨rfl, (HG.out.trans' HG6.out).trans' HG7.out⟩
end Go.Proofs.Ytfodjkdioddbjaa.Rg
