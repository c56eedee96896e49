/-
  What tells of the statements answers: true, where both rings tell what the document's are. Condition: rings and lists are there.
-/
import Derived.Test.YtfodjkdioddbjabRgBegun
namespace Go.Proofs.Ytfodjkdioddbjab.Rg
open Go.RowKit
attribute [local go_sem ↓] Go.wp_at_zero Go.wp_at_succ

theorem Pair.drew {w : World} {k : Nat} {a : Array Value} (h : Pair w k a) : Pair w.drew k a := h

set_option maxHeartbeats 2000000 in
theorem tells_any (P : Nat → Prop) (b c : Nat) (u v : Value) (xs zs : List W3) (nx ny : Option W3) (hx hz : Bool) (x z : W3) (n : Int) (w : World)
    (ex : nx.isSome = hx) (ez : ny.isSome = hz) (ex' : nx.getD W3.zero = x) (ez' : ny.getD W3.zero = z)
    (hb : RingAt w b xs nx) (hc : RingAt w c zs ny) (hlx : Lst P w u xs) (hlz : Lst P w v zs) :
    Calls Try.prog 24 #[.agg #[.pointer (some ⟨b, 0, none⟩), .pointer (some ⟨c, 0, none⟩), u, .bool hx, .int .i64 x.s, .int .i64 x.g, .int .u64 x.t, v, .bool hz, .int .i64 z.s, .int .i64 z.g, .int .u64 z.t, .int .i64 n]] w fun e w' => e = .returned (.bool true) ∧ Ch NoB w w' := by
  obtain ⟨ao, cap, rfl⟩ := hlx.form
  obtain ⟨bo, cbp, rfl⟩ := hlz.form
  have lx := hb.len
  have lz := hc.len
  have enx : nxo hx x = nx := by rw [← ex, ← ex']; exact nxo_norm nx
  have enz : nxo hz z = ny := by rw [← ez, ← ez']; exact nxo_norm ny
  have sB := fun w2 (h2 : RingAt w2 b xs nx) => state_any b xs nx w2 h2
  have sC := fun w2 (h2 : RingAt w2 c zs ny) => state_any c zs ny w2 h2
  rw [ex, ex'] at sB
  rw [ez, ez'] at sC
  have lB := fun w2 (h2 : RingAt w2 b xs nx) => len_any b xs nx w2 h2
  have lC := fun w2 (h2 : RingAt w2 c zs ny) => len_any c zs ny w2 h2
  have rB := fun w2 (h2 : Lst P w2 (.slice ao xs.length cap) xs) => rlen_any P _ xs hx x w2 h2 lx
  have rC := fun w2 (h2 : Lst P w2 (.slice bo zs.length cbp) zs) => rlen_any P _ zs hz z w2 h2 lz
  rw [enx] at rB
  rw [enz] at rC
  obtain ⟨NB, hNB⟩ : ∃ N, N = xs.length + nx.toList.length := ⟨_, rfl⟩
  obtain ⟨NC, hNC⟩ : ∃ N, N = zs.length + ny.toList.length := ⟨_, rfl⟩
  rw [← hNB] at lB rB
  rw [← hNC] at lC rC
  have HSB := hid sB
  have HSC := hid sC
  have HLB := hid lB
  have HLC := hid lC
  have HRLB := hid rB
  have HRLC := hid rC
  have HRB := hid hb
  have HRC := hid hc
  have HLX := hid hlx
  have HLZ := hid hlz
  clear sB sC lB lC rB rC hb hc hlx hlz hNB hNC enx enz ex ez ex' ez'
  go_enter Try.func24, Try.ntmps24
  go_wp2_with fail
  go_loopg [3] 2 (fun k i wr => ∃ j, j + k = 2 ∧ i = .int .i64 ((j : Nat) : Int) ∧ Pair wr w.heap.size #[.pointer (some ⟨b, 0, none⟩), .pointer (some ⟨c, 0, none⟩), .slice ao xs.length cap, .bool hx, .int .i64 x.s, .int .i64 x.g, .int .u64 x.t, .slice bo zs.length cbp, .bool hz, .int .i64 z.s, .int .i64 z.g, .int .u64 z.t, .int .i64 n] ∧ Ch NoB w wr)
  case atStart => exact ⟨0, by omega, rfl, Pair.new w _, (Ch.refl _ _).alloc _⟩
  case round =>
    obtain ⟨j, hjk, rfl, hp, hg⟩ := hrel
    rcases (by omega : j = 0 ∨ j = 1 ∨ j = 2) with rfl | rfl | rfl
    · obtain ⟨p0, p1, p2, p3, p4, p5, p6, p7, p8, p9, p10, p11, p12⟩ := hp.cells
      have HP := hid hp
      have HG := hid hg
      have HLr := hid (HLX.out.ch hg (fun _ _ _ => noB _))
      have HRr := hid (HRB.out.ch hg (noB _))
      clear hp hg
      go_wp2
      go_region_held3 (fun w' => w'.cell? ⟨w.heap.size, 0, none⟩ = some (.pointer (some ⟨b, 0, none⟩)) ∧ w'.cell? ⟨w.heap.size, 2, none⟩ = some (.slice ao xs.length cap) ∧ w'.cell? ⟨w.heap.size, 3, none⟩ = some (.bool hx) ∧ w'.cell? ⟨w.heap.size, 4, none⟩ = some (.int .i64 x.s) ∧ w'.cell? ⟨w.heap.size, 5, none⟩ = some (.int .i64 x.g) ∧ w'.cell? ⟨w.heap.size, 6, none⟩ = some (.int .u64 x.t)) (first | (simp only [kc0, kc2, kc3, kc4, kc5, kc6, and_self]; done) | (simp only [kb0, kb2, kb3, kb4, kb5, kb6, and_self]; done) | (simp only [ka0, ka2, ka3, ka4, ka5, ka6, and_self]; done) | (go_keep; done))
        (first
          | (go_at_call 12; refine (HLB.out _ (HRr.out.drew)).mono ?_; rintro e w4 ⟨rfl, rfl⟩)
          | (go_at_call 13; refine (HRLB.out _ (HLr.out.drew)).mono ?_; rintro e w5 ⟨rfl, g5⟩; obtain ⟨ka0, ka1, ka2, ka3, ka4, ka5, ka6, ka7, ka8, ka9, ka10, ka11, ka12⟩ := (HP.out.drew.ch g5 (noB _)).cells; have HG5 := hid g5; clear g5)
          | (go_at_call 11; refine (HSB.out _ (HRr.out.drew.ch HG5.out (noB _))).mono ?_; rintro e w6 ⟨v6, rfl, l6, g6⟩; obtain ⟨sa, sc, rfl⟩ := l6.form; obtain ⟨kb0, kb1, kb2, kb3, kb4, kb5, kb6, kb7, kb8, kb9, kb10, kb11, kb12⟩ := ((HP.out.drew.ch HG5.out (noB _)).ch g6 (noB _)).cells; have HL6 := hid l6; have HG6 := hid g6; clear l6 g6)
          | (go_at_call 10; refine (same_eq _ _ _ _ xs hx x _ HL6.out ((HLr.out.drew.ch HG5.out (fun _ _ _ => noB _)).ch HG6.out (fun _ _ _ => noB _)) (by omega)).mono ?_; rintro e w7 ⟨rfl, g7⟩; obtain ⟨kc0, kc1, kc2, kc3, kc4, kc5, kc6, kc7, kc8, kc9, kc10, kc11, kc12⟩ := (((HP.out.drew.ch HG5.out (noB _)).ch HG6.out (noB _)).ch g7 (noB _)).cells; have HG7 := hid g7; clear g7))
      all_goals go_wp2
      all_goals go_roundg 1
      case measure => omega
      case rel => exact ⟨1, by omega, by simp, ((HP.out.drew.ch HG5.out (noB _)).ch HG6.out (noB _)).ch HG7.out (noB _), ((HG.out.drew.trans' HG5.out).trans' HG6.out).trans' HG7.out⟩
    · obtain ⟨p0, p1, p2, p3, p4, p5, p6, p7, p8, p9, p10, p11, p12⟩ := hp.cells
      have HP := hid hp
      have HG := hid hg
      have HLr := hid (HLZ.out.ch hg (fun _ _ _ => noB _))
      have HRr := hid (HRC.out.ch hg (noB _))
      clear hp hg
      go_wp2
      go_region_held3 (fun w' => w'.cell? ⟨w.heap.size, 1, none⟩ = some (.pointer (some ⟨c, 0, none⟩)) ∧ w'.cell? ⟨w.heap.size, 7, none⟩ = some (.slice bo zs.length cbp) ∧ w'.cell? ⟨w.heap.size, 8, none⟩ = some (.bool hz) ∧ w'.cell? ⟨w.heap.size, 9, none⟩ = some (.int .i64 z.s) ∧ w'.cell? ⟨w.heap.size, 10, none⟩ = some (.int .i64 z.g) ∧ w'.cell? ⟨w.heap.size, 11, none⟩ = some (.int .u64 z.t)) (first | (simp only [kc1, kc7, kc8, kc9, kc10, kc11, and_self]; done) | (simp only [kb1, kb7, kb8, kb9, kb10, kb11, and_self]; done) | (simp only [ka1, ka7, ka8, ka9, ka10, ka11, and_self]; done) | (go_keep; done))
        (first
          | (go_at_call 12; refine (HLC.out _ (HRr.out.drew)).mono ?_; rintro e w4 ⟨rfl, rfl⟩)
          | (go_at_call 13; refine (HRLC.out _ (HLr.out.drew)).mono ?_; rintro e w5 ⟨rfl, g5⟩; obtain ⟨ka0, ka1, ka2, ka3, ka4, ka5, ka6, ka7, ka8, ka9, ka10, ka11, ka12⟩ := (HP.out.drew.ch g5 (noB _)).cells; have HG5 := hid g5; clear g5)
          | (go_at_call 11; refine (HSC.out _ (HRr.out.drew.ch HG5.out (noB _))).mono ?_; rintro e w6 ⟨v6, rfl, l6, g6⟩; obtain ⟨sa, sc, rfl⟩ := l6.form; obtain ⟨kb0, kb1, kb2, kb3, kb4, kb5, kb6, kb7, kb8, kb9, kb10, kb11, kb12⟩ := ((HP.out.drew.ch HG5.out (noB _)).ch g6 (noB _)).cells; have HL6 := hid l6; have HG6 := hid g6; clear l6 g6)
          | (go_at_call 10; refine (same_eq _ _ _ _ zs hz z _ HL6.out ((HLr.out.drew.ch HG5.out (fun _ _ _ => noB _)).ch HG6.out (fun _ _ _ => noB _)) (by omega)).mono ?_; rintro e w7 ⟨rfl, g7⟩; obtain ⟨kc0, kc1, kc2, kc3, kc4, kc5, kc6, kc7, kc8, kc9, kc10, kc11, kc12⟩ := (((HP.out.drew.ch HG5.out (noB _)).ch HG6.out (noB _)).ch g7 (noB _)).cells; have HG7 := hid g7; clear g7))
      all_goals go_wp2
      all_goals go_roundg 0
      case measure => omega
      case rel => exact ⟨2, by omega, by simp, ((HP.out.drew.ch HG5.out (noB _)).ch HG6.out (noB _)).ch HG7.out (noB _), ((HG.out.drew.trans' HG5.out).trans' HG6.out).trans' HG7.out⟩
    · have HG := hid hg
      clear hp hg
      go_wp2
      go_ret
      exact ⟨rfl, HG.out⟩
end Go.Proofs.Ytfodjkdioddbjab.Rg
