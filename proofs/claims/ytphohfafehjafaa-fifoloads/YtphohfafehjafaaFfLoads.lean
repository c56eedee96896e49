/-
  What FifoLoads of the statements answers: true, at any list and any call. Condition: the list is there, and shorter than 2^62.
-/
import Derived.Test.YtphohfafehjafaaFfPlays
namespace Go.Proofs.Ytphohfafehjafaa.Ff
open Go.RowKit
attribute [local go_sem ↓] Go.wp_at_zero Go.wp_at_succ

set_option maxHeartbeats 1000000 in
set_option maxRecDepth 20000 in
theorem loads_law (lv : Value) (l : List W3) (a : A6) (w : World) (hx : Lst (fun _ => True) w lv l) (hl : l.length ≤ 4611686018427387903) :
    Calls Try.prog 4 #[lv, .agg #[.int .i64 a.d, .int .i64 a.x.s, .int .i64 a.x.g, .int .u64 a.x.t, .int .i64 a.p, .int .i64 a.r]] w fun e w' => e = .returned (.bool true) ∧ Ch NoB w w' := by
  obtain ⟨la, lc, rfl⟩ := hx.form
  obtain ⟨W, hW⟩ : ∃ W, W = w.alloc (.cells #[.int .i64 a.d, .int .i64 a.x.s, .int .i64 a.x.g, .int .u64 a.x.t, .int .i64 a.p, .int .i64 a.r] 35) := ⟨_, rfl⟩
  have HS0 := hid (show Six W w.heap.size a.d a.x a.p a.r by rw [hW]; exact Six.new w a.d a.x a.p a.r)
  have HG0 := hid (show Ch NoB w W by rw [hW]; exact (Ch.refl _ _).alloc _)
  have HX := hid (hx.ch HG0.out (fun _ _ _ => noB _))
  have HLN := hid hl
  have e1 := fun w => eql_errno (loadE [] l) w
  clear hx hl
  go_enter Try.func4, Try.ntmps4
  go_wp2_with fail
  rw [← hW]
  clear hW
  refine (load_any _ _ l W HX.out HLN.out).mono ?_
  rintro e w1 ⟨h1, g1⟩
  have HG1 := hid (HG0.out.trans' g1)
  have HX1 := hid (HX.out.ch g1 (fun _ _ _ => noB _))
  have HS1 := hid (HS0.out.ch g1 (noB _))
  have hs0 := HG0.out.size
  have hsl := HS0.out.lt
  clear g1
  rcases h1 with ⟨hne, rfl⟩ | ⟨he, b, base, ao, cap, rfl, hb, hbs, q1⟩
  · have hne2 : (loadE [] l == 0) = false := by simp; exact hne
    go_wp2_with fail
    refine (rload_any _ _ l w1 HX1.out HLN.out).mono ?_
    rintro e w2 ⟨h2, g2⟩
    have HG2 := hid (HG1.out.trans' g2)
    clear g2
    rcases h2 with ⟨_, rfl⟩ | ⟨h0, _⟩
    · go_wp2_with fail
      refine (lives_any _).mono ?_
      rintro e w3 ⟨rfl, g3⟩
      have HG3 := hid (HG2.out.trans' g3)
      clear g3
      go_wp2
      go_ret
      exact ⟨rfl, HG3.out⟩
    · exact absurd h0 hne
  · have HE := hid he
    have HQ1 := hid q1
    rw [he] at e1
    clear he q1
    go_wp2_with fail
    refine (rload_any _ _ l w1 HX1.out HLN.out).mono ?_
    rintro e w2 ⟨h2, g2⟩
    have HG2 := hid (HG1.out.trans' g2)
    have HQ2 := hid (HQ1.out.ch g2 (fun _ _ => noB _))
    have HS2 := hid (HS1.out.ch g2 (noB _))
    have hs2 := g2.size
    clear g2
    rcases h2 with ⟨hne, rfl⟩ | ⟨_, ao2, c2, rfl, l2⟩
    · exact absurd HE.out hne
    · have HL2 := hid l2
      have HUL := hid (loadL_up l [] Up.nil (by simp))
      clear l2
      obtain ⟨L, hL⟩ : ∃ L, L = loadL [] l := ⟨_, rfl⟩
      rw [← hL] at HL2 HUL HQ2 HQ1 ⊢
      clear hL
      go_wp2_with fail
      refine (lives_any _).mono ?_
      rintro e w3 ⟨rfl, g3⟩
      have HG3 := hid (HG2.out.trans' g3)
      have HQ3 := hid (HQ2.out.ch g3 (fun _ _ => noB _))
      have HS3 := hid (HS2.out.ch g3 (noB _))
      have HL3 := hid (HL2.out.ch g3 (fun _ _ _ => noB _))
      have hs3 := g3.size
      obtain ⟨s0, s1, s2, s3, s4, s5⟩ := HS3.out.cells
      have sl := HS3.out.lt
      clear g3
      go_wp2_with fail
      refine (does_any (w1.heap.size ≤ ·) base b _ _ L a.d a.x a.p a.r _ HQ3.out HUL.out.1 HL3.out (fun q h e => ?_) (by omega)).mono ?_
      · have h' : w1.heap.size ≤ q := h
        rcases e with e | e
        · have := HQ1.out.1.lt; omega
        · have := (HQ1.out.2.1.blk e).2; omega
      rintro e w5 ⟨ao5, n5, c5, xs5, rfl, d5⟩
      have HST := hid (Stand.step HQ3.out (by omega) HG3.out (by omega) d5)
      obtain ⟨v', P', h1, h2, h3, h4, h5, h6, h7⟩ := d5
      have HQ5 := hid h1
      have HL5 := hid h5
      have HG5 := hid h3
      have HS5 := hid (HS3.out.ch h3 (fun e => by
        rcases e with e | e
        · omega
        · have := (HQ3.out.2.1.blk e).1; have := HQ3.out.2.2.1; omega))
      clear s0 s1 s2 s3 s4 s5
      obtain ⟨s0, s1, s2, s3, s4, s5⟩ := HS5.out.cells
      have sl5 := HS5.out.lt
      clear h1 h2 h3 h4 h5 h6 h7
      go_wp2_with fail
      refine (told_any P' base b v' _ xs5 a.x.s a.x.g _ HQ5.out HL5.out).mono ?_
      rintro e w6 ⟨rfl, g6⟩
      have HG6 := hid g6
      clear g6
      go_wp2
      go_ret
      refine ⟨rfl, ?_⟩
      obtain ⟨_, _, _, _, _, _, _, _, hg, _⟩ := HST.out
      exact hg.trans' HG6.out
end Go.Proofs.Ytphohfafehjafaa.Ff
