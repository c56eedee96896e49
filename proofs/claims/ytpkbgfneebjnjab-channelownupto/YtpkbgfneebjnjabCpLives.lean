/-
  What lives of the statements of layer 11 answers: true. No conditions.
-/
import Derived.Test.YtpkbgfneebjnjabCpAny
namespace Go.Proofs.Ytpkbgfneebjnjab.Lt
open Go.RowKit Wd
attribute [local go_sem ↓] Go.wp_at_zero Go.wp_at_succ

theorem Tn.base {t t' : Nat → Tg} {w w1 w2 : World} (hT : ∀ q, q < w.heap.size → t q = .no) (g : Gr w w1) (n : Tn t t' w1 w2) : Gr w w2 ∧ ∀ q, q < w.heap.size → t' q = .no :=
  ⟨Ch.trans g n.c (fun q hq => by
    by_cases h1 : q < w.heap.size
    · exact (hq (hT q h1)).elim
    · exact .inr (by omega)), fun q hq => n.o q (Nat.lt_of_lt_of_le hq g.size) (hT q hq)⟩
abbrev l0 : List Cn := [⟨1, [], [], [], false⟩]
abbrev l1 : List Cn := [⟨1, [8], [], [], false⟩]
theorem l0_gd : Gd 0 l0 := ⟨by decide, by intro c hc; simp at hc; subst hc; decide, by intro c hc; simp at hc; subst hc; decide, by decide, by intro c hc x hx; simp at hc; subst hc; simp at hx⟩
theorem l1_gd : Gd 0 l1 := ⟨by decide, by intro c hc; simp at hc; subst hc; decide, by intro c hc; simp at hc; subst hc; decide, by decide, by intro c hc x hx; simp at hc; subst hc; simp at hx⟩
theorem snd_l0 : sndF l0 1 1 0 8 = ⟨l1, false, 0, true, 0, [], 0⟩ := by kernel_rfl
theorem rcv_l1 : rcvF l1 1 2 0 = ⟨l0, false, 8, true, 0, [], 0⟩ := by kernel_rfl
set_option maxRecDepth 20000 in
set_option maxHeartbeats 4000000 in
theorem lives_any (w : World) : Calls Try.prog 8 #[] w fun e w' => e = .returned (.bool true) ∧ Gr w w' := by
  have HN := hid (new_any w)
  go_enter Try.func8, Try.ntmps8
  go_upto_region 4 with (first
    | (go_at_call 13; refine HN.out.mono ?_; rintro e w1 ⟨b, t1, rfl, c1, g1, z1⟩; have C1 := hid c1; have G1 := hid g1; have Z1 := hid z1; clear c1 g1 z1))
  have HM := hid (make_yes C1.out 1 (by decide))
  go_upto_region 5 with (first
    | (go_at_call 19; refine HM.out.mono ?_; rintro e w2 ⟨rfl, t2, c2, n2⟩; have C2 := hid (show Cs t2 w2 b l0 from c2); obtain ⟨g2, z2⟩ := Tn.base Z1.out G1.out n2; have G2 := hid g2; have Z2 := hid z2; clear c2 n2 g2 z2))
  have HS := hid (send_any (s := 1) (g := 0) C2.out l0_gd (by omega) (by unfold Gok; omega) 1 8)
  rw [snd_l0] at HS
  go_upto_region 6 with (first
    | (go_at_call 20; refine HS.out.mono ?_; rintro e w3 ⟨mo, mn, mc, rfl, -, t3, c3, n3, -⟩; have C3 := hid (show Cs t3 w3 b l1 from c3); obtain ⟨g3, z3⟩ := Tn.base Z2.out G2.out n3; have G3 := hid g3; have Z3 := hid z3; clear c3 n3 g3 z3))
  obtain ⟨W3, hW3⟩ : ∃ W, W = w3.alloc (.cells #[.bool false, .int .i64 0, .bool true, .int .i64 0, .slice mo mn mc] 60) := ⟨_, rfl⟩
  have g3 : Gr w3 W3 := by rw [hW3]; exact Ch.alloc (Gr.refl _) _
  have B3 := hid (show W3.heap[w3.heap.size]? = some (.cells #[.bool false, .int .i64 0, .bool true, .int .i64 0, .slice mo mn mc] 60 (0, 0)) from by rw [hW3]; exact (MapKept.heap_alloc w3 _).1)
  have T3 := hid (cs_hi C3.out)
  have HR := hid (recv_any (s := 2) (g := 0) (C3.out.gr g3) l1_gd (by omega) (by unfold Gok; omega) 1)
  rw [rcv_l1] at HR
  have GA3 := hid (Gr.trans G3.out g3)
  rw [hW3] at HR
  clear g3
  go_upto_region 7 with (first
    | (go_at_call 21; refine HR.out.mono ?_; rintro e w4 ⟨no, nn, nc, rfl, -, t4, c4, n4, -⟩; rw [← hW3] at n4; have C4 := hid c4; have B4 := hid ((n4.c.block _ (lt_of_block B3.out) (fun q => q (T3.out _ (Nat.le_refl _)))).trans B3.out); obtain ⟨g4, z4⟩ := Tn.base Z3.out GA3.out n4; have G4 := hid g4; clear c4 n4 g4 z4))
  have b4 := B4.out
  have q2 := cell_of b4 2
  have l4 := lt_of_block b4
  simp at q2
  have G5 := hid (show Gr w (w4.alloc (.cells #[.bool false, .int .i64 8, .bool true, .int .i64 0, .slice no nn nc] 60)) from Ch.alloc G4.out _)
  clear hW3 b4
  go_wp2
  go_ret
  exact ⟨rfl, G5.out⟩
end Go.Proofs.Ytpkbgfneebjnjab.Lt
