/-
  TableDomains, walked: both sides tell the same of any table, tick and domain. Condition: the numbers are of their types.
-/
import Derived.Test.YtbghagpjkkmhpaaTbAwake
import Derived.Test.YtbghagpjkkmhpaaTbLaw2
import Derived.Test.YtbghagpjkkmhpaaTbHas
import Derived.Test.YtbghagpjkkmhpaaTbRHas
import Derived.Test.YtbghagpjkkmhpaaTbSame
import Derived.Test.YtbghagpjkkmhpaaTbShr
import Derived.Test.YtbghagpjkkmhpaaTbLng
import Derived.Test.YtbghagpjkkmhpaaTbRShr
import Derived.Test.YtbghagpjkkmhpaaTbRLng
namespace Go.Proofs.Ytbghagpjkkmhpaa.Lt
open Go.RowKit Wd
attribute [local go_sem ↓] Go.wp_at_zero Go.wp_at_succ
set_option maxRecDepth 20000

theorem hasI_len {F t dm : Int} {L : List (List Sl)} (hx : Rgs L) : (hasI F L t dm).length ≤ 64 := by
  unfold hasI
  split
  · rename_i h0
    rw [List.length_map]
    have := hasP_len (F := F) (t := t) (dm := dm) (L := L)
    have := (lkE_ok hx h0).1.n2
    omega
  · simp
set_option maxHeartbeats 16000000 in
theorem domains_walk (w : World) (F : Int) (a : Option Addr) (n c : Nat) (L : List (List Sl)) (t p k : Int) (h : Rw w (.slice a n c) L) (hx : Rgs L) (hF : Tk.U F) (ht : Tk.U t) (_hp : -9223372036854775808 ≤ p ∧ p ≤ 9223372036854775807) (_hk : -9223372036854775808 ≤ k ∧ k ≤ 9223372036854775807) :
    Calls Try.prog 5 #[.agg #[.int .u64 F, .slice a n c], .agg #[.int .u64 t, .int .i64 p, .int .i64 k]] w fun e w' => e = .returned (.bool true) ∧ Gr w w' := by
  have H1 := hide (fun W (g : Gr w W) => has_any W a n c L (h.gr g) hx F t k hF ht)
  have H2 := hide (fun W (g : Gr w W) => rhas_any W a n c L (h.gr g) hx F t k hF ht)
  have H3 := hide (fun W (g : Gr w W) => share_any W a n c L (h.gr g) hx F k hF)
  have H4 := hide (fun W (g : Gr w W) => rshare_any W a n c L (h.gr g) hx F k hF)
  have H5 := hide (fun W (g : Gr w W) => longest_any W a n c L (h.gr g) hx F k hF)
  have H6 := hide (fun W (g : Gr w W) => rlongest_any W a n c L (h.gr g) hx F k hF)
  have HX := hide (hasI_len (F := F) (t := t) (dm := k) hx)
  generalize (if lkE F L k 16 = 0 then fo shF 0 (dsl L k) else 0) = N1 at *
  generalize (if lkE F L k 16 = 0 then fo lgF 0 (dsl L k) else 0) = N2 at *
  generalize hasI F L t k = R at *
  generalize lkE F L k 16 = E at *
  obtain ⟨W0, hW0⟩ : ∃ W, W = (w.alloc (.cells #[.int .u64 F, .slice a n c] 25)).alloc (.cells #[.int .u64 t, .int .i64 p, .int .i64 k] 32) := ⟨_, rfl⟩
  have HB := hide (show ∀ W, Gr W0 W → _ from fun W g => boxTX (by rw [hW0] at g; exact g))
  have G0 := hide (show Gr W0 W0 from Gr.refl _)
  clear h hx hF ht
  go_enter Try.func5, Try.ntmps5
  go_wp2_with fail
  rw [← hW0]
  clear hW0
  refine (H1.out _ (HB.out _ G0.out).2.2).mono ?_
  rintro e w1 ⟨ao, ca, rfl, l1, g1⟩
  have L1 := hide l1
  have G1 := hide (Gr.trans G0.out g1)
  obtain ⟨⟨t0, t1, tb⟩, ⟨x0, x1, x2, xb⟩, gw⟩ := HB.out _ G1.out
  clear g1 l1 x1
  go_wp2_with fail
  refine (H2.out _ gw).mono ?_
  rintro e w2 ⟨bo, cb, rfl, l2, g2⟩
  have L2 := hide l2
  have L1b := hide (L1.out.gr g2)
  have G2 := hide (Gr.trans G1.out g2)
  clear t0 t1 tb x0 x2 xb gw l2
  obtain ⟨⟨t0, t1, tb⟩, ⟨x0, x1, x2, xb⟩, gw⟩ := HB.out _ G2.out
  clear g2 x0 x1
  go_wp2_with fail
  refine (H3.out _ gw).mono ?_
  rintro e w3 ⟨rfl, g3⟩
  have G3 := hide (Gr.trans G2.out g3)
  have S3 := hide g3
  clear t0 t1 tb x2 xb gw
  obtain ⟨⟨t0, t1, tb⟩, ⟨x0, x1, x2, xb⟩, gw⟩ := HB.out _ G3.out
  clear g3 x0 x1
  go_wp2_with fail
  refine (H4.out _ gw).mono ?_
  rintro e w4 ⟨rfl, g4⟩
  have G4 := hide (Gr.trans G3.out g4)
  have S4 := hide (Gr.trans S3.out g4)
  clear t0 t1 tb x2 xb gw
  obtain ⟨⟨t0, t1, tb⟩, ⟨x0, x1, x2, xb⟩, gw⟩ := HB.out _ G4.out
  clear g4 x0 x1
  go_wp2_with fail
  refine (H5.out _ gw).mono ?_
  rintro e w5 ⟨rfl, g5⟩
  have G5 := hide (Gr.trans G4.out g5)
  have S5 := hide (Gr.trans S4.out g5)
  clear t0 t1 tb x2 xb gw
  obtain ⟨⟨t0, t1, tb⟩, ⟨x0, x1, x2, xb⟩, gw⟩ := HB.out _ G5.out
  clear g5 x0 x1
  go_wp2_with fail
  refine (H6.out _ gw).mono ?_
  rintro e w6 ⟨rfl, g6⟩
  have G6 := hide (Gr.trans G5.out g6)
  have S6 := hide (Gr.trans S5.out g6)
  clear t0 t1 tb x2 xb gw g6
  go_wp2_with fail
  refine (same_any w6 _ _ ao bo _ ca cb R rfl (L1b.out.gr S6.out) (L2.out.gr S6.out) (by have := HX.out; omega)).mono ?_
  rintro e w7 ⟨rfl, g7⟩
  have G7 := hide (Gr.trans G6.out g7)
  clear g7
  go_wp2_with fail
  refine (awake_any _).mono ?_
  rintro e w8 ⟨rfl, g8⟩
  have G8 := hide (HB.out _ (Gr.trans G7.out g8)).2.2
  clear g8
  go_wp2
  go_ret
  exact ⟨rfl, G8.out⟩
end Go.Proofs.Ytbghagpjkkmhpaa.Lt
