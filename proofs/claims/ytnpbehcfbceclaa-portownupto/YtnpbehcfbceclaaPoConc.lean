/-
  What slices.Grow and slices.Concat answer of one list. Condition: the list is not too long.
-/
import Derived.Test.YtnpbehcfbceclaaPoBase
import Derived.Lib.AppendZeros
namespace Go.Proofs.Ytnpbehcfbceclaa.Lt
open Go.RowKit Wd
attribute [local go_sem ↓] Go.wp_at_zero Go.wp_at_succ
set_option maxRecDepth 20000

theorem growI_any (w : World) (n : Nat) (hn : n ≤ 1099511627776) : Calls Try.prog 35 #[.slice none 0 0, .int .i64 (n : Int)] w fun e w' => ∃ ao cap, e = .returned (.slice ao 0 cap) ∧ Ow eI 1 2 w.heap.size w' (.slice ao 0 cap) [] ∧ Gr w w' := by
  by_cases h0 : n = 0
  · subst h0
    go_enter Try.func35, Try.ntmps35
    go_wp2
    go_ret
    exact ⟨none, 0, rfl, Ow.nil _ _ _ _ _, Gr.refl _⟩
  · obtain ⟨i0, hi, hz0, hz1, hz2⟩ := info_parts i64_info
    have happ := Lib.run_append_nil_zeros (P := Try.prog) w 29 3 29 2 i0 _ .i64 .i64 Try.underlying29 Try.underlying3 hi hz0 n (by omega) (by omega) (by omega) (by rw [hz2]; omega)
    obtain ⟨cap, hcap⟩ : ∃ c, c = grownCap w n 0 2 := ⟨_, rfl⟩
    have hge : n ≤ cap := by rw [hcap]; exact grownCap_ge w _ 0 2
    have hle : cap ≤ maxLen := by rw [hcap]; exact grownCap_le_maxLen w _ 0 2 (by unfold maxLen; omega)
    rw [← hcap] at happ
    obtain ⟨Z, hZ⟩ : ∃ Z, Z = Builtin.zeroCells (.int .i64 0 : Value).cells n ++ Builtin.zeroCells (.int .i64 0 : Value).cells (cap - n) := ⟨_, rfl⟩
    have hZs : Z.size = cap * 1 := by rw [hZ]; simp [size_zeroCells, Value.cells]; omega
    rw [← hZ] at happ
    have HO := hid (show Ow eI 1 2 w.heap.size (w.drew.alloc (.cells Z 2)) (.slice (some ⟨w.heap.size, 0, none⟩) 0 cap) [] from World.ownsRow_made (w.drew) Z cap (Nat.le_refl _) hle hZs)
    have hn0 : (0 : Int) < (n : Int) := by omega
    have hcn : (n : Int) ≤ (cap : Int) := by omega
    clear hcap hge hle hZ hZs h0 hi hz0 hz1 hz2
    go_enter Try.func35, Try.ntmps35
    go_wp2_with (at_builtin; refine Lib.wpList_append_run _ rfl _ _ _ _ rfl _ _ rfl rfl _ _ happ ?_)
    go_ret
    exact ⟨_, cap, rfl, HO.out, Ch.alloc (Ch.drew (Gr.refl w)) _⟩
set_option maxHeartbeats 4000000 in
theorem concI_any {P1 : Nat → Prop} (w : World) (q : Nat) (a1 : Option Addr) (n1 c1 : Nat) (xs : List Int) (h1 : Ls eI P1 w (.slice a1 n1 c1) xs) (hq0 : w.cell? ⟨q, 0, none⟩ = some (.slice a1 n1 c1)) (hql : q < w.heap.size) (hn1 : n1 ≤ 549755813888) :
    Calls Try.prog 33 #[.slice (some ⟨q, 0, none⟩) 1 1] w fun e w' => ∃ v, e = .returned v ∧ Ow eI 1 2 w.heap.size w' v xs ∧ Gr w w' := by
  have H1 := hid (show ∀ W, Gr w W → Ls eI P1 W (.slice a1 n1 c1) xs from fun W k => h1.gr k)
  have HX := hid h1.len.1
  have HQ := hid (show ∀ W, Gr w W → W.cell? ⟨q, 0, none⟩ = some (.slice a1 n1 c1) ∧ q < W.heap.size from fun W k => ⟨(k.cell hql).trans hq0, Nat.lt_of_lt_of_le hql k.size⟩)
  have HG := hid (fun W => growI_any W n1 (by omega))
  clear h1 hq0 hql
  go_enter Try.func33, Try.ntmps33
  go_wp2_with fail
  go_loopg [3, 11] 1 (fun k s i wr => ∃ j : Nat, j + k = 1 ∧ i = .int .i64 (j : Int) ∧ s = .int .i64 ((if j = 0 then 0 else n1 : Nat) : Int) ∧ Gr w wr)
  case atStart => exact ⟨0, by omega, rfl, rfl, Gr.refl _⟩
  case round =>
    obtain ⟨j, hjk, rfl, rfl, hg⟩ := hrel
    obtain ⟨V, hV⟩ : ∃ W, W = wr := ⟨_, rfl⟩
    subst hV
    obtain ⟨q0, ql⟩ := HQ.out _ hg
    have G := hid hg
    clear hg
    rcases (by omega : j = 0 ∨ j = 1) with rfl | rfl
    · rw [if_pos rfl]
      go_wp2
      go_roundg (gk - 1)
      case measure => omega
      case rel => exact ⟨1, by omega, rfl, by first | with_reducible rfl | simp, G.out⟩
    · rw [if_neg (by omega)]
      clear q0 ql
      go_wp2_with (go_at_call 35; refine (HG.out _).mono ?_; rintro e w2 ⟨ao, cap, rfl, o2, g2⟩; have O2 := hid (o2.lower G.out.size); have G2 := hid (Gr.trans G.out g2); clear o2 g2)
      go_loopg [6, 27] 1 (fun k v i wr => ∃ (j m : Nat) (ao : Option Addr) (cp : Nat), j + k = 1 ∧ v = .slice ao m cp ∧ i = .int .i64 (j : Int) ∧ Ow eI 1 2 w.heap.size wr (.slice ao m cp) (if j = 0 then [] else xs) ∧ Gr w wr)
      case atStart => exact ⟨0, 0, ao, cap, by omega, rfl, rfl, O2.out, G2.out⟩
      case round =>
        obtain ⟨j, m, ao2, cp2, hjk2, rfl, rfl, how, hg2⟩ := hrel
        obtain ⟨V2, hV2⟩ : ∃ W, W = wr := ⟨_, rfl⟩
        subst hV2
        obtain ⟨q0, ql⟩ := HQ.out _ hg2
        have GG := hid hg2
        clear hg2
        rcases (by omega : j = 0 ∨ j = 1) with rfl | rfl
        · rw [if_pos rfl] at how
          have OW := hid how
          have hm : m = 0 := how.lst.len.1
          subst hm
          clear how
          go_wp2_with (at_builtin; refine wpList_append_ow eI_len rfl (.tmp 31) (.tmp 32) _ 2 8 _ Try.underlying29 i64_info rfl (by omega) rfl w.heap.size _ [] rfl OW.out _ _ xs rfl (H1.out _ GG.out) (eI_one _) n1 (by rw [HX.out]; simp) (by omega) (by unfold maxLen; omega) GG.out.size xs rfl ?_; intro ao5 cap5 w6 ow6 cw6 bl6; have O6 := hid ow6; have C6 := hid (show Gr w w6 from Ch.trans GG.out cw6 (fun q hq => .inr (OW.out.blk hq).1)); clear ow6 cw6 bl6)
          go_roundg (gk - 1)
          case measure => omega
          case rel => exact ⟨1, n1, ao5, cap5, by omega, rfl, rfl, O6.out, C6.out⟩
        · rw [if_neg (by omega)] at how
          have OW := hid how
          clear how q0 ql
          go_wp2
          go_ret
          exact ⟨_, rfl, OW.out, GG.out⟩
theorem growG_any (w : World) (n : Nat) (hn : n ≤ 1099511627776) : Calls Try.prog 36 #[.slice none 0 0, .int .i64 (n : Int)] w fun e w' => ∃ ao cap, e = .returned (.slice ao 0 cap) ∧ Ow eG 2 59 w.heap.size w' (.slice ao 0 cap) [] ∧ Gr w w' := by
  by_cases h0 : n = 0
  · subst h0
    go_enter Try.func36, Try.ntmps36
    go_wp2
    go_ret
    exact ⟨none, 0, rfl, Ow.nil _ _ _ _ _, Gr.refl _⟩
  · obtain ⟨i0, hi, hz0, hz1, hz2⟩ := info_parts agd_info
    have happ := Lib.run_append_nil_zeros (P := Try.prog) w 30 3 30 59 i0 _ .i64 .i64 Try.underlying30 Try.underlying3 hi hz0 n (by omega) (by omega) (by omega) (by rw [hz2]; omega)
    obtain ⟨cap, hcap⟩ : ∃ c, c = grownCap w n 0 59 := ⟨_, rfl⟩
    have hge : n ≤ cap := by rw [hcap]; exact grownCap_ge w _ 0 59
    have hle : cap ≤ maxLen := by rw [hcap]; exact grownCap_le_maxLen w _ 0 59 (by unfold maxLen; omega)
    rw [← hcap] at happ
    obtain ⟨Z, hZ⟩ : ∃ Z, Z = Builtin.zeroCells (.agg #[.int .i64 0, .int .i64 0] : Value).cells n ++ Builtin.zeroCells (.agg #[.int .i64 0, .int .i64 0] : Value).cells (cap - n) := ⟨_, rfl⟩
    have hZs : Z.size = cap * 2 := by rw [hZ]; simp [size_zeroCells, Value.cells]; omega
    rw [← hZ] at happ
    have HO := hid (show Ow eG 2 59 w.heap.size (w.drew.alloc (.cells Z 59)) (.slice (some ⟨w.heap.size, 0, none⟩) 0 cap) [] from World.ownsRow_made (w.drew) Z cap (Nat.le_refl _) hle hZs)
    have hn0 : (0 : Int) < (n : Int) := by omega
    have hcn : (n : Int) ≤ (cap : Int) := by omega
    clear hcap hge hle hZ hZs h0 hi hz0 hz1 hz2
    go_enter Try.func36, Try.ntmps36
    go_wp2_with (at_builtin; refine Lib.wpList_append_run _ rfl _ _ _ _ rfl _ _ rfl rfl _ _ happ ?_)
    go_ret
    exact ⟨_, cap, rfl, HO.out, Ch.alloc (Ch.drew (Gr.refl w)) _⟩
set_option maxHeartbeats 4000000 in
theorem concG_any {P1 : Nat → Prop} (w : World) (q : Nat) (a1 : Option Addr) (n1 c1 : Nat) (xs : List Ag) (h1 : Ls eG P1 w (.slice a1 n1 c1) xs) (hq0 : w.cell? ⟨q, 0, none⟩ = some (.slice a1 n1 c1)) (hql : q < w.heap.size) (hn1 : n1 ≤ 549755813888) :
    Calls Try.prog 34 #[.slice (some ⟨q, 0, none⟩) 1 1] w fun e w' => ∃ v, e = .returned v ∧ Ow eG 2 59 w.heap.size w' v xs ∧ Gr w w' := by
  have H1 := hid (show ∀ W, Gr w W → Ls eG P1 W (.slice a1 n1 c1) xs from fun W k => h1.gr k)
  have HX := hid h1.len.1
  have HQ := hid (show ∀ W, Gr w W → W.cell? ⟨q, 0, none⟩ = some (.slice a1 n1 c1) ∧ q < W.heap.size from fun W k => ⟨(k.cell hql).trans hq0, Nat.lt_of_lt_of_le hql k.size⟩)
  have HG := hid (fun W => growG_any W n1 (by omega))
  clear h1 hq0 hql
  go_enter Try.func34, Try.ntmps34
  go_wp2_with fail
  go_loopg [3, 11] 1 (fun k s i wr => ∃ j : Nat, j + k = 1 ∧ i = .int .i64 (j : Int) ∧ s = .int .i64 ((if j = 0 then 0 else n1 : Nat) : Int) ∧ Gr w wr)
  case atStart => exact ⟨0, by omega, rfl, rfl, Gr.refl _⟩
  case round =>
    obtain ⟨j, hjk, rfl, rfl, hg⟩ := hrel
    obtain ⟨V, hV⟩ : ∃ W, W = wr := ⟨_, rfl⟩
    subst hV
    obtain ⟨q0, ql⟩ := HQ.out _ hg
    have G := hid hg
    clear hg
    rcases (by omega : j = 0 ∨ j = 1) with rfl | rfl
    · rw [if_pos rfl]
      go_wp2
      go_roundg (gk - 1)
      case measure => omega
      case rel => exact ⟨1, by omega, rfl, by first | with_reducible rfl | simp, G.out⟩
    · rw [if_neg (by omega)]
      clear q0 ql
      go_wp2_with (go_at_call 36; refine (HG.out _).mono ?_; rintro e w2 ⟨ao, cap, rfl, o2, g2⟩; have O2 := hid (o2.lower G.out.size); have G2 := hid (Gr.trans G.out g2); clear o2 g2)
      go_loopg [6, 27] 1 (fun k v i wr => ∃ (j m : Nat) (ao : Option Addr) (cp : Nat), j + k = 1 ∧ v = .slice ao m cp ∧ i = .int .i64 (j : Int) ∧ Ow eG 2 59 w.heap.size wr (.slice ao m cp) (if j = 0 then [] else xs) ∧ Gr w wr)
      case atStart => exact ⟨0, 0, ao, cap, by omega, rfl, rfl, O2.out, G2.out⟩
      case round =>
        obtain ⟨j, m, ao2, cp2, hjk2, rfl, rfl, how, hg2⟩ := hrel
        obtain ⟨V2, hV2⟩ : ∃ W, W = wr := ⟨_, rfl⟩
        subst hV2
        obtain ⟨q0, ql⟩ := HQ.out _ hg2
        have GG := hid hg2
        clear hg2
        rcases (by omega : j = 0 ∨ j = 1) with rfl | rfl
        · rw [if_pos rfl] at how
          have OW := hid how
          have hm : m = 0 := how.lst.len.1
          subst hm
          clear how
          go_wp2_with (at_builtin; refine wpList_append_ow eG_len rfl (.tmp 31) (.tmp 32) _ 59 16 _ Try.underlying30 agd_info rfl (by omega) rfl w.heap.size _ [] rfl OW.out _ _ xs rfl (H1.out _ GG.out) (eG_one _) n1 (by rw [HX.out]; simp) (by omega) (by unfold maxLen; omega) GG.out.size xs rfl ?_; intro ao5 cap5 w6 ow6 cw6 bl6; have O6 := hid ow6; have C6 := hid (show Gr w w6 from Ch.trans GG.out cw6 (fun q hq => .inr (OW.out.blk hq).1)); clear ow6 cw6 bl6)
          go_roundg (gk - 1)
          case measure => omega
          case rel => exact ⟨1, n1, ao5, cap5, by omega, rfl, rfl, O6.out, C6.out⟩
        · rw [if_neg (by omega)] at how
          have OW := hid how
          clear how q0 ql
          go_wp2
          go_ret
          exact ⟨_, rfl, OW.out, GG.out⟩
end Go.Proofs.Ytnpbehcfbceclaa.Lt
