/-
  What the program's comeTo answers, for either function that is handed in: the rising list of what can be come to. Condition: the ways stay below the number.
-/
import Derived.Test.YtollfepggicehabDoorPpBits
namespace Go.Proofs.YtollfepggicehabDoor.Lt
open Go.RowKit Wd

/-- comeTo's memory: its list, its truths -/
structure Mm (w0 : Nat) (N : Nat) (w : World) (ao : Option Addr) (n cap : Nat) (os : List Int) (bs : List Bool) : Prop where
  o : Ow eI 1 3 (w0 + 1) w (.slice ao n cap) os
  b : Ow eB 1 4 w0 w (.slice (some ⟨w0, 0, none⟩) N N) bs
theorem Mm.gr {w0 N n cap : Nat} {w w' : World} {ao : Option Addr} {os : List Int} {bs : List Bool} (h : Mm w0 N w ao n cap os bs) (g : Gr w w') : Mm w0 N w' ao n cap os bs := ⟨h.o.gr g, h.b.gr g⟩
theorem ne_blk {w0 N : Nat} {q : Nat} (h : Blk (.slice (some ⟨w0, 0, none⟩) N N) q) : q = w0 := by
  have e : some w0 = some q := h
  injection e with e
  exact e.symm
theorem Mm.set {w0 N n cap : Nat} {w : World} {ao : Option Addr} {os : List Int} {bs : List Bool} (h : Mm w0 N w ao n cap os bs) {i : Nat} {b : Bool} (hb : bs[i]? = some b) (c : Bool) : Mm w0 N (w.setCell ⟨w0, i, none⟩ (.bool c)) ao n cap os (bs.set i c) :=
  ⟨h.o.ch ((Ch.refl (Only w0) w).own i (.bool c)) (fun q hq e => by have e1 : q = w0 := e; have := (h.o.blk hq).1; omega), (h.b.bit hb).2.2.2 c⟩
set_option maxHeartbeats 2000000 in
set_option maxRecDepth 20000 in
theorem comeW_any (w : World) (X0 : Nat) (wy : Int → List Int) (N a : Nat) (xs : List Int) (hN : N ≤ 4096) (ha : a < N) (hwy : WyIn N wy) (hwl : ∀ x : Nat, x < N → (wy (x : Int)).length ≤ 4096) (hxs : Rl N wy (a : Int) xs)
    (HC : ∀ (x : Nat) (W : World), x < N → Gr w W → Calls Tryd.prog 39 #[.int .i64 (x : Nat), .pointer (some ⟨X0, 0, none⟩)] W (NxR W (wy (x : Int)))) :
    Calls Tryd.prog 20 #[.int .i64 (a : Nat), .int .i64 (N : Nat), .func (.func 39) #[] #[.pointer (some ⟨X0, 0, none⟩)]] w (NxR w xs) := by
  have HCL := hid HC
  have HWY := hid hwy
  have HWL := hid hwl
  have HXS := hid hxs
  have HB0 := hid (show (List.replicate N false)[a]? = some false by rw [List.getElem?_replicate, if_pos ha])
  have HS := hid (Cm.start (wy := wy) ha)
  have a0 : (0 : Int) ≤ (a : Int) := by omega
  have a1 : (a : Int) < (N : Int) := by omega
  clear HC hwy hwl hxs
  go_enter Tryd.func20, Tryd.ntmps20
  go_wp2_with (at_make; refine wpList_make_bools rfl _ _ rfl N _ _ rfl rfl hN ?_; intro w1 o1 g1; obtain ⟨c1, z1, l1, s1⟩ := o1.bit HB0.out; have S1 := hid (s1 true); have G1 := hid g1; clear o1 g1 s1)
  have M0 := hid (show Mm w.heap.size N ((w1.setCell ⟨w.heap.size, a, none⟩ (.bool true)).alloc (.cells #[.int .i64 (a : Nat)] 3)) (some ⟨w1.heap.size, 0, none⟩) 1 1 [(a : Int)] ((List.replicate N false).set a true) from
    ⟨by
      have e := ow_new (w := w1) (q := w1.setCell ⟨w.heap.size, a, none⟩ (.bool true)) (by simp) [(a : Int)] #[.int .i64 (a : Nat)] rfl 1 rfl (by omega) w1.heap.size (by simp)
      exact e.lower l1, S1.out.alloc _⟩)
  have G0 := hid (show Gr w ((w1.setCell ⟨w.heap.size, a, none⟩ (.bool true)).alloc (.cells #[.int .i64 (a : Nat)] 3)) from Ch.alloc (Ch.fresh G1.out (Nat.le_refl _) a (.bool true)) _)
  obtain ⟨W1, hW1⟩ : ∃ x, x = (w1.setCell ⟨w.heap.size, a, none⟩ (.bool true)).alloc (.cells #[.int .i64 (a : Nat)] 3) := ⟨_, rfl⟩
  rw [← hW1] at M0 G0
  first | rw [← hW1] | skip
  clear c1 z1 l1 S1 G1
  go_loopg [8, 9] N (fun m o i wq => ∃ (j n cap : Nat) (ao : Option Addr) (os : List Int) (bs : List Bool), j + m = N ∧ i = .int .i64 ((j : Nat) : Int) ∧ o = .slice ao n cap ∧ n = os.length ∧ j ≤ n ∧ Mm w.heap.size N wq ao n cap os bs ∧ Cm N wy (a : Int) os bs j ∧ Gr w wq)
  case atStart => exact ⟨0, 1, 1, some ⟨w1.heap.size, 0, none⟩, _, _, by omega, rfl, by simp, rfl, by omega, by first | exact M0.out | (rw [hW1] at M0; exact M0.out), HS.out, by first | exact G0.out | (rw [hW1] at G0; exact G0.out)⟩
  case round =>
    obtain ⟨j, n, cap, ao, os, bs, hjm, rfl, rfl, hn, hjn, hM, hC, hG⟩ := hrel
    have HM := hid hM
    have HCm := hid hC
    have HG := hid hG
    have HNN := hid hn
    have hnN : n ≤ N := by rw [hn]; exact hC.le
    clear hM hC hG hn
    by_cases hj : j < n
    · obtain ⟨x, hx⟩ : ∃ x, os[j]? = some x := ⟨_, List.getElem?_eq_getElem (by rw [← HNN.out]; exact hj)⟩
      have hxm := (HCm.out.mem x).1 (List.mem_of_getElem? hx)
      have hxb := bt_lt hxm
      rw [HCm.out.len] at hxb
      obtain ⟨y, rfl⟩ : ∃ y : Nat, x = (y : Int) := ⟨x.toNat, by omega⟩
      have hyN : y < N := by omega
      obtain ⟨g, cap', hv, hgb, hgl, _, hcs, _, _⟩ := HM.out.o.get eI_len hx
      injection hv with hv1 hv2 hv3
      subst hv1
      have c0 := hcs 0 _ rfl
      rw [Nat.mul_one, Nat.add_zero] at c0
      have j0 : (0 : Int) ≤ (j : Int) := by omega
      have j1 : (j : Int) < (n : Int) := by omega
      have HX := hid hx
      have HK := hid (fun (W : World) (p : Gr w W) => HCL.out y W hyN p)
      have HWin := hid (fun (z : Int) (q : z ∈ wy (y : Int)) => HWY.out y hyN z q)
      have HRC := hid (HCm.out.rc _ (List.mem_of_getElem? hx))
      have hwl := HWL.out y hyN
      have HWS := hid (show ∀ z, z ∈ wy (y : Int) → Rc wy (a : Int) z from fun z q => HRC.out.next q)
      have HNX := hid (fun (os' : List Int) (bs' : List Bool) (p : Cm N wy (a : Int) os' bs' j) (q : os'[j]? = some (y : Int)) (r : ∀ z, z ∈ wy (y : Int) → z ∈ os') => p.next q r)
      generalize wy (y : Int) = ws at HK HWin hwl HWS HNX
      clear hcs hv2 hv3 hxm hxb hx
      go_wp2_with (go_at_call 39; refine (HK.out _ HG.out).mono ?_; rintro e w2 ⟨v2, rfl, o2, g2⟩; obtain ⟨ao2, cap2, hv2⟩ := o2.form; subst hv2; have O2 := hid o2; have G2 := hid (Gr.trans HG.out g2); have M2 := hid (HM.out.gr g2); have SW := hid g2.size; clear o2 g2)
      have ND := hid (show ∀ q, Blk (.slice ao2 ws.length cap2) q → ¬ Blk (.slice (some ⟨g, 0, none⟩) n cap) q from fun q q1 q2 => by
        have e1 := (O2.out.blk q1).1
        have e2 := (HM.out.o.blk q2).2
        omega)
      obtain ⟨n2, hn2⟩ : ∃ k, k = ws.length := ⟨_, rfl⟩
      have HN2 := hid hn2
      rw [← hn2] at O2 ND hwl
      first | rw [← hn2] | skip
      clear c0 hgb hgl hn2
      rename World => V
      have K1 := hid (show gk = (gk - 1) + 1 from by omega)
      go_loopg [8, 32] n2 (fun m o i wq => ∃ (k n cap : Nat) (ao : Option Addr) (os : List Int) (bs : List Bool), k + m = n2 ∧ i = .int .i64 ((k : Nat) : Int) ∧ o = .slice ao n cap ∧ n = os.length ∧ j < n ∧ Mm w.heap.size N wq ao n cap os bs ∧ Cm N wy (a : Int) os bs j ∧ os[j]? = some (y : Int) ∧ Ow eI 1 3 (w.heap.size + 1) wq (.slice ao2 n2 cap2) ws ∧ (∀ q, Blk (.slice ao2 n2 cap2) q → ¬ Blk (.slice ao n cap) q) ∧ (∀ l z, l < k → ws[l]? = some z → z ∈ os) ∧ Gr w wq)
      case atStart => exact ⟨0, n, cap, _, os, bs, by omega, rfl, rfl, HNN.out, hj, M2.out, HCm.out, HX.out, O2.out.lower (by have := (HM.out.b.blk (q := w.heap.size) rfl).2; omega), ND.out, fun l z q => by omega, G2.out⟩
      case round =>
        obtain ⟨k, n3, cap3, ao3, os3, bs3, hkm, rfl, rfl, hn3, hj3, hM3, hC3, hX3, hO3, hD3, hA3, hG3⟩ := hrel
        have HM3 := hid hM3
        have HC3 := hid hC3
        have HX3 := hid hX3
        have HO3 := hid hO3
        have HD3 := hid hD3
        have HA3 := hid hA3
        have HG3 := hid hG3
        have HN3 := hid hn3
        clear hM3 hC3 hX3 hO3 hD3 hA3 hG3 hn3
        by_cases hk : k < n2
        · obtain ⟨z, hz⟩ : ∃ z, ws[k]? = some z := ⟨_, List.getElem?_eq_getElem (by rw [← HN2.out]; exact hk)⟩
          have hzm := List.mem_of_getElem? hz
          obtain ⟨hz0, hz1⟩ := HWin.out z hzm
          obtain ⟨u, rfl⟩ : ∃ u : Nat, z = (u : Int) := ⟨z.toNat, by omega⟩
          have huN : u < N := by omega
          have HRU := hid (HWS.out _ hzm)
          obtain ⟨bu, hbu⟩ : ∃ b, bs3[u]? = some b := ⟨_, List.getElem?_eq_getElem (by rw [HC3.out.len]; exact huN)⟩
          obtain ⟨g3, cap4, hv, _, hgl3, _, hcs, _, _⟩ := HO3.out.get eI_len hz
          injection hv with hv1 hv2 hv3
          subst hv1
          have c0 := hcs 0 _ rfl
          rw [Nat.mul_one, Nat.add_zero] at c0
          obtain ⟨cb, zb, lb, sb⟩ := HM3.out.b.bit hbu
          have MS := hid (HM3.out.set hbu true)
          have k0 : (0 : Int) ≤ (k : Int) := by omega
          have k1 : (k : Int) < (n2 : Int) := by omega
          have HZ := hid (show ∀ os' : List Int, (∀ q, q ∈ os3 → q ∈ os') → ((u : Nat) : Int) ∈ os' → ∀ l z, l < k + 1 → ws[l]? = some z → z ∈ os' from fun os' h1 h2 l z q1 q2 => by
            by_cases e : l = k
            · subst e
              rw [hz] at q2
              injection q2 with q2
              subst q2
              exact h2
            · exact h1 z (HA3.out l z (by omega) q2))
          clear hcs hv2 hv3 hz sb
          cases bu with
          | true =>
            have HIN := hid ((HC3.out.mem ((u : Nat) : Int)).2 ((bt_nat _ _).2 hbu))
            clear hbu
            go_wp2
            go_roundg (gk - 1)
            case measure => omega
            case rel => exact ⟨k + 1, n3, cap3, ao3, os3, bs3, by omega, by simp, rfl, HN3.out, hj3, HM3.out, HC3.out, HX3.out, HO3.out, HD3.out, HZ.out os3 (fun _ q => q) HIN.out, HG3.out⟩
          | false =>
            have HCA := hid (HC3.out.add (by have := HN3.out; omega) hbu HRU.out)
            have hlt := HC3.out.lt hbu
            have hn3 : n3 < N := by rw [HN3.out]; exact hlt
            have G4 := hid (show Gr w (wr.setCell ⟨w.heap.size, u, none⟩ (.bool true)) from Ch.fresh HG3.out (Nat.le_refl _) u (.bool true))
            have O4 := hid (show Ow eI 1 3 (w.heap.size + 1) (wr.setCell ⟨w.heap.size, u, none⟩ (.bool true)) (.slice (some ⟨g3, 0, none⟩) n2 cap2) ws from HO3.out.ch ((Ch.refl (Only w.heap.size) wr).own u (.bool true)) (fun q hq e => by have e1 : q = w.heap.size := e; have := (HO3.out.blk hq).1; omega))
            have SZ := hid (show w.heap.size + 1 ≤ wr.heap.size from lb)
            clear hbu hlt
            go_wp2_with (at_builtin; refine wpList_append_ow eI_len rfl (.tmp 44) (.tmp 46) _ 3 8 _ Tryd.underlying32 int_info rfl (by omega) rfl (w.heap.size + 1) _ os3 rfl (MS.out.o.alloc _) _ _ [((u : Nat) : Int)] rfl (ls_int _ _ _ (by simp)) (eI_one _) (n3 + 1) (by rw [HN3.out]; rfl) (by omega) (by unfold maxLen; omega) (by simp; have := SZ.out; omega) (os3 ++ [((u : Nat) : Int)]) rfl ?_; intro ao5 cap5 w5 ow5 cw5 bl5; have O5 := hid ow5; have C5 := hid cw5; have B5 := hid bl5; clear ow5 cw5 bl5)
            clear c0 cb zb lb
            go_roundg (gk - 1)
            case measure => omega
            case rel =>
              refine ⟨k + 1, n3 + 1, cap5, ao5, os3 ++ [((u : Nat) : Int)], bs3.set u true, by omega, by simp, rfl, by rw [HN3.out, List.length_append]; rfl, by omega, ⟨O5.out, (MS.out.b.alloc _).ch C5.out (fun q h1 h2 => ?_)⟩, HCA.out, ?_, (O4.out.alloc _).ch C5.out (fun q h1 => HD3.out q h1), fun q h1 h2 => ?_, HZ.out _ (fun q h => List.mem_append_left _ h) (by simp), Ch.trans (Ch.alloc G4.out _) C5.out (fun q h => .inr (by have := (HM3.out.o.blk h).1; omega))⟩
              · have e1 := ne_blk h1
                have := (HM3.out.o.blk h2).1
                omega
              · rw [List.getElem?_append_left (by have := HN3.out; omega)]
                exact HX3.out
              · rcases B5.out q h2 with h3 | h3
                · exact HD3.out q h1 h3
                · have := (HO3.out.blk h1).2
                  simp at h3
                  omega
        · have kn : ¬ (k : Int) < (n2 : Int) := by omega
          have hke : k = n2 := by omega
          have HALL := hid (show ∀ z, z ∈ ws → z ∈ os3 from fun z q => by
            obtain ⟨l, hl⟩ := List.mem_iff_getElem?.1 q
            exact HA3.out l z (by have := (List.getElem?_eq_some_iff.1 hl).1; have := HN2.out; omega) hl)
          have HCN := hid (HNX.out os3 bs3 HC3.out HX3.out HALL.out)
          go_wp2
          go_roundg (N - (j + 1))
          case measure => omega
          case rel => exact ⟨j + 1, n3, cap3, ao3, os3, bs3, by omega, by simp, rfl, HN3.out, by omega, HM3.out, HCN.out, HG3.out⟩
    · have jn : ¬ (j : Int) < (n : Int) := by omega
      have HRS := hid (HCm.out.done (by have := HNN.out; omega) HXS.out)
      have hl := hid (show os.length ≤ 4096 by rw [← HNN.out]; omega)
      go_wp2_with (go_at_call 37; refine (sort_ow _ (w.heap.size + 1) _ _ _ os HM.out.o hl.out).mono ?_; rintro e w6 ⟨rfl, o6, c6⟩; have O6 := hid o6; have G6 := hid (show Gr w w6 from Ch.trans HG.out c6 (fun q h => .inr (by have := (HM.out.o.blk h).1; omega))); clear o6 c6)
      go_ret
      exact ⟨_, rfl, by rw [← HRS.out]; exact O6.out.lower (by omega), G6.out⟩
set_option maxHeartbeats 2000000 in
set_option maxRecDepth 20000 in
theorem comeC_any (w : World) (X0 X1 : Nat) (wy : Int → List Int) (N a : Nat) (xs : List Int) (hN : N ≤ 4096) (ha : a < N) (hwy : WyIn N wy) (hwl : ∀ x : Nat, x < N → (wy (x : Int)).length ≤ 4096) (hxs : Rl N wy (a : Int) xs)
    (HC : ∀ (x : Nat) (W : World), x < N → Gr w W → Calls Tryd.prog 21 #[.int .i64 (x : Nat), .pointer (some ⟨X0, 0, none⟩), .pointer (some ⟨X1, 0, none⟩)] W (NxR W (wy (x : Int)))) :
    Calls Tryd.prog 20 #[.int .i64 (a : Nat), .int .i64 (N : Nat), .func (.func 21) #[] #[.pointer (some ⟨X0, 0, none⟩), .pointer (some ⟨X1, 0, none⟩)]] w (NxR w xs) := by
  have HCL := hid HC
  have HWY := hid hwy
  have HWL := hid hwl
  have HXS := hid hxs
  have HB0 := hid (show (List.replicate N false)[a]? = some false by rw [List.getElem?_replicate, if_pos ha])
  have HS := hid (Cm.start (wy := wy) ha)
  have a0 : (0 : Int) ≤ (a : Int) := by omega
  have a1 : (a : Int) < (N : Int) := by omega
  clear HC hwy hwl hxs
  go_enter Tryd.func20, Tryd.ntmps20
  go_wp2_with (at_make; refine wpList_make_bools rfl _ _ rfl N _ _ rfl rfl hN ?_; intro w1 o1 g1; obtain ⟨c1, z1, l1, s1⟩ := o1.bit HB0.out; have S1 := hid (s1 true); have G1 := hid g1; clear o1 g1 s1)
  have M0 := hid (show Mm w.heap.size N ((w1.setCell ⟨w.heap.size, a, none⟩ (.bool true)).alloc (.cells #[.int .i64 (a : Nat)] 3)) (some ⟨w1.heap.size, 0, none⟩) 1 1 [(a : Int)] ((List.replicate N false).set a true) from
    ⟨by
      have e := ow_new (w := w1) (q := w1.setCell ⟨w.heap.size, a, none⟩ (.bool true)) (by simp) [(a : Int)] #[.int .i64 (a : Nat)] rfl 1 rfl (by omega) w1.heap.size (by simp)
      exact e.lower l1, S1.out.alloc _⟩)
  have G0 := hid (show Gr w ((w1.setCell ⟨w.heap.size, a, none⟩ (.bool true)).alloc (.cells #[.int .i64 (a : Nat)] 3)) from Ch.alloc (Ch.fresh G1.out (Nat.le_refl _) a (.bool true)) _)
  obtain ⟨W1, hW1⟩ : ∃ x, x = (w1.setCell ⟨w.heap.size, a, none⟩ (.bool true)).alloc (.cells #[.int .i64 (a : Nat)] 3) := ⟨_, rfl⟩
  rw [← hW1] at M0 G0
  first | rw [← hW1] | skip
  clear c1 z1 l1 S1 G1
  go_loopg [8, 9] N (fun m o i wq => ∃ (j n cap : Nat) (ao : Option Addr) (os : List Int) (bs : List Bool), j + m = N ∧ i = .int .i64 ((j : Nat) : Int) ∧ o = .slice ao n cap ∧ n = os.length ∧ j ≤ n ∧ Mm w.heap.size N wq ao n cap os bs ∧ Cm N wy (a : Int) os bs j ∧ Gr w wq)
  case atStart => exact ⟨0, 1, 1, some ⟨w1.heap.size, 0, none⟩, _, _, by omega, rfl, by simp, rfl, by omega, by first | exact M0.out | (rw [hW1] at M0; exact M0.out), HS.out, by first | exact G0.out | (rw [hW1] at G0; exact G0.out)⟩
  case round =>
    obtain ⟨j, n, cap, ao, os, bs, hjm, rfl, rfl, hn, hjn, hM, hC, hG⟩ := hrel
    have HM := hid hM
    have HCm := hid hC
    have HG := hid hG
    have HNN := hid hn
    have hnN : n ≤ N := by rw [hn]; exact hC.le
    clear hM hC hG hn
    by_cases hj : j < n
    · obtain ⟨x, hx⟩ : ∃ x, os[j]? = some x := ⟨_, List.getElem?_eq_getElem (by rw [← HNN.out]; exact hj)⟩
      have hxm := (HCm.out.mem x).1 (List.mem_of_getElem? hx)
      have hxb := bt_lt hxm
      rw [HCm.out.len] at hxb
      obtain ⟨y, rfl⟩ : ∃ y : Nat, x = (y : Int) := ⟨x.toNat, by omega⟩
      have hyN : y < N := by omega
      obtain ⟨g, cap', hv, hgb, hgl, _, hcs, _, _⟩ := HM.out.o.get eI_len hx
      injection hv with hv1 hv2 hv3
      subst hv1
      have c0 := hcs 0 _ rfl
      rw [Nat.mul_one, Nat.add_zero] at c0
      have j0 : (0 : Int) ≤ (j : Int) := by omega
      have j1 : (j : Int) < (n : Int) := by omega
      have HX := hid hx
      have HK := hid (fun (W : World) (p : Gr w W) => HCL.out y W hyN p)
      have HWin := hid (fun (z : Int) (q : z ∈ wy (y : Int)) => HWY.out y hyN z q)
      have HRC := hid (HCm.out.rc _ (List.mem_of_getElem? hx))
      have hwl := HWL.out y hyN
      have HWS := hid (show ∀ z, z ∈ wy (y : Int) → Rc wy (a : Int) z from fun z q => HRC.out.next q)
      have HNX := hid (fun (os' : List Int) (bs' : List Bool) (p : Cm N wy (a : Int) os' bs' j) (q : os'[j]? = some (y : Int)) (r : ∀ z, z ∈ wy (y : Int) → z ∈ os') => p.next q r)
      generalize wy (y : Int) = ws at HK HWin hwl HWS HNX
      clear hcs hv2 hv3 hxm hxb hx
      go_wp2_with (go_at_call 21; refine (HK.out _ HG.out).mono ?_; rintro e w2 ⟨v2, rfl, o2, g2⟩; obtain ⟨ao2, cap2, hv2⟩ := o2.form; subst hv2; have O2 := hid o2; have G2 := hid (Gr.trans HG.out g2); have M2 := hid (HM.out.gr g2); have SW := hid g2.size; clear o2 g2)
      have ND := hid (show ∀ q, Blk (.slice ao2 ws.length cap2) q → ¬ Blk (.slice (some ⟨g, 0, none⟩) n cap) q from fun q q1 q2 => by
        have e1 := (O2.out.blk q1).1
        have e2 := (HM.out.o.blk q2).2
        omega)
      obtain ⟨n2, hn2⟩ : ∃ k, k = ws.length := ⟨_, rfl⟩
      have HN2 := hid hn2
      rw [← hn2] at O2 ND hwl
      first | rw [← hn2] | skip
      clear c0 hgb hgl hn2
      rename World => V
      have K1 := hid (show gk = (gk - 1) + 1 from by omega)
      go_loopg [8, 32] n2 (fun m o i wq => ∃ (k n cap : Nat) (ao : Option Addr) (os : List Int) (bs : List Bool), k + m = n2 ∧ i = .int .i64 ((k : Nat) : Int) ∧ o = .slice ao n cap ∧ n = os.length ∧ j < n ∧ Mm w.heap.size N wq ao n cap os bs ∧ Cm N wy (a : Int) os bs j ∧ os[j]? = some (y : Int) ∧ Ow eI 1 3 (w.heap.size + 1) wq (.slice ao2 n2 cap2) ws ∧ (∀ q, Blk (.slice ao2 n2 cap2) q → ¬ Blk (.slice ao n cap) q) ∧ (∀ l z, l < k → ws[l]? = some z → z ∈ os) ∧ Gr w wq)
      case atStart => exact ⟨0, n, cap, _, os, bs, by omega, rfl, rfl, HNN.out, hj, M2.out, HCm.out, HX.out, O2.out.lower (by have := (HM.out.b.blk (q := w.heap.size) rfl).2; omega), ND.out, fun l z q => by omega, G2.out⟩
      case round =>
        obtain ⟨k, n3, cap3, ao3, os3, bs3, hkm, rfl, rfl, hn3, hj3, hM3, hC3, hX3, hO3, hD3, hA3, hG3⟩ := hrel
        have HM3 := hid hM3
        have HC3 := hid hC3
        have HX3 := hid hX3
        have HO3 := hid hO3
        have HD3 := hid hD3
        have HA3 := hid hA3
        have HG3 := hid hG3
        have HN3 := hid hn3
        clear hM3 hC3 hX3 hO3 hD3 hA3 hG3 hn3
        by_cases hk : k < n2
        · obtain ⟨z, hz⟩ : ∃ z, ws[k]? = some z := ⟨_, List.getElem?_eq_getElem (by rw [← HN2.out]; exact hk)⟩
          have hzm := List.mem_of_getElem? hz
          obtain ⟨hz0, hz1⟩ := HWin.out z hzm
          obtain ⟨u, rfl⟩ : ∃ u : Nat, z = (u : Int) := ⟨z.toNat, by omega⟩
          have huN : u < N := by omega
          have HRU := hid (HWS.out _ hzm)
          obtain ⟨bu, hbu⟩ : ∃ b, bs3[u]? = some b := ⟨_, List.getElem?_eq_getElem (by rw [HC3.out.len]; exact huN)⟩
          obtain ⟨g3, cap4, hv, _, hgl3, _, hcs, _, _⟩ := HO3.out.get eI_len hz
          injection hv with hv1 hv2 hv3
          subst hv1
          have c0 := hcs 0 _ rfl
          rw [Nat.mul_one, Nat.add_zero] at c0
          obtain ⟨cb, zb, lb, sb⟩ := HM3.out.b.bit hbu
          have MS := hid (HM3.out.set hbu true)
          have k0 : (0 : Int) ≤ (k : Int) := by omega
          have k1 : (k : Int) < (n2 : Int) := by omega
          have HZ := hid (show ∀ os' : List Int, (∀ q, q ∈ os3 → q ∈ os') → ((u : Nat) : Int) ∈ os' → ∀ l z, l < k + 1 → ws[l]? = some z → z ∈ os' from fun os' h1 h2 l z q1 q2 => by
            by_cases e : l = k
            · subst e
              rw [hz] at q2
              injection q2 with q2
              subst q2
              exact h2
            · exact h1 z (HA3.out l z (by omega) q2))
          clear hcs hv2 hv3 hz sb
          cases bu with
          | true =>
            have HIN := hid ((HC3.out.mem ((u : Nat) : Int)).2 ((bt_nat _ _).2 hbu))
            clear hbu
            go_wp2
            go_roundg (gk - 1)
            case measure => omega
            case rel => exact ⟨k + 1, n3, cap3, ao3, os3, bs3, by omega, by simp, rfl, HN3.out, hj3, HM3.out, HC3.out, HX3.out, HO3.out, HD3.out, HZ.out os3 (fun _ q => q) HIN.out, HG3.out⟩
          | false =>
            have HCA := hid (HC3.out.add (by have := HN3.out; omega) hbu HRU.out)
            have hlt := HC3.out.lt hbu
            have hn3 : n3 < N := by rw [HN3.out]; exact hlt
            have G4 := hid (show Gr w (wr.setCell ⟨w.heap.size, u, none⟩ (.bool true)) from Ch.fresh HG3.out (Nat.le_refl _) u (.bool true))
            have O4 := hid (show Ow eI 1 3 (w.heap.size + 1) (wr.setCell ⟨w.heap.size, u, none⟩ (.bool true)) (.slice (some ⟨g3, 0, none⟩) n2 cap2) ws from HO3.out.ch ((Ch.refl (Only w.heap.size) wr).own u (.bool true)) (fun q hq e => by have e1 : q = w.heap.size := e; have := (HO3.out.blk hq).1; omega))
            have SZ := hid (show w.heap.size + 1 ≤ wr.heap.size from lb)
            clear hbu hlt
            go_wp2_with (at_builtin; refine wpList_append_ow eI_len rfl (.tmp 44) (.tmp 46) _ 3 8 _ Tryd.underlying32 int_info rfl (by omega) rfl (w.heap.size + 1) _ os3 rfl (MS.out.o.alloc _) _ _ [((u : Nat) : Int)] rfl (ls_int _ _ _ (by simp)) (eI_one _) (n3 + 1) (by rw [HN3.out]; rfl) (by omega) (by unfold maxLen; omega) (by simp; have := SZ.out; omega) (os3 ++ [((u : Nat) : Int)]) rfl ?_; intro ao5 cap5 w5 ow5 cw5 bl5; have O5 := hid ow5; have C5 := hid cw5; have B5 := hid bl5; clear ow5 cw5 bl5)
            clear c0 cb zb lb
            go_roundg (gk - 1)
            case measure => omega
            case rel =>
              refine ⟨k + 1, n3 + 1, cap5, ao5, os3 ++ [((u : Nat) : Int)], bs3.set u true, by omega, by simp, rfl, by rw [HN3.out, List.length_append]; rfl, by omega, ⟨O5.out, (MS.out.b.alloc _).ch C5.out (fun q h1 h2 => ?_)⟩, HCA.out, ?_, (O4.out.alloc _).ch C5.out (fun q h1 => HD3.out q h1), fun q h1 h2 => ?_, HZ.out _ (fun q h => List.mem_append_left _ h) (by simp), Ch.trans (Ch.alloc G4.out _) C5.out (fun q h => .inr (by have := (HM3.out.o.blk h).1; omega))⟩
              · have e1 := ne_blk h1
                have := (HM3.out.o.blk h2).1
                omega
              · rw [List.getElem?_append_left (by have := HN3.out; omega)]
                exact HX3.out
              · rcases B5.out q h2 with h3 | h3
                · exact HD3.out q h1 h3
                · have := (HO3.out.blk h1).2
                  simp at h3
                  omega
        · have kn : ¬ (k : Int) < (n2 : Int) := by omega
          have hke : k = n2 := by omega
          have HALL := hid (show ∀ z, z ∈ ws → z ∈ os3 from fun z q => by
            obtain ⟨l, hl⟩ := List.mem_iff_getElem?.1 q
            exact HA3.out l z (by have := (List.getElem?_eq_some_iff.1 hl).1; have := HN2.out; omega) hl)
          have HCN := hid (HNX.out os3 bs3 HC3.out HX3.out HALL.out)
          go_wp2
          go_roundg (N - (j + 1))
          case measure => omega
          case rel => exact ⟨j + 1, n3, cap3, ao3, os3, bs3, by omega, by simp, rfl, HN3.out, by omega, HM3.out, HCN.out, HG3.out⟩
    · have jn : ¬ (j : Int) < (n : Int) := by omega
      have HRS := hid (HCm.out.done (by have := HNN.out; omega) HXS.out)
      have hl := hid (show os.length ≤ 4096 by rw [← HNN.out]; omega)
      go_wp2_with (go_at_call 37; refine (sort_ow _ (w.heap.size + 1) _ _ _ os HM.out.o hl.out).mono ?_; rintro e w6 ⟨rfl, o6, c6⟩; have O6 := hid o6; have G6 := hid (show Gr w w6 from Ch.trans HG.out c6 (fun q h => .inr (by have := (HM.out.o.blk h).1; omega))); clear o6 c6)
      go_ret
      exact ⟨_, rfl, by rw [← HRS.out]; exact O6.out.lower (by omega), G6.out⟩
end Go.Proofs.YtollfepggicehabDoor.Lt
