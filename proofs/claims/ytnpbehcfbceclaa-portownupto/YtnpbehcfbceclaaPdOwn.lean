/-
  The statement PortOwn, walked: it returns true. Condition: the lists are there, and have no more than 1048576 elements.
-/
import Derived.Test.YtnpbehcfbceclaaPdLoads
import Derived.Test.YtnpbehcfbceclaaPdSp
import Derived.Test.YtnpbehcfbceclaaPdSameI
namespace Go.Proofs.Ytnpbehcfbceclaa.Lt
open Go.RowKit Wd
attribute [local go_sem ↓] Go.wp_at_zero Go.wp_at_succ
set_option maxRecDepth 20000

set_option maxHeartbeats 8000000 in
theorem own_walk {P Q R : Nat → Prop} (w : World) (q : Bool) (c : Int) (p1 : Option Addr) (m1 d1 : Nat) (p2 : Option Addr) (m2 d2 : Nat) (l : Int) (xs : List Int) (ys : List Ag) (ao : Option Addr) (n ca : Nat) (axs : List Ac) (h1 : Ls eI P w (.slice p1 m1 d1) xs) (h2 : Ls eG Q w (.slice p2 m2 d2) ys) (hm1 : m1 ≤ 1048576) (hm2 : m2 ≤ 1048576) (hx : Ls eC R w (.slice ao n ca) axs) (hn : n ≤ 1048576) :
    Calls Try.prog 8 #[.agg #[.bool q, .int .i64 c, .slice p1 m1 d1, .slice p2 m2 d2, .int .i64 l], .slice ao n ca] w fun e w' => e = .returned (.bool true) ∧ Gr w w' := by
  have e1 : m1 = xs.length := h1.len.1
  have e2 : m2 = ys.length := h2.len.1
  subst e1 e2
  obtain ⟨A, hA⟩ : ∃ A, A = w.alloc (.cells #[.bool q, .int .i64 c, .slice p1 xs.length d1, .slice p2 ys.length d2, .int .i64 l] 32) := ⟨_, rfl⟩
  have GA := hid (show Gr w A by rw [hA]; exact Ch.alloc (Gr.refl w) _)
  have XB := hid (show A.heap[w.heap.size]? = some (.cells #[.bool q, .int .i64 c, .slice p1 xs.length d1, .slice p2 ys.length d2, .int .i64 l] 32 (0, 0)) by rw [hA]; exact al_at _ rfl)
  have HC := hid (fun W (g : Gr w W) => copyi_any W q c l p1 p2 xs.length ys.length d1 d2 xs ys (h1.gr g) (h2.gr g) hm1 hm2)
  have HX := hid hx
  have HXL := hid hx.len.1
  have hx1 : xs.length ≤ 1048576 := hm1
  have hy1 : ys.length ≤ 1048576 := hm2
  have HSM := hid (fun (S1 S2 : Nat → Prop) W (g : Gr w W) b1 b2 k1 k2 (f1 : Ls eI S1 W (.slice b1 xs.length k1) xs) (f2 : Ls eG S2 W (.slice b2 ys.length k2) ys) => rsamei_any W q c l b1 b2 p1 p2 xs.length ys.length k1 k2 d1 d2 xs ys f1 f2 (h1.gr g) (h2.gr g) hm1 hm2)
  cases hb : mayB q c xs.length ys.length ys l
  · have HR := hid (fun W (g : Gr w W) => rload_no W q c l p1 p2 xs.length ys.length d1 d2 xs ys (h1.gr g) (h2.gr g) hm1 hm2 hb)
    have HL := hid (fun (S : Nat → Prop) (W : World) (b1 b2 : Option Addr) (k1 k2 : Nat) (g : Ls eG S W (.slice b2 ys.length k2) ys) => load_no W q c l b1 b2 xs.length ys.length k1 k2 ys g hy1 hb)
    clear h1 h2 hx hb
    go_enter Try.func8, Try.ntmps8
    go_wp2_with (rw [← hA]; refine wpList_load_row rfl 32 (.tmp 2) rfl w.heap.size rfl _ _ _ _ XB.out Try.underlying32 rfl pst_size ?_)
    rw [← hA]
    clear hA
    refine (HC.out _ GA.out).mono ?_
    rintro e w1 ⟨v1, v2, rfl, o1, o2, g1⟩
    obtain ⟨b1, k1, rfl⟩ := o1.form
    obtain ⟨b2, k2, rfl⟩ := o2.form
    obtain ⟨W2, hW2⟩ : ∃ W2, W2 = w1.alloc (.cells #[.bool q, .int .i64 c, .slice b1 xs.length k1, .slice b2 ys.length k2, .int .i64 l] 32) := ⟨_, rfl⟩
    have GI := hid (show Gr w1 W2 by rw [hW2]; exact Ch.alloc (Gr.refl _) _)
    have IB := hid (show W2.heap[w1.heap.size]? = some (.cells #[.bool q, .int .i64 c, .slice b1 xs.length k1, .slice b2 ys.length k2, .int .i64 l] 32 (0, 0)) by rw [hW2]; exact al_at _ rfl)
    have G1 := hid (Gr.trans (Gr.trans GA.out g1) GI.out)
    have XB1 := hid (gr_blk (gr_blk XB.out g1) GI.out)
    have O1 := hid (o1.gr GI.out).lst
    have O2 := hid (o2.gr GI.out).lst
    clear o1 o2 g1
    go_wp2_with (first | rw [← hW2] | (refine wpList_load_row rfl 32 (.tmp 5) rfl w1.heap.size rfl _ _ _ _ IB.out Try.underlying32 rfl pst_size ?_))
    clear hW2
    refine (HL.out _ _ b1 b2 k1 k2 O2.out).mono ?_
    rintro e w2 ⟨rfl, g2⟩
    have G2 := hid (Gr.trans G1.out g2)
    have XB2 := hid (gr_blk XB1.out g2)
    have IB2 := hid (gr_blk IB.out g2)
    have O1b := hid (O1.out.gr g2)
    have O2b := hid (O2.out.gr g2)
    clear g2
    go_wp2_with (refine wpList_load_row rfl 32 (.tmp 2) rfl w.heap.size rfl _ _ _ _ XB2.out Try.underlying32 rfl pst_size ?_)
    refine (HR.out _ G2.out).mono ?_
    rintro e w3 ⟨rfl, g3⟩
    obtain ⟨W4, hW4⟩ : ∃ W4, W4 = w3.alloc (.cells #[.bool false, .int .i64 0, .slice none 0 0, .slice none 0 0, .int .i64 0] 32) := ⟨_, rfl⟩
    have g4 : Gr w3 W4 := by rw [hW4]; exact Ch.alloc (Gr.refl _) _
    have G4 := hid (Gr.trans (Gr.trans G2.out g3) g4)
    have XB4 := hid (gr_blk (gr_blk XB2.out g3) g4)
    have IB4 := hid (gr_blk (gr_blk IB2.out g3) g4)
    have O1c := hid ((O1b.out.gr g3).gr g4)
    have O2c := hid ((O2b.out.gr g3).gr g4)
    clear g3 g4
    go_wp2_with (first | rw [← hW4] | (refine rowG (by kernel_rfl) 32 (.tmp 5) rfl w1.heap.size rfl _ _ _ _ IB4.out rfl Try.underlying32 pst_size ?_) | (refine rowG (by kernel_rfl) 32 (.tmp 2) rfl w.heap.size rfl _ _ _ _ XB4.out rfl Try.underlying32 pst_size ?_))
    refine (HSM.out _ _ _ G4.out b1 b2 k1 k2 O1c.out O2c.out).mono ?_
    rintro e w5 ⟨rfl, g5⟩
    have G5 := hid (Gr.trans G4.out g5)
    clear g5
    go_wp2_with fail
    refine (lives_any _).mono ?_
    rintro e w6 ⟨rfl, g6⟩
    have G6 := hid (Gr.trans G5.out g6)
    clear g6
    go_wp2
    go_ret
    exact ⟨rfl, G6.out⟩
  · obtain ⟨cN, lN, rfl, rfl, hok, hh, hag⟩ := may_ok hb
    have HK := hid hok
    have HR := hid (fun W (g : Gr w W) => rload_tl W q cN lN p1 p2 xs.length ys.length d1 d2 xs ys (h1.gr g) (h2.gr g) hm1 hm2 hh)
    rw [hag] at HR
    have HL := hid (fun (S S' : Nat → Prop) (W : World) (b1 b2 : Option Addr) (k1 k2 : Nat) (f : Ls eI S' W (.slice b1 xs.length k1) xs) (g : Ls eG S W (.slice b2 ys.length k2) ys) => load_yes W q cN lN b1 b2 xs.length ys.length k1 k2 xs ys f g hx1 hy1 hb)
    clear h1 h2 hx hb hok hh hag
    go_enter Try.func8, Try.ntmps8
    go_wp2_with (rw [← hA]; refine wpList_load_row rfl 32 (.tmp 2) rfl w.heap.size rfl _ _ _ _ XB.out Try.underlying32 rfl pst_size ?_)
    rw [← hA]
    clear hA
    refine (HC.out _ GA.out).mono ?_
    rintro e w1 ⟨v1, v2, rfl, o1, o2, g1⟩
    obtain ⟨b1, k1, rfl⟩ := o1.form
    obtain ⟨b2, k2, rfl⟩ := o2.form
    obtain ⟨W2, hW2⟩ : ∃ W2, W2 = w1.alloc (.cells #[.bool q, .int .i64 (cN : Int), .slice b1 xs.length k1, .slice b2 ys.length k2, .int .i64 (lN : Int)] 32) := ⟨_, rfl⟩
    have GI := hid (show Gr w1 W2 by rw [hW2]; exact Ch.alloc (Gr.refl _) _)
    have HI2 := hid (show w1.heap.size < W2.heap.size by rw [hW2]; simp)
    have IB := hid (show W2.heap[w1.heap.size]? = some (.cells #[.bool q, .int .i64 (cN : Int), .slice b1 xs.length k1, .slice b2 ys.length k2, .int .i64 (lN : Int)] 32 (0, 0)) by rw [hW2]; exact al_at _ rfl)
    have G1 := hid (Gr.trans (Gr.trans GA.out g1) GI.out)
    have XB1 := hid (gr_blk (gr_blk XB.out g1) GI.out)
    have W1O1 := hid (o1.gr GI.out)
    have W1O2 := hid (o2.gr GI.out)
    have HAW := hid (show A.heap.size ≤ w1.heap.size from g1.size)
    have K1 := hid (fun g (e : Blk (.slice b1 xs.length k1) g) => o1.blk e)
    have K2 := hid (fun g (e : Blk (.slice b2 ys.length k2) g) => o2.blk e)
    clear o1 o2 g1
    go_wp2_with (first | rw [← hW2] | (refine wpList_load_row rfl 32 (.tmp 5) rfl w1.heap.size rfl _ _ _ _ IB.out Try.underlying32 rfl pst_size ?_))
    clear hW2
    refine (HL.out _ _ _ b1 b2 k1 k2 W1O1.out.lst W1O2.out.lst).mono ?_
    rintro e w2 ⟨p, rfl, md2⟩
    have MD := hid md2
    have G2 := hid (Gr.trans G1.out md2.2)
    have XB2 := hid (gr_blk XB1.out md2.2)
    have IB2 := hid (gr_blk IB.out md2.2)
    have W2O1 := hid (W1O1.out.gr md2.2)
    have W2O2 := hid (W1O2.out.gr md2.2)
    clear md2
    go_wp2_with (refine wpList_load_row rfl 32 (.tmp 2) rfl w.heap.size rfl _ _ _ _ XB2.out Try.underlying32 rfl pst_size ?_)
    refine (HR.out _ G2.out).mono ?_
    rintro e w3 (⟨h9, -⟩ | ⟨-, u1, u2, rfl, l1, l2, g3⟩)
    · cases h9
    obtain ⟨x, hx⟩ : ∃ x : Pt, x = ⟨q, cN, xs, ys, lN⟩ := ⟨_, rfl⟩
    have NB := hid (show Nb (fun g => g = w3.heap.size ∨ Blk (.slice b1 xs.length k1) g ∨ Blk (.slice b2 ys.length k2) g) w w3 p x u1 u2 x from by
      rw [hx]
      have s3 := g3.size
      have s2 := HI2.out
      exact ⟨Gr.trans G2.out g3, HK.out, HK.out, _, MD.out.1.gr g3, fun g e => ⟨Nat.le_trans G1.out.size e.1, fun k => by
        have e1 := e.1
        have e2 := e.2
        rcases k with k | k | k
        · omega
        · have := (K1.out g k).2; omega
        · have := (K2.out g k).2; omega⟩, l1.mono (fun g hg e => ⟨fun e' => by have := e'.2; omega, fun k => by
        have s4 := MD.out.2.size
        rcases k with k | k | k
        · omega
        · have := (K1.out g k).2; omega
        · have := (K2.out g k).2; omega⟩), l2.mono (fun g hg e => ⟨fun e' => by have := e'.2; omega, fun k => by
        have s4 := MD.out.2.size
        rcases k with k | k | k
        · omega
        · have := (K1.out g k).2; omega
        · have := (K2.out g k).2; omega⟩)⟩)
    obtain ⟨a1, n1, c1, rfl⟩ : ∃ a n c, u1 = .slice a n c := by
      obtain ⟨a, c, e⟩ := l1.form
      exact ⟨a, _, c, e⟩
    obtain ⟨a2, n2, c2, rfl⟩ : ∃ a n c, u2 = .slice a n c := by
      obtain ⟨a, c, e⟩ := l2.form
      exact ⟨a, _, c, e⟩
    have hv : stV (⟨q, cN, xs, ys, lN⟩ : Pt) (.slice a1 n1 c1) (.slice a2 n2 c2) = .agg #[.bool x.q, .int .i64 (x.cap : Nat), .slice a1 n1 c1, .slice a2 n2 c2, .int .i64 (x.lost : Nat)] := by rw [← hx]; rfl
    rw [hv]
    have HT7 := hid (show w.heap.size ≤ w3.heap.size from NB.out.1.size)
    have HT8 := hid (show W2.heap.size ≤ w3.heap.size from Nat.le_trans MD.out.2.size g3.size)
    obtain ⟨W4, hW4⟩ : ∃ W4, W4 = w3.alloc (.cells #[.bool x.q, .int .i64 (x.cap : Nat), .slice a1 n1 c1, .slice a2 n2 c2, .int .i64 (x.lost : Nat)] 32) := ⟨_, rfl⟩
    have g4 : Gr w3 W4 := by rw [hW4]; exact Ch.alloc (Gr.refl _) _
    have BT4 := hid (show W4.heap[w3.heap.size]? = some (.cells #[.bool x.q, .int .i64 (x.cap : Nat), .slice a1 n1 c1, .slice a2 n2 c2, .int .i64 (x.lost : Nat)] 32 (0, 0)) by rw [hW4]; exact al_at _ rfl)
    have NB4 := hid (NB.out.gr g4)
    have XB4 := hid (gr_blk (gr_blk XB2.out g3) g4)
    have IB4 := hid (gr_blk (gr_blk IB2.out g3) g4)
    have W4O1 := hid ((W2O1.out.gr g3).gr g4)
    have W4O2 := hid ((W2O2.out.gr g3).gr g4)
    clear l1 l2 g3 g4 hv hx NB
    obtain ⟨t7, ht7⟩ : ∃ t, t = w3.heap.size := ⟨_, rfl⟩
    rw [← ht7] at HT7 HT8 NB4 BT4
    go_wp2_with (first | (rw [← hW4]; try rw [← ht7]) | (refine rowG (by kernel_rfl) 32 (.tmp 5) rfl w1.heap.size rfl _ _ _ _ IB4.out rfl Try.underlying32 pst_size ?_) | (refine rowG (by kernel_rfl) 32 (.tmp 2) rfl w.heap.size rfl _ _ _ _ XB4.out rfl Try.underlying32 pst_size ?_))
    clear hW4 ht7
    refine (HSM.out _ _ _ NB4.out.1 b1 b2 k1 k2 W4O1.out.lst W4O2.out.lst).mono ?_
    rintro e w5 ⟨rfl, g5⟩
    have NB5 := hid (NB4.out.gr g5)
    have BT5 := hid (gr_blk BT4.out g5)
    have IB5 := hid (gr_blk IB4.out g5)
    have W5O1 := hid (W4O1.out.gr g5)
    have W5O2 := hid (W4O2.out.gr g5)
    clear g5
    go_wp2_with fail
    refine (lives_any _).mono ?_
    rintro e w6 ⟨rfl, g6⟩
    have NB6 := hid (NB5.out.gr g6)
    have BT6 := hid (gr_blk BT5.out g6)
    have IB6 := hid (gr_blk IB5.out g6)
    have W6O1 := hid (W5O1.out.gr g6)
    have W6O2 := hid (W5O2.out.gr g6)
    clear g6
    go_wp2_with (refine wpList_load_row rfl 32 (.tmp 5) rfl w1.heap.size rfl _ _ _ _ IB6.out Try.underlying32 rfl pst_size ?_)
    refine (spoil_any w6 A.heap.size q cN lN b1 xs.length k1 b2 ys.length k2 xs ys W6O1.out W6O2.out (by have := NB6.out.1.size; have := (K1.out); have := G1.out.size; exact Nat.le_trans (Nat.le_trans (show A.heap.size ≤ w1.heap.size by exact HAW.out) (Nat.le_of_lt HI2.out)) (Nat.le_trans HT8.out (Nat.le_of_lt (lt_of_block BT6.out)))) hx1 hy1).mono ?_
    rintro e w7 ⟨rfl, c7⟩
    have NB4 := hid (show Nb (Only t7) w w7 p x (.slice a1 n1 c1) (.slice a2 n2 c2) x from (NB6.out.st c7 (fun g e => .inr e) (fun g e => by
      have := GA.out.size
      rcases e with e | e
      · have := (K1.out g e).1; omega
      · have := (K2.out g e).1; omega)).add (fun g e => .inl (.inl e)))
    have BT4 := hid (ch_blk BT6.out c7 (fun e => by
      have := HT8.out
      have := HI2.out
      rcases e with e | e
      · have := (K1.out t7 e).2; omega
      · have := (K2.out t7 e).2; omega))
    clear c7 NB6 BT6 IB6 W6O1 W6O2 NB5 BT5 IB5 W5O1 W5O2 XB4 IB4 W4O1 W4O2 W2O1 W2O2 W1O1 W1O2 IB2 IB
    go_wp2_with fail
    go_loopg [10, 11] n (fun k ov i wr => ∃ (j : Nat) (x : Pt) (a1 : Option Addr) (n1 c1 : Nat) (a2 : Option Addr) (n2 c2 : Nat), j + k = n ∧ i = .int .i64 (j : Int) ∧ ov = .bool true ∧ Nb (Only t7) w wr p x (.slice a1 n1 c1) (.slice a2 n2 c2) x ∧ wr.heap[t7]? = some (.cells #[.bool x.q, .int .i64 (x.cap : Nat), .slice a1 n1 c1, .slice a2 n2 c2, .int .i64 (x.lost : Nat)] 32 (0, 0)))
    case atStart => exact ⟨0, x, a1, n1, c1, a2, n2, c2, by omega, rfl, rfl, NB4.out, BT4.out⟩
    case round =>
      clear NB4 BT4
      obtain ⟨j, x, a1, n1, c1, a2, n2, c2, hjk, rfl, rfl, hnb, hbt⟩ := hrel
      obtain ⟨Z, hZ⟩ : ∃ W, W = wr := ⟨_, rfl⟩
      subst hZ
      by_cases hj : j < n
      · have hj' : (j : Int) < (n : Int) := by omega
        have hj0 : (0 : Int) ≤ (j : Int) := by omega
        have hjl : j < axs.length := by rw [← HXL.out]; exact hj
        have hjx : axs[j]? = some axs[j] := List.getElem?_eq_getElem hjl
        generalize axs[j] = aj at hjx
        obtain ⟨g, o, cp, e1, _, hgl, hcap, hcx⟩ := HX.out.get eC_len hjx
        injection e1 with e1 e2 e3
        subst e1 e3
        have HJ := hid (show ∀ W, Gr w W → W.cell? ⟨g, o + j * 2, none⟩ = some (.int .i64 aj.k) ∧ W.cell? ⟨g, o + j * 2 + 1, none⟩ = some (.int .i64 aj.v) ∧ g < W.heap.size from fun W k => ⟨(k.cell hgl).trans (hcx 0 _ rfl), (k.cell hgl).trans (hcx 1 _ rfl), Nat.lt_of_lt_of_le hgl k.size⟩)
        have hcn : n ≤ ca := by rw [HXL.out]; exact hcap
        have hS0 : Gr w Z.drew := hnb.1.drew
        have BT0 := hid (show Z.drew.heap[t7]? = some (.cells #[.bool x.q, .int .i64 (x.cap : Nat), .slice a1 n1 c1, .slice a2 n2 c2, .int .i64 (x.lost : Nat)] 32 (0, 0)) from hbt)
        have NB0 := hid (show Nb (Only t7) w Z.drew p x (.slice a1 n1 c1) (.slice a2 n2 c2) x from hnb.gr (Ch.drew (Gr.refl Z)))
        have HT0 := hid (show ∀ g, Only t7 g → g < Z.drew.heap.size from fun g e => by have e1 : g = t7 := e; rw [e1]; exact lt_of_block hbt)
        clear hjx hgl hcap hcx e2 hnb hbt
        go_wp2_with fail
        refine wp_region_held_drew (S := Gr w) (by kernel_rfl) (by exact hS0) (fun _ => ?_)
        generalize World.drew Z = V0 at hS0 BT0 NB0 HT0 ⊢
        refine takeS_on (i := 0) 56 (v := ?hv1) rfl rfl (by kernel_rfl) (by kernel_rfl) (by kernel_rfl) (fun _ _ _ h => h) (by kernel_rfl) ?hh1 (by exact hS0) ?_
        case hh1 => (intro w' hSw; go_simp; try (with_reducible rfl))
        simp only [Act.put, List.setIfInBounds_toArray, List.set_cons_zero, List.set_cons_succ]
        refine takeS_on (i := 2) 58 (v := ?hv2) rfl rfl (by kernel_rfl) (by kernel_rfl) (by kernel_rfl) (fun _ _ _ h => h) (by kernel_rfl) ?hh2 (by exact hS0) ?_
        case hh2 => (intro w' hSw; go_simp; try (with_reducible rfl))
        simp only [Act.put, List.setIfInBounds_toArray, List.set_cons_zero, List.set_cons_succ]
        refine takeS_on (i := 3) 59 (v := ?hv3) rfl rfl (by kernel_rfl) (by kernel_rfl) (by kernel_rfl) (fun _ _ _ h => h) (by kernel_rfl) ?hh3 (by exact hS0) ?_
        case hh3 => (intro w' hSw; go_simp; try (with_reducible rfl))
        simp only [Act.put, List.setIfInBounds_toArray, List.set_cons_zero, List.set_cons_succ]
        refine takeS_on (i := 4) 60 (v := ?hv4) rfl rfl (by kernel_rfl) (by kernel_rfl) (by kernel_rfl) (fun _ _ _ h => h) (by kernel_rfl) ?hh4 (by exact hS0) ?_
        case hh4 => (intro w' hSw; go_simp; try (with_reducible rfl))
        simp only [Act.put, List.setIfInBounds_toArray, List.set_cons_zero, List.set_cons_succ]
        refine takeS_on (i := 5) 61 (v := ?hv5) rfl rfl (by kernel_rfl) (by kernel_rfl) (by kernel_rfl) (fun _ _ _ h => h) (by kernel_rfl) ?hh5 (by exact hS0) ?_
        case hh5 => (intro w' hSw; obtain ⟨q0, q1, ql⟩ := HJ.out _ hSw; go_simp; try (with_reducible rfl))
        simp only [Act.put, List.setIfInBounds_toArray, List.set_cons_zero, List.set_cons_succ]
        refine wpAnyH_ready (rs := [1]) (by kernel_rfl) (by simp) (AllReadyH.cons rfl (fun K hK => ?_) AllReadyH.nil)
        have z0 := cell_of BT0.out 0
        have z1 := cell_of BT0.out 1
        have z2 := cell_of BT0.out 2
        have z3 := cell_of BT0.out 3
        have z4 := cell_of BT0.out 4
        have zl := lt_of_block BT0.out
        simp at z0 z1 z2 z3 z4
        go_simp
        refine hK.out _ _ (by exact hS0) (fun _ => ?_)
        clear hK K
        refine wpAnyH_ready (rs := [6]) (by kernel_rfl) (by simp) (AllReadyH.cons rfl (fun K hK => ?_) AllReadyH.nil)
        go_simp
        refine (does_any aj NB0.out HT0.out).mono ?_
        rintro e w5 ⟨y1, y2, rfl, nb5, c5'⟩
        obtain ⟨y, hy⟩ : ∃ y, y = actP x aj := ⟨_, rfl⟩
        rw [← hy] at nb5 ⊢
        clear hy
        obtain ⟨a3, n3, c3, rfl⟩ : ∃ a n c, y1 = .slice a n c := by
          obtain ⟨_, _, _, T, _, _, l3, _⟩ := nb5
          obtain ⟨a, c, e⟩ := l3.form
          exact ⟨a, _, c, e⟩
        obtain ⟨a4, n4, c4, rfl⟩ : ∃ a n c, y2 = .slice a n c := by
          obtain ⟨_, _, _, T, _, _, _, l4⟩ := nb5
          obtain ⟨a, c, e⟩ := l4.form
          exact ⟨a, _, c, e⟩
        have hS5 := nb5.1
        have BT5 := hid (ch_blk BT0.out c5' (fun e => e rfl))
        have NB5 := hid nb5
        unfold stV
        clear nb5 c5'
        refine hK.out _ _ (by exact hS5) (fun _ => ?_)
        clear hK K
        refine takeS_on (i := 7) 55 (v := ?hv6) rfl rfl (by kernel_rfl) (by kernel_rfl) (by kernel_rfl) (fun _ _ _ h => h) (by kernel_rfl) ?hh6 (by exact hS5) ?_
        case hh6 => (intro w' hSw; go_simp; try (with_reducible rfl))
        simp only [Act.put, List.setIfInBounds_toArray, List.set_cons_zero, List.set_cons_succ]
        refine takeS_on (i := 8) 63 (v := ?hv7) rfl rfl (by kernel_rfl) (by kernel_rfl) (by kernel_rfl) (fun _ _ _ h => h) (by kernel_rfl) ?hh7 (by exact hS5) ?_
        case hh7 => (intro w' hSw; go_simp; try (with_reducible rfl))
        simp only [Act.put, List.setIfInBounds_toArray, List.set_cons_zero, List.set_cons_succ]
        refine takeS_on (i := 9) 64 (v := ?hv8) rfl rfl (by kernel_rfl) (by kernel_rfl) (by kernel_rfl) (fun _ _ _ h => h) (by kernel_rfl) ?hh8 (by exact hS5) ?_
        case hh8 => (intro w' hSw; go_simp; try (with_reducible rfl))
        simp only [Act.put, List.setIfInBounds_toArray, List.set_cons_zero, List.set_cons_succ]
        refine wpAnyH_ready (rs := [10]) (by kernel_rfl) (by simp) (AllReadyH.cons rfl (fun K hK => ?_) AllReadyH.nil)
        refine step_st_row rfl 32 (.tmp 8) (.tmp 63) rfl t7 #[.bool y.q, .int .i64 (y.cap : Nat), .slice a3 n3 c3, .slice a4 n4 c4, .int .i64 (y.lost : Nat)] rfl rfl _ _ BT5.out pst_size rfl (by simp [Value.oneCell']) ?_
        intro w8 b8 k8
        have BT8 := hid b8
        have NB8 := hid (NB5.out.st k8 (fun g e => e) (fun g e => by have e1 : g = t7 := e; have := HT7.out; omega))
        have hS8 := NB8.out.1
        clear b8 k8
        refine hK.out _ _ (by exact hS8) (fun _ => ?_)
        change wpAnyH _ _ _ _ _ _ _ (Act.put _ none _) _
        simp only [Act.put]
        clear hK K
        refine takeS_on (i := 11) 10 (v := ?hv9) rfl rfl (by kernel_rfl) (by kernel_rfl) (by kernel_rfl) (fun _ _ _ h => h) (by kernel_rfl) ?hh9 (by exact hS8) ?_
        case hh9 => (intro w' hSw; go_simp; try (with_reducible rfl))
        simp only [Act.put, List.setIfInBounds_toArray, List.set_cons_zero, List.set_cons_succ]
        refine wpAnyH_done (by kernel_rfl) ?_ _
        clear hS0 hS5 hS8
        go_wp2
        go_roundg (gk - 1)
        case measure => omega
        case rel =>
          refine ⟨j + 1, y, a3, n3, c3, a4, n4, c4, by omega, ?_, rfl, NB8.out, BT8.out⟩
          first | with_reducible rfl | simp
      · have hj' : ¬ ((j : Int) < (n : Int)) := by omega
        have NBZ := hid hnb
        have BTZ := hid hbt
        clear hnb hbt
        go_wp2_with fail
        refine (bstate NBZ.out).mono ?_
        rintro e wa ⟨ea, eb, rfl, oa1, oa2, nba, ga⟩
        obtain ⟨ea1, ec1, rfl⟩ := oa1.form
        obtain ⟨ea2, ec2, rfl⟩ := oa2.form
        have OA1 := hid oa1
        have OA2 := hid oa2
        have BTA := hid (gr_blk BTZ.out ga)
        have GA9 := hid ga
        unfold stV
        go_wp2_with fail
        refine (bstate nba).mono ?_
        rintro e wb ⟨fa, fb, rfl, ob1, ob2, nbb, gb⟩
        obtain ⟨fa1, fc1, rfl⟩ := ob1.form
        obtain ⟨fa2, fc2, rfl⟩ := ob2.form
        have OB1 := hid ob1
        have OB2 := hid ob2
        have BTB := hid (gr_blk BTA.out gb)
        have GB9 := hid gb
        -- a state's blocks may be spoilt
        have NBD := hid (show Nb (fun g => g = t7 ∨ Blk (.slice ea1 x.out.length ec1) g ∨ Blk (.slice ea2 x.inn.length ec2) g) w wb p x (.slice a1 n1 c1) (.slice a2 n2 c2) x from ((NBZ.out.add (B' := fun g => g = t7 ∨ Blk (.slice ea1 x.out.length ec1) g ∨ Blk (.slice ea2 x.inn.length ec2) g) (fun g e => e.elim .inl (fun e => .inr (e.elim (fun e => (OA1.out.blk e).1) (fun e => (OA2.out.blk e).1))))).gr ga).gr gb)
        have LXO := hid (show x.out.length ≤ 1048576 ∧ x.inn.length ≤ 1048576 from ⟨by have := NBZ.out.2.1.o; have := NBZ.out.2.1.c2; omega, by have := NBZ.out.2.1.i; have := NBZ.out.2.1.c2; omega⟩)
        unfold stV
        clear nba nbb oa1 oa2 ob1 ob2 ga gb
        obtain ⟨wZ, hWZ⟩ : ∃ W, W = (wb.alloc (.cells #[.bool x.q, .int .i64 (x.cap : Nat), .slice ea1 x.out.length ec1, .slice ea2 x.inn.length ec2, .int .i64 (x.lost : Nat)] 32)).alloc (.cells #[.bool x.q, .int .i64 (x.cap : Nat), .slice fa1 x.out.length fc1, .slice fa2 x.inn.length fc2, .int .i64 (x.lost : Nat)] 32) := ⟨_, rfl⟩
        have gZ : Gr wb wZ := by rw [hWZ]; exact Ch.alloc (Ch.alloc (Gr.refl _) _) _
        have RA := hid (show wZ.heap[wb.heap.size]? = some (.cells #[.bool x.q, .int .i64 (x.cap : Nat), .slice ea1 x.out.length ec1, .slice ea2 x.inn.length ec2, .int .i64 (x.lost : Nat)] 32 (0, 0)) by rw [hWZ]; exact al_blk (al_at _ rfl) _)
        have RB := hid (show wZ.heap[wb.heap.size + 1]? = some (.cells #[.bool x.q, .int .i64 (x.cap : Nat), .slice fa1 x.out.length fc1, .slice fa2 x.inn.length fc2, .int .i64 (x.lost : Nat)] 32 (0, 0)) by rw [hWZ]; exact al_at _ (by simp))
        have RT := hid (gr_blk BTB.out gZ)
        have ND1 := hid (NBD.out.gr gZ)
        have A1 := hid ((OA1.out.gr GB9.out).gr gZ)
        have A2 := hid ((OA2.out.gr GB9.out).gr gZ)
        have B1 := hid (OB1.out.gr gZ)
        have B2 := hid (OB2.out.gr gZ)
        have CSA := hid (bsame ND1.out A1.out.lst A2.out.lst)
        unfold stV at CSA
        clear gZ
        go_wp2_with (first | rw [← hWZ] | (refine wpList_load_row rfl 32 (.tmp 12) rfl wb.heap.size rfl _ _ _ _ RA.out Try.underlying32 rfl pst_size ?_) | (refine wpList_load_row rfl 32 (.tmp 8) rfl t7 rfl _ _ _ _ RT.out Try.underlying32 rfl pst_size ?_))
        clear hWZ
        refine CSA.out.mono ?_
        rintro e wc ⟨rfl, nbc, gc⟩
        have NDc := hid nbc
        have RAc := hid (gr_blk RA.out gc)
        have RBc := hid (gr_blk RB.out gc)
        have RTc := hid (gr_blk RT.out gc)
        have A1c := hid (A1.out.gr gc)
        have A2c := hid (A2.out.gr gc)
        have B1c := hid (B1.out.gr gc)
        have B2c := hid (B2.out.gr gc)
        have CSB := hid (bsame nbc B1c.out.lst B2c.out.lst)
        unfold stV at CSB
        clear nbc gc CSA RA RB RT A1 A2 B1 B2 ND1
        go_wp2_with (first | (refine rowG (by kernel_rfl) 32 (.tmp 13) rfl (wb.heap.size + 1) rfl _ _ _ _ RBc.out rfl Try.underlying32 pst_size ?_) | (refine rowG (by kernel_rfl) 32 (.tmp 8) rfl t7 rfl _ _ _ _ RTc.out rfl Try.underlying32 pst_size ?_))
        refine CSB.out.mono ?_
        rintro e wd ⟨rfl, nbd, gd⟩
        have NDd := hid nbd
        have RAd := hid (gr_blk RAc.out gd)
        have RBd := hid (gr_blk RBc.out gd)
        have RTd := hid (gr_blk RTc.out gd)
        have A1d := hid (A1c.out.gr gd)
        have A2d := hid (A2c.out.gr gd)
        have B1d := hid (B1c.out.gr gd)
        have B2d := hid (B2c.out.gr gd)
        clear nbd gd CSB RAc RBc RTc A1c A2c B1c B2c NDc
        go_wp2_with (refine wpList_load_row rfl 32 (.tmp 12) rfl wb.heap.size rfl _ _ _ _ RAd.out Try.underlying32 rfl pst_size ?_)
        refine (spoil_any wd Z.heap.size x.q (x.cap : Nat) (x.lost : Nat) ea1 x.out.length ec1 ea2 x.inn.length ec2 x.out x.inn A1d.out A2d.out (Nat.le_trans GA9.out.size (Nat.le_trans GB9.out.size (Nat.le_of_lt (lt_of_block RAd.out)))) LXO.out.1 LXO.out.2).mono ?_
        rintro e we ⟨rfl, c7⟩
        have HZW := hid (show w.heap.size ≤ Z.heap.size from NBZ.out.1.size)
        have HTZ := hid (lt_of_block BTZ.out)
        have HAB := hid (show wa.heap.size ≤ wb.heap.size from GB9.out.size)
        have NBE := hid (show Nb (Only t7) w we p x (.slice a1 n1 c1) (.slice a2 n2 c2) x from (NDd.out.st c7 (fun g e => .inr e) (fun g e => by
          have := HZW.out
          rcases e with e | e
          · have := (OA1.out.blk e).1; omega
          · have := (OA2.out.blk e).1; omega)).add (fun g e => .inl (.inl e)))
        have RTE := hid (ch_blk RTd.out c7 (fun e => by
          have := HTZ.out
          rcases e with e | e
          · have := (OA1.out.blk e).1; omega
          · have := (OA2.out.blk e).1; omega))
        have RBE := hid (ch_blk RBd.out c7 (fun e => by
          have := HAB.out
          rcases e with e | e
          · have := (OA1.out.blk e).2; omega
          · have := (OA2.out.blk e).2; omega))
        have LBE := hid (show Ls eI (fun _ => True) we (.slice fa1 x.out.length fc1) x.out ∧ Ls eG (fun _ => True) we (.slice fa2 x.inn.length fc2) x.inn from ⟨(B1d.out.ch c7 (fun g e k => by
          have h1 := (OB1.out.blk e).1
          rcases k with k | k
          · have := (OA1.out.blk k).2; omega
          · have := (OA2.out.blk k).2; omega)).lst.mono (fun _ _ _ => trivial), (B2d.out.ch c7 (fun g e k => by
          have h1 := (OB2.out.blk e).1
          rcases k with k | k
          · have := (OA1.out.blk k).2; omega
          · have := (OA2.out.blk k).2; omega)).lst.mono (fun _ _ _ => trivial)⟩)
        clear c7 RAd RBd RTd A1d A2d B1d B2d NDd NBD OA1 OA2 OB1 OB2 BTZ BTB BTA NBZ GA9 GB9 HTZ HZW HAB
        go_wp2_with fail
        have hS0 : we.drew.heap[t7]? = some (.cells #[.bool x.q, .int .i64 (x.cap : Nat), .slice a1 n1 c1, .slice a2 n2 c2, .int .i64 (x.lost : Nat)] 32 (0, 0)) ∧ we.drew.heap[wb.heap.size + 1]? = some (.cells #[.bool x.q, .int .i64 (x.cap : Nat), .slice fa1 x.out.length fc1, .slice fa2 x.inn.length fc2, .int .i64 (x.lost : Nat)] 32 (0, 0)) := ⟨RTE.out, RBE.out⟩
        have NB0 := hid (show Nb (Only t7) w we.drew p x (.slice a1 n1 c1) (.slice a2 n2 c2) x from NBE.out.gr (Ch.drew (Gr.refl we)))
        have LB0 := hid (show Ls eI (fun _ => True) we.drew (.slice fa1 x.out.length fc1) x.out ∧ Ls eG (fun _ => True) we.drew (.slice fa2 x.inn.length fc2) x.inn from LBE.out)
        clear RTE RBE NBE LBE
        refine wp_region_held_drew (S := fun V => V.heap[t7]? = some (.cells #[.bool x.q, .int .i64 (x.cap : Nat), .slice a1 n1 c1, .slice a2 n2 c2, .int .i64 (x.lost : Nat)] 32 (0, 0)) ∧ V.heap[wb.heap.size + 1]? = some (.cells #[.bool x.q, .int .i64 (x.cap : Nat), .slice fa1 x.out.length fc1, .slice fa2 x.inn.length fc2, .int .i64 (x.lost : Nat)] 32 (0, 0))) (by kernel_rfl) (by exact hS0) (fun _ => ?_)
        generalize World.drew we = V0 at hS0 NB0 LB0 ⊢
        refine takeS_on (i := 0) 83 (v := ?hv10) rfl rfl (by kernel_rfl) (by kernel_rfl) (by kernel_rfl) (fun _ _ _ h => h) (by kernel_rfl) ?hh10 (by exact hS0) ?_
        case hh10 => (intro w' hSw; obtain ⟨hq1, hq2⟩ := hSw; have z0 := cell_of hq1 0; have z1 := cell_of hq1 1; have z2 := cell_of hq1 2; have z3 := cell_of hq1 3; have z4 := cell_of hq1 4; have zl := lt_of_block hq1; simp at z0 z1 z2 z3 z4; have y0 := cell_of hq2 0; have y1 := cell_of hq2 1; have y2 := cell_of hq2 2; have y3 := cell_of hq2 3; have y4 := cell_of hq2 4; have yl := lt_of_block hq2; simp at y0 y1 y2 y3 y4; go_simp; try (with_reducible rfl))
        simp only [Act.put, List.setIfInBounds_toArray, List.set_cons_zero, List.set_cons_succ]
        refine takeS_on (i := 1) 84 (v := ?hv11) rfl rfl (by kernel_rfl) (by kernel_rfl) (by kernel_rfl) (fun _ _ _ h => h) (by kernel_rfl) ?hh11 (by exact hS0) ?_
        case hh11 => (intro w' hSw; obtain ⟨hq1, hq2⟩ := hSw; have z0 := cell_of hq1 0; have z1 := cell_of hq1 1; have z2 := cell_of hq1 2; have z3 := cell_of hq1 3; have z4 := cell_of hq1 4; have zl := lt_of_block hq1; simp at z0 z1 z2 z3 z4; have y0 := cell_of hq2 0; have y1 := cell_of hq2 1; have y2 := cell_of hq2 2; have y3 := cell_of hq2 3; have y4 := cell_of hq2 4; have yl := lt_of_block hq2; simp at y0 y1 y2 y3 y4; go_simp; try (with_reducible rfl))
        simp only [Act.put, List.setIfInBounds_toArray, List.set_cons_zero, List.set_cons_succ]
        refine wpAnyH_ready (rs := [2]) (by kernel_rfl) (by simp) (AllReadyH.cons rfl (fun K hK => ?_) AllReadyH.nil)
        have CS3 := hid (bsame NB0.out LB0.out.1 LB0.out.2)
        unfold stV at CS3
        go_simp
        refine CS3.out.mono ?_
        rintro e w4 ⟨rfl, nb4, g4⟩
        have hS4 : _ ∧ _ := ⟨gr_blk hS0.1 g4, gr_blk hS0.2 g4⟩
        have NB4 := hid nb4
        clear nb4 g4 CS3
        refine hK.out _ _ (by exact hS4) (fun _ => ?_)
        clear hK K
        refine takeS_on (i := 3) 86 (v := ?hv12) rfl rfl (by kernel_rfl) (by kernel_rfl) (by kernel_rfl) (fun _ _ _ h => h) (by kernel_rfl) ?hh12 (by exact hS4) ?_
        case hh12 => (intro w' hSw; go_simp; try (with_reducible rfl))
        simp only [Act.put, List.setIfInBounds_toArray, List.set_cons_zero, List.set_cons_succ]
        refine takeS_on (i := 4) 87 (v := ?hv13) rfl rfl (by kernel_rfl) (by kernel_rfl) (by kernel_rfl) (fun _ _ _ h => h) (by kernel_rfl) ?hh13 (by exact hS4) ?_
        case hh13 => (intro w' hSw; go_simp; try (with_reducible rfl))
        simp only [Act.put, List.setIfInBounds_toArray, List.set_cons_zero, List.set_cons_succ]
        refine takeS_on (i := 6) 89 (v := ?hv14) rfl rfl (by kernel_rfl) (by kernel_rfl) (by kernel_rfl) (fun _ _ _ h => h) (by kernel_rfl) ?hh14 (by exact hS4) ?_
        case hh14 => (intro w' hSw; obtain ⟨hq1, hq2⟩ := hSw; have z0 := cell_of hq1 0; have z1 := cell_of hq1 1; have z2 := cell_of hq1 2; have z3 := cell_of hq1 3; have z4 := cell_of hq1 4; have zl := lt_of_block hq1; simp at z0 z1 z2 z3 z4; have y0 := cell_of hq2 0; have y1 := cell_of hq2 1; have y2 := cell_of hq2 2; have y3 := cell_of hq2 3; have y4 := cell_of hq2 4; have yl := lt_of_block hq2; simp at y0 y1 y2 y3 y4; go_simp; try (with_reducible rfl))
        simp only [Act.put, List.setIfInBounds_toArray, List.set_cons_zero, List.set_cons_succ]
        refine wpAnyH_ready (rs := [5]) (by kernel_rfl) (by simp) (AllReadyH.cons rfl (fun K hK => ?_) AllReadyH.nil)
        go_simp
        refine (bstate NB4.out).mono ?_
        rintro e w5 ⟨u1, u2, rfl, o1, o2, nb5, g5⟩
        obtain ⟨a3, c3, rfl⟩ := o1.form
        obtain ⟨a4, c4, rfl⟩ := o2.form
        have hS5 : _ ∧ _ := ⟨gr_blk hS4.1 g5, gr_blk hS4.2 g5⟩
        have CSM := hid (bsame nb5 o1.lst o2.lst)
        unfold stV at CSM
        unfold stV
        clear o1 o2 nb5 g5
        refine hK.out _ _ (by exact hS5) (fun _ => ?_)
        clear hK K
        refine wpAnyH_ready (rs := [7]) (by kernel_rfl) (by simp) (AllReadyH.cons rfl (fun K hK => ?_) AllReadyH.nil)
        go_simp
        refine CSM.out.mono ?_
        rintro e w6 ⟨rfl, nb6, g6⟩
        have hS6 : _ ∧ _ := ⟨gr_blk hS5.1 g6, gr_blk hS5.2 g6⟩
        have GW6 := hid nb6.1
        clear nb6 g6
        refine hK.out _ _ (by exact hS6) (fun _ => ?_)
        clear hK K
        refine takeS_on (i := 8) 91 (v := ?hv15) rfl rfl (by kernel_rfl) (by kernel_rfl) (by kernel_rfl) (fun _ _ _ h => h) (by kernel_rfl) ?hh15 (by exact hS6) ?_
        case hh15 => (intro w' hSw; go_simp; try (with_reducible rfl))
        simp only [Act.put, List.setIfInBounds_toArray, List.set_cons_zero, List.set_cons_succ]
        refine takeS_on (i := 9) 4 (v := ?hv16) rfl rfl (by kernel_rfl) (by kernel_rfl) (by kernel_rfl) (fun _ _ _ h => h) (by kernel_rfl) ?hh16 (by exact hS6) ?_
        case hh16 => (intro w' hSw; go_simp; try (with_reducible rfl))
        simp only [Act.put, List.setIfInBounds_toArray, List.set_cons_zero, List.set_cons_succ]
        refine wpAnyH_done (by kernel_rfl) ?_ _
        clear hS0 hS4 hS5 hS6
        go_wp2
        go_ret
        exact ⟨rfl, GW6.out⟩
end Go.Proofs.Ytnpbehcfbceclaa.Lt
