/-
  PolicyLeast, walked: whatever set is closed and has a domain has all to which a path leads from it. Condition: the list is not too long.
-/
import Derived.Test.YtcoaefojamhloaaPyLives
import Derived.Test.YtcoaefojamhloaaPyFact
import Derived.Test.YtcoaefojamhloaaPyAbv
namespace Go.Proofs.Ytcoaefojamhloaa.Lt
open Go.RowKit Wd
attribute [local go_sem ↓] Go.wp_at_zero Go.wp_at_succ
set_option maxRecDepth 20000

def setS (s : St) (k : Nat) (b : Bool) : St := fun i => if i = k then b else s i
theorem bl_setB {n k : Nat} {s : St} (b : Bool) (h : k < n) : (bl n s).set k b = bl n (setS s k b) := by
  refine List.ext_getElem? fun i => ?_
  by_cases hi : i < n
  · rw [bl_get _ hi, List.getElem?_set]
    by_cases e : k = i
    · subst e
      rw [if_pos rfl, if_pos (by rw [bl_len]; exact h)]
      simp [setS]
    · rw [if_neg e, bl_get _ hi]
      have : i ≠ k := fun q => e q.symm
      simp [setS, this]
  · rw [List.getElem?_eq_none (by rw [List.length_set, bl_len]; omega), List.getElem?_eq_none (by rw [bl_len]; omega)]
theorem Bs.put {base g n : Nat} {w : World} {s : St} (h : Bs base w g n s) {i : Nat} (hi : i < n) (b : Bool) : Bs base (w.setCell ⟨g, i, none⟩ (.bool b)) g n (setS s i b) := by
  have := (Ow.bit h (bl_get s hi)).2.2.2 b
  rw [bl_setB b hi] at this
  exact this
theorem bo_at {w : World} {P : Nat → Prop} {ao : Option Addr} {n cap : Nat} {xs : List Bool} (h : Ls eB P w (.slice ao n cap) xs) {i : Nat} {x : Bool} (hi : xs[i]? = some x) :
    ∃ g o, ao = some ⟨g, o, none⟩ ∧ g < w.heap.size ∧ n ≤ cap ∧ w.cell? ⟨g, o + i, none⟩ = some (.bool x) := by
  obtain ⟨g, o, cp, e, _, hg, hc, hx⟩ := h.get eB_len hi
  injection e with e1 e2 e3
  have h0 := hx 0 _ rfl
  rw [Nat.add_zero, Nat.mul_one] at h0
  exact ⟨g, o, e1, hg, by omega, h0⟩
set_option maxHeartbeats 16000000 in
theorem least_walk (w : World) (n : Int) (a : Option Addr) (m c : Nat) (l : List Eg) (h : Le w (.slice a m c) l) (hm : m ≤ 8796093022208) (_hn : -9223372036854775808 ≤ n ∧ n ≤ 9223372036854775807) (x : Int) (_hx : -9223372036854775808 ≤ x ∧ x ≤ 9223372036854775807) (sa : Option Addr) (sn sc : Nat) (ss : List Bool) (hs : Ls eB AnyB w (.slice sa sn sc) ss) :
    Calls Try.prog 7 #[.agg #[.int .i64 n, .slice a m c], .int .i64 x, .slice sa sn sc] w fun e w' => e = .returned (.bool true) ∧ Gr w w' := by
  obtain ⟨A, hA⟩ : ∃ A, A = w.alloc (.cells #[.int .i64 n, .slice a m c] 24) := ⟨_, rfl⟩
  have HB := hide (show ∀ W, Gr A W → W.cell? ⟨w.heap.size, 0, none⟩ = some (.int .i64 n) ∧ W.cell? ⟨w.heap.size, 1, none⟩ = some (.slice a m c) ∧ w.heap.size < W.heap.size ∧ Gr w W from fun W g => box2 (by rw [hA] at g; exact g))
  have CE := hide (fun W (g : Gr w W) => edges_any W AnyB a m c l (h.gr g) hm)
  have CR := hide (fun W (g : Gr w W) => rcheck_any W n a m c l (h.gr g) hm)
  have HL := hide h
  have HM := hide (show m = l.length from h.len.1)
  have HSL := hide hs
  have HSM := hide (show sn = ss.length from hs.len.1)
  unfold chkE at CR
  clear hs
  by_cases h0 : (chkP n l).2 = 0
  · have HT := True.intro
    obtain ⟨n1, n2, ok, -⟩ := chkP_ok h0
    rw [h0] at CR
    generalize (chkP n l).1 = place at CR
    obtain ⟨N, rfl⟩ : ∃ N : Nat, n = (N : Int) := ⟨n.toNat, by omega⟩
    have hN1 : 1 ≤ N := by omega
    have hN2 : N ≤ 16 := by omega
    have CP := hide (show ∀ W ao cap, Le W (.slice ao m cap) l → ∀ X Y : Nat, X < N → Y < N → Calls Try.prog 15 #[.int .i64 (N : Int), .slice ao m cap, .int .i64 (X : Int), .int .i64 (Y : Int)] W fun e w' => e = .returned (.tuple #[.bool (pthR N l X Y), .int .i64 0]) ∧ Gr W w' from fun W ao cap k X Y hX hY => (path_any W N ao m cap l k hm X Y).mono fun e w' q => ⟨q.1.trans (pthE_ok hN1 hN2 ok hX hY), q.2⟩)
    have HCL := hide (show ∀ s X d, X < N → s X = true → pthR N l X d = true → itS l N s d = true from fun s X d h1 h2 h3 => cl_pth ok h1 h2 h3)
    have HO := hide ok
    obtain ⟨u1, X, m1, p1, q1, o1, hX⟩ := mod_way x N (by omega) hN2
    have hNi : ¬ ((N : Int) = 0) := by omega
    have hNn : ¬ (N = 0) := by omega
    have hNp : (N : Int) ≤ 16 := by omega
    have hN0 : (1 : Int) ≤ (N : Int) := by omega
    have x0 : (0 : Int) ≤ (X : Int) := by omega
    have x1 : (X : Int) < (N : Int) := by omega
    have HB0 := hide (show (List.replicate N false)[X]? = some false by rw [List.getElem?_replicate, if_pos hX])
    generalize pthR N l = r at *
    clear h h0 ok n1 n2 _hn
    go_enter Try.func7, Try.ntmps7
    go_wp2_with fail
    rw [← hA]
    clear hA
    obtain ⟨b0, b1, bl9, gw⟩ := HB.out _ (Gr.refl _)
    go_wp2_with fail
    refine (CR.out _ gw).mono ?_
    rintro e w1 ⟨rfl, g1⟩
    clear b0 b1 bl9 gw
    obtain ⟨b0, b1, bl9, gw⟩ := HB.out _ g1
    have G1 := hide g1
    clear g1
    go_wp2_with (at_make; refine wpList_make_bools rfl _ _ rfl N _ _ rfl rfl (by omega) ?_; intro w2 o2 g2; obtain ⟨c1, z1, l1, s1⟩ := o2.bit HB0.out; have S1 := hide (s1 true); have G2 := hide (Gr.trans G1.out g2); clear o2 g2 s1 b0 b1 bl9 gw)
    have SZ := hide G1.out.size
    have SS := hide (show Bs w1.heap.size (w2.setCell ⟨w1.heap.size, X, none⟩ (.bool true)) w1.heap.size N (sgl X) by
      have := S1.out
      rw [bl_zero, bl_set hX, upS_zero] at this
      exact this)
    have GG := hide (show Gr A (w2.setCell ⟨w1.heap.size, X, none⟩ (.bool true)) from Ch.fresh G2.out SZ.out X (.bool true))
    generalize w2.setCell ⟨w1.heap.size, X, none⟩ (.bool true) = W1 at *
    clear S1 G2 c1 z1 l1 HB0 m1 p1 q1 o1 _hx HT
    go_loopg [13] N (fun k i wr => ∃ (j : Nat) (s : St), j + k = N ∧ i = .int .i64 (j : Int) ∧ s X = true ∧ Bs w1.heap.size wr w1.heap.size N s ∧ Gr A wr)
    case atStart => exact ⟨0, _, by omega, rfl, by simp [sgl], SS.out, GG.out⟩
    case round =>
      obtain ⟨j, s, hjk, rfl, hsX, hb, hg⟩ := hrel
      have HB1 := hide hb
      have G := hide hg
      have HSX := hide hsX
      clear hb hg hsX
      by_cases hj : j < N ∧ j < sn
      · have hj' : (j : Int) < (N : Int) := by omega
        have hjs : (j : Int) < (sn : Int) := by omega
        have hj0 : (0 : Int) ≤ (j : Int) := by omega
        have hj16 : (j : Int) < 16 := by omega
        have hjx : ss[j]? = some (ss[j]'(by rw [← HSM.out]; exact hj.2)) := List.getElem?_eq_getElem _
        generalize ss[j]'(by rw [← HSM.out]; exact hj.2) = y at hjx
        obtain ⟨g, o, rfl, gl, gc, y0⟩ := bo_at (HSL.out.gr (HB.out _ G.out).2.2.2) hjx
        obtain ⟨d0, dz, dl, -⟩ := HB1.out.bit hj.1
        have D := hide (fun b => HB1.out.put hj.1 b)
        have hjN := hj.1
        clear hjx hj
        cases hsj : s j
        · rw [hsj] at d0
          have HX2 : Hid (setS s j y X = true) := hide (by
            unfold setS
            by_cases e : X = j
            · rw [e, hsj] at HSX; exact absurd HSX.out (by decide)
            · rw [if_neg e]; exact HSX.out)
          go_wp2
          go_roundg (N - (j + 1))
          case measure => omega
          case rel =>
            refine ⟨j + 1, _, by omega, ?_, HX2.out, D.out y, Ch.fresh G.out SZ.out _ _⟩
            first | with_reducible rfl | simp
        · rw [hsj] at d0
          have HX2 : Hid (setS s j true X = true) := hide (by
            unfold setS
            split
            · rfl
            · exact HSX.out)
          go_wp2
          go_roundg (N - (j + 1))
          case measure => omega
          case rel =>
            refine ⟨j + 1, _, by omega, ?_, HX2.out, D.out true, Ch.fresh G.out SZ.out _ _⟩
            first | with_reducible rfl | simp
      · have HE := hide hj
        have hj0 : (0 : Int) ≤ (j : Int) := by omega
        have HSTART := hide (show itS l 0 s = s from rfl)
        by_cases hjN : j < N
        · have hj' : (j : Int) < (N : Int) := by omega
          have hjs : ¬ ((j : Int) < (sn : Int)) := by omega
          clear hj
          go_wp2_with fail
          go_loopg [14] N (fun k i wr => ∃ (q : Nat), q + k = N ∧ i = .int .i64 (q : Int) ∧ Bs w1.heap.size wr w1.heap.size N (itS l q s) ∧ Gr A wr)
          case atStart => exact ⟨0, by omega, rfl, by rw [HSTART.out]; exact HB1.out, G.out⟩
          case round =>
            obtain ⟨q, hqk, rfl, hb, hg⟩ := hrel
            have HBq := hide hb
            have Gq := hide hg
            clear hb hg
            by_cases hq : q < N
            · have hq' : (q : Int) < (N : Int) := by omega
              have hq0 : (0 : Int) ≤ (q : Int) := by omega
              have hq16 : (q : Int) < 16 := by omega
              go_wp2_with fail
              go_loopg [15] m (fun k i wr => ∃ (v : Nat), v + k = m ∧ i = .int .i64 (v : Int) ∧ Bs w1.heap.size wr w1.heap.size N ((l.take v).foldl stS (itS l q s)) ∧ Gr A wr)
              case atStart => exact ⟨0, by omega, rfl, by rw [List.take_zero]; exact HBq.out, Gq.out⟩
              case round =>
                obtain ⟨v, hvk, rfl, hb, hg⟩ := hrel
                have HBv := hide hb
                have Gv := hide hg
                obtain ⟨b0, b1, bl9, gw⟩ := HB.out _ hg
                by_cases hv : v < m
                · have hv' : (v : Int) < (m : Int) := by omega
                  have hv0 : (0 : Int) ≤ (v : Int) := by omega
                  have hvm : (v : Int) < 8796093022208 := by omega
                  have hvl : v < l.length := by rw [← HM.out]; exact hv
                  have hvx : l[v]? = some l[v] := List.getElem?_eq_getElem hvl
                  have HT := hide (rnd_step (s := itS l q s) hvx)
                  have ho := egB_iff.1 (HO.out l[v] (List.getElem_mem hvl))
                  obtain ⟨g, o, ea, gl, gc, y0, y1⟩ := eg_at (HL.out.gr gw) hvx
                  rw [ea] at b1
                  generalize l[v] = y at *
                  obtain ⟨yf, yt⟩ := y
                  simp only at ho y0 y1
                  obtain ⟨f, rfl⟩ : ∃ f : Nat, yf = (f : Int) := ⟨yf.toNat, by omega⟩
                  obtain ⟨t, rfl⟩ : ∃ t : Nat, yt = (t : Int) := ⟨yt.toNat, by omega⟩
                  have f0 : (0 : Int) ≤ (f : Int) := by omega
                  have f1 : (f : Int) < (N : Int) := by omega
                  have t0 : (0 : Int) ≤ (t : Int) := by omega
                  have t1 : (t : Int) < (N : Int) := by omega
                  generalize (l.take v).foldl stS (itS l q s) = sv at *
                  obtain ⟨c0, -, cz, -⟩ := hb.bit (i := f) (by omega)
                  obtain ⟨d0, dz, -, dn⟩ := hb.bit (i := t) (by omega)
                  have DN := hide dn
                  have hls : (sv f = true → stS sv ⟨(f : Int), (t : Int)⟩ = upS sv t) ∧ (sv f = false → stS sv ⟨(f : Int), (t : Int)⟩ = sv) := by
                    refine ⟨fun e => ?_, fun e => ?_⟩
                    · exact if_pos e
                    · exact if_neg (by rw [show (⟨(f : Int), (t : Int)⟩ : Eg).f.toNat = f from rfl, e]; decide)
                  have HLS := hide hls
                  generalize sv t = old at d0
                  clear hb hg ho hvx hvl dn hls gw ea
                  cases hsf : sv f
                  · have HN := hide (show (l.take (v + 1)).foldl stS (itS l q s) = sv by rw [HT.out]; exact HLS.out.2 hsf)
                    rw [hsf] at c0
                    clear HLS HT
                    go_wp2
                    go_roundg (m - (v + 1))
                    case measure => omega
                    case rel =>
                      refine ⟨v + 1, by omega, ?_, by rw [HN.out]; exact HBv.out, Gv.out⟩
                      first | with_reducible rfl | simp
                  · have HN := hide (show (l.take (v + 1)).foldl stS (itS l q s) = upS sv t by rw [HT.out]; exact HLS.out.1 hsf)
                    rw [hsf] at c0
                    clear HLS HT
                    go_wp2
                    go_roundg (m - (v + 1))
                    case measure => omega
                    case rel =>
                      refine ⟨v + 1, by omega, ?_, by rw [HN.out]; exact DN.out, Ch.fresh Gv.out SZ.out t (.bool true)⟩
                      first | with_reducible rfl | simp
                · have hv' : ¬ ((v : Int) < (m : Int)) := by omega
                  have HN := hide (show (l.take v).foldl stS (itS l q s) = itS l (q + 1) s by
                    rw [List.take_of_length_le (by rw [← HM.out]; omega)]
                    rfl)
                  clear hb hg gw
                  go_wp2
                  go_roundg (N - (q + 1))
                  case measure => omega
                  case rel =>
                    refine ⟨q + 1, by omega, ?_, by rw [← HN.out]; exact HBv.out, Gv.out⟩
                    first | with_reducible rfl | simp
            · have hq' : ¬ ((q : Int) < (N : Int)) := by omega
              have hqe : q = N := by omega
              subst hqe
              have HIN := hide (fun d => HCL.out s X d hX HSX.out)
              go_wp2_with fail
              go_loopg [16] q (fun k i wr => ∃ (d : Nat), d + k = q ∧ i = .int .i64 (d : Int) ∧ Gr A wr ∧ Bs w1.heap.size wr w1.heap.size q (itS l q s))
              case atStart => exact ⟨0, by omega, rfl, Gq.out, HBq.out⟩
              case round =>
                obtain ⟨d, hdk, rfl, hg, hb⟩ := hrel
                have HBd := hide hb
                have Gd := hide hg
                obtain ⟨b0, b1, bl9, gw⟩ := HB.out _ hg
                have GW := hide gw
                by_cases hd : d < q
                · have hd' : (d : Int) < (q : Int) := by omega
                  have hd0 : (0 : Int) ≤ (d : Int) := by omega
                  have hd16 : (d : Int) < 16 := by omega
                  clear hb hg gw
                  go_wp2_with fail
                  refine (CE.out _ GW.out).mono ?_
                  rintro e w5 ⟨ao, cap, rfl, ow, g5⟩
                  have LA := hide (ow.lst.mono (fun _ _ _ => AnyB.it _) : Le w5 (.slice ao m cap) l)
                  have G5 := hide (Gr.trans Gd.out g5)
                  have HB5 := hide (HBd.out.gr g5)
                  clear g5 ow b0 b1 bl9
                  go_wp2_with fail
                  refine (CP.out _ ao cap LA.out X d hX hd).mono ?_
                  rintro e w6 ⟨rfl, g6⟩
                  have G6 := hide (Gr.trans G5.out g6)
                  have HB6 := hide (HB5.out.gr g6)
                  clear g6
                  cases hp : r X d
                  · go_wp2
                    go_roundg (q - (d + 1))
                    case measure => omega
                    case rel =>
                      refine ⟨d + 1, by omega, ?_, G6.out, HB6.out⟩
                      first | with_reducible rfl | simp
                  · obtain ⟨c0, -, cz, -⟩ := HB6.out.bit hd
                    rw [HIN.out d hp] at c0
                    go_wp2
                    go_roundg (q - (d + 1))
                    case measure => omega
                    case rel =>
                      refine ⟨d + 1, by omega, ?_, G6.out, HB6.out⟩
                      first | with_reducible rfl | simp
                · have hd' : ¬ ((d : Int) < (q : Int)) := by omega
                  clear hb hg gw b0 b1 bl9
                  go_wp2_with fail
                  refine (lives_any _).mono ?_
                  rintro e w7 ⟨rfl, g7⟩
                  have G7 := hide (Gr.trans GW.out g7)
                  clear g7
                  go_wp2
                  go_ret
                  exact ⟨rfl, G7.out⟩
        · have hj' : ¬ ((j : Int) < (N : Int)) := by omega
          clear hj
          go_wp2_with fail
          go_loopg [14] N (fun k i wr => ∃ (q : Nat), q + k = N ∧ i = .int .i64 (q : Int) ∧ Bs w1.heap.size wr w1.heap.size N (itS l q s) ∧ Gr A wr)
          case atStart => exact ⟨0, by omega, rfl, by rw [HSTART.out]; exact HB1.out, G.out⟩
          case round =>
            obtain ⟨q, hqk, rfl, hb, hg⟩ := hrel
            have HBq := hide hb
            have Gq := hide hg
            clear hb hg
            by_cases hq : q < N
            · have hq' : (q : Int) < (N : Int) := by omega
              have hq0 : (0 : Int) ≤ (q : Int) := by omega
              have hq16 : (q : Int) < 16 := by omega
              go_wp2_with fail
              go_loopg [15] m (fun k i wr => ∃ (v : Nat), v + k = m ∧ i = .int .i64 (v : Int) ∧ Bs w1.heap.size wr w1.heap.size N ((l.take v).foldl stS (itS l q s)) ∧ Gr A wr)
              case atStart => exact ⟨0, by omega, rfl, by rw [List.take_zero]; exact HBq.out, Gq.out⟩
              case round =>
                obtain ⟨v, hvk, rfl, hb, hg⟩ := hrel
                have HBv := hide hb
                have Gv := hide hg
                obtain ⟨b0, b1, bl9, gw⟩ := HB.out _ hg
                by_cases hv : v < m
                · have hv' : (v : Int) < (m : Int) := by omega
                  have hv0 : (0 : Int) ≤ (v : Int) := by omega
                  have hvm : (v : Int) < 8796093022208 := by omega
                  have hvl : v < l.length := by rw [← HM.out]; exact hv
                  have hvx : l[v]? = some l[v] := List.getElem?_eq_getElem hvl
                  have HT := hide (rnd_step (s := itS l q s) hvx)
                  have ho := egB_iff.1 (HO.out l[v] (List.getElem_mem hvl))
                  obtain ⟨g, o, ea, gl, gc, y0, y1⟩ := eg_at (HL.out.gr gw) hvx
                  rw [ea] at b1
                  generalize l[v] = y at *
                  obtain ⟨yf, yt⟩ := y
                  simp only at ho y0 y1
                  obtain ⟨f, rfl⟩ : ∃ f : Nat, yf = (f : Int) := ⟨yf.toNat, by omega⟩
                  obtain ⟨t, rfl⟩ : ∃ t : Nat, yt = (t : Int) := ⟨yt.toNat, by omega⟩
                  have f0 : (0 : Int) ≤ (f : Int) := by omega
                  have f1 : (f : Int) < (N : Int) := by omega
                  have t0 : (0 : Int) ≤ (t : Int) := by omega
                  have t1 : (t : Int) < (N : Int) := by omega
                  generalize (l.take v).foldl stS (itS l q s) = sv at *
                  obtain ⟨c0, -, cz, -⟩ := hb.bit (i := f) (by omega)
                  obtain ⟨d0, dz, -, dn⟩ := hb.bit (i := t) (by omega)
                  have DN := hide dn
                  have hls : (sv f = true → stS sv ⟨(f : Int), (t : Int)⟩ = upS sv t) ∧ (sv f = false → stS sv ⟨(f : Int), (t : Int)⟩ = sv) := by
                    refine ⟨fun e => ?_, fun e => ?_⟩
                    · exact if_pos e
                    · exact if_neg (by rw [show (⟨(f : Int), (t : Int)⟩ : Eg).f.toNat = f from rfl, e]; decide)
                  have HLS := hide hls
                  generalize sv t = old at d0
                  clear hb hg ho hvx hvl dn hls gw ea
                  cases hsf : sv f
                  · have HN := hide (show (l.take (v + 1)).foldl stS (itS l q s) = sv by rw [HT.out]; exact HLS.out.2 hsf)
                    rw [hsf] at c0
                    clear HLS HT
                    go_wp2
                    go_roundg (m - (v + 1))
                    case measure => omega
                    case rel =>
                      refine ⟨v + 1, by omega, ?_, by rw [HN.out]; exact HBv.out, Gv.out⟩
                      first | with_reducible rfl | simp
                  · have HN := hide (show (l.take (v + 1)).foldl stS (itS l q s) = upS sv t by rw [HT.out]; exact HLS.out.1 hsf)
                    rw [hsf] at c0
                    clear HLS HT
                    go_wp2
                    go_roundg (m - (v + 1))
                    case measure => omega
                    case rel =>
                      refine ⟨v + 1, by omega, ?_, by rw [HN.out]; exact DN.out, Ch.fresh Gv.out SZ.out t (.bool true)⟩
                      first | with_reducible rfl | simp
                · have hv' : ¬ ((v : Int) < (m : Int)) := by omega
                  have HN := hide (show (l.take v).foldl stS (itS l q s) = itS l (q + 1) s by
                    rw [List.take_of_length_le (by rw [← HM.out]; omega)]
                    rfl)
                  clear hb hg gw
                  go_wp2
                  go_roundg (N - (q + 1))
                  case measure => omega
                  case rel =>
                    refine ⟨q + 1, by omega, ?_, by rw [← HN.out]; exact HBv.out, Gv.out⟩
                    first | with_reducible rfl | simp
            · have hq' : ¬ ((q : Int) < (N : Int)) := by omega
              have hqe : q = N := by omega
              subst hqe
              have HIN := hide (fun d => HCL.out s X d hX HSX.out)
              go_wp2_with fail
              go_loopg [16] q (fun k i wr => ∃ (d : Nat), d + k = q ∧ i = .int .i64 (d : Int) ∧ Gr A wr ∧ Bs w1.heap.size wr w1.heap.size q (itS l q s))
              case atStart => exact ⟨0, by omega, rfl, Gq.out, HBq.out⟩
              case round =>
                obtain ⟨d, hdk, rfl, hg, hb⟩ := hrel
                have HBd := hide hb
                have Gd := hide hg
                obtain ⟨b0, b1, bl9, gw⟩ := HB.out _ hg
                have GW := hide gw
                by_cases hd : d < q
                · have hd' : (d : Int) < (q : Int) := by omega
                  have hd0 : (0 : Int) ≤ (d : Int) := by omega
                  have hd16 : (d : Int) < 16 := by omega
                  clear hb hg gw
                  go_wp2_with fail
                  refine (CE.out _ GW.out).mono ?_
                  rintro e w5 ⟨ao, cap, rfl, ow, g5⟩
                  have LA := hide (ow.lst.mono (fun _ _ _ => AnyB.it _) : Le w5 (.slice ao m cap) l)
                  have G5 := hide (Gr.trans Gd.out g5)
                  have HB5 := hide (HBd.out.gr g5)
                  clear g5 ow b0 b1 bl9
                  go_wp2_with fail
                  refine (CP.out _ ao cap LA.out X d hX hd).mono ?_
                  rintro e w6 ⟨rfl, g6⟩
                  have G6 := hide (Gr.trans G5.out g6)
                  have HB6 := hide (HB5.out.gr g6)
                  clear g6
                  cases hp : r X d
                  · go_wp2
                    go_roundg (q - (d + 1))
                    case measure => omega
                    case rel =>
                      refine ⟨d + 1, by omega, ?_, G6.out, HB6.out⟩
                      first | with_reducible rfl | simp
                  · obtain ⟨c0, -, cz, -⟩ := HB6.out.bit hd
                    rw [HIN.out d hp] at c0
                    go_wp2
                    go_roundg (q - (d + 1))
                    case measure => omega
                    case rel =>
                      refine ⟨d + 1, by omega, ?_, G6.out, HB6.out⟩
                      first | with_reducible rfl | simp
                · have hd' : ¬ ((d : Int) < (q : Int)) := by omega
                  clear hb hg gw b0 b1 bl9
                  go_wp2_with fail
                  refine (lives_any _).mono ?_
                  rintro e w7 ⟨rfl, g7⟩
                  have G7 := hide (Gr.trans GW.out g7)
                  clear g7
                  go_wp2
                  go_ret
                  exact ⟨rfl, G7.out⟩
  · have HEX := hide (wrgP_err (n := n) (l := l) (ds := [x]) h0)
    have CP := hide (fun W ao cap (k : Le W (.slice ao m cap) l) => above_any W n ao m cap l k hm x)
    unfold NumR at CP
    rw [HEX.out] at CP
    generalize abvI n l x = xs at CP
    generalize (chkP n l).1 = place at *
    generalize (chkP n l).2 = E at *
    have hne : (E != 0) = true := by simpa using h0
    clear h h0 HEX HL HM
    go_enter Try.func7, Try.ntmps7
    go_wp2_with fail
    rw [← hA]
    clear hA
    obtain ⟨b0, b1, bl9, gw⟩ := HB.out _ (Gr.refl _)
    go_wp2_with fail
    refine (CR.out _ gw).mono ?_
    rintro e w1 ⟨rfl, g1⟩
    clear b0 b1 bl9 gw
    have G1 := hide g1
    clear g1
    go_wp2_with fail
    have hS0 := Ch.drew G1.out
    refine wp_region_held_drew (S := Gr A) (by kernel_rfl) (by exact hS0) (fun _ => ?_)
    generalize World.drew _ = V0 at hS0 ⊢
    refine takeS_on (i := 0) 30 (v := ?hv51) rfl rfl (by kernel_rfl) (by kernel_rfl) (by kernel_rfl) (fun _ _ _ h => h) (by kernel_rfl) ?hh51 (by exact hS0) ?_
    case hh51 => (intro w' hSw; go_simp; try (with_reducible rfl))
    simp only [Act.put, List.setIfInBounds_toArray, List.set_cons_zero, List.set_cons_succ]
    refine takeS_on (i := 1) 31 (v := ?hv52) rfl rfl (by kernel_rfl) (by kernel_rfl) (by kernel_rfl) (fun _ _ _ h => h) (by kernel_rfl) ?hh52 (by exact hS0) ?_
    case hh52 => (intro w' hSw; obtain ⟨b0, b1, bl, -⟩ := HB.out _ hSw; go_simp; try (with_reducible rfl))
    simp only [Act.put, List.setIfInBounds_toArray, List.set_cons_zero, List.set_cons_succ]
    refine takeS_on (i := 2) 32 (v := ?hv53) rfl rfl (by kernel_rfl) (by kernel_rfl) (by kernel_rfl) (fun _ _ _ h => h) (by kernel_rfl) ?hh53 (by exact hS0) ?_
    case hh53 => (intro w' hSw; go_simp; try (with_reducible rfl))
    simp only [Act.put, List.setIfInBounds_toArray, List.set_cons_zero, List.set_cons_succ]
    refine takeS_on (i := 3) 33 (v := ?hv54) rfl rfl (by kernel_rfl) (by kernel_rfl) (by kernel_rfl) (fun _ _ _ h => h) (by kernel_rfl) ?hh54 (by exact hS0) ?_
    case hh54 => (intro w' hSw; obtain ⟨b0, b1, bl, -⟩ := HB.out _ hSw; go_simp; try (with_reducible rfl))
    simp only [Act.put, List.setIfInBounds_toArray, List.set_cons_zero, List.set_cons_succ]
    refine takeS_on (i := 5) 35 (v := ?hv55) rfl rfl (by kernel_rfl) (by kernel_rfl) (by kernel_rfl) (fun _ _ _ h => h) (by kernel_rfl) ?hh55 (by exact hS0) ?_
    case hh55 => (intro w' hSw; go_simp; try (with_reducible rfl))
    simp only [Act.put, List.setIfInBounds_toArray, List.set_cons_zero, List.set_cons_succ]
    refine wpAnyH_ready (rs := [4]) (by kernel_rfl) (by simp) (AllReadyH.cons rfl (fun K hK => ?_) AllReadyH.nil)
    go_simp
    refine (CE.out _ (HB.out _ hS0).2.2.2).mono ?_
    rintro e wa ⟨ao, cap, rfl, ow, ga⟩
    have LA := hide (ow.lst.mono (fun _ _ _ => AnyB.it _) : Le wa (.slice ao m cap) l)
    have hS1 := Gr.trans hS0 ga
    clear ga ow
    refine hK.out _ _ (by exact hS1) (fun _ => ?_)
    clear hK K
    refine wpAnyH_ready (rs := [6]) (by kernel_rfl) (by simp) (AllReadyH.cons rfl (fun K hK => ?_) AllReadyH.nil)
    go_simp
    refine (CP.out _ ao cap LA.out).mono ?_
    rintro e wb ⟨a1, c1, rfl, l1, gb⟩
    clear l1
    have hS2 := Gr.trans hS1 gb
    clear gb LA
    refine hK.out _ _ (by exact hS2) (fun _ => ?_)
    clear hK K
    refine takeS_on (i := 7) 29 (v := ?hv56) rfl rfl (by kernel_rfl) (by kernel_rfl) (by kernel_rfl) (fun _ _ _ h => h) (by kernel_rfl) ?hh56 (by exact hS2) ?_
    case hh56 => (intro w' hSw; go_simp; try (with_reducible rfl))
    simp only [Act.put, List.setIfInBounds_toArray, List.set_cons_zero, List.set_cons_succ]
    refine takeS_on (i := 8) 37 (v := ?hv57) rfl rfl (by kernel_rfl) (by kernel_rfl) (by kernel_rfl) (fun _ _ _ h => h) (by kernel_rfl) ?hh57 (by exact hS2) ?_
    case hh57 => (intro w' hSw; go_simp; try (with_reducible rfl))
    simp only [Act.put, List.setIfInBounds_toArray, List.set_cons_zero, List.set_cons_succ]
    refine takeS_on (i := 9) 38 (v := ?hv58) rfl rfl (by kernel_rfl) (by kernel_rfl) (by kernel_rfl) (fun _ _ _ h => h) (by kernel_rfl) ?hh58 (by exact hS2) ?_
    case hh58 => (intro w' hSw; go_simp; try (with_reducible rfl))
    simp only [Act.put, List.setIfInBounds_toArray, List.set_cons_zero, List.set_cons_succ]
    refine takeS_on (i := 10) 9 (v := ?hv59) rfl rfl (by kernel_rfl) (by kernel_rfl) (by kernel_rfl) (fun _ _ _ h => h) (by kernel_rfl) ?hh59 (by exact hS2) ?_
    case hh59 => (intro w' hSw; go_simp; try (with_reducible rfl))
    simp only [Act.put, List.setIfInBounds_toArray, List.set_cons_zero, List.set_cons_succ]
    refine takeS_on (i := 11) 10 (v := ?hv60) rfl rfl (by kernel_rfl) (by kernel_rfl) (by kernel_rfl) (fun _ _ _ h => h) (by kernel_rfl) ?hh60 (by exact hS2) ?_
    case hh60 => (intro w' hSw; go_simp; try (with_reducible rfl))
    simp only [Act.put, List.setIfInBounds_toArray, List.set_cons_zero, List.set_cons_succ]
    refine wpAnyH_done (by kernel_rfl) ?_ _
    have G2 := hide (HB.out _ hS2).2.2.2
    clear hS0 hS1 hS2
    go_wp2_with fail
    refine (lives_any _).mono ?_
    rintro e w4 ⟨rfl, g4⟩
    have G4 := hide (Gr.trans G2.out g4)
    clear g4
    go_wp2
    go_ret
    exact ⟨rfl, G4.out⟩
end Go.Proofs.Ytcoaefojamhloaa.Lt
