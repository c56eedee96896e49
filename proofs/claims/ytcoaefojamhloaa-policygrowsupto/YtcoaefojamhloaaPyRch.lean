/-
  Where paths lead, the document's way: reached; Path of the document. Conditions: at most 16 domains, edges that may be, a list that is not too long.
-/
import Derived.Test.YtcoaefojamhloaaPyBits
import Derived.Test.YtcoaefojamhloaaPyAsk
import Derived.Test.YtcoaefojamhloaaPyRChk
namespace Go.Proofs.Ytcoaefojamhloaa.Lt
open Go.RowKit Wd
attribute [local go_sem ↓] Go.wp_at_zero Go.wp_at_succ
set_option maxRecDepth 20000

theorem rnd_step {l : List Eg} {s : St} {j : Nat} {x : Eg} (h : l[j]? = some x) : (l.take (j + 1)).foldl stS s = stS ((l.take j).foldl stS s) x := by
  rw [List.take_add_one, h, List.foldl_append]
  rfl
set_option maxHeartbeats 8000000 in
theorem reached_any (w : World) (n : Nat) (hn : n ≤ 16) (a : Option Addr) (m c : Nat) (l : List Eg) (h : Le w (.slice a m c) l) (hm : m ≤ 8796093022208) (hl : Okl (n : Int) l) (x : Nat) (hx : x < n) :
    Calls Try.prog 29 #[.int .i64 (n : Int), .slice a m c, .int .i64 (x : Int)] w fun e w' => e = .returned (.slice (some ⟨w.heap.size, 0, none⟩) n n) ∧ Bs w.heap.size w' w.heap.size n (itS l n (sgl x)) ∧ Gr w w' := by
  have HL := hide h
  have HM := hide (show m = l.length from h.len.1)
  have HO := hide hl
  have HB0 := hide (show (List.replicate n false)[x]? = some false by rw [List.getElem?_replicate, if_pos hx])
  have x0 : (0 : Int) ≤ (x : Int) := by omega
  have x1 : (x : Int) < (n : Int) := by omega
  clear h hl
  go_enter Try.func29, Try.ntmps29
  go_wp2_with (at_make; refine wpList_make_bools rfl _ _ rfl n _ _ rfl rfl (by omega) ?_; intro w1 o1 g1; obtain ⟨c1, z1, l1, s1⟩ := o1.bit HB0.out; have S1 := hide (s1 true); have G1 := hide g1; clear o1 g1 s1)
  have SS := hide (show Bs w.heap.size (w1.setCell ⟨w.heap.size, x, none⟩ (.bool true)) w.heap.size n (itS l 0 (sgl x)) by
    have := S1.out
    rw [bl_zero, bl_set hx, upS_zero] at this
    exact this)
  have GG := hide (show Gr w (w1.setCell ⟨w.heap.size, x, none⟩ (.bool true)) from Ch.fresh G1.out (Nat.le_refl _) x (.bool true))
  generalize w1.setCell ⟨w.heap.size, x, none⟩ (.bool true) = W1 at *
  clear S1 G1 c1 z1 l1 HB0
  go_loopg [8] n (fun k i wr => ∃ (q : Nat), q + k = n ∧ i = .int .i64 (q : Int) ∧ Bs w.heap.size wr w.heap.size n (itS l q (sgl x)) ∧ Gr w wr)
  case atStart => exact ⟨0, by omega, rfl, SS.out, GG.out⟩
  case round =>
    obtain ⟨q, hqk, rfl, hb, hg⟩ := hrel
    have HB := hide hb
    have G := hide hg
    clear hb hg
    by_cases hq : q < n
    · have hq' : (q : Int) < (n : Int) := by omega
      have hq0 : (0 : Int) ≤ (q : Int) := by omega
      have hq16 : (q : Int) < 16 := by omega
      go_wp2_with fail
      go_loopg [9] m (fun k i wr => ∃ (j : Nat), j + k = m ∧ i = .int .i64 (j : Int) ∧ Bs w.heap.size wr w.heap.size n ((l.take j).foldl stS (itS l q (sgl x))) ∧ Gr w wr)
      case atStart => exact ⟨0, by omega, rfl, by rw [List.take_zero]; exact HB.out, G.out⟩
      case round =>
        obtain ⟨j, hjk, rfl, hb, hg⟩ := hrel
        have HB := hide hb
        have G := hide hg
        by_cases hj : j < m
        · have hj' : (j : Int) < (m : Int) := by omega
          have hj0 : (0 : Int) ≤ (j : Int) := by omega
          have hjm : (j : Int) < 8796093022208 := by omega
          have hjl : j < l.length := by rw [← HM.out]; exact hj
          have hjx : l[j]? = some l[j] := List.getElem?_eq_getElem hjl
          have HT := hide (rnd_step (s := itS l q (sgl x)) hjx)
          have ho := egB_iff.1 (HO.out l[j] (List.getElem_mem hjl))
          obtain ⟨g, o, rfl, gl, gc, y0, y1⟩ := eg_at (HL.out.gr G.out) hjx
          generalize l[j] = y at *
          obtain ⟨yf, yt⟩ := y
          simp only at ho y0 y1
          obtain ⟨f, rfl⟩ : ∃ f : Nat, yf = (f : Int) := ⟨yf.toNat, by omega⟩
          obtain ⟨t, rfl⟩ : ∃ t : Nat, yt = (t : Int) := ⟨yt.toNat, by omega⟩
          have f0 : (0 : Int) ≤ (f : Int) := by omega
          have f1 : (f : Int) < (n : Int) := by omega
          have t0 : (0 : Int) ≤ (t : Int) := by omega
          have t1 : (t : Int) < (n : Int) := by omega
          generalize (l.take j).foldl stS (itS l q (sgl x)) = s at *
          obtain ⟨b0, -, bz, -⟩ := hb.bit (i := f) (by omega)
          obtain ⟨d0, dz, -, dn⟩ := hb.bit (i := t) (by omega)
          have DN := hide dn
          have hls : (s f = true → stS s ⟨(f : Int), (t : Int)⟩ = upS s t) ∧ (s f = false → stS s ⟨(f : Int), (t : Int)⟩ = s) := by
            refine ⟨fun e => ?_, fun e => ?_⟩
            · exact if_pos e
            · exact if_neg (by rw [show (⟨(f : Int), (t : Int)⟩ : Eg).f.toNat = f from rfl, e]; decide)
          have HLS := hide hls
          generalize s t = old at d0
          clear hb hg ho hjx hjl dn hls
          cases hsf : s f
          · have HN := hide (show (l.take (j + 1)).foldl stS (itS l q (sgl x)) = s by rw [HT.out]; exact HLS.out.2 hsf)
            rw [hsf] at b0
            clear HLS HT
            go_wp2
            go_roundg (m - (j + 1))
            case measure => omega
            case rel =>
              refine ⟨j + 1, by omega, ?_, by rw [HN.out]; exact HB.out, G.out⟩
              first | with_reducible rfl | simp
          · have HN := hide (show (l.take (j + 1)).foldl stS (itS l q (sgl x)) = upS s t by rw [HT.out]; exact HLS.out.1 hsf)
            rw [hsf] at b0
            clear HLS HT
            go_wp2
            go_roundg (m - (j + 1))
            case measure => omega
            case rel =>
              refine ⟨j + 1, by omega, ?_, by rw [HN.out]; exact DN.out, Ch.fresh G.out (Nat.le_refl _) t (.bool true)⟩
              first | with_reducible rfl | simp
        · have hj' : ¬ ((j : Int) < (m : Int)) := by omega
          have HN := hide (show (l.take j).foldl stS (itS l q (sgl x)) = itS l (q + 1) (sgl x) by
            rw [List.take_of_length_le (by rw [← HM.out]; omega)]
            rfl)
          clear hb hg
          go_wp2
          go_roundg (n - (q + 1))
          case measure => omega
          case rel =>
            refine ⟨q + 1, by omega, ?_, by rw [← HN.out]; exact HB.out, G.out⟩
            first | with_reducible rfl | simp
    · have hq' : ¬ ((q : Int) < (n : Int)) := by omega
      have hqe : q = n := by omega
      subst hqe
      go_wp2
      go_ret
      exact ⟨rfl, HB.out, G.out⟩
set_option maxHeartbeats 4000000 in
theorem rpath_any (w : World) (n : Int) (a : Option Addr) (m c : Nat) (l : List Eg) (h : Le w (.slice a m c) l) (hm : m ≤ 8796093022208) (x y : Int) :
    Calls Try.prog 16 #[.int .i64 n, .slice a m c, .int .i64 x, .int .i64 y] w fun e w' => e = pthE n l x y ∧ Gr w w' := by
  have C := hide (asked_any w n a m c l h hm x y)
  unfold wrgE at C
  unfold pthE
  by_cases h0 : wrgP n l [x, y] = 0
  · obtain ⟨n1, n2, ok, hd⟩ := wrgP_ok h0
    have hB : pthB n l x y = pthR n.toNat l x.toNat y.toNat := if_pos h0
    have hx := hd x (by simp)
    have hy := hd y (by simp)
    obtain ⟨N, rfl⟩ : ∃ N : Nat, n = (N : Int) := ⟨n.toNat, by omega⟩
    obtain ⟨X, rfl⟩ : ∃ X : Nat, x = (X : Int) := ⟨x.toNat, by omega⟩
    obtain ⟨Y, rfl⟩ : ∃ Y : Nat, y = (Y : Int) := ⟨y.toNat, by omega⟩
    rw [Int.toNat_natCast, Int.toNat_natCast, Int.toNat_natCast] at hB
    have CP := hide (fun W (g : Gr w W) => reached_any W N (by omega) a m c l (h.gr g) hm ok X (by omega))
    rw [← rch_pth ok (show X < N by omega)] at hB
    have y0 : (0 : Int) ≤ (Y : Int) := by omega
    have y1 : (Y : Int) < (N : Int) := hy.2
    have HB := hide hB
    rw [h0] at C ⊢
    rw [HB.out]
    generalize itS l N (sgl X) = s at CP ⊢
    clear h ok hd hB HB n1 n2 h0
    go_enter Try.func16, Try.ntmps16
    go_wp2_with fail
    refine C.out.mono ?_
    rintro e w1 ⟨rfl, g1⟩
    have G1 := hide g1
    clear g1
    go_wp2_with fail
    refine (CP.out _ G1.out).mono ?_
    rintro e w2 ⟨rfl, b2, g2⟩
    have G2 := hide (Gr.trans G1.out g2)
    obtain ⟨b0, -, bz, -⟩ := b2.bit (i := Y) (by omega)
    clear g2 b2
    go_wp2
    go_ret2
    exact ⟨rfl, G2.out⟩
  · have hB : pthB n l x y = false := if_neg h0
    rw [hB]
    generalize wrgP n l [x, y] = E at *
    have hne : (E != 0) = true := by simpa using h0
    clear h hB h0
    go_enter Try.func16, Try.ntmps16
    go_wp2_with fail
    refine C.out.mono ?_
    rintro e w1 ⟨rfl, g1⟩
    have G1 := hide g1
    clear g1
    go_wp2
    go_ret2
    exact ⟨rfl, G1.out⟩
end Go.Proofs.Ytcoaefojamhloaa.Lt
