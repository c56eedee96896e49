/-
  What FifoOwn of the statements answers: true, at any list and any two numbers. Condition: the list is there, and lies within the reach.
-/
import Derived.Test.YtphohfafehjafaaFfActs
import Derived.Test.YtphohfafehjafaaFfBatch2
import Derived.OwnWalk
namespace Go.Proofs.Ytphohfafehjafaa.Ff
open Go.RowKit
attribute [local go_sem ↓] Go.wp_at_zero Go.wp_at_succ

theorem own_made {base : Nat} {w : World} {v : Value} {n : Nat} (h : w.ownsRow base 33 3 v n (madeCells (Value.agg #[.int .i64 0, .int .i64 0, .int .u64 0]).cells (n * 3)).toList) : Own base w v (List.replicate n W3.zero) := by
  have e : (madeCells (Value.agg #[.int .i64 0, .int .i64 0, .int .u64 0]).cells (n * 3)).toList = rowOf (List.replicate n W3.zero) := by
    rw [← rowOf_replicate]
    simp [madeCells, Builtin.zeroCells, Value.cells]
  unfold Own
  rw [List.length_replicate, ← e]
  exact h
/-- one element of an owned list is written anew -/
theorem own_set {w : World} {g n cap i base : Nat} {xs : List W3} (z : W3) (h : Own base w (.slice (some ⟨g, 0, none⟩) n cap) xs) (hi : i < xs.length) :
    Own base (((w.setCell ⟨g, i * 3, none⟩ (.int .i64 z.s)).setCell ⟨g, i * 3 + 1, none⟩ (.int .i64 z.g)).setCell ⟨g, i * 3 + 2, none⟩ (.int .u64 z.t)) (.slice (some ⟨g, 0, none⟩) n cap) (xs.take i ++ [z] ++ xs.drop (i + 1)) :=
  own_put [z] h (by simp; omega)
theorem set_ch {w : World} {g i : Nat} (z : W3) : Ch (Only g) w (((w.setCell ⟨g, i * 3, none⟩ (.int .i64 z.s)).setCell ⟨g, i * 3 + 1, none⟩ (.int .i64 z.g)).setCell ⟨g, i * 3 + 2, none⟩ (.int .u64 z.t)) :=
  Ch.own (Ch.own (Ch.own (Ch.refl _ _) _ _) _ _) _ _
theorem set_len (xs : List W3) (z : W3) (i : Nat) (hi : i < xs.length) : (xs.take i ++ [z] ++ xs.drop (i + 1)).length = xs.length := by
  simp only [List.length_append, List.length_take, List.length_drop, List.length_cons, List.length_nil]; omega
theorem copy_step {l : List W3} {i : Nat} {z : W3} (hz : l[i]? = some z) : ((l.take i ++ List.replicate (l.length - i) W3.zero).take i ++ [z] ++ (l.take i ++ List.replicate (l.length - i) W3.zero).drop (i + 1)) = l.take (i + 1) ++ List.replicate (l.length - (i + 1)) W3.zero := by
  have hi := (List.getElem?_eq_some_iff.1 hz).1
  have hl : (l.take i).length = i := by rw [List.length_take]; omega
  have hd : (l.take i ++ List.replicate (l.length - i) W3.zero).drop (i + 1) = List.replicate (l.length - (i + 1)) W3.zero := by
    rw [List.drop_append, hl, List.drop_of_length_le (l := l.take i) (by omega), List.nil_append, List.drop_replicate]
    congr 1
    omega
  rw [hd, List.take_left' hl, List.take_add_one, hz]
  rfl
theorem Own.get1 {base : Nat} {w : World} {ao : Option Addr} {n cap : Nat} {xs : List W3} (h : Own base w (.slice ao n cap) xs) {i : Nat} (hi : i < xs.length) :
    ∃ (g : Nat) (x : W3), ao = some ⟨g, 0, none⟩ ∧ base ≤ g ∧ g < w.heap.size ∧ w.cell? ⟨g, i * 3, none⟩ = some (.int .i64 x.s) ∧ w.cell? ⟨g, i * 3 + 1, none⟩ = some (.int .i64 x.g) ∧ w.cell? ⟨g, i * 3 + 2, none⟩ = some (.int .u64 x.t) ∧ (∀ k, w.frozen? ⟨g, k, none⟩ = false) := by
  obtain ⟨g, cap', e, h1, h2⟩ := World.ownsRow.form h (by omega)
  injection e with e1 e2 e3
  subst e1
  obtain ⟨x, hx⟩ : ∃ x, xs[i]? = some x := ⟨_, List.getElem?_eq_getElem hi⟩
  obtain ⟨a0, a1, a2⟩ := h.get hx
  obtain ⟨-, -, -, hf, -⟩ := own_cells h
  exact ⟨g, x, rfl, h1, h2, a0, a1, a2, hf⟩
theorem same_big (P Q : Nat → Prop) (va vb : Value) (xs : List W3) (w : World) (ha : Lst P w va xs) (hb : Lst Q w vb xs) (hmax : xs.length ≤ 4611686018427387903) :
    Calls Try.prog 22 #[va, vb] w fun e w' => e = .returned (.bool true) ∧ ∃ n, w' = w.drewN n := by
  obtain ⟨ao, cap, rfl⟩ := ha.form
  obtain ⟨bo, cbp, rfl⟩ := hb.form
  obtain ⟨n, hn⟩ : ∃ n, n = xs.length := ⟨_, rfl⟩
  rw [← hn] at hmax ha hb ⊢
  have HA := hid ha
  have HB := hid hb
  have HN := hid hn
  clear ha hb hn
  go_enter Try.func22, Try.ntmps22
  go_wp2_with fail
  go_loopg [5] n (fun k i wr => ∃ j, j + k = n ∧ i = .int .i64 (j : Int) ∧ ∃ m, wr = w.drewN m)
  case atStart => exact ⟨0, by omega, rfl, 0, rfl⟩
  case round =>
    obtain ⟨j, hjk, rfl, m, rfl⟩ := hrel
    by_cases hj : j < n
    · obtain ⟨z, hz⟩ : ∃ z, xs[j]? = some z := ⟨_, List.getElem?_eq_getElem (by rw [← HN.out]; exact hj)⟩
      obtain ⟨g, o, rfl, _, _, a0, a1, a2⟩ := HA.out.get hz
      obtain ⟨g', o', rfl, _, _, b0, b1, b2⟩ := HB.out.get hz
      have j0 : (0 : Int) ≤ (j : Int) := by omega
      have j1 : (j : Int) < (n : Int) := by omega
      clear hz
      go_wp2
      go_quiet (fail)
      go_wp2
      go_roundg (gk - 1)
      case measure => omega
      case rel => exact ⟨j + 1, by omega, by simp, _, rfl⟩
    · go_wp2
      go_ret
      exact ⟨rfl, _, rfl⟩


set_option maxHeartbeats 8000000 in
set_option maxRecDepth 30000 in
theorem own_law (lv : Value) (l : List W3) (p r : Int) (w : World) (hx : Lst (fun _ => True) w lv l) (hl : l.length * 24 ≤ 140737488351232) :
    Calls Try.prog 8 #[lv, .int .i64 p, .int .i64 r] w fun e w' => e = .returned (.bool true) ∧ Ch NoB w w' := by
  obtain ⟨la, lc, rfl⟩ := hx.form
  obtain ⟨n, hn⟩ : ∃ n, n = l.length := ⟨_, rfl⟩
  rw [← hn] at hl hx ⊢
  obtain ⟨i0, hi, hz0, hz1, hz2⟩ := info_parts W_info
  have HX := hid hx
  have HN := hid hn
  clear hx hn
  go_enter Try.func8, Try.ntmps8
  go_wp2_with (first | (at_make; refine wpList_make_full _ rfl _ _ 26 rfl w.heap.size 33 i0 _ 3 Try.underlying26 hi hz0 hz1 _ _ _ _ n rfl rfl (by omega) (by omega) (by rw [hz2]; omega) (by unfold maxLen; omega) (by omega) ?_; intro w1 hown hgrow))
  have HI1 := hid (own_made hown)
  have HG1 : Hid (Ch NoB w w1) := (Ch.refl _ _).grown hgrow (fun k hk => by cases hk)
  clear hown hgrow hi hz0 hz1 hz2
  go_loopg [8] n (fun m i wv => ∃ j, j + m = n ∧ i = .int .i64 ((j : Nat) : Int) ∧ Own w.heap.size wv (.slice (some ⟨w.heap.size, 0, none⟩) n n) (l.take j ++ List.replicate (l.length - j) W3.zero) ∧ Ch NoB w wv)
  case atStart => exact ⟨0, by omega, rfl, by rw [List.take_zero, List.nil_append, Nat.sub_zero, ← HN.out]; exact HI1.out, HG1.out⟩
  case round =>
    obtain ⟨j, hjm, rfl, ho, hg⟩ := hrel
    have HO := hid ho
    have HG := hid hg
    have hsz := hg.size
    clear ho hg
    by_cases hj : j < n
    · obtain ⟨z, hz⟩ : ∃ z, l[j]? = some z := ⟨_, List.getElem?_eq_getElem (by rw [← HN.out]; exact hj)⟩
      obtain ⟨gb, o, rfl, _, hgl, a0, a1, a2⟩ := (HX.out.ch HG.out (fun _ _ _ => noB _)).get hz
      have hLl : j < (l.take j ++ List.replicate (l.length - j) W3.zero).length := by rw [List.length_append, List.length_take, List.length_replicate]; have := HN.out; omega
      obtain ⟨g1, y, e1, _, hg1, b0, b1, b2, hf⟩ := HO.out.get1 hLl
      have e2 : w.heap.size = g1 := by injection e1 with e1; injection e1
      subst e2
      have f0 := hf (j * 3)
      have f1 := hf (j * 3 + 1)
      have f2 := hf (j * 3 + 2)
      have HS := hid (own_set z HO.out hLl)
      rw [copy_step hz] at HS
      have HC := hid (set_ch (w := wr) (g := w.heap.size) (i := j) z)
      have j0 : (0 : Int) ≤ (j : Int) := by omega
      have j1 : (j : Int) < (n : Int) := by omega
      clear hz hf hLl e1
      go_wp2
      go_roundg (gk - 1)
      case measure => omega
      case rel => exact ⟨j + 1, by omega, by simp, HS.out, HG.out.trans HC.out (fun q e => .inr (by have : q = w.heap.size := e; omega))⟩
    · have hLe : l.take j ++ List.replicate (l.length - j) W3.zero = l := by
        have := HN.out
        rw [List.take_of_length_le (by omega), show l.length - j = 0 by omega]
        simp
      rw [hLe] at HO
      clear hLe
      go_wp2_with fail
      have hs1w : w.heap.size < wr.heap.size := by
        have h1 := HG1.out.size
        rcases HO.out.2 with ⟨e, _⟩ | ⟨g', cap', cur, e, _, hg', _⟩
        · cases e
        · injection e with e; injection e with e; injection e with e
          rw [e]; exact lt_of_block hg'
      refine (load_any _ _ l wr HO.out.lst (by have := HN.out; omega)).mono ?_
      rintro e w3 ⟨h3, g3⟩
      have HI3 := hid (HO.out.ch g3 (fun _ _ => noB _))
      have HG3 := hid (HG.out.trans' g3)
      have hs3 := g3.size
      clear g3
      have HRL := hid (rload_any _ _ l w3 (HX.out.ch HG3.out (fun _ _ _ => noB _)) (by have := HN.out; omega))
      have HSB := hid (fun W (h1 : Own w.heap.size W (.slice (some ⟨w.heap.size, 0, none⟩) n n) l) (h2 : Lst (fun _ => True) W (.slice la n lc) l) => same_big _ _ _ _ l W h1.lst h2 (by have := HN.out; omega))
      have e1 := fun w => eql_errno (loadE [] l) w
      rcases h3 with ⟨hne, rfl⟩ | ⟨he, b, base, aq, cq, rfl, hb, hbs, q3⟩
      · have hne2 : (loadE [] l == 0) = false := by simp; exact hne
        have hne3 : (loadE [] l != 0) = true := by simp; exact hne
        go_wp2_with fail
        refine HRL.out.mono ?_
        rintro e w4 ⟨h4, g4⟩
        have HG4 := hid (HG3.out.trans' g4)
        have HI4 := hid (HI3.out.ch g4 (fun _ _ => noB _))
        clear g4
        rcases h4 with ⟨_, rfl⟩ | ⟨h0, _⟩
        · go_wp2_with fail
          refine (HSB.out _ HI4.out (HX.out.ch HG4.out (fun _ _ _ => noB _))).mono ?_
          rintro e w5 ⟨rfl, m5, rfl⟩
          go_wp2_with fail
          refine (lives_any _).mono ?_
          rintro e w6 ⟨rfl, g6⟩
          have HG6 := hid ((HG4.out.drewN m5).trans' g6)
          clear g6
          go_wp2
          go_ret
          exact ⟨rfl, HG6.out⟩
        · exact absurd h0 hne
      · have HE := hid he
        have HQ3 := hid q3
        rw [he] at e1
        clear he q3
        go_wp2_with fail
        refine HRL.out.mono ?_
        rintro e w4 ⟨h4, g4⟩
        have HG4 := hid (HG3.out.trans' g4)
        have HI4 := hid (HI3.out.ch g4 (fun _ _ => noB _))
        have HQ4 := hid (HQ3.out.ch g4 (fun _ _ => noB _))
        have hs4 := g4.size
        clear g4
        rcases h4 with ⟨hne, rfl⟩ | ⟨_, am, cm, rfl, l4⟩
        · exact absurd HE.out hne
        · obtain ⟨L, hL⟩ : ∃ L, L = loadL [] l := ⟨_, rfl⟩
          rw [← hL] at HQ3 HQ4 l4 ⊢
          have HM4 := hid (l4.mono (Q := fun q => w3.heap.size ≤ q ∧ q < w4.heap.size) (fun q a c => ⟨c, a⟩))
          have hLn := HQ4.out.2.2.2
          have hbb := HQ4.out.2.2.1
          have HQS := hid (show ∀ q, QS b (.slice aq L.length cq) q → wr.heap.size ≤ q ∧ q < w3.heap.size from fun q e => by
            rcases e with e | e
            · have := HQ3.out.1.lt; omega
            · have h1 := (HQ3.out.2.1.blk e).1; have h2 := (HQ3.out.2.1.blk e).2; omega)
          obtain ⟨k, hk⟩ : ∃ k, k = L.length := ⟨_, rfl⟩
          rw [← hk] at HQ3 HQ4 HM4 hLn HQS ⊢
          have HK := hid hk
          have hLn2 : L.length ≤ 4096 := by omega
          obtain ⟨S1, hS1⟩ : ∃ S1, S1 = wr.heap.size := ⟨_, rfl⟩
          rw [← hS1] at HQS hs1w hs3
          clear l4 hL hk hS1
          go_wp2_with fail
          refine (HSB.out _ HI4.out (HX.out.ch HG4.out (fun _ _ _ => noB _))).mono ?_
          rintro e w5 ⟨rfl, m5, rfl⟩
          go_wp2_with fail
          refine (lives_any _).mono ?_
          rintro e w6 ⟨rfl, g6⟩
          have HG6 := hid ((HG4.out.drewN m5).trans' g6)
          have HI6 := hid (Own.ch (w := w4.drewN m5) HI4.out g6 (fun _ _ => noB _))
          have HQ6 := hid (Que.ch (w := w4.drewN m5) HQ4.out g6 (fun _ _ => noB _))
          have HM6 := hid (Lst.ch (w := w4.drewN m5) HM4.out g6 (fun _ _ _ => noB _))
          have hs6 : w4.heap.size ≤ w6.heap.size := g6.size
          have HNf := hid (show l.length = n from HN.out.symm)
          clear g6
          go_wp2_with fail
          go_loopg [13] n (fun m i wv => ∃ (j : Nat) (ys : List W3), j + m = n ∧ i = .int .i64 ((j : Nat) : Int) ∧ ys.length = n ∧ Own w.heap.size wv (.slice (some ⟨w.heap.size, 0, none⟩) n n) ys ∧ Ch (Blk (.slice (some ⟨w.heap.size, 0, none⟩) n n)) w6 wv)
          case atStart => exact ⟨0, _, by omega, rfl, by have := HNf.out; omega, HI6.out, (by first | exact Ch.refl _ _ | exact (Ch.refl _ _).drewN _ | exact ((Ch.refl _ _).drewN _).drewN _)⟩
          case round =>
            obtain ⟨j, ys, hjm, rfl, hyl, ho, hg⟩ := hrel
            have HOf := hid ho
            have HGf := hid hg
            have hszf := hg.size
            clear ho hg
            by_cases hj : j < n
            · have hLl : j < ys.length := by omega
              obtain ⟨g1, y, e1, _, hg1, b0, b1, b2, hf⟩ := HOf.out.get1 hLl
              have e2 : w.heap.size = g1 := by injection e1 with e1; injection e1
              subst e2
              have f0 := hf (j * 3)
              have f1 := hf (j * 3 + 1)
              have f2 := hf (j * 3 + 2)
              have HS := hid (own_set ⟨0, 0, 99⟩ HOf.out hLl)
              have HSL := hid (set_len ys ⟨0, 0, 99⟩ j hLl)
              have HC := hid (set_ch (w := wr) (g := w.heap.size) (i := j) ⟨0, 0, 99⟩)
              have j0 : (0 : Int) ≤ (j : Int) := by omega
              have j1 : (j : Int) < (n : Int) := by omega
              clear hf e1
              go_wp2
              go_roundg (gk - 1)
              case measure => omega
              case rel => exact ⟨j + 1, _, by omega, by simp, by rw [HSL.out]; omega, HS.out, HGf.out.trans HC.out (fun q e => .inl (by have : q = w.heap.size := e; subst this; rfl))⟩
            · have HNW := hid (fun q (e : Blk (.slice (some ⟨w.heap.size, 0, none⟩) n n) q) => show q = w.heap.size by have h' : some w.heap.size = some q := e; injection h' with h'; exact h'.symm)
              have HQ7 := hid (HQ6.out.ch HGf.out (fun q e e' => by have := HNW.out q e'; have := (HQS.out q e).1; omega))
              have HM7 := hid (HM6.out.ch HGf.out (fun q _ e e' => by have := HNW.out q e'; omega))
              have HG7 := hid (HG6.out.trans HGf.out (fun q e => .inr (by have := HNW.out q e; omega)))
              clear HSB HRL HI3 HI4 HI6 HQ4 HM4 HQ6 HM6 HX HO
              go_wp2_with fail
              obtain ⟨W7, hW7⟩ : ∃ x, x = wr := ⟨_, rfl⟩
              subst hW7
              have hs7 := HGf.out.size
              clear HGf HOf
              refine (all_any (base ≤ ·) b _ L W7 HQ7.out.1 HQ7.out.2.1.lst hLn2).mono ?_
              rintro e w8 ⟨va, rfl, o8, g8⟩
              obtain ⟨aa, ca, rfl⟩ := o8.form
              rw [← HK.out] at o8 ⊢
              have hs8 := g8.size
              have HA8 := hid o8
              have HAB := hid (fun q (e : Blk (.slice aa k ca) q) => (show W7.heap.size ≤ q ∧ q < w8.heap.size from ⟨(o8.blk e).1, (o8.blk e).2⟩))
              have HQ8 := hid (HQ7.out.ch g8 (fun _ _ => noB _))
              have HM8 := hid (HM7.out.ch g8 (fun _ _ _ => noB _))
              have HG8 := hid (HG7.out.trans' g8)
              clear o8 g8
              go_wp2_with fail
              refine (all_any (base ≤ ·) b _ L w8 HQ8.out.1 HQ8.out.2.1.lst hLn2).mono ?_
              rintro e w9 ⟨vb, rfl, o9, g9⟩
              obtain ⟨ab, cb, rfl⟩ := o9.form
              rw [← HK.out] at o9 ⊢
              have hs9 := g9.size
              have HB9 := hid o9
              have HBB := hid (fun q (e : Blk (.slice ab k cb) q) => (show w8.heap.size ≤ q ∧ q < w9.heap.size from ⟨(o9.blk e).1, (o9.blk e).2⟩))
              have HA9 := hid (HA8.out.ch g9 (fun _ _ => noB _))
              have HQ9 := hid (HQ8.out.ch g9 (fun _ _ => noB _))
              have HM9 := hid (HM8.out.ch g9 (fun _ _ _ => noB _))
              have HG9 := hid (HG8.out.trans' g9)
              clear o9 g9
              go_wp2_with fail
              refine (same_eq _ _ _ _ L w9 HA9.out.lst HM9.out (by have := HK.out; omega)).mono ?_
              rintro e w10 ⟨rfl, m10, rfl⟩
              go_wp2_with fail
              refine (same_eq (w8.heap.size ≤ ·) (fun q => w3.heap.size ≤ q ∧ q < w4.heap.size) _ _ L (w9.drewN m10) HB9.out.lst HM9.out (by have := HK.out; omega)).mono ?_
              rintro e w11 ⟨rfl, m11, rfl⟩
              have HNf := hid (show L.length = k from HK.out.symm)
              go_wp2_with fail
              go_loopg [16] k (fun m i wv => ∃ (j : Nat) (ys : List W3), j + m = k ∧ i = .int .i64 ((j : Nat) : Int) ∧ ys.length = k ∧ Own W7.heap.size wv (.slice aa k ca) ys ∧ Ch (Blk (.slice aa k ca)) w9 wv)
              case atStart => exact ⟨0, _, by omega, rfl, by have := HNf.out; omega, HA9.out, (by first | exact Ch.refl _ _ | exact (Ch.refl _ _).drewN _ | exact ((Ch.refl _ _).drewN _).drewN _)⟩
              case round =>
                obtain ⟨j, ys, hjm, rfl, hyl, ho, hg⟩ := hrel
                have HOf := hid ho
                have HGf := hid hg
                have hszf := hg.size
                clear ho hg
                by_cases hj : j < k
                · have hLl : j < ys.length := by omega
                  obtain ⟨g1, y, rfl, _, hg1, b0, b1, b2, hf⟩ := HOf.out.get1 hLl
                  have f0 := hf (j * 3)
                  have f1 := hf (j * 3 + 1)
                  have f2 := hf (j * 3 + 2)
                  have HS := hid (own_set ⟨0, 0, 98⟩ HOf.out hLl)
                  have HSL := hid (set_len ys ⟨0, 0, 98⟩ j hLl)
                  have HC := hid (set_ch (w := wr) (g := g1) (i := j) ⟨0, 0, 98⟩)
                  have j0 : (0 : Int) ≤ (j : Int) := by omega
                  have j1 : (j : Int) < (k : Int) := by omega
                  clear hf
                  go_wp2
                  go_roundg (gk - 1)
                  case measure => omega
                  case rel => exact ⟨j + 1, _, by omega, by simp, by rw [HSL.out]; omega, HS.out, HGf.out.trans HC.out (fun q e => .inl (by have : q = g1 := e; subst this; rfl))⟩
                · obtain ⟨W12, hW12⟩ : ∃ x, x = wr := ⟨_, rfl⟩
                  subst hW12
                  have HNg := hid (show ys.length = k + 0 from hyl)
                  have HQ12 := hid (HQ9.out.ch HGf.out (fun q e e' => by have := (HAB.out q e').1; have := (HQS.out q e).2; omega))
                  have HM12 := hid (HM9.out.ch HGf.out (fun q _ e e' => by have := (HAB.out q e').1; omega))
                  have HB12 := hid (HB9.out.ch HGf.out (fun q e e' => by have := (HAB.out q e').2; have := (HBB.out q e).1; omega))
                  have HG12 := hid (HG9.out.trans HGf.out (fun q e => .inr (by have := (HAB.out q e).1; have := HG7.out.size; omega)))
                  have hs12 := hszf
                  clear HA9 HB9 HM9 HQ9 HGf hyl
                  go_wp2_with fail
                  go_loopg [14, 17] 16 (fun m tt i wv => ∃ (j : Nat) (ao : Option Addr) (c : Nat) (ys : List W3), j + m = 16 ∧ i = .int .i64 ((j : Nat) : Int) ∧ tt = .slice ao (k + j) c ∧ ys.length = k + j ∧ Own W7.heap.size wv (.slice ao (k + j) c) ys ∧ (∀ q, Blk (.slice ao (k + j) c) q → Blk (.slice aa k ca) q ∨ W12.heap.size ≤ q) ∧ Ch (Blk (.slice aa k ca)) W12 wv)
                  case atStart => exact ⟨0, _, _, _, by omega, rfl, rfl, HNg.out, HOf.out, fun q e => .inl e, Ch.refl _ _⟩
                  case round =>
                    obtain ⟨j, ao, c, ys, hjm, rfl, rfl, hyl, ho, hb, hg⟩ := hrel
                    have HOg := hid ho
                    have HBg := hid hb
                    have HGg := hid hg
                    have hszg := hg.size
                    have HYL := hid hyl
                    clear ho hb hg hyl
                    by_cases hj : j < 16
                    · have j1 : (j : Int) < 16 := by omega
                      go_wp2_with (first | (at_builtin; refine wpList_append_own2 rfl (.tmp 110) (.tmp 112) rfl W7.heap.size _ _ rfl (Own.alloc HOg.out _) _ _ [⟨0, 0, 97⟩] rfl (lst_three (Three.new _ ⟨0, 0, 97⟩)) (k + j + 1) (by rw [HYL.out]; rfl) (by omega) (by simp <;> omega) _ rfl ?_; intro ao2 cap2 w2' ow2 cw2 bl2; have HO2 := hid ow2; have HC2 := hid cw2; have HB2 := hid bl2; clear ow2 cw2 bl2))
                      go_roundg (gk - 1)
                      case measure => omega
                      case rel =>
                        have hB2 := HB2.out
                        simp only [World.size_alloc] at hB2
                        refine ⟨j + 1, ao2, cap2, _, by omega, by simp, rfl, by rw [List.length_append, HYL.out]; rfl, HO2.out, fun q e => ?_, (HGg.out.alloc _).trans HC2.out (fun q e => HBg.out q e)⟩
                        rcases hB2 q e with e | e
                        · exact HBg.out q e
                        · exact .inr (by omega)
                    · have hj16 : j = 16 := by omega
                      subst hj16
                      obtain ⟨W13, hW13⟩ : ∃ x, x = wr := ⟨_, rfl⟩
                      subst hW13
                      have HQ13 := hid (HQ12.out.ch HGg.out (fun q e e' => by have := (HAB.out q e').1; have := (HQS.out q e).2; omega))
                      have HM13 := hid (HM12.out.ch HGg.out (fun q _ e e' => by have := (HAB.out q e').1; omega))
                      have HB13 := hid (HB12.out.ch HGg.out (fun q e e' => by have := (HAB.out q e').2; have := (HBB.out q e).1; omega))
                      have HG13 := hid (HG12.out.trans HGg.out (fun q e => .inr (by have := (HAB.out q e).1; have := HG7.out.size; omega)))
                      have hs13 := hszg
                      clear HOf HQ12 HM12 HB12 HGg HOg HBg
                      go_wp2_with fail
                      refine (same_eq (w8.heap.size ≤ ·) (fun q => w3.heap.size ≤ q ∧ q < w4.heap.size) _ _ L W13 HB13.out.lst HM13.out (by have := HK.out; omega)).mono ?_
                      rintro e w14 ⟨rfl, m14, rfl⟩
                      go_wp2_with fail
                      refine (all_any (base ≤ ·) b _ L (W13.drewN m14) HQ13.out.1 HQ13.out.2.1.lst hLn2).mono ?_
                      rintro e w15 ⟨vc, rfl, o15, g15⟩
                      obtain ⟨ac, cc, rfl⟩ := o15.form
                      rw [← HK.out] at o15 ⊢
                      have HC15 := hid o15
                      have HQ15 := hid (Que.ch (w := W13.drewN m14) HQ13.out g15 (fun _ _ => noB _))
                      have HM15 := hid (Lst.ch (w := W13.drewN m14) HM13.out g15 (fun _ _ _ => noB _))
                      have HG15 := hid ((HG13.out.drewN m14).trans' g15)
                      have hs15 : W13.heap.size ≤ w15.heap.size := g15.size
                      clear o15 g15
                      go_wp2_with fail
                      refine (same_eq _ (fun q => w3.heap.size ≤ q ∧ q < w4.heap.size) _ _ L w15 HC15.out.lst HM15.out (by have := HK.out; omega)).mono ?_
                      rintro e w16 ⟨rfl, m16, rfl⟩
                      go_wp2_with fail
                      have k16 : IntKind.i64.wrap ((k : Int) + 16) = (k : Int) + 16 := by rw [IntKind.wrap_i64]; omega
                      by_cases hpr : p < 1 ∨ r < 0
                      · have HPR := hid hpr
                        clear hpr
                        refine (batch_err b p r (w15.drewN m16) HPR.out).mono ?_
                        rintro e w17 ⟨rfl, g17⟩
                        have HQ17 := hid (Que.ch (w := w15.drewN m16) HQ15.out g17 (fun _ _ => noB _))
                        have HM17 := hid (Lst.ch (w := w15.drewN m16) HM15.out g17 (fun _ _ _ => noB _))
                        have HG17 := hid ((HG15.out.drewN m16).trans' g17)
                        have hs17 : w15.heap.size ≤ w17.heap.size := g17.size
                        clear g17
                        go_wp2_with fail
                        refine (rbatch_err (.slice am k cm) p r w17 ⟨_, _, _, rfl⟩ HPR.out).mono ?_
                        rintro e w18 ⟨rfl, g18⟩
                        have HQ18 := hid (HQ17.out.ch g18 (fun _ _ => noB _))
                        have HM18 := hid (HM17.out.ch g18 (fun _ _ _ => noB _))
                        have HG18 := hid (HG17.out.trans' g18)
                        have hs18 := g18.size
                        clear g18
                        go_wp2_with fail
                        refine (same_eq NoB NoB _ _ [] w18 (Lst.nil _ _) (Lst.nil _ _) (by simp)).mono ?_
                        rintro e w19 ⟨rfl, m19, rfl⟩
                        go_wp2_with fail
                        go_loopg [23] 0 (fun m i wv => i = .int .i64 0 ∧ ∃ dd, wv = w18.drewN dd)
                        case atStart => exact ⟨rfl, m19, rfl⟩
                        case round =>
                          obtain ⟨rfl, dd, rfl⟩ := hrel
                          obtain ⟨W20, hW20⟩ : ∃ W20, W20 = w18.drewN dd := ⟨_, rfl⟩
                          have HNg := hid (show ([] : List W3).length = 0 from rfl)
                          have HOx := hid (show Own w18.heap.size W20 (.slice none 0 0) [] from Own.nil _ _)
                          have HQ20 := hid (show Que base W20 b (.slice aq k cq) L by rw [hW20]; exact HQ18.out)
                          have HM20 := hid (show Lst (fun q => w3.heap.size ≤ q ∧ q < w4.heap.size) W20 (.slice am k cm) L by rw [hW20]; exact HM18.out)
                          have HG20 := hid (show Ch NoB w W20 by rw [hW20]; exact HG18.out.drewN dd)
                          have hs20 : W20.heap.size = w18.heap.size := by rw [hW20]; rfl
                          rw [← hW20]
                          clear hW20
                          go_wp2_with fail
                          go_loopg [18, 24] 16 (fun m tt i wv => ∃ (j : Nat) (ao : Option Addr) (c : Nat) (ys : List W3), j + m = 16 ∧ i = .int .i64 ((j : Nat) : Int) ∧ tt = .slice ao j c ∧ ys.length = j ∧ Own w18.heap.size wv (.slice ao j c) ys ∧ (∀ q, Blk (.slice ao j c) q → Blk (.slice none 0 0) q ∨ W20.heap.size ≤ q) ∧ Ch (Blk (.slice none 0 0)) W20 wv)
                          case atStart => exact ⟨0, _, _, _, by omega, rfl, rfl, HNg.out, HOx.out, fun q e => .inl e, Ch.refl _ _⟩
                          case round =>
                            obtain ⟨j, ao, c, ys, hjm, rfl, rfl, hyl, ho, hb, hg⟩ := hrel
                            have HOg := hid ho
                            have HBg := hid hb
                            have HGg := hid hg
                            have hszg := hg.size
                            have HYL := hid hyl
                            clear ho hb hg hyl
                            by_cases hj : j < 16
                            · have j1 : (j : Int) < 16 := by omega
                              go_wp2_with (first | (at_builtin; refine wpList_append_own2 rfl (.tmp 158) (.tmp 160) rfl w18.heap.size _ _ rfl (Own.alloc HOg.out _) _ _ [⟨0, 0, 95⟩] rfl (lst_three (Three.new _ ⟨0, 0, 95⟩)) (j + 1) (by rw [HYL.out]; rfl) (by omega) (by simp <;> omega) _ rfl ?_; intro ao2 cap2 w2' ow2 cw2 bl2; have HO2 := hid ow2; have HC2 := hid cw2; have HB2 := hid bl2; clear ow2 cw2 bl2))
                              go_roundg (gk - 1)
                              case measure => omega
                              case rel =>
                                have hB2 := HB2.out
                                simp only [World.size_alloc] at hB2
                                refine ⟨j + 1, ao2, cap2, _, by omega, by simp, rfl, by rw [List.length_append, HYL.out]; rfl, HO2.out, fun q e => ?_, (HGg.out.alloc _).trans HC2.out (fun q e => HBg.out q e)⟩
                                rcases hB2 q e with e | e
                                · exact HBg.out q e
                                · exact .inr (by omega)
                            · have hj16 : j = 16 := by omega
                              subst hj16
                              obtain ⟨W21, hW21⟩ : ∃ x, x = wr := ⟨_, rfl⟩
                              subst hW21
                              have nb : ∀ q, ¬ Blk (.slice none 0 0) q := fun q e => by cases e
                              have HQ21 := hid (HQ20.out.ch HGg.out (fun q _ e' => nb q e'))
                              have HM21 := hid (HM20.out.ch HGg.out (fun q _ _ e' => nb q e'))
                              have HG21 := hid (HG20.out.trans HGg.out (fun q e => (nb q e).elim))
                              clear nb
                              go_wp2_with fail
                              refine (all_any (base ≤ ·) b _ L W21 HQ21.out.1 HQ21.out.2.1.lst HQ21.out.2.2.2).mono ?_
                              rintro e w30 ⟨vz, rfl, o30, g30⟩
                              have HZ30 := hid o30
                              have HR30 := hid (HM21.out.ch g30 (fun _ _ _ => noB _))
                              have HG30 := hid (HG21.out.trans' g30)
                              clear o30 g30
                              go_wp2_with fail
                              refine (same_eq _ _ _ _ L w30 HZ30.out.lst HR30.out (by have := HQ21.out.2.2.2; omega)).mono ?_
                              rintro e w31 ⟨rfl, m31, rfl⟩
                              go_wp2
                              go_ret
                              exact ⟨rfl, HG30.out.drewN _⟩
                      · have hp : ¬ p < 1 := fun e => hpr (.inl e)
                        have hr : ¬ r < 0 := fun e => hpr (.inr e)
                        obtain ⟨D, hD⟩ : ∃ D, D = L.drop (batchN p r L.length) := ⟨_, rfl⟩
                        obtain ⟨T, hT⟩ : ∃ T, T = L.take (batchN p r L.length) := ⟨_, rfl⟩
                        have hB := batch_any2 base b _ p r L (w15.drewN m16) HQ15.out hp hr
                        have hR := fun W' (h : Lst (fun q => w3.heap.size ≤ q ∧ q < w4.heap.size) W' (.slice am k cm) L) (hw : w4.heap.size ≤ W'.heap.size) => rbatch_any (fun q => w3.heap.size ≤ q ∧ q < w4.heap.size) (.slice am k cm) p r L W' h hLn2 hp hr (fun q h => by have := h.2; omega)
                        rw [← hD, ← hT] at hB hR
                        have HB := hid hB
                        have HR := hid hR
                        obtain ⟨t, ht⟩ : ∃ t, t = T.length := ⟨_, rfl⟩
                        have ht4 : t ≤ 4096 := by rw [ht, hT, List.length_take]; omega
                        have HT := hid ht
                        have t16 : IntKind.i64.wrap ((t : Int) + 16) = (t : Int) + 16 := by rw [IntKind.wrap_i64]; omega
                        clear hB hR hD hT hpr hp hr ht
                        refine HB.out.mono ?_
                        rintro e w17 ⟨out17, rfl, o17, v17, q17, g17, b17⟩
                        obtain ⟨ax, cx, rfl⟩ := o17.form
                        rw [← HT.out] at o17 ⊢
                        have hs17 : w15.heap.size ≤ w17.heap.size := g17.size
                        have HX17 := hid o17
                        have HXB := hid (fun q (e : Blk (.slice ax t cx) q) => (show w15.heap.size ≤ q ∧ q < w17.heap.size from ⟨(o17.blk e).1, (o17.blk e).2⟩))
                        have HQ17 := hid q17
                        have HV17 := hid (show ∀ q, QS b v17 q → q < w3.heap.size from fun q e => by rcases e with e | e; exact (HQS.out q (.inl e)).2; exact (HQS.out q (.inr (b17 q e))).2)
                        have HM17 := hid (Lst.ch (w := w15.drewN m16) HM15.out g17 (fun q _ h e => by have := (HQS.out q e).2; omega))
                        have HG17 := hid ((HG15.out.drewN m16).trans g17 (fun q e => .inr (by have := (HQS.out q e).1; omega)))
                        clear o17 q17 g17 b17 HB
                        go_wp2_with fail
                        refine (HR.out w17 HM17.out (by omega)).mono ?_
                        rintro e w18 ⟨ar, cr, out18, rfl, l18, o18, g18⟩
                        obtain ⟨aw, cw, rfl⟩ := o18.form
                        rw [← HT.out] at o18 ⊢
                        have hs18 := g18.size
                        have HR18 := hid l18
                        have HW18 := hid o18
                        have HX18 := hid (HX17.out.ch g18 (fun _ _ => noB _))
                        have HQ18 := hid (HQ17.out.ch g18 (fun _ _ => noB _))
                        have HG18 := hid (HG17.out.trans' g18)
                        clear l18 o18 g18 HR
                        go_wp2_with fail
                        refine (same_eq _ _ _ _ T w18 HX18.out.lst HW18.out.lst (by have := HT.out; omega)).mono ?_
                        rintro e w19 ⟨rfl, m19, rfl⟩
                        have HNf := hid (show T.length = t from HT.out.symm)
                        go_wp2_with fail
                        go_loopg [23] t (fun m i wv => ∃ (j : Nat) (ys : List W3), j + m = t ∧ i = .int .i64 ((j : Nat) : Int) ∧ ys.length = t ∧ Own (w15.drewN m16).heap.size wv (.slice ax t cx) ys ∧ Ch (Blk (.slice ax t cx)) w18 wv)
                        case atStart => exact ⟨0, _, by omega, rfl, by have := HNf.out; omega, HX18.out, (by first | exact Ch.refl _ _ | exact (Ch.refl _ _).drewN _ | exact ((Ch.refl _ _).drewN _).drewN _)⟩
                        case round =>
                          obtain ⟨j, ys, hjm, rfl, hyl, ho, hg⟩ := hrel
                          have HOf := hid ho
                          have HGf := hid hg
                          have hszf := hg.size
                          clear ho hg
                          by_cases hj : j < t
                          · have hLl : j < ys.length := by omega
                            obtain ⟨g1, y, rfl, _, hg1, b0, b1, b2, hf⟩ := HOf.out.get1 hLl
                            have f0 := hf (j * 3)
                            have f1 := hf (j * 3 + 1)
                            have f2 := hf (j * 3 + 2)
                            have HS := hid (own_set ⟨0, 0, 96⟩ HOf.out hLl)
                            have HSL := hid (set_len ys ⟨0, 0, 96⟩ j hLl)
                            have HC := hid (set_ch (w := wr) (g := g1) (i := j) ⟨0, 0, 96⟩)
                            have j0 : (0 : Int) ≤ (j : Int) := by omega
                            have j1 : (j : Int) < (t : Int) := by omega
                            clear hf
                            go_wp2
                            go_roundg (gk - 1)
                            case measure => omega
                            case rel => exact ⟨j + 1, _, by omega, by simp, by rw [HSL.out]; omega, HS.out, HGf.out.trans HC.out (fun q e => .inl (by have : q = g1 := e; subst this; rfl))⟩
                          · obtain ⟨W20, hW20⟩ : ∃ x, x = wr := ⟨_, rfl⟩
                            subst hW20
                            have HNg := hid (show ys.length = t + 0 from hyl)
                            have HQ20 := hid (HQ18.out.ch HGf.out (fun q e e' => by have := (HXB.out q e').1; have := HV17.out q e; omega))
                            have HR20 := hid (HR18.out.ch HGf.out (fun q _ h e' => by have h1 := HXB.out q e'; rcases h with h | h; have := h.2; omega; omega))
                            have HG20 := hid (HG18.out.trans HGf.out (fun q e => .inr (by have := (HXB.out q e).1; have := HG15.out.size; omega)))
                            have hs20 := hszf
                            have hB15 : (w15.drewN m16).heap.size = w15.heap.size := rfl
                            clear HGf hyl
                            go_wp2_with fail
                            go_loopg [18, 24] 16 (fun m tt i wv => ∃ (j : Nat) (ao : Option Addr) (c : Nat) (ys : List W3), j + m = 16 ∧ i = .int .i64 ((j : Nat) : Int) ∧ tt = .slice ao (t + j) c ∧ ys.length = t + j ∧ Own (w15.drewN m16).heap.size wv (.slice ao (t + j) c) ys ∧ (∀ q, Blk (.slice ao (t + j) c) q → Blk (.slice ax t cx) q ∨ W20.heap.size ≤ q) ∧ Ch (Blk (.slice ax t cx)) W20 wv)
                            case atStart => exact ⟨0, _, _, _, by omega, rfl, rfl, HNg.out, HOf.out, fun q e => .inl e, Ch.refl _ _⟩
                            case round =>
                              obtain ⟨j, ao, c, ys, hjm, rfl, rfl, hyl, ho, hb, hg⟩ := hrel
                              have HOg := hid ho
                              have HBg := hid hb
                              have HGg := hid hg
                              have hszg := hg.size
                              have HYL := hid hyl
                              clear ho hb hg hyl
                              by_cases hj : j < 16
                              · have j1 : (j : Int) < 16 := by omega
                                go_wp2_with (first | (at_builtin; refine wpList_append_own2 rfl (.tmp 158) (.tmp 160) rfl (w15.drewN m16).heap.size _ _ rfl (Own.alloc HOg.out _) _ _ [⟨0, 0, 95⟩] rfl (lst_three (Three.new _ ⟨0, 0, 95⟩)) (t + j + 1) (by rw [HYL.out]; rfl) (by omega) (by simp <;> omega) _ rfl ?_; intro ao2 cap2 w2' ow2 cw2 bl2; have HO2 := hid ow2; have HC2 := hid cw2; have HB2 := hid bl2; clear ow2 cw2 bl2))
                                go_roundg (gk - 1)
                                case measure => omega
                                case rel =>
                                  have hB2 := HB2.out
                                  simp only [World.size_alloc] at hB2
                                  refine ⟨j + 1, ao2, cap2, _, by omega, by simp, rfl, by rw [List.length_append, HYL.out]; rfl, HO2.out, fun q e => ?_, (HGg.out.alloc _).trans HC2.out (fun q e => HBg.out q e)⟩
                                  rcases hB2 q e with e | e
                                  · exact HBg.out q e
                                  · exact .inr (by omega)
                              · have hj16 : j = 16 := by omega
                                subst hj16
                                obtain ⟨W21, hW21⟩ : ∃ x, x = wr := ⟨_, rfl⟩
                                subst hW21
                                have HQ21 := hid (HQ20.out.ch HGg.out (fun q e e' => by have := (HXB.out q e').1; have := HV17.out q e; omega))
                                have HR21 := hid (HR20.out.ch HGg.out (fun q _ h e' => by have h1 := HXB.out q e'; rcases h with h | h; have := h.2; omega; omega))
                                have HG21 := hid (HG20.out.trans HGg.out (fun q e => .inr (by have := (HXB.out q e).1; have := HG15.out.size; omega)))
                                go_wp2_with fail
                                refine (all_any (base ≤ ·) b _ D W21 HQ21.out.1 HQ21.out.2.1.lst HQ21.out.2.2.2).mono ?_
                                rintro e w30 ⟨vz, rfl, o30, g30⟩
                                have HZ30 := hid o30
                                have HR30 := hid (HR21.out.ch g30 (fun _ _ _ => noB _))
                                have HG30 := hid (HG21.out.trans' g30)
                                clear o30 g30
                                go_wp2_with fail
                                refine (same_eq _ _ _ _ D w30 HZ30.out.lst HR30.out (by have := HQ21.out.2.2.2; omega)).mono ?_
                                rintro e w31 ⟨rfl, m31, rfl⟩
                                go_wp2
                                go_ret
                                exact ⟨rfl, HG30.out.drewN _⟩
end Go.Proofs.Ytphohfafehjafaa.Ff
