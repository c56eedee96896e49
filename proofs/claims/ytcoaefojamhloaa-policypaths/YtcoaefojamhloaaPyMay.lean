/-
  What May answers: the program and the document. Condition: the list is not too long.
-/
import Derived.Test.YtcoaefojamhloaaPyAsk
import Derived.Test.YtcoaefojamhloaaPyRChk
namespace Go.Proofs.Ytcoaefojamhloaa.Lt
open Go.RowKit Wd
attribute [local go_sem ↓] Go.wp_at_zero Go.wp_at_succ
set_option maxRecDepth 20000

def isE (x : Eg) (a b : Int) : Bool := decide (x.f = a) && decide (x.t = b)
theorem edgB_cons (x : Eg) (r : List Eg) (a b : Int) : edgB (x :: r) a b = (isE x a b || edgB r a b) := rfl
set_option maxHeartbeats 4000000 in
theorem index_any (w : World) (a : Option Addr) (m c : Nat) (l : List Eg) (h : Le w (.slice a m c) l) (hm : m ≤ 8796093022208) (x y : Int) :
    Calls Try.prog 32 #[.slice a m c, .agg #[.int .i64 x, .int .i64 y]] w fun e w' => (∃ i : Int, e = .returned (.int .i64 i) ∧ edgB l x y = decide (0 ≤ i)) ∧ Gr w w' := by
  obtain ⟨A, hA⟩ : ∃ A, A = w.alloc (.cells #[.int .i64 x, .int .i64 y] 42) := ⟨_, rfl⟩
  have HX := hide (show ∀ W, Gr A W → _ from fun W g => box2 (by rw [hA] at g; exact g))
  have BX := hide (show ∀ W, Gr A W → W.heap[w.heap.size]? = some (.cells #[.int .i64 x, .int .i64 y] 42 (0, 0)) from fun W g => gr_blk (by rw [hA]; exact al_at _ rfl) g)
  have HL := hide h
  have HM := hide (show m = l.length from h.len.1)
  obtain ⟨R, hR⟩ : ∃ R, R = edgB (l.drop 0) x y := ⟨_, rfl⟩
  have HR := hide hR.symm
  have hR2 : edgB l x y = R := hR.symm
  rw [hR2]
  clear h hR hR2
  go_enter Try.func32, Try.ntmps32
  go_wp2_with fail
  rw [← hA]
  clear hA
  go_loopg [8] m (fun k i wr => ∃ (j : Nat), j + k = m ∧ i = .int .i64 (j : Int) ∧ edgB (l.drop j) x y = R ∧ Gr A wr)
  case atStart => exact ⟨0, by omega, rfl, HR.out, Gr.refl _⟩
  case round =>
    obtain ⟨j, hjk, rfl, hr, hg⟩ := hrel
    obtain ⟨V, hV⟩ : ∃ V, V = wr := ⟨_, rfl⟩
    subst hV
    have HH := hide hr
    have G := hide hg
    obtain ⟨v0, v1, vl, gw⟩ := HX.out _ hg
    have GW := hide gw
    have vb := BX.out _ hg
    by_cases hj : j < m
    · have hj' : (j : Int) < (m : Int) := by omega
      have hj0 : (0 : Int) ≤ (j : Int) := by omega
      have hjm : (j : Int) < 8796093022208 := by omega
      have hjl : j < l.length := by rw [← HM.out]; exact hj
      have hjx : l[j]? = some l[j] := List.getElem?_eq_getElem hjl
      have HD := hide (show l.drop j = l[j] :: l.drop (j + 1) from List.drop_eq_getElem_cons hjl)
      obtain ⟨g, o, rfl, gl, gc, x0, x1⟩ := eg_at (HL.out.gr gw) hjx
      generalize l[j] = z at *
      have HN := hide (show edgB (l.drop j) x y = (isE z x y || edgB (l.drop (j + 1)) x y) by rw [HD.out]; rfl)
      have HC := hide (show isE z x y = (decide (z.f = x) && decide (z.t = y)) from rfl)
      clear hr hg gw hjx hjl HD
      by_cases e1 : x = z.f
      · have q1 : (x == z.f) = true := by simpa using e1
        by_cases e2 : y = z.t
        · have q2 : (y == z.t) = true := by simpa using e2
          have HE := hide <| show R = decide (0 ≤ (j : Int)) by rw [← HH.out, HN.out, HC.out, decide_eq_true e1.symm, decide_eq_true e2.symm, decide_eq_true hj0]; rfl
          clear HC HN
          go_wp2_with (go_big_quiet (fail))
          go_ret
          exact ⟨⟨_, rfl, HE.out⟩, Ch.drewN GW.out _⟩
        · have q2 : (y == z.t) = false := by simpa using e2
          have HF := hide (show edgB (l.drop (j + 1)) x y = R by rw [← HH.out, HN.out, HC.out, decide_eq_false (show ¬ z.t = y from fun q => e2 q.symm)]; simp)
          clear HC HN e1 e2
          go_wp2_with (go_big_quiet (fail))
          go_roundg (m - (j + 1))
          case measure => omega
          case rel =>
            refine ⟨j + 1, by omega, ?_, HF.out, Ch.drewN G.out _⟩
            first | with_reducible rfl | simp
      · have q1 : (x == z.f) = false := by simpa using e1
        have HF := hide (show edgB (l.drop (j + 1)) x y = R by rw [← HH.out, HN.out, HC.out, decide_eq_false (show ¬ z.f = x from fun q => e1 q.symm)]; simp)
        clear HC HN e1
        go_wp2_with (go_big_quiet (fail))
        go_roundg (m - (j + 1))
        case measure => omega
        case rel =>
          refine ⟨j + 1, by omega, ?_, HF.out, Ch.drewN G.out _⟩
          first | with_reducible rfl | simp
    · have hj' : ¬ ((j : Int) < (m : Int)) := by omega
      have HE : Hid (R = decide (0 ≤ (-1 : Int))) := hide <| by
        have : l.drop j = [] := List.drop_of_length_le (by rw [← HM.out]; omega)
        rw [← HH.out, this]
        rfl
      clear hr hg gw
      go_wp2
      go_ret
      exact ⟨⟨-1, rfl, HE.out⟩, GW.out⟩
theorem has_any (w : World) (a : Option Addr) (m c : Nat) (l : List Eg) (h : Le w (.slice a m c) l) (hm : m ≤ 8796093022208) (x y : Int) :
    Calls Try.prog 25 #[.slice a m c, .agg #[.int .i64 x, .int .i64 y]] w fun e w' => e = .returned (.bool (edgB l x y)) ∧ Gr w w' := by
  have CI := hide (fun W (g : Gr w W) => index_any W a m c l (h.gr g) hm x y)
  generalize edgB l x y = R at CI ⊢
  obtain ⟨A, hA⟩ : ∃ A, A = w.alloc (.cells #[.int .i64 x, .int .i64 y] 42) := ⟨_, rfl⟩
  have GA := hide (show Gr w A by rw [hA]; exact Ch.alloc (Gr.refl w) _)
  go_enter Try.func25, Try.ntmps25
  go_wp2_with fail
  rw [← hA]
  refine (CI.out _ GA.out).mono ?_
  rintro e w1 ⟨⟨i, rfl, rfl⟩, g1⟩
  have G1 := hide (Gr.trans GA.out g1)
  clear g1
  go_wp2
  go_ret
  exact ⟨rfl, G1.out⟩
set_option maxHeartbeats 4000000 in
theorem redge_any (w : World) (a : Option Addr) (m c : Nat) (l : List Eg) (h : Le w (.slice a m c) l) (hm : m ≤ 8796093022208) (x y : Int) :
    Calls Try.prog 27 #[.slice a m c, .int .i64 x, .int .i64 y] w fun e w' => e = .returned (.bool (edgB l x y)) ∧ Gr w w' := by
  have HL := hide h
  have HM := hide (show m = l.length from h.len.1)
  obtain ⟨R, hR⟩ : ∃ R, R = edgB (l.drop 0) x y := ⟨_, rfl⟩
  have HR := hide hR.symm
  have hR2 : edgB l x y = R := hR.symm
  rw [hR2]
  clear h hR hR2
  go_enter Try.func27, Try.ntmps27
  go_wp2_with fail
  go_loopg [7] m (fun k i wr => ∃ (j : Nat), j + k = m ∧ i = .int .i64 (j : Int) ∧ edgB (l.drop j) x y = R ∧ Gr w wr)
  case atStart => exact ⟨0, by omega, rfl, HR.out, Gr.refl _⟩
  case round =>
    obtain ⟨j, hjk, rfl, hr, hg⟩ := hrel
    have HH := hide hr
    have G := hide hg
    by_cases hj : j < m
    · have hj' : (j : Int) < (m : Int) := by omega
      have hj0 : (0 : Int) ≤ (j : Int) := by omega
      have hjm : (j : Int) < 8796093022208 := by omega
      have hjl : j < l.length := by rw [← HM.out]; exact hj
      have hjx : l[j]? = some l[j] := List.getElem?_eq_getElem hjl
      have HD := hide (show l.drop j = l[j] :: l.drop (j + 1) from List.drop_eq_getElem_cons hjl)
      obtain ⟨g, o, rfl, gl, gc, x0, x1⟩ := eg_at (HL.out.gr hg) hjx
      generalize l[j] = z at *
      have HN := hide (show edgB (l.drop j) x y = (isE z x y || edgB (l.drop (j + 1)) x y) by rw [HD.out]; rfl)
      have HC := hide (show isE z x y = (decide (z.f = x) && decide (z.t = y)) from rfl)
      clear hr hg hjx hjl HD
      by_cases e1 : z.f = x
      · have q1 : (z.f == x) = true := by simpa using e1
        by_cases e2 : z.t = y
        · have q2 : (z.t == y) = true := by simpa using e2
          have e : R = true := by rw [← HH.out, HN.out, HC.out, decide_eq_true e1, decide_eq_true e2]; rfl
          subst e
          clear HC HN
          go_wp2
          go_ret
          exact ⟨rfl, G.out⟩
        · have q2 : (z.t == y) = false := by simpa using e2
          have HF := hide (show edgB (l.drop (j + 1)) x y = R by rw [← HH.out, HN.out, HC.out, decide_eq_false (show ¬ z.t = y from e2)]; simp)
          clear HC HN e1 e2
          go_wp2
          go_roundg (m - (j + 1))
          case measure => omega
          case rel =>
            refine ⟨j + 1, by omega, ?_, HF.out, G.out⟩
            first | with_reducible rfl | simp
      · have q1 : (z.f == x) = false := by simpa using e1
        have HF := hide (show edgB (l.drop (j + 1)) x y = R by rw [← HH.out, HN.out, HC.out, decide_eq_false (show ¬ z.f = x from e1)]; simp)
        clear HC HN e1
        go_wp2
        go_roundg (m - (j + 1))
        case measure => omega
        case rel =>
          refine ⟨j + 1, by omega, ?_, HF.out, G.out⟩
          first | with_reducible rfl | simp
    · have hj' : ¬ ((j : Int) < (m : Int)) := by omega
      have e : R = false := by
        have : l.drop j = [] := List.drop_of_length_le (by rw [← HM.out]; omega)
        rw [← HH.out, this]
        rfl
      subst e
      clear hr hg
      go_wp2
      go_ret
      exact ⟨rfl, G.out⟩
def mayE17 (n : Int) (l : List Eg) (x y : Int) : Ending := .returned (.tuple #[.bool (if wrgP n l [x, y] = 0 then edgB l x y else false), .int .i64 (wrgP n l [x, y])])
set_option maxHeartbeats 4000000 in
theorem may_any17 (w : World) (n : Int) (a : Option Addr) (m c : Nat) (l : List Eg) (h : Le w (.slice a m c) l) (hm : m ≤ 8796093022208) (x y : Int) :
    Calls Try.prog 13 #[.int .i64 n, .slice a m c, .int .i64 x, .int .i64 y] w fun e w' => e = mayE17 n l x y ∧ Gr w w' := by
  obtain ⟨A, hA⟩ : ∃ A, A = w.alloc (.cells #[.int .i64 x, .int .i64 y] 3) := ⟨_, rfl⟩
  have GA := hide (show Gr w A by rw [hA]; exact Ch.alloc (Gr.refl w) _)
  have C := hide (wrong_any A n a m c l (h.gr GA.out) hm (· = w.heap.size) (some ⟨w.heap.size, 0, none⟩) 2 2 [x, y] (by rw [hA]; exact ls_two w x y 3 _ rfl) (by omega))
  have CH := hide (fun W (g : Gr w W) => has_any W a m c l (h.gr g) hm x y)
  unfold wrgE at C
  unfold mayE17
  generalize wrgP n l [x, y] = E at *
  generalize edgB l x y = R at *
  clear h
  by_cases h0 : E = 0
  · subst h0
    rw [if_pos rfl]
    go_enter Try.func13, Try.ntmps13
    go_wp2_with fail
    rw [← hA]
    clear hA
    refine C.out.mono ?_
    rintro e w1 ⟨rfl, g1⟩
    have G1 := hide (Gr.trans GA.out g1)
    clear g1
    go_wp2_with fail
    refine (CH.out _ G1.out).mono ?_
    rintro e w2 ⟨rfl, g2⟩
    have G2 := hide (Gr.trans G1.out g2)
    clear g2
    go_wp2
    go_ret2
    exact ⟨rfl, G2.out⟩
  · rw [if_neg h0]
    have hne : (E != 0) = true := by simpa using h0
    clear h0
    go_enter Try.func13, Try.ntmps13
    go_wp2_with fail
    rw [← hA]
    clear hA
    refine C.out.mono ?_
    rintro e w1 ⟨rfl, g1⟩
    have G1 := hide (Gr.trans GA.out g1)
    clear g1
    go_wp2
    go_ret2
    exact ⟨rfl, G1.out⟩
set_option maxHeartbeats 4000000 in
theorem rmay_any17 (w : World) (n : Int) (a : Option Addr) (m c : Nat) (l : List Eg) (h : Le w (.slice a m c) l) (hm : m ≤ 8796093022208) (x y : Int) :
    Calls Try.prog 14 #[.int .i64 n, .slice a m c, .int .i64 x, .int .i64 y] w fun e w' => e = mayE17 n l x y ∧ Gr w w' := by
  have C := hide (asked_any w n a m c l h hm x y)
  have CH := hide (fun W (g : Gr w W) => redge_any W a m c l (h.gr g) hm x y)
  unfold wrgE at C
  unfold mayE17
  generalize wrgP n l [x, y] = E at *
  generalize edgB l x y = R at *
  clear h
  by_cases h0 : E = 0
  · subst h0
    rw [if_pos rfl]
    go_enter Try.func14, Try.ntmps14
    go_wp2_with fail
    refine C.out.mono ?_
    rintro e w1 ⟨rfl, g1⟩
    have G1 := hide g1
    clear g1
    go_wp2_with fail
    refine (CH.out _ G1.out).mono ?_
    rintro e w2 ⟨rfl, g2⟩
    have G2 := hide (Gr.trans G1.out g2)
    clear g2
    go_wp2
    go_ret2
    exact ⟨rfl, G2.out⟩
  · rw [if_neg h0]
    have hne : (E != 0) = true := by simpa using h0
    clear h0
    go_enter Try.func14, Try.ntmps14
    go_wp2_with fail
    refine C.out.mono ?_
    rintro e w1 ⟨rfl, g1⟩
    have G1 := hide g1
    clear g1
    go_wp2
    go_ret2
    exact ⟨rfl, G1.out⟩
end Go.Proofs.Ytcoaefojamhloaa.Lt
