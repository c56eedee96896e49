/-
  What Check answers: the program and the document; why nothing is told: the program. Condition: the list is not too long.
-/
import Derived.Test.YtcoaefojamhloaaPyDom
namespace Go.Proofs.Ytcoaefojamhloaa.Lt
open Go.RowKit Wd
attribute [local go_sem ↓] Go.wp_at_zero Go.wp_at_succ
set_option maxRecDepth 20000

def chkE (n : Int) (l : List Eg) : Ending := .returned (.tuple #[.int .i64 (chkP n l).1, .int .i64 (chkP n l).2])
set_option maxHeartbeats 8000000 in
theorem check_any (w : World) (n : Int) (a : Option Addr) (m c : Nat) (l : List Eg) (h : Le w (.slice a m c) l) (hm : m ≤ 8796093022208) :
    Calls Try.prog 9 #[.int .i64 n, .slice a m c] w fun e w' => e = chkE n l ∧ Gr w w' := by
  have HL := hide h
  have HM := hide (show m = l.length from h.len.1)
  have HP := hide (show chkP n l = if n < 1 ∨ 16 < n then (0, 1) else chkL n 0 (l.drop 0) from rfl)
  have CM := hide (maybe_any n)
  unfold chkE
  generalize chkP n l = R at HP ⊢
  clear h
  by_cases h1 : n < 1
  · have e : R = (0, 1) := by rw [HP.out, if_pos (.inl h1)]
    subst e
    go_enter Try.func9, Try.ntmps9
    go_wp2
    go_ret2
    exact ⟨rfl, Gr.refl _⟩
  · by_cases h2 : 16 < n
    · have e : R = (0, 1) := by rw [HP.out, if_pos (.inr h2)]
      subst e
      go_enter Try.func9, Try.ntmps9
      go_wp2
      go_ret2
      exact ⟨rfl, Gr.refl _⟩
    · have HQ := hide (show chkL n 0 (l.drop 0) = R by rw [HP.out, if_neg (by omega)])
      clear HP
      go_enter Try.func9, Try.ntmps9
      go_wp2_with fail
      go_loopg [16] m (fun k i wr => ∃ (j : Nat), j + k = m ∧ i = .int .i64 (j : Int) ∧ chkL n j (l.drop j) = R ∧ Gr w wr)
      case atStart => exact ⟨0, by omega, rfl, HQ.out, Gr.refl _⟩
      case round =>
        obtain ⟨j, hjk, rfl, hr, hg⟩ := hrel
        have G := hide hg
        have HH := hide hr
        clear hr
        by_cases hj : j < m
        · have hj' : (j : Int) < (m : Int) := by omega
          have hj0 : (0 : Int) ≤ (j : Int) := by omega
          have hjm : (j : Int) < 8796093022208 := by omega
          have hjl : j < l.length := by rw [← HM.out]; exact hj
          have hjx : l[j]? = some l[j] := List.getElem?_eq_getElem hjl
          have HD := hide (show l.drop j = l[j] :: l.drop (j + 1) from List.drop_eq_getElem_cons hjl)
          obtain ⟨g, o, rfl, gl, gc, x0, x1⟩ := eg_at (HL.out.gr hg) hjx
          generalize l[j] = x at hjx HD x0 x1
          clear hjx hg
          have HN := hide (show chkL n j (l.drop j) = if egB n x = true then chkL n (j + 1) (l.drop (j + 1)) else ((j : Int), 170) by rw [HD.out]; rfl)
          go_wp2_with fail
          refine (CM.out x _).mono ?_
          rintro e w1 ⟨rfl, g1⟩
          have G1 := hide (Gr.trans (Ch.alloc G.out _) g1)
          cases hb : egB n x
          · have e : R = ((j : Int), 170) := by rw [← HH.out, HN.out, hb]; rfl
            subst e
            go_wp2
            go_ret2
            exact ⟨rfl, G1.out⟩
          · have HF := hide (show chkL n (j + 1) (l.drop (j + 1)) = R by rw [← HH.out, HN.out, hb]; rfl)
            go_wp2
            go_roundg (m - (j + 1))
            case measure => omega
            case rel =>
              refine ⟨j + 1, by omega, ?_, HF.out, G1.out⟩
              first | with_reducible rfl | simp
        · have hj' : ¬ ((j : Int) < (m : Int)) := by omega
          have e : R = (0, 0) := by
            have : l.drop j = [] := List.drop_of_length_le (by rw [← HM.out]; omega)
            rw [← HH.out, this]
            rfl
          subst e
          go_wp2
          go_ret2
          exact ⟨rfl, G.out⟩
/-- why nothing is told: the numbers that are asked about lie in a list -/
def wrgE (n : Int) (l : List Eg) (ds : List Int) : Ending := .returned (.int .i64 (wrgP n l ds))
set_option maxHeartbeats 8000000 in
theorem wrong_any (w : World) (n : Int) (a : Option Addr) (m c : Nat) (l : List Eg) (h : Le w (.slice a m c) l) (hm : m ≤ 8796093022208) (P : Nat → Prop) (b : Option Addr) (k d : Nat) (ds : List Int) (h2 : Ls eI P w (.slice b k d) ds) (hk : k ≤ 2) :
    Calls Try.prog 24 #[.int .i64 n, .slice a m c, .slice b k d] w fun e w' => e = wrgE n l ds ∧ Gr w w' := by
  have C := hide (check_any w n a m c l h hm)
  have HL := hide h2
  have HK := hide (show k = ds.length from h2.len.1)
  have CI := hide (isdom_any n)
  have HP := hide (show wrgP n l ds = if (chkP n l).2 = 0 then (if (ds.drop 0).all (dmB n) = true then 0 else 1) else (chkP n l).2 from rfl)
  unfold wrgE
  unfold chkE at C
  generalize wrgP n l ds = R at HP ⊢
  generalize chkP n l = q at *
  obtain ⟨q1, q2⟩ := q
  simp only at C HP
  clear h h2
  by_cases h0 : q2 = 0
  · have HQ := hide (show (if (ds.drop 0).all (dmB n) = true then (0 : Int) else 1) = R by rw [HP.out, if_pos h0])
    subst h0
    clear HP
    go_enter Try.func24, Try.ntmps24
    go_wp2_with fail
    refine C.out.mono ?_
    rintro e w1 ⟨rfl, g1⟩
    have G1 := hide g1
    clear g1
    go_wp2_with fail
    go_loopg [22] k (fun z i wr => ∃ (j : Nat), j + z = k ∧ i = .int .i64 (j : Int) ∧ (if (ds.drop j).all (dmB n) = true then (0 : Int) else 1) = R ∧ Gr w wr)
    case atStart => exact ⟨0, by omega, rfl, HQ.out, G1.out⟩
    case round =>
      obtain ⟨j, hjk, rfl, hr, hg⟩ := hrel
      have G := hide hg
      have HH := hide hr
      clear hr
      by_cases hj : j < k
      · have hj' : (j : Int) < (k : Int) := by omega
        have hj0 : (0 : Int) ≤ (j : Int) := by omega
        have hjm : (j : Int) < 2 := by omega
        have hjl : j < ds.length := by rw [← HK.out]; exact hj
        have hjx : ds[j]? = some ds[j] := List.getElem?_eq_getElem hjl
        have HD := hide (show ds.drop j = ds[j] :: ds.drop (j + 1) from List.drop_eq_getElem_cons hjl)
        obtain ⟨g, o, rfl, gl, gc, x0⟩ := in_at (HL.out.gr hg) hjx
        generalize ds[j] = x at hjx HD x0
        clear hjx hg
        have HN := hide (show (ds.drop j).all (dmB n) = (dmB n x && (ds.drop (j + 1)).all (dmB n)) by rw [HD.out]; rfl)
        go_wp2_with fail
        refine (CI.out x _).mono ?_
        rintro e w2 ⟨rfl, g2⟩
        have G2 := hide (Gr.trans G.out g2)
        cases hb : dmB n x
        · have e : R = 1 := by rw [← HH.out, HN.out, hb]; rfl
          subst e
          go_wp2
          go_ret
          exact ⟨rfl, G2.out⟩
        · have HF := hide (show (if (ds.drop (j + 1)).all (dmB n) = true then (0 : Int) else 1) = R by rw [← HH.out, HN.out, hb]; rfl)
          go_wp2
          go_roundg (k - (j + 1))
          case measure => omega
          case rel =>
            refine ⟨j + 1, by omega, ?_, HF.out, G2.out⟩
            first | with_reducible rfl | simp
      · have hj' : ¬ ((j : Int) < (k : Int)) := by omega
        have e : R = 0 := by
          have : ds.drop j = [] := List.drop_of_length_le (by rw [← HK.out]; omega)
          rw [← HH.out, this]
          rfl
        subst e
        go_wp2
        go_ret
        exact ⟨rfl, G.out⟩
  · have e : R = q2 := by rw [HP.out, if_neg h0]
    subst e
    have hne : (R != 0) = true := by simpa using h0
    clear HP
    go_enter Try.func24, Try.ntmps24
    go_wp2_with fail
    refine C.out.mono ?_
    rintro e w1 ⟨rfl, g1⟩
    have G1 := hide g1
    clear g1
    go_wp2
    go_ret
    exact ⟨rfl, G1.out⟩
end Go.Proofs.Ytcoaefojamhloaa.Lt
