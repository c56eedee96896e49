/-
  What Above answers: the program and the document. Condition: the list is not too long.
-/
import Derived.Test.YtcoaefojamhloaaPyRch
namespace Go.Proofs.Ytcoaefojamhloaa.Lt
open Go.RowKit Wd
attribute [local go_sem ↓] Go.wp_at_zero Go.wp_at_succ
set_option maxRecDepth 20000

/-- the domains below j that are so, rising -/
def abP (p : St) (j : Nat) : List Int := ((List.range j).filter p).map fun d : Nat => (d : Int)
theorem abP_yes {p : St} {j : Nat} (h : p j = true) : abP p (j + 1) = abP p j ++ [(j : Int)] := by
  unfold abP
  rw [List.range_succ, List.filter_append, List.map_append]
  simp [h]
theorem abP_no {p : St} {j : Nat} (h : p j = false) : abP p (j + 1) = abP p j := by
  unfold abP
  rw [List.range_succ, List.filter_append, List.map_append]
  simp [h]
theorem abP_len (p : St) (j : Nat) : (abP p j).length ≤ j := by
  unfold abP
  rw [List.length_map]
  have := List.length_filter_le p (List.range j)
  rw [List.length_range] at this
  exact this
theorem abP_congr {p q : St} {n : Nat} (h : ∀ j, j < n → p j = q j) : ∀ j, j ≤ n → abP p j = abP q j := by
  intro j
  induction j with
  | zero => intro _; rfl
  | succ j ih =>
    intro hj
    have e := h j (by omega)
    cases hq : q j
    · rw [abP_no (e.trans hq), abP_no hq, ih (by omega)]
    · rw [abP_yes (e.trans hq), abP_yes hq, ih (by omega)]
/-- what Above tells -/
def abvI (n : Int) (l : List Eg) (x : Int) : List Int := if wrgP n l [x] = 0 then abP (fun d => pthR n.toNat l d x.toNat) n.toNat else []
theorem abvI_len (n : Int) (l : List Eg) (x : Int) : (abvI n l x).length ≤ 16 := by
  unfold abvI
  split
  · rename_i h
    have := (wrgP_ok h).2.1
    have := abP_len (fun d => pthR n.toNat l d x.toNat) n.toNat
    omega
  · simp
/-- a list of numbers in new memory, and an error -/
def NumR (w : World) (xs : List Int) (E : Int) (e : Ending) (w' : World) : Prop := ∃ ao cap, e = .returned (.tuple #[.slice ao xs.length cap, .int .i64 E]) ∧ Ls eI (w.heap.size ≤ ·) w' (.slice ao xs.length cap) xs ∧ Gr w w'
theorem wrgP_two {n : Int} {l : List Eg} {x : Int} : wrgP n l [x, x] = wrgP n l [x] := by
  unfold wrgP
  simp
set_option maxHeartbeats 8000000 in
theorem above_any (w : World) (n : Int) (a : Option Addr) (m c : Nat) (l : List Eg) (h : Le w (.slice a m c) l) (hm : m ≤ 8796093022208) (x : Int) :
    Calls Try.prog 17 #[.int .i64 n, .slice a m c, .int .i64 x] w fun e w' => NumR w (abvI n l x) (wrgP n l [x]) e w' := by
  obtain ⟨A, hA⟩ : ∃ A, A = w.alloc (.cells #[.int .i64 x] 3) := ⟨_, rfl⟩
  have GA := hide (show Gr w A by rw [hA]; exact Ch.alloc (Gr.refl w) _)
  have C := hide (wrong_any A n a m c l (h.gr GA.out) hm (· = w.heap.size) (some ⟨w.heap.size, 0, none⟩) 1 1 [x] (by rw [hA]; exact ls_at w x 3 _ _ rfl rfl) (by omega))
  unfold wrgE at C
  by_cases h0 : wrgP n l [x] = 0
  · obtain ⟨n1, n2, ok, hd⟩ := wrgP_ok h0
    have hx := hd x (by simp)
    have hI : abvI n l x = abP (fun d => pthR n.toNat l d x.toNat) n.toNat := if_pos h0
    obtain ⟨N, rfl⟩ : ∃ N : Nat, n = (N : Int) := ⟨n.toNat, by omega⟩
    obtain ⟨X, rfl⟩ : ∃ X : Nat, x = (X : Int) := ⟨x.toNat, by omega⟩
    rw [Int.toNat_natCast, Int.toNat_natCast] at hI
    have CP := hide (fun W (g : Gr w W) => paths_any W N (by omega) a m c l (h.gr g) hm ok)
    have hN : N ≤ 16 := by omega
    have hX : X < 16 := by omega
    have hX0 : (0 : Int) ≤ (X : Int) := by omega
    have hX1 : (X : Int) < 16 := by omega
    have hz := zrel_run
    rw [h0] at C ⊢
    rw [hI]
    generalize pthR N l = r at CP ⊢
    have HLN := hide (abP_len fun d => r d X)
    clear h ok hd n1 n2 h0 hI hx
    go_enter Try.func17, Try.ntmps17
    go_wp2_with fail
    rw [← hA]
    clear hA
    refine C.out.mono ?_
    rintro e w1 ⟨rfl, g1⟩
    have G1 := hide (Gr.trans GA.out g1)
    clear g1
    go_wp2_with fail
    refine (CP.out _ G1.out).mono ?_
    rintro e w2 ⟨cs, rfl, ts, g2⟩
    have G2 := hide (Gr.trans G1.out g2)
    have TS := hide ts
    have hcs := ts.1
    have AL := hide (al_at (w := w2) (.cells zrel 55) rfl)
    clear g2 ts
    go_wp2_with (refine st_row rfl 55 (.tmp 9) (.tmp 22) rfl w2.heap.size cs rfl rfl _ _ AL.out (by rw [hcs]; exact rel_size) (by rw [hcs]; simp [zrel]) TS.out.one ?_; intro w9 b9 k9; have B9 := hide b9; have K9 := hide k9; clear b9 k9)
    have R9 := hide (show RAt w9 w2.heap.size r from ⟨cs, B9.out, TS.out⟩)
    have G9 := hide (show Gr w w9 from Ch.trans (Ch.alloc G2.out _) K9.out (fun q e => .inr (by have e1 : q = w2.heap.size := e; have := G2.out.size; omega)))
    go_loopg [10, 24] N (fun k lv i wr => ∃ (j : Nat), j + k = N ∧ i = .int .i64 (j : Int) ∧ Ow eI 1 3 w9.heap.size wr lv (abP (fun d => r d X) j) ∧ Gr w9 wr)
    case atStart => exact ⟨0, by omega, rfl, Ow.nil _ _ _ _ _, Gr.refl _⟩
    case round =>
      obtain ⟨j, hjk, rfl, ho, hg⟩ := hrel
      obtain ⟨ao, cap, rfl⟩ := ho.form
      have HO := hide ho
      have G := hide hg
      by_cases hj : j < N
      · have hj' : (j : Int) < (N : Int) := by omega
        have hj0 : (0 : Int) ≤ (j : Int) := by omega
        have hj16 : (j : Int) < 16 := by omega
        have rr := R9.out.gr hg
        have c0 := rr.cell (i := j) (j := X) (by omega) hX
        have pl := rr.lt
        have hl16 := HLN.out j
        have HL := hide hl16
        clear ho hg rr hl16
        cases hp : r j X
        · have HN := hide (abP_no (p := fun d => r d X) hp)
          rw [hp] at c0
          go_wp2
          go_roundg (N - (j + 1))
          case measure => omega
          case rel =>
            refine ⟨j + 1, by omega, ?_, by rw [HN.out]; exact HO.out, G.out⟩
            first | with_reducible rfl | simp
        · have HN := hide (abP_yes (p := fun d => r d X) hp)
          rw [hp] at c0
          generalize abP (fun d => r d X) j = xs at *
          have HS := hide G.out.size
          go_wp2_with (at_builtin; refine wpList_append_ow eI_len rfl (.tmp 32) (.tmp 34) _ 3 8 _ Try.underlying34 int_info rfl (by omega) rfl w9.heap.size _ xs rfl (HO.out.alloc _) _ _ [(j : Int)] rfl (Ls.single wr (j : Int) 3 #[.int .i64 (j : Int)] rfl) (eI_one _) (xs.length + 1) (by simp) (by have := HL.out; omega) (by unfold maxLen; have := HL.out; omega) (by simp; have := HS.out; omega) (xs ++ [(j : Int)]) rfl ?_; intro ao5 cap5 w5 ow5 cw5 bl5; have O5 := hide ow5; have C5 := hide (show Gr w9 w5 from Ch.trans (Ch.alloc G.out _) cw5 (fun q e => .inr (HO.out.blk e).1)); clear ow5 cw5 bl5)
          go_roundg (N - (j + 1))
          case measure => omega
          case rel =>
            refine ⟨j + 1, by omega, ?_, by rw [HN.out]; exact O5.out, C5.out⟩
            first | with_reducible rfl | simp
      · have hj' : ¬ ((j : Int) < (N : Int)) := by omega
        have hje : j = N := by omega
        subst hje
        clear ho hg
        go_wp2
        go_ret2
        exact ⟨ao, cap, rfl, HO.out.lst.mono (fun _ _ q => by have := G9.out.size; omega), Gr.trans G9.out G.out⟩
  · have hI : abvI n l x = [] := if_neg h0
    rw [hI]
    generalize wrgP n l [x] = E at *
    have hne : (E != 0) = true := by simpa using h0
    clear h hI h0
    go_enter Try.func17, Try.ntmps17
    go_wp2_with fail
    rw [← hA]
    clear hA
    refine C.out.mono ?_
    rintro e w1 ⟨rfl, g1⟩
    have G1 := hide (Gr.trans GA.out g1)
    clear g1
    go_wp2
    go_ret2
    exact ⟨none, 0, rfl, Ls.nil _ _ _, G1.out⟩
set_option maxHeartbeats 8000000 in
theorem rabove_any (w : World) (n : Int) (a : Option Addr) (m c : Nat) (l : List Eg) (h : Le w (.slice a m c) l) (hm : m ≤ 8796093022208) (x : Int) :
    Calls Try.prog 18 #[.int .i64 n, .slice a m c, .int .i64 x] w fun e w' => NumR w (abvI n l x) (wrgP n l [x]) e w' := by
  have C := hide (asked_any w n a m c l h hm x x)
  unfold wrgE at C
  rw [wrgP_two] at C
  by_cases h0 : wrgP n l [x] = 0
  · obtain ⟨n1, n2, ok, hd⟩ := wrgP_ok h0
    have hx := hd x (by simp)
    have hI : abvI n l x = abP (fun d => pthR n.toNat l d x.toNat) n.toNat := if_pos h0
    obtain ⟨N, rfl⟩ : ∃ N : Nat, n = (N : Int) := ⟨n.toNat, by omega⟩
    obtain ⟨X, rfl⟩ : ∃ X : Nat, x = (X : Int) := ⟨x.toNat, by omega⟩
    rw [Int.toNat_natCast, Int.toNat_natCast, abP_congr (q := fun d => itS l N (sgl d) X) (n := N) (fun j hj => (rch_pth ok hj).symm) N (Nat.le_refl _)] at hI
    have CP := hide (fun W (g : Gr w W) d (hd : d < N) => reached_any W N (by omega) a m c l (h.gr g) hm ok d hd)
    have hN : N ≤ 16 := by omega
    have hXN : X < N := by omega
    have hX0 : (0 : Int) ≤ (X : Int) := by omega
    have hX1 : (X : Int) < (N : Int) := by omega
    rw [h0] at C ⊢
    rw [hI]
    have HLN := hide (abP_len fun d => itS l N (sgl d) X)
    clear h ok hd n1 n2 h0 hI hx
    go_enter Try.func18, Try.ntmps18
    go_wp2_with fail
    refine C.out.mono ?_
    rintro e w1 ⟨rfl, g1⟩
    have G1 := hide g1
    clear g1
    go_wp2_with fail
    go_loopg [9, 10] N (fun k lv i wr => ∃ (j : Nat), j + k = N ∧ i = .int .i64 (j : Int) ∧ Ow eI 1 3 w.heap.size wr lv (abP (fun d => itS l N (sgl d) X) j) ∧ Gr w wr)
    case atStart => exact ⟨0, by omega, rfl, (ow_empty _ _).lower G1.out.size, Ch.alloc G1.out _⟩
    case round =>
      obtain ⟨j, hjk, rfl, ho, hg⟩ := hrel
      obtain ⟨ao, cap, rfl⟩ := ho.form
      have HO := hide ho
      have G := hide hg
      by_cases hj : j < N
      · have hj' : (j : Int) < (N : Int) := by omega
        have hj0 : (0 : Int) ≤ (j : Int) := by omega
        have hj16 : (j : Int) < 16 := by omega
        have CJ := hide (CP.out wr hg j hj)
        have hl16 := HLN.out j
        have HL := hide hl16
        clear ho hg hl16
        cases hp : itS l N (sgl j) X
        · have HN := hide (abP_no (p := fun d => itS l N (sgl d) X) hp)
          go_wp2_with fail
          refine CJ.out.mono ?_
          rintro e w2 ⟨rfl, b2, g2⟩
          obtain ⟨c0, -, cz, -⟩ := b2.bit hXN
          rw [hp] at c0
          have G2 := hide g2
          clear g2 b2
          go_wp2
          go_roundg (N - (j + 1))
          case measure => omega
          case rel =>
            refine ⟨j + 1, by omega, ?_, by rw [HN.out]; exact HO.out.gr G2.out, Gr.trans G.out G2.out⟩
            first | with_reducible rfl | simp
        · have HN := hide (abP_yes (p := fun d => itS l N (sgl d) X) hp)
          go_wp2_with fail
          refine CJ.out.mono ?_
          rintro e w2 ⟨rfl, b2, g2⟩
          obtain ⟨c0, -, cz, -⟩ := b2.bit hXN
          rw [hp] at c0
          have G2 := hide (Gr.trans G.out g2)
          have O2 := hide (HO.out.gr g2)
          clear g2 b2
          generalize abP (fun d => itS l N (sgl d) X) j = xs at *
          have HS := hide G2.out.size
          go_wp2_with (at_builtin; refine wpList_append_ow eI_len rfl (.tmp 32) (.tmp 34) _ 3 8 _ Try.underlying34 int_info rfl (by omega) rfl w.heap.size _ xs rfl (O2.out.alloc _) _ _ [(j : Int)] rfl (Ls.single w2 (j : Int) 3 #[.int .i64 (j : Int)] rfl) (eI_one _) (xs.length + 1) (by simp) (by have := HL.out; omega) (by unfold maxLen; have := HL.out; omega) (by simp; have := HS.out; omega) (xs ++ [(j : Int)]) rfl ?_; intro ao5 cap5 w5 ow5 cw5 bl5; have O5 := hide ow5; have C5 := hide (show Gr w w5 from Ch.trans (Ch.alloc G2.out _) cw5 (fun q e => .inr (O2.out.blk e).1)); clear ow5 cw5 bl5)
          go_roundg (N - (j + 1))
          case measure => omega
          case rel =>
            refine ⟨j + 1, by omega, ?_, by rw [HN.out]; exact O5.out, C5.out⟩
            first | with_reducible rfl | simp
      · have hj' : ¬ ((j : Int) < (N : Int)) := by omega
        have hje : j = N := by omega
        subst hje
        clear ho hg
        go_wp2
        go_ret2
        exact ⟨ao, cap, rfl, HO.out.lst, G.out⟩
  · have hI : abvI n l x = [] := if_neg h0
    rw [hI]
    generalize wrgP n l [x] = E at *
    have hne : (E != 0) = true := by simpa using h0
    clear h hI h0
    go_enter Try.func18, Try.ntmps18
    go_wp2_with fail
    refine C.out.mono ?_
    rintro e w1 ⟨rfl, g1⟩
    have G1 := hide g1
    clear g1
    go_wp2
    go_ret2
    exact ⟨none, 0, rfl, Ls.nil _ _ _, G1.out⟩
end Go.Proofs.Ytcoaefojamhloaa.Lt
