/-
  What told of the statements of layer 11 answers: true, where the program's channels are the document's. Conditions: the channels are good.
  What does of the statements of layer 11 answers and leaves, act by act. Conditions: the channels are good, goroutines' numbers are ints.
  What does of the statements of layer 11 answers and leaves at Close, and at any act. Conditions: the channels are good, goroutines' numbers are ints.
-/
import Derived.Test.YtpkbgfneebjnjabCnMf
import Derived.Test.YtpkbgfneebjnjabCnGoes
import Derived.Test.YtpkbgfneebjnjabCpStm
import Derived.Test.YtpkbgfneebjnjabCpLives
import Derived.Deep.Cut
import Derived.Test.YtpkbgfneebjnjabCnMoved
import Derived.Test.YtpkbgfneebjnjabGnGrd
namespace Go.Proofs.Ytpkbgfneebjnjab.Lt
open Go.RowKit Wd
attribute [local go_sem ↓] Go.wp_at_zero Go.wp_at_succ

def lnF (cs : List Cn) (ch : Int) : Int × Int := match cAt cs ch with | some (_, c) => ((c.vs.length : Nat), 0) | none => (0, if ch = 0 then 0 else 4)
def cpF (cs : List Cn) (ch : Int) : Int × Int := match cAt cs ch with | some (_, c) => (c.cap, 0) | none => (0, if ch = 0 then 0 else 4)
def gsF (cs : List Cn) (ch : Int) (sd : Bool) : Bool × Int := match cAt cs ch with | some (_, c) => (goes c sd, 0) | none => (false, if ch = 0 then 0 else 4)
theorem tC_no {n : Nat} {ch : Int} (h : ¬ (1 ≤ ch ∧ ch ≤ (n : Int))) : tC n ch = if ch = 0 then 0 else 4 := by
  unfold tC
  by_cases e : ch = 0
  · rw [if_pos (.inl e), if_pos e]
  · rw [if_neg (fun q => q.elim e h), if_neg e]
section
variable {t : Nat → Tg} {w : World} {b : Nat} {cs : List Cn} {P : Nat → Prop} {v : Value}
theorem len_any (h : Cs t w b cs) (hn : cs.length ≤ 1024) (ch : Int) : Calls Try.prog 56 #[.pointer (some ⟨b, 0, none⟩), .int .i64 ch] w fun e w' => e = .returned (.tuple #[.int .i64 (lnF cs ch).1, .int .i64 (lnF cs ch).2]) ∧ w' = w := by
  unfold lnF
  rcases cAt_cases cs ch with ⟨i, c, rfl, hc, e⟩ | ⟨hq, e⟩ <;> rw [e]
  · exact len_yes h hc hn
  · exact len_no h ch hq
theorem cap_any (h : Cs t w b cs) (hn : cs.length ≤ 1024) (ch : Int) : Calls Try.prog 58 #[.pointer (some ⟨b, 0, none⟩), .int .i64 ch] w fun e w' => e = .returned (.tuple #[.int .i64 (cpF cs ch).1, .int .i64 (cpF cs ch).2]) ∧ w' = w := by
  unfold cpF
  rcases cAt_cases cs ch with ⟨i, c, rfl, hc, e⟩ | ⟨hq, e⟩ <;> rw [e]
  · exact cap_yes h hc hn
  · exact cap_no h ch hq
theorem goes_any (h : Cs t w b cs) (hn : cs.length ≤ 1024) (ch : Int) (sd : Bool) : Calls Try.prog 34 #[.pointer (some ⟨b, 0, none⟩), .int .i64 ch, .bool sd] w fun e w' => e = .returned (.tuple #[.bool (gsF cs ch sd).1, .int .i64 (gsF cs ch sd).2]) ∧ Gr w w' := by
  unfold gsF
  rcases cAt_cases cs ch with ⟨i, c, rfl, hc, e⟩ | ⟨hq, e⟩ <;> rw [e]
  · exact goes_yes h hc hn sd
  · exact goes_no h ch sd hq
theorem rlen_any (h : Rds P w v cs) (hn : cs.length ≤ 1024) (ch : Int) : Calls Try.prog 55 #[v, .int .i64 ch] w fun e w' => e = .returned (.tuple #[.int .i64 (lnF cs ch).1, .int .i64 (lnF cs ch).2]) ∧ w' = w := by
  obtain ⟨ao, cap, rfl⟩ := h.form
  unfold lnF
  rcases cAt_cases cs ch with ⟨i, c, rfl, hc, e⟩ | ⟨hq, e⟩ <;> rw [e]
  · exact rlen_yes P ao _ cap cs i c w h hc (by omega)
  · rw [← tC_no hq]
    exact rlen_no ao _ cap ch w hq
theorem rcap_any (h : Rds P w v cs) (hn : cs.length ≤ 1024) (ch : Int) : Calls Try.prog 57 #[v, .int .i64 ch] w fun e w' => e = .returned (.tuple #[.int .i64 (cpF cs ch).1, .int .i64 (cpF cs ch).2]) ∧ w' = w := by
  obtain ⟨ao, cap, rfl⟩ := h.form
  unfold cpF
  rcases cAt_cases cs ch with ⟨i, c, rfl, hc, e⟩ | ⟨hq, e⟩ <;> rw [e]
  · exact rcap_yes P ao _ cap cs i c w h hc (by omega)
  · rw [← tC_no hq]
    exact rcap_no ao _ cap ch w hq
theorem rgoes_any (h : Rds P w v cs) (hn : cs.length ≤ 1024) (ch : Int) (sd : Bool) : Calls Try.prog 33 #[v, .int .i64 ch, .bool sd] w fun e w' => e = .returned (.tuple #[.bool (gsF cs ch sd).1, .int .i64 (gsF cs ch sd).2]) ∧ Gr w w' := by
  obtain ⟨ao, cap, rfl⟩ := h.form
  unfold gsF
  rcases cAt_cases cs ch with ⟨i, c, rfl, hc, e⟩ | ⟨hq, e⟩ <;> rw [e]
  · exact rgoes_yes P ao _ cap cs i c sd w h hc (by omega)
  · rw [← tC_no hq]
    exact (rgoes_no ao _ cap ch sd w hq).mono (fun e w' q => ⟨q.1, by rw [q.2]; exact Gr.refl _⟩)
end
/-- an act -/
structure Ac where
  k : Int
  ch : Int
  s : Int
  g : Int
  v : Int
  c : Int
  sd : Bool
def eA (a : Ac) : List Value := [.int .i64 a.k, .int .i64 a.ch, .int .i64 a.s, .int .i64 a.g, .int .i64 a.v, .int .i64 a.c, .bool a.sd]
theorem eA_len (a : Ac) : (eA a).length = 7 := rfl
abbrev Ac.row (a : Ac) : Array Value := #[.int .i64 a.k, .int .i64 a.ch, .int .i64 a.s, .int .i64 a.g, .int .i64 a.v, .int .i64 a.c, .bool a.sd]
theorem act_size : (Try.prog.info? 39).map (·.size) = some 7 := by kernel_rfl
structure Sd (w : World) (ak ac as_ ag av acc : Int) (asd : Bool) (W : World) : Prop where
  g : Gr w W
  bx : W.heap[w.heap.size]? = some (.cells #[.int .i64 ak, .int .i64 ac, .int .i64 as_, .int .i64 ag, .int .i64 av, .int .i64 acc, .bool asd] 39 (0, 0))
theorem Sd.gr {w W W' : World} {ak ac as_ ag av acc : Int} {asd : Bool} (h : Sd w ak ac as_ ag av acc asd W) (k : Gr W W') : Sd w ak ac as_ ag av acc asd W' := ⟨Gr.trans h.g k, gr_blk h.bx k⟩
set_option maxHeartbeats 4000000 in
set_option maxRecDepth 20000 in
theorem told_any {t : Nat → Tg} {w : World} {b N : Nat} {cs : List Cn} {P : Nat → Prop} {v : Value} (h : Cs t w b cs) (hl : Rds P w v cs) (hG : Gd N cs) (hN : N < 4398046511104) (a : Ac) (hk : Gok a.s a.g) :
    Calls Try.prog 35 #[.pointer (some ⟨b, 0, none⟩), v, .agg a.row] w fun e w' => e = .returned (.bool true) ∧ Gr w w' := by
  obtain ⟨ak, ac, as_, ag, av, acc, asd⟩ := a
  dsimp only at hk ⊢
  obtain ⟨W0, hW0⟩ : ∃ W, W = w.alloc (.cells #[.int .i64 ak, .int .i64 ac, .int .i64 as_, .int .i64 ag, .int .i64 av, .int .i64 acc, .bool asd] 39) := ⟨_, rfl⟩
  have G0 := hid (show Gr w W0 from by rw [hW0]; exact Ch.alloc (Gr.refl w) _)
  have BX := hid (show W0.heap[w.heap.size]? = some (.cells #[.int .i64 ak, .int .i64 ac, .int .i64 as_, .int .i64 ag, .int .i64 av, .int .i64 acc, .bool asd] 39 (0, 0)) from by rw [hW0]; exact (MapKept.heap_alloc w _).1)
  have H1 := hid (rlen_any (hl.gr G0.out) hG.n ac)
  have H2 := hid (len_any (h.gr G0.out) hG.n ac)
  have H3 := hid (rcap_any (hl.gr G0.out) hG.n ac)
  have H4 := hid (cap_any (h.gr G0.out) hG.n ac)
  have H5 := hid (fun (W : World) (p : Gr w W) => waits_any (h.gr p) hk)
  have H6 := hid (fun (W : World) (p : Gr w W) => rwaits_any P W v cs as_ ag (hl.gr p) (hG.bd (by omega)) hG.n)
  have H7 := hid (fun (W : World) (p : Gr w W) => state_any (h.gr p) hG.n (hG.bd (by omega)))
  have H8 := hid (fun (W : World) (p : Gr w W) (va : Value) (r : Rds (0 ≤ ·) W va cs) => rsame_any (0 ≤ ·) P W va v cs r (hl.gr p) (hG.bd (by omega)))
  rw [hW0] at H1 H2 H3 H4
  generalize lnF cs ac = lp at H1 H2
  generalize cpF cs ac = cq at H3 H4
  generalize decide (0 < pls cs as_ ag) = pb at H5 H6
  clear h hl hG hN hk
  go_enter Try.func35, Try.ntmps35
  go_upto_region 5 with (first
    | (go_at_call 55; refine H1.out.mono ?_; rintro e w1 ⟨rfl, hw⟩; subst hw)
    | (go_at_call 56; refine H2.out.mono ?_; rintro e w1 ⟨rfl, hw⟩; subst hw)
    | (go_at_call 57; refine H3.out.mono ?_; rintro e w1 ⟨rfl, hw⟩; subst hw)
    | (go_at_call 58; refine H4.out.mono ?_; rintro e w1 ⟨rfl, hw⟩; subst hw))
  rw [← hW0]
  clear hW0 H1 H2 H3 H4
  have hS0 : Sd w ak ac as_ ag av acc asd (World.drew W0) := ⟨Ch.drew G0.out, BX.out⟩
  refine wp_region_held_drew (S := Sd w ak ac as_ ag av acc asd) (by kernel_rfl) (by exact hS0) (fun _ => ?_)
  generalize World.drew W0 = V0 at hS0 ⊢
  refine takeS_on (i := 0) 43 (v := ?v1) rfl rfl (by kernel_rfl) (by kernel_rfl) (by kernel_rfl) (fun _ _ _ h => h) (by kernel_rfl) ?hy1 (by exact hS0) ?_
  case hy1 => (intro w' hSw; go_simp; try (with_reducible rfl))
  simp only [Act.put, List.setIfInBounds_toArray, List.set_cons_zero, List.set_cons_succ]
  refine takeS_on (i := 1) 44 (v := ?v2) rfl rfl (by kernel_rfl) (by kernel_rfl) (by kernel_rfl) (fun _ _ _ h => h) (by kernel_rfl) ?hy2 (by exact hS0) ?_
  case hy2 => (intro w' hSw; go_simp; try (with_reducible rfl))
  simp only [Act.put, List.setIfInBounds_toArray, List.set_cons_zero, List.set_cons_succ]
  refine takeS_on (i := 2) 45 (v := ?v3) rfl rfl (by kernel_rfl) (by kernel_rfl) (by kernel_rfl) (fun _ _ _ h => h) (by kernel_rfl) ?hy3 (by exact hS0) ?_
  case hy3 => (intro w' hSw; go_simp; try (with_reducible rfl))
  simp only [Act.put, List.setIfInBounds_toArray, List.set_cons_zero, List.set_cons_succ]
  refine takeS_on (i := 3) 46 (v := ?v4) rfl rfl (by kernel_rfl) (by kernel_rfl) (by kernel_rfl) (fun _ _ _ h => h) (by kernel_rfl) ?hy4 (by exact hS0) ?_
  case hy4 => (intro w' hSw; go_simp; try (with_reducible rfl))
  simp only [Act.put, List.setIfInBounds_toArray, List.set_cons_zero, List.set_cons_succ]
  refine takeS_on (i := 4) 47 (v := ?v5) rfl rfl (by kernel_rfl) (by kernel_rfl) (by kernel_rfl) (fun _ _ _ h => h) (by kernel_rfl) ?hy5 (by exact hS0) ?_
  case hy5 => (intro w' hSw; go_simp; try (with_reducible rfl))
  simp only [Act.put, List.setIfInBounds_toArray, List.set_cons_zero, List.set_cons_succ]
  refine takeS_on (i := 5) 48 (v := ?v6) rfl rfl (by kernel_rfl) (by kernel_rfl) (by kernel_rfl) (fun _ _ _ h => h) (by kernel_rfl) ?hy6 (by exact hS0) ?_
  case hy6 => (intro w' hSw; go_simp; try (with_reducible rfl))
  simp only [Act.put, List.setIfInBounds_toArray, List.set_cons_zero, List.set_cons_succ]
  refine takeS_on (i := 6) 49 (v := ?v7) rfl rfl (by kernel_rfl) (by kernel_rfl) (by kernel_rfl) (fun _ _ _ h => h) (by kernel_rfl) ?hy7 (by exact hS0) ?_
  case hy7 => (intro w' hSw; go_simp; try (with_reducible rfl))
  simp only [Act.put, List.setIfInBounds_toArray, List.set_cons_zero, List.set_cons_succ]
  refine takeS_on (i := 7) 50 (v := ?v8) rfl rfl (by kernel_rfl) (by kernel_rfl) (by kernel_rfl) (fun _ _ _ h => h) (by kernel_rfl) ?hy8 (by exact hS0) ?_
  case hy8 => (intro w' hSw; go_simp; try (with_reducible rfl))
  simp only [Act.put, List.setIfInBounds_toArray, List.set_cons_zero, List.set_cons_succ]
  refine takeS_on (i := 8) 51 (v := ?v9) rfl rfl (by kernel_rfl) (by kernel_rfl) (by kernel_rfl) (fun _ _ _ h => h) (by kernel_rfl) ?hy9 (by exact hS0) ?_
  case hy9 => (intro w' hSw; go_simp; try (with_reducible rfl))
  simp only [Act.put, List.setIfInBounds_toArray, List.set_cons_zero, List.set_cons_succ]
  refine takeS_on (i := 9) 52 (v := ?v10) rfl rfl (by kernel_rfl) (by kernel_rfl) (by kernel_rfl) (fun _ _ _ h => h) (by kernel_rfl) ?hy10 (by exact hS0) ?_
  case hy10 => (intro w' hSw; go_simp; try (with_reducible rfl))
  simp only [Act.put, List.setIfInBounds_toArray, List.set_cons_zero, List.set_cons_succ]
  refine takeS_on (i := 10) 53 (v := ?v11) rfl rfl (by kernel_rfl) (by kernel_rfl) (by kernel_rfl) (fun _ _ _ h => h) (by kernel_rfl) ?hy11 (by exact hS0) ?_
  case hy11 => (intro w' hSw; go_simp; try (with_reducible rfl))
  simp only [Act.put, List.setIfInBounds_toArray, List.set_cons_zero, List.set_cons_succ]
  refine takeS_on (i := 11) 54 (v := ?v12) rfl rfl (by kernel_rfl) (by kernel_rfl) (by kernel_rfl) (fun _ _ _ h => h) (by kernel_rfl) ?hy12 (by exact hS0) ?_
  case hy12 => (intro w' hSw; go_simp; try (with_reducible rfl))
  simp only [Act.put, List.setIfInBounds_toArray, List.set_cons_zero, List.set_cons_succ]
  refine takeS_on (i := 12) 55 (v := ?v13) rfl rfl (by kernel_rfl) (by kernel_rfl) (by kernel_rfl) (fun _ _ _ h => h) (by kernel_rfl) ?hy13 (by exact hS0) ?_
  case hy13 => (intro w' hSw; go_simp; try (with_reducible rfl))
  simp only [Act.put, List.setIfInBounds_toArray, List.set_cons_zero, List.set_cons_succ]
  refine takeS_on (i := 13) 56 (v := ?v14) rfl rfl (by kernel_rfl) (by kernel_rfl) (by kernel_rfl) (fun _ _ _ h => h) (by kernel_rfl) ?hy14 (by exact hS0) ?_
  case hy14 => (intro w' hSw; go_simp; try (with_reducible rfl))
  simp only [Act.put, List.setIfInBounds_toArray, List.set_cons_zero, List.set_cons_succ]
  refine takeS_on (i := 14) 57 (v := ?v15) rfl rfl (by kernel_rfl) (by kernel_rfl) (by kernel_rfl) (fun _ _ _ h => h) (by kernel_rfl) ?hy15 (by exact hS0) ?_
  case hy15 => (intro w' hSw; go_simp; try (with_reducible rfl))
  simp only [Act.put, List.setIfInBounds_toArray, List.set_cons_zero, List.set_cons_succ]
  refine takeS_on (i := 15) 58 (v := ?v16) rfl rfl (by kernel_rfl) (by kernel_rfl) (by kernel_rfl) (fun _ _ _ h => h) (by kernel_rfl) ?hy16 (by exact hS0) ?_
  case hy16 => (intro w' hSw; go_simp; try (with_reducible rfl))
  simp only [Act.put, List.setIfInBounds_toArray, List.set_cons_zero, List.set_cons_succ]
  refine takeS_on (i := 16) 59 (v := ?v17) rfl rfl (by kernel_rfl) (by kernel_rfl) (by kernel_rfl) (fun _ _ _ h => h) (by kernel_rfl) ?hy17 (by exact hS0) ?_
  case hy17 => (intro w' hSw; go_simp; try (with_reducible rfl))
  simp only [Act.put, List.setIfInBounds_toArray, List.set_cons_zero, List.set_cons_succ]
  refine takeS_on (i := 17) 60 (v := ?v18) rfl rfl (by kernel_rfl) (by kernel_rfl) (by kernel_rfl) (fun _ _ _ h => h) (by kernel_rfl) ?hy18 (by exact hS0) ?_
  case hy18 => (intro w' hSw; go_simp; try (with_reducible rfl))
  simp only [Act.put, List.setIfInBounds_toArray, List.set_cons_zero, List.set_cons_succ]
  refine takeS_on (i := 18) 61 (v := ?v19) rfl rfl (by kernel_rfl) (by kernel_rfl) (by kernel_rfl) (fun _ _ _ h => h) (by kernel_rfl) ?hy19 (by exact hS0) ?_
  case hy19 => (intro w' hSw; go_simp; try (with_reducible rfl))
  simp only [Act.put, List.setIfInBounds_toArray, List.set_cons_zero, List.set_cons_succ]
  refine takeS_on (i := 19) 62 (v := ?v20) rfl rfl (by kernel_rfl) (by kernel_rfl) (by kernel_rfl) (fun _ _ _ h => h) (by kernel_rfl) ?hy20 (by exact hS0) ?_
  case hy20 => (intro w' hSw; go_simp; try (with_reducible rfl))
  simp only [Act.put, List.setIfInBounds_toArray, List.set_cons_zero, List.set_cons_succ]
  refine takeS_on (i := 20) 63 (v := ?v21) rfl rfl (by kernel_rfl) (by kernel_rfl) (by kernel_rfl) (fun _ _ _ h => h) (by kernel_rfl) ?hy21 (by exact hS0) ?_
  case hy21 => (intro w' hSw; go_simp; try (with_reducible rfl))
  simp only [Act.put, List.setIfInBounds_toArray, List.set_cons_zero, List.set_cons_succ]
  refine takeS_on (i := 21) 64 (v := ?v22) rfl rfl (by kernel_rfl) (by kernel_rfl) (by kernel_rfl) (fun _ _ _ h => h) (by kernel_rfl) ?hy22 (by exact hS0) ?_
  case hy22 => (intro w' hSw; have c2 := cell_of hSw.bx 2; have c3 := cell_of hSw.bx 3; simp at c2 c3; go_simp; try (with_reducible rfl))
  simp only [Act.put, List.setIfInBounds_toArray, List.set_cons_zero, List.set_cons_succ]
  refine takeS_on (i := 23) 66 (v := ?v23) rfl rfl (by kernel_rfl) (by kernel_rfl) (by kernel_rfl) (fun _ _ _ h => h) (by kernel_rfl) ?hy23 (by exact hS0) ?_
  case hy23 => (intro w' hSw; go_simp; try (with_reducible rfl))
  simp only [Act.put, List.setIfInBounds_toArray, List.set_cons_zero, List.set_cons_succ]
  refine takeS_on (i := 24) 67 (v := ?v24) rfl rfl (by kernel_rfl) (by kernel_rfl) (by kernel_rfl) (fun _ _ _ h => h) (by kernel_rfl) ?hy24 (by exact hS0) ?_
  case hy24 => (intro w' hSw; go_simp; try (with_reducible rfl))
  simp only [Act.put, List.setIfInBounds_toArray, List.set_cons_zero, List.set_cons_succ]
  refine takeS_on (i := 25) 68 (v := ?v25) rfl rfl (by kernel_rfl) (by kernel_rfl) (by kernel_rfl) (fun _ _ _ h => h) (by kernel_rfl) ?hy25 (by exact hS0) ?_
  case hy25 => (intro w' hSw; have c2 := cell_of hSw.bx 2; have c3 := cell_of hSw.bx 3; simp at c2 c3; go_simp; try (with_reducible rfl))
  simp only [Act.put, List.setIfInBounds_toArray, List.set_cons_zero, List.set_cons_succ]
  refine wpAnyH_ready (rs := [22]) (by kernel_rfl) (by simp) (AllReadyH.cons rfl (fun K hK => ?_) AllReadyH.nil)
  go_simp
  refine (H5.out _ hS0.g).mono ?_
  rintro e w2 ⟨rfl, g2⟩
  have hS1 := hS0.gr g2
  clear g2
  refine hK.out _ _ (by exact hS1) (fun _ => ?_)
  clear hK K
  refine wpAnyH_ready (rs := [26]) (by kernel_rfl) (by simp) (AllReadyH.cons rfl (fun K hK => ?_) AllReadyH.nil)
  go_simp
  refine (H6.out _ hS1.g).mono ?_
  rintro e w3 ⟨rfl, g3⟩
  have hS2 := hS1.gr g3
  clear g3
  refine hK.out _ _ (by exact hS2) (fun _ => ?_)
  clear hK K
  refine takeS_on (i := 27) 70 (v := ?v26) rfl rfl (by kernel_rfl) (by kernel_rfl) (by kernel_rfl) (fun _ _ _ h => h) (by kernel_rfl) ?hy26 (by exact hS2) ?_
  case hy26 => (intro w' hSw; go_simp; try (with_reducible rfl))
  simp only [Act.put, List.setIfInBounds_toArray, List.set_cons_zero, List.set_cons_succ]
  refine takeS_on (i := 28) 71 (v := ?v27) rfl rfl (by kernel_rfl) (by kernel_rfl) (by kernel_rfl) (fun _ _ _ h => h) (by kernel_rfl) ?hy27 (by exact hS2) ?_
  case hy27 => (intro w' hSw; go_simp; try (with_reducible rfl))
  simp only [Act.put, List.setIfInBounds_toArray, List.set_cons_zero, List.set_cons_succ]
  refine takeS_on (i := 29) 72 (v := ?v28) rfl rfl (by kernel_rfl) (by kernel_rfl) (by kernel_rfl) (fun _ _ _ h => h) (by kernel_rfl) ?hy28 (by exact hS2) ?_
  case hy28 => (intro w' hSw; go_simp; try (with_reducible rfl))
  simp only [Act.put, List.setIfInBounds_toArray, List.set_cons_zero, List.set_cons_succ]
  refine takeS_on (i := 30) 73 (v := ?v29) rfl rfl (by kernel_rfl) (by kernel_rfl) (by kernel_rfl) (fun _ _ _ h => h) (by kernel_rfl) ?hy29 (by exact hS2) ?_
  case hy29 => (intro w' hSw; go_simp; try (with_reducible rfl))
  simp only [Act.put, List.setIfInBounds_toArray, List.set_cons_zero, List.set_cons_succ]
  refine takeS_on (i := 32) 75 (v := ?v30) rfl rfl (by kernel_rfl) (by kernel_rfl) (by kernel_rfl) (fun _ _ _ h => h) (by kernel_rfl) ?hy30 (by exact hS2) ?_
  case hy30 => (intro w' hSw; go_simp; try (with_reducible rfl))
  simp only [Act.put, List.setIfInBounds_toArray, List.set_cons_zero, List.set_cons_succ]
  refine wpAnyH_ready (rs := [31]) (by kernel_rfl) (by simp) (AllReadyH.cons rfl (fun K hK => ?_) AllReadyH.nil)
  go_simp
  refine (H7.out _ hS2.g).mono ?_
  rintro e w4 ⟨v4, rfl, nx4, g4⟩
  have N4 := hid nx4
  have hS3 := hS2.gr g4
  clear nx4 g4
  refine hK.out _ _ (by exact hS3) (fun _ => ?_)
  clear hK K
  refine wpAnyH_ready (rs := [33]) (by kernel_rfl) (by simp) (AllReadyH.cons rfl (fun K hK => ?_) AllReadyH.nil)
  go_simp
  refine (H8.out _ hS3.g _ (N4.out.rds.mono (fun _ _ _ => Nat.zero_le _))).mono ?_
  rintro e w5 ⟨rfl, g5⟩
  have hS4 := hS3.gr g5
  clear g5
  refine hK.out _ _ (by exact hS4) (fun _ => ?_)
  clear hK K
  refine takeS_on (i := 34) 77 (v := ?v31) rfl rfl (by kernel_rfl) (by kernel_rfl) (by kernel_rfl) (fun _ _ _ h => h) (by kernel_rfl) ?hy31 (by exact hS4) ?_
  case hy31 => (intro w' hSw; go_simp; try (with_reducible rfl))
  simp only [Act.put, List.setIfInBounds_toArray, List.set_cons_zero, List.set_cons_succ]
  refine takeS_on (i := 35) 6 (v := ?v32) rfl rfl (by kernel_rfl) (by kernel_rfl) (by kernel_rfl) (fun _ _ _ h => h) (by kernel_rfl) ?hy32 (by exact hS4) ?_
  case hy32 => (intro w' hSw; go_simp; try (with_reducible rfl))
  simp only [Act.put, List.setIfInBounds_toArray, List.set_cons_zero, List.set_cons_succ]
  refine wpAnyH_done (by kernel_rfl) ?_ _
  go_wp2
  go_ret
  exact ⟨rfl, hS4.g⟩
end Go.Proofs.Ytpkbgfneebjnjab.Lt

namespace Go.Proofs.Ytpkbgfneebjnjab.Lt
open Go.RowKit Wd
attribute [local go_sem ↓] Go.wp_at_zero Go.wp_at_succ

/-- a guarded load of a struct -/
theorem ld_rowM {P : Program} {ops : Array Oper} {rest : List Oper} {o : Oper} {a : Act} {w : World} {Q : Exit → Act → World → Prop} (hgd : Region.wanted o (yielded ops a.tmps) = true) (ty : TypeId) (x : Operand) (ho : o.op = .load ty x)
    (g : Nat) (hx : a.eval x = .pointer (some ⟨g, 0, none⟩)) (t : TypeId) (cs : Array Value) (fr : Nat × Nat) (d : TypeDesc) (hg : w.heap[g]? = some (.cells cs t fr))
    (hu : P.underlying ty = some d) (hd : (match d with | .struct _ | .array _ _ => true | _ => false) = true) (hi : (P.info? ty).map (·.size) = some cs.size)
    (h : wpList P ops Q rest (a.put o.dst (.agg cs)) w) : wpList P ops Q (o :: rest) a w :=
  wpList_step fun K hK => by
    rw [if_pos hgd]
    exact wp_load_row ty x ho g hx t cs fr d hg hu hd hi (hK _ _ h)
/-- what does answers and leaves -/
def DoR (R : Nat → Prop) (t : Nat → Tg) (w : World) (b : Nat) (cs : List Cn) (e : Ending) (w' : World) : Prop := ∃ l, e = .returned (.tuple #[l, .bool true]) ∧ ∃ t', Cs t' w' b cs ∧ Rds (fun q => (R q ∨ w.heap.size ≤ q) ∧ t' q = .no) w' l cs ∧ Tn t t' w w'
theorem snd_ks (cs : List Cn) (ch s g v : Int) : (sndF cs ch s g v).ks.length ≤ 1 := by
  unfold sndF
  split
  · exact Nat.zero_le _
  · rcases cAt_cases cs ch with ⟨i, c, rfl, hc, e⟩ | ⟨_, e⟩ <;> rw [e]
    · dsimp only
      unfold sndI
      split
      · exact Nat.zero_le _
      · split
        · exact Nat.le_refl _
        · split <;> exact Nat.zero_le _
    · exact Nat.zero_le _
theorem rcv_ks (cs : List Cn) (ch s g : Int) : (rcvF cs ch s g).ks.length ≤ 1 := by
  unfold rcvF
  split
  · exact Nat.zero_le _
  · rcases cAt_cases cs ch with ⟨i, c, rfl, hc, e⟩ | ⟨_, e⟩ <;> rw [e]
    · dsimp only
      unfold rcvI
      split
      · split <;> exact Nat.le_refl _
      · split
        · exact Nat.zero_le _
        · split <;> exact Nat.zero_le _
    · exact Nat.zero_le _
set_option maxHeartbeats 8000000 in
set_option maxRecDepth 40000 in
theorem does_send {t : Nat → Tg} {w : World} {b N : Nat} {cs : List Cn} {l : Value} (h : Cs t w b cs) {R : Nat → Prop} (hl : Rds R w l cs) (hR : ∀ q, R q → t q = .no) (hG : Gd N cs) (hN : N < 2932031007402) (ch s g v c : Int) (sd : Bool) (hk : Gok s g) : Calls Try.prog 10 #[.pointer (some ⟨b, 0, none⟩), l, .agg #[.int .i64 1, .int .i64 ch, .int .i64 s, .int .i64 g, .int .i64 v, .int .i64 c, .bool sd]] w (DoR R t w b (sndF cs ch s g v).cs) := by
  obtain ⟨W0, hW0⟩ : ∃ W, W = w.alloc (.cells #[.int .i64 1, .int .i64 ch, .int .i64 s, .int .i64 g, .int .i64 v, .int .i64 c, .bool sd] 39) := ⟨_, rfl⟩
  have G0 := hid (show Gr w W0 from by rw [hW0]; exact Ch.alloc (Gr.refl w) _)
  have BX := hid (show W0.heap[w.heap.size]? = some (.cells #[.int .i64 1, .int .i64 ch, .int .i64 s, .int .i64 g, .int .i64 v, .int .i64 c, .bool sd] 39 (0, 0)) from by rw [hW0]; exact (MapKept.heap_alloc w _).1)
  have HNO := hid (cs_hi h)
  have HCS := hid h
  have HRR := hid hR
  have HR := hid (rsend_any _ W0 l cs N ch s g v (hl.gr G0.out) hG (by omega))
  have HP := hid (fun (W : World) (p : Gr w W) => send_any (h.gr p) hG (by omega) hk ch v)
  have HKS := hid (snd_ks cs ch s g v)
  obtain ⟨o, ho⟩ : ∃ o, o = (sndF cs ch s g v) := ⟨_, rfl⟩
  rw [← ho] at HR HP HKS ⊢
  rw [hW0] at HR
  clear ho h hl hR hG hN hk
  go_enter Try.func10, Try.ntmps10
  go_upto_region 8 with (go_at_call 23; refine HR.out.mono ?_; rintro e w1 ⟨v1, mo, mn, mc, rfl, lk1, rd1, g1⟩; rw [← hW0] at lk1 rd1 g1; have LK1 := hid lk1; have RD1 := hid rd1; have G1 := hid g1; clear lk1 rd1 g1)
  obtain ⟨W2, hW2⟩ : ∃ W, W = w1.alloc (.cells #[.bool o.wa, .int .i64 o.va, .bool o.ok, .int .i64 o.tr, .slice mo mn mc] 60) := ⟨_, rfl⟩
  have G2 := hid (show Gr w1 W2 from by rw [hW2]; exact Ch.alloc (Gr.refl w1) _)
  have MA2 := hid (show W2.heap[w1.heap.size]? = some (.cells #[.bool o.wa, .int .i64 o.va, .bool o.ok, .int .i64 o.tr, .slice mo mn mc] 60 (0, 0)) from by rw [hW2]; exact (MapKept.heap_alloc w1 _).1)
  rw [← hW2]
  clear hW0 hW2
  have BX2 := hid (gr_blk BX.out (Gr.trans G1.out G2.out))
  have GW2 := hid (Gr.trans (Gr.trans G0.out G1.out) G2.out)
  have q1 := cell_of BX2.out 1
  have q2 := cell_of BX2.out 2
  have q3 := cell_of BX2.out 3
  have q4 := cell_of BX2.out 4
  have lq1 := lt_of_block BX2.out
  simp at q1 q2 q3 q4
  have HP2 := hid (HP.out _ GW2.out)
  go_upto_region 9 with (go_at_call 20; refine HP2.out.mono ?_; rintro e w3 ⟨no, nn, nc, rfl, ok3, t3, c3, n3, b3⟩; have OK3 := hid ok3; have C3 := hid c3; have N3 := hid n3; clear ok3 c3 n3 b3)
  clear q1 q2 q3 q4 lq1
  obtain ⟨W4, hW4⟩ : ∃ W, W = w3.alloc (.cells #[.bool o.wa, .int .i64 o.va, .bool o.ok, .int .i64 o.tr, .slice no nn nc] 60) := ⟨_, rfl⟩
  have G4 := hid (show Gr w3 W4 from by rw [hW4]; exact Ch.alloc (Gr.refl w3) _)
  have MB4 := hid (show W4.heap[w3.heap.size]? = some (.cells #[.bool o.wa, .int .i64 o.va, .bool o.ok, .int .i64 o.tr, .slice no nn nc] 60 (0, 0)) from by rw [hW4]; exact (MapKept.heap_alloc w3 _).1)
  rw [← hW4]
  clear hW4
  have LW := hid (show w.heap.size < W0.heap.size from lt_of_block BX.out)
  have S01 := hid G1.out.size
  have MA4 := hid (gr_blk ((N3.out.c.block _ (lt_of_block MA2.out) (fun q => q (HNO.out _ (by have := LW.out; have := S01.out; omega)))).trans MA2.out) G4.out)
  have HTN := hid (show ∀ q, w.heap.size ≤ q → t q = .no from HNO.out)
  have LA := hid (show Ls eK (W0.heap.size ≤ ·) W4 (.slice mo mn mc) o.ks from (((LK1.out.gr G2.out).ch N3.out.c (fun q _ hq hs => hs (HNO.out q (by have := LW.out; omega)))).gr G4.out))
  have LB := hid (OK3.out.gr G4.out).lst
  have e1 : nn = mn := by have h1 := LK1.out.len.1; have h2 := OK3.out.len.1; omega
  subst e1
  have HSM := hid (rsamem_any _ _ W4 o.wa o.ok o.va o.tr mo no nn mc nc o.ks LA.out LB.out (by have h1 := LK1.out.len.1; have h2 := HKS.out; omega))
  go_wp2_with (first
    | (refine ld_rowM (by kernel_rfl) 60 (.tmp 14) rfl w1.heap.size rfl _ _ _ _ MA4.out Try.underlying60 rfl mov_size ?_; simp only [Act.put, List.setIfInBounds_toArray, List.set_cons_zero, List.set_cons_succ])
    | (refine ld_rowM (by kernel_rfl) 60 (.tmp 16) rfl w3.heap.size rfl _ _ _ _ MB4.out Try.underlying60 rfl mov_size ?_; simp only [Act.put, List.setIfInBounds_toArray, List.set_cons_zero, List.set_cons_succ])
    | (refine callG (by kernel_rfl) 24 #[.tmp 92, .tmp 93] #[60, 60] rfl #[.agg #[.bool o.wa, .int .i64 o.va, .bool o.ok, .int .i64 o.tr, .slice mo nn mc], .agg #[.bool o.wa, .int .i64 o.va, .bool o.ok, .int .i64 o.tr, .slice no nn nc]] (by kernel_rfl) HSM.out ?_; rintro e w5 ⟨rfl, g5⟩; refine ⟨_, rfl, ?_⟩; simp only [Act.put, List.setIfInBounds_toArray, List.set_cons_zero, List.set_cons_succ]; have G5 := hid (Gr.trans G4.out g5); clear g5))
  have RF := ((RD1.out.gr G2.out).mono (Q := fun q => (R q ∨ w.heap.size ≤ q) ∧ t q = .no ∧ q < W2.heap.size) (fun q hq hp => ⟨hp.imp id (fun h1 => Nat.le_trans (by first | exact Nat.le_of_lt LW.out | exact S2.out) h1), hp.elim (HRR.out q) (fun h1 => HNO.out q (by have := LW.out; omega)), hq⟩)).ch N3.out.c (fun q _ hq hs => hs hq.2.1)
  refine bodyPost_ret (results_tmp2 rfl _ _ _) rfl ⟨v1, rfl, t3, C3.out.gr G5.out, (RF.gr G5.out).mono (fun q _ hq => ⟨hq.1, N3.out.o q hq.2.2 hq.2.1⟩), (Tn.ahead GW2.out N3.out).then G5.out⟩
set_option maxHeartbeats 8000000 in
set_option maxRecDepth 40000 in
theorem does_recv {t : Nat → Tg} {w : World} {b N : Nat} {cs : List Cn} {l : Value} (h : Cs t w b cs) {R : Nat → Prop} (hl : Rds R w l cs) (hR : ∀ q, R q → t q = .no) (hG : Gd N cs) (hN : N < 2932031007402) (ch s g v c : Int) (sd : Bool) (hk : Gok s g) : Calls Try.prog 10 #[.pointer (some ⟨b, 0, none⟩), l, .agg #[.int .i64 2, .int .i64 ch, .int .i64 s, .int .i64 g, .int .i64 v, .int .i64 c, .bool sd]] w (DoR R t w b (rcvF cs ch s g).cs) := by
  obtain ⟨W0, hW0⟩ : ∃ W, W = w.alloc (.cells #[.int .i64 2, .int .i64 ch, .int .i64 s, .int .i64 g, .int .i64 v, .int .i64 c, .bool sd] 39) := ⟨_, rfl⟩
  have G0 := hid (show Gr w W0 from by rw [hW0]; exact Ch.alloc (Gr.refl w) _)
  have BX := hid (show W0.heap[w.heap.size]? = some (.cells #[.int .i64 2, .int .i64 ch, .int .i64 s, .int .i64 g, .int .i64 v, .int .i64 c, .bool sd] 39 (0, 0)) from by rw [hW0]; exact (MapKept.heap_alloc w _).1)
  have HNO := hid (cs_hi h)
  have HCS := hid h
  have HRR := hid hR
  have HR := hid (rrecv_any _ W0 l cs N ch s g (hl.gr G0.out) hG (by omega))
  have HP := hid (fun (W : World) (p : Gr w W) => recv_any (h.gr p) hG (by omega) hk ch)
  have HKS := hid (rcv_ks cs ch s g)
  obtain ⟨o, ho⟩ : ∃ o, o = (rcvF cs ch s g) := ⟨_, rfl⟩
  rw [← ho] at HR HP HKS ⊢
  rw [hW0] at HR
  clear ho h hl hR hG hN hk
  go_enter Try.func10, Try.ntmps10
  go_upto_region 12 with (go_at_call 25; refine HR.out.mono ?_; rintro e w1 ⟨v1, mo, mn, mc, rfl, lk1, rd1, g1⟩; rw [← hW0] at lk1 rd1 g1; have LK1 := hid lk1; have RD1 := hid rd1; have G1 := hid g1; clear lk1 rd1 g1)
  obtain ⟨W2, hW2⟩ : ∃ W, W = w1.alloc (.cells #[.bool o.wa, .int .i64 o.va, .bool o.ok, .int .i64 o.tr, .slice mo mn mc] 60) := ⟨_, rfl⟩
  have G2 := hid (show Gr w1 W2 from by rw [hW2]; exact Ch.alloc (Gr.refl w1) _)
  have MA2 := hid (show W2.heap[w1.heap.size]? = some (.cells #[.bool o.wa, .int .i64 o.va, .bool o.ok, .int .i64 o.tr, .slice mo mn mc] 60 (0, 0)) from by rw [hW2]; exact (MapKept.heap_alloc w1 _).1)
  rw [← hW2]
  clear hW0 hW2
  have BX2 := hid (gr_blk BX.out (Gr.trans G1.out G2.out))
  have GW2 := hid (Gr.trans (Gr.trans G0.out G1.out) G2.out)
  have q1 := cell_of BX2.out 1
  have q2 := cell_of BX2.out 2
  have q3 := cell_of BX2.out 3
  have q4 := cell_of BX2.out 4
  have lq1 := lt_of_block BX2.out
  simp at q1 q2 q3 q4
  have HP2 := hid (HP.out _ GW2.out)
  go_upto_region 13 with (go_at_call 21; refine HP2.out.mono ?_; rintro e w3 ⟨no, nn, nc, rfl, ok3, t3, c3, n3, b3⟩; have OK3 := hid ok3; have C3 := hid c3; have N3 := hid n3; clear ok3 c3 n3 b3)
  clear q1 q2 q3 q4 lq1
  obtain ⟨W4, hW4⟩ : ∃ W, W = w3.alloc (.cells #[.bool o.wa, .int .i64 o.va, .bool o.ok, .int .i64 o.tr, .slice no nn nc] 60) := ⟨_, rfl⟩
  have G4 := hid (show Gr w3 W4 from by rw [hW4]; exact Ch.alloc (Gr.refl w3) _)
  have MB4 := hid (show W4.heap[w3.heap.size]? = some (.cells #[.bool o.wa, .int .i64 o.va, .bool o.ok, .int .i64 o.tr, .slice no nn nc] 60 (0, 0)) from by rw [hW4]; exact (MapKept.heap_alloc w3 _).1)
  rw [← hW4]
  clear hW4
  have LW := hid (show w.heap.size < W0.heap.size from lt_of_block BX.out)
  have S01 := hid G1.out.size
  have MA4 := hid (gr_blk ((N3.out.c.block _ (lt_of_block MA2.out) (fun q => q (HNO.out _ (by have := LW.out; have := S01.out; omega)))).trans MA2.out) G4.out)
  have HTN := hid (show ∀ q, w.heap.size ≤ q → t q = .no from HNO.out)
  have LA := hid (show Ls eK (W0.heap.size ≤ ·) W4 (.slice mo mn mc) o.ks from (((LK1.out.gr G2.out).ch N3.out.c (fun q _ hq hs => hs (HNO.out q (by have := LW.out; omega)))).gr G4.out))
  have LB := hid (OK3.out.gr G4.out).lst
  have e1 : nn = mn := by have h1 := LK1.out.len.1; have h2 := OK3.out.len.1; omega
  subst e1
  have HSM := hid (rsamem_any _ _ W4 o.wa o.ok o.va o.tr mo no nn mc nc o.ks LA.out LB.out (by have h1 := LK1.out.len.1; have h2 := HKS.out; omega))
  go_wp2_with (first
    | (refine ld_rowM (by kernel_rfl) 60 (.tmp 19) rfl w1.heap.size rfl _ _ _ _ MA4.out Try.underlying60 rfl mov_size ?_; simp only [Act.put, List.setIfInBounds_toArray, List.set_cons_zero, List.set_cons_succ])
    | (refine ld_rowM (by kernel_rfl) 60 (.tmp 21) rfl w3.heap.size rfl _ _ _ _ MB4.out Try.underlying60 rfl mov_size ?_; simp only [Act.put, List.setIfInBounds_toArray, List.set_cons_zero, List.set_cons_succ])
    | (refine callG (by kernel_rfl) 24 #[.tmp 122, .tmp 123] #[60, 60] rfl #[.agg #[.bool o.wa, .int .i64 o.va, .bool o.ok, .int .i64 o.tr, .slice mo nn mc], .agg #[.bool o.wa, .int .i64 o.va, .bool o.ok, .int .i64 o.tr, .slice no nn nc]] (by kernel_rfl) HSM.out ?_; rintro e w5 ⟨rfl, g5⟩; refine ⟨_, rfl, ?_⟩; simp only [Act.put, List.setIfInBounds_toArray, List.set_cons_zero, List.set_cons_succ]; have G5 := hid (Gr.trans G4.out g5); clear g5))
  have RF := ((RD1.out.gr G2.out).mono (Q := fun q => (R q ∨ w.heap.size ≤ q) ∧ t q = .no ∧ q < W2.heap.size) (fun q hq hp => ⟨hp.imp id (fun h1 => Nat.le_trans (by first | exact Nat.le_of_lt LW.out | exact S2.out) h1), hp.elim (HRR.out q) (fun h1 => HNO.out q (by have := LW.out; omega)), hq⟩)).ch N3.out.c (fun q _ hq hs => hs hq.2.1)
  refine bodyPost_ret (results_tmp2 rfl _ _ _) rfl ⟨v1, rfl, t3, C3.out.gr G5.out, (RF.gr G5.out).mono (fun q _ hq => ⟨hq.1, N3.out.o q hq.2.2 hq.2.1⟩), (Tn.ahead GW2.out N3.out).then G5.out⟩
/-- Make: the channels, the handle and the trap -/
def mkF (cs : List Cn) (x : Int) : List Cn := if 0 ≤ x ∧ x ≤ 1024 ∧ cs.length < 1024 then cs ++ [⟨x, [], [], [], false⟩] else cs
def mkN (cs : List Cn) (x : Int) : Int := if 0 ≤ x ∧ x ≤ 1024 ∧ cs.length < 1024 then ((cs.length + 1 : Nat) : Int) else 0
def mkT (cs : List Cn) (x : Int) : Int := if 0 ≤ x ∧ x ≤ 1024 ∧ cs.length < 1024 then 0 else 5
def RmO (P : Nat → Prop) (w : World) (cs : List Cn) (x y : Int) (e : Ending) (w' : World) : Prop := ∃ v, e = .returned (.tuple #[v, .int .i64 x, .int .i64 y]) ∧ Rds (fun q => P q ∨ w.heap.size ≤ q) w' v cs ∧ Gr w w'
def PmO (t : Nat → Tg) (w : World) (b : Nat) (cs : List Cn) (x y : Int) (e : Ending) (w' : World) : Prop := e = .returned (.tuple #[.int .i64 x, .int .i64 y]) ∧ ∃ t', Cs t' w' b cs ∧ Tn t t' w w'
theorem rmake_any (P : Nat → Prop) (w : World) (l : Value) (cs : List Cn) (x : Int) (h : Rds P w l cs) (hb : Bd cs) : Calls Try.prog 22 #[l, .int .i64 x] w (RmO P w (mkF cs x) (mkN cs x) (mkT cs x)) := by
  obtain ⟨ao, cap, rfl⟩ := h.form
  unfold mkF mkN mkT
  by_cases hm : 0 ≤ x ∧ x ≤ 1024 ∧ cs.length < 1024
  · rw [if_pos hm, if_pos hm, if_pos hm]
    refine (rmake_yes P w ao _ cap cs x hm h hb rfl).mono ?_
    rintro e w' ⟨v, h1, h2, h3⟩
    exact ⟨v, h1, h2.rds.mono (fun _ _ p => .inr p), h3⟩
  · rw [if_neg hm, if_neg hm, if_neg hm]
    refine (rmake_no ao _ cap x w hm).mono ?_
    rintro e w' ⟨h1, h2⟩
    subst h2
    exact ⟨_, h1, h.mono (fun _ _ p => .inl p), Gr.refl _⟩
theorem make_any {t : Nat → Tg} {w : World} {b : Nat} {cs : List Cn} (h : Cs t w b cs) (x : Int) : Calls Try.prog 19 #[.pointer (some ⟨b, 0, none⟩), .int .i64 x] w (PmO t w b (mkF cs x) (mkN cs x) (mkT cs x)) := by
  unfold mkF mkN mkT
  by_cases hm : 0 ≤ x ∧ x ≤ 1024 ∧ cs.length < 1024
  · rw [if_pos hm, if_pos hm, if_pos hm]
    exact make_yes h x hm
  · rw [if_neg hm, if_neg hm, if_neg hm]
    refine (make_no h x hm).mono ?_
    rintro e w' ⟨h1, h2⟩
    subst h2
    exact ⟨h1, t, h, Tn.refl _ _⟩
def RlO (P : Nat → Prop) (w : World) (cs : List Cn) (x : Int) (e : Ending) (w' : World) : Prop := ∃ v, e = .returned (.tuple #[v, .int .i64 x]) ∧ Rds (fun q => P q ∨ w.heap.size ≤ q) w' v cs ∧ Gr w w'
theorem rleaveO (P : Nat → Prop) (w : World) (l : Value) (cs : List Cn) (s g : Int) (h : Rds P w l cs) (hb : Bd cs) (hn : cs.length ≤ 1024) : Calls Try.prog 31 #[l, .agg #[.int .i64 s, .int .i64 g]] w (RlO P w (lvs cs s g) ((pls cs s g : Nat) : Int)) := by
  refine (rleave_any P w l cs s g h hb hn).mono ?_
  rintro e w' ⟨v, h1, h2, h3⟩
  exact ⟨v, h1, h2.rds.mono (fun _ _ p => .inr p), h3⟩
set_option maxHeartbeats 8000000 in
set_option maxRecDepth 40000 in
theorem does_make {t : Nat → Tg} {w : World} {b N : Nat} {cs : List Cn} {l : Value} (h : Cs t w b cs) {R : Nat → Prop} (hl : Rds R w l cs) (hR : ∀ q, R q → t q = .no) (hG : Gd N cs) (hN : N < 2932031007402) (ch s g v c : Int) (sd : Bool) (_hk : Gok s g) : Calls Try.prog 10 #[.pointer (some ⟨b, 0, none⟩), l, .agg #[.int .i64 0, .int .i64 ch, .int .i64 s, .int .i64 g, .int .i64 v, .int .i64 c, .bool sd]] w (DoR R t w b (mkF cs v)) := by
  obtain ⟨W0, hW0⟩ : ∃ W, W = w.alloc (.cells #[.int .i64 0, .int .i64 ch, .int .i64 s, .int .i64 g, .int .i64 v, .int .i64 c, .bool sd] 39) := ⟨_, rfl⟩
  have G0 := hid (show Gr w W0 from by rw [hW0]; exact Ch.alloc (Gr.refl w) _)
  have BX := hid (show W0.heap[w.heap.size]? = some (.cells #[.int .i64 0, .int .i64 ch, .int .i64 s, .int .i64 g, .int .i64 v, .int .i64 c, .bool sd] 39 (0, 0)) from by rw [hW0]; exact (MapKept.heap_alloc w _).1)
  have HNO := hid (cs_hi h)
  have HCS := hid h
  have HRR := hid hR
  have HR := hid (rmake_any _ W0 l cs v (hl.gr G0.out) (hG.bd (by omega)))
  have HP := hid (fun (W : World) (p : Gr w W) => make_any (h.gr p) v)
  generalize mkN cs v = mn at HR HP
  generalize mkT cs v = mt at HR HP
  unfold RmO at HR
  unfold PmO at HP
  rw [hW0] at HR
  clear h hl hR hG hN
  go_enter Try.func10, Try.ntmps10
  go_upto_region 4 with (go_at_call 22; refine HR.out.mono ?_; rintro e w1 ⟨v1, rfl, rd1, g1⟩; rw [← hW0] at rd1 g1; have RD1 := hid rd1; have G1 := hid g1; clear rd1 g1)
  clear hW0
  have BX2 := hid (gr_blk BX.out G1.out)
  have GW2 := hid (Gr.trans G0.out G1.out)
  have LW := hid (show w.heap.size < W0.heap.size from lt_of_block BX.out)
  have q4 := cell_of BX2.out 4
  have lq4 := lt_of_block BX2.out
  simp at q4
  have HP2 := hid (HP.out _ GW2.out)
  go_wp2_with (go_at_call 19; refine HP2.out.mono ?_; rintro e w3 ⟨rfl, t3, c3, n3⟩; have C3 := hid c3; have N3 := hid n3; clear c3 n3)
  have RF := (RD1.out.mono (Q := fun q => (R q ∨ w.heap.size ≤ q) ∧ t q = .no ∧ q < w1.heap.size) (fun q hq hp => ⟨hp.imp id (fun h1 => Nat.le_trans (by first | exact Nat.le_of_lt LW.out | exact S2.out) h1), hp.elim (HRR.out q) (fun h1 => HNO.out q (by have := LW.out; omega)), hq⟩)).ch N3.out.c (fun q _ hq hs => hs hq.2.1)
  refine bodyPost_ret (results_tmp2 rfl _ _ _) rfl ⟨v1, rfl, t3, C3.out, RF.mono (fun q _ hq => ⟨hq.1, N3.out.o q hq.2.2 hq.2.1⟩), Tn.ahead GW2.out N3.out⟩
set_option maxHeartbeats 8000000 in
set_option maxRecDepth 40000 in
theorem does_leave {t : Nat → Tg} {w : World} {b N : Nat} {cs : List Cn} {l : Value} (h : Cs t w b cs) {R : Nat → Prop} (hl : Rds R w l cs) (hR : ∀ q, R q → t q = .no) (hG : Gd N cs) (hN : N < 2932031007402) (ch s g v c : Int) (sd : Bool) (hk : Gok s g) : Calls Try.prog 10 #[.pointer (some ⟨b, 0, none⟩), l, .agg #[.int .i64 5, .int .i64 ch, .int .i64 s, .int .i64 g, .int .i64 v, .int .i64 c, .bool sd]] w (DoR R t w b (lvs cs s g)) := by
  obtain ⟨W0, hW0⟩ : ∃ W, W = w.alloc (.cells #[.int .i64 5, .int .i64 ch, .int .i64 s, .int .i64 g, .int .i64 v, .int .i64 c, .bool sd] 39) := ⟨_, rfl⟩
  have G0 := hid (show Gr w W0 from by rw [hW0]; exact Ch.alloc (Gr.refl w) _)
  have BX := hid (show W0.heap[w.heap.size]? = some (.cells #[.int .i64 5, .int .i64 ch, .int .i64 s, .int .i64 g, .int .i64 v, .int .i64 c, .bool sd] 39 (0, 0)) from by rw [hW0]; exact (MapKept.heap_alloc w _).1)
  have HNO := hid (cs_hi h)
  have HCS := hid h
  have HRR := hid hR
  have HR := hid (rleaveO _ W0 l cs s g (hl.gr G0.out) (hG.bd (by omega)) hG.n)
  have HP := hid (fun (W : World) (p : Gr w W) => leave_any (h.gr p) hk hG.n (hG.bw (by omega)) (hG.pls (by omega) _ _))
  unfold RlO at HR
  unfold LeR at HP
  generalize ((pls cs s g : Nat) : Int) = pn at HR HP
  rw [hW0] at HR
  clear h hl hR hG hN hk
  go_enter Try.func10, Try.ntmps10
  go_upto_region 25 with (go_at_call 31; refine HR.out.mono ?_; rintro e w1 ⟨v1, rfl, rd1, g1⟩; rw [← hW0] at rd1 g1; have RD1 := hid rd1; have G1 := hid g1; clear rd1 g1)
  clear hW0
  have BX2 := hid (gr_blk BX.out G1.out)
  have GW2 := hid (Gr.trans G0.out G1.out)
  have LW := hid (show w.heap.size < W0.heap.size from lt_of_block BX.out)
  have q2 := cell_of BX2.out 2
  have q3 := cell_of BX2.out 3
  have lq2 := lt_of_block BX2.out
  simp at q2 q3
  have HP2 := hid (HP.out _ GW2.out)
  go_wp2_with (go_at_call 32; refine HP2.out.mono ?_; rintro e w3 ⟨rfl, t3, c3, n3⟩; have C3 := hid c3; have N3 := hid n3; clear c3 n3)
  have RF := (RD1.out.mono (Q := fun q => (R q ∨ w.heap.size ≤ q) ∧ t q = .no ∧ q < w1.heap.size) (fun q hq hp => ⟨hp.imp id (fun h1 => Nat.le_trans (by first | exact Nat.le_of_lt LW.out | exact S2.out) h1), hp.elim (HRR.out q) (fun h1 => HNO.out q (by have := LW.out; omega)), hq⟩)).ch N3.out.c (fun q _ hq hs => hs hq.2.1)
  refine bodyPost_ret (results_tmp2 rfl _ _ _) rfl ⟨v1, rfl, t3, C3.out, RF.mono (fun q _ hq => ⟨hq.1, N3.out.o q hq.2.2 hq.2.1⟩), Tn.ahead GW2.out N3.out⟩
set_option maxHeartbeats 8000000 in
set_option maxRecDepth 40000 in
theorem does_goes {t : Nat → Tg} {w : World} {b N : Nat} {cs : List Cn} {l : Value} (h : Cs t w b cs) {R : Nat → Prop} (hl : Rds R w l cs) (hR : ∀ q, R q → t q = .no) (hG : Gd N cs) (_hN : N < 2932031007402) (ch s g v c : Int) (sd : Bool) (_hk : Gok s g) : Calls Try.prog 10 #[.pointer (some ⟨b, 0, none⟩), l, .agg #[.int .i64 6, .int .i64 ch, .int .i64 s, .int .i64 g, .int .i64 v, .int .i64 c, .bool sd]] w (DoR R t w b cs) := by
  obtain ⟨W0, hW0⟩ : ∃ W, W = w.alloc (.cells #[.int .i64 6, .int .i64 ch, .int .i64 s, .int .i64 g, .int .i64 v, .int .i64 c, .bool sd] 39) := ⟨_, rfl⟩
  have G0 := hid (show Gr w W0 from by rw [hW0]; exact Ch.alloc (Gr.refl w) _)
  have BX := hid (show W0.heap[w.heap.size]? = some (.cells #[.int .i64 6, .int .i64 ch, .int .i64 s, .int .i64 g, .int .i64 v, .int .i64 c, .bool sd] 39 (0, 0)) from by rw [hW0]; exact (MapKept.heap_alloc w _).1)
  have HNO := hid (cs_hi h)
  have HCS := hid h
  have HRR := hid hR
  have HR := hid (rgoes_any (hl.gr G0.out) hG.n ch sd)
  have HP := hid (fun (W : World) (p : Gr w W) => goes_any (h.gr p) hG.n ch sd)
  have HL := hid hl
  generalize gsF cs ch sd = gg at HR HP
  rw [hW0] at HR
  clear h hl hR hG
  go_enter Try.func10, Try.ntmps10
  go_upto_region 28 with (go_at_call 33; refine HR.out.mono ?_; rintro e w1 ⟨rfl, g1⟩; rw [← hW0] at g1; have G1 := hid g1; clear g1)
  clear hW0
  have BX2 := hid (gr_blk BX.out G1.out)
  have GW2 := hid (Gr.trans G0.out G1.out)
  have q1 := cell_of BX2.out 1
  have q6 := cell_of BX2.out 6
  have lq1 := lt_of_block BX2.out
  simp at q1 q6
  have HP2 := hid (HP.out _ GW2.out)
  go_wp2_with (go_at_call 34; refine HP2.out.mono ?_; rintro e w3 ⟨rfl, g3⟩; have G3 := hid (Gr.trans GW2.out g3); clear g3)
  refine bodyPost_ret (results_tmp2 rfl _ _ _) rfl ⟨l, rfl, t, HCS.out.gr G3.out, (HL.out.gr G3.out).mono (fun q _ hq => ⟨.inl hq, HRR.out q hq⟩), Tn.gr G3.out⟩
set_option maxHeartbeats 8000000 in
set_option maxRecDepth 40000 in
theorem does_told {t : Nat → Tg} {w : World} {b N : Nat} {cs : List Cn} {l : Value} (h : Cs t w b cs) {R : Nat → Prop} (hl : Rds R w l cs) (hR : ∀ q, R q → t q = .no) (hG : Gd N cs) (hN : N < 2932031007402) (ch s g v c : Int) (sd : Bool) (hk : Gok s g) (k : Int) (h0 : k ≠ 0) (h1 : k ≠ 1) (h2 : k ≠ 2) (h3 : k ≠ 3) (h4 : k ≠ 4) (h5 : k ≠ 5) (h6 : k ≠ 6) : Calls Try.prog 10 #[.pointer (some ⟨b, 0, none⟩), l, .agg #[.int .i64 k, .int .i64 ch, .int .i64 s, .int .i64 g, .int .i64 v, .int .i64 c, .bool sd]] w (DoR R t w b cs) := by
  obtain ⟨W0, hW0⟩ : ∃ W, W = w.alloc (.cells #[.int .i64 k, .int .i64 ch, .int .i64 s, .int .i64 g, .int .i64 v, .int .i64 c, .bool sd] 39) := ⟨_, rfl⟩
  have G0 := hid (show Gr w W0 from by rw [hW0]; exact Ch.alloc (Gr.refl w) _)
  have BX := hid (show W0.heap[w.heap.size]? = some (.cells #[.int .i64 k, .int .i64 ch, .int .i64 s, .int .i64 g, .int .i64 v, .int .i64 c, .bool sd] 39 (0, 0)) from by rw [hW0]; exact (MapKept.heap_alloc w _).1)
  have HNO := hid (cs_hi h)
  have HCS := hid h
  have HRR := hid hR
  have HT := hid (told_any (h.gr G0.out) (hl.gr G0.out) hG (by omega) ⟨k, ch, s, g, v, c, sd⟩ hk)
  have HL := hid hl
  have e0 : (k == 0) = false := by simpa using h0
  have e1 : (k == 1) = false := by simpa using h1
  have e2 : (k == 2) = false := by simpa using h2
  have e3 : (k == 3) = false := by simpa using h3
  have e4 : (k == 4) = false := by simpa using h4
  have e5 : (k == 5) = false := by simpa using h5
  have e6 : (k == 6) = false := by simpa using h6
  rw [hW0] at HT BX
  clear h hl hR hG hN hk h0 h1 h2 h3 h4 h5 h6
  go_enter Try.func10, Try.ntmps10
  go_wp2_with (first
    | (refine wpList_load_row rfl 39 (.tmp 5) rfl w.heap.size rfl _ _ _ _ BX.out Try.underlying39 rfl act_size ?_)
    | (go_at_call 35; refine HT.out.mono ?_; rintro e w3 ⟨rfl, g3⟩; rw [← hW0] at g3; have G3 := hid (Gr.trans G0.out g3); clear g3))
  refine bodyPost_ret (results_tmp2 rfl _ _ _) rfl ⟨l, rfl, t, HCS.out.gr G3.out, (HL.out.gr G3.out).mono (fun q _ hq => ⟨.inl hq, HRR.out q hq⟩), Tn.gr G3.out⟩
/-- Wait: the channels -/
def wtF (cs : List Cn) (ch s g c v : Int) (sd : Bool) : List Cn := match cAt cs ch with
  | none => cs
  | some (i, d) => if sd = true then cs.set i ⟨d.cap, d.vs, d.ss ++ [⟨s, g, c, v⟩], d.rs, d.cl⟩ else cs.set i ⟨d.cap, d.vs, d.ss, d.rs ++ [⟨s, g, c, 0⟩], d.cl⟩
def wtT (cs : List Cn) (ch : Int) : Int := match cAt cs ch with | none => if ch = 0 then 0 else 4 | some _ => 0
theorem rwait_no (w : World) (ao : Option Addr) (n cap : Nat) (ch s g c v : Int) (sd : Bool) (h : ¬ (1 ≤ ch ∧ ch ≤ (n : Int))) : Calls Try.prog 29 #[.slice ao n cap, .int .i64 ch, .agg #[.int .i64 s, .int .i64 g, .int .i64 c, .int .i64 v], .bool sd] w fun e w' => e = .returned (.tuple #[.slice ao n cap, .int .i64 (tC n ch)]) ∧ Gr w w' := by
  have HI := hid ris_any
  have HT := hid rtrap_any
  have hd : decide (1 ≤ ch ∧ ch ≤ (n : Int)) = false := decide_eq_false h
  have G1 := hid (show Gr w (w.alloc (.cells #[.int .i64 s, .int .i64 g, .int .i64 c, .int .i64 v] 65)) from Ch.alloc (Gr.refl w) _)
  clear h
  go_enter Try.func29, Try.ntmps29
  go_wp2_with (first
    | (go_at_call 50; refine (HI.out _ _ _ _ _).mono ?_; rw [hd]; rintro e w9 ⟨rfl, hw⟩; have hw := hw.symm; subst hw)
    | (go_at_call 52; refine (HT.out _ _ _ _ _).mono ?_; rintro e w9 ⟨rfl, hw⟩; have hw := hw.symm; subst hw))
  exact bodyPost_ret (results_tmp2 rfl _ _ _) rfl ⟨rfl, G1.out⟩
theorem wait_not {t : Nat → Tg} {w : World} {b : Nat} {cs : List Cn} (h : Cs t w b cs) (ch s g c v : Int) (sd : Bool) (hc : ¬ (1 ≤ ch ∧ ch ≤ (cs.length : Int))) : Calls Try.prog 30 #[.pointer (some ⟨b, 0, none⟩), .int .i64 ch, .agg #[.int .i64 s, .int .i64 g, .int .i64 c, .int .i64 v], .bool sd] w fun e w' => e = .returned (.int .i64 (if ch = 0 then 0 else 4)) ∧ Gr w w' := by
  have G1 := hid (show Gr w (w.alloc (.cells #[.int .i64 s, .int .i64 g, .int .i64 c, .int .i64 v] 65)) from Ch.alloc (Gr.refl w) _)
  have HF := hid (find_not (h.gr G1.out) ch hc)
  generalize (if ch = 0 then (0 : Int) else 4) = tr at HF ⊢
  clear h hc
  go_enter Try.func30, Try.ntmps30
  go_wp2_with (go_at_call 44; refine HF.out.mono ?_; rintro e w2 ⟨rfl, hw⟩; obtain rfl := hw.symm; clear hw)
  go_ret
  exact ⟨rfl, G1.out⟩
def RwO (P : Nat → Prop) (w : World) (cs : List Cn) (x : Int) (e : Ending) (w' : World) : Prop := ∃ v, e = .returned (.tuple #[v, .int .i64 x]) ∧ Rds (fun q => P q ∨ w.heap.size ≤ q) w' v cs ∧ Gr w w'
def PwO (t : Nat → Tg) (w : World) (b : Nat) (cs : List Cn) (x : Int) (e : Ending) (w' : World) : Prop := e = .returned (.int .i64 x) ∧ ∃ t', Cs t' w' b cs ∧ Tn t t' w w'
theorem rwait_any (P : Nat → Prop) (w : World) (l : Value) (cs : List Cn) (N : Nat) (ch s g c v : Int) (sd : Bool) (h : Rds P w l cs) (hG : Gd N cs) (hN : N < 4398046511104) : Calls Try.prog 29 #[l, .int .i64 ch, .agg #[.int .i64 s, .int .i64 g, .int .i64 c, .int .i64 v], .bool sd] w (RwO P w (wtF cs ch s g c v sd) (wtT cs ch)) := by
  obtain ⟨ao, cap, rfl⟩ := h.form
  unfold wtF wtT
  rcases cAt_cases cs ch with ⟨i, d, rfl, hc, e⟩ | ⟨hn, e⟩ <;> rw [e]
  · have mem := List.mem_of_getElem? hc
    have hw := hG.wl_le mem
    dsimp only
    cases sd with
    | true =>
      rw [if_pos rfl]
      refine (rwait_send P w ao _ cap cs i d s g c v h (hG.bd (by omega)) rfl hc (by omega)).mono ?_
      rintro e w' ⟨v', h1, h2, h3⟩
      exact ⟨v', h1, h2.rds.mono (fun _ _ p => .inr p), h3⟩
    | false =>
      rw [if_neg (by simp)]
      refine (rwait_recv P w ao _ cap cs i d s g c v h (hG.bd (by omega)) rfl hc (by omega)).mono ?_
      rintro e w' ⟨v', h1, h2, h3⟩
      exact ⟨v', h1, h2.rds.mono (fun _ _ p => .inr p), h3⟩
  · dsimp only
    rw [← tC_no hn]
    refine (rwait_no w ao _ cap ch s g c v sd hn).mono ?_
    rintro e w' ⟨h1, h2⟩
    exact ⟨_, h1, (h.gr h2).mono (fun _ _ p => .inl p), h2⟩
theorem wait_any {t : Nat → Tg} {w : World} {b N : Nat} {cs : List Cn} (h : Cs t w b cs) (hG : Gd N cs) (hN : N < 4398046511104) (ch s g c v : Int) (sd : Bool) (hk : Gok s g) : Calls Try.prog 30 #[.pointer (some ⟨b, 0, none⟩), .int .i64 ch, .agg #[.int .i64 s, .int .i64 g, .int .i64 c, .int .i64 v], .bool sd] w (PwO t w b (wtF cs ch s g c v sd) (wtT cs ch)) := by
  unfold wtF wtT
  rcases cAt_cases cs ch with ⟨i, d, rfl, hc, e⟩ | ⟨hn, e⟩ <;> rw [e]
  · have mem := List.mem_of_getElem? hc
    have hw := hG.wl_le mem
    dsimp only
    cases sd with
    | true =>
      rw [if_pos rfl]
      exact wait_send h hk hc hG.n (by omega) (hG.pls (by omega) _ _)
    | false =>
      rw [if_neg (by simp)]
      exact wait_recv h hk hc hG.n (by omega) (hG.pls (by omega) _ _)
  · dsimp only
    refine (wait_not h ch s g c v sd hn).mono ?_
    rintro e w' ⟨h1, h2⟩
    exact ⟨h1, t, h.gr h2, Tn.gr h2⟩
set_option maxHeartbeats 8000000 in
set_option maxRecDepth 40000 in
theorem does_wait {t : Nat → Tg} {w : World} {b N : Nat} {cs : List Cn} {l : Value} (h : Cs t w b cs) {R : Nat → Prop} (hl : Rds R w l cs) (hR : ∀ q, R q → t q = .no) (hG : Gd N cs) (hN : N < 2932031007402) (ch s g v c : Int) (sd : Bool) (hk : Gok s g) : Calls Try.prog 10 #[.pointer (some ⟨b, 0, none⟩), l, .agg #[.int .i64 4, .int .i64 ch, .int .i64 s, .int .i64 g, .int .i64 v, .int .i64 c, .bool sd]] w (DoR R t w b (if fitB cs ch s g c v sd = true then wtF cs ch s g c v sd else cs)) := by
  obtain ⟨W0, hW0⟩ : ∃ W, W = w.alloc (.cells #[.int .i64 4, .int .i64 ch, .int .i64 s, .int .i64 g, .int .i64 v, .int .i64 c, .bool sd] 39) := ⟨_, rfl⟩
  have G0 := hid (show Gr w W0 from by rw [hW0]; exact Ch.alloc (Gr.refl w) _)
  have BX := hid (show W0.heap[w.heap.size]? = some (.cells #[.int .i64 4, .int .i64 ch, .int .i64 s, .int .i64 g, .int .i64 v, .int .i64 c, .bool sd] 39 (0, 0)) from by rw [hW0]; exact (MapKept.heap_alloc w _).1)
  have HNO := hid (cs_hi h)
  have HCS := hid h
  have HRR := hid hR
  obtain ⟨D, hD⟩ : ∃ D, D = (if fitB cs ch s g c v sd = true then wtF cs ch s g c v sd else cs) := ⟨_, rfl⟩
  rw [← hD]
  have HD := hid hD
  clear hD
  obtain ⟨W1, hW1⟩ : ∃ W, W = W0.alloc (.cells #[.int .i64 s, .int .i64 g, .int .i64 c, .int .i64 v] 65) := ⟨_, rfl⟩
  have G1 := hid (show Gr W0 W1 from by rw [hW1]; exact Ch.alloc (Gr.refl W0) _)
  have GW1 := hid (Gr.trans G0.out G1.out)
  have BW := hid (show W1.heap[W0.heap.size]? = some (.cells #[.int .i64 s, .int .i64 g, .int .i64 c, .int .i64 v] 65 (0, 0)) from by rw [hW1]; exact (MapKept.heap_alloc W0 _).1)
  have BX1 := hid (gr_blk BX.out G1.out)
  have SZ0 := hid (show W0.heap.size = w.heap.size + 1 from by rw [hW0]; simp)
  have HF := hid (fits_any _ W1 l cs N ch s g c v sd (hl.gr GW1.out) hG (by omega))
  have HR := hid (fun (W : World) (p : Gr w W) => rwait_any _ W l cs N ch s g c v sd (hl.gr p) hG (by omega))
  have HP := hid (fun (W : World) (p : Gr w W) => wait_any (h.gr p) hG (by omega) ch s g c v sd hk)
  have HL := hid hl
  unfold RwO at HR
  unfold PwO at HP
  generalize wtT cs ch = wt at HR HP
  rw [hW1, hW0] at HF
  clear h hl hR hG hN hk
  go_enter Try.func10, Try.ntmps10
  go_upto_region 19 with fail
  rw [← hW0]
  rw [← hW0] at HF
  rw [← hW1]
  rw [← hW1] at HF
  clear hW0 hW1
  have q1 := cell_of BX1.out 1
  have q6 := cell_of BX1.out 6
  have lq1 := lt_of_block BX1.out
  simp at q1 q6
  have bw := BW.out
  rw [SZ0.out] at bw
  have BW' := hid bw
  clear bw
  have LW := hid (show w.heap.size < W0.heap.size from lt_of_block BX.out)
  cases hf : fitB cs ch s g c v sd with
  | false =>
    rw [hf] at HF
    have ED := hid (show D = cs from by rw [HD.out, hf]; rfl)
    clear hf HD
    go_wp2_with (first
      | (refine wpList_load_row rfl 65 (.tmp 25) rfl (w.heap.size + 1) rfl _ _ _ _ BW'.out Try.underlying65 rfl wtr_size ?_)
      | (go_at_call 28; refine HF.out.mono ?_; rintro e w2 ⟨rfl, g2⟩; have G2 := hid (Gr.trans GW1.out g2); clear g2))
    refine bodyPost_ret (results_tmp2 rfl _ _ _) rfl ⟨l, rfl, t, by rw [ED.out]; exact HCS.out.gr G2.out, by rw [ED.out]; exact (HL.out.gr G2.out).mono (fun q _ hq => ⟨.inl hq, HRR.out q hq⟩), Tn.gr G2.out⟩
  | true =>
    rw [hf] at HF
    have ED := hid (show D = wtF cs ch s g c v sd from by rw [HD.out, hf]; rfl)
    clear hf HD
    go_upto_region 21 with (first
      | (refine wpList_load_row rfl 65 (.tmp 25) rfl (w.heap.size + 1) rfl _ _ _ _ BW'.out Try.underlying65 rfl wtr_size ?_)
      | (go_at_call 28; refine HF.out.mono ?_; rintro e w2 ⟨rfl, g2⟩; have G2 := hid (Gr.trans GW1.out g2); have BX2 := hid (gr_blk BX1.out g2); have BW2 := hid (gr_blk BW'.out g2); clear g2))
    clear q1 q6 lq1
    have r1 := cell_of BX2.out 1
    have r6 := cell_of BX2.out 6
    have lr := lt_of_block BX2.out
    simp at r1 r6
    have HR2 := hid (HR.out _ G2.out)
    go_upto_region 22 with (first
      | (refine wpList_load_row rfl 65 (.tmp 25) rfl (w.heap.size + 1) rfl _ _ _ _ BW2.out Try.underlying65 rfl wtr_size ?_)
      | (go_at_call 29; refine HR2.out.mono ?_; rintro e w3 ⟨v3, rfl, rd3, g3⟩; have RD3 := hid rd3; have G3 := hid (Gr.trans G2.out g3); have BX3 := hid (gr_blk BX2.out g3); have BW3 := hid (gr_blk BW2.out g3); clear rd3 g3))
    clear r1 r6 lr
    have r1 := cell_of BX3.out 1
    have r6 := cell_of BX3.out 6
    have lr := lt_of_block BX3.out
    simp at r1 r6
    have HP2 := hid (HP.out _ G3.out)
    have S2 := hid (show w.heap.size ≤ w2.heap.size from G2.out.size)
    go_wp2_with (first
      | (refine wpList_load_row rfl 65 (.tmp 25) rfl (w.heap.size + 1) rfl _ _ _ _ BW3.out Try.underlying65 rfl wtr_size ?_)
      | (go_at_call 30; refine HP2.out.mono ?_; rintro e w4 ⟨rfl, t4, c4, n4⟩; have C4 := hid c4; have N4 := hid n4; clear c4 n4))
    have RF := (RD3.out.mono (Q := fun q => (R q ∨ w.heap.size ≤ q) ∧ t q = .no ∧ q < w3.heap.size) (fun q hq hp => ⟨hp.imp id (fun h1 => Nat.le_trans (by first | exact Nat.le_of_lt LW.out | exact S2.out) h1), hp.elim (HRR.out q) (fun h1 => HNO.out q (by have := S2.out; omega)), hq⟩)).ch N4.out.c (fun q _ hq hs => hs hq.2.1)
    refine bodyPost_ret (results_tmp2 rfl _ _ _) rfl ⟨v3, rfl, t4, by rw [ED.out]; exact C4.out, by rw [ED.out]; exact RF.mono (fun q _ hq => ⟨hq.1, N4.out.o q hq.2.2 hq.2.1⟩), Tn.ahead G3.out N4.out⟩
end Go.Proofs.Ytpkbgfneebjnjab.Lt

namespace Go.Proofs.Ytpkbgfneebjnjab.Lt
open Go.RowKit Wd
attribute [local go_sem ↓] Go.wp_at_zero Go.wp_at_succ

structure Sq (w : World) (A : Nat) (R M : Array Value) (W : World) : Prop where
  bx : W.heap[w.heap.size]? = some (.cells R 39 (0, 0))
  mx : W.heap[A]? = some (.cells M 60 (0, 0))
theorem cls_ks {N : Nat} {cs : List Cn} (h : Gd N cs) (ch : Int) : (clsF cs ch).ks.length ≤ N := by
  unfold clsF
  rcases cAt_cases cs ch with ⟨i, c, rfl, hc, e⟩ | ⟨_, e⟩ <;> rw [e]
  · dsimp only
    split
    · exact Nat.zero_le _
    · have h1 := h.wl_le (List.mem_of_getElem? hc)
      have h2 := wkF_len c.rs (sh2 cs i c)
      have h3 := wkF_len c.ss (lvl (cw1 cs i c) (sh2 cs i c))
      show (cwK cs i c).length ≤ N
      unfold cwK cw2
      unfold cw1 at h3 ⊢
      rw [List.length_append, List.length_map, List.length_map]
      omega
  · exact Nat.zero_le _
set_option maxHeartbeats 8000000 in
set_option maxRecDepth 40000 in
theorem does_close {t : Nat → Tg} {w : World} {b N : Nat} {cs : List Cn} {l : Value} (h : Cs t w b cs) {R : Nat → Prop} (hl : Rds R w l cs) (hR : ∀ q, R q → t q = .no) (hG : Gd N cs) (hN : N < 2932031007402) (ch s g v c : Int) (sd : Bool) (_hk : Gok s g) : Calls Try.prog 10 #[.pointer (some ⟨b, 0, none⟩), l, .agg #[.int .i64 3, .int .i64 ch, .int .i64 s, .int .i64 g, .int .i64 v, .int .i64 c, .bool sd]] w (DoR R t w b (clsF cs ch).cs) := by
  obtain ⟨W0, hW0⟩ : ∃ W, W = w.alloc (.cells #[.int .i64 3, .int .i64 ch, .int .i64 s, .int .i64 g, .int .i64 v, .int .i64 c, .bool sd] 39) := ⟨_, rfl⟩
  have G0 := hid (show Gr w W0 from by rw [hW0]; exact Ch.alloc (Gr.refl w) _)
  have BX := hid (show W0.heap[w.heap.size]? = some (.cells #[.int .i64 3, .int .i64 ch, .int .i64 s, .int .i64 g, .int .i64 v, .int .i64 c, .bool sd] 39 (0, 0)) from by rw [hW0]; exact (MapKept.heap_alloc w _).1)
  have HNO := hid (cs_hi h)
  have HCS := hid h
  have HRR := hid hR
  have HR := hid (rclose_any _ W0 l cs N ch (hl.gr G0.out) hG hN)
  have HP := hid (fun (W : World) (p : Gr w W) => close_any (h.gr p) hG hN ch)
  have HKS := hid (show (clsF cs ch).ks.length ≤ 2932031007402 from by have := cls_ks hG ch; omega)
  obtain ⟨o, ho⟩ : ∃ o, o = clsF cs ch := ⟨_, rfl⟩
  rw [← ho] at HR HP HKS ⊢
  rw [hW0] at HR
  clear ho h hl hR hG hN
  go_enter Try.func10, Try.ntmps10
  go_upto_region 16 with (go_at_call 26; refine HR.out.mono ?_; rintro e w1 ⟨v1, mo, mn, mc, rfl, lk1, rd1, g1⟩; rw [← hW0] at lk1 rd1 g1; have LK0 := hid lk1; have RD0 := hid rd1; have G1 := hid g1; clear lk1 rd1 g1)
  obtain ⟨W2, hW2⟩ : ∃ W, W = w1.alloc (.cells #[.bool false, .int .i64 0, .bool false, .int .i64 o.tr, .slice mo mn mc] 60) := ⟨_, rfl⟩
  have G2 := hid (show Gr w1 W2 from by rw [hW2]; exact Ch.alloc (Gr.refl w1) _)
  have MA2 := hid (show W2.heap[w1.heap.size]? = some (.cells #[.bool false, .int .i64 0, .bool false, .int .i64 o.tr, .slice mo mn mc] 60 (0, 0)) from by rw [hW2]; exact (MapKept.heap_alloc w1 _).1)
  rw [← hW2]
  clear hW0 hW2
  have LW := hid (show w.heap.size < W0.heap.size from lt_of_block BX.out)
  have LW1 := hid (show w.heap.size ≤ w1.heap.size from (Gr.trans G0.out G1.out).size)
  have hS0 : Sq w w1.heap.size #[.int .i64 3, .int .i64 ch, .int .i64 s, .int .i64 g, .int .i64 v, .int .i64 c, .bool sd] #[.bool false, .int .i64 0, .bool false, .int .i64 o.tr, .slice mo mn mc] (World.drew W2) := ⟨gr_blk BX.out (Gr.trans G1.out (Ch.drew G2.out)), gr_blk MA2.out (Ch.drew (Gr.refl W2))⟩
  have GV := hid (Gr.trans (Gr.trans G0.out G1.out) (Ch.drew G2.out))
  have RD1 := hid (RD0.out.gr (Ch.drew G2.out))
  have LK1 := hid (LK0.out.gr (Ch.drew G2.out))
  refine wp_region_held_drew (S := Sq w w1.heap.size #[.int .i64 3, .int .i64 ch, .int .i64 s, .int .i64 g, .int .i64 v, .int .i64 c, .bool sd] #[.bool false, .int .i64 0, .bool false, .int .i64 o.tr, .slice mo mn mc]) (by kernel_rfl) (by exact hS0) (fun _ => ?_)
  generalize World.drew W2 = V0 at hS0 GV RD1 LK1 ⊢
  refine takeS_on (i := 0) 135 (v := ?v1) rfl rfl (by kernel_rfl) (by kernel_rfl) (by kernel_rfl) (fun _ _ _ h => h) (by kernel_rfl) ?hy1 (by exact hS0) ?_
  case hy1 => (intro w' hSw; go_simp; try (with_reducible rfl))
  simp only [Act.put, List.setIfInBounds_toArray, List.set_cons_zero, List.set_cons_succ]
  refine takeS_on (i := 1) 136 (v := ?v2) rfl rfl (by kernel_rfl) (by kernel_rfl) (by kernel_rfl) (fun _ _ _ h => h) (by kernel_rfl) ?hy2 (by exact hS0) ?_
  case hy2 => (intro w' hSw; refine Eq.trans (exec_row 60 (.tmp 24) rfl _ rfl _ _ _ _ hSw.mx Try.underlying60 rfl mov_size) ?_; with_reducible rfl)
  simp only [Act.put, List.setIfInBounds_toArray, List.set_cons_zero, List.set_cons_succ]
  refine takeS_on (i := 2) 137 (v := ?v3) rfl rfl (by kernel_rfl) (by kernel_rfl) (by kernel_rfl) (fun _ _ _ h => h) (by kernel_rfl) ?hy3 (by exact hS0) ?_
  case hy3 => (intro w' hSw; go_simp; try (with_reducible rfl))
  simp only [Act.put, List.setIfInBounds_toArray, List.set_cons_zero, List.set_cons_succ]
  refine takeS_on (i := 3) 138 (v := ?v4) rfl rfl (by kernel_rfl) (by kernel_rfl) (by kernel_rfl) (fun _ _ _ h => h) (by kernel_rfl) ?hy4 (by exact hS0) ?_
  case hy4 => (intro w' hSw; go_simp; try (with_reducible rfl))
  simp only [Act.put, List.setIfInBounds_toArray, List.set_cons_zero, List.set_cons_succ]
  refine takeS_on (i := 4) 139 (v := ?v5) rfl rfl (by kernel_rfl) (by kernel_rfl) (by kernel_rfl) (fun _ _ _ h => h) (by kernel_rfl) ?hy5 (by exact hS0) ?_
  case hy5 => (intro w' hSw; have c1 := cell_of hSw.bx 1; simp at c1; go_simp; try (with_reducible rfl))
  simp only [Act.put, List.setIfInBounds_toArray, List.set_cons_zero, List.set_cons_succ]
  refine wpAnyH_ready (rs := [5]) (by kernel_rfl) (by simp) (AllReadyH.cons rfl (fun K hK => ?_) AllReadyH.nil)
  go_simp
  refine (HP.out _ GV.out).mono ?_
  rintro e w3 ⟨no, nn, nc, rfl, ok3, t3, c3, n3, b3⟩
  have OK3 := hid ok3
  have C3 := hid c3
  have N3 := hid n3
  have hS1 : Sq w w1.heap.size #[.int .i64 3, .int .i64 ch, .int .i64 s, .int .i64 g, .int .i64 v, .int .i64 c, .bool sd] #[.bool false, .int .i64 0, .bool false, .int .i64 o.tr, .slice mo mn mc] w3 := ⟨(n3.c.block _ (lt_of_block hS0.bx) (fun q => q (HNO.out _ (Nat.le_refl _)))).trans hS0.bx, (n3.c.block _ (lt_of_block hS0.mx) (fun q => q (HNO.out _ (by have := LW1.out; omega)))).trans hS0.mx⟩
  have LA := hid (show Ls eK (W0.heap.size ≤ ·) w3 (.slice mo mn mc) o.ks from LK1.out.ch n3.c (fun q _ hq hs => hs (HNO.out q (by have := LW.out; omega))))
  have e1 : nn = mn := by have h1 := LK1.out.len.1; have h2 := ok3.len.1; omega
  subst e1
  have HSM := hid (rsamem_any _ _ w3 false false 0 o.tr mo no nn mc nc o.ks LA.out ok3.lst (by have h1 := LK1.out.len.1; have h2 := HKS.out; omega))
  clear ok3 c3 n3 b3
  refine hK.out _ _ (by exact hS1) (fun _ => ?_)
  clear hK K
  refine wpAnyH_ready (rs := [6]) (by kernel_rfl) (by simp) (AllReadyH.cons rfl (fun K hK => ?_) AllReadyH.nil)
  go_simp
  refine HSM.out.mono ?_
  rintro e w5 ⟨rfl, g5⟩
  have hS2 : Sq w w1.heap.size #[.int .i64 3, .int .i64 ch, .int .i64 s, .int .i64 g, .int .i64 v, .int .i64 c, .bool sd] #[.bool false, .int .i64 0, .bool false, .int .i64 o.tr, .slice mo nn mc] w5 := ⟨gr_blk hS1.bx g5, gr_blk hS1.mx g5⟩
  have G5 := hid g5
  clear g5
  refine hK.out _ _ (by exact hS2) (fun _ => ?_)
  clear hK K
  refine takeS_on (i := 7) 6 (v := ?v6) rfl rfl (by kernel_rfl) (by kernel_rfl) (by kernel_rfl) (fun _ _ _ h => h) (by kernel_rfl) ?hy6 (by exact hS2) ?_
  case hy6 => (intro w' hSw; go_simp; try (with_reducible rfl))
  simp only [Act.put, List.setIfInBounds_toArray, List.set_cons_zero, List.set_cons_succ]
  refine takeS_on (i := 8) 7 (v := ?v7) rfl rfl (by kernel_rfl) (by kernel_rfl) (by kernel_rfl) (fun _ _ _ h => h) (by kernel_rfl) ?hy7 (by exact hS2) ?_
  case hy7 => (intro w' hSw; go_simp; try (with_reducible rfl))
  simp only [Act.put, List.setIfInBounds_toArray, List.set_cons_zero, List.set_cons_succ]
  refine wpAnyH_done (by kernel_rfl) ?_ _
  go_wp2_with fail
  have RF := (RD1.out.mono (Q := fun q => (R q ∨ w.heap.size ≤ q) ∧ t q = .no ∧ q < V0.heap.size) (fun q hq hp => ⟨hp.imp id (fun h1 => Nat.le_trans (by first | exact Nat.le_of_lt LW.out | exact S2.out) h1), hp.elim (HRR.out q) (fun h1 => HNO.out q (by have := LW.out; omega)), hq⟩)).ch N3.out.c (fun q _ hq hs => hs hq.2.1)
  refine bodyPost_ret (results_tmp2 rfl _ _ _) rfl ⟨v1, rfl, t3, C3.out.gr G5.out, (RF.gr G5.out).mono (fun q _ hq => ⟨hq.1, N3.out.o q hq.2.2 hq.2.1⟩), (Tn.ahead GV.out N3.out).then G5.out⟩
/-- the channels behind an act -/
def actF (cs : List Cn) (a : Ac) : List Cn :=
  if a.k = 0 then mkF cs a.v else if a.k = 1 then (sndF cs a.ch a.s a.g a.v).cs else if a.k = 2 then (rcvF cs a.ch a.s a.g).cs else if a.k = 3 then (clsF cs a.ch).cs else
  if a.k = 4 then (if fitB cs a.ch a.s a.g a.c a.v a.sd = true then wtF cs a.ch a.s a.g a.c a.v a.sd else cs) else if a.k = 5 then lvs cs a.s a.g else cs
theorem does_any {t : Nat → Tg} {w : World} {b N : Nat} {cs : List Cn} {l : Value} (h : Cs t w b cs) {R : Nat → Prop} (hl : Rds R w l cs) (hR : ∀ q, R q → t q = .no) (hG : Gd N cs) (hN : N < 2932031007402) (a : Ac) (hk : Gok a.s a.g) :
    Calls Try.prog 10 #[.pointer (some ⟨b, 0, none⟩), l, .agg a.row] w (DoR R t w b (actF cs a)) := by
  obtain ⟨k, ch, s, g, v, c, sd⟩ := a
  dsimp only at hk
  unfold actF
  dsimp only
  by_cases h0 : k = 0
  · subst h0; exact does_make h hl hR hG hN ch s g v c sd hk
  · rw [if_neg h0]
    by_cases h1 : k = 1
    · subst h1; exact does_send h hl hR hG hN ch s g v c sd hk
    · rw [if_neg h1]
      by_cases h2 : k = 2
      · subst h2; exact does_recv h hl hR hG hN ch s g v c sd hk
      · rw [if_neg h2]
        by_cases h3 : k = 3
        · subst h3; exact does_close h hl hR hG hN ch s g v c sd hk
        · rw [if_neg h3]
          by_cases h4 : k = 4
          · subst h4; exact does_wait h hl hR hG hN ch s g v c sd hk
          · rw [if_neg h4]
            by_cases h5 : k = 5
            · subst h5; exact does_leave h hl hR hG hN ch s g v c sd hk
            · rw [if_neg h5]
              by_cases h6 : k = 6
              · subst h6; exact does_goes h hl hR hG hN ch s g v c sd hk
              · exact does_told h hl hR hG hN ch s g v c sd hk k h0 h1 h2 h3 h4 h5 h6
theorem Gd.act {N : Nat} {cs : List Cn} (h : Gd N cs) (a : Ac) (hk : Gok a.s a.g) : Gd (N + 1) (actF cs a) := by
  unfold actF
  split
  · unfold mkF
    split
    · rename_i h1
      refine ⟨by rw [List.length_append]; simp; omega, ?_, ?_, ?_, ?_⟩
      · intro c hc
        rcases List.mem_append.1 hc with q | q
        · exact h.cap c q
        · rw [List.mem_singleton] at q; subst q; exact ⟨h1.1, h1.2.1⟩
      · intro c hc
        rcases List.mem_append.1 hc with q | q
        · exact h.v c q
        · rw [List.mem_singleton] at q; subst q; exact h1.1
      · have := h.w
        unfold tot at *
        rw [List.map_append, List.sum_append]
        simp [wl]
        omega
      · intro c hc x hx
        rcases List.mem_append.1 hc with q | q
        · exact h.g c q x hx
        · rw [List.mem_singleton] at q; subst q; simp at hx
    · exact h.up (by omega)
  · split
    · exact h.snd _ _ _ _ hk
    · split
      · exact h.rcv _ _ _ hk
      · split
        · exact (h.cls _).up (by omega)
        · split
          · split
            · unfold wtF
              rcases cAt_cases cs a.ch with ⟨i, d, e1, hc, e⟩ | ⟨_, e⟩ <;> rw [e]
              · have mem := List.mem_of_getElem? hc
                dsimp only
                split
                · refine h.set hc (h.cap d mem) (h.v d mem) (by unfold wl; dsimp only; rw [List.length_append, List.length_singleton]; omega) ?_
                  intro x hx
                  dsimp only at hx
                  rcases hx with hx | hx
                  · rcases List.mem_append.1 hx with hx | hx
                    · exact h.g d mem x (.inl hx)
                    · rw [List.mem_singleton] at hx; subst hx; exact hk
                  · exact h.g d mem x (.inr hx)
                · refine h.set hc (h.cap d mem) (h.v d mem) (by unfold wl; dsimp only; rw [List.length_append, List.length_singleton]; omega) ?_
                  intro x hx
                  dsimp only at hx
                  rcases hx with hx | hx
                  · exact h.g d mem x (.inl hx)
                  · rcases List.mem_append.1 hx with hx | hx
                    · exact h.g d mem x (.inr hx)
                    · rw [List.mem_singleton] at hx; subst hx; exact hk
              · exact h.up (by omega)
            · exact h.up (by omega)
          · split
            · exact (h.lvs _ _).up (by omega)
            · exact h.up (by omega)
end Go.Proofs.Ytpkbgfneebjnjab.Lt
