/-
  What Check answers: the document; why nothing is told: the document. Condition: the list is not too long.
-/
import Derived.Test.YtcoaefojamhloaaPyChk
import Derived.Test.YtcoaefojamhloaaPySkip
namespace Go.Proofs.Ytcoaefojamhloaa.Lt
open Go.RowKit Wd
attribute [local go_sem ↓] Go.wp_at_zero Go.wp_at_succ
set_option maxRecDepth 20000

theorem egB_of (n : Int) (x : Eg) : egB n x = (dmB n x.f && dmB n x.t && decide (x.f ≠ x.t)) := rfl
set_option maxHeartbeats 8000000 in
theorem rcheck_any (w : World) (n : Int) (a : Option Addr) (m c : Nat) (l : List Eg) (h : Le w (.slice a m c) l) (hm : m ≤ 8796093022208) :
    Calls Try.prog 11 #[.int .i64 n, .slice a m c] w fun e w' => e = chkE n l ∧ Gr w w' := by
  have HL := hide h
  have HM := hide (show m = l.length from h.len.1)
  have HP := hide (show chkP n l = if n < 1 ∨ 16 < n then (0, 1) else chkL n 0 (l.drop 0) from rfl)
  have CI := hide (ris_any n)
  unfold chkE
  generalize chkP n l = R at HP ⊢
  clear h
  by_cases h1 : n < 1
  · have e : R = (0, 1) := by rw [HP.out, if_pos (.inl h1)]
    subst e
    go_enter Try.func11, Try.ntmps11
    go_wp2
    go_ret2
    exact ⟨rfl, Gr.refl _⟩
  · by_cases h2 : 16 < n
    · have e : R = (0, 1) := by rw [HP.out, if_pos (.inr h2)]
      subst e
      go_enter Try.func11, Try.ntmps11
      go_wp2
      go_ret2
      exact ⟨rfl, Gr.refl _⟩
    · have HQ := hide (show chkL n 0 (l.drop 0) = R by rw [HP.out, if_neg (by omega)])
      clear HP
      go_enter Try.func11, Try.ntmps11
      go_wp2_with fail
      go_loopg [6] m (fun k i wr => ∃ (j : Nat), j + k = m ∧ i = .int .i64 (j : Int) ∧ chkL n j (l.drop j) = R ∧ Gr w wr)
      case atStart => exact ⟨0, by omega, rfl, HQ.out, Gr.refl _⟩
      case round =>
        obtain ⟨j, hjk, rfl, hr, hg⟩ := hrel
        obtain ⟨V, hV⟩ : ∃ V, V = wr := ⟨_, rfl⟩
        subst hV
        have G := hide hg
        have HH := hide hr
        clear hr
        by_cases hj : j < m
        · have hj' : (j : Int) < (m : Int) := by omega
          have hj0 : (0 : Int) ≤ (j : Int) := by omega
          have hjm : (j : Int) < 8796093022208 := by omega
          have hjl : j < l.length := by rw [← HM.out]; exact hj
          have hjx : l[j]? = some l[j] := List.getElem?_eq_getElem hjl
          have HD := hide (show l.drop j = l[j] :: l.drop (j + 1) from List.drop_eq_getElem_cons hjl)
          obtain ⟨g, o, ea, gl, gc, x0, x1⟩ := eg_at (HL.out.gr hg) hjx
          subst ea
          have HV := hide (show ∀ X, Gr V X → X.cell? ⟨g, o + j * 2, none⟩ = some (.int .i64 l[j].f) ∧ X.cell? ⟨g, o + j * 2 + 1, none⟩ = some (.int .i64 l[j].t) ∧ g < X.heap.size from fun X k => by
            obtain ⟨g2, o2, e2, a1, a2, a3, a4⟩ := eg_at (HL.out.gr (Gr.trans hg k)) hjx
            injection e2 with e2
            injection e2 with e2 e3
            subst e2 e3
            exact ⟨a3, a4, a1⟩)
          clear x0 x1
          generalize l[j] = x at hjx HD HV
          clear hjx hg
          have HN := hide (show chkL n j (l.drop j) = if egB n x = true then chkL n (j + 1) (l.drop (j + 1)) else ((j : Int), 170) by rw [HD.out]; rfl)
          have hS0 : Gr V (World.drew V) := Ch.drew (Gr.refl _)
          have HEE := hide (egB_of n x)
          cases hb1 : dmB n x.f
          · have HE := hide (show egB n x = false by rw [HEE.out, hb1]; rfl)
            clear HEE
            go_wp2_with fail
            refine wp_region_held_drew (S := Gr V) (by kernel_rfl) (by exact hS0) (fun _ => ?_)
            generalize World.drew V = V0 at hS0 ⊢
            refine takeS_on (i := 0) 19 (v := ?hv1) rfl rfl (by kernel_rfl) (by kernel_rfl) (by kernel_rfl) (fun _ _ _ h => h) (by kernel_rfl) ?hh1 (by exact hS0) ?_
            case hh1 => (intro w' hSw; go_simp; try (with_reducible rfl))
            simp only [Act.put, List.setIfInBounds_toArray, List.set_cons_zero, List.set_cons_succ]
            refine takeS_on (i := 1) 20 (v := ?hv2) rfl rfl (by kernel_rfl) (by kernel_rfl) (by kernel_rfl) (fun _ _ _ h => h) (by kernel_rfl) ?hh2 (by exact hS0) ?_
            case hh2 => (intro w' hSw; go_simp; try (with_reducible rfl))
            simp only [Act.put, List.setIfInBounds_toArray, List.set_cons_zero, List.set_cons_succ]
            refine takeS_on (i := 2) 21 (v := ?hv3) rfl rfl (by kernel_rfl) (by kernel_rfl) (by kernel_rfl) (fun _ _ _ h => h) (by kernel_rfl) ?hh3 (by exact hS0) ?_
            case hh3 => (intro w' hSw; go_simp; try (with_reducible rfl))
            simp only [Act.put, List.setIfInBounds_toArray, List.set_cons_zero, List.set_cons_succ]
            refine takeS_on (i := 3) 22 (v := ?hv4) rfl rfl (by kernel_rfl) (by kernel_rfl) (by kernel_rfl) (fun _ _ _ h => h) (by kernel_rfl) ?hh4 (by exact hS0) ?_
            case hh4 => (intro w' hSw; go_simp; try (with_reducible rfl))
            simp only [Act.put, List.setIfInBounds_toArray, List.set_cons_zero, List.set_cons_succ]
            refine takeS_on (i := 4) 23 (v := ?hv5) rfl rfl (by kernel_rfl) (by kernel_rfl) (by kernel_rfl) (fun _ _ _ h => h) (by kernel_rfl) ?hh5 (by exact hS0) ?_
            case hh5 => (intro w' hSw; go_simp; try (with_reducible rfl))
            simp only [Act.put, List.setIfInBounds_toArray, List.set_cons_zero, List.set_cons_succ]
            refine takeS_on (i := 5) 24 (v := ?hv6) rfl rfl (by kernel_rfl) (by kernel_rfl) (by kernel_rfl) (fun _ _ _ h => h) (by kernel_rfl) ?hh6 (by exact hS0) ?_
            case hh6 => (intro w' hSw; obtain ⟨x0, x1, gl⟩ := HV.out _ hSw; go_simp; try (with_reducible rfl))
            simp only [Act.put, List.setIfInBounds_toArray, List.set_cons_zero, List.set_cons_succ]
            refine wpAnyH_ready (rs := [6]) (by kernel_rfl) (by simp) (AllReadyH.cons rfl (fun K hK => ?_) AllReadyH.nil)
            go_simp
            refine (CI.out x.f _).mono ?_
            rintro e w1 ⟨rfl, g1⟩
            rw [hb1]
            have hS1 := Gr.trans hS0 g1
            clear g1
            refine hK.out _ _ (by exact hS1) (fun _ => ?_)
            clear hK K
            refine takeS_on (i := 7) 26 (v := ?hv7) rfl rfl (by kernel_rfl) (by kernel_rfl) (by kernel_rfl) (fun _ _ _ h => h) (by kernel_rfl) ?hh7 (by exact hS1) ?_
            case hh7 => (intro w' hSw; go_simp; try (with_reducible rfl))
            simp only [Act.put, List.setIfInBounds_toArray, List.set_cons_zero, List.set_cons_succ]
            refine takeS_on (i := 8) 27 (v := ?hv8) rfl rfl (by kernel_rfl) (by kernel_rfl) (by kernel_rfl) (fun _ _ _ h => h) (by kernel_rfl) ?hh8 (by exact hS1) ?_
            case hh8 => (intro w' hSw; go_simp; try (with_reducible rfl))
            simp only [Act.put, List.setIfInBounds_toArray, List.set_cons_zero, List.set_cons_succ]
            refine skipS_on (i := 9) 28 rfl rfl (by kernel_rfl) (by kernel_rfl) (by kernel_rfl) (fun _ _ _ h => h) (by kernel_rfl) (by exact hS1) ?_
            simp only [Act.put, List.setIfInBounds_toArray, List.set_cons_zero, List.set_cons_succ]
            refine skipS_on (i := 10) 29 rfl rfl (by kernel_rfl) (by kernel_rfl) (by kernel_rfl) (fun _ _ _ h => h) (by kernel_rfl) (by exact hS1) ?_
            simp only [Act.put, List.setIfInBounds_toArray, List.set_cons_zero, List.set_cons_succ]
            refine skipS_on (i := 11) 30 rfl rfl (by kernel_rfl) (by kernel_rfl) (by kernel_rfl) (fun _ _ _ h => h) (by kernel_rfl) (by exact hS1) ?_
            simp only [Act.put, List.setIfInBounds_toArray, List.set_cons_zero, List.set_cons_succ]
            refine skipS_on (i := 12) 31 rfl rfl (by kernel_rfl) (by kernel_rfl) (by kernel_rfl) (fun _ _ _ h => h) (by kernel_rfl) (by exact hS1) ?_
            simp only [Act.put, List.setIfInBounds_toArray, List.set_cons_zero, List.set_cons_succ]
            refine skipS_on (i := 13) 32 rfl rfl (by kernel_rfl) (by kernel_rfl) (by kernel_rfl) (fun _ _ _ h => h) (by kernel_rfl) (by exact hS1) ?_
            simp only [Act.put, List.setIfInBounds_toArray, List.set_cons_zero, List.set_cons_succ]
            refine skipS_on (i := 14) 33 rfl rfl (by kernel_rfl) (by kernel_rfl) (by kernel_rfl) (fun _ _ _ h => h) (by kernel_rfl) (by exact hS1) ?_
            simp only [Act.put, List.setIfInBounds_toArray, List.set_cons_zero, List.set_cons_succ]
            refine skipS_on (i := 15) 34 rfl rfl (by kernel_rfl) (by kernel_rfl) (by kernel_rfl) (fun _ _ _ h => h) (by kernel_rfl) (by exact hS1) ?_
            simp only [Act.put, List.setIfInBounds_toArray, List.set_cons_zero, List.set_cons_succ]
            refine skipS_on (i := 16) 35 rfl rfl (by kernel_rfl) (by kernel_rfl) (by kernel_rfl) (fun _ _ _ h => h) (by kernel_rfl) (by exact hS1) ?_
            simp only [Act.put, List.setIfInBounds_toArray, List.set_cons_zero, List.set_cons_succ]
            refine takeS_on (i := 17) 36 (v := ?hv17) rfl rfl (by kernel_rfl) (by kernel_rfl) (by kernel_rfl) (fun _ _ _ h => h) (by kernel_rfl) ?hh17 (by exact hS1) ?_
            case hh17 => (intro w' hSw; go_simp; try (with_reducible rfl))
            simp only [Act.put, List.setIfInBounds_toArray, List.set_cons_zero, List.set_cons_succ]
            refine takeS_on (i := 18) 37 (v := ?hv18) rfl rfl (by kernel_rfl) (by kernel_rfl) (by kernel_rfl) (fun _ _ _ h => h) (by kernel_rfl) ?hh18 (by exact hS1) ?_
            case hh18 => (intro w' hSw; go_simp; try (with_reducible rfl))
            simp only [Act.put, List.setIfInBounds_toArray, List.set_cons_zero, List.set_cons_succ]
            refine skipS_on (i := 19) 38 rfl rfl (by kernel_rfl) (by kernel_rfl) (by kernel_rfl) (fun _ _ _ h => h) (by kernel_rfl) (by exact hS1) ?_
            simp only [Act.put, List.setIfInBounds_toArray, List.set_cons_zero, List.set_cons_succ]
            refine skipS_on (i := 20) 39 rfl rfl (by kernel_rfl) (by kernel_rfl) (by kernel_rfl) (fun _ _ _ h => h) (by kernel_rfl) (by exact hS1) ?_
            simp only [Act.put, List.setIfInBounds_toArray, List.set_cons_zero, List.set_cons_succ]
            refine skipS_on (i := 21) 40 rfl rfl (by kernel_rfl) (by kernel_rfl) (by kernel_rfl) (fun _ _ _ h => h) (by kernel_rfl) (by exact hS1) ?_
            simp only [Act.put, List.setIfInBounds_toArray, List.set_cons_zero, List.set_cons_succ]
            refine skipS_on (i := 22) 41 rfl rfl (by kernel_rfl) (by kernel_rfl) (by kernel_rfl) (fun _ _ _ h => h) (by kernel_rfl) (by exact hS1) ?_
            simp only [Act.put, List.setIfInBounds_toArray, List.set_cons_zero, List.set_cons_succ]
            refine skipS_on (i := 23) 42 rfl rfl (by kernel_rfl) (by kernel_rfl) (by kernel_rfl) (fun _ _ _ h => h) (by kernel_rfl) (by exact hS1) ?_
            simp only [Act.put, List.setIfInBounds_toArray, List.set_cons_zero, List.set_cons_succ]
            refine skipS_on (i := 24) 43 rfl rfl (by kernel_rfl) (by kernel_rfl) (by kernel_rfl) (fun _ _ _ h => h) (by kernel_rfl) (by exact hS1) ?_
            simp only [Act.put, List.setIfInBounds_toArray, List.set_cons_zero, List.set_cons_succ]
            refine skipS_on (i := 25) 44 rfl rfl (by kernel_rfl) (by kernel_rfl) (by kernel_rfl) (fun _ _ _ h => h) (by kernel_rfl) (by exact hS1) ?_
            simp only [Act.put, List.setIfInBounds_toArray, List.set_cons_zero, List.set_cons_succ]
            refine skipS_on (i := 26) 45 rfl rfl (by kernel_rfl) (by kernel_rfl) (by kernel_rfl) (fun _ _ _ h => h) (by kernel_rfl) (by exact hS1) ?_
            simp only [Act.put, List.setIfInBounds_toArray, List.set_cons_zero, List.set_cons_succ]
            refine skipS_on (i := 27) 46 rfl rfl (by kernel_rfl) (by kernel_rfl) (by kernel_rfl) (fun _ _ _ h => h) (by kernel_rfl) (by exact hS1) ?_
            simp only [Act.put, List.setIfInBounds_toArray, List.set_cons_zero, List.set_cons_succ]
            refine skipS_on (i := 28) 47 rfl rfl (by kernel_rfl) (by kernel_rfl) (by kernel_rfl) (fun _ _ _ h => h) (by kernel_rfl) (by exact hS1) ?_
            simp only [Act.put, List.setIfInBounds_toArray, List.set_cons_zero, List.set_cons_succ]
            refine skipS_on (i := 29) 48 rfl rfl (by kernel_rfl) (by kernel_rfl) (by kernel_rfl) (fun _ _ _ h => h) (by kernel_rfl) (by exact hS1) ?_
            simp only [Act.put, List.setIfInBounds_toArray, List.set_cons_zero, List.set_cons_succ]
            refine takeS_on (i := 30) 49 (v := ?hv30) rfl rfl (by kernel_rfl) (by kernel_rfl) (by kernel_rfl) (fun _ _ _ h => h) (by kernel_rfl) ?hh30 (by exact hS1) ?_
            case hh30 => (intro w' hSw; go_simp; try (with_reducible rfl))
            simp only [Act.put, List.setIfInBounds_toArray, List.set_cons_zero, List.set_cons_succ]
            refine wpAnyH_done (by kernel_rfl) ?_ _
            have e : R = ((j : Int), 170) := by rw [← HH.out, HN.out, HE.out]; rfl
            subst e
            have GE := hide (Gr.trans G.out hS1)
            go_wp2
            go_ret2
            exact ⟨rfl, GE.out⟩
          · cases hb2 : dmB n x.t
            · have HE := hide (show egB n x = false by rw [HEE.out, hb1, hb2]; rfl)
              clear HEE
              go_wp2_with fail
              refine wp_region_held_drew (S := Gr V) (by kernel_rfl) (by exact hS0) (fun _ => ?_)
              generalize World.drew V = V0 at hS0 ⊢
              refine takeS_on (i := 0) 19 (v := ?hv31) rfl rfl (by kernel_rfl) (by kernel_rfl) (by kernel_rfl) (fun _ _ _ h => h) (by kernel_rfl) ?hh31 (by exact hS0) ?_
              case hh31 => (intro w' hSw; go_simp; try (with_reducible rfl))
              simp only [Act.put, List.setIfInBounds_toArray, List.set_cons_zero, List.set_cons_succ]
              refine takeS_on (i := 1) 20 (v := ?hv32) rfl rfl (by kernel_rfl) (by kernel_rfl) (by kernel_rfl) (fun _ _ _ h => h) (by kernel_rfl) ?hh32 (by exact hS0) ?_
              case hh32 => (intro w' hSw; go_simp; try (with_reducible rfl))
              simp only [Act.put, List.setIfInBounds_toArray, List.set_cons_zero, List.set_cons_succ]
              refine takeS_on (i := 2) 21 (v := ?hv33) rfl rfl (by kernel_rfl) (by kernel_rfl) (by kernel_rfl) (fun _ _ _ h => h) (by kernel_rfl) ?hh33 (by exact hS0) ?_
              case hh33 => (intro w' hSw; go_simp; try (with_reducible rfl))
              simp only [Act.put, List.setIfInBounds_toArray, List.set_cons_zero, List.set_cons_succ]
              refine takeS_on (i := 3) 22 (v := ?hv34) rfl rfl (by kernel_rfl) (by kernel_rfl) (by kernel_rfl) (fun _ _ _ h => h) (by kernel_rfl) ?hh34 (by exact hS0) ?_
              case hh34 => (intro w' hSw; go_simp; try (with_reducible rfl))
              simp only [Act.put, List.setIfInBounds_toArray, List.set_cons_zero, List.set_cons_succ]
              refine takeS_on (i := 4) 23 (v := ?hv35) rfl rfl (by kernel_rfl) (by kernel_rfl) (by kernel_rfl) (fun _ _ _ h => h) (by kernel_rfl) ?hh35 (by exact hS0) ?_
              case hh35 => (intro w' hSw; go_simp; try (with_reducible rfl))
              simp only [Act.put, List.setIfInBounds_toArray, List.set_cons_zero, List.set_cons_succ]
              refine takeS_on (i := 5) 24 (v := ?hv36) rfl rfl (by kernel_rfl) (by kernel_rfl) (by kernel_rfl) (fun _ _ _ h => h) (by kernel_rfl) ?hh36 (by exact hS0) ?_
              case hh36 => (intro w' hSw; obtain ⟨x0, x1, gl⟩ := HV.out _ hSw; go_simp; try (with_reducible rfl))
              simp only [Act.put, List.setIfInBounds_toArray, List.set_cons_zero, List.set_cons_succ]
              refine wpAnyH_ready (rs := [6]) (by kernel_rfl) (by simp) (AllReadyH.cons rfl (fun K hK => ?_) AllReadyH.nil)
              go_simp
              refine (CI.out x.f _).mono ?_
              rintro e w1 ⟨rfl, g1⟩
              rw [hb1]
              have hS1 := Gr.trans hS0 g1
              clear g1
              refine hK.out _ _ (by exact hS1) (fun _ => ?_)
              clear hK K
              refine takeS_on (i := 7) 26 (v := ?hv37) rfl rfl (by kernel_rfl) (by kernel_rfl) (by kernel_rfl) (fun _ _ _ h => h) (by kernel_rfl) ?hh37 (by exact hS1) ?_
              case hh37 => (intro w' hSw; go_simp; try (with_reducible rfl))
              simp only [Act.put, List.setIfInBounds_toArray, List.set_cons_zero, List.set_cons_succ]
              refine takeS_on (i := 8) 27 (v := ?hv38) rfl rfl (by kernel_rfl) (by kernel_rfl) (by kernel_rfl) (fun _ _ _ h => h) (by kernel_rfl) ?hh38 (by exact hS1) ?_
              case hh38 => (intro w' hSw; go_simp; try (with_reducible rfl))
              simp only [Act.put, List.setIfInBounds_toArray, List.set_cons_zero, List.set_cons_succ]
              refine takeS_on (i := 9) 28 (v := ?hv39) rfl rfl (by kernel_rfl) (by kernel_rfl) (by kernel_rfl) (fun _ _ _ h => h) (by kernel_rfl) ?hh39 (by exact hS1) ?_
              case hh39 => (intro w' hSw; go_simp; try (with_reducible rfl))
              simp only [Act.put, List.setIfInBounds_toArray, List.set_cons_zero, List.set_cons_succ]
              refine takeS_on (i := 10) 29 (v := ?hv40) rfl rfl (by kernel_rfl) (by kernel_rfl) (by kernel_rfl) (fun _ _ _ h => h) (by kernel_rfl) ?hh40 (by exact hS1) ?_
              case hh40 => (intro w' hSw; go_simp; try (with_reducible rfl))
              simp only [Act.put, List.setIfInBounds_toArray, List.set_cons_zero, List.set_cons_succ]
              refine takeS_on (i := 11) 30 (v := ?hv41) rfl rfl (by kernel_rfl) (by kernel_rfl) (by kernel_rfl) (fun _ _ _ h => h) (by kernel_rfl) ?hh41 (by exact hS1) ?_
              case hh41 => (intro w' hSw; go_simp; try (with_reducible rfl))
              simp only [Act.put, List.setIfInBounds_toArray, List.set_cons_zero, List.set_cons_succ]
              refine takeS_on (i := 12) 31 (v := ?hv42) rfl rfl (by kernel_rfl) (by kernel_rfl) (by kernel_rfl) (fun _ _ _ h => h) (by kernel_rfl) ?hh42 (by exact hS1) ?_
              case hh42 => (intro w' hSw; go_simp; try (with_reducible rfl))
              simp only [Act.put, List.setIfInBounds_toArray, List.set_cons_zero, List.set_cons_succ]
              refine takeS_on (i := 13) 32 (v := ?hv43) rfl rfl (by kernel_rfl) (by kernel_rfl) (by kernel_rfl) (fun _ _ _ h => h) (by kernel_rfl) ?hh43 (by exact hS1) ?_
              case hh43 => (intro w' hSw; go_simp; try (with_reducible rfl))
              simp only [Act.put, List.setIfInBounds_toArray, List.set_cons_zero, List.set_cons_succ]
              refine takeS_on (i := 14) 33 (v := ?hv44) rfl rfl (by kernel_rfl) (by kernel_rfl) (by kernel_rfl) (fun _ _ _ h => h) (by kernel_rfl) ?hh44 (by exact hS1) ?_
              case hh44 => (intro w' hSw; obtain ⟨x0, x1, gl⟩ := HV.out _ hSw; go_simp; try (with_reducible rfl))
              simp only [Act.put, List.setIfInBounds_toArray, List.set_cons_zero, List.set_cons_succ]
              refine wpAnyH_ready (rs := [15]) (by kernel_rfl) (by simp) (AllReadyH.cons rfl (fun K hK => ?_) AllReadyH.nil)
              go_simp
              refine (CI.out x.t _).mono ?_
              rintro e w2 ⟨rfl, g2⟩
              rw [hb2]
              have hS2 := Gr.trans hS1 g2
              clear g2
              refine hK.out _ _ (by exact hS2) (fun _ => ?_)
              clear hK K
              refine takeS_on (i := 16) 35 (v := ?hv45) rfl rfl (by kernel_rfl) (by kernel_rfl) (by kernel_rfl) (fun _ _ _ h => h) (by kernel_rfl) ?hh45 (by exact hS2) ?_
              case hh45 => (intro w' hSw; go_simp; try (with_reducible rfl))
              simp only [Act.put, List.setIfInBounds_toArray, List.set_cons_zero, List.set_cons_succ]
              refine takeS_on (i := 17) 36 (v := ?hv46) rfl rfl (by kernel_rfl) (by kernel_rfl) (by kernel_rfl) (fun _ _ _ h => h) (by kernel_rfl) ?hh46 (by exact hS2) ?_
              case hh46 => (intro w' hSw; go_simp; try (with_reducible rfl))
              simp only [Act.put, List.setIfInBounds_toArray, List.set_cons_zero, List.set_cons_succ]
              refine takeS_on (i := 18) 37 (v := ?hv47) rfl rfl (by kernel_rfl) (by kernel_rfl) (by kernel_rfl) (fun _ _ _ h => h) (by kernel_rfl) ?hh47 (by exact hS2) ?_
              case hh47 => (intro w' hSw; go_simp; try (with_reducible rfl))
              simp only [Act.put, List.setIfInBounds_toArray, List.set_cons_zero, List.set_cons_succ]
              refine skipS_on (i := 19) 38 rfl rfl (by kernel_rfl) (by kernel_rfl) (by kernel_rfl) (fun _ _ _ h => h) (by kernel_rfl) (by exact hS2) ?_
              simp only [Act.put, List.setIfInBounds_toArray, List.set_cons_zero, List.set_cons_succ]
              refine skipS_on (i := 20) 39 rfl rfl (by kernel_rfl) (by kernel_rfl) (by kernel_rfl) (fun _ _ _ h => h) (by kernel_rfl) (by exact hS2) ?_
              simp only [Act.put, List.setIfInBounds_toArray, List.set_cons_zero, List.set_cons_succ]
              refine skipS_on (i := 21) 40 rfl rfl (by kernel_rfl) (by kernel_rfl) (by kernel_rfl) (fun _ _ _ h => h) (by kernel_rfl) (by exact hS2) ?_
              simp only [Act.put, List.setIfInBounds_toArray, List.set_cons_zero, List.set_cons_succ]
              refine skipS_on (i := 22) 41 rfl rfl (by kernel_rfl) (by kernel_rfl) (by kernel_rfl) (fun _ _ _ h => h) (by kernel_rfl) (by exact hS2) ?_
              simp only [Act.put, List.setIfInBounds_toArray, List.set_cons_zero, List.set_cons_succ]
              refine skipS_on (i := 23) 42 rfl rfl (by kernel_rfl) (by kernel_rfl) (by kernel_rfl) (fun _ _ _ h => h) (by kernel_rfl) (by exact hS2) ?_
              simp only [Act.put, List.setIfInBounds_toArray, List.set_cons_zero, List.set_cons_succ]
              refine skipS_on (i := 24) 43 rfl rfl (by kernel_rfl) (by kernel_rfl) (by kernel_rfl) (fun _ _ _ h => h) (by kernel_rfl) (by exact hS2) ?_
              simp only [Act.put, List.setIfInBounds_toArray, List.set_cons_zero, List.set_cons_succ]
              refine skipS_on (i := 25) 44 rfl rfl (by kernel_rfl) (by kernel_rfl) (by kernel_rfl) (fun _ _ _ h => h) (by kernel_rfl) (by exact hS2) ?_
              simp only [Act.put, List.setIfInBounds_toArray, List.set_cons_zero, List.set_cons_succ]
              refine skipS_on (i := 26) 45 rfl rfl (by kernel_rfl) (by kernel_rfl) (by kernel_rfl) (fun _ _ _ h => h) (by kernel_rfl) (by exact hS2) ?_
              simp only [Act.put, List.setIfInBounds_toArray, List.set_cons_zero, List.set_cons_succ]
              refine skipS_on (i := 27) 46 rfl rfl (by kernel_rfl) (by kernel_rfl) (by kernel_rfl) (fun _ _ _ h => h) (by kernel_rfl) (by exact hS2) ?_
              simp only [Act.put, List.setIfInBounds_toArray, List.set_cons_zero, List.set_cons_succ]
              refine skipS_on (i := 28) 47 rfl rfl (by kernel_rfl) (by kernel_rfl) (by kernel_rfl) (fun _ _ _ h => h) (by kernel_rfl) (by exact hS2) ?_
              simp only [Act.put, List.setIfInBounds_toArray, List.set_cons_zero, List.set_cons_succ]
              refine skipS_on (i := 29) 48 rfl rfl (by kernel_rfl) (by kernel_rfl) (by kernel_rfl) (fun _ _ _ h => h) (by kernel_rfl) (by exact hS2) ?_
              simp only [Act.put, List.setIfInBounds_toArray, List.set_cons_zero, List.set_cons_succ]
              refine takeS_on (i := 30) 49 (v := ?hv59) rfl rfl (by kernel_rfl) (by kernel_rfl) (by kernel_rfl) (fun _ _ _ h => h) (by kernel_rfl) ?hh59 (by exact hS2) ?_
              case hh59 => (intro w' hSw; go_simp; try (with_reducible rfl))
              simp only [Act.put, List.setIfInBounds_toArray, List.set_cons_zero, List.set_cons_succ]
              refine wpAnyH_done (by kernel_rfl) ?_ _
              have e : R = ((j : Int), 170) := by rw [← HH.out, HN.out, HE.out]; rfl
              subst e
              have GE := hide (Gr.trans G.out hS2)
              go_wp2
              go_ret2
              exact ⟨rfl, GE.out⟩
            · by_cases hxy : x.f = x.t
              · have HE := hide (show egB n x = false by rw [HEE.out, hb1, hb2]; simp [hxy])
                have hq : (x.f == x.t) = true := by simpa using hxy
                clear HEE hxy
                go_wp2_with fail
                refine wp_region_held_drew (S := Gr V) (by kernel_rfl) (by exact hS0) (fun _ => ?_)
                generalize World.drew V = V0 at hS0 ⊢
                refine takeS_on (i := 0) 19 (v := ?hv60) rfl rfl (by kernel_rfl) (by kernel_rfl) (by kernel_rfl) (fun _ _ _ h => h) (by kernel_rfl) ?hh60 (by exact hS0) ?_
                case hh60 => (intro w' hSw; go_simp; try (with_reducible rfl))
                simp only [Act.put, List.setIfInBounds_toArray, List.set_cons_zero, List.set_cons_succ]
                refine takeS_on (i := 1) 20 (v := ?hv61) rfl rfl (by kernel_rfl) (by kernel_rfl) (by kernel_rfl) (fun _ _ _ h => h) (by kernel_rfl) ?hh61 (by exact hS0) ?_
                case hh61 => (intro w' hSw; go_simp; try (with_reducible rfl))
                simp only [Act.put, List.setIfInBounds_toArray, List.set_cons_zero, List.set_cons_succ]
                refine takeS_on (i := 2) 21 (v := ?hv62) rfl rfl (by kernel_rfl) (by kernel_rfl) (by kernel_rfl) (fun _ _ _ h => h) (by kernel_rfl) ?hh62 (by exact hS0) ?_
                case hh62 => (intro w' hSw; go_simp; try (with_reducible rfl))
                simp only [Act.put, List.setIfInBounds_toArray, List.set_cons_zero, List.set_cons_succ]
                refine takeS_on (i := 3) 22 (v := ?hv63) rfl rfl (by kernel_rfl) (by kernel_rfl) (by kernel_rfl) (fun _ _ _ h => h) (by kernel_rfl) ?hh63 (by exact hS0) ?_
                case hh63 => (intro w' hSw; go_simp; try (with_reducible rfl))
                simp only [Act.put, List.setIfInBounds_toArray, List.set_cons_zero, List.set_cons_succ]
                refine takeS_on (i := 4) 23 (v := ?hv64) rfl rfl (by kernel_rfl) (by kernel_rfl) (by kernel_rfl) (fun _ _ _ h => h) (by kernel_rfl) ?hh64 (by exact hS0) ?_
                case hh64 => (intro w' hSw; go_simp; try (with_reducible rfl))
                simp only [Act.put, List.setIfInBounds_toArray, List.set_cons_zero, List.set_cons_succ]
                refine takeS_on (i := 5) 24 (v := ?hv65) rfl rfl (by kernel_rfl) (by kernel_rfl) (by kernel_rfl) (fun _ _ _ h => h) (by kernel_rfl) ?hh65 (by exact hS0) ?_
                case hh65 => (intro w' hSw; obtain ⟨x0, x1, gl⟩ := HV.out _ hSw; go_simp; try (with_reducible rfl))
                simp only [Act.put, List.setIfInBounds_toArray, List.set_cons_zero, List.set_cons_succ]
                refine wpAnyH_ready (rs := [6]) (by kernel_rfl) (by simp) (AllReadyH.cons rfl (fun K hK => ?_) AllReadyH.nil)
                go_simp
                refine (CI.out x.f _).mono ?_
                rintro e w1 ⟨rfl, g1⟩
                rw [hb1]
                have hS1 := Gr.trans hS0 g1
                clear g1
                refine hK.out _ _ (by exact hS1) (fun _ => ?_)
                clear hK K
                refine takeS_on (i := 7) 26 (v := ?hv66) rfl rfl (by kernel_rfl) (by kernel_rfl) (by kernel_rfl) (fun _ _ _ h => h) (by kernel_rfl) ?hh66 (by exact hS1) ?_
                case hh66 => (intro w' hSw; go_simp; try (with_reducible rfl))
                simp only [Act.put, List.setIfInBounds_toArray, List.set_cons_zero, List.set_cons_succ]
                refine takeS_on (i := 8) 27 (v := ?hv67) rfl rfl (by kernel_rfl) (by kernel_rfl) (by kernel_rfl) (fun _ _ _ h => h) (by kernel_rfl) ?hh67 (by exact hS1) ?_
                case hh67 => (intro w' hSw; go_simp; try (with_reducible rfl))
                simp only [Act.put, List.setIfInBounds_toArray, List.set_cons_zero, List.set_cons_succ]
                refine takeS_on (i := 9) 28 (v := ?hv68) rfl rfl (by kernel_rfl) (by kernel_rfl) (by kernel_rfl) (fun _ _ _ h => h) (by kernel_rfl) ?hh68 (by exact hS1) ?_
                case hh68 => (intro w' hSw; go_simp; try (with_reducible rfl))
                simp only [Act.put, List.setIfInBounds_toArray, List.set_cons_zero, List.set_cons_succ]
                refine takeS_on (i := 10) 29 (v := ?hv69) rfl rfl (by kernel_rfl) (by kernel_rfl) (by kernel_rfl) (fun _ _ _ h => h) (by kernel_rfl) ?hh69 (by exact hS1) ?_
                case hh69 => (intro w' hSw; go_simp; try (with_reducible rfl))
                simp only [Act.put, List.setIfInBounds_toArray, List.set_cons_zero, List.set_cons_succ]
                refine takeS_on (i := 11) 30 (v := ?hv70) rfl rfl (by kernel_rfl) (by kernel_rfl) (by kernel_rfl) (fun _ _ _ h => h) (by kernel_rfl) ?hh70 (by exact hS1) ?_
                case hh70 => (intro w' hSw; go_simp; try (with_reducible rfl))
                simp only [Act.put, List.setIfInBounds_toArray, List.set_cons_zero, List.set_cons_succ]
                refine takeS_on (i := 12) 31 (v := ?hv71) rfl rfl (by kernel_rfl) (by kernel_rfl) (by kernel_rfl) (fun _ _ _ h => h) (by kernel_rfl) ?hh71 (by exact hS1) ?_
                case hh71 => (intro w' hSw; go_simp; try (with_reducible rfl))
                simp only [Act.put, List.setIfInBounds_toArray, List.set_cons_zero, List.set_cons_succ]
                refine takeS_on (i := 13) 32 (v := ?hv72) rfl rfl (by kernel_rfl) (by kernel_rfl) (by kernel_rfl) (fun _ _ _ h => h) (by kernel_rfl) ?hh72 (by exact hS1) ?_
                case hh72 => (intro w' hSw; go_simp; try (with_reducible rfl))
                simp only [Act.put, List.setIfInBounds_toArray, List.set_cons_zero, List.set_cons_succ]
                refine takeS_on (i := 14) 33 (v := ?hv73) rfl rfl (by kernel_rfl) (by kernel_rfl) (by kernel_rfl) (fun _ _ _ h => h) (by kernel_rfl) ?hh73 (by exact hS1) ?_
                case hh73 => (intro w' hSw; obtain ⟨x0, x1, gl⟩ := HV.out _ hSw; go_simp; try (with_reducible rfl))
                simp only [Act.put, List.setIfInBounds_toArray, List.set_cons_zero, List.set_cons_succ]
                refine wpAnyH_ready (rs := [15]) (by kernel_rfl) (by simp) (AllReadyH.cons rfl (fun K hK => ?_) AllReadyH.nil)
                go_simp
                refine (CI.out x.t _).mono ?_
                rintro e w2 ⟨rfl, g2⟩
                rw [hb2]
                have hS2 := Gr.trans hS1 g2
                clear g2
                refine hK.out _ _ (by exact hS2) (fun _ => ?_)
                clear hK K
                refine takeS_on (i := 16) 35 (v := ?hv74) rfl rfl (by kernel_rfl) (by kernel_rfl) (by kernel_rfl) (fun _ _ _ h => h) (by kernel_rfl) ?hh74 (by exact hS2) ?_
                case hh74 => (intro w' hSw; go_simp; try (with_reducible rfl))
                simp only [Act.put, List.setIfInBounds_toArray, List.set_cons_zero, List.set_cons_succ]
                refine takeS_on (i := 17) 36 (v := ?hv75) rfl rfl (by kernel_rfl) (by kernel_rfl) (by kernel_rfl) (fun _ _ _ h => h) (by kernel_rfl) ?hh75 (by exact hS2) ?_
                case hh75 => (intro w' hSw; go_simp; try (with_reducible rfl))
                simp only [Act.put, List.setIfInBounds_toArray, List.set_cons_zero, List.set_cons_succ]
                refine takeS_on (i := 18) 37 (v := ?hv76) rfl rfl (by kernel_rfl) (by kernel_rfl) (by kernel_rfl) (fun _ _ _ h => h) (by kernel_rfl) ?hh76 (by exact hS2) ?_
                case hh76 => (intro w' hSw; go_simp; try (with_reducible rfl))
                simp only [Act.put, List.setIfInBounds_toArray, List.set_cons_zero, List.set_cons_succ]
                refine takeS_on (i := 19) 38 (v := ?hv77) rfl rfl (by kernel_rfl) (by kernel_rfl) (by kernel_rfl) (fun _ _ _ h => h) (by kernel_rfl) ?hh77 (by exact hS2) ?_
                case hh77 => (intro w' hSw; go_simp; try (with_reducible rfl))
                simp only [Act.put, List.setIfInBounds_toArray, List.set_cons_zero, List.set_cons_succ]
                refine takeS_on (i := 20) 39 (v := ?hv78) rfl rfl (by kernel_rfl) (by kernel_rfl) (by kernel_rfl) (fun _ _ _ h => h) (by kernel_rfl) ?hh78 (by exact hS2) ?_
                case hh78 => (intro w' hSw; go_simp; try (with_reducible rfl))
                simp only [Act.put, List.setIfInBounds_toArray, List.set_cons_zero, List.set_cons_succ]
                refine takeS_on (i := 21) 40 (v := ?hv79) rfl rfl (by kernel_rfl) (by kernel_rfl) (by kernel_rfl) (fun _ _ _ h => h) (by kernel_rfl) ?hh79 (by exact hS2) ?_
                case hh79 => (intro w' hSw; go_simp; try (with_reducible rfl))
                simp only [Act.put, List.setIfInBounds_toArray, List.set_cons_zero, List.set_cons_succ]
                refine takeS_on (i := 22) 41 (v := ?hv80) rfl rfl (by kernel_rfl) (by kernel_rfl) (by kernel_rfl) (fun _ _ _ h => h) (by kernel_rfl) ?hh80 (by exact hS2) ?_
                case hh80 => (intro w' hSw; go_simp; try (with_reducible rfl))
                simp only [Act.put, List.setIfInBounds_toArray, List.set_cons_zero, List.set_cons_succ]
                refine takeS_on (i := 23) 42 (v := ?hv81) rfl rfl (by kernel_rfl) (by kernel_rfl) (by kernel_rfl) (fun _ _ _ h => h) (by kernel_rfl) ?hh81 (by exact hS2) ?_
                case hh81 => (intro w' hSw; obtain ⟨x0, x1, gl⟩ := HV.out _ hSw; go_simp; try (with_reducible rfl))
                simp only [Act.put, List.setIfInBounds_toArray, List.set_cons_zero, List.set_cons_succ]
                refine takeS_on (i := 24) 43 (v := ?hv82) rfl rfl (by kernel_rfl) (by kernel_rfl) (by kernel_rfl) (fun _ _ _ h => h) (by kernel_rfl) ?hh82 (by exact hS2) ?_
                case hh82 => (intro w' hSw; go_simp; try (with_reducible rfl))
                simp only [Act.put, List.setIfInBounds_toArray, List.set_cons_zero, List.set_cons_succ]
                refine takeS_on (i := 25) 44 (v := ?hv83) rfl rfl (by kernel_rfl) (by kernel_rfl) (by kernel_rfl) (fun _ _ _ h => h) (by kernel_rfl) ?hh83 (by exact hS2) ?_
                case hh83 => (intro w' hSw; go_simp; try (with_reducible rfl))
                simp only [Act.put, List.setIfInBounds_toArray, List.set_cons_zero, List.set_cons_succ]
                refine takeS_on (i := 26) 45 (v := ?hv84) rfl rfl (by kernel_rfl) (by kernel_rfl) (by kernel_rfl) (fun _ _ _ h => h) (by kernel_rfl) ?hh84 (by exact hS2) ?_
                case hh84 => (intro w' hSw; go_simp; try (with_reducible rfl))
                simp only [Act.put, List.setIfInBounds_toArray, List.set_cons_zero, List.set_cons_succ]
                refine takeS_on (i := 27) 46 (v := ?hv85) rfl rfl (by kernel_rfl) (by kernel_rfl) (by kernel_rfl) (fun _ _ _ h => h) (by kernel_rfl) ?hh85 (by exact hS2) ?_
                case hh85 => (intro w' hSw; go_simp; try (with_reducible rfl))
                simp only [Act.put, List.setIfInBounds_toArray, List.set_cons_zero, List.set_cons_succ]
                refine takeS_on (i := 28) 47 (v := ?hv86) rfl rfl (by kernel_rfl) (by kernel_rfl) (by kernel_rfl) (fun _ _ _ h => h) (by kernel_rfl) ?hh86 (by exact hS2) ?_
                case hh86 => (intro w' hSw; obtain ⟨x0, x1, gl⟩ := HV.out _ hSw; go_simp; try (with_reducible rfl))
                simp only [Act.put, List.setIfInBounds_toArray, List.set_cons_zero, List.set_cons_succ]
                refine takeS_on (i := 29) 48 (v := ?hv87) rfl rfl (by kernel_rfl) (by kernel_rfl) (by kernel_rfl) (fun _ _ _ h => h) (by kernel_rfl) ?hh87 (by exact hS2) ?_
                case hh87 => (intro w' hSw; go_simp; try (with_reducible rfl))
                simp only [Act.put, List.setIfInBounds_toArray, List.set_cons_zero, List.set_cons_succ]
                refine takeS_on (i := 30) 49 (v := ?hv88) rfl rfl (by kernel_rfl) (by kernel_rfl) (by kernel_rfl) (fun _ _ _ h => h) (by kernel_rfl) ?hh88 (by exact hS2) ?_
                case hh88 => (intro w' hSw; go_simp; try (with_reducible rfl))
                simp only [Act.put, List.setIfInBounds_toArray, List.set_cons_zero, List.set_cons_succ]
                refine wpAnyH_done (by kernel_rfl) ?_ _
                have e : R = ((j : Int), 170) := by rw [← HH.out, HN.out, HE.out]; rfl
                subst e
                have GE := hide (Gr.trans G.out hS2)
                go_wp2
                go_ret2
                exact ⟨rfl, GE.out⟩
              · have HE := hide (show egB n x = true by rw [HEE.out, hb1, hb2]; simp [hxy])
                have hq : (x.f == x.t) = false := by simpa using hxy
                clear HEE hxy
                go_wp2_with fail
                refine wp_region_held_drew (S := Gr V) (by kernel_rfl) (by exact hS0) (fun _ => ?_)
                generalize World.drew V = V0 at hS0 ⊢
                refine takeS_on (i := 0) 19 (v := ?hv89) rfl rfl (by kernel_rfl) (by kernel_rfl) (by kernel_rfl) (fun _ _ _ h => h) (by kernel_rfl) ?hh89 (by exact hS0) ?_
                case hh89 => (intro w' hSw; go_simp; try (with_reducible rfl))
                simp only [Act.put, List.setIfInBounds_toArray, List.set_cons_zero, List.set_cons_succ]
                refine takeS_on (i := 1) 20 (v := ?hv90) rfl rfl (by kernel_rfl) (by kernel_rfl) (by kernel_rfl) (fun _ _ _ h => h) (by kernel_rfl) ?hh90 (by exact hS0) ?_
                case hh90 => (intro w' hSw; go_simp; try (with_reducible rfl))
                simp only [Act.put, List.setIfInBounds_toArray, List.set_cons_zero, List.set_cons_succ]
                refine takeS_on (i := 2) 21 (v := ?hv91) rfl rfl (by kernel_rfl) (by kernel_rfl) (by kernel_rfl) (fun _ _ _ h => h) (by kernel_rfl) ?hh91 (by exact hS0) ?_
                case hh91 => (intro w' hSw; go_simp; try (with_reducible rfl))
                simp only [Act.put, List.setIfInBounds_toArray, List.set_cons_zero, List.set_cons_succ]
                refine takeS_on (i := 3) 22 (v := ?hv92) rfl rfl (by kernel_rfl) (by kernel_rfl) (by kernel_rfl) (fun _ _ _ h => h) (by kernel_rfl) ?hh92 (by exact hS0) ?_
                case hh92 => (intro w' hSw; go_simp; try (with_reducible rfl))
                simp only [Act.put, List.setIfInBounds_toArray, List.set_cons_zero, List.set_cons_succ]
                refine takeS_on (i := 4) 23 (v := ?hv93) rfl rfl (by kernel_rfl) (by kernel_rfl) (by kernel_rfl) (fun _ _ _ h => h) (by kernel_rfl) ?hh93 (by exact hS0) ?_
                case hh93 => (intro w' hSw; go_simp; try (with_reducible rfl))
                simp only [Act.put, List.setIfInBounds_toArray, List.set_cons_zero, List.set_cons_succ]
                refine takeS_on (i := 5) 24 (v := ?hv94) rfl rfl (by kernel_rfl) (by kernel_rfl) (by kernel_rfl) (fun _ _ _ h => h) (by kernel_rfl) ?hh94 (by exact hS0) ?_
                case hh94 => (intro w' hSw; obtain ⟨x0, x1, gl⟩ := HV.out _ hSw; go_simp; try (with_reducible rfl))
                simp only [Act.put, List.setIfInBounds_toArray, List.set_cons_zero, List.set_cons_succ]
                refine wpAnyH_ready (rs := [6]) (by kernel_rfl) (by simp) (AllReadyH.cons rfl (fun K hK => ?_) AllReadyH.nil)
                go_simp
                refine (CI.out x.f _).mono ?_
                rintro e w1 ⟨rfl, g1⟩
                rw [hb1]
                have hS1 := Gr.trans hS0 g1
                clear g1
                refine hK.out _ _ (by exact hS1) (fun _ => ?_)
                clear hK K
                refine takeS_on (i := 7) 26 (v := ?hv95) rfl rfl (by kernel_rfl) (by kernel_rfl) (by kernel_rfl) (fun _ _ _ h => h) (by kernel_rfl) ?hh95 (by exact hS1) ?_
                case hh95 => (intro w' hSw; go_simp; try (with_reducible rfl))
                simp only [Act.put, List.setIfInBounds_toArray, List.set_cons_zero, List.set_cons_succ]
                refine takeS_on (i := 8) 27 (v := ?hv96) rfl rfl (by kernel_rfl) (by kernel_rfl) (by kernel_rfl) (fun _ _ _ h => h) (by kernel_rfl) ?hh96 (by exact hS1) ?_
                case hh96 => (intro w' hSw; go_simp; try (with_reducible rfl))
                simp only [Act.put, List.setIfInBounds_toArray, List.set_cons_zero, List.set_cons_succ]
                refine takeS_on (i := 9) 28 (v := ?hv97) rfl rfl (by kernel_rfl) (by kernel_rfl) (by kernel_rfl) (fun _ _ _ h => h) (by kernel_rfl) ?hh97 (by exact hS1) ?_
                case hh97 => (intro w' hSw; go_simp; try (with_reducible rfl))
                simp only [Act.put, List.setIfInBounds_toArray, List.set_cons_zero, List.set_cons_succ]
                refine takeS_on (i := 10) 29 (v := ?hv98) rfl rfl (by kernel_rfl) (by kernel_rfl) (by kernel_rfl) (fun _ _ _ h => h) (by kernel_rfl) ?hh98 (by exact hS1) ?_
                case hh98 => (intro w' hSw; go_simp; try (with_reducible rfl))
                simp only [Act.put, List.setIfInBounds_toArray, List.set_cons_zero, List.set_cons_succ]
                refine takeS_on (i := 11) 30 (v := ?hv99) rfl rfl (by kernel_rfl) (by kernel_rfl) (by kernel_rfl) (fun _ _ _ h => h) (by kernel_rfl) ?hh99 (by exact hS1) ?_
                case hh99 => (intro w' hSw; go_simp; try (with_reducible rfl))
                simp only [Act.put, List.setIfInBounds_toArray, List.set_cons_zero, List.set_cons_succ]
                refine takeS_on (i := 12) 31 (v := ?hv100) rfl rfl (by kernel_rfl) (by kernel_rfl) (by kernel_rfl) (fun _ _ _ h => h) (by kernel_rfl) ?hh100 (by exact hS1) ?_
                case hh100 => (intro w' hSw; go_simp; try (with_reducible rfl))
                simp only [Act.put, List.setIfInBounds_toArray, List.set_cons_zero, List.set_cons_succ]
                refine takeS_on (i := 13) 32 (v := ?hv101) rfl rfl (by kernel_rfl) (by kernel_rfl) (by kernel_rfl) (fun _ _ _ h => h) (by kernel_rfl) ?hh101 (by exact hS1) ?_
                case hh101 => (intro w' hSw; go_simp; try (with_reducible rfl))
                simp only [Act.put, List.setIfInBounds_toArray, List.set_cons_zero, List.set_cons_succ]
                refine takeS_on (i := 14) 33 (v := ?hv102) rfl rfl (by kernel_rfl) (by kernel_rfl) (by kernel_rfl) (fun _ _ _ h => h) (by kernel_rfl) ?hh102 (by exact hS1) ?_
                case hh102 => (intro w' hSw; obtain ⟨x0, x1, gl⟩ := HV.out _ hSw; go_simp; try (with_reducible rfl))
                simp only [Act.put, List.setIfInBounds_toArray, List.set_cons_zero, List.set_cons_succ]
                refine wpAnyH_ready (rs := [15]) (by kernel_rfl) (by simp) (AllReadyH.cons rfl (fun K hK => ?_) AllReadyH.nil)
                go_simp
                refine (CI.out x.t _).mono ?_
                rintro e w2 ⟨rfl, g2⟩
                rw [hb2]
                have hS2 := Gr.trans hS1 g2
                clear g2
                refine hK.out _ _ (by exact hS2) (fun _ => ?_)
                clear hK K
                refine takeS_on (i := 16) 35 (v := ?hv103) rfl rfl (by kernel_rfl) (by kernel_rfl) (by kernel_rfl) (fun _ _ _ h => h) (by kernel_rfl) ?hh103 (by exact hS2) ?_
                case hh103 => (intro w' hSw; go_simp; try (with_reducible rfl))
                simp only [Act.put, List.setIfInBounds_toArray, List.set_cons_zero, List.set_cons_succ]
                refine takeS_on (i := 17) 36 (v := ?hv104) rfl rfl (by kernel_rfl) (by kernel_rfl) (by kernel_rfl) (fun _ _ _ h => h) (by kernel_rfl) ?hh104 (by exact hS2) ?_
                case hh104 => (intro w' hSw; go_simp; try (with_reducible rfl))
                simp only [Act.put, List.setIfInBounds_toArray, List.set_cons_zero, List.set_cons_succ]
                refine takeS_on (i := 18) 37 (v := ?hv105) rfl rfl (by kernel_rfl) (by kernel_rfl) (by kernel_rfl) (fun _ _ _ h => h) (by kernel_rfl) ?hh105 (by exact hS2) ?_
                case hh105 => (intro w' hSw; go_simp; try (with_reducible rfl))
                simp only [Act.put, List.setIfInBounds_toArray, List.set_cons_zero, List.set_cons_succ]
                refine takeS_on (i := 19) 38 (v := ?hv106) rfl rfl (by kernel_rfl) (by kernel_rfl) (by kernel_rfl) (fun _ _ _ h => h) (by kernel_rfl) ?hh106 (by exact hS2) ?_
                case hh106 => (intro w' hSw; go_simp; try (with_reducible rfl))
                simp only [Act.put, List.setIfInBounds_toArray, List.set_cons_zero, List.set_cons_succ]
                refine takeS_on (i := 20) 39 (v := ?hv107) rfl rfl (by kernel_rfl) (by kernel_rfl) (by kernel_rfl) (fun _ _ _ h => h) (by kernel_rfl) ?hh107 (by exact hS2) ?_
                case hh107 => (intro w' hSw; go_simp; try (with_reducible rfl))
                simp only [Act.put, List.setIfInBounds_toArray, List.set_cons_zero, List.set_cons_succ]
                refine takeS_on (i := 21) 40 (v := ?hv108) rfl rfl (by kernel_rfl) (by kernel_rfl) (by kernel_rfl) (fun _ _ _ h => h) (by kernel_rfl) ?hh108 (by exact hS2) ?_
                case hh108 => (intro w' hSw; go_simp; try (with_reducible rfl))
                simp only [Act.put, List.setIfInBounds_toArray, List.set_cons_zero, List.set_cons_succ]
                refine takeS_on (i := 22) 41 (v := ?hv109) rfl rfl (by kernel_rfl) (by kernel_rfl) (by kernel_rfl) (fun _ _ _ h => h) (by kernel_rfl) ?hh109 (by exact hS2) ?_
                case hh109 => (intro w' hSw; go_simp; try (with_reducible rfl))
                simp only [Act.put, List.setIfInBounds_toArray, List.set_cons_zero, List.set_cons_succ]
                refine takeS_on (i := 23) 42 (v := ?hv110) rfl rfl (by kernel_rfl) (by kernel_rfl) (by kernel_rfl) (fun _ _ _ h => h) (by kernel_rfl) ?hh110 (by exact hS2) ?_
                case hh110 => (intro w' hSw; obtain ⟨x0, x1, gl⟩ := HV.out _ hSw; go_simp; try (with_reducible rfl))
                simp only [Act.put, List.setIfInBounds_toArray, List.set_cons_zero, List.set_cons_succ]
                refine takeS_on (i := 24) 43 (v := ?hv111) rfl rfl (by kernel_rfl) (by kernel_rfl) (by kernel_rfl) (fun _ _ _ h => h) (by kernel_rfl) ?hh111 (by exact hS2) ?_
                case hh111 => (intro w' hSw; go_simp; try (with_reducible rfl))
                simp only [Act.put, List.setIfInBounds_toArray, List.set_cons_zero, List.set_cons_succ]
                refine takeS_on (i := 25) 44 (v := ?hv112) rfl rfl (by kernel_rfl) (by kernel_rfl) (by kernel_rfl) (fun _ _ _ h => h) (by kernel_rfl) ?hh112 (by exact hS2) ?_
                case hh112 => (intro w' hSw; go_simp; try (with_reducible rfl))
                simp only [Act.put, List.setIfInBounds_toArray, List.set_cons_zero, List.set_cons_succ]
                refine takeS_on (i := 26) 45 (v := ?hv113) rfl rfl (by kernel_rfl) (by kernel_rfl) (by kernel_rfl) (fun _ _ _ h => h) (by kernel_rfl) ?hh113 (by exact hS2) ?_
                case hh113 => (intro w' hSw; go_simp; try (with_reducible rfl))
                simp only [Act.put, List.setIfInBounds_toArray, List.set_cons_zero, List.set_cons_succ]
                refine takeS_on (i := 27) 46 (v := ?hv114) rfl rfl (by kernel_rfl) (by kernel_rfl) (by kernel_rfl) (fun _ _ _ h => h) (by kernel_rfl) ?hh114 (by exact hS2) ?_
                case hh114 => (intro w' hSw; go_simp; try (with_reducible rfl))
                simp only [Act.put, List.setIfInBounds_toArray, List.set_cons_zero, List.set_cons_succ]
                refine takeS_on (i := 28) 47 (v := ?hv115) rfl rfl (by kernel_rfl) (by kernel_rfl) (by kernel_rfl) (fun _ _ _ h => h) (by kernel_rfl) ?hh115 (by exact hS2) ?_
                case hh115 => (intro w' hSw; obtain ⟨x0, x1, gl⟩ := HV.out _ hSw; go_simp; try (with_reducible rfl))
                simp only [Act.put, List.setIfInBounds_toArray, List.set_cons_zero, List.set_cons_succ]
                refine takeS_on (i := 29) 48 (v := ?hv116) rfl rfl (by kernel_rfl) (by kernel_rfl) (by kernel_rfl) (fun _ _ _ h => h) (by kernel_rfl) ?hh116 (by exact hS2) ?_
                case hh116 => (intro w' hSw; go_simp; try (with_reducible rfl))
                simp only [Act.put, List.setIfInBounds_toArray, List.set_cons_zero, List.set_cons_succ]
                refine takeS_on (i := 30) 49 (v := ?hv117) rfl rfl (by kernel_rfl) (by kernel_rfl) (by kernel_rfl) (fun _ _ _ h => h) (by kernel_rfl) ?hh117 (by exact hS2) ?_
                case hh117 => (intro w' hSw; go_simp; try (with_reducible rfl))
                simp only [Act.put, List.setIfInBounds_toArray, List.set_cons_zero, List.set_cons_succ]
                refine wpAnyH_done (by kernel_rfl) ?_ _
                have HF := hide (show chkL n (j + 1) (l.drop (j + 1)) = R by rw [← HH.out, HN.out, HE.out]; rfl)
                have GE := hide (Gr.trans G.out hS2)
                go_wp2
                go_roundg (m - (j + 1))
                case measure => omega
                case rel =>
                  refine ⟨j + 1, by omega, ?_, HF.out, GE.out⟩
                  first | with_reducible rfl | simp
        · have hj' : ¬ ((j : Int) < (m : Int)) := by omega
          have e : R = (0, 0) := by
            have : l.drop j = [] := List.drop_of_length_le (by rw [← HM.out]; omega)
            rw [← HH.out, this]
            rfl
          subst e
          go_wp2
          go_ret2
          exact ⟨rfl, G.out⟩
set_option maxHeartbeats 4000000 in
theorem asked_any (w : World) (n : Int) (a : Option Addr) (m c : Nat) (l : List Eg) (h : Le w (.slice a m c) l) (hm : m ≤ 8796093022208) (x y : Int) :
    Calls Try.prog 26 #[.int .i64 n, .slice a m c, .int .i64 x, .int .i64 y] w fun e w' => e = wrgE n l [x, y] ∧ Gr w w' := by
  have C := hide (rcheck_any w n a m c l h hm)
  have CI := hide (ris_any n)
  have HP := hide (show wrgP n l [x, y] = if (chkP n l).2 = 0 then (if (dmB n x && (dmB n y && true)) = true then 0 else 1) else (chkP n l).2 from rfl)
  unfold wrgE
  unfold chkE at C
  generalize wrgP n l [x, y] = R at HP ⊢
  generalize chkP n l = q at *
  obtain ⟨q1, q2⟩ := q
  simp only at C HP
  clear h
  by_cases h0 : q2 = 0
  · subst h0
    cases hb1 : dmB n x
    · have e : R = 1 := by rw [HP.out, if_pos rfl, hb1]; rfl
      subst e
      go_enter Try.func26, Try.ntmps26
      go_wp2_with fail
      refine C.out.mono ?_
      rintro e w1 ⟨rfl, g1⟩
      have G1 := hide g1
      clear g1
      go_wp2_with fail
      refine (CI.out x _).mono ?_
      rintro e w2 ⟨rfl, g2⟩
      rw [hb1]
      have G2 := hide (Gr.trans G1.out g2)
      clear g2
      go_wp2
      go_ret
      exact ⟨rfl, G2.out⟩
    · cases hb2 : dmB n y
      · have e : R = 1 := by rw [HP.out, if_pos rfl, hb1, hb2]; rfl
        subst e
        go_enter Try.func26, Try.ntmps26
        go_wp2_with fail
        refine C.out.mono ?_
        rintro e w1 ⟨rfl, g1⟩
        have G1 := hide g1
        clear g1
        go_wp2_with fail
        refine (CI.out x _).mono ?_
        rintro e w2 ⟨rfl, g2⟩
        rw [hb1]
        have G2 := hide (Gr.trans G1.out g2)
        clear g2
        go_wp2_with fail
        refine (CI.out y _).mono ?_
        rintro e w3 ⟨rfl, g3⟩
        rw [hb2]
        have G3 := hide (Gr.trans G2.out g3)
        clear g3
        go_wp2
        go_ret
        exact ⟨rfl, G3.out⟩
      · have e : R = 0 := by rw [HP.out, if_pos rfl, hb1, hb2]; rfl
        subst e
        go_enter Try.func26, Try.ntmps26
        go_wp2_with fail
        refine C.out.mono ?_
        rintro e w1 ⟨rfl, g1⟩
        have G1 := hide g1
        clear g1
        go_wp2_with fail
        refine (CI.out x _).mono ?_
        rintro e w2 ⟨rfl, g2⟩
        rw [hb1]
        have G2 := hide (Gr.trans G1.out g2)
        clear g2
        go_wp2_with fail
        refine (CI.out y _).mono ?_
        rintro e w3 ⟨rfl, g3⟩
        rw [hb2]
        have G3 := hide (Gr.trans G2.out g3)
        clear g3
        go_wp2
        go_ret
        exact ⟨rfl, G3.out⟩
  · have e : R = q2 := by rw [HP.out, if_neg h0]
    subst e
    have hne : (R != 0) = true := by simpa using h0
    clear HP
    go_enter Try.func26, Try.ntmps26
    go_wp2_with fail
    refine C.out.mono ?_
    rintro e w1 ⟨rfl, g1⟩
    have G1 := hide g1
    clear g1
    go_wp2
    go_ret
    exact ⟨rfl, G1.out⟩
end Go.Proofs.Ytcoaefojamhloaa.Lt
