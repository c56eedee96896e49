/-
  What Replay answers, the program's and the document's, of any values and any log. Condition: they lie where they lie.
-/
import Derived.Test.YtpmhmikefkgbdabClMay
namespace Go.Proofs.Ytpmhmikefkgbdab.Lt
open Go.RowKit Wd
attribute [local go_sem ↓] Go.wp_at_zero Go.wp_at_succ

/-- a log replayed: what is in the cells, or the place of the first that can't be, and why -/
def rgo : Nat → List Int → List Ac → List Int × Int × Int
  | _, vs, [] => (vs, 0, 0)
  | i, vs, a :: l => if mayE vs a = 0 then rgo (i + 1) (vs.set a.c.toNat a.a) l else ([], (i : Int), mayE vs a)
theorem drop_at {α : Type} {l : List α} {j : Nat} {a : α} (h : l[j]? = some a) : l.drop j = a :: l.drop (j + 1) := by
  obtain ⟨hj, e⟩ := List.getElem?_eq_some_iff.1 h
  rw [List.drop_eq_getElem_cons hj, e]
theorem rgo_ok {l : List Ac} {j : Nat} {a : Ac} {vs : List Int} (h : l[j]? = some a) (hm : mayE vs a = 0) : rgo j vs (l.drop j) = rgo (j + 1) (vs.set a.c.toNat a.a) (l.drop (j + 1)) := by
  rw [drop_at h, rgo, if_pos hm]
theorem rgo_bad {l : List Ac} {j : Nat} {a : Ac} {vs : List Int} {e : Int} (h : l[j]? = some a) (hm : mayE vs a = e) (he : e ≠ 0) : rgo j vs (l.drop j) = ([], (j : Int), e) := by
  rw [drop_at h, rgo, if_neg (by rw [hm]; exact he), hm]
theorem rgo_end {l : List Ac} {j : Nat} {vs : List Int} (h : l.length ≤ j) : rgo j vs (l.drop j) = (vs, 0, 0) := by
  rw [List.drop_eq_nil_of_le h, rgo]
/-- what Replay leaves -/
def RyR (w : World) (vs : List Int) (l : List Ac) (e : Ending) (w' : World) : Prop :=
  ∃ ao cap, e = .returned (.tuple #[.slice ao (rgo 0 vs l).1.length cap, .int .i64 (rgo 0 vs l).2.1, .int .i64 (rgo 0 vs l).2.2]) ∧ Ow eI 1 2 w.heap.size w' (.slice ao (rgo 0 vs l).1.length cap) (rgo 0 vs l).1 ∧ Gr w w'
theorem RyR.bad {w w' : World} {vs : List Int} {l : List Ac} {j : Nat} {e : Int} (h : rgo 0 vs l = ([], (j : Int), e)) (g : Gr w w') : RyR w vs l (.returned (.tuple #[.slice none 0 0, .int .i64 (j : Int), .int .i64 e])) w' := by
  refine ⟨none, 0, by rw [h]; rfl, ?_, g⟩
  rw [h]
  exact Ow.nil _ _ _ _ _
theorem RyR.good {w w' : World} {vs cur : List Int} {l : List Ac} {ao : Option Addr} {n cap : Nat} (h : rgo 0 vs l = (cur, 0, 0)) (hn : cur.length = n) (ho : Ow eI 1 2 w.heap.size w' (.slice ao n cap) cur) (g : Gr w w') : RyR w vs l (.returned (.tuple #[.slice ao n cap, .int .i64 0, .int .i64 0])) w' := by
  subst hn
  refine ⟨ao, cap, by rw [h], ?_, g⟩
  rw [h]
  exact ho
theorem mayE_no {vs : List Int} {a : Ac} (h : isP a.c vs.length = false) : mayE vs a = 100 := by unfold mayE; rw [h]; rfl
theorem mayE_yes {vs : List Int} {a : Ac} (h : isP a.c vs.length = true) {x : Bool} (hm : mbe a (inC vs a.c) = x) : mayE vs a = if x = true then 0 else 101 := by unfold mayE; rw [h, hm]; rfl
set_option maxHeartbeats 4000000 in
set_option maxRecDepth 20000 in
theorem replay_any (P Q : Nat → Prop) (w : World) (vv vl : Value) (vs : List Int) (l : List Ac) (hv : Ls eI P w vv vs) (hl : Ls eA Q w vl l) (hvn : vs.length ≤ 17592186044416) (hln : l.length ≤ 17592186044416) : Calls Try.prog 17 #[vv, vl] w (RyR w vs l) := by
  obtain ⟨aol, capl, rfl⟩ := hl.form
  obtain ⟨M, hM⟩ : ∃ M, M = l.length := ⟨_, rfl⟩
  obtain ⟨n, hn⟩ : ∃ n, n = vs.length := ⟨_, rfl⟩
  rw [← hM] at hl hln ⊢
  have HC := hid (fun (W : World) (p : Gr w W) => clone_any _ _ vs W (hv.gr p) hvn)
  have HP := hid (fun (i : Int) (ao : Option Addr) (n cap : Nat) (W : World) => isplace_any i ao n cap W)
  have HB := hid (fun (y : Ac) (t : Int) (W : World) => maybe_any y t W)
  have HL := hid hl
  have HM := hid hM
  have HN := hid hn
  rw [← hn] at hvn
  clear hv hl hM hn
  go_enter Try.func17, Try.ntmps17
  go_wp2_with (go_at_call 25; refine (HC.out _ (Gr.refl w)).mono ?_; rintro e w1 ⟨v1, rfl, o1, g1⟩; obtain ⟨aon, capn, hv1⟩ := o1.form; rw [← HN.out] at hv1; subst hv1; have O1 := hid o1; have G1 := hid g1; clear o1 g1)
  go_loopg [14] M (fun q i wr => ∃ (j : Nat) (cur : List Int), j + q = M ∧ i = .int .i64 (j : Int) ∧ rgo 0 vs l = rgo j cur (l.drop j) ∧ cur.length = n ∧ Ow eI 1 2 w.heap.size wr (.slice aon n capn) cur ∧ Gr w wr)
  case atStart => exact ⟨0, vs, by omega, rfl, rfl, HN.out.symm, O1.out, G1.out⟩
  case round =>
    obtain ⟨j, cur, hjk, rfl, hrg, hcn, ho, hg⟩ := hrel
    have HRG := hid hrg
    have HCN := hid hcn
    have HO := hid ho
    have HG := hid hg
    clear hrg hcn ho hg
    by_cases hj : j < M
    · obtain ⟨a, ha⟩ : ∃ a, l[j]? = some a := ⟨_, List.getElem?_eq_getElem (by rw [← HM.out]; exact hj)⟩
      obtain ⟨g, oo, cap1, e1, -, -, -, d⟩ := (HL.out.gr HG.out).get eA_len ha
      injection e1 with e1 h1 h2
      subst e1
      have d0 := d 0 _ rfl
      have d1 := d 1 _ rfl
      have d2 := d 2 _ rfl
      have d3 := d 3 _ rfl
      have d4 := d 4 _ rfl
      simp only [Nat.add_zero] at d0
      have j0 : (0 : Int) ≤ (j : Int) := by omega
      have j1 : (j : Int) < (M : Int) := by omega
      have HAJ := hid ha
      clear d h1 h2 ha
      have BX := hid (show ∀ W, Gr (wr.alloc (.cells #[.int .i64 a.c, .int .i64 a.k, .int .i64 a.b, .int .i64 a.a, .bool a.w] 28)).drew W → W.heap[wr.heap.size]? = some (.cells #[.int .i64 a.c, .int .i64 a.k, .int .i64 a.b, .int .i64 a.a, .bool a.w] 28 (0, 0)) from fun W p => gr_blk (show (wr.alloc (.cells #[.int .i64 a.c, .int .i64 a.k, .int .i64 a.b, .int .i64 a.a, .bool a.w] 28)).drew.heap[wr.heap.size]? = some (.cells #[.int .i64 a.c, .int .i64 a.k, .int .i64 a.b, .int .i64 a.a, .bool a.w] 28 (0, 0)) from al_at _ rfl) p)
      cases hp : isP a.c n with
      | false =>
        have HE := hid (show rgo 0 vs l = ([], (j : Int), 100) from HRG.out.trans (rgo_bad HAJ.out (mayE_no (by rw [HCN.out]; exact hp)) (by omega)))
        go_wp2_with (go_at_call 30; refine (HP.out _ _ _ _ _).mono ?_; rw [hp]; rintro e w3 ⟨rfl, hw⟩; have hw := hw.symm; subst hw)
        exact bodyPost_ret (v := .tuple #[.slice none 0 0, .int .i64 (j : Int), .int .i64 100]) (by simp [results, Try.results17, go_sem]) rfl (RyR.bad HE.out (Gr.alloc HG.out _ _))
      | true =>
        obtain ⟨k, hk, hkn⟩ := isP_of hp
        have hkc : k < cur.length := by rw [HCN.out]; exact hkn
        obtain ⟨gn, capn', hvn', hb0, hbl, _, hc, -, -⟩ := HO.out.get eI_len (inC_get hkc)
        injection hvn' with e1 e2 e3
        subst e1
        have c0 := hc 0 _ rfl
        simp only [Nat.mul_one, Nat.add_zero] at c0
        rw [← hk] at c0
        have hki : a.c < (n : Int) := by omega
        have hk0 : 0 ≤ a.c := by omega
        have hkt : a.c.toNat = k := by omega
        have HK := hid hk
        clear hc e2 e3 hk
        obtain ⟨T, hT⟩ : ∃ T, inC cur a.c = T := ⟨_, rfl⟩
        rw [hT] at c0
        have HT := hid hT
        clear hT
        cases hm : mbe a T with
        | false =>
          have HE := hid (show rgo 0 vs l = ([], (j : Int), 101) from HRG.out.trans (rgo_bad HAJ.out ((mayE_yes (x := false) (by rw [HCN.out]; exact hp) (by rw [HT.out]; exact hm)).trans rfl) (by omega)))
          have HMB := hid (show ∀ W : World, Calls Try.prog 31 #[.agg #[.int .i64 a.c, .int .i64 a.k, .int .i64 a.b, .int .i64 a.a, .bool a.w], .int .i64 T] W fun e w' => e = .returned (.bool false) ∧ Gr W w' from fun W => hm ▸ HB.out a T W)
          clear hm
          go_wp2_with (go_at_call 30; refine (HP.out _ _ _ _ _).mono ?_; rw [hp]; rintro e w3 ⟨rfl, hw⟩; have hw := hw.symm; subst hw)
          go_region_with (go_at_call 31; refine (HMB.out _).mono ?_; rintro e w4 ⟨rfl, g4⟩; have G4 := hid (show Gr w w4 from Gr.trans (Ch.drew (Gr.alloc HG.out _ _)) g4); clear g4)
          all_goals go_wp2
          all_goals exact bodyPost_ret (v := .tuple #[.slice none 0 0, .int .i64 (j : Int), .int .i64 101]) (by simp [results, Try.results17, go_sem]) rfl (RyR.bad HE.out G4.out)
        | true =>
          have HE := hid (show rgo 0 vs l = rgo (j + 1) (cur.set k a.a) (l.drop (j + 1)) from by
            rw [HRG.out, rgo_ok HAJ.out ((mayE_yes (x := true) (by rw [HCN.out]; exact hp) (by rw [HT.out]; exact hm)).trans rfl), hkt])
          have HMB := hid (show ∀ W : World, Calls Try.prog 31 #[.agg #[.int .i64 a.c, .int .i64 a.k, .int .i64 a.b, .int .i64 a.a, .bool a.w], .int .i64 T] W fun e w' => e = .returned (.bool true) ∧ Gr W w' from fun W => hm ▸ HB.out a T W)
          clear hm
          go_wp2_with (go_at_call 30; refine (HP.out _ _ _ _ _).mono ?_; rw [hp]; rintro e w3 ⟨rfl, hw⟩; have hw := hw.symm; subst hw)
          go_region_with (go_at_call 31; refine (HMB.out _).mono ?_; rintro e w4 ⟨rfl, g4⟩; have G4 := hid (show Gr w w4 from Gr.trans (Ch.drew (Gr.alloc HG.out _ _)) g4); have GX := hid (show Gr wr w4 from Gr.trans (Ch.drew (Gr.alloc (Gr.refl wr) _ _)) g4); have b4 := BX.out w4 g4; have x0 := cell_of b4 0; have x3 := cell_of b4 3; simp at x0 x3; obtain ⟨gn2, cap2, hv2, _, hgl2, _, hc2, hf2, hs2⟩ := (HO.out.gr GX.out).get eI_len (inC_get hkc); injection hv2 with y1 y2 y3; injection y1 with y1; injection y1 with y1; subst y1; have c2 := hc2 0 _ rfl; have f2 := hf2 k; have S2 := hid (hs2 0 (.int .i64 a.a) a.a (by omega) rfl); simp only [Nat.mul_one, Nat.add_zero] at c2 S2; clear g4 b4 hc2 hf2 hs2 y2 y3)
          all_goals go_wp2
          all_goals go_roundg (gk - 1)
          all_goals first | omega | skip
          all_goals exact ⟨j + 1, _, by omega, by simp, HE.out, (List.length_set).trans HCN.out, S2.out, Ch.trans G4.out ((Ch.refl (Only gn) w4).own k _) (fun q e => .inr (by have e1 : q = gn := e; omega))⟩
    · have jn : ¬ (j : Int) < (M : Int) := by omega
      have HE := hid (show rgo 0 vs l = (cur, 0, 0) from HRG.out.trans (rgo_end (by rw [← HM.out]; omega)))
      go_wp2
      exact bodyPost_ret (v := .tuple #[.slice aon n capn, .int .i64 0, .int .i64 0]) (by simp [results, Try.results17, go_sem]) rfl (RyR.good HE.out HCN.out HO.out HG.out)
end Go.Proofs.Ytpmhmikefkgbdab.Lt
