/-
  What the document's Replay answers, and CellsReplay of the statements: true, of any values and any log. Condition: they lie where they lie.
-/
import Derived.Test.YtpmhmikefkgbdaaClReplay
import Derived.Test.YtpmhmikefkgbdaaClAny
namespace Go.Proofs.Ytpmhmikefkgbdaa.Lt
open Go.RowKit Wd
attribute [local go_sem ↓] Go.wp_at_zero Go.wp_at_succ

theorem rmay_any (P : Nat → Prop) (w : World) (ao : Option Addr) (cap : Nat) (vs : List Int) (h : Ls eI P w (.slice ao vs.length cap) vs) (y : Ac) : Calls Try.prog 33 #[.slice ao vs.length cap, .agg #[.int .i64 y.c, .int .i64 y.k, .int .i64 y.b, .int .i64 y.a, .bool y.w]] w fun e w' => e = .returned (.int .i64 (mayE vs y)) ∧ Gr w w' := by
  cases hp : isP y.c vs.length with
  | false => exact rmay_no w ao cap vs y hp
  | true => exact rmay_yes P w ao cap vs h y hp
theorem mayE_zero {vs : List Int} {a : Ac} (h : mayE vs a = 0) : isP a.c vs.length = true := by
  cases hp : isP a.c vs.length with
  | true => rfl
  | false => rw [mayE_no hp] at h; cases h
set_option maxHeartbeats 4000000 in
set_option maxRecDepth 20000 in
theorem rreplay_any (P Q : Nat → Prop) (w : World) (vv vl : Value) (vs : List Int) (l : List Ac) (hv : Ls eI P w vv vs) (hl : Ls eA Q w vl l) (hvn : vs.length ≤ 17592186044416) (hln : l.length ≤ 17592186044416) : Calls Try.prog 18 #[vv, vl] w (RyR w vs l) := by
  obtain ⟨aol, capl, rfl⟩ := hl.form
  obtain ⟨M, hM⟩ : ∃ M, M = l.length := ⟨_, rfl⟩
  obtain ⟨n, hn⟩ : ∃ n, n = vs.length := ⟨_, rfl⟩
  rw [← hM] at hl hln ⊢
  have HY := hid (fun (ao : Option Addr) (cap : Nat) (cur : List Int) (y : Ac) (W : World) (p : Ow eI 1 2 w.heap.size W (.slice ao n cap) cur) (q : cur.length = n) => show Calls Try.prog 33 #[.slice ao n cap, .agg #[.int .i64 y.c, .int .i64 y.k, .int .i64 y.b, .int .i64 y.a, .bool y.w]] W fun e w' => e = .returned (.int .i64 (mayE cur y)) ∧ Gr W w' from by
    subst q
    exact rmay_any _ W ao cap cur p.lst y)
  have HV := hid hv
  have HL := hid hl
  have HM := hid hM
  have HN := hid hn
  rw [← hn] at hvn
  clear hv hl hM hn
  go_enter Try.func18, Try.ntmps18
  go_wp2_with (first | (at_builtin; refine wpList_append_ow eI_len rfl (.tmp 10) (.tmp 11) 26 2 8 (.int .i64 0) Try.underlying26 i64_info rfl (by omega) rfl w.heap.size _ [] rfl (Ow.nil _ _ _ _ _) P _ vs rfl HV.out (eI_one vs) n (by simp [HN.out]) (by omega) (by unfold maxLen; omega) (by simp) vs rfl ?_; intro aon capn w1 o1 g1 b1; have O1 := hid o1; have G1 := hid (show Gr w w1 from g1.mono (fun q e => by cases e)); clear o1 g1 b1))
  go_loopg [8] M (fun q i wr => ∃ (j : Nat) (cur : List Int), j + q = M ∧ i = .int .i64 (j : Int) ∧ rgo 0 vs l = rgo j cur (l.drop j) ∧ cur.length = n ∧ Ow eI 1 2 w.heap.size wr (.slice aon n capn) cur ∧ Gr w wr)
  case atStart => exact ⟨0, vs, by omega, rfl, rfl, HN.out.symm, O1.out, G1.out⟩
  case round =>
    obtain ⟨j, cur, hjk, rfl, hrg, hcn, ho, hg⟩ := hrel
    have HRG := hid hrg
    have HCN := hid hcn
    have HO := hid ho
    have HG := hid hg
    clear hrg hcn ho hg
    by_cases hj : j < M
    · obtain ⟨a, ha⟩ : ∃ a, l[j]? = some a := ⟨_, List.getElem?_eq_getElem (by rw [← HM.out]; exact hj)⟩
      obtain ⟨g, oo, cap1, e1, -, hgl, -, d⟩ := (HL.out.gr HG.out).get eA_len ha
      injection e1 with e1 h1 h2
      subst e1
      have d0 := d 0 _ rfl
      have d1 := d 1 _ rfl
      have d2 := d 2 _ rfl
      have d3 := d 3 _ rfl
      have d4 := d 4 _ rfl
      simp only [Nat.add_zero] at d0
      have j0 : (0 : Int) ≤ (j : Int) := by omega
      have j1 : (j : Int) < (M : Int) := by omega
      have HAJ := hid ha
      clear d h1 h2 ha
      obtain ⟨E, hE⟩ : ∃ E, mayE cur a = E := ⟨_, rfl⟩
      have HME := hid hE
      by_cases hE0 : E = 0
      · subst hE0
        have hp := mayE_zero hE
        rw [HCN.out] at hp
        obtain ⟨k, hk, hkn⟩ := isP_of hp
        have hkc : k < cur.length := by rw [HCN.out]; exact hkn
        have hki : a.c < (n : Int) := by omega
        have hk0 : 0 ≤ a.c := by omega
        have hkt : a.c.toNat = k := by omega
        have HE := hid (show rgo 0 vs l = rgo (j + 1) (cur.set k a.a) (l.drop (j + 1)) from by
          rw [HRG.out, rgo_ok HAJ.out hE, hkt])
        clear hE hk
        go_wp2_with (go_at_call 33; refine (HY.out _ _ cur a _ HO.out HCN.out).mono ?_; rw [HME.out]; rintro e w4 ⟨rfl, g4⟩; have G4 := hid (show Gr w w4 from Gr.trans HG.out g4); have x0 := (g4.cell (o := oo + j * 5) hgl).trans d0; have x3 := (g4.cell (o := oo + j * 5 + 3) hgl).trans d3; obtain ⟨gn, cap2, hv2, hb2, hgl2, _, hc2, hf2, hs2⟩ := (HO.out.gr g4).get eI_len (inC_get hkc); injection hv2 with y1 y2 y3; subst y1; have c2 := hc2 0 _ rfl; have f2 := hf2 k; have S2 := hid (hs2 0 (.int .i64 a.a) a.a (by omega) rfl); simp only [Nat.mul_one, Nat.add_zero] at c2 S2; clear g4 hc2 hf2 hs2 y2 y3)
        go_region
        all_goals go_wp2
        all_goals go_roundg (gk - 1)
        all_goals first | omega | skip
        all_goals exact ⟨j + 1, _, by omega, by simp, HE.out, (List.length_set).trans HCN.out, S2.out, Ch.trans G4.out.drew ((Ch.refl (Only gn) w4.drew).own k _) (fun q e => .inr (by have e1 : q = gn := e; omega))⟩
      · have HE := hid (show rgo 0 vs l = ([], (j : Int), E) from HRG.out.trans (rgo_bad HAJ.out hE hE0))
        have hEb : (E == 0) = false := by simpa using hE0
        clear hE
        go_wp2_with (go_at_call 33; refine (HY.out _ _ cur a _ HO.out HCN.out).mono ?_; rw [HME.out]; rintro e w4 ⟨rfl, g4⟩; have G4 := hid (show Gr w w4 from Gr.trans HG.out g4); clear g4)
        exact bodyPost_ret (v := .tuple #[.slice none 0 0, .int .i64 (j : Int), .int .i64 E]) (by simp [results, Try.results18, go_sem]) rfl (RyR.bad HE.out G4.out)
    · have jn : ¬ (j : Int) < (M : Int) := by omega
      have HE := hid (show rgo 0 vs l = (cur, 0, 0) from HRG.out.trans (rgo_end (by rw [← HM.out]; omega)))
      go_wp2
      exact bodyPost_ret (v := .tuple #[.slice aon n capn, .int .i64 0, .int .i64 0]) (by simp [results, Try.results18, go_sem]) rfl (RyR.good HE.out HCN.out HO.out HG.out)
theorem rgo_len : ∀ (l : List Ac) (i : Nat) (vs : List Int), (rgo i vs l).1.length ≤ vs.length
  | [], _, _ => Nat.le_refl _
  | a :: l, i, vs => by
    rw [rgo]
    split
    · exact Nat.le_trans (rgo_len l _ _) (by simp)
    · simp
set_option maxHeartbeats 4000000 in
theorem replay_law (P : Nat → Prop) (vv : Value) (vs : List Int) (Q : Nat → Prop) (vl : Value) (l : List Ac) (w : World) (hv : Ls eI P w vv vs) (hvn : vs.length ≤ 17592186044416) (hl : Ls eA Q w vl l) (hln : l.length ≤ 17592186044416) : Calls Try.prog 5 #[vv, vl] w fun e w' => e = .returned (.bool true) ∧ Gr w w' := by
  have H1 := hid (fun (W : World) (p : Gr w W) => replay_any P Q W vv vl vs l (hv.gr p) (hl.gr p) hvn hln)
  have H2 := hid (fun (W : World) (p : Gr w W) => rreplay_any P Q W vv vl vs l (hv.gr p) (hl.gr p) hvn hln)
  have HA := hid (fun (W : World) => awake_any W)
  have HS := hid (fun (P Q : Nat → Prop) (va vb : Value) (W : World) (p : Ls eI P W va (rgo 0 vs l).1) (q : Ls eI Q W vb (rgo 0 vs l).1) => rsame_eq P Q va vb _ W p q (Nat.le_trans (rgo_len _ _ _) hvn))
  unfold RyR at H1 H2
  generalize (rgo 0 vs l).1 = xs at *
  generalize (rgo 0 vs l).2.1 = y at *
  generalize (rgo 0 vs l).2.2 = z at *
  generalize xs.length = n at *
  clear hv hl hvn hln
  go_enter Try.func5, Try.ntmps5
  go_wp2_with (first
    | (go_at_call 17; refine (H1.out _ (Gr.refl w)).mono ?_; rintro e w1 ⟨ao1, cap1, rfl, o1, g1⟩; have O1 := hid o1; have G1 := hid g1; clear o1 g1)
    | (go_at_call 18; refine (H2.out _ G1.out).mono ?_; rintro e w2 ⟨ao2, cap2, rfl, o2, g2⟩; have O2 := hid o2; have O1b := hid (O1.out.gr g2); have G2 := hid (Gr.trans G1.out g2); clear o2 g2)
    | (go_at_call 12; refine (HS.out _ _ _ _ _ O1b.out.lst O2.out.lst).mono ?_; rintro e w3 ⟨rfl, g3⟩; have G3 := hid (Gr.trans G2.out g3); clear g3)
    | (go_at_call 14; refine (HA.out _).mono ?_; rintro e w4 ⟨rfl, g4⟩; have G4 := hid (Gr.trans G3.out g4); clear g4))
  go_ret
  exact ⟨rfl, G4.out⟩
end Go.Proofs.Ytpmhmikefkgbdaa.Lt
