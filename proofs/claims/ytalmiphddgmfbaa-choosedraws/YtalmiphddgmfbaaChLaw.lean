/-
  What ChooseOrders, ChooseDraws, ChooseBack and ChooseOther of the statements answer: true, at any input. Conditions: lists are as long as memory lets them be, draws as great as they can be.
-/
import Derived.Test.YtalmiphddgmfbaaChAwake
import Derived.Test.YtalmiphddgmfbaaChDrwR
import Derived.Test.YtalmiphddgmfbaaChSame
import Derived.Deep.Cut
namespace Go.Proofs.Ytalmiphddgmfbaa.Lt
open Go.RowKit Wd
attribute [local go_sem ↓] Go.wp_at_zero Go.wp_at_succ

/-- Order's answer, refused or not -/
def OdR (w : World) (er : Int) (l : List Int) (e : Ending) (w' : World) : Prop := ∃ ao k cap, e = .returned (.tuple #[.slice ao k cap, .int .i64 er]) ∧ Ow eI 1 3 w.heap.size w' (.slice ao k cap) l ∧ Gr w w'
/-- Draws' answer -/
def DdR (w : World) (er : Int) (l : List Int) (e : Ending) (w' : World) : Prop := ∃ ao k cap, e = .returned (.tuple #[.slice ao k cap, .int .i64 er]) ∧ Ow eU 1 34 w.heap.size w' (.slice ao k cap) l ∧ Gr w w'
theorem order_uni (n : Int) (P : Nat → Prop) (w : World) (ao : Option Addr) (m cap : Nat) (ds : List Int) (h : Ls eU P w (.slice ao m cap) ds) (hd : Dok ds) : ∃ (er : Int) (l : List Int), l.length ≤ 16 ∧ (∀ W, Gr w W → Calls Try.prog 9 #[.int .i64 n, .slice ao m cap] W (OdR W er l)) ∧ ∀ W, Gr w W → Calls Try.prog 10 #[.int .i64 n, .slice ao m cap] W (OdR W er l) := by
  by_cases h0 : 0 ≤ n ∧ n ≤ 16
  · obtain ⟨k, rfl⟩ : ∃ k : Nat, n = (k : Int) := ⟨n.toNat, by omega⟩
    by_cases h1 : m < k
    · refine ⟨120, [], by simp, fun W p => (order_few k m cap ao W (by omega) h1).mono ?_, fun W p => (rorder_few k m cap ao W (by omega) h1).mono ?_⟩
      · rintro e w' ⟨rfl, rfl⟩; exact ⟨_, _, _, rfl, Ow.nil _ _ _ _ _, Gr.refl _⟩
      · rintro e w' ⟨rfl, rfl⟩; exact ⟨_, _, _, rfl, Ow.nil _ _ _ _ _, Gr.refl _⟩
    · refine ⟨0, ord (ds.take k), by rw [ord_len, List.length_take]; omega, fun W p => (order_ok P W ao m cap ds k (h.gr p) hd (by omega) (by omega)).mono ?_, fun W p => (rorder_ok P W ao m cap ds k (h.gr p) hd (by omega) (by omega)).mono ?_⟩
      · rintro e w' ⟨a, c, rfl, o, g⟩; exact ⟨_, _, _, rfl, o, g⟩
      · rintro e w' ⟨a, c, rfl, o, g⟩; exact ⟨_, _, _, rfl, o, g⟩
  · refine ⟨1, [], by simp, fun W p => (order_arg n _ W h0).mono ?_, fun W p => (rorder_arg n _ W h0).mono ?_⟩
    · rintro e w' ⟨rfl, rfl⟩; exact ⟨_, _, _, rfl, Ow.nil _ _ _ _ _, Gr.refl _⟩
    · rintro e w' ⟨rfl, rfl⟩; exact ⟨_, _, _, rfl, Ow.nil _ _ _ _ _, Gr.refl _⟩
theorem draws_uni (P : Nat → Prop) (w : World) (ao : Option Addr) (n cap : Nat) (xs : List Int) (h : Ls eI P w (.slice ao n cap) xs) : ∃ (er : Int) (l : List Int), l.length ≤ 16 ∧ (er = 0 → l = drs xs ∧ All xs ∧ n ≤ 16) ∧ (∀ W, Gr w W → Calls Try.prog 13 #[.slice ao n cap] W (DdR W er l)) ∧ ∀ W, Gr w W → Calls Try.prog 14 #[.slice ao n cap] W (DdR W er l) := by
  by_cases h1 : 16 < n
  · refine ⟨1, [], by simp, by omega, fun W p => (draws_many ao n cap W h1).mono ?_, fun W p => (rdraws_many ao n cap W h1).mono ?_⟩
    · rintro e w' ⟨rfl, rfl⟩; exact ⟨_, _, _, rfl, Ow.nil _ _ _ _ _, Gr.refl _⟩
    · rintro e w' ⟨rfl, rfl⟩; exact ⟨_, _, _, rfl, Ow.nil _ _ _ _ _, Gr.refl _⟩
  · rcases Classical.em (All xs) with hA | hA
    · refine ⟨0, drs xs, by rw [drs_len]; have := h.len.1; omega, fun _ => ⟨rfl, hA, by omega⟩, fun W p => (draws_ok P W ao n cap xs (h.gr p) (by omega) hA).mono ?_, fun W p => (rdraws_ok P W ao n cap xs (h.gr p) (by omega) hA).mono ?_⟩
      · rintro e w' ⟨a, c, rfl, o, g⟩; exact ⟨_, _, _, rfl, o, g⟩
      · rintro e w' ⟨a, c, rfl, o, g⟩; exact ⟨_, _, _, rfl, o, g⟩
    · refine ⟨121, [], by simp, by omega, fun W p => (draws_not P W ao n cap xs (h.gr p) (by omega) hA).mono ?_, fun W p => (rdraws_not P W ao n cap xs (h.gr p) (by omega) hA).mono ?_⟩
      · rintro e w' ⟨rfl, rfl⟩; exact ⟨_, _, _, rfl, Ow.nil _ _ _ _ _, Gr.refl _⟩
      · rintro e w' ⟨rfl, rfl⟩; exact ⟨_, _, _, rfl, Ow.nil _ _ _ _ _, Gr.refl _⟩
set_option maxRecDepth 20000 in
set_option maxHeartbeats 4000000 in
theorem orders_law (n : Int) (P : Nat → Prop) (vd : Value) (ds : List Int) (w : World) (h : Ls eU P w vd ds) (hd : Dok ds) : Calls Try.prog 3 #[.int .i64 n, vd] w fun e w' => e = .returned (.bool true) ∧ Gr w w' := by
  obtain ⟨ao, cap, rfl⟩ := h.form
  generalize ds.length = m at h ⊢
  obtain ⟨er, l, hl, hP, hR⟩ := order_uni n P w ao m cap ds h hd
  have HP := hid hP
  have HR := hid hR
  have HL := hid hl
  have HA := hid (fun (W : World) => awake_any W)
  clear h hP hR hl hd
  go_enter Try.func3, Try.ntmps3
  go_wp2_with (first
    | (go_at_call 9; refine (HP.out _ (Gr.refl _)).mono ?_; rintro e w1 ⟨a1, k1, c1, rfl, o1, g1⟩; have O1 := hid o1; have G1 := hid g1; have K1 := hid (show k1 ≤ 16 from by have := o1.len.1; have := HL.out; omega); clear o1 g1)
    | (go_at_call 10; refine (HR.out _ G1.out).mono ?_; rintro e w2 ⟨a2, k2, c2, rfl, o2, g2⟩; have O2 := hid o2; have P1 := hid (O1.out.gr g2); have G2 := hid (Gr.trans G1.out g2); have K2 := hid (show k2 ≤ 16 from by have := o2.len.1; have := HL.out; omega); clear o2 g2)
    | (go_at_call 11; refine (sameI_any _ _ _ _ _ _ _ _ _ _ _ P1.out.lst O2.out.lst (by have := K1.out; omega) (by have := K2.out; omega)).mono ?_; rw [decide_eq_true rfl]; rintro e w3 ⟨rfl, g3⟩; have G3 := hid (Gr.trans G2.out g3); clear g3)
    | (go_at_call 12; refine (HA.out _).mono ?_; rintro e w4 ⟨rfl, g4⟩; have G4 := hid (Gr.trans G3.out g4); clear g4))
  go_ret
  exact ⟨rfl, G4.out⟩
set_option maxRecDepth 20000 in
set_option maxHeartbeats 4000000 in
theorem draws_law (P : Nat → Prop) (vx : Value) (xs : List Int) (w : World) (h : Ls eI P w vx xs) : Calls Try.prog 4 #[vx] w fun e w' => e = .returned (.bool true) ∧ Gr w w' := by
  obtain ⟨ao, cap, rfl⟩ := h.form
  generalize xs.length = n at h ⊢
  obtain ⟨er, l, hl, -, hP, hR⟩ := draws_uni P w ao n cap xs h
  have HP := hid hP
  have HR := hid hR
  have HL := hid hl
  have HA := hid (fun (W : World) => awake_any W)
  clear h hP hR hl
  go_enter Try.func4, Try.ntmps4
  go_wp2_with (first
    | (go_at_call 13; refine (HP.out _ (Gr.refl _)).mono ?_; rintro e w1 ⟨a1, k1, c1, rfl, o1, g1⟩; have O1 := hid o1; have G1 := hid g1; have K1 := hid (show k1 ≤ 16 from by have := o1.len.1; have := HL.out; omega); clear o1 g1)
    | (go_at_call 14; refine (HR.out _ G1.out).mono ?_; rintro e w2 ⟨a2, k2, c2, rfl, o2, g2⟩; have O2 := hid o2; have P1 := hid (O1.out.gr g2); have G2 := hid (Gr.trans G1.out g2); have K2 := hid (show k2 ≤ 16 from by have := o2.len.1; have := HL.out; omega); clear o2 g2)
    | (go_at_call 15; refine (sameU_any _ _ _ _ _ _ _ _ _ _ _ P1.out.lst O2.out.lst (by have := K1.out; omega) (by have := K2.out; omega)).mono ?_; rw [decide_eq_true rfl]; rintro e w3 ⟨rfl, g3⟩; have G3 := hid (Gr.trans G2.out g3); clear g3)
    | (go_at_call 12; refine (HA.out _).mono ?_; rintro e w4 ⟨rfl, g4⟩; have G4 := hid (Gr.trans G3.out g4); clear g4))
  go_ret
  exact ⟨rfl, G4.out⟩
/-- each at most its place -/
def md (ds : List Int) : List Int := ds.mapIdx (fun i d => d % ((i : Int) + 1))
theorem md_len (ds : List Int) : (md ds).length = ds.length := by simp [md]
theorem md_snoc (ds : List Int) (d : Int) : md (ds ++ [d]) = md ds ++ [d % ((ds.length : Int) + 1)] := by simp [md, List.mapIdx_concat]
theorem md_sml (ds : List Int) : Sml (md ds) := by
  intro i d h
  unfold md at h
  rw [List.getElem?_mapIdx] at h
  cases hx : ds[i]? with
  | none => rw [hx] at h; cases h
  | some x =>
    rw [hx] at h
    simp only [Option.map_some, Option.some.injEq] at h
    have h1 := Int.emod_nonneg x (show ((i : Int) + 1) ≠ 0 by omega)
    have h2 := Int.emod_lt_of_pos x (show (0 : Int) < (i : Int) + 1 by omega)
    omega
theorem md_ok {ds : List Int} (h : ds.length ≤ 16) : Dok (md ds) := by
  intro d hd
  obtain ⟨i, hi⟩ := List.mem_iff_getElem?.1 hd
  have h1 := md_sml ds i d hi
  have h2 := (List.getElem?_eq_some_iff.1 hi).1
  rw [md_len] at h2
  omega
theorem drs_sml {l : List Int} (h : All l) : Sml (drs l) := by
  have key : ∀ (n : Nat) (l : List Int), l.length = n → All l → Sml (drw n l) := by
    intro n
    induction n with
    | zero => intro l _ _ i d hd; simp [drw] at hd
    | succ n ih =>
      intro l hl h i d hd
      rw [drw] at hd
      by_cases hi : i < n
      · rw [List.getElem?_append_left (by rw [drw_len]; exact hi)] at hd
        exact ih (un l) (by rw [un_len]; omega) (un_all h) i d hd
      · rw [List.getElem?_append_right (by rw [drw_len]; omega), drw_len] at hd
        have e : i - n = 0 := by
          rcases Nat.eq_zero_or_pos (i - n) with e | e
          · exact e
          · rw [List.getElem?_eq_none (by simp; omega)] at hd; cases hd
        rw [e, List.getElem?_cons_zero] at hd
        injection hd with hd
        have hm := h n (by omega)
        rw [show ((l.length : Int) - 1) = (n : Int) by omega] at hd
        have := List.idxOf_lt_length_of_mem hm
        omega
  exact key _ l rfl h
set_option maxRecDepth 20000 in
set_option maxHeartbeats 8000000 in
theorem back_law (P Q : Nat → Prop) (vx : Value) (xs : List Int) (vd : Value) (ds : List Int) (w : World) (h : Ls eI P w vx xs) (k : Ls eU Q w vd ds) (hd : Dok ds) (hm : ds.length ≤ 17592186044416) : Calls Try.prog 5 #[vx, vd] w fun e w' => e = .returned (.bool true) ∧ Gr w w' := by
  obtain ⟨ao, cap, rfl⟩ := h.form
  obtain ⟨bo, cbp, rfl⟩ := k.form
  obtain ⟨n, hn⟩ : ∃ n, n = xs.length := ⟨_, rfl⟩
  obtain ⟨m, hmm⟩ : ∃ n, n = ds.length := ⟨_, rfl⟩
  rw [← hn] at h ⊢
  rw [← hmm] at k hm ⊢
  obtain ⟨er, l, hl, hz, hP, -⟩ := draws_uni P w ao n cap xs h
  have HP := hid hP
  have HL := hid hl
  have HZ := hid hz
  have HA := hid (fun (W : World) => awake_any W)
  have HX := hid h
  have HD := hid k
  have HDok := hid hd
  have HNM := hid hmm
  have HNX := hid hn
  clear h hP hl hz k hd hn hmm
  go_enter Try.func5, Try.ntmps5
  go_upto_region 2 with (first
    | (go_at_call 13; refine (HP.out _ (Gr.refl _)).mono ?_; rintro e w1 ⟨a1, k1, c1, rfl, o1, g1⟩; have O1 := hid o1; have G1 := hid g1; have K1 := hid (show k1 ≤ 16 from by have := o1.len.1; have := HL.out; omega); clear o1 g1))
  by_cases he : er = 0
  · obtain ⟨hld, hAll, hn16⟩ := HZ.out he
    have HO := hid (fun (W : World) (p : Gr w1 W) => order_ok _ W a1 k1 c1 l n (O1.out.gr p).lst (by
      intro d hdd
      rw [hld] at hdd
      obtain ⟨i, hi⟩ := List.mem_iff_getElem?.1 hdd
      have h1 : Sml (drs xs) := drs_sml hAll
      have h2 := h1 i d hi
      have h3 := (List.getElem?_eq_some_iff.1 hi).1
      rw [drs_len] at h3
      have := HNX.out
      omega) hn16 (by have e1 := O1.out.len.1; rw [hld, drs_len] at e1; have := HNX.out; omega))
    have hle : l.take n = drs xs := by rw [hld]; exact List.take_of_length_le (by rw [drs_len]; have := HNX.out; omega)
    rw [hle, ord_drs hAll] at HO
    have HN16 := hid hn16
    subst he
    clear hld hAll hn16 hle
    go_upto_region 6 with (first
      | (go_at_call 9; refine (HO.out _ (Gr.refl _)).mono ?_; rintro e w2 ⟨a2, c2, rfl, o2, g2⟩; have O2 := hid o2; have X2 := hid ((HX.out.gr G1.out).gr g2); have G2 := hid (Gr.trans G1.out g2); clear o2 g2)
      | (go_at_call 11; refine (sameI_any _ _ _ _ _ _ _ _ _ _ _ O2.out.lst X2.out (by have := HN16.out; omega) (by have := HN16.out; omega)).mono ?_; rw [decide_eq_true rfl]; rintro e w3 ⟨rfl, g3⟩; have G3 := hid (Gr.trans G2.out g3); clear g3))
    clear HO O1 O2 X2 G1 G2 HZ HP HL K1
    go_wp2_with fail
    go_loopg [9, 10] 16 (fun q v9 v10 wr => ∃ (j : Nat) (a : Option Addr) (c : Nat), j + q = 16 ∧ j ≤ m ∧ v10 = .int .i64 (j : Int) ∧ v9 = .slice a j c ∧ Ow eU 1 34 w.heap.size wr (.slice a j c) (md (ds.take j)) ∧ Gr w wr)
    case atStart => exact ⟨0, none, 0, by omega, by omega, rfl, rfl, Ow.nil _ _ _ _ _, G3.out⟩
    case round =>
      obtain ⟨j, a, c, hjq, hjm, rfl, rfl, hO, hG⟩ := hrel
      have HO := hid hO
      have HG := hid hG
      clear hO hG
      by_cases hj : j < m ∧ j < 16
      · obtain ⟨hj1, hj2⟩ := hj
        obtain ⟨d, hx⟩ : ∃ x, ds[j]? = some x := ⟨_, List.getElem?_eq_getElem (by rw [← HNM.out]; omega)⟩
        obtain ⟨gg, oo, cap', hv, _, hgl, _, hcs⟩ := (HD.out.gr HG.out).get eU_len hx
        injection hv with hv1 hv2 hv3
        subst hv1
        have c0 := hcs 0 _ rfl
        simp only [Nat.mul_one, Nat.add_zero] at c0
        have j0 : (0 : Int) ≤ (j : Int) := by omega
        have j1 : (j : Int) < (m : Int) := by omega
        have j2 : (j : Int) < 16 := by omega
        have hdd := HDok.out d (List.mem_of_getElem? hx)
        have dm : d.tmod ((j : Int) + 1) = d % ((j : Int) + 1) := Int.tmod_eq_emod_of_nonneg hdd.1
        have hsz : (md (ds.take j)).length = j := by rw [md_len, List.length_take]; have := HNM.out; omega
        have HT := hid (show md (ds.take (j + 1)) = md (ds.take j) ++ [d % ((j : Int) + 1)] from by rw [take_one hx, md_snoc, List.length_take, Nat.min_eq_left (by have := HNM.out; omega)])
        have HLL := hid hsz
        generalize md (ds.take j) = zs at HO HT HLL
        generalize d % ((j : Int) + 1) = r at dm HT
        have HS := hid HG.out.size
        clear hcs hv2 hv3 hx hgl hdd hsz
        go_wp2_with (at_builtin; refine wpList_append_ow eU_len rfl (.tmp 47) (.tmp 56) _ 34 8 _ Try.underlying22 u64_info rfl (by omega) rfl w.heap.size _ zs rfl (HO.out.alloc _) _ _ [r] rfl (Ls.single wr r 34 #[.int .u64 r] rfl) (eU_one _) (j + 1) (by rw [HLL.out]; rfl) (by omega) (by unfold maxLen; omega) (by simp; have := HS.out; omega) (zs ++ [r]) rfl ?_; intro ao5 cap5 w5 ow5 cw5 bl5; have O5 := hid ow5; have G5 := hid (show Gr w w5 from Ch.trans (Ch.alloc HG.out _) cw5 (fun q h => .inr (HO.out.blk h).1)); clear ow5 cw5 bl5)
        go_roundg (gk - 1)
        case measure => omega
        case rel => exact ⟨j + 1, ao5, cap5, by omega, by omega, by simp, rfl, by rw [HT.out]; exact O5.out, G5.out⟩
      · have hjN : j ≤ 16 := by omega
        have HOK := hid (md_ok (ds := ds.take j) (by rw [List.length_take]; omega))
        have HSM := hid (md_sml (ds.take j))
        have hsz : (md (ds.take j)).length = j := by rw [md_len, List.length_take]; have := HNM.out; omega
        have HLL := hid hsz
        generalize md (ds.take j) = zs at HO HOK HSM HLL
        have HOr := hid (by
          have := order_ok _ wr a j c zs j HO.out.lst HOK.out hjN (Nat.le_refl _)
          rw [List.take_of_length_le (by rw [HLL.out]; omega)] at this
          exact this)
        have HDr := hid (fun (W : World) (a' : Option Addr) (c' : Nat) (p : Ls eI (wr.heap.size ≤ ·) W (.slice a' j c') (ord zs)) => by
          have := draws_ok _ W a' j c' (ord zs) p hjN (ord_all zs)
          rw [drs_ord HSM.out] at this
          exact this)
        have HJ16 := hid hjN
        by_cases hj1 : j < m
        · have j1 : (j : Int) < (m : Int) := by omega
          have j2 : ¬ (j : Int) < 16 := by omega
          clear hj hj1 hsz hjN
          go_wp2_with (first
            | (go_at_call 9; refine HOr.out.mono ?_; rintro e w6 ⟨a6, c6, rfl, o6, g6⟩; have O6 := hid o6; have G6 := hid (Gr.trans HG.out g6); have S6 := hid (HO.out.gr g6); clear o6 g6)
            | (go_at_call 13; refine (HDr.out _ _ _ O6.out.lst).mono ?_; rintro e w7 ⟨a7, c7, rfl, o7, g7⟩; have O7 := hid o7; have S7 := hid (S6.out.gr g7); have G7 := hid (Gr.trans G6.out g7); clear o7 g7)
            | (go_at_call 15; refine (sameU_any _ _ _ _ _ _ _ _ _ _ _ O7.out.lst S7.out.lst (by have := HJ16.out; omega) (by have := HJ16.out; omega)).mono ?_; rw [decide_eq_true rfl]; rintro e w8 ⟨rfl, g8⟩; have G8 := hid (Gr.trans G7.out g8); clear g8)
            | (go_at_call 12; refine (HA.out _).mono ?_; rintro e w9 ⟨rfl, g9⟩; have G9 := hid (Gr.trans G8.out g9); clear g9))
          go_ret
          exact ⟨rfl, G9.out⟩
        · have j1 : ¬ (j : Int) < (m : Int) := by omega
          clear hj hj1 hsz hjN
          go_wp2_with (first
            | (go_at_call 9; refine HOr.out.mono ?_; rintro e w6 ⟨a6, c6, rfl, o6, g6⟩; have O6 := hid o6; have G6 := hid (Gr.trans HG.out g6); have S6 := hid (HO.out.gr g6); clear o6 g6)
            | (go_at_call 13; refine (HDr.out _ _ _ O6.out.lst).mono ?_; rintro e w7 ⟨a7, c7, rfl, o7, g7⟩; have O7 := hid o7; have S7 := hid (S6.out.gr g7); have G7 := hid (Gr.trans G6.out g7); clear o7 g7)
            | (go_at_call 15; refine (sameU_any _ _ _ _ _ _ _ _ _ _ _ O7.out.lst S7.out.lst (by have := HJ16.out; omega) (by have := HJ16.out; omega)).mono ?_; rw [decide_eq_true rfl]; rintro e w8 ⟨rfl, g8⟩; have G8 := hid (Gr.trans G7.out g8); clear g8)
            | (go_at_call 12; refine (HA.out _).mono ?_; rintro e w9 ⟨rfl, g9⟩; have G9 := hid (Gr.trans G8.out g9); clear g9))
          go_ret
          exact ⟨rfl, G9.out⟩
  · have e1 : (er == 0) = false := by simpa using he
    have G3 := hid G1.out
    clear he
    go_upto_region 6 with fail
    clear O1 G1 HZ HP HL K1
    go_wp2_with fail
    go_loopg [9, 10] 16 (fun q v9 v10 wr => ∃ (j : Nat) (a : Option Addr) (c : Nat), j + q = 16 ∧ j ≤ m ∧ v10 = .int .i64 (j : Int) ∧ v9 = .slice a j c ∧ Ow eU 1 34 w.heap.size wr (.slice a j c) (md (ds.take j)) ∧ Gr w wr)
    case atStart => exact ⟨0, none, 0, by omega, by omega, rfl, rfl, Ow.nil _ _ _ _ _, G3.out⟩
    case round =>
      obtain ⟨j, a, c, hjq, hjm, rfl, rfl, hO, hG⟩ := hrel
      have HO := hid hO
      have HG := hid hG
      clear hO hG
      by_cases hj : j < m ∧ j < 16
      · obtain ⟨hj1, hj2⟩ := hj
        obtain ⟨d, hx⟩ : ∃ x, ds[j]? = some x := ⟨_, List.getElem?_eq_getElem (by rw [← HNM.out]; omega)⟩
        obtain ⟨gg, oo, cap', hv, _, hgl, _, hcs⟩ := (HD.out.gr HG.out).get eU_len hx
        injection hv with hv1 hv2 hv3
        subst hv1
        have c0 := hcs 0 _ rfl
        simp only [Nat.mul_one, Nat.add_zero] at c0
        have j0 : (0 : Int) ≤ (j : Int) := by omega
        have j1 : (j : Int) < (m : Int) := by omega
        have j2 : (j : Int) < 16 := by omega
        have hdd := HDok.out d (List.mem_of_getElem? hx)
        have dm : d.tmod ((j : Int) + 1) = d % ((j : Int) + 1) := Int.tmod_eq_emod_of_nonneg hdd.1
        have hsz : (md (ds.take j)).length = j := by rw [md_len, List.length_take]; have := HNM.out; omega
        have HT := hid (show md (ds.take (j + 1)) = md (ds.take j) ++ [d % ((j : Int) + 1)] from by rw [take_one hx, md_snoc, List.length_take, Nat.min_eq_left (by have := HNM.out; omega)])
        have HLL := hid hsz
        generalize md (ds.take j) = zs at HO HT HLL
        generalize d % ((j : Int) + 1) = r at dm HT
        have HS := hid HG.out.size
        clear hcs hv2 hv3 hx hgl hdd hsz
        go_wp2_with (at_builtin; refine wpList_append_ow eU_len rfl (.tmp 47) (.tmp 56) _ 34 8 _ Try.underlying22 u64_info rfl (by omega) rfl w.heap.size _ zs rfl (HO.out.alloc _) _ _ [r] rfl (Ls.single wr r 34 #[.int .u64 r] rfl) (eU_one _) (j + 1) (by rw [HLL.out]; rfl) (by omega) (by unfold maxLen; omega) (by simp; have := HS.out; omega) (zs ++ [r]) rfl ?_; intro ao5 cap5 w5 ow5 cw5 bl5; have O5 := hid ow5; have G5 := hid (show Gr w w5 from Ch.trans (Ch.alloc HG.out _) cw5 (fun q h => .inr (HO.out.blk h).1)); clear ow5 cw5 bl5)
        go_roundg (gk - 1)
        case measure => omega
        case rel => exact ⟨j + 1, ao5, cap5, by omega, by omega, by simp, rfl, by rw [HT.out]; exact O5.out, G5.out⟩
      · have hjN : j ≤ 16 := by omega
        have HOK := hid (md_ok (ds := ds.take j) (by rw [List.length_take]; omega))
        have HSM := hid (md_sml (ds.take j))
        have hsz : (md (ds.take j)).length = j := by rw [md_len, List.length_take]; have := HNM.out; omega
        have HLL := hid hsz
        generalize md (ds.take j) = zs at HO HOK HSM HLL
        have HOr := hid (by
          have := order_ok _ wr a j c zs j HO.out.lst HOK.out hjN (Nat.le_refl _)
          rw [List.take_of_length_le (by rw [HLL.out]; omega)] at this
          exact this)
        have HDr := hid (fun (W : World) (a' : Option Addr) (c' : Nat) (p : Ls eI (wr.heap.size ≤ ·) W (.slice a' j c') (ord zs)) => by
          have := draws_ok _ W a' j c' (ord zs) p hjN (ord_all zs)
          rw [drs_ord HSM.out] at this
          exact this)
        have HJ16 := hid hjN
        by_cases hj1 : j < m
        · have j1 : (j : Int) < (m : Int) := by omega
          have j2 : ¬ (j : Int) < 16 := by omega
          clear hj hj1 hsz hjN
          go_wp2_with (first
            | (go_at_call 9; refine HOr.out.mono ?_; rintro e w6 ⟨a6, c6, rfl, o6, g6⟩; have O6 := hid o6; have G6 := hid (Gr.trans HG.out g6); have S6 := hid (HO.out.gr g6); clear o6 g6)
            | (go_at_call 13; refine (HDr.out _ _ _ O6.out.lst).mono ?_; rintro e w7 ⟨a7, c7, rfl, o7, g7⟩; have O7 := hid o7; have S7 := hid (S6.out.gr g7); have G7 := hid (Gr.trans G6.out g7); clear o7 g7)
            | (go_at_call 15; refine (sameU_any _ _ _ _ _ _ _ _ _ _ _ O7.out.lst S7.out.lst (by have := HJ16.out; omega) (by have := HJ16.out; omega)).mono ?_; rw [decide_eq_true rfl]; rintro e w8 ⟨rfl, g8⟩; have G8 := hid (Gr.trans G7.out g8); clear g8)
            | (go_at_call 12; refine (HA.out _).mono ?_; rintro e w9 ⟨rfl, g9⟩; have G9 := hid (Gr.trans G8.out g9); clear g9))
          go_ret
          exact ⟨rfl, G9.out⟩
        · have j1 : ¬ (j : Int) < (m : Int) := by omega
          clear hj hj1 hsz hjN
          go_wp2_with (first
            | (go_at_call 9; refine HOr.out.mono ?_; rintro e w6 ⟨a6, c6, rfl, o6, g6⟩; have O6 := hid o6; have G6 := hid (Gr.trans HG.out g6); have S6 := hid (HO.out.gr g6); clear o6 g6)
            | (go_at_call 13; refine (HDr.out _ _ _ O6.out.lst).mono ?_; rintro e w7 ⟨a7, c7, rfl, o7, g7⟩; have O7 := hid o7; have S7 := hid (S6.out.gr g7); have G7 := hid (Gr.trans G6.out g7); clear o7 g7)
            | (go_at_call 15; refine (sameU_any _ _ _ _ _ _ _ _ _ _ _ O7.out.lst S7.out.lst (by have := HJ16.out; omega) (by have := HJ16.out; omega)).mono ?_; rw [decide_eq_true rfl]; rintro e w8 ⟨rfl, g8⟩; have G8 := hid (Gr.trans G7.out g8); clear g8)
            | (go_at_call 12; refine (HA.out _).mono ?_; rintro e w9 ⟨rfl, g9⟩; have G9 := hid (Gr.trans G8.out g9); clear g9))
          go_ret
          exact ⟨rfl, G9.out⟩
end Go.Proofs.Ytalmiphddgmfbaa.Lt
