/-
  What the program's readTable answers and leaves. Conditions: words are no longer than a text may be and lie apart from the reader; as many lines as a text may have.
-/
import Derived.Test.YtbehlhnnfdkmaaaGreatDoorLtFunc
namespace Go.Proofs.YtbehlhnnfdkmaaaGreatDoor.Lt
open Go.RowKit Wd

def sDef : ByteArray := { data := #[100, 101, 102, 97, 117, 108, 116] }
/-- has a table's line a default? -/
def tdf (ws : List ByteArray) : Bool := decide (ws.length = 2) && decide (ws[1]? = some sDef)
def rtN (ws : List ByteArray) : Nm := (3, 0, ws.headD ⟨#[]⟩)
def rtE (x : Rs) (ws : List ByteArray) : Int := if (decide (ws.length = 1) || tdf ws) && nameOk (ws.headD ⟨#[]⟩) then giveE x (rtN ws) else 70
def rtS (x : Rs) (ws : List ByteArray) : Rs := { giveS x (rtN ws) (x.tb.length : Nat) with tb := x.tb ++ [([], tdf ws)], inF := false, inT := true }

set_option maxHeartbeats 1000000 in
set_option maxRecDepth 20000 in
theorem readTable_1 (base R M : Nat) (w : World) (x : Rs) (v : Value) (s : ByteArray) (hl : Ls eS (fun g => ¬ SR base R M g) w v [s]) (hz : Sml [s]) (hf : Few x) (h : Red base R M w x) :
    Calls Tryz.prog 51 #[.pointer (some ⟨R, 0, none⟩), v] w (Dn base R M w (rtE x [s]) (rtS x [s])) := by
  obtain ⟨va, vf, vt, ts, h⟩ := h
  obtain ⟨ao, cap, rfl⟩ := hl.form
  obtain ⟨g, o, cap', hv, hP, hgl, hcap, hc⟩ := hl.get eS_len (i := 0) (a := s) rfl
  injection hv with hv1 hv2 hv3
  subst hv1 hv3
  have c0 := hc 0 _ rfl
  simp only [Nat.zero_mul, Nat.add_zero] at c0
  have hss := hz s (by simp)
  have HM := hid (isName_any s)
  clear hc hv2 hl hz
  simp only [List.length_cons, List.length_nil, Nat.zero_add] at hcap ⊢
  have hdf : tdf [s] = false := by unfold tdf; simp
  cases hq : nameOk s with
  | false =>
    have eE : rtE x [s] = 70 := by unfold rtE; rw [hdf]; simp [hq]
    rw [eE]
    rw [hq] at HM
    clear eE h hf hP hdf
    go_enter Tryz.func51, Tryz.ntmps51
    go_wp2_with (go_at_call 93; refine (HM.out _ (by omega)).mono ?_; rintro e w2 ⟨rfl, hw⟩; have hw := hw.symm; subst hw)
    go_ret
    exact Dn.bad (by omega) (Ch.refl _ _)
  | true =>
    have eE : rtE x [s] = giveE x (rtN [s]) := by unfold rtE; rw [hdf]; simp [hq]
    rw [eE]
    rw [hq] at HM
    have hk : Nok (rtN [s]) := ⟨⟨by show (0 : Int) ≤ 3; omega, by show (3 : Int) ≤ 3; omega⟩, ⟨by show (-1 : Int) ≤ 0; omega, by show (0 : Int) ≤ 4294967296; omega⟩, hss⟩
    obtain ⟨aot, ct, rfl⟩ := h.t.form
    have htl : ts.length = x.tb.length := by rw [← h.tsq, List.length_map]
    have r1 : w.cell? ⟨R, 2, none⟩ = some (.slice aot ts.length ct) := (cell_of h.blk 2).trans rfl
    have HH := hid h
    have hfl := hf.t
    have HGV := hid (fun (W : World) (q : Rd base R M W va vf (.slice aot ts.length ct) ts x) => give_any base R M W _ _ _ ts x (rtN [s]) (x.tb.length : Nat) hk q)
    unfold Gvn at HGV
    obtain ⟨E, hE⟩ : ∃ E, E = giveE x (rtN [s]) := ⟨_, rfl⟩
    rw [← hE] at HGV ⊢
    have HE := hid hE
    obtain ⟨X, hX⟩ : ∃ X, X = giveS x (rtN [s]) (x.tb.length : Nat) := ⟨_, rfl⟩
    rw [← hX] at HGV
    have HX := hid hX
    rw [← htl] at HGV hfl
    obtain ⟨nt, hnt⟩ : ∃ n, n = ts.length := ⟨_, rfl⟩
    rw [← hnt] at HGV r1 HH hfl
    have HNT := hid hnt
    have HDF := hid hdf
    unfold kV rtN at HGV
    simp only [List.headD_cons] at HGV
    clear h hf hE hX hk eE hnt htl hdf
    go_enter Tryz.func51, Tryz.ntmps51
    go_wp2_with (go_at_call 93; refine (HM.out _ (by omega)).mono ?_; rintro e w2 ⟨rfl, hw⟩; have hw := hw.symm; subst hw)
    have hS0 : (fun w' => w'.cell? ⟨g, o, none⟩ = some (.string s) ∧ w'.cell? ⟨R, 2, none⟩ = some (.slice aot nt ct)) w.drew := ⟨c0, r1⟩
    refine wp_region_held_drew (S := fun w' => w'.cell? ⟨g, o, none⟩ = some (.string s) ∧ w'.cell? ⟨R, 2, none⟩ = some (.slice aot nt ct)) (by kernel_rfl) (by exact hS0) (fun hSx => ?_)
    clear hSx
    refine takeS_on (i := 0) 30 (v := ?v29) rfl rfl (by kernel_rfl) (by kernel_rfl) (by kernel_rfl) (fun _ _ _ h => h) (by kernel_rfl) ?hy29 (by exact hS0) ?_
    case hy29 => (intro w' hSw; go_simp; try (with_reducible rfl))
    simp only [Act.put, List.setIfInBounds_toArray, List.set_cons_zero, List.set_cons_succ]
    refine takeS_on (i := 1) 31 (v := ?v30) rfl rfl (by kernel_rfl) (by kernel_rfl) (by kernel_rfl) (fun _ _ _ h => h) (by kernel_rfl) ?hy30 (by exact hS0) ?_
    case hy30 => (intro w' hSw; go_simp; try (with_reducible rfl))
    simp only [Act.put, List.setIfInBounds_toArray, List.set_cons_zero, List.set_cons_succ]
    refine takeS_on (i := 2) 32 (v := ?v31) rfl rfl (by kernel_rfl) (by kernel_rfl) (by kernel_rfl) (fun _ _ _ h => h) (by kernel_rfl) ?hy31 (by exact hS0) ?_
    case hy31 => (intro w' hSw; go_simp; try (with_reducible rfl))
    simp only [Act.put, List.setIfInBounds_toArray, List.set_cons_zero, List.set_cons_succ]
    refine takeS_on (i := 3) 33 (v := ?v32) rfl rfl (by kernel_rfl) (by kernel_rfl) (by kernel_rfl) (fun _ _ _ h => h) (by kernel_rfl) ?hy32 (by exact hS0) ?_
    case hy32 => (intro w' hSw; go_simp; try (with_reducible rfl))
    simp only [Act.put, List.setIfInBounds_toArray, List.set_cons_zero, List.set_cons_succ]
    refine takeS_on (i := 4) 34 (v := ?v33) rfl rfl (by kernel_rfl) (by kernel_rfl) (by kernel_rfl) (fun _ _ _ h => h) (by kernel_rfl) ?hy33 (by exact hS0) ?_
    case hy33 => (intro w' hSw; go_simp; try (with_reducible rfl))
    simp only [Act.put, List.setIfInBounds_toArray, List.set_cons_zero, List.set_cons_succ]
    refine takeS_on (i := 5) 35 (v := ?v34) rfl rfl (by kernel_rfl) (by kernel_rfl) (by kernel_rfl) (fun _ _ _ h => h) (by kernel_rfl) ?hy34 (by exact hS0) ?_
    case hy34 => (intro w' hSw; go_simp; try (with_reducible rfl))
    simp only [Act.put, List.setIfInBounds_toArray, List.set_cons_zero, List.set_cons_succ]
    refine takeS_on (i := 6) 36 (v := ?v35) rfl rfl (by kernel_rfl) (by kernel_rfl) (by kernel_rfl) (fun _ _ _ h => h) (by kernel_rfl) ?hy35 (by exact hS0) ?_
    case hy35 => (intro w' hSw; go_simp; try (with_reducible rfl))
    simp only [Act.put, List.setIfInBounds_toArray, List.set_cons_zero, List.set_cons_succ]
    refine takeS_on (i := 7) 37 (v := ?v36) rfl rfl (by kernel_rfl) (by kernel_rfl) (by kernel_rfl) (fun _ _ _ h => h) (by kernel_rfl) ?hy36 (by exact hS0) ?_
    case hy36 => (intro w' hSw; go_simp; try (with_reducible rfl))
    simp only [Act.put, List.setIfInBounds_toArray, List.set_cons_zero, List.set_cons_succ]
    refine takeS_on (i := 8) 38 (v := ?v37) rfl rfl (by kernel_rfl) (by kernel_rfl) (by kernel_rfl) (fun _ _ _ h => h) (by kernel_rfl) ?hy37 (by exact hS0) ?_
    case hy37 => (intro w' hSw; go_simp; try (with_reducible rfl))
    simp only [Act.put, List.setIfInBounds_toArray, List.set_cons_zero, List.set_cons_succ]
    refine takeS_on (i := 9) 39 (v := ?v38) rfl rfl (by kernel_rfl) (by kernel_rfl) (by kernel_rfl) (fun _ _ _ h => h) (by kernel_rfl) ?hy38 (by exact hS0) ?_
    case hy38 => (intro w' hSw; go_simp; try (with_reducible rfl))
    simp only [Act.put, List.setIfInBounds_toArray, List.set_cons_zero, List.set_cons_succ]
    refine wpAnyH_ready (rs := [10]) (by kernel_rfl) (by simp) (AllReadyH.cons rfl (fun K hK => ?_) AllReadyH.nil)
    go_simp
    refine (HGV.out _ (HH.out.gr (Ch.drew (Gr.refl w)))).mono ?_
    rintro e w3 ⟨rfl, rd3, ch3, gg3⟩
    have hS3 : (fun w' => w'.cell? ⟨g, o, none⟩ = some (.string s) ∧ w'.cell? ⟨R, 2, none⟩ = some (.slice aot nt ct)) w3 := ⟨(Ch.cell ch3 hgl hP).trans c0, (cell_of rd3.blk 2).trans rfl⟩
    have RD3 := hid rd3
    have CH3 := hid (Ch.trans' ((Ch.refl (SR base R M) w).drew) ch3)
    have GG3 := hid (fun (h : E ≠ 0) => Gr.trans (Ch.drew (Gr.refl w)) (gg3 h))
    clear rd3 ch3 gg3
    refine hK.out _ _ (by exact hS3) (fun hSx => ?_)
    clear hSx hK K
    refine takeS_on (i := 11) 6 (v := ?v39) rfl rfl (by kernel_rfl) (by kernel_rfl) (by kernel_rfl) (fun _ _ _ h => h) (by kernel_rfl) ?hy39 (by exact hS3) ?_
    case hy39 => (intro w' hSw; go_simp; try (with_reducible rfl))
    simp only [Act.put, List.setIfInBounds_toArray, List.set_cons_zero, List.set_cons_succ]
    refine wpAnyH_done (by kernel_rfl) ?_ _
    clear hS0 hS3
    have XT := hid (show X.tb = x.tb by rw [HX.out]; unfold giveS; split <;> rfl)
    by_cases he : E = 0
    · have c1w : w3.cell? ⟨R, 2, none⟩ = some (.slice aot nt ct) := (cell_of RD3.out.blk 2).trans rfl
      go_wp2_with (at_builtin; refine wpList_append_ow eT_len rfl (.tmp 48) (.tmp 51) _ 44 32 _ Tryz.underlying24 table_info rfl (by omega) rfl base _ _ rfl (RD3.out.t.alloc _) _ _ [⟨[], .slice none 0 0, false⟩] rfl (Ls.single w3 _ _ _ rfl) (by intro u hu; simp [eT] at hu; rcases hu with rfl | rfl <;> rfl) (nt + 1) (by rw [HNT.out]; rfl) (by omega) (by unfold maxLen; omega) (by have := RD3.out.ltB; simp; omega) _ rfl ?_; intro ao4 cap4 w4 ow4 cw4 bl4; have hbR := (cw4.block R (by simp; have := lt_of_block RD3.out.blk; omega) (fun e => by have := (RD3.out.t.blk e).1; have := RD3.out.ltR; omega)).trans (al_blk RD3.out.blk _); obtain ⟨r0, r1, r2, r3, r4, r5, rz, rl⟩ := Six.of hbR; have y0 := rz 0; have y1 := rz 1; have y2 := rz 2; have y4 := rz 4; have y5 := rz 5; clear rz hbR; have HO4 := hid ow4; have HC4 := hid cw4; have HB4 := hid bl4; clear ow4 cw4 bl4)
      go_ret
      have Q1 := (RD3.out.newT (Ch.alloc (Gr.refl w3) _) HO4.out HC4.out HB4.out).flags false true
      refine ⟨by rw [he]; rfl, fun _ => ?_, ?_, fun h => (h he).elim⟩
      · have e1 : rtS x [s] = { X with tb := X.tb ++ [([], false)], inF := false, inT := true } := by
          unfold rtS
          rw [← HX.out, XT.out, HDF.out]
        rw [e1]
        exact Q1.red
      · exact ((((Ch.trans CH3.out ((Ch.alloc (Gr.refl w3) _)) (fun _ e => e.elim)).trans HC4.out (fun q e => .inl (.inr (.inr (RD3.out.t.blk e).1)))).setCell (p := ⟨R, 2, none⟩) (.inl (.inl rfl)) _).setCell (p := ⟨R, 4, none⟩) (.inl (.inl rfl)) _).setCell (p := ⟨R, 5, none⟩) (.inl (.inl rfl)) _
    · go_wp2
      go_ret
      exact Dn.bad he (GG3.out he)

set_option maxHeartbeats 1000000 in
set_option maxRecDepth 20000 in
theorem readTable_2 (base R M : Nat) (w : World) (x : Rs) (v : Value) (s : ByteArray) (hl : Ls eS (fun g => ¬ SR base R M g) w v [s, sDef]) (hz : Sml [s, sDef]) (hf : Few x) (h : Red base R M w x) :
    Calls Tryz.prog 51 #[.pointer (some ⟨R, 0, none⟩), v] w (Dn base R M w (rtE x [s, sDef]) (rtS x [s, sDef])) := by
  obtain ⟨va, vf, vt, ts, h⟩ := h
  obtain ⟨ao, cap, rfl⟩ := hl.form
  obtain ⟨g, o, cap', hv, hP, hgl, hcap, hc⟩ := hl.get eS_len (i := 0) (a := s) rfl
  injection hv with hv1 hv2 hv3
  subst hv1 hv3
  have c0 := hc 0 _ rfl
  simp only [Nat.zero_mul, Nat.add_zero] at c0
  have c1 := hl.news 1 _ (show ([s, sDef].flatMap eS)[1]? = some (.string { data := #[100, 101, 102, 97, 117, 108, 116] }) from rfl)
  rw [add_none] at c1
  have hss := hz s (by simp)
  have HM := hid (isName_any s)
  clear hc hv2 hl hz
  simp only [List.length_cons, List.length_nil, Nat.zero_add, Nat.reduceAdd] at hcap ⊢
  have hdf : tdf [s, sDef] = true := by unfold tdf; simp
  cases hq : nameOk s with
  | false =>
    have eE : rtE x [s, sDef] = 70 := by unfold rtE; rw [hdf]; simp [hq]
    rw [eE]
    rw [hq] at HM
    clear eE h hf hP hdf
    go_enter Tryz.func51, Tryz.ntmps51
    go_wp2_with (go_at_call 93; refine (HM.out _ (by omega)).mono ?_; rintro e w2 ⟨rfl, hw⟩; have hw := hw.symm; subst hw)
    go_ret
    exact Dn.bad (by omega) (Ch.refl _ _)
  | true =>
    have eE : rtE x [s, sDef] = giveE x (rtN [s, sDef]) := by unfold rtE; rw [hdf]; simp [hq]
    rw [eE]
    rw [hq] at HM
    have hk : Nok (rtN [s, sDef]) := ⟨⟨by show (0 : Int) ≤ 3; omega, by show (3 : Int) ≤ 3; omega⟩, ⟨by show (-1 : Int) ≤ 0; omega, by show (0 : Int) ≤ 4294967296; omega⟩, hss⟩
    obtain ⟨aot, ct, rfl⟩ := h.t.form
    have htl : ts.length = x.tb.length := by rw [← h.tsq, List.length_map]
    have r1 : w.cell? ⟨R, 2, none⟩ = some (.slice aot ts.length ct) := (cell_of h.blk 2).trans rfl
    have HH := hid h
    have hfl := hf.t
    have HGV := hid (fun (W : World) (q : Rd base R M W va vf (.slice aot ts.length ct) ts x) => give_any base R M W _ _ _ ts x (rtN [s, sDef]) (x.tb.length : Nat) hk q)
    unfold Gvn at HGV
    obtain ⟨E, hE⟩ : ∃ E, E = giveE x (rtN [s, sDef]) := ⟨_, rfl⟩
    rw [← hE] at HGV ⊢
    have HE := hid hE
    obtain ⟨X, hX⟩ : ∃ X, X = giveS x (rtN [s, sDef]) (x.tb.length : Nat) := ⟨_, rfl⟩
    rw [← hX] at HGV
    have HX := hid hX
    rw [← htl] at HGV hfl
    obtain ⟨nt, hnt⟩ : ∃ n, n = ts.length := ⟨_, rfl⟩
    rw [← hnt] at HGV r1 HH hfl
    have HNT := hid hnt
    have HDF := hid hdf
    unfold kV rtN at HGV
    simp only [List.headD_cons] at HGV
    clear h hf hE hX hk eE hnt htl hdf
    go_enter Tryz.func51, Tryz.ntmps51
    go_wp2_with (go_at_call 93; refine (HM.out _ (by omega)).mono ?_; rintro e w2 ⟨rfl, hw⟩; have hw := hw.symm; subst hw)
    have hS0 : (fun w' => w'.cell? ⟨g, o, none⟩ = some (.string s) ∧ w'.cell? ⟨R, 2, none⟩ = some (.slice aot nt ct)) w.drew := ⟨c0, r1⟩
    refine wp_region_held_drew (S := fun w' => w'.cell? ⟨g, o, none⟩ = some (.string s) ∧ w'.cell? ⟨R, 2, none⟩ = some (.slice aot nt ct)) (by kernel_rfl) (by exact hS0) (fun hSx => ?_)
    clear hSx
    refine takeS_on (i := 0) 30 (v := ?v40) rfl rfl (by kernel_rfl) (by kernel_rfl) (by kernel_rfl) (fun _ _ _ h => h) (by kernel_rfl) ?hy40 (by exact hS0) ?_
    case hy40 => (intro w' hSw; go_simp; try (with_reducible rfl))
    simp only [Act.put, List.setIfInBounds_toArray, List.set_cons_zero, List.set_cons_succ]
    refine takeS_on (i := 1) 31 (v := ?v41) rfl rfl (by kernel_rfl) (by kernel_rfl) (by kernel_rfl) (fun _ _ _ h => h) (by kernel_rfl) ?hy41 (by exact hS0) ?_
    case hy41 => (intro w' hSw; go_simp; try (with_reducible rfl))
    simp only [Act.put, List.setIfInBounds_toArray, List.set_cons_zero, List.set_cons_succ]
    refine takeS_on (i := 2) 32 (v := ?v42) rfl rfl (by kernel_rfl) (by kernel_rfl) (by kernel_rfl) (fun _ _ _ h => h) (by kernel_rfl) ?hy42 (by exact hS0) ?_
    case hy42 => (intro w' hSw; go_simp; try (with_reducible rfl))
    simp only [Act.put, List.setIfInBounds_toArray, List.set_cons_zero, List.set_cons_succ]
    refine takeS_on (i := 3) 33 (v := ?v43) rfl rfl (by kernel_rfl) (by kernel_rfl) (by kernel_rfl) (fun _ _ _ h => h) (by kernel_rfl) ?hy43 (by exact hS0) ?_
    case hy43 => (intro w' hSw; go_simp; try (with_reducible rfl))
    simp only [Act.put, List.setIfInBounds_toArray, List.set_cons_zero, List.set_cons_succ]
    refine takeS_on (i := 4) 34 (v := ?v44) rfl rfl (by kernel_rfl) (by kernel_rfl) (by kernel_rfl) (fun _ _ _ h => h) (by kernel_rfl) ?hy44 (by exact hS0) ?_
    case hy44 => (intro w' hSw; go_simp; try (with_reducible rfl))
    simp only [Act.put, List.setIfInBounds_toArray, List.set_cons_zero, List.set_cons_succ]
    refine takeS_on (i := 5) 35 (v := ?v45) rfl rfl (by kernel_rfl) (by kernel_rfl) (by kernel_rfl) (fun _ _ _ h => h) (by kernel_rfl) ?hy45 (by exact hS0) ?_
    case hy45 => (intro w' hSw; go_simp; try (with_reducible rfl))
    simp only [Act.put, List.setIfInBounds_toArray, List.set_cons_zero, List.set_cons_succ]
    refine takeS_on (i := 6) 36 (v := ?v46) rfl rfl (by kernel_rfl) (by kernel_rfl) (by kernel_rfl) (fun _ _ _ h => h) (by kernel_rfl) ?hy46 (by exact hS0) ?_
    case hy46 => (intro w' hSw; go_simp; try (with_reducible rfl))
    simp only [Act.put, List.setIfInBounds_toArray, List.set_cons_zero, List.set_cons_succ]
    refine takeS_on (i := 7) 37 (v := ?v47) rfl rfl (by kernel_rfl) (by kernel_rfl) (by kernel_rfl) (fun _ _ _ h => h) (by kernel_rfl) ?hy47 (by exact hS0) ?_
    case hy47 => (intro w' hSw; go_simp; try (with_reducible rfl))
    simp only [Act.put, List.setIfInBounds_toArray, List.set_cons_zero, List.set_cons_succ]
    refine takeS_on (i := 8) 38 (v := ?v48) rfl rfl (by kernel_rfl) (by kernel_rfl) (by kernel_rfl) (fun _ _ _ h => h) (by kernel_rfl) ?hy48 (by exact hS0) ?_
    case hy48 => (intro w' hSw; go_simp; try (with_reducible rfl))
    simp only [Act.put, List.setIfInBounds_toArray, List.set_cons_zero, List.set_cons_succ]
    refine takeS_on (i := 9) 39 (v := ?v49) rfl rfl (by kernel_rfl) (by kernel_rfl) (by kernel_rfl) (fun _ _ _ h => h) (by kernel_rfl) ?hy49 (by exact hS0) ?_
    case hy49 => (intro w' hSw; go_simp; try (with_reducible rfl))
    simp only [Act.put, List.setIfInBounds_toArray, List.set_cons_zero, List.set_cons_succ]
    refine wpAnyH_ready (rs := [10]) (by kernel_rfl) (by simp) (AllReadyH.cons rfl (fun K hK => ?_) AllReadyH.nil)
    go_simp
    refine (HGV.out _ (HH.out.gr (Ch.drew (Gr.refl w)))).mono ?_
    rintro e w3 ⟨rfl, rd3, ch3, gg3⟩
    have hS3 : (fun w' => w'.cell? ⟨g, o, none⟩ = some (.string s) ∧ w'.cell? ⟨R, 2, none⟩ = some (.slice aot nt ct)) w3 := ⟨(Ch.cell ch3 hgl hP).trans c0, (cell_of rd3.blk 2).trans rfl⟩
    have RD3 := hid rd3
    have CH3 := hid (Ch.trans' ((Ch.refl (SR base R M) w).drew) ch3)
    have GG3 := hid (fun (h : E ≠ 0) => Gr.trans (Ch.drew (Gr.refl w)) (gg3 h))
    clear rd3 ch3 gg3
    refine hK.out _ _ (by exact hS3) (fun hSx => ?_)
    clear hSx hK K
    refine takeS_on (i := 11) 6 (v := ?v50) rfl rfl (by kernel_rfl) (by kernel_rfl) (by kernel_rfl) (fun _ _ _ h => h) (by kernel_rfl) ?hy50 (by exact hS3) ?_
    case hy50 => (intro w' hSw; go_simp; try (with_reducible rfl))
    simp only [Act.put, List.setIfInBounds_toArray, List.set_cons_zero, List.set_cons_succ]
    refine wpAnyH_done (by kernel_rfl) ?_ _
    clear hS0 hS3
    have XT := hid (show X.tb = x.tb by rw [HX.out]; unfold giveS; split <;> rfl)
    by_cases he : E = 0
    · have c1w : w3.cell? ⟨R, 2, none⟩ = some (.slice aot nt ct) := (cell_of RD3.out.blk 2).trans rfl
      go_wp2_with (at_builtin; refine wpList_append_ow eT_len rfl (.tmp 48) (.tmp 51) _ 44 32 _ Tryz.underlying24 table_info rfl (by omega) rfl base _ _ rfl (RD3.out.t.alloc _) _ _ [⟨[], .slice none 0 0, true⟩] rfl (Ls.single w3 _ _ _ rfl) (by intro u hu; simp [eT] at hu; rcases hu with rfl | rfl <;> rfl) (nt + 1) (by rw [HNT.out]; rfl) (by omega) (by unfold maxLen; omega) (by have := RD3.out.ltB; simp; omega) _ rfl ?_; intro ao4 cap4 w4 ow4 cw4 bl4; have hbR := (cw4.block R (by simp; have := lt_of_block RD3.out.blk; omega) (fun e => by have := (RD3.out.t.blk e).1; have := RD3.out.ltR; omega)).trans (al_blk RD3.out.blk _); obtain ⟨r0, r1, r2, r3, r4, r5, rz, rl⟩ := Six.of hbR; have y0 := rz 0; have y1 := rz 1; have y2 := rz 2; have y4 := rz 4; have y5 := rz 5; clear rz hbR; have HO4 := hid ow4; have HC4 := hid cw4; have HB4 := hid bl4; clear ow4 cw4 bl4)
      go_ret
      have Q1 := (RD3.out.newT (Ch.alloc (Gr.refl w3) _) HO4.out HC4.out HB4.out).flags false true
      refine ⟨by rw [he]; rfl, fun _ => ?_, ?_, fun h => (h he).elim⟩
      · have e1 : rtS x [s, sDef] = { X with tb := X.tb ++ [([], true)], inF := false, inT := true } := by
          unfold rtS
          rw [← HX.out, XT.out, HDF.out]
        rw [e1]
        exact Q1.red
      · exact ((((Ch.trans CH3.out ((Ch.alloc (Gr.refl w3) _)) (fun _ e => e.elim)).trans HC4.out (fun q e => .inl (.inr (.inr (RD3.out.t.blk e).1)))).setCell (p := ⟨R, 2, none⟩) (.inl (.inl rfl)) _).setCell (p := ⟨R, 4, none⟩) (.inl (.inl rfl)) _).setCell (p := ⟨R, 5, none⟩) (.inl (.inl rfl)) _
    · go_wp2
      go_ret
      exact Dn.bad he (GG3.out he)

theorem readTable_any (base R M : Nat) (w : World) (x : Rs) (v : Value) (ws : List ByteArray) (hl : Ls eS (fun g => ¬ SR base R M g) w v ws) (hz : Sml ws) (hf : Few x) (h : Red base R M w x) :
    Calls Tryz.prog 51 #[.pointer (some ⟨R, 0, none⟩), v] w (Dn base R M w (rtE x ws) (rtS x ws)) := by
  match ws, hl, hz with
  | [s], hl, hz => exact readTable_1 base R M w x v s hl hz hf h
  | [s, d], hl, hz =>
    by_cases e : d = sDef
    · subst e
      exact readTable_2 base R M w x v s hl hz hf h
    · have hdf : tdf [s, d] = false := by unfold tdf; simp [e]
      have eE : rtE x [s, d] = 70 := by unfold rtE; rw [hdf]; simp
      rw [eE]
      obtain ⟨ao, cap, rfl⟩ := hl.form
      obtain ⟨g, o, cap', hv, hP, hgl, hcap, hc⟩ := hl.get eS_len (i := 1) (a := d) rfl
      injection hv with hv1 hv2 hv3
      subst hv1 hv3
      have c0 := hc 0 _ rfl
      simp only [Nat.one_mul, Nat.add_zero] at c0
      have hne : (d.toList == [100, 101, 102, 97, 117, 108, 116]) = false := by
        have e2 : sDef.toList = [100, 101, 102, 97, 117, 108, 116] := by rw [ByteArray.toList_eq]; rfl
        rw [← e2]
        cases hb : (d.toList == sDef.toList) with
        | false => rfl
        | true => exact (e (str_eq hb)).elim
      clear hc hv2 hl hz h hf hdf eE e hP
      simp only [List.length_cons, List.length_nil, Nat.zero_add, Nat.reduceAdd] at hcap ⊢
      go_enter Tryz.func51, Tryz.ntmps51
      go_wp2
      go_ret
      exact Dn.bad (by omega) (Ch.refl _ _)
  | [], hl, hz =>
    have eE : rtE x [] = 70 := by unfold rtE tdf; simp
    rw [eE]
    obtain ⟨ao, cap, rfl⟩ := hl.form
    clear hl hz h hf eE
    simp only [List.length_nil]
    go_enter Tryz.func51, Tryz.ntmps51
    go_wp2
    go_ret
    exact Dn.bad (by omega) (Ch.refl _ _)
  | a :: b :: c :: r, hl, hz =>
    have eE : rtE x (a :: b :: c :: r) = 70 := by unfold rtE tdf; simp
    rw [eE]
    obtain ⟨ao, cap, rfl⟩ := hl.form
    have hn : 3 ≤ (a :: b :: c :: r).length := by simp
    generalize (a :: b :: c :: r).length = n at hn ⊢
    have n1 : ¬ ((n : Nat) : Int) = 1 := by omega
    have n2 : ¬ ((n : Nat) : Int) = 2 := by omega
    clear hl hz h hf eE
    go_enter Tryz.func51, Tryz.ntmps51
    go_wp2
    go_ret
    exact Dn.bad (by omega) (Ch.refl _ _)
end Go.Proofs.YtbehlhnnfdkmaaaGreatDoor.Lt
