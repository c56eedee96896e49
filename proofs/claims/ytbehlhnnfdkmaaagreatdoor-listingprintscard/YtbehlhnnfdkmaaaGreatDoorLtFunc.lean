/-
  What the program's readFunc and readTable answer and leave. Conditions: words are no longer than a text may be and lie apart from the reader; as many lines as a text may have.
-/
import Derived.Test.YtbehlhnnfdkmaaaGreatDoorLtRd2
namespace Go.Proofs.YtbehlhnnfdkmaaaGreatDoor.Lt
open Go.RowKit Wd

/-- what one of the reader's calls answers and leaves -/
def Dn (base R M : Nat) (w : World) (E : Int) (X : Rs) (e : Ending) (w' : World) : Prop := e = .returned (.int .i64 E) ∧ (E = 0 → Red base R M w' X) ∧ Ch (SR base R M) w w' ∧ (E ≠ 0 → Gr w w')
theorem Dn.bad {base R M : Nat} {w w' : World} {E : Int} {X : Rs} (h : E ≠ 0) (g : Gr w w') : Dn base R M w E X (.returned (.int .i64 E)) w' := ⟨rfl, fun e => (h e).elim, Ch.any g, fun _ => g⟩
/-- as many as there may be -/
structure Few (x : Rs) : Prop where
  a : x.ask.length ≤ 4294967296
  f : x.fn.length ≤ 4294967296
  t : x.tb.length ≤ 4294967296
theorem func_info : (Tryz.prog.info? 41).map (fun i => (i.zero, i.size, i.bytes)) = some (some (.agg #[.int .i64 0, .int .i64 0]), 2, 16) := by kernel_rfl
theorem table_info : (Tryz.prog.info? 44).map (fun i => (i.zero, i.size, i.bytes)) = some (some (.agg #[.slice none 0 0, .bool false]), 2, 32) := by kernel_rfl
theorem hd_len {ws : List ByteArray} (h : ws.length = 1) : ∃ s, ws = [s] := by
  match ws, h with
  | [s], _ => exact ⟨s, rfl⟩

def rfN (ws : List ByteArray) : Nm := (2, 0, ws.headD ⟨#[]⟩)
def rfE (x : Rs) (ws : List ByteArray) : Int := if decide (ws.length = 1) && nameOk (ws.headD ⟨#[]⟩) then giveE x (rfN ws) else 70
def rfS (x : Rs) (ws : List ByteArray) : Rs := { giveS x (rfN ws) (x.fn.length : Nat) with fn := x.fn ++ [(x.ask.length, x.ask.length)], inF := true, inT := false }
theorem giveS_no {x : Rs} {k : Nm} {v : Int} (h : giveE x k = 0) : giveS x k v = { x with nms := x.nms ++ [(k, v, x.nms.length)] } ∧ look x.nms k = none := by
  unfold giveE at h
  unfold giveS
  cases hl : look x.nms k with
  | none => exact ⟨rfl, rfl⟩
  | some y => rw [hl] at h; simp at h

set_option maxHeartbeats 1000000 in
set_option maxRecDepth 20000 in
theorem readFunc_any (base R M : Nat) (w : World) (x : Rs) (v : Value) (ws : List ByteArray) (hl : Ls eS (fun g => ¬ SR base R M g) w v ws) (hz : Sml ws) (hf : Few x) (h : Red base R M w x) :
    Calls Tryz.prog 50 #[.pointer (some ⟨R, 0, none⟩), v] w (Dn base R M w (rfE x ws) (rfS x ws)) := by
  obtain ⟨va, vf, vt, ts, h⟩ := h
  obtain ⟨ao, cap, rfl⟩ := hl.form
  by_cases hn : ws.length = 1
  · obtain ⟨s, rfl⟩ := hd_len hn
    clear hn
    obtain ⟨g, o, cap', hv, hP, hgl, hcap, hc⟩ := hl.get eS_len (i := 0) (a := s) rfl
    injection hv with hv1 hv2 hv3
    subst hv1 hv3
    have c0 := hc 0 _ rfl
    simp only [Nat.zero_mul, Nat.add_zero] at c0
    have hss := hz s (by simp)
    have HM := hid (isName_any s)
    clear hc hv2 hl hz
    simp only [List.length_cons, List.length_nil, Nat.zero_add] at hcap ⊢
    cases hq : nameOk s with
    | false =>
      have eE : rfE x [s] = 70 := by unfold rfE; simp [hq]
      rw [eE]
      rw [hq] at HM
      clear eE h hf hP
      go_enter Tryz.func50, Tryz.ntmps50
      go_wp2_with (go_at_call 93; refine (HM.out _ (by omega)).mono ?_; rintro e w2 ⟨rfl, hw⟩; have hw := hw.symm; subst hw)
      go_ret
      exact Dn.bad (by omega) (Ch.refl _ _)
    | true =>
      have eE : rfE x [s] = giveE x (rfN [s]) := by unfold rfE; simp [hq]
      rw [eE]
      rw [hq] at HM
      have hk : Nok (rfN [s]) := ⟨⟨by show (0 : Int) ≤ 2; omega, by show (2 : Int) ≤ 3; omega⟩, ⟨by show (-1 : Int) ≤ 0; omega, by show (0 : Int) ≤ 4294967296; omega⟩, hss⟩
      obtain ⟨aof, cf, rfl⟩ := h.f.form
      obtain ⟨aoa, ca, rfl⟩ := h.a.form
      have r1 : w.cell? ⟨R, 1, none⟩ = some (.slice aof x.fn.length cf) := (cell_of h.blk 1).trans rfl
      have HH := hid h
      have hfl := hf.f
      have hal := hf.a
      have HGV := hid (fun (W : World) (q : Rd base R M W (.slice aoa x.ask.length ca) (.slice aof x.fn.length cf) vt ts x) => give_any base R M W _ _ _ ts x (rfN [s]) (x.fn.length : Nat) hk q)
      unfold Gvn at HGV
      obtain ⟨E, hE⟩ : ∃ E, E = giveE x (rfN [s]) := ⟨_, rfl⟩
      rw [← hE] at HGV ⊢
      have HE := hid hE
      obtain ⟨X, hX⟩ : ∃ X, X = giveS x (rfN [s]) (x.fn.length : Nat) := ⟨_, rfl⟩
      rw [← hX] at HGV
      have HX := hid hX
      obtain ⟨nf, hnf⟩ : ∃ n, n = x.fn.length := ⟨_, rfl⟩
      obtain ⟨na, hna⟩ : ∃ n, n = x.ask.length := ⟨_, rfl⟩
      rw [← hnf] at HGV r1 HH hfl
      rw [← hna] at HGV HH hal
      have HNF := hid hnf
      have HNA := hid hna
      unfold kV rfN at HGV
      clear h hf hE hX hk eE hnf hna
      go_enter Tryz.func50, Tryz.ntmps50
      go_wp2_with (go_at_call 93; refine (HM.out _ (by omega)).mono ?_; rintro e w2 ⟨rfl, hw⟩; have hw := hw.symm; subst hw)
      have hS0 : (fun w' => w'.cell? ⟨g, o, none⟩ = some (.string s) ∧ w'.cell? ⟨R, 1, none⟩ = some (.slice aof nf cf)) w.drew := ⟨c0, r1⟩
      refine wp_region_held_drew (S := fun w' => w'.cell? ⟨g, o, none⟩ = some (.string s) ∧ w'.cell? ⟨R, 1, none⟩ = some (.slice aof nf cf)) (by kernel_rfl) (by exact hS0) (fun hSx => ?_)
      clear hSx
      refine takeS_on (i := 0) 17 (v := ?v18) rfl rfl (by kernel_rfl) (by kernel_rfl) (by kernel_rfl) (fun _ _ _ h => h) (by kernel_rfl) ?hy18 (by exact hS0) ?_
      case hy18 => (intro w' hSw; go_simp; try (with_reducible rfl))
      simp only [Act.put, List.setIfInBounds_toArray, List.set_cons_zero, List.set_cons_succ]
      refine takeS_on (i := 1) 18 (v := ?v19) rfl rfl (by kernel_rfl) (by kernel_rfl) (by kernel_rfl) (fun _ _ _ h => h) (by kernel_rfl) ?hy19 (by exact hS0) ?_
      case hy19 => (intro w' hSw; go_simp; try (with_reducible rfl))
      simp only [Act.put, List.setIfInBounds_toArray, List.set_cons_zero, List.set_cons_succ]
      refine takeS_on (i := 2) 19 (v := ?v20) rfl rfl (by kernel_rfl) (by kernel_rfl) (by kernel_rfl) (fun _ _ _ h => h) (by kernel_rfl) ?hy20 (by exact hS0) ?_
      case hy20 => (intro w' hSw; go_simp; try (with_reducible rfl))
      simp only [Act.put, List.setIfInBounds_toArray, List.set_cons_zero, List.set_cons_succ]
      refine takeS_on (i := 3) 20 (v := ?v21) rfl rfl (by kernel_rfl) (by kernel_rfl) (by kernel_rfl) (fun _ _ _ h => h) (by kernel_rfl) ?hy21 (by exact hS0) ?_
      case hy21 => (intro w' hSw; go_simp; try (with_reducible rfl))
      simp only [Act.put, List.setIfInBounds_toArray, List.set_cons_zero, List.set_cons_succ]
      refine takeS_on (i := 4) 21 (v := ?v22) rfl rfl (by kernel_rfl) (by kernel_rfl) (by kernel_rfl) (fun _ _ _ h => h) (by kernel_rfl) ?hy22 (by exact hS0) ?_
      case hy22 => (intro w' hSw; go_simp; try (with_reducible rfl))
      simp only [Act.put, List.setIfInBounds_toArray, List.set_cons_zero, List.set_cons_succ]
      refine takeS_on (i := 5) 22 (v := ?v23) rfl rfl (by kernel_rfl) (by kernel_rfl) (by kernel_rfl) (fun _ _ _ h => h) (by kernel_rfl) ?hy23 (by exact hS0) ?_
      case hy23 => (intro w' hSw; go_simp; try (with_reducible rfl))
      simp only [Act.put, List.setIfInBounds_toArray, List.set_cons_zero, List.set_cons_succ]
      refine takeS_on (i := 6) 23 (v := ?v24) rfl rfl (by kernel_rfl) (by kernel_rfl) (by kernel_rfl) (fun _ _ _ h => h) (by kernel_rfl) ?hy24 (by exact hS0) ?_
      case hy24 => (intro w' hSw; go_simp; try (with_reducible rfl))
      simp only [Act.put, List.setIfInBounds_toArray, List.set_cons_zero, List.set_cons_succ]
      refine takeS_on (i := 7) 24 (v := ?v25) rfl rfl (by kernel_rfl) (by kernel_rfl) (by kernel_rfl) (fun _ _ _ h => h) (by kernel_rfl) ?hy25 (by exact hS0) ?_
      case hy25 => (intro w' hSw; go_simp; try (with_reducible rfl))
      simp only [Act.put, List.setIfInBounds_toArray, List.set_cons_zero, List.set_cons_succ]
      refine takeS_on (i := 8) 25 (v := ?v26) rfl rfl (by kernel_rfl) (by kernel_rfl) (by kernel_rfl) (fun _ _ _ h => h) (by kernel_rfl) ?hy26 (by exact hS0) ?_
      case hy26 => (intro w' hSw; go_simp; try (with_reducible rfl))
      simp only [Act.put, List.setIfInBounds_toArray, List.set_cons_zero, List.set_cons_succ]
      refine takeS_on (i := 9) 26 (v := ?v27) rfl rfl (by kernel_rfl) (by kernel_rfl) (by kernel_rfl) (fun _ _ _ h => h) (by kernel_rfl) ?hy27 (by exact hS0) ?_
      case hy27 => (intro w' hSw; go_simp; try (with_reducible rfl))
      simp only [Act.put, List.setIfInBounds_toArray, List.set_cons_zero, List.set_cons_succ]
      refine wpAnyH_ready (rs := [10]) (by kernel_rfl) (by simp) (AllReadyH.cons rfl (fun K hK => ?_) AllReadyH.nil)
      go_simp
      refine (HGV.out _ (HH.out.gr (Ch.drew (Gr.refl w)))).mono ?_
      rintro e w3 ⟨rfl, rd3, ch3, gg3⟩
      have hS3 : (fun w' => w'.cell? ⟨g, o, none⟩ = some (.string s) ∧ w'.cell? ⟨R, 1, none⟩ = some (.slice aof nf cf)) w3 := ⟨(Ch.cell ch3 hgl hP).trans c0, (cell_of rd3.blk 1).trans rfl⟩
      have RD3 := hid rd3
      have CH3 := hid (Ch.trans' ((Ch.refl (SR base R M) w).drew) ch3)
      have GG3 := hid (fun (h : E ≠ 0) => Gr.trans (Ch.drew (Gr.refl w)) (gg3 h))
      clear rd3 ch3 gg3
      refine hK.out _ _ (by exact hS3) (fun hSx => ?_)
      clear hSx hK K
      refine takeS_on (i := 11) 5 (v := ?v28) rfl rfl (by kernel_rfl) (by kernel_rfl) (by kernel_rfl) (fun _ _ _ h => h) (by kernel_rfl) ?hy28 (by exact hS3) ?_
      case hy28 => (intro w' hSw; go_simp; try (with_reducible rfl))
      simp only [Act.put, List.setIfInBounds_toArray, List.set_cons_zero, List.set_cons_succ]
      refine wpAnyH_done (by kernel_rfl) ?_ _
      clear hS0 hS3
      have XF := hid (show X.fn = x.fn by rw [HX.out]; unfold giveS; split <;> rfl)
      have XA := hid (show X.ask = x.ask by rw [HX.out]; unfold giveS; split <;> rfl)
      by_cases he : E = 0
      · have hbR := RD3.out.blk
        obtain ⟨p0, -, -, -, -, -, -, pl⟩ := Six.of hbR
        clear hbR
        have c1w : w3.cell? ⟨R, 1, none⟩ = some (.slice aof nf cf) := (cell_of RD3.out.blk 1).trans rfl
        go_wp2_with (at_builtin; refine wpList_append_ow eF_len rfl (.tmp 40) (.tmp 44) _ 41 16 _ Tryz.underlying23 func_info rfl (by omega) rfl base _ _ rfl (RD3.out.f.alloc _) _ _ [(na, na)] rfl (Ls.single w3 _ _ _ rfl) (by intro u hu; simp [eF] at hu; rw [hu]; rfl) (nf + 1) (by rw [XF.out, HNF.out]; rfl) (by omega) (by unfold maxLen; omega) (by have := RD3.out.ltB; simp; omega) _ rfl ?_; intro ao4 cap4 w4 ow4 cw4 bl4; have hbR := (cw4.block R (by simp; have := lt_of_block RD3.out.blk; omega) (fun e => by have := (RD3.out.f.blk e).1; have := RD3.out.ltR; omega)).trans (al_blk RD3.out.blk _); obtain ⟨r0, r1, r2, r3, r4, r5, rz, rl⟩ := Six.of hbR; have y0 := rz 0; have y1 := rz 1; have y2 := rz 2; have y4 := rz 4; have y5 := rz 5; clear rz hbR; have HO4 := hid ow4; have HC4 := hid cw4; have HB4 := hid bl4; clear ow4 cw4 bl4)
        go_ret
        have Q1 := (RD3.out.newF (Ch.alloc (Gr.refl w3) _) HO4.out HC4.out HB4.out).flags true false
        refine ⟨by rw [he]; rfl, fun _ => ?_, ?_, fun h => (h he).elim⟩
        · have e1 : rfS x [s] = { X with fn := X.fn ++ [(na, na)], inF := true, inT := false } := by
            unfold rfS
            rw [← HX.out, XF.out, HNA.out]
          rw [e1]
          exact Q1.red
        · exact ((((Ch.trans CH3.out ((Ch.alloc (Gr.refl w3) _)) (fun _ e => e.elim)).trans HC4.out (fun q e => .inl (.inr (.inr (RD3.out.f.blk e).1)))).setCell (p := ⟨R, 1, none⟩) (.inl (.inl rfl)) _).setCell (p := ⟨R, 4, none⟩) (.inl (.inl rfl)) _).setCell (p := ⟨R, 5, none⟩) (.inl (.inl rfl)) _
      · go_wp2
        go_ret
        exact Dn.bad he (GG3.out he)
  · have eE : rfE x ws = 70 := by unfold rfE; simp [hn]
    rw [eE]
    generalize ws.length = n at hn ⊢
    have hn' : ¬ ((n : Nat) : Int) = 1 := by omega
    clear h hf eE hl hz hn
    go_enter Tryz.func50, Tryz.ntmps50
    go_wp2
    go_ret
    exact Dn.bad (by omega) (Ch.refl _ _)
end Go.Proofs.YtbehlhnnfdkmaaaGreatDoor.Lt
