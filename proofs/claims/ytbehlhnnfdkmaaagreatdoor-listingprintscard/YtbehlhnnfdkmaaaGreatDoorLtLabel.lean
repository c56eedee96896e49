/-
  What the program's readLabel answers and leaves. Conditions: words are no longer than a text may be and lie apart from the reader; as many lines as a text may have.
-/
import Derived.Test.YtbehlhnnfdkmaaaGreatDoorLtTable
import Derived.Test.YtbehlhnnfdkmaaaGreatDoorLtCut
namespace Go.Proofs.YtbehlhnnfdkmaaaGreatDoor.Lt
open Go.RowKit Wd

/-- a line's value -/
def lV (l : Ln) : Value := .agg #[.int .i64 (l.num : Nat), l.wv, .int .i64 l.kind, .int .i64 (l.op : Nat), .bool l.leads]
/-- a label's name -/
def lbl (s : ByteArray) : ByteArray := s.extract 0 (s.size - 1)
theorem lbl_le (s : ByteArray) : (lbl s).size ≤ s.size := by unfold lbl; rw [ByteArray.size_extract]; omega
def rlN (x : Rs) (s : ByteArray) : Nm := insN x 1 (lbl s)
def rlE (x : Rs) (ws : List ByteArray) (ld : Bool) : Int := if decide (ws.length = 1) && nameOk (lbl (ws.headD ⟨#[]⟩)) then (if x.inF && ld then giveE x (rlN x (ws.headD ⟨#[]⟩)) else 74) else 70
def rlS (x : Rs) (ws : List ByteArray) : Rs := giveS x (rlN x (ws.headD ⟨#[]⟩)) (x.ask.length : Nat)

set_option maxHeartbeats 1000000 in
set_option maxRecDepth 20000 in
theorem readLabel_any (base R M : Nat) (w : World) (x : Rs) (l : Ln) (s : ByteArray) (wt : List ByteArray) (hws : l.ws = s :: wt) (hs1 : 1 ≤ s.size) (hl : Ls eS (fun g => ¬ SR base R M g) w l.wv l.ws) (hz : Sml l.ws) (hf : Few x) (h : Red base R M w x) :
    Calls Tryz.prog 52 #[.pointer (some ⟨R, 0, none⟩), lV l] w (Dn base R M w (rlE x l.ws l.leads) (rlS x l.ws)) := by
  obtain ⟨va, vf, vt, ts, h⟩ := h
  obtain ⟨num, ws, wv, kind, op, leads⟩ := l
  simp only at hws hl hz ⊢
  subst hws
  unfold lV
  simp only
  obtain ⟨g, o, cap, rfl, hP, hgl, hcap, hc⟩ := hl.get eS_len (i := 0) (a := s) rfl
  have c0 := hc 0 _ rfl
  simp only [Nat.zero_mul, Nat.add_zero] at c0
  have hss := hz s (by simp)
  have hlb := lbl_le s
  have HM := hid (fun (W : World) => isName_any (lbl s) W (by omega))
  clear hc hl hz
  have hbR := h.blk
  obtain ⟨p0, p1, p2, p3, p4, p5, -, pl⟩ := Six.of hbR
  clear hbR
  obtain ⟨aoa, ca, rfl⟩ := h.a.form
  have hal := hf.a
  have hfl := hf.f
  have HX := hid h
  have Hf := hid hf
  obtain ⟨iF, hiF⟩ : ∃ b, b = x.inF := ⟨_, rfl⟩
  rw [← hiF] at p4
  have HiF := hid hiF
  obtain ⟨n, hn⟩ : ∃ n, n = (s :: wt).length := ⟨_, rfl⟩
  have hn1 : 1 ≤ n := by rw [hn]; simp
  rw [← hn] at hcap ⊢
  have HN := hid hn
  have hlt0 : w.heap.size < w.heap.size + 1 := by omega
  have gne : ¬ g = w.heap.size := by omega
  have Rne : ¬ R = w.heap.size := by omega
  have ex : s.extract 0 (s.size - 1) = lbl s := rfl
  obtain ⟨L, hL⟩ : ∃ L, L = lbl s := ⟨_, rfl⟩
  rw [← hL] at HM ex
  have HL := hid hL
  have hsz : ((s.size : Nat) : Int) - 1 = ((s.size - 1 : Nat) : Int) := by omega
  clear hL h hf hiF hn hlb
  have sz0 : (0 : Int) ≤ ((s.size - 1 : Nat) : Int) := by omega
  have sz1 : ((s.size - 1 : Nat) : Int) ≤ (s.size : Int) := by omega
  by_cases hn2 : n = 1
  · have hn3 : (s :: wt).length = 1 := by rw [← HN.out]; exact hn2
    have hwt : wt = [] := by simpa using hn3
    subst hwt
    subst hn2
    cases hq : nameOk L with
    | false =>
      have eE : rlE x [s] leads = 70 := by unfold rlE; simp [← HL.out, hq]
      rw [eE]
      rw [hq] at HM
      clear eE
      go_enter Tryz.func52, Tryz.ntmps52
      go_wp2_with fail
      go_quiet (fail)
      go_wp2_with (go_at_call 93; refine (HM.out _).mono ?_; rintro e w2 ⟨rfl, hw⟩; have hw := hw.symm; subst hw)
      go_ret
      exact Dn.bad (by omega) (Ch.any (((Gr.refl w).alloc _ _).drewN _))
    | true =>
      rw [hq] at HM
      have eE : rlE x [s] leads = (if iF && leads then giveE x (rlN x s) else 74) := by unfold rlE; simp [← HL.out, hq, HiF.out]
      rw [eE]
      clear eE
      cases iF with
      | false =>
        simp only [Bool.false_and, Bool.false_eq_true, if_false]
        go_enter Tryz.func52, Tryz.ntmps52
        go_wp2_with fail
        go_quiet (fail)
        go_wp2_with (go_at_call 93; refine (HM.out _).mono ?_; rintro e w2 ⟨rfl, hw⟩; have hw := hw.symm; subst hw)
        go_ret
        exact Dn.bad (by omega) (Ch.any (((Gr.refl w).alloc _ _).drewN _))
      | true =>
        cases leads with
        | false =>
          simp only [Bool.and_false, Bool.false_eq_true, if_false]
          go_enter Tryz.func52, Tryz.ntmps52
          go_wp2_with fail
          go_quiet (fail)
          go_wp2_with (go_at_call 93; refine (HM.out _).mono ?_; rintro e w2 ⟨rfl, hw⟩; have hw := hw.symm; subst hw)
          go_ret
          exact Dn.bad (by omega) (Ch.any (((Gr.refl w).alloc _ _).drewN _))
        | true =>
          simp only [Bool.and_self, if_true]
          have hk : Nok (rlN x s) := ⟨⟨by show (0 : Int) ≤ 1; omega, by show (1 : Int) ≤ 3; omega⟩, ⟨by show (-1 : Int) ≤ (if (1 : Int) = 1 then (x.fn.length : Int) - 1 else 0); rw [if_pos rfl]; omega, by show (if (1 : Int) = 1 then (x.fn.length : Int) - 1 else 0) ≤ (4294967296 : Int); rw [if_pos rfl]; omega⟩, by show (lbl s).size ≤ _; have := lbl_le s; omega⟩
          have HIN := hid (fun (W : World) (q : Rd base R M W (.slice aoa x.ask.length ca) vf vt ts x) => inside_any base R M W _ _ _ ts x 1 L Hf.out.f q)
          have HGI := hid (fun (W : World) (q : Rd base R M W (.slice aoa x.ask.length ca) vf vt ts x) => give_any base R M W _ _ _ ts x (rlN x s) (x.ask.length : Nat) hk q)
          unfold Gvn at HGI
          have hnm : insN x 1 L = rlN x s := by unfold rlN; rw [← HL.out]
          rw [hnm] at HIN
          obtain ⟨E, hE⟩ : ∃ E, E = giveE x (rlN x s) := ⟨_, rfl⟩
          rw [← hE] at HGI ⊢
          have HE := hid hE
          have HXS := hid (show rlS x [s] = giveS x (rlN x s) (x.ask.length : Nat) from rfl)
          obtain ⟨NX, hNX⟩ : ∃ NX, NX = rlN x s := ⟨_, rfl⟩
          rw [← hNX] at HIN HGI HXS
          obtain ⟨na, hna⟩ : ∃ n, n = x.ask.length := ⟨_, rfl⟩
          rw [← hna] at HIN HGI HXS HX p0 hal
          unfold kV at HIN HGI
          clear hE hnm hk hna hNX HL
          go_enter Tryz.func52, Tryz.ntmps52
          go_wp2_with fail
          go_quiet (fail)
          go_wp2_with (go_at_call 93; refine (HM.out _).mono ?_; rintro e w2 ⟨rfl, hw⟩; have hw := hw.symm; subst hw)
          have HGV := hid (show Gr w ((w.alloc (.cells #[.int .i64 (num : Nat), .slice (some ⟨g, o, none⟩) 1 cap, .int .i64 kind, .int .i64 (op : Nat), .bool true] 56)).drewN nq) from ((Gr.refl w).alloc _ _).drewN _)
          generalize (w.alloc (.cells #[.int .i64 (num : Nat), .slice (some ⟨g, o, none⟩) 1 cap, .int .i64 kind, .int .i64 (op : Nat), .bool true] 56)).drewN nq = V at HGV ⊢
          have HV := hid (HX.out.gr HGV.out)
          clear c0 p0 p1 p2 p3 p4 p5 pl hgl gne Rne hlt0
          have hS0 : (fun w' => w'.cell? ⟨R, 0, none⟩ = some (.slice aoa na ca)) V.drew := (cell_of HV.out.blk 0).trans rfl
          refine wp_region_held_drew (S := fun w' => w'.cell? ⟨R, 0, none⟩ = some (.slice aoa na ca)) (by kernel_rfl) (by exact hS0) (fun hSx => ?_)
          clear hSx
          refine takeS_on (i := 0) 36 (v := ?v18) rfl rfl (by kernel_rfl) (by kernel_rfl) (by kernel_rfl) (fun _ _ _ h => h) (by kernel_rfl) ?hy18 (by exact hS0) ?_
          case hy18 => (intro w' hSw; go_simp; try (with_reducible rfl))
          simp only [Act.put, List.setIfInBounds_toArray, List.set_cons_zero, List.set_cons_succ]
          refine takeS_on (i := 1) 37 (v := ?v19) rfl rfl (by kernel_rfl) (by kernel_rfl) (by kernel_rfl) (fun _ _ _ h => h) (by kernel_rfl) ?hy19 (by exact hS0) ?_
          case hy19 => (intro w' hSw; go_simp; try (with_reducible rfl))
          simp only [Act.put, List.setIfInBounds_toArray, List.set_cons_zero, List.set_cons_succ]
          refine takeS_on (i := 2) 38 (v := ?v20) rfl rfl (by kernel_rfl) (by kernel_rfl) (by kernel_rfl) (fun _ _ _ h => h) (by kernel_rfl) ?hy20 (by exact hS0) ?_
          case hy20 => (intro w' hSw; go_simp; try (with_reducible rfl))
          simp only [Act.put, List.setIfInBounds_toArray, List.set_cons_zero, List.set_cons_succ]
          refine takeS_on (i := 4) 40 (v := ?v21) rfl rfl (by kernel_rfl) (by kernel_rfl) (by kernel_rfl) (fun _ _ _ h => h) (by kernel_rfl) ?hy21 (by exact hS0) ?_
          case hy21 => (intro w' hSw; go_simp; try (with_reducible rfl))
          simp only [Act.put, List.setIfInBounds_toArray, List.set_cons_zero, List.set_cons_succ]
          refine takeS_on (i := 5) 41 (v := ?v22) rfl rfl (by kernel_rfl) (by kernel_rfl) (by kernel_rfl) (fun _ _ _ h => h) (by kernel_rfl) ?hy22 (by exact hS0) ?_
          case hy22 => (intro w' hSw; go_simp; try (with_reducible rfl))
          simp only [Act.put, List.setIfInBounds_toArray, List.set_cons_zero, List.set_cons_succ]
          refine takeS_on (i := 6) 42 (v := ?v23) rfl rfl (by kernel_rfl) (by kernel_rfl) (by kernel_rfl) (fun _ _ _ h => h) (by kernel_rfl) ?hy23 (by exact hS0) ?_
          case hy23 => (intro w' hSw; go_simp; try (with_reducible rfl))
          simp only [Act.put, List.setIfInBounds_toArray, List.set_cons_zero, List.set_cons_succ]
          refine takeS_on (i := 7) 43 (v := ?v24) rfl rfl (by kernel_rfl) (by kernel_rfl) (by kernel_rfl) (fun _ _ _ h => h) (by kernel_rfl) ?hy24 (by exact hS0) ?_
          case hy24 => (intro w' hSw; go_simp; try (with_reducible rfl))
          simp only [Act.put, List.setIfInBounds_toArray, List.set_cons_zero, List.set_cons_succ]
          refine takeS_on (i := 8) 44 (v := ?v25) rfl rfl (by kernel_rfl) (by kernel_rfl) (by kernel_rfl) (fun _ _ _ h => h) (by kernel_rfl) ?hy25 (by exact hS0) ?_
          case hy25 => (intro w' hSw; go_simp; try (with_reducible rfl))
          simp only [Act.put, List.setIfInBounds_toArray, List.set_cons_zero, List.set_cons_succ]
          refine wpAnyH_ready (rs := [3]) (by kernel_rfl) (by simp) (AllReadyH.cons rfl (fun K hK => ?_) AllReadyH.nil)
          go_simp
          refine (HIN.out _ (HV.out.gr (Ch.drew (Gr.refl V)))).mono ?_
          rintro e w3 ⟨rfl, gr3⟩
          have rd3 := (HV.out.gr (Ch.drew (Gr.refl V))).gr gr3
          have hS3 : (fun w' => w'.cell? ⟨R, 0, none⟩ = some (.slice aoa na ca)) w3 := (cell_of rd3.blk 0).trans rfl
          have RD3 := hid rd3
          have GR3 := hid (Gr.trans HGV.out (Gr.trans (Ch.drew (Gr.refl V)) gr3))
          clear rd3 gr3
          refine hK.out _ _ (by exact hS3) (fun hSx => ?_)
          clear hSx hK K
          refine wpAnyH_ready (rs := [9]) (by kernel_rfl) (by simp) (AllReadyH.cons rfl (fun K hK => ?_) AllReadyH.nil)
          go_simp
          refine (HGI.out _ RD3.out).mono ?_
          rintro e w4 ⟨rfl, rd4, ch4, gg4⟩
          have hS4 : (fun w' => w'.cell? ⟨R, 0, none⟩ = some (.slice aoa na ca)) w4 := (cell_of rd4.blk 0).trans rfl
          have RD4 := hid rd4
          have CH4 := hid (Ch.trans (GR3.out.any (S := SR base R M)) ch4 (fun _ e => .inl e))
          have GG4 := hid (fun (h : E ≠ 0) => Gr.trans GR3.out (gg4 h))
          clear rd4 ch4 gg4
          refine hK.out _ _ (by exact hS4) (fun hSx => ?_)
          clear hSx hK K
          refine takeS_on (i := 10) 4 (v := ?v26) rfl rfl (by kernel_rfl) (by kernel_rfl) (by kernel_rfl) (fun _ _ _ h => h) (by kernel_rfl) ?hy26 (by exact hS4) ?_
          case hy26 => (intro w' hSw; go_simp; try (with_reducible rfl))
          simp only [Act.put, List.setIfInBounds_toArray, List.set_cons_zero, List.set_cons_succ]
          refine wpAnyH_done (by kernel_rfl) ?_ _
          clear hS0 hS3 hS4
          go_wp2
          go_ret
          refine ⟨rfl, fun _ => ?_, CH4.out, GG4.out⟩
          rw [HXS.out]
          exact RD4.out.red
  · have eE : rlE x (s :: wt) leads = 70 := by unfold rlE; rw [← HN.out]; simp [hn2]
    rw [eE]
    have hn3 : ¬ ((n : Nat) : Int) = 1 := by omega
    clear eE hn2
    go_enter Tryz.func52, Tryz.ntmps52
    go_wp2_with fail
    go_quiet (fail)
    go_wp2
    go_ret
    exact Dn.bad (by omega) (Ch.any (((Gr.refl w).alloc _ _).drewN _))
end Go.Proofs.YtbehlhnnfdkmaaaGreatDoor.Lt
