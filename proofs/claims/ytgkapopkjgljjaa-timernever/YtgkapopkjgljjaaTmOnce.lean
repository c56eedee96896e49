/-
  What TimerOnce of the statements answers: true, of any calls and any times. Condition: numbers are numbers of their kinds.
-/
import Derived.Test.YtgkapopkjgljjaaTmMade
namespace Go.Proofs.Ytgkapopkjgljjaa.Lt
open Go.RowKit Wd
attribute [local go_sem ↓] Go.wp_at_zero Go.wp_at_succ
set_option maxRecDepth 20000

def eJ (x : Int) : List Value := [.int .i64 x]
theorem eJ_len (x : Int) : (eJ x).length = 1 := rfl
theorem eJ_one (xs : List Int) : ∀ u ∈ xs.flatMap eJ, u.oneCell' = true := by
  intro u hu
  rw [List.mem_flatMap] at hu
  obtain ⟨x, _, hx⟩ := hu
  simp only [eJ, List.mem_cons, List.not_mem_nil, or_false] at hx
  rw [hx]
  rfl
def eW (x : Int) : List Value := [.int .u64 x]
theorem eW_len (x : Int) : (eW x).length = 1 := rfl
theorem j_info : (Try.prog.info? 2).map (fun i => (i.zero, i.size, i.bytes)) = some (some (.int .i64 0), 1, 8) := by kernel_rfl
/-- whether one is told once -/
def once (t : Tk) : Bool := !(t.kind == 3)
/-- their names -/
def pids (D : List Tk) : List Int := (D.filter once).map (·.id)
theorem pids_snoc {D : List Tk} {k : Nat} {t : Tk} (h : D[k]? = some t) : pids (D.take (k + 1)) = if once t then pids (D.take k) ++ [t.id] else pids (D.take k) := by
  unfold pids
  rw [take_succ h, List.filter_append, List.map_append]
  by_cases e : once t = true
  · rw [if_pos e, List.filter_cons_of_pos e]
    rfl
  · rw [if_neg e, List.filter_cons_of_neg e]
    simp
theorem fold_length {now : Int} : ∀ (D R : List Tk), (D.foldl (onL now) R).length + (pids D).length = R.length + D.length
  | [], _ => rfl
  | t :: D, R => by
    have h := fold_length (now := now) D (onL now R t)
    by_cases e : (t.kind == 3) = true
    · have e1 : once t = false := by simp [once, e]
      have e2 : pids (t :: D) = pids D := by unfold pids; rw [List.filter_cons_of_neg (by rw [e1]; exact Bool.false_ne_true)]
      have e3 : (onL now R t).length = R.length + 1 := by unfold onL; rw [if_pos e, (putL_perm _ _).length_eq]; rfl
      rw [e2]
      simp only [List.foldl_cons, List.length_cons]
      omega
    · have e1 : once t = true := by simp [once, e]
      have e2 : (pids (t :: D)).length = (pids D).length + 1 := by unfold pids; rw [List.filter_cons_of_pos e1]; rfl
      have e3 : onL now R t = R := by unfold onL; rw [if_neg e]
      rw [e3] at h
      simp only [List.foldl_cons, List.length_cons]
      rw [e3]
      omega
theorem due_length (now : Int) (L : List Tk) : (dueL now L).length + (pids (duesL now L)).length = L.length := by
  have h := fold_length (now := now) (duesL now L) (leftL now L)
  have e := congrArg List.length (dues_left now L)
  rw [List.length_append] at e
  unfold dueL
  omega
theorem stop_length (L : List Tk) (i : Int) : (stoppedL L i).length ≤ L.length := by
  unfold stoppedL
  split
  · exact List.length_filter_le _ _
  · exact Nat.le_refl _
theorem arm_length (last : Int) (L : List Tk) (x : Tk) (a k : Int) : (armF last L x a k).L.length ≤ L.length + 1 := by
  unfold armF
  split
  · dsimp only; omega
  · dsimp only; rw [(putL_perm _ _).length_eq]; simp
theorem step_length (S : Int × List Tk) (o : Opn) : (stepF S o).2.length ≤ S.2.length + 1 := by
  unfold stepF
  split
  · unfold sleepF
    split
    · dsimp only; omega
    · exact arm_length _ _ _ _ _
  · split
    · exact arm_length _ _ _ _ _
    · split
      · unfold everyF
        split
        · dsimp only; omega
        · exact arm_length _ _ _ _ _
      · split
        · have := stop_length S.2 o.ch
          dsimp only; omega
        · split
          · have := due_length o.n S.2
            dsimp only; omega
          · omega
theorem fold_step_length : ∀ (os : List Opn) (S : Int × List Tk), (os.foldl stepF S).2.length ≤ S.2.length + os.length
  | [], S => by simp
  | o :: os, S => by
    have h1 := fold_step_length os (stepF S o)
    have h2 := step_length S o
    simp only [List.foldl_cons, List.length_cons]
    omega
theorem made_length (os : List Opn) : (madeF os).2.length ≤ os.length := by
  have := fold_step_length os (0, [])
  simpa [madeF] using this
/-- who stays is told again, or was not told -/
theorem fold_mem {now : Int} : ∀ (D R : List Tk) (t : Tk), t ∈ D.foldl (onL now) R → t ∈ R ∨ ∃ u ∈ D, once u = false ∧ t.id = u.id
  | [], _, _, h => .inl h
  | d :: D, R, t, h => by
    rcases fold_mem D (onL now R d) t h with h | ⟨u, hu, h1, h2⟩
    · unfold onL at h
      split at h
      · rename_i hk
        rcases List.mem_cons.1 ((putL_perm _ _).mem_iff.1 h) with rfl | h
        · exact .inr ⟨d, List.mem_cons_self, by simp [once, hk], by unfold rearm; rw [laterT_id]⟩
        · exact .inl h
      · exact .inl h
    · exact .inr ⟨u, List.mem_cons_of_mem _ hu, h1, h2⟩
theorem due_from {now : Int} {L : List Tk} {t : Tk} (h : t ∈ dueL now L) : ∃ u ∈ L, t.id = u.id := by
  have e := dues_left now L
  rcases fold_mem _ _ _ h with h | ⟨u, hu, _, h2⟩
  · exact ⟨t, by rw [← e]; exact List.mem_append_right _ h, rfl⟩
  · exact ⟨u, by rw [← e]; exact List.mem_append_left _ hu, h2⟩
/-- those that were told once are not there any more -/
theorem due_gone {now : Int} {L : List Tk} (hu : Uid L) {x : Int} (hx : x ∈ pids (duesL now L)) : ∀ t ∈ dueL now L, t.id ≠ x := by
  intro t ht e1
  obtain ⟨d, hd, e2⟩ := List.mem_map.1 hx
  have hd1 := (List.mem_filter.1 hd).1
  have hd2 := (List.mem_filter.1 hd).2
  have e := dues_left now L
  have hdL : d ∈ L := by rw [← e]; exact List.mem_append_left _ hd1
  rcases fold_mem _ _ _ ht with h | ⟨u, hu2, h1, h2⟩
  · have hn := hu
    unfold Uid at hn
    rw [← e, List.map_append] at hn
    exact (List.nodup_append.1 hn).2.2 d.id (List.mem_map.2 ⟨d, hd1, rfl⟩) t.id (List.mem_map.2 ⟨t, h, rfl⟩) (e2.trans e1.symm)
  · have huL : u ∈ L := by rw [← e]; exact List.mem_append_left _ hu2
    have : d = u := hu.one hdL huL (e2.trans (e1.symm.trans h2))
    subst this
    rw [h1] at hd2
    cases hd2
/-- a name that is told is none of those that were -/
theorem pid_new {now : Int} {L : List Tk} (hu : Uid L) {K : List Int} (hK : ∀ x ∈ K, ∀ t ∈ L, t.id ≠ x) {k : Nat} {t : Tk} (ht : (duesL now L)[k]? = some t) : ∀ x ∈ K ++ pids ((duesL now L).take k), x ≠ t.id := by
  have e := dues_left now L
  have hm : t ∈ L := by rw [← e]; exact List.mem_append_left _ (List.mem_of_getElem? ht)
  intro x hx e1
  rcases List.mem_append.1 hx with h | h
  · exact hK x h t hm e1.symm
  · obtain ⟨d, hd, e2⟩ := List.mem_map.1 h
    have hd1 := (List.mem_filter.1 hd).1
    have hn : ((duesL now L).map (·.id)).Nodup := by
      have := hu
      unfold Uid at this
      rw [← e, List.map_append] at this
      exact (List.nodup_append.1 this).1
    obtain ⟨i, hi⟩ := List.mem_iff_getElem?.1 hd1
    have hik : i < k := by
      have := (List.getElem?_eq_some_iff.1 hi).1
      rw [List.length_take] at this
      omega
    rw [List.getElem?_take_of_lt hik] at hi
    have h1 : ((duesL now L).map (·.id))[i]? = some t.id := by rw [List.getElem?_map, hi]; show some d.id = _; rw [e2, e1]
    have h2 : ((duesL now L).map (·.id))[k]? = some t.id := by rw [List.getElem?_map, ht]; rfl
    have := (List.getElem?_inj (List.getElem?_eq_some_iff.1 h1).1 hn).1 (h1.trans h2.symm)
    omega
set_option maxHeartbeats 16000000 in
theorem once_walk {P P2 : Nat → Prop} (w : World) (lo : Option Addr) (n cap : Nat) (os : List Opn) (ln : Option Addr) (m cap2 : Nat) (ns : List Int) (hl : Ls eO P w (.slice lo n cap) os) (ho : ∀ o ∈ os, Ook o) (hn : n ≤ 4398046511104) (hv : Ls eW P2 w (.slice ln m cap2) ns) (hx : ∀ x ∈ ns, 0 ≤ x ∧ x < 18446744073709551616) (hm : m ≤ 35184372088832) : Calls Try.prog 6 #[.slice lo n cap, .slice ln m cap2] w fun e w' => e = .returned (.bool true) ∧ Gr w w' := by
  have HM := hid (made_any w lo n cap os hl ho (by omega))
  have HML := hid (show (madeF os).2.length ≤ n from by rw [hl.len.1]; exact made_length os)
  have HWF := hid (wf_made os)
  have HV := hid (show ∀ W, Gr w W → Ls eW P2 W (.slice ln m cap2) ns from fun W k => hv.gr k)
  have HVN := hid hv.len.1
  have HX := hid hx
  have HN := hid hn
  have HMB := hid hm
  clear hl ho hn hv hx hm
  go_enter Try.func6, Try.ntmps6
  go_wp2_with (go_at_call 15; refine HM.out.mono ?_; rintro e w1 ⟨b, T, rfl, h1, g1, n1⟩; have TM1 := hid h1; have G1 := hid g1; have N1 := hid n1; clear h1 g1 n1)
  go_loopg [6, 7] m (fun q a i wr => ∃ (i0 : Nat) (T : Nat → Prop) (last : Int) (L : List Tk) (K : List Int) (kn : Nat) (ao : Option Addr) (cp : Nat), i0 + q = m ∧ a = .slice ao kn cp ∧ i = .int .i64 (i0 : Int) ∧ Ow eJ 1 2 w.heap.size wr (.slice ao kn cp) K ∧ Tm T wr b last L (1024 * (n : Int) + 1024 * (i0 : Int)) ∧ Wf last L ∧ K.length + L.length ≤ n ∧ (∀ x ∈ K, ∀ t ∈ L, t.id ≠ x) ∧ Gr w wr ∧ (∀ q, T q → w.heap.size ≤ q) ∧ ∀ q, Blk (.slice ao kn cp) q → ¬ T q)
  case atStart => exact ⟨0, T, _, _, [], 0, none, 0, by omega, rfl, rfl, Ow.nil _ _ _ _ _, TM1.out.more (by omega), HWF.out, by have := HML.out; simpa using this, fun x hx => by simp at hx, G1.out, N1.out, fun q hq => by cases hq⟩
  case round =>
    obtain ⟨i0, T0, last, L, K, kn, ao, cp, hiq, rfl, rfl, how, htm, hwf, hkl, hkn, hg, hnw, hbl⟩ := hrel
    obtain ⟨V, hV⟩ : ∃ W, W = wr := ⟨_, rfl⟩
    subst hV
    obtain ⟨K1, hK1⟩ : ∃ k, k = gk := ⟨_, rfl⟩
    have OW := hid how
    have TMi := hid htm
    have WFi := hid hwf
    have HKL := hid hkl
    have HKN := hid hkn
    have GI := hid hg
    have NI := hid hnw
    have BI := hid hbl
    have HIQ := hid hiq
    by_cases hi : i0 < m
    · obtain ⟨now, hnow⟩ : ∃ x, ns[i0]? = some x := ⟨_, List.getElem?_eq_getElem (by rw [← HVN.out]; exact hi)⟩
      obtain ⟨gv, ov, cv, hs, _, gl, _, hc⟩ := (HV.out _ GI.out).get eW_len hnow
      injection hs with hs1 hs2 hs3
      subst hs1
      have y0 := hc 0 _ rfl
      rw [Nat.add_zero, Nat.mul_one] at y0
      have NX := hid (HX.out now (List.mem_of_getElem? hnow))
      have ib : (i0 : Int) + 1 < 9223372036854775808 := by have := HMB.out; omega
      have im : (i0 : Int) < (m : Int) := Int.ofNat_lt.2 hi
      have HD := hid (due_any TMi.out WFi.out.len now NX.out.1 NX.out.2 (by have := HN.out; have := HMB.out; omega))
      have HUI := hid TMi.out.ui
      obtain ⟨D, hD⟩ : ∃ D, D = duesL now L := ⟨_, rfl⟩
      obtain ⟨R, hR⟩ : ∃ R, R = dueL now L := ⟨_, rfl⟩
      have HPN := hid (show ∀ k t, D[k]? = some t → ∀ x ∈ K ++ pids (D.take k), x ≠ t.id from fun k t ht => by rw [hD] at ht ⊢; exact pid_new HUI.out HKN.out ht)
      have HWR := hid (show Wf last R from by rw [hR]; exact WFi.out.due now)
      have HLR := hid (show R.length + (pids D).length = L.length from by rw [hR, hD]; exact due_length now L)
      have HKR := hid (show ∀ x ∈ K ++ pids D, ∀ t ∈ R, t.id ≠ x from fun x hx t ht => by
        rw [hR] at ht
        rcases List.mem_append.1 hx with h | h
        · obtain ⟨u, hu, e⟩ := due_from ht
          rw [e]
          exact HKN.out x h u hu
        · rw [hD] at h
          exact due_gone HUI.out h t ht)
      rw [← hD, ← hR] at HD
      have HDE := hid hD
      clear how htm hwf hkl hkn hg hnw hbl hiq hnow hc hs2 hs3 hD hR
      obtain ⟨dn, hdn⟩ : ∃ x, x = D.length := ⟨_, rfl⟩
      have HDN := hid hdn
      clear hdn
      go_wp2_with (go_at_call 16; refine HD.out.mono ?_; rintro e w7 ⟨v7, T7, rfl, o7, k7, c7, t7, b7⟩; obtain ⟨a7, cc7, rfl⟩ : ∃ a c, v7 = .slice a dn c := (by obtain ⟨a, c, e⟩ := o7.form; exact ⟨a, c, by rw [e, HDN.out]⟩); have OD := hid o7; have TM7 := hid k7; have G7 := hid (show Gr w w7 from Ch.trans GI.out c7 (fun q e => .inr (NI.out q e))); have N7 := hid (show ∀ q, T7 q → w.heap.size ≤ q from fun q e => (t7 q e).elim (NI.out q) (fun x => Nat.le_trans GI.out.size x)); have B7 := hid b7; have OK7 := hid (OW.out.ch c7 (fun g hg => BI.out g hg)); have BK7 := hid (show ∀ q, Blk (.slice ao kn cp) q → ¬ T7 q ∧ ¬ Blk (.slice a7 dn cc7) q from fun q hq => ⟨fun e => (t7 q e).elim (BI.out q hq) (fun x => by have := (OW.out.blk hq).2; omega), fun e => by have := (OW.out.blk hq).2; have := (o7.blk e).1; omega⟩); clear o7 k7 c7 t7 b7)
      clear y0 gl
      have HK1 := hid hK1
      have HDL := hid (show dn ≤ 1024 from by have h1 := congrArg List.length (dues_left now L); have h2 := WFi.out.len; have h3 := HDE.out; rw [List.length_append, ← h3, ← HDN.out] at h1; omega)
      go_loopg [6, 9] dn (fun q a k wr => ∃ (k0 kn : Nat) (ao : Option Addr) (cp : Nat), k0 + q = dn ∧ a = .slice ao kn cp ∧ k = .int .i64 (k0 : Int) ∧ Ow eJ 1 2 w.heap.size wr (.slice ao kn cp) (K ++ pids (D.take k0)) ∧ Ow eT 8 46 V.heap.size wr (.slice a7 dn cc7) D ∧ Tm T7 wr b last R (1024 * (n : Int) + 1024 * (i0 : Int) + 1024) ∧ Gr w wr ∧ ∀ q, Blk (.slice ao kn cp) q → ¬ T7 q ∧ ¬ Blk (.slice a7 dn cc7) q)
      case atStart => exact ⟨0, kn, ao, cp, by omega, rfl, rfl, by simpa [pids] using OK7.out, OD.out, TM7.out, G7.out, BK7.out⟩
      case round =>
        obtain ⟨k0, kn2, ao2, cp2, hkq, rfl, rfl, how2, hod2, htm2, hg2, hbl2⟩ := hrel
        obtain ⟨V2, hV2⟩ : ∃ W, W = wr := ⟨_, rfl⟩
        subst hV2
        obtain ⟨K2, hK2⟩ : ∃ k, k = gk := ⟨_, rfl⟩
        have OW2 := hid how2
        have OD2 := hid hod2
        have TM2 := hid htm2
        have G2 := hid hg2
        have BL2 := hid hbl2
        have HKQ := hid hkq
        by_cases hk : k0 < dn
        · obtain ⟨t, ht⟩ : ∃ t, D[k0]? = some t := ⟨_, List.getElem?_eq_getElem (by rw [← HDN.out]; exact hk)⟩
          obtain ⟨gd, cd, hsd, _, gdl, _, hcd, _⟩ := hod2.get eT_len ht
          injection hsd with hs1 hs2 hs3
          subst hs1
          have z0 := hcd 0 _ rfl
          have z1 := hcd 1 _ rfl
          rw [Nat.add_zero] at z0
          have kb : (k0 : Int) + 1 < 9223372036854775808 := by have := HDL.out; omega
          have km : (k0 : Int) < (dn : Int) := Int.ofNat_lt.2 hk
          have HNE := hid (HPN.out k0 t ht)
          have HPS := hid (pids_snoc ht)
          clear how2 hod2 htm2 hg2 hbl2 hkq hcd hs2 hs3 ht
          by_cases hkd : (t.kind == 3) = true
          · have e1 : once t = false := by simp [once, hkd]
            have HP1 := hid (show pids (D.take (k0 + 1)) = pids (D.take k0) from by rw [HPS.out, if_neg (by rw [e1]; exact Bool.false_ne_true)])
            clear e1
            go_wp2
            go_roundg (K2 - 1)
            case measure => have := HKQ.out; omega
            case rel => exact ⟨k0 + 1, kn2, ao2, cp2, by have := HKQ.out; omega, rfl, by first | with_reducible rfl | simp, by rw [HP1.out]; exact OW2.out, OD2.out, TM2.out, G2.out, BL2.out⟩
          · have hkd : (t.kind == 3) = false := by simpa using hkd
            have e1 : once t = true := by simp [once, hkd]
            have HP1 := hid (show K ++ pids (D.take k0) ++ [t.id] = K ++ pids (D.take (k0 + 1)) from by rw [HPS.out, if_pos e1, List.append_assoc])
            have HLN := hid (show kn2 = (K ++ pids (D.take k0)).length from OW2.out.len.1)
            have HLB := hid (show kn2 ≤ 4398046511104 from by
              have h1 := HKL.out
              have h2 := HN.out
              have h3 := HLR.out
              have h4 : (pids (D.take k0)).length ≤ (pids D).length := by
                unfold pids
                rw [List.length_map, List.length_map]
                exact ((List.take_sublist k0 D).filter _).length_le
              rw [HLN.out, List.length_append]
              omega)
            clear e1
            go_wp2_with fail
            go_loopg [10] kn2 (fun q jj wr => ∃ (j0 : Nat), j0 + q = kn2 ∧ jj = .int .i64 (j0 : Int) ∧ Ow eJ 1 2 w.heap.size wr (.slice ao2 kn2 cp2) (K ++ pids (D.take k0)) ∧ Ow eT 8 46 V.heap.size wr (.slice (some ⟨gd, 0, none⟩) dn cc7) D ∧ Tm T7 wr b last R (1024 * (n : Int) + 1024 * (i0 : Int) + 1024) ∧ Gr w wr ∧ Gr V2 wr)
            case atStart => exact ⟨0, by omega, rfl, OW2.out, OD2.out, TM2.out, G2.out, Gr.refl _⟩
            case round =>
              obtain ⟨j0, hjq, rfl, how3, hod3, htm3, hg3, hv3⟩ := hrel
              obtain ⟨V3, hV3⟩ : ∃ W, W = wr := ⟨_, rfl⟩
              subst hV3
              have OW3 := hid how3
              have OD3 := hid hod3
              have TM3 := hid htm3
              have G3 := hid hg3
              have HV3 := hid hv3
              have u0 := (hv3.cell gdl).trans z0
              have gdl3 := Nat.lt_of_lt_of_le gdl hv3.size
              by_cases hj : j0 < kn2
              · obtain ⟨x, hxj⟩ : ∃ x, (K ++ pids (D.take k0))[j0]? = some x := ⟨_, List.getElem?_eq_getElem (by rw [← HLN.out]; exact hj)⟩
                obtain ⟨gt, ct, hst, _, gtl, _, hct, _⟩ := how3.get eJ_len hxj
                injection hst with hs1 hs2 hs3
                subst hs1
                have v0 := hct 0 _ rfl
                rw [Nat.add_zero, Nat.mul_one] at v0
                have hne : (x == t.id) = false := beq_eq_false_iff_ne.2 (HNE.out x (List.mem_of_getElem? hxj))
                have jb : (j0 : Int) + 1 < 9223372036854775808 := by have := HLB.out; omega
                have jm : (j0 : Int) < (kn2 : Int) := Int.ofNat_lt.2 hj
                have j00 : (0 : Int) ≤ (j0 : Int) := Int.natCast_nonneg _
                have k00 : (0 : Int) ≤ (k0 : Int) := Int.natCast_nonneg _
                clear how3 hod3 htm3 hg3 hv3 hct hs2 hs3 hxj
                go_wp2_with fail
                go_quiet (fail)
                go_wp2
                go_roundg (gk - 1)
                case measure => omega
                case rel => exact ⟨j0 + 1, by omega, by first | with_reducible rfl | simp, OW3.out.drewN _, OD3.out.drewN _, TM3.out.gr (Ch.drewN (Gr.refl _) _), G3.out.drewN _, HV3.out.drewN _⟩
              · have ej : j0 = kn2 := by omega
                subst ej
                have jm : ¬ ((j0 : Int) < (j0 : Int)) := by omega
                clear how3 hod3 htm3 hg3 hv3
                go_wp2_with (at_builtin; refine wpList_append_ow eJ_len rfl (.tmp 55) (.tmp 61) _ 2 8 _ Try.underlying53 j_info rfl (by omega) rfl w.heap.size _ (K ++ pids (D.take k0)) rfl (OW3.out.alloc _) _ _ [t.id] rfl (Ls.single V3 t.id 2 #[.int .i64 t.id] rfl) (eJ_one _) (j0 + 1) (by rw [HLN.out]; rfl) (by have := HLB.out; omega) (by unfold maxLen; have := HLB.out; omega) (Nat.le_trans G3.out.size (Ch.alloc (Gr.refl V3) _).size) (K ++ pids (D.take (k0 + 1))) HP1.out ?_; intro ao5 cap5 w6 ow6 cw6 bl6; have O6 := hid ow6; have C6 := hid cw6; have BL6 := hid bl6; clear ow6 cw6 bl6)
                go_roundg (K2 - 1)
                case measure => have := HKQ.out; omega
                case rel =>
                  have hgv : Gr V3 (V3.alloc (.cells #[.int .i64 t.id] 2)) := Ch.alloc (Gr.refl _) _
                  refine ⟨k0 + 1, j0 + 1, ao5, cap5, by have := HKQ.out; omega, rfl, by first | with_reducible rfl | simp, O6.out, (OD3.out.gr hgv).ch C6.out (fun g hg e => (BL2.out g e).2 hg), (TM3.out.gr hgv).ch C6.out (fun q e hq => (BL2.out q hq).1 e), Ch.trans (Gr.trans G3.out hgv) C6.out (fun q hq => .inr (OW3.out.blk hq).1), fun q hq => ?_⟩
                  rcases BL6.out q hq with h | h
                  · exact BL2.out q h
                  · have h2 := hgv.size
                    exact ⟨fun e => by have := TM3.out.lt q e; omega, fun e => by have := (OD3.out.blk e).2; omega⟩
        · have ek : k0 = dn := by omega
          subst ek
          have km : ¬ ((k0 : Int) < (k0 : Int)) := by omega
          have HTK := hid (show D.take k0 = D from List.take_of_length_le (by rw [← HDN.out]; exact Nat.le_refl _))
          rw [HTK.out] at OW2
          have HLN := hid (show kn2 = (K ++ pids D).length from OW2.out.len.1)
          clear how2 hod2 htm2 hg2 hbl2 hkq
          go_wp2
          go_roundg (K1 - 1)
          case measure => rw [HK1.out]; have := HIQ.out; omega
          case rel =>
            refine ⟨i0 + 1, T7, last, R, K ++ pids D, kn2, ao2, cp2, by rw [HK1.out]; have := HIQ.out; omega, rfl, by first | with_reducible rfl | simp, OW2.out, TM2.out.more (by omega), HWR.out, ?_, HKR.out, G2.out, N7.out, fun q hq => (BL2.out q hq).1⟩
            have := HLR.out
            have := HKL.out
            rw [List.length_append]
            omega
    · have ei : i0 = m := by omega
      subst ei
      have im : ¬ ((i0 : Int) < (i0 : Int)) := by omega
      clear how htm hwf hkl hkn hg hnw hbl hiq
      go_wp2_with (go_at_call 12; refine (awake_any _).mono ?_; rintro e w9 ⟨rfl, g9⟩; have G9 := hid g9; clear g9)
      go_ret
      exact ⟨rfl, Gr.trans GI.out G9.out⟩
end Go.Proofs.Ytgkapopkjgljjaa.Lt
