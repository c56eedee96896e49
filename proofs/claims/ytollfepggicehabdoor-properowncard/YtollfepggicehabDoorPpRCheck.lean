/-
  What the document's Check answers: as the program's. Condition: words are words.
-/
import Derived.Test.YtollfepggicehabDoorPpRef2
namespace Go.Proofs.YtollfepggicehabDoor.Lt
open Go.RowKit Wd

theorem tE_ok {ts : List Tb} {n : Nat} {t : Tb} (h : ts[n]? = some t) : tE ts n = if tOk t.cs = true then 0 else 83 := by
  unfold tE tOk
  rw [h]
  simp only
  by_cases q : 16 < t.cs.length
  · rw [if_pos q, if_neg]
    simp
    omega
  · rw [if_neg q]
    have e : decide (t.cs.length ≤ 16) = true := decide_eq_true (by omega)
    rw [e, Bool.true_and]
    have ce : ∀ l c, t.cs[l]? = some c → cE t.cs l = if cf c = true then 0 else 83 := fun l c hc => by unfold cE; rw [hc]
    by_cases z : t.cs.all cf = true
    · rw [if_pos z, fR_none (fun l _ hl => by
        obtain ⟨c, hc⟩ : ∃ c, t.cs[l]? = some c := ⟨_, List.getElem?_eq_getElem hl⟩
        rw [ce l c hc, if_pos (List.all_eq_true.1 z c (List.mem_of_getElem? hc))])]
    · rw [if_neg z]
      have hex : ∃ m, m < t.cs.length ∧ cE t.cs m ≠ 0 := by
        have z2 : t.cs.all cf = false := by simpa using z
        obtain ⟨c, hc, hn⟩ := List.all_eq_false.1 z2
        obtain ⟨m, hm⟩ := List.getElem?_of_mem hc
        exact ⟨m, (List.getElem?_eq_some_iff.1 hm).1, by rw [ce m c hm, if_neg hn]; decide⟩
      obtain ⟨m, m1, m2, m3⟩ : ∃ m, m < t.cs.length ∧ cE t.cs m ≠ 0 ∧ ∀ l, l < m → cE t.cs l = 0 := by
        obtain ⟨m, hm⟩ := hex
        induction m using Nat.strongRecOn with
        | ind m ih =>
          by_cases q2 : ∃ l, l < m ∧ cE t.cs l ≠ 0
          · obtain ⟨l, l1, l2⟩ := q2
            exact ih l l1 ⟨by omega, l2⟩
          · exact ⟨m, hm.1, hm.2, fun l hl => Classical.byContradiction (fun e => q2 ⟨l, hl, e⟩)⟩
      rw [fR_at (Nat.zero_le m) m1 (fun l _ q => m3 l q) m2]
      obtain ⟨c, hc⟩ : ∃ c, t.cs[m]? = some c := ⟨_, List.getElem?_eq_getElem m1⟩
      simp only
      rw [ce m c hc] at m2 ⊢
      by_cases y : cf c = true
      · rw [if_pos y] at m2
        exact absurd rfl m2
      · rw [if_neg y]
theorem cF_err {fs : List (Int × Int)} {nc : Nat} (h : (cF fs nc).2 ≠ 0) : (cF fs nc).2 = 81 ∧ ∃ k : Nat, (cF fs nc).1 = (k : Int) := by
  unfold cF at h ⊢
  split
  · exact ⟨rfl, _, rfl⟩
  · rename_i q
    rw [if_neg q] at h
    unfold fR at h ⊢
    cases hf : (List.range' 0 (fs.length - 0)).find? (fun n => decide (fB fs nc n ≠ 0)) with
    | none => rw [hf] at h; exact absurd rfl h
    | some m =>
      rw [hf] at h
      simp only at h ⊢
      refine ⟨?_, m, rfl⟩
      unfold fB at h ⊢
      split
      · rfl
      · rename_i z
        rw [if_neg z] at h
        exact absurd rfl h
/-- function by function, word by word: the first that is wrong -/
theorem wF_zero {cs : List Int} {nf nt : Nat} : ∀ (fs : List (Int × Int)), (∀ f ∈ fs, ∀ a : Nat, f.1.toNat ≤ a → a < f.2.toNat → wA cs nf nt f a = 0) → wF cs nf nt fs = (0, 0) := by
  intro fs
  induction fs with
  | nil => intro _; rfl
  | cons f r ih =>
    intro h
    show (if (fR (wA cs nf nt f) f.1.toNat f.2.toNat).2 = 0 then wF cs nf nt r else _) = _
    rw [fR_none (fun l q1 q2 => h f List.mem_cons_self l q1 q2)]
    exact ih (fun g hg => h g (List.mem_cons_of_mem _ hg))
theorem wF_skip {cs : List Int} {nf nt : Nat} {fs : List (Int × Int)} : ∀ (j : Nat), (∀ (l : Nat) f, l < j → fs[l]? = some f → ∀ a : Nat, f.1.toNat ≤ a → a < f.2.toNat → wA cs nf nt f a = 0) → j ≤ fs.length → wF cs nf nt fs = wF cs nf nt (fs.drop j) := by
  intro j
  induction j with
  | zero => intro _ _; rfl
  | succ j ih =>
    intro h hj
    rw [ih (fun l f q => h l f (by omega)) (by omega)]
    obtain ⟨f, hf⟩ : ∃ f, fs[j]? = some f := ⟨_, List.getElem?_eq_getElem (by omega)⟩
    rw [wF_cons hf, fR_none (fun l q1 q2 => h j f (by omega) hf l q1 q2)]
    rfl
theorem wF_at {cs : List Int} {nf nt : Nat} {fs : List (Int × Int)} {nc : Nat} (hp : Prt fs nc) {j : Nat} {f : Int × Int} (hf : fs[j]? = some f) {a : Nat} (h1 : f.1 ≤ (a : Int)) (h2 : (a : Int) < f.2) (hz : ∀ (l : Nat) g, fs[l]? = some g → ∀ b : Nat, b < a → g.1 ≤ (b : Int) → (b : Int) < g.2 → wA cs nf nt g b = 0) (hn : wA cs nf nt f a ≠ 0) : wF cs nf nt fs = ((a : Int), wA cs nf nt f a) := by
  have hi := hp.i f (List.mem_of_getElem? hf)
  rw [wF_skip j (fun l g q hg b b1 b2 => by
    have := hp.mono j l g f q hg hf
    have := hp.i g (List.mem_of_getElem? hg)
    exact hz l g hg b (by omega) (by omega) (by omega)) (by have := (List.getElem?_eq_some_iff.1 hf).1; omega), wF_cons hf,
    fR_at (j := a) (by omega) (by omega) (fun l q1 q2 => hz j f hf l q2 (by omega) (by omega)) hn]
  simp [hn]

set_option maxHeartbeats 2000000 in
set_option maxRecDepth 20000 in
theorem rcheck_any (P : Nat → Prop) (w : World) (vc vf vt : Value) (cs : List Int) (fs : List (Int × Int)) (ts : List Tb) (h : Pin P w vc vf vt cs fs ts) (hu : U32s cs) :
    Calls Tryd.prog 13 #[.agg #[vc, vf, vt]] w fun e w' => e = .returned (.tuple #[.int .i64 (chk cs fs ts).1, .int .i64 (chk cs fs ts).2]) ∧ Gr w w' := by
  have HPT := hid (fun (W : World) (p : Gr w W) q => rparts_any P W vc vf vt cs fs ts (h.gr p) q)
  have HIN := hid h
  have HU := hid hu
  obtain ⟨aoc, cac, hia⟩ := h.c.form
  obtain ⟨aof, caf, hib⟩ := h.f.form
  obtain ⟨aot, cat, hic⟩ := h.t.form
  obtain ⟨A, hA⟩ : ∃ x, x = (chk cs fs ts).1 := ⟨_, rfl⟩
  obtain ⟨B, hB⟩ : ∃ x, x = (chk cs fs ts).2 := ⟨_, rfl⟩
  rw [← hA, ← hB]
  unfold chk at hA hB
  unfold pN at HPT
  obtain ⟨nc, hnc⟩ : ∃ n, n = cs.length := ⟨_, rfl⟩
  obtain ⟨nf, hnf⟩ : ∃ n, n = fs.length := ⟨_, rfl⟩
  obtain ⟨nt, hnt⟩ : ∃ n, n = ts.length := ⟨_, rfl⟩
  rw [← hnc, ← hnf, ← hnt] at hA hB
  rw [← hnc] at hia HPT
  rw [← hnf] at hib HPT
  rw [← hnt] at hic
  have HNC := hid hnc
  have HNF := hid hnf
  have HNT := hid hnt
  have HA := hid hA
  have HB := hid hB
  subst hia hib hic
  have K1 := hid (Gr.alloc (Gr.refl w) #[.slice aoc nc cac, .slice aof nf caf, .slice aot nt cat] 26)
  have B1 := hid (MapKept.heap_alloc w (.cells #[.slice aoc nc cac, .slice aof nf caf, .slice aot nt cat] 26)).1
  clear h hu hA hB hnc hnf hnt
  by_cases h1 : 4096 < nc
  · have i1 : (4096 : Int) < (nc : Int) := by omega
    have d1 : decide ((4096 : Int) < (nc : Int)) = true := decide_eq_true i1
    have ha : A = 0 := by rw [HA.out]; simp [h1]
    have hb : B = 2 := by rw [HB.out]; simp [h1]
    subst ha hb
    go_enter Tryd.func13, Tryd.ntmps13
    go_wp2_with fail
    go_ret2
    exact ⟨rfl, K1.out⟩
  · have i1 : ¬ (4096 : Int) < (nc : Int) := by omega
    have d1 : decide ((4096 : Int) < (nc : Int)) = false := decide_eq_false i1
    by_cases h2 : 256 < nf
    · have i2 : (256 : Int) < (nf : Int) := by omega
      have d2 : decide ((256 : Int) < (nf : Int)) = true := decide_eq_true i2
      have ha : A = 0 := by rw [HA.out]; simp [h1, h2]
      have hb : B = 2 := by rw [HB.out]; simp [h1, h2]
      subst ha hb
      go_enter Tryd.func13, Tryd.ntmps13
      go_wp2_with fail
      go_ret2
      exact ⟨rfl, K1.out⟩
    · have i2 : ¬ (256 : Int) < (nf : Int) := by omega
      have d2 : decide ((256 : Int) < (nf : Int)) = false := decide_eq_false i2
      by_cases h3 : 256 < nt
      · have i3 : (256 : Int) < (nt : Int) := by omega
        have d3 : decide ((256 : Int) < (nt : Int)) = true := decide_eq_true i3
        have ha : A = 0 := by rw [HA.out]; simp [h1, h2, h3]
        have hb : B = 2 := by rw [HB.out]; simp [h1, h2, h3]
        subst ha hb
        go_enter Tryd.func13, Tryd.ntmps13
        go_wp2_with fail
        go_ret2
        exact ⟨rfl, K1.out⟩
      · have i3 : ¬ (256 : Int) < (nt : Int) := by omega
        have d3 : decide ((256 : Int) < (nt : Int)) = false := decide_eq_false i3
        have HCF := hid (show (cF fs nc).2 ≠ 0 → (cF fs nc).2 = 81 ∧ ∃ k : Nat, (cF fs nc).1 = (k : Int) from cF_err)
        have HPR := hid (fun (q : (cF fs nc).2 = 0) => prt_of q)
        generalize cF fs nc = F at HPT HA HB HCF HPR
        obtain ⟨F1, F2⟩ := F
        simp only at HPT HA HB HCF HPR
        by_cases k1 : F2 = 0
        · subst k1
          simp only [if_true] at HPT
          have HP := hid (show Prt fs nc by first | exact HPR.out rfl | exact HPR.out trivial)
          clear HPR HCF
          have hnn : ¬ (0 : Int) ≤ -1 := by omega
          have HA2 := hid (show A = (if (fR (tE ts) 0 nt).2 ≠ 0 then fR (tE ts) 0 nt else wF cs nf nt fs).1 by rw [HA.out]; simp [h1, h2, h3])
          have HB2 := hid (show B = (if (fR (tE ts) 0 nt).2 ≠ 0 then fR (tE ts) 0 nt else wF cs nf nt fs).2 by rw [HB.out]; simp [h1, h2, h3])
          go_enter Tryd.func13, Tryd.ntmps13
          go_wp2_with (go_at_call 30; refine (HPT.out _ K1.out (by omega)).mono ?_; rintro e w1 ⟨rfl, g1⟩; have G1 := hid (Gr.trans K1.out g1); have B2 := hid (gr_blk B1.out g1); clear g1)
          go_loopg [5] nt (fun m i wq => ∃ j : Nat, j + m = nt ∧ i = .int .i64 ((j : Nat) : Int) ∧ (∀ l, l < j → tE ts l = 0) ∧ Gr w wq ∧ wq.heap[w.heap.size]? = some (.cells #[.slice aoc nc cac, .slice aof nf caf, .slice aot nt cat] 26 (0, 0)))
          case atStart => exact ⟨0, by omega, rfl, fun l q => by omega, G1.out, B2.out⟩
          case round =>
            clear G1 B2
            obtain ⟨j, hjk, rfl, hal, hgr, hbk⟩ := hrel
            have HAL := hid hal
            have HG := hid hgr
            have HK := hid hbk
            have lk := lt_of_block hbk
            have n2 : wr.cell? ⟨w.heap.size, 2, none⟩ = some (.slice aot nt cat) := (cell_of hbk 2).trans rfl
            have n0 : wr.cell? ⟨w.heap.size, 0, none⟩ = some (.slice aoc nc cac) := (cell_of hbk 0).trans rfl
            clear hal hgr hbk
            by_cases hj : j < nt
            · obtain ⟨t, hx⟩ : ∃ x, ts[j]? = some x := ⟨_, List.getElem?_eq_getElem (by rw [← HNT.out]; exact hj)⟩
              have HTE := hid (tE_ok hx)
              have HTB := hid (fun (W : World) (p : Gr w W) => rtable_any P W t.cv t.df t.cs ((HIN.out.cs t (List.mem_of_getElem? hx)).gr p))
              generalize tOk t.cs = tb at HTE HTB
              obtain ⟨g, o, cap', hv, _, hgl, _, hcs⟩ := HIN.out.t.get eT_len hx
              injection hv with hv1 hv2 hv3
              subst hv1
              obtain ⟨aq, cq, hcv⟩ := (HIN.out.cs t (List.mem_of_getElem? hx)).form
              generalize t.cs.length = nq at hcv
              have c0 := (HG.out.cell hgl).trans (hcs 0 _ rfl)
              have c1 := (HG.out.cell hgl).trans (hcs 1 _ rfl)
              rw [Nat.add_zero, hcv] at c0
              rw [hcv] at HTB
              generalize t.df = df at c1 HTB
              have gs := HG.out.size
              have lg : g < wr.heap.size := by omega
              have j0 : (0 : Int) ≤ (j : Int) := by omega
              have j1 : (j : Int) < (nt : Int) := by omega
              clear hv2 hv3 hcs hx hgl hcv
              cases tb with
              | true =>
                have HZ := hid (show ∀ l, l < j + 1 → tE ts l = 0 from fun l q => by
                  by_cases e : l = j
                  · rw [e, HTE.out]; simp
                  · exact HAL.out l (by omega))
                go_wp2_with (go_at_call 31; refine (HTB.out _ HG.out).mono ?_; rintro e w1 ⟨rfl, g1⟩; have G1 := hid (Gr.trans HG.out g1); have B2 := hid (gr_blk HK.out g1); clear g1)
                go_roundg (gk - 1)
                case measure => omega
                case rel => exact ⟨j + 1, by omega, by simp, HZ.out, G1.out, B2.out⟩
              | false =>
                have e8 : tE ts j = 83 := by rw [HTE.out]; simp
                have e9 : fR (tE ts) 0 nt = ((j : Int), 83) := by rw [fR_at (Nat.zero_le _) hj (fun l _ q => HAL.out l q) (by rw [e8]; decide), e8]
                have ha : A = (j : Nat) := by rw [HA2.out, e9]; simp
                have hb : B = 83 := by rw [HB2.out, e9]; simp
                subst ha hb
                clear e8 e9
                go_wp2_with (go_at_call 31; refine (HTB.out _ HG.out).mono ?_; rintro e w1 ⟨rfl, g1⟩; have G1 := hid (Gr.trans HG.out g1); clear g1)
                go_ret2
                exact ⟨rfl, G1.out⟩
            · have jn : ¬ (j : Int) < (nt : Int) := by omega
              have e9 : fR (tE ts) 0 nt = (0, 0) := fR_none (fun l _ q => HAL.out l (by omega))
              rw [e9] at HA2 HB2
              simp only [ne_eq, not_true_eq_false, if_false] at HA2 HB2
              clear e9 HAL
              go_wp2_with fail
              clear n2 n0 lk jn hj hjk
              go_loopg [7] nc (fun m i wq => ∃ a : Nat, a + m = nc ∧ i = .int .i64 ((a : Nat) : Int) ∧ (∀ (l : Nat) (g : Int × Int), fs[l]? = some g → ∀ b : Nat, b < a → g.1 ≤ (b : Int) → (b : Int) < g.2 → wA cs nf nt g b = 0) ∧ Gr w wq ∧ wq.heap[w.heap.size]? = some (.cells #[.slice aoc nc cac, .slice aof nf caf, .slice aot nt cat] 26 (0, 0)))
              case atStart => exact ⟨0, by omega, rfl, fun l g _ b q => by omega, HG.out, HK.out⟩
              case round =>
                clear HG HK
                obtain ⟨a, hak, rfl, hal, hgr, hbk⟩ := hrel
                have HAL := hid hal
                have HG := hid hgr
                have HK := hid hbk
                have lk := lt_of_block hbk
                have n0 : wr.cell? ⟨w.heap.size, 0, none⟩ = some (.slice aoc nc cac) := (cell_of hbk 0).trans rfl
                have n1 : wr.cell? ⟨w.heap.size, 1, none⟩ = some (.slice aof nf caf) := (cell_of hbk 1).trans rfl
                have n2 : wr.cell? ⟨w.heap.size, 2, none⟩ = some (.slice aot nt cat) := (cell_of hbk 2).trans rfl
                clear hal hgr hbk
                by_cases ha : a < nc
                · obtain ⟨x, hx⟩ : ∃ x, cs[a]? = some x := ⟨_, List.getElem?_eq_getElem (by rw [← HNC.out]; exact ha)⟩
                  obtain ⟨f, ⟨x1, x2⟩, hf, f1, f2⟩ := HP.out.has a ha
                  have HWR := hid (fun (W : World) (p : Gr w W) => rwrong_any P W aoc aof aot nc nf nt cac caf cat cs fs (HIN.out.c.gr p) (HIN.out.f.gr p) HU.out HP.out (by omega) (by omega) f x1 x2 hf a x hx ⟨f1, f2⟩)
                  have ew : wA cs nf nt (x1, x2) a = wE nf nt (x1, x2) (a : Nat) x := by unfold wA; rw [hx]
                  have HBAD := hid (show wE nf nt (x1, x2) (a : Nat) x ≠ 0 → wF cs nf nt fs = ((a : Int), wE nf nt (x1, x2) (a : Nat) x) from fun q => by
                    rw [← ew] at q ⊢
                    exact wF_at HP.out hf f1 f2 HAL.out q)
                  have HZ := hid (show wE nf nt (x1, x2) (a : Nat) x = 0 → ∀ (l : Nat) (g : Int × Int), fs[l]? = some g → ∀ b : Nat, b < a + 1 → g.1 ≤ (b : Int) → (b : Int) < g.2 → wA cs nf nt g b = 0 from fun q l g hg b b1 b2 b3 => by
                    by_cases e : b = a
                    · subst e
                      have e1 := (HP.out.inx hf (b : Int)).2 ⟨f1, f2⟩
                      have e2 := (HP.out.inx hg (b : Int)).2 ⟨b2, b3⟩
                      have e3 : l = f := by rw [e1] at e2; omega
                      subst e3
                      rw [hf] at hg
                      injection hg with hg
                      rw [← hg, ew]
                      exact q
                    · exact HAL.out l g hg b (by omega) b2 b3)
                  generalize wE nf nt (x1, x2) (a : Nat) x = V at HWR HBAD HZ
                  have q0 : (0 : Int) ≤ (a : Int) := by omega
                  have q1 : (a : Int) < (nc : Int) := by omega
                  clear hx hf f1 f2 ew
                  by_cases hV : V = 0
                  · subst hV
                    have HZ2 := hid (show ∀ (l : Nat) (g : Int × Int), fs[l]? = some g → ∀ b : Nat, b < a + 1 → g.1 ≤ (b : Int) → (b : Int) < g.2 → wA cs nf nt g b = 0 by first | exact HZ.out rfl | exact HZ.out trivial)
                    go_wp2_with (go_at_call 32; refine (HWR.out _ HG.out).mono ?_; rintro e w1 ⟨rfl, g1⟩; have G1 := hid (Gr.trans HG.out g1); have B2 := hid (gr_blk HK.out g1); clear g1)
                    go_roundg (gk - 1)
                    case measure => omega
                    case rel => exact ⟨a + 1, by omega, by simp, HZ2.out, G1.out, B2.out⟩
                  · have hV' : (V == 0) = false := by simpa using hV
                    have ha : A = (a : Nat) := by rw [HA2.out, HBAD.out hV]
                    have hb : B = V := by rw [HB2.out, HBAD.out hV]
                    subst ha hb
                    go_wp2_with (go_at_call 32; refine (HWR.out _ HG.out).mono ?_; rintro e w1 ⟨rfl, g1⟩; have G1 := hid (Gr.trans HG.out g1); clear g1)
                    go_ret2
                    exact ⟨rfl, G1.out⟩
                · have jn : ¬ (a : Int) < (nc : Int) := by omega
                  have e9 : wF cs nf nt fs = (0, 0) := wF_zero fs (fun f hf b b1 b2 => by
                    obtain ⟨l, hl⟩ := List.getElem?_of_mem hf
                    have hi := HP.out.i f hf
                    exact HAL.out l f hl b (by omega) (by omega) (by omega))
                  have ha : A = 0 := by rw [HA2.out, e9]
                  have hb : B = 0 := by rw [HB2.out, e9]
                  subst ha hb
                  clear e9
                  go_wp2
                  go_ret2
                  exact ⟨rfl, HG.out⟩
        · obtain ⟨k2, k, k3⟩ := HCF.out k1
          have kn : (0 : Int) ≤ (k : Int) := by omega
          rw [if_neg k1] at HPT
          subst k2 k3
          clear HCF HPR
          have ha : A = (k : Nat) := by rw [HA.out]; simp [h1, h2, h3]
          have hb : B = 81 := by rw [HB.out]; simp [h1, h2, h3]
          subst ha hb
          go_enter Tryd.func13, Tryd.ntmps13
          go_wp2_with (go_at_call 30; refine (HPT.out _ K1.out (by omega)).mono ?_; rintro e w1 ⟨rfl, g1⟩; have G1 := hid (Gr.trans K1.out g1); have B2 := hid (gr_blk B1.out g1); clear g1)
          go_ret2
          exact ⟨rfl, G1.out⟩
end Go.Proofs.YtollfepggicehabDoor.Lt
