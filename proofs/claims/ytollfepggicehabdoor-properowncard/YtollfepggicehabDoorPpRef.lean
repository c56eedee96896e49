/-
  What the document's parts, table and in answer. Conditions: lists are no longer than they may be.
-/
import Derived.Test.YtollfepggicehabDoorPpCheck
namespace Go.Proofs.YtollfepggicehabDoor.Lt
open Go.RowKit Wd

/-- the number of the first function that does not fit, -1: they part the code -/
def pN (fs : List (Int × Int)) (nc : Nat) : Int := if (cF fs nc).2 = 0 then -1 else (cF fs nc).1
theorem eA_succ {fs : List (Int × Int)} {j : Nat} {f : Int × Int} (h : fs[j]? = some f) : eA fs (j + 1) = f.2 := by
  unfold eA
  rw [if_neg (by omega), show j + 1 - 1 = j by omega, h]
  rfl
set_option maxHeartbeats 1000000 in
set_option maxRecDepth 20000 in
theorem rparts_any (P : Nat → Prop) (w : World) (vc vf vt : Value) (cs : List Int) (fs : List (Int × Int)) (ts : List Tb) (h : Pin P w vc vf vt cs fs ts) (hl : fs.length ≤ 256) :
    Calls Tryd.prog 30 #[.agg #[vc, vf, vt]] w fun e w' => e = .returned (.int .i64 (pN fs cs.length)) ∧ Gr w w' := by
  obtain ⟨aoc, cac, hia⟩ := h.c.form
  obtain ⟨aof, caf, hib⟩ := h.f.form
  obtain ⟨aot, cat, hic⟩ := h.t.form
  have HF := hid h.f
  obtain ⟨nc, hnc⟩ : ∃ n, n = cs.length := ⟨_, rfl⟩
  obtain ⟨nf, hnf⟩ : ∃ n, n = fs.length := ⟨_, rfl⟩
  rw [← hnc] at hia ⊢
  rw [← hnf] at hib hl
  obtain ⟨R, hR⟩ : ∃ r, r = pN fs nc := ⟨_, rfl⟩
  rw [← hR]
  have HR := hid hR
  have HBAD := hid (show ∀ j, j < nf → (∀ l, l < j → fB fs nc l = 0) → fB fs nc j ≠ 0 → R = (j : Nat) from fun j h1 h2 h3 => by
    have e : fR (fB fs nc) 0 fs.length = ((j : Int), fB fs nc j) := fR_at (Nat.zero_le _) (by rw [← hnf]; exact h1) (fun l _ q => h2 l q) h3
    rw [hR]
    unfold pN cF
    rw [e]
    simp [h3])
  have HEND := hid (show (∀ l, l < nf → fB fs nc l = 0) → R = if nf = 0 ∨ eA fs nf ≠ (nc : Int) then (nf : Int) else -1 from fun h2 => by
    have e : fR (fB fs nc) 0 fs.length = (0, 0) := fR_none (fun l _ q => h2 l (by rw [hnf]; exact q))
    rw [hR]
    unfold pN cF
    rw [e, ← hnf]
    by_cases q : nf = 0 ∨ eA fs nf ≠ (nc : Int)
    · simp [q]
    · simp [q])
  have HNF := hid hnf
  generalize ts.length = nt at hic
  subst hia hib hic
  have K1 := hid (Gr.alloc (Gr.refl w) #[.slice aoc nc cac, .slice aof nf caf, .slice aot nt cat] 26)
  have B1 := hid (MapKept.heap_alloc w (.cells #[.slice aoc nc cac, .slice aof nf caf, .slice aot nt cat] 26)).1
  clear h hnc hnf hR
  go_enter Tryd.func30, Tryd.ntmps30
  go_wp2_with fail
  go_loopg [3, 4] nf (fun m a i wq => ∃ (j : Nat) (x : Int), j + m = nf ∧ a = .int .i64 x ∧ i = .int .i64 ((j : Nat) : Int) ∧ x = eA fs j ∧ (∀ l, l < j → fB fs nc l = 0) ∧ Gr w wq ∧ wq.heap[w.heap.size]? = some (.cells #[.slice aoc nc cac, .slice aof nf caf, .slice aot nt cat] 26 (0, 0)))
  case atStart => exact ⟨0, 0, by omega, rfl, rfl, rfl, fun l q => by omega, K1.out, B1.out⟩
  case round =>
    clear K1 B1
    obtain ⟨j, x, hjk, rfl, rfl, hxe, hal, hgr, hbk⟩ := hrel
    have HX := hid hxe
    have HAL := hid hal
    have HG := hid hgr
    have HK := hid hbk
    have lk := lt_of_block hbk
    have n0 : wr.cell? ⟨w.heap.size, 0, none⟩ = some (.slice aoc nc cac) := (cell_of hbk 0).trans rfl
    have n1 : wr.cell? ⟨w.heap.size, 1, none⟩ = some (.slice aof nf caf) := (cell_of hbk 1).trans rfl
    clear hxe hal hgr hbk
    by_cases hj : j < nf
    · obtain ⟨⟨x1, x2⟩, hx⟩ : ∃ f, fs[j]? = some f := ⟨_, List.getElem?_eq_getElem (by rw [← HNF.out]; exact hj)⟩
      have HFB := hid (show fB fs nc j = if x1 ≠ x ∨ x2 ≤ x1 ∨ (nc : Int) < x2 then 81 else 0 by rw [HX.out]; unfold fB; rw [hx]; rfl)
      have HS := hid (eA_succ hx)
      obtain ⟨g, o, cap', hv, _, hgl, hcap, hcs⟩ := HF.out.get eG_len hx
      injection hv with hv1 hv2 hv3
      subst hv1
      have c0 := (HG.out.cell hgl).trans (hcs 0 _ rfl)
      have c1 := (HG.out.cell hgl).trans (hcs 1 _ rfl)
      rw [Nat.add_zero] at c0
      have gs := HG.out.size
      have lg : g < wr.heap.size := by omega
      have j0 : (0 : Int) ≤ (j : Int) := by omega
      have j1 : (j : Int) < (nf : Int) := by omega
      clear hv2 hv3 hcs hx hcap hgl
      by_cases e1 : x1 = x
      · subst e1
        by_cases e2 : x2 ≤ x1
        · have hb : R = (j : Nat) := HBAD.out j hj HAL.out (by rw [HFB.out]; simp [e2])
          have d2 : decide (x2 ≤ x1) = true := decide_eq_true e2
          subst hb
          go_wp2
          go_ret
          exact ⟨rfl, Ch.alloc HG.out _⟩
        · have d2 : decide (x2 ≤ x1) = false := decide_eq_false e2
          by_cases e3 : (nc : Int) < x2
          · have hb : R = (j : Nat) := HBAD.out j hj HAL.out (by rw [HFB.out]; simp [e3])
            have d3 : decide ((nc : Int) < x2) = true := decide_eq_true e3
            subst hb
            go_wp2
            go_ret
            exact ⟨rfl, Ch.alloc HG.out _⟩
          · have d3 : decide ((nc : Int) < x2) = false := decide_eq_false e3
            have HZ := hid (show fB fs nc j = 0 by rw [HFB.out]; simp; omega)
            go_wp2_with fail
            go_roundg (gk - 1)
            case measure => omega
            case rel =>
              refine ⟨j + 1, x2, by omega, rfl, by simp, HS.out.symm, fun l q => ?_, Ch.alloc HG.out _, al_blk HK.out _⟩
              by_cases e : l = j
              · rw [e]; exact HZ.out
              · exact HAL.out l (by omega)
      · have hb : R = (j : Nat) := HBAD.out j hj HAL.out (by rw [HFB.out]; simp [e1])
        have e1' : (x1 == x) = false := by simpa using e1
        subst hb
        go_wp2
        go_ret
        exact ⟨rfl, Ch.alloc HG.out _⟩
    · have jn : ¬ (j : Int) < (nf : Int) := by omega
      have HE := hid (HEND.out (fun l q => HAL.out l (by omega)))
      rw [show nf = j by omega, ← HX.out, show j = nf by omega] at HE
      by_cases h0 : nf = 0
      · have hb : R = 0 := by rw [HE.out]; simp [h0]
        subst hb h0
        go_wp2
        go_ret
        exact ⟨rfl, HG.out⟩
      · have h0' : ((nf : Int) == 0) = false := by simpa using h0
        by_cases hq : x = (nc : Int)
        · have hb : R = -1 := by rw [HE.out]; simp [h0, hq]
          subst hb hq
          go_wp2
          go_ret
          exact ⟨rfl, HG.out⟩
        · have hb : R = (nf : Nat) := by rw [HE.out]; simp [h0, hq]
          have hq' : (x == (nc : Int)) = false := by simpa using hq
          subst hb
          go_wp2
          go_ret
          exact ⟨rfl, HG.out⟩

/-- does function j hold the place? -/
def iF (fs : List (Int × Int)) (a : Int) (j : Nat) : Int := if (fs[j]?.getD (0, 0)).1 ≤ a ∧ a < (fs[j]?.getD (0, 0)).2 then 1 else 0
/-- the function of a place, -1: none -/
def inx (fs : List (Int × Int)) (a : Int) : Int := if (fR (iF fs a) 0 fs.length).2 = 0 then -1 else (fR (iF fs a) 0 fs.length).1
set_option maxHeartbeats 1000000 in
set_option maxRecDepth 20000 in
theorem rin_any (P : Nat → Prop) (w : World) (aoc aof aot : Option Addr) (nc nf nt cac caf cat : Nat) (fs : List (Int × Int)) (hf : Ls eG P w (.slice aof nf caf) fs) (a : Int) (hl : nf ≤ 256) :
    Calls Tryd.prog 51 #[.agg #[.slice aoc nc cac, .slice aof nf caf, .slice aot nt cat], .int .i64 a] w fun e w' => e = .returned (.int .i64 (inx fs a)) ∧ Gr w w' := by
  have hnf := hf.len.1
  have HF := hid hf
  obtain ⟨R, hR⟩ : ∃ r, r = inx fs a := ⟨_, rfl⟩
  rw [← hR]
  have HBAD := hid (show ∀ j, j < nf → (∀ l, l < j → iF fs a l = 0) → iF fs a j ≠ 0 → R = (j : Nat) from fun j h1 h2 h3 => by
    have e : fR (iF fs a) 0 fs.length = ((j : Int), iF fs a j) := fR_at (Nat.zero_le _) (by rw [← hnf]; exact h1) (fun l _ q => h2 l q) h3
    rw [hR]
    unfold inx
    rw [e]
    simp [h3])
  have HEND := hid (show (∀ l, l < nf → iF fs a l = 0) → R = -1 from fun h2 => by
    have e : fR (iF fs a) 0 fs.length = (0, 0) := fR_none (fun l _ q => h2 l (by rw [hnf]; exact q))
    rw [hR]
    unfold inx
    rw [e]
    rfl)
  have HNF := hid hnf
  have K1 := hid (Gr.alloc (Gr.refl w) #[.slice aoc nc cac, .slice aof nf caf, .slice aot nt cat] 26)
  have B1 := hid (MapKept.heap_alloc w (.cells #[.slice aoc nc cac, .slice aof nf caf, .slice aot nt cat] 26)).1
  clear hnf hR hf
  go_enter Tryd.func51, Tryd.ntmps51
  go_wp2_with fail
  go_loopg [5] nf (fun m i wq => ∃ (j : Nat), j + m = nf ∧ i = .int .i64 ((j : Nat) : Int) ∧ (∀ l, l < j → iF fs a l = 0) ∧ Gr w wq ∧ wq.heap[w.heap.size]? = some (.cells #[.slice aoc nc cac, .slice aof nf caf, .slice aot nt cat] 26 (0, 0)))
  case atStart => exact ⟨0, by omega, rfl, fun l q => by omega, K1.out, B1.out⟩
  case round =>
    clear K1 B1
    obtain ⟨j, hjk, rfl, hal, hgr, hbk⟩ := hrel
    have HAL := hid hal
    have HG := hid hgr
    have HK := hid hbk
    have lk := lt_of_block hbk
    have n1 : wr.cell? ⟨w.heap.size, 1, none⟩ = some (.slice aof nf caf) := (cell_of hbk 1).trans rfl
    clear hal hgr hbk
    by_cases hj : j < nf
    · obtain ⟨⟨x1, x2⟩, hx⟩ : ∃ f, fs[j]? = some f := ⟨_, List.getElem?_eq_getElem (by rw [← HNF.out]; exact hj)⟩
      have HFB := hid (show iF fs a j = if x1 ≤ a ∧ a < x2 then 1 else 0 by unfold iF; rw [hx]; rfl)
      obtain ⟨g, o, cap', hv, _, hgl, hcap, hcs⟩ := HF.out.get eG_len hx
      injection hv with hv1 hv2 hv3
      subst hv1
      have c0 := (HG.out.cell hgl).trans (hcs 0 _ rfl)
      have c1 := (HG.out.cell hgl).trans (hcs 1 _ rfl)
      rw [Nat.add_zero] at c0
      have gs := HG.out.size
      have lg : g < wr.heap.size := by omega
      have j0 : (0 : Int) ≤ (j : Int) := by omega
      have j1 : (j : Int) < (nf : Int) := by omega
      have HZ := hid (show iF fs a j = 0 → ∀ l, l < j + 1 → iF fs a l = 0 from fun q l q1 => by
        by_cases e : l = j
        · rw [e]; exact q
        · exact HAL.out l (by omega))
      clear hv2 hv3 hcs hx hcap hgl
      by_cases e1 : x1 ≤ a
      · have d1 : decide (x1 ≤ a) = true := decide_eq_true e1
        by_cases e2 : a < x2
        · have d2 : decide (a < x2) = true := decide_eq_true e2
          have hb : R = (j : Nat) := HBAD.out j hj HAL.out (by rw [HFB.out]; simp [e1, e2])
          subst hb
          go_wp2
          go_ret
          exact ⟨rfl, HG.out⟩
        · have d2 : decide (a < x2) = false := decide_eq_false e2
          have HY := hid (HZ.out (by rw [HFB.out]; simp [e2]))
          go_wp2_with fail
          go_roundg (gk - 1)
          case measure => omega
          case rel => exact ⟨j + 1, by omega, by simp, HY.out, HG.out, HK.out⟩
      · have d1 : decide (x1 ≤ a) = false := decide_eq_false e1
        have HY := hid (HZ.out (by rw [HFB.out]; simp [e1]))
        go_wp2_with fail
        go_roundg (gk - 1)
        case measure => omega
        case rel => exact ⟨j + 1, by omega, by simp, HY.out, HG.out, HK.out⟩
    · have jn : ¬ (j : Int) < (nf : Int) := by omega
      have hb : R = -1 := HEND.out (fun l q => HAL.out l (by omega))
      subst hb
      go_wp2
      go_ret
      exact ⟨rfl, HG.out⟩

/-- may a table be? -/
def tOk (t : List Cs) : Bool := decide (t.length ≤ 16) && t.all cf
set_option maxHeartbeats 1000000 in
set_option maxRecDepth 20000 in
theorem rtable_any (P : Nat → Prop) (w : World) (v : Value) (d : Bool) (cs : List Cs) (h : Ls eC P w v cs) :
    Calls Tryd.prog 31 #[.agg #[v, .bool d]] w fun e w' => e = .returned (.bool (tOk cs)) ∧ Gr w w' := by
  obtain ⟨aq, cq, hv⟩ := h.form
  have HC := hid h
  obtain ⟨B, hB⟩ : ∃ r, r = tOk cs := ⟨_, rfl⟩
  rw [← hB]
  unfold tOk at hB
  obtain ⟨nq, hnq⟩ : ∃ n, n = cs.length := ⟨_, rfl⟩
  rw [← hnq] at hv hB
  have HB := hid hB
  have HN := hid hnq
  subst hv
  have HRE := hid (fun (n : Int) (W : World) => rreg_any n W)
  have K1 := hid (Gr.alloc (Gr.refl w) #[.slice aq nq cq, .bool d] 68)
  have B1 := hid (MapKept.heap_alloc w (.cells #[.slice aq nq cq, .bool d] 68)).1
  clear h hB hnq
  by_cases h16 : 16 < nq
  · have hb : B = false := by rw [HB.out]; simp; omega
    have h16' : (16 : Int) < (nq : Int) := by omega
    subst hb
    go_enter Tryd.func31, Tryd.ntmps31
    go_wp2
    go_ret
    exact ⟨rfl, K1.out⟩
  · have h16' : ¬ (16 : Int) < (nq : Int) := by omega
    have HB2 := hid (show B = cs.all cf by rw [HB.out]; simp; omega)
    go_enter Tryd.func31, Tryd.ntmps31
    go_wp2_with fail
    go_loopg [3] nq (fun m i wq => ∃ (j : Nat), j + m = nq ∧ i = .int .i64 ((j : Nat) : Int) ∧ (∀ (l : Nat) c, l < j → cs[l]? = some c → cf c = true) ∧ Gr w wq ∧ wq.heap[w.heap.size]? = some (.cells #[.slice aq nq cq, .bool d] 68 (0, 0)))
    case atStart => exact ⟨0, by omega, rfl, fun l c q => by omega, K1.out, B1.out⟩
    case round =>
      clear K1 B1
      obtain ⟨k, hjk, rfl, hal, hgr, hbk⟩ := hrel
      have HAL := hid hal
      have HG := hid hgr
      have HK := hid hbk
      have lk := lt_of_block hbk
      have n0 : wr.cell? ⟨w.heap.size, 0, none⟩ = some (.slice aq nq cq) := (cell_of hbk 0).trans rfl
      clear hal hgr hbk
      by_cases hk : k < nq
      · obtain ⟨c, hx⟩ : ∃ x, cs[k]? = some x := ⟨_, List.getElem?_eq_getElem (by rw [← HN.out]; exact hk)⟩
        have HX := hid hx
        obtain ⟨gq, oq, cap', hv, _, hgl, hcap, hcs⟩ := HC.out.get eC_len hx
        injection hv with hv1 hv2 hv3
        subst hv1
        have c0 := (HG.out.cell hgl).trans (hcs 0 _ rfl)
        have c1 := (HG.out.cell hgl).trans (hcs 1 _ rfl)
        have c2 := (HG.out.cell hgl).trans (hcs 2 _ rfl)
        have c3 := (HG.out.cell hgl).trans (hcs 3 _ rfl)
        rw [Nat.add_zero] at c0
        have gs := HG.out.size
        have lq : gq < wr.heap.size := by omega
        have q0 : (0 : Int) ≤ (k : Int) := by omega
        have q1 : (k : Int) < (nq : Int) := by omega
        have HNO := hid (show cf c = false → B = false from fun q => by
          rw [HB2.out, List.all_eq_false]
          exact ⟨c, List.mem_of_getElem? HX.out, by simp [q]⟩)
        have HYES := hid (show cf c = true → ∀ (l : Nat) d, l < k + 1 → cs[l]? = some d → cf d = true from fun q l d q1 q2 => by
          by_cases e : l = k
          · subst e
            rw [HX.out] at q2
            injection q2 with q2
            rw [← q2]
            exact q
          · exact HAL.out l d (by omega) q2)
        obtain ⟨s, a, b, dd⟩ := c
        simp only at c0 c1 c2 c3
        have HCF := hid (show cf ⟨s, a, b, dd⟩ = (rg a && rg b && rg dd && (!s || decide (dd = 0))) from rfl)
        clear hv2 hv3 hcs hx hcap hgl
        cases r1 : rg a with
        | false =>
          have hb : B = false := HNO.out (by rw [HCF.out]; simp [r1])
          subst hb
          go_wp2_with (go_at_call 50; refine (HRE.out _ _).mono ?_; rintro e w5 ⟨rfl, hw⟩; have hw := hw.symm; subst hw)
          go_ret
          exact ⟨rfl, Ch.alloc HG.out _⟩
        | true =>
          cases r2 : rg b with
          | false =>
            have hb : B = false := HNO.out (by rw [HCF.out]; simp [r2])
            subst hb
            go_wp2_with (go_at_call 50; refine (HRE.out _ _).mono ?_; rintro e w5 ⟨rfl, hw⟩; have hw := hw.symm; subst hw)
            go_ret
            exact ⟨rfl, Ch.alloc HG.out _⟩
          | true =>
            cases r3 : rg dd with
            | false =>
              have hb : B = false := HNO.out (by rw [HCF.out]; simp [r3])
              subst hb
              go_wp2_with (go_at_call 50; refine (HRE.out _ _).mono ?_; rintro e w5 ⟨rfl, hw⟩; have hw := hw.symm; subst hw)
              go_ret
              exact ⟨rfl, Ch.alloc HG.out _⟩
            | true =>
              cases s with
              | false =>
                have HY := hid (HYES.out (by rw [HCF.out]; simp [r1, r2, r3]))
                go_wp2_with (go_at_call 50; refine (HRE.out _ _).mono ?_; rintro e w5 ⟨rfl, hw⟩; have hw := hw.symm; subst hw)
                go_roundg (gk - 1)
                case measure => omega
                case rel => exact ⟨k + 1, by omega, by simp, HY.out, Ch.alloc HG.out _, al_blk HK.out _⟩
              | true =>
                by_cases hd : dd = 0
                · subst hd
                  have HY := hid (HYES.out (by rw [HCF.out]; simp [r1, r2, r3]))
                  go_wp2_with (go_at_call 50; refine (HRE.out _ _).mono ?_; rintro e w5 ⟨rfl, hw⟩; have hw := hw.symm; subst hw)
                  go_roundg (gk - 1)
                  case measure => omega
                  case rel => exact ⟨k + 1, by omega, by simp, HY.out, Ch.alloc HG.out _, al_blk HK.out _⟩
                · have hd' : (dd == 0) = false := by simpa using hd
                  have hb : B = false := HNO.out (by rw [HCF.out]; simp [hd])
                  subst hb
                  go_wp2_with (go_at_call 50; refine (HRE.out _ _).mono ?_; rintro e w5 ⟨rfl, hw⟩; have hw := hw.symm; subst hw)
                  go_ret
                  exact ⟨rfl, Ch.alloc HG.out _⟩
      · have kn : ¬ (k : Int) < (nq : Int) := by omega
        have hb : B = true := by
          rw [HB2.out, List.all_eq_true]
          intro c hc
          obtain ⟨l, hl⟩ := List.getElem?_of_mem hc
          exact HAL.out l c (by have := (List.getElem?_eq_some_iff.1 hl).1; rw [← HN.out] at this; omega) hl
        subst hb
        go_wp2
        go_ret
        exact ⟨rfl, HG.out⟩
end Go.Proofs.YtollfepggicehabDoor.Lt
