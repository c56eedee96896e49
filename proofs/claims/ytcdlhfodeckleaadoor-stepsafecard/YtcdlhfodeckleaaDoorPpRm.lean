/-
  What the document's parts, table and in answer. Conditions: lists are no longer than they may be.
  What the document's wrong answers. Conditions: the functions part the code; words are words.
  What the document's Check answers: as the program's. Condition: words are words.
-/
import Derived.Test.YtcdlhfodeckleaaDoorPpSt
namespace Go.Proofs.YtcdlhfodeckleaaDoor.Lt
open Go.RowKit Wd

/-- the number of the first function that does not fit, -1: they part the code -/
def pN (fs : List (Int × Int)) (nc : Nat) : Int := if (cF fs nc).2 = 0 then -1 else (cF fs nc).1
theorem eA_succ {fs : List (Int × Int)} {j : Nat} {f : Int × Int} (h : fs[j]? = some f) : eA fs (j + 1) = f.2 := by
  unfold eA
  rw [if_neg (by omega), show j + 1 - 1 = j by omega, h]
  rfl
set_option maxHeartbeats 1000000 in
set_option maxRecDepth 20000 in
theorem rparts_any (P : Nat → Prop) (w : World) (vc vf vt : Value) (cs : List Int) (fs : List (Int × Int)) (ts : List Tb) (h : Pin P w vc vf vt cs fs ts) (hl : fs.length ≤ 256) :
    Calls Tryd.prog 43 #[.agg #[vc, vf, vt]] w fun e w' => e = .returned (.int .i64 (pN fs cs.length)) ∧ Gr w w' := by
  obtain ⟨aoc, cac, hia⟩ := h.c.form
  obtain ⟨aof, caf, hib⟩ := h.f.form
  obtain ⟨aot, cat, hic⟩ := h.t.form
  have HF := hid h.f
  obtain ⟨nc, hnc⟩ : ∃ n, n = cs.length := ⟨_, rfl⟩
  obtain ⟨nf, hnf⟩ : ∃ n, n = fs.length := ⟨_, rfl⟩
  rw [← hnc] at hia ⊢
  rw [← hnf] at hib hl
  obtain ⟨R, hR⟩ : ∃ r, r = pN fs nc := ⟨_, rfl⟩
  rw [← hR]
  have HR := hid hR
  have HBAD := hid (show ∀ j, j < nf → (∀ l, l < j → fB fs nc l = 0) → fB fs nc j ≠ 0 → R = (j : Nat) from fun j h1 h2 h3 => by
    have e : fR (fB fs nc) 0 fs.length = ((j : Int), fB fs nc j) := fR_at (Nat.zero_le _) (by rw [← hnf]; exact h1) (fun l _ q => h2 l q) h3
    rw [hR]
    unfold pN cF
    rw [e]
    simp [h3])
  have HEND := hid (show (∀ l, l < nf → fB fs nc l = 0) → R = if nf = 0 ∨ eA fs nf ≠ (nc : Int) then (nf : Int) else -1 from fun h2 => by
    have e : fR (fB fs nc) 0 fs.length = (0, 0) := fR_none (fun l _ q => h2 l (by rw [hnf]; exact q))
    rw [hR]
    unfold pN cF
    rw [e, ← hnf]
    by_cases q : nf = 0 ∨ eA fs nf ≠ (nc : Int)
    · simp [q]
    · simp [q])
  have HNF := hid hnf
  generalize ts.length = nt at hic
  subst hia hib hic
  have K1 := hid (Gr.alloc (Gr.refl w) #[.slice aoc nc cac, .slice aof nf caf, .slice aot nt cat] 26)
  have B1 := hid (MapKept.heap_alloc w (.cells #[.slice aoc nc cac, .slice aof nf caf, .slice aot nt cat] 26)).1
  clear h hnc hnf hR
  go_enter Tryd.func43, Tryd.ntmps43
  go_wp2_with fail
  go_loopg [3, 4] nf (fun m a i wq => ∃ (j : Nat) (x : Int), j + m = nf ∧ a = .int .i64 x ∧ i = .int .i64 ((j : Nat) : Int) ∧ x = eA fs j ∧ (∀ l, l < j → fB fs nc l = 0) ∧ Gr w wq ∧ wq.heap[w.heap.size]? = some (.cells #[.slice aoc nc cac, .slice aof nf caf, .slice aot nt cat] 26 (0, 0)))
  case atStart => exact ⟨0, 0, by omega, rfl, rfl, rfl, fun l q => by omega, K1.out, B1.out⟩
  case round =>
    clear K1 B1
    obtain ⟨j, x, hjk, rfl, rfl, hxe, hal, hgr, hbk⟩ := hrel
    have HX := hid hxe
    have HAL := hid hal
    have HG := hid hgr
    have HK := hid hbk
    have lk := lt_of_block hbk
    have n0 : wr.cell? ⟨w.heap.size, 0, none⟩ = some (.slice aoc nc cac) := (cell_of hbk 0).trans rfl
    have n1 : wr.cell? ⟨w.heap.size, 1, none⟩ = some (.slice aof nf caf) := (cell_of hbk 1).trans rfl
    clear hxe hal hgr hbk
    by_cases hj : j < nf
    · obtain ⟨⟨x1, x2⟩, hx⟩ : ∃ f, fs[j]? = some f := ⟨_, List.getElem?_eq_getElem (by rw [← HNF.out]; exact hj)⟩
      have HFB := hid (show fB fs nc j = if x1 ≠ x ∨ x2 ≤ x1 ∨ (nc : Int) < x2 then 81 else 0 by rw [HX.out]; unfold fB; rw [hx]; rfl)
      have HS := hid (eA_succ hx)
      obtain ⟨g, o, cap', hv, _, hgl, hcap, hcs⟩ := HF.out.get eG_len hx
      injection hv with hv1 hv2 hv3
      subst hv1
      have c0 := (HG.out.cell hgl).trans (hcs 0 _ rfl)
      have c1 := (HG.out.cell hgl).trans (hcs 1 _ rfl)
      rw [Nat.add_zero] at c0
      have gs := HG.out.size
      have lg : g < wr.heap.size := by omega
      have j0 : (0 : Int) ≤ (j : Int) := by omega
      have j1 : (j : Int) < (nf : Int) := by omega
      clear hv2 hv3 hcs hx hcap hgl
      by_cases e1 : x1 = x
      · subst e1
        by_cases e2 : x2 ≤ x1
        · have hb : R = (j : Nat) := HBAD.out j hj HAL.out (by rw [HFB.out]; simp [e2])
          have d2 : decide (x2 ≤ x1) = true := decide_eq_true e2
          subst hb
          go_wp2
          go_ret
          exact ⟨rfl, Ch.alloc HG.out _⟩
        · have d2 : decide (x2 ≤ x1) = false := decide_eq_false e2
          by_cases e3 : (nc : Int) < x2
          · have hb : R = (j : Nat) := HBAD.out j hj HAL.out (by rw [HFB.out]; simp [e3])
            have d3 : decide ((nc : Int) < x2) = true := decide_eq_true e3
            subst hb
            go_wp2
            go_ret
            exact ⟨rfl, Ch.alloc HG.out _⟩
          · have d3 : decide ((nc : Int) < x2) = false := decide_eq_false e3
            have HZ := hid (show fB fs nc j = 0 by rw [HFB.out]; simp; omega)
            go_wp2_with fail
            go_roundg (gk - 1)
            case measure => omega
            case rel =>
              refine ⟨j + 1, x2, by omega, rfl, by simp, HS.out.symm, fun l q => ?_, Ch.alloc HG.out _, al_blk HK.out _⟩
              by_cases e : l = j
              · rw [e]; exact HZ.out
              · exact HAL.out l (by omega)
      · have hb : R = (j : Nat) := HBAD.out j hj HAL.out (by rw [HFB.out]; simp [e1])
        have e1' : (x1 == x) = false := by simpa using e1
        subst hb
        go_wp2
        go_ret
        exact ⟨rfl, Ch.alloc HG.out _⟩
    · have jn : ¬ (j : Int) < (nf : Int) := by omega
      have HE := hid (HEND.out (fun l q => HAL.out l (by omega)))
      rw [show nf = j by omega, ← HX.out, show j = nf by omega] at HE
      by_cases h0 : nf = 0
      · have hb : R = 0 := by rw [HE.out]; simp [h0]
        subst hb h0
        go_wp2
        go_ret
        exact ⟨rfl, HG.out⟩
      · have h0' : ((nf : Int) == 0) = false := by simpa using h0
        by_cases hq : x = (nc : Int)
        · have hb : R = -1 := by rw [HE.out]; simp [h0, hq]
          subst hb hq
          go_wp2
          go_ret
          exact ⟨rfl, HG.out⟩
        · have hb : R = (nf : Nat) := by rw [HE.out]; simp [h0, hq]
          have hq' : (x == (nc : Int)) = false := by simpa using hq
          subst hb
          go_wp2
          go_ret
          exact ⟨rfl, HG.out⟩

/-- does function j hold the place? -/
def iF (fs : List (Int × Int)) (a : Int) (j : Nat) : Int := if (fs[j]?.getD (0, 0)).1 ≤ a ∧ a < (fs[j]?.getD (0, 0)).2 then 1 else 0
/-- the function of a place, -1: none -/
def inx (fs : List (Int × Int)) (a : Int) : Int := if (fR (iF fs a) 0 fs.length).2 = 0 then -1 else (fR (iF fs a) 0 fs.length).1
set_option maxHeartbeats 1000000 in
set_option maxRecDepth 20000 in
theorem rin_any (P : Nat → Prop) (w : World) (aoc aof aot : Option Addr) (nc nf nt cac caf cat : Nat) (fs : List (Int × Int)) (hf : Ls eG P w (.slice aof nf caf) fs) (a : Int) (hl : nf ≤ 256) :
    Calls Tryd.prog 54 #[.agg #[.slice aoc nc cac, .slice aof nf caf, .slice aot nt cat], .int .i64 a] w fun e w' => e = .returned (.int .i64 (inx fs a)) ∧ Gr w w' := by
  have hnf := hf.len.1
  have HF := hid hf
  obtain ⟨R, hR⟩ : ∃ r, r = inx fs a := ⟨_, rfl⟩
  rw [← hR]
  have HBAD := hid (show ∀ j, j < nf → (∀ l, l < j → iF fs a l = 0) → iF fs a j ≠ 0 → R = (j : Nat) from fun j h1 h2 h3 => by
    have e : fR (iF fs a) 0 fs.length = ((j : Int), iF fs a j) := fR_at (Nat.zero_le _) (by rw [← hnf]; exact h1) (fun l _ q => h2 l q) h3
    rw [hR]
    unfold inx
    rw [e]
    simp [h3])
  have HEND := hid (show (∀ l, l < nf → iF fs a l = 0) → R = -1 from fun h2 => by
    have e : fR (iF fs a) 0 fs.length = (0, 0) := fR_none (fun l _ q => h2 l (by rw [hnf]; exact q))
    rw [hR]
    unfold inx
    rw [e]
    rfl)
  have HNF := hid hnf
  have K1 := hid (Gr.alloc (Gr.refl w) #[.slice aoc nc cac, .slice aof nf caf, .slice aot nt cat] 26)
  have B1 := hid (MapKept.heap_alloc w (.cells #[.slice aoc nc cac, .slice aof nf caf, .slice aot nt cat] 26)).1
  clear hnf hR hf
  go_enter Tryd.func54, Tryd.ntmps54
  go_wp2_with fail
  go_loopg [5] nf (fun m i wq => ∃ (j : Nat), j + m = nf ∧ i = .int .i64 ((j : Nat) : Int) ∧ (∀ l, l < j → iF fs a l = 0) ∧ Gr w wq ∧ wq.heap[w.heap.size]? = some (.cells #[.slice aoc nc cac, .slice aof nf caf, .slice aot nt cat] 26 (0, 0)))
  case atStart => exact ⟨0, by omega, rfl, fun l q => by omega, K1.out, B1.out⟩
  case round =>
    clear K1 B1
    obtain ⟨j, hjk, rfl, hal, hgr, hbk⟩ := hrel
    have HAL := hid hal
    have HG := hid hgr
    have HK := hid hbk
    have lk := lt_of_block hbk
    have n1 : wr.cell? ⟨w.heap.size, 1, none⟩ = some (.slice aof nf caf) := (cell_of hbk 1).trans rfl
    clear hal hgr hbk
    by_cases hj : j < nf
    · obtain ⟨⟨x1, x2⟩, hx⟩ : ∃ f, fs[j]? = some f := ⟨_, List.getElem?_eq_getElem (by rw [← HNF.out]; exact hj)⟩
      have HFB := hid (show iF fs a j = if x1 ≤ a ∧ a < x2 then 1 else 0 by unfold iF; rw [hx]; rfl)
      obtain ⟨g, o, cap', hv, _, hgl, hcap, hcs⟩ := HF.out.get eG_len hx
      injection hv with hv1 hv2 hv3
      subst hv1
      have c0 := (HG.out.cell hgl).trans (hcs 0 _ rfl)
      have c1 := (HG.out.cell hgl).trans (hcs 1 _ rfl)
      rw [Nat.add_zero] at c0
      have gs := HG.out.size
      have lg : g < wr.heap.size := by omega
      have j0 : (0 : Int) ≤ (j : Int) := by omega
      have j1 : (j : Int) < (nf : Int) := by omega
      have HZ := hid (show iF fs a j = 0 → ∀ l, l < j + 1 → iF fs a l = 0 from fun q l q1 => by
        by_cases e : l = j
        · rw [e]; exact q
        · exact HAL.out l (by omega))
      clear hv2 hv3 hcs hx hcap hgl
      by_cases e1 : x1 ≤ a
      · have d1 : decide (x1 ≤ a) = true := decide_eq_true e1
        by_cases e2 : a < x2
        · have d2 : decide (a < x2) = true := decide_eq_true e2
          have hb : R = (j : Nat) := HBAD.out j hj HAL.out (by rw [HFB.out]; simp [e1, e2])
          subst hb
          go_wp2
          go_ret
          exact ⟨rfl, HG.out⟩
        · have d2 : decide (a < x2) = false := decide_eq_false e2
          have HY := hid (HZ.out (by rw [HFB.out]; simp [e2]))
          go_wp2_with fail
          go_roundg (gk - 1)
          case measure => omega
          case rel => exact ⟨j + 1, by omega, by simp, HY.out, HG.out, HK.out⟩
      · have d1 : decide (x1 ≤ a) = false := decide_eq_false e1
        have HY := hid (HZ.out (by rw [HFB.out]; simp [e1]))
        go_wp2_with fail
        go_roundg (gk - 1)
        case measure => omega
        case rel => exact ⟨j + 1, by omega, by simp, HY.out, HG.out, HK.out⟩
    · have jn : ¬ (j : Int) < (nf : Int) := by omega
      have hb : R = -1 := HEND.out (fun l q => HAL.out l (by omega))
      subst hb
      go_wp2
      go_ret
      exact ⟨rfl, HG.out⟩

/-- may a table be? -/
def tOk (t : List Cs) : Bool := decide (t.length ≤ 16) && t.all cf
set_option maxHeartbeats 1000000 in
set_option maxRecDepth 20000 in
theorem rtable_any (P : Nat → Prop) (w : World) (v : Value) (d : Bool) (cs : List Cs) (h : Ls eC P w v cs) :
    Calls Tryd.prog 44 #[.agg #[v, .bool d]] w fun e w' => e = .returned (.bool (tOk cs)) ∧ Gr w w' := by
  obtain ⟨aq, cq, hv⟩ := h.form
  have HC := hid h
  obtain ⟨B, hB⟩ : ∃ r, r = tOk cs := ⟨_, rfl⟩
  rw [← hB]
  unfold tOk at hB
  obtain ⟨nq, hnq⟩ : ∃ n, n = cs.length := ⟨_, rfl⟩
  rw [← hnq] at hv hB
  have HB := hid hB
  have HN := hid hnq
  subst hv
  have HRE := hid (fun (n : Int) (W : World) => rreg_any n W)
  have K1 := hid (Gr.alloc (Gr.refl w) #[.slice aq nq cq, .bool d] 93)
  have B1 := hid (MapKept.heap_alloc w (.cells #[.slice aq nq cq, .bool d] 93)).1
  clear h hB hnq
  by_cases h16 : 16 < nq
  · have hb : B = false := by rw [HB.out]; simp; omega
    have h16' : (16 : Int) < (nq : Int) := by omega
    subst hb
    go_enter Tryd.func44, Tryd.ntmps44
    go_wp2
    go_ret
    exact ⟨rfl, K1.out⟩
  · have h16' : ¬ (16 : Int) < (nq : Int) := by omega
    have HB2 := hid (show B = cs.all cf by rw [HB.out]; simp; omega)
    go_enter Tryd.func44, Tryd.ntmps44
    go_wp2_with fail
    go_loopg [3] nq (fun m i wq => ∃ (j : Nat), j + m = nq ∧ i = .int .i64 ((j : Nat) : Int) ∧ (∀ (l : Nat) c, l < j → cs[l]? = some c → cf c = true) ∧ Gr w wq ∧ wq.heap[w.heap.size]? = some (.cells #[.slice aq nq cq, .bool d] 93 (0, 0)))
    case atStart => exact ⟨0, by omega, rfl, fun l c q => by omega, K1.out, B1.out⟩
    case round =>
      clear K1 B1
      obtain ⟨k, hjk, rfl, hal, hgr, hbk⟩ := hrel
      have HAL := hid hal
      have HG := hid hgr
      have HK := hid hbk
      have lk := lt_of_block hbk
      have n0 : wr.cell? ⟨w.heap.size, 0, none⟩ = some (.slice aq nq cq) := (cell_of hbk 0).trans rfl
      clear hal hgr hbk
      by_cases hk : k < nq
      · obtain ⟨c, hx⟩ : ∃ x, cs[k]? = some x := ⟨_, List.getElem?_eq_getElem (by rw [← HN.out]; exact hk)⟩
        have HX := hid hx
        obtain ⟨gq, oq, cap', hv, _, hgl, hcap, hcs⟩ := HC.out.get eC_len hx
        injection hv with hv1 hv2 hv3
        subst hv1
        have c0 := (HG.out.cell hgl).trans (hcs 0 _ rfl)
        have c1 := (HG.out.cell hgl).trans (hcs 1 _ rfl)
        have c2 := (HG.out.cell hgl).trans (hcs 2 _ rfl)
        have c3 := (HG.out.cell hgl).trans (hcs 3 _ rfl)
        rw [Nat.add_zero] at c0
        have gs := HG.out.size
        have lq : gq < wr.heap.size := by omega
        have q0 : (0 : Int) ≤ (k : Int) := by omega
        have q1 : (k : Int) < (nq : Int) := by omega
        have HNO := hid (show cf c = false → B = false from fun q => by
          rw [HB2.out, List.all_eq_false]
          exact ⟨c, List.mem_of_getElem? HX.out, by simp [q]⟩)
        have HYES := hid (show cf c = true → ∀ (l : Nat) d, l < k + 1 → cs[l]? = some d → cf d = true from fun q l d q1 q2 => by
          by_cases e : l = k
          · subst e
            rw [HX.out] at q2
            injection q2 with q2
            rw [← q2]
            exact q
          · exact HAL.out l d (by omega) q2)
        obtain ⟨s, a, b, dd⟩ := c
        simp only at c0 c1 c2 c3
        have HCF := hid (show cf ⟨s, a, b, dd⟩ = (rgB a && rgB b && rgB dd && (!s || decide (dd = 0))) from rfl)
        clear hv2 hv3 hcs hx hcap hgl
        cases r1 : rgB a with
        | false =>
          have hb : B = false := HNO.out (by rw [HCF.out]; simp [r1])
          subst hb
          go_wp2_with (go_at_call 53; refine (HRE.out _ _).mono ?_; rintro e w5 ⟨rfl, hw⟩; have hw := hw.symm; subst hw)
          go_ret
          exact ⟨rfl, Ch.alloc HG.out _⟩
        | true =>
          cases r2 : rgB b with
          | false =>
            have hb : B = false := HNO.out (by rw [HCF.out]; simp [r2])
            subst hb
            go_wp2_with (go_at_call 53; refine (HRE.out _ _).mono ?_; rintro e w5 ⟨rfl, hw⟩; have hw := hw.symm; subst hw)
            go_ret
            exact ⟨rfl, Ch.alloc HG.out _⟩
          | true =>
            cases r3 : rgB dd with
            | false =>
              have hb : B = false := HNO.out (by rw [HCF.out]; simp [r3])
              subst hb
              go_wp2_with (go_at_call 53; refine (HRE.out _ _).mono ?_; rintro e w5 ⟨rfl, hw⟩; have hw := hw.symm; subst hw)
              go_ret
              exact ⟨rfl, Ch.alloc HG.out _⟩
            | true =>
              cases s with
              | false =>
                have HY := hid (HYES.out (by rw [HCF.out]; simp [r1, r2, r3]))
                go_wp2_with (go_at_call 53; refine (HRE.out _ _).mono ?_; rintro e w5 ⟨rfl, hw⟩; have hw := hw.symm; subst hw)
                go_roundg (gk - 1)
                case measure => omega
                case rel => exact ⟨k + 1, by omega, by simp, HY.out, Ch.alloc HG.out _, al_blk HK.out _⟩
              | true =>
                by_cases hd : dd = 0
                · subst hd
                  have HY := hid (HYES.out (by rw [HCF.out]; simp [r1, r2, r3]))
                  go_wp2_with (go_at_call 53; refine (HRE.out _ _).mono ?_; rintro e w5 ⟨rfl, hw⟩; have hw := hw.symm; subst hw)
                  go_roundg (gk - 1)
                  case measure => omega
                  case rel => exact ⟨k + 1, by omega, by simp, HY.out, Ch.alloc HG.out _, al_blk HK.out _⟩
                · have hd' : (dd == 0) = false := by simpa using hd
                  have hb : B = false := HNO.out (by rw [HCF.out]; simp [hd])
                  subst hb
                  go_wp2_with (go_at_call 53; refine (HRE.out _ _).mono ?_; rintro e w5 ⟨rfl, hw⟩; have hw := hw.symm; subst hw)
                  go_ret
                  exact ⟨rfl, Ch.alloc HG.out _⟩
      · have kn : ¬ (k : Int) < (nq : Int) := by omega
        have hb : B = true := by
          rw [HB2.out, List.all_eq_true]
          intro c hc
          obtain ⟨l, hl⟩ := List.getElem?_of_mem hc
          exact HAL.out l c (by have := (List.getElem?_eq_some_iff.1 hl).1; rw [← HN.out] at this; omega) hl
        subst hb
        go_wp2
        go_ret
        exact ⟨rfl, HG.out⟩
end Go.Proofs.YtcdlhfodeckleaaDoor.Lt

namespace Go.Proofs.YtcdlhfodeckleaaDoor.Lt
open Go.RowKit Wd

/-- functions part the code: each begins where the one ahead ends, and has a word -/
structure Prt (fs : List (Int × Int)) (nc : Nat) : Prop where
  i : Inn fs nc
  b : ∀ (n : Nat) (f : Int × Int), fs[n]? = some f → f.1 = eA fs n
  z : fs.length ≠ 0
  e : eA fs fs.length = (nc : Int)
theorem prt_of {fs : List (Int × Int)} {nc : Nat} (h : (cF fs nc).2 = 0) : Prt fs nc := by
  obtain ⟨h1, h2, h3, h4⟩ := cF_in h
  refine ⟨h1, fun n f hf => ?_, h2, h3⟩
  have h5 := h4 n (List.getElem?_eq_some_iff.1 hf).1
  unfold fB at h5
  rw [hf] at h5
  simp only [Option.getD_some] at h5
  split at h5
  · cases h5
  · rename_i q
    exact Classical.byContradiction (fun e => q (.inl e))
theorem Prt.mono {fs : List (Int × Int)} {nc : Nat} (h : Prt fs nc) : ∀ (k j : Nat) (f g : Int × Int), j < k → fs[j]? = some f → fs[k]? = some g → f.2 ≤ g.1 := by
  intro k
  induction k with
  | zero => intro j f g q; omega
  | succ k ih =>
    intro j f g q hf hg
    have h1 := h.b _ _ hg
    obtain ⟨m, hm⟩ : ∃ m, fs[k]? = some m := ⟨_, List.getElem?_eq_getElem (by have := (List.getElem?_eq_some_iff.1 hg).1; omega)⟩
    rw [eA_succ hm] at h1
    by_cases e : j = k
    · subst e
      rw [hf] at hm
      injection hm with hm
      rw [hm]
      omega
    · have h2 := ih j f m (by omega) hf hm
      have h3 := h.i _ (List.mem_of_getElem? hm)
      omega
/-- a place lies in a function just if that is its number -/
theorem Prt.inx {fs : List (Int × Int)} {nc : Nat} (h : Prt fs nc) {j : Nat} {f : Int × Int} (hf : fs[j]? = some f) (a : Int) : inx fs a = (j : Int) ↔ (f.1 ≤ a ∧ a < f.2) := by
  have ev : ∀ l g, fs[l]? = some g → iF fs a l = if g.1 ≤ a ∧ a < g.2 then 1 else 0 := fun l g hg => by unfold iF; rw [hg]; rfl
  have hj := (List.getElem?_eq_some_iff.1 hf).1
  constructor
  · intro q
    unfold Lt.inx at q
    split at q
    · omega
    · rename_i hn
      unfold fR at q hn
      cases hfd : (List.range' 0 (fs.length - 0)).find? (fun n => decide (iF fs a n ≠ 0)) with
      | none => rw [hfd] at hn; exact absurd rfl hn
      | some m =>
        rw [hfd] at q
        simp only at q
        have hm : m = j := by omega
        have := List.find?_some hfd
        rw [hm, ev j f hf] at this
        by_cases hh : f.1 ≤ a ∧ a < f.2
        · exact hh
        · simp [hh] at this
  · intro q
    have e : fR (iF fs a) 0 fs.length = ((j : Int), iF fs a j) := fR_at (Nat.zero_le _) hj (fun l _ ql => by
      obtain ⟨g, hg⟩ : ∃ g, fs[l]? = some g := ⟨_, List.getElem?_eq_getElem (by omega)⟩
      have := h.mono j l g f ql hg hf
      rw [ev l g hg, if_neg (fun z => by omega)]) (by rw [ev j f hf, if_pos q]; decide)
    unfold Lt.inx
    rw [e, ev j f hf, if_pos q]
    rfl
/-- every place has its function -/
theorem Prt.has {fs : List (Int × Int)} {nc : Nat} (h : Prt fs nc) (a : Nat) (ha : a < nc) : ∃ (j : Nat) (f : Int × Int), fs[j]? = some f ∧ f.1 ≤ (a : Int) ∧ (a : Int) < f.2 := by
  have key : ∀ n, n ≤ fs.length → (a : Int) < eA fs n → ∃ (j : Nat) (f : Int × Int), fs[j]? = some f ∧ f.1 ≤ (a : Int) ∧ (a : Int) < f.2 := by
    intro n
    induction n with
    | zero => intro _ q; unfold eA at q; simp at q; omega
    | succ n ih =>
      intro hn q
      obtain ⟨f, hf⟩ : ∃ f, fs[n]? = some f := ⟨_, List.getElem?_eq_getElem (by omega)⟩
      rw [eA_succ hf] at q
      by_cases z : (a : Int) < f.1
      · exact ih (by omega) (by rw [← h.b n f hf]; exact z)
      · exact ⟨n, f, hf, by omega, q⟩
  exact key fs.length (Nat.le_refl _) (by rw [h.e]; omega)

set_option maxHeartbeats 8000000 in
set_option maxRecDepth 20000 in
theorem rwrong_any (P : Nat → Prop) (w : World) (aoc aof aot : Option Addr) (nc nf nt cac caf cat : Nat) (cs : List Int) (fs : List (Int × Int)) (h : Ls eU P w (.slice aoc nc cac) cs) (hf : Ls eG P w (.slice aof nf caf) fs) (hu : U32s cs) (hp : Prt fs nc) (hl : nf ≤ 256) (hc : nc ≤ 4096) (j : Nat) (x y : Int) (hj : fs[j]? = some (x, y)) (a : Nat) (n : Int) (hx : cs[a]? = some n) (hin : x ≤ (a : Int) ∧ (a : Int) < y) :
    Calls Tryd.prog 45 #[.agg #[.slice aoc nc cac, .slice aof nf caf, .slice aot nt cat], .int .i64 (a : Nat)] w fun e w' => e = .returned (.int .i64 (wE nf nt (x, y) (a : Nat) n)) ∧ Gr w w' := by
  obtain ⟨u0, u1⟩ := hu n (List.mem_of_getElem? hx)
  have HD := hid (fun (W : World) => rdecode_all n u0 u1 W)
  have hlen : a < nc := by rw [h.len.1]; exact (List.getElem?_eq_some_iff.1 hx).1
  have hjl : j < nf := by rw [hf.len.1]; exact (List.getElem?_eq_some_iff.1 hj).1
  have HI := hid (fun (W : World) (p : Gr w W) (b : Int) => rin_any P W aoc aof aot nc nf nt cac caf cat fs (hf.gr p) b hl)
  have HIX := hid (fun (b : Int) => hp.inx hj b)
  have hIA := (hp.inx hj (a : Int)).2 hin
  have hiy := hp.i _ (List.mem_of_getElem? hj)
  simp only at hiy HIX
  obtain ⟨g, o, cap', hv, _, hgl, _, hcs⟩ := h.get eU_len hx
  injection hv with hv1 hv2 hv3
  subst hv1
  obtain ⟨gf, of_, capf, hv, _, hglf, _, hcsf⟩ := hf.get eG_len hj
  injection hv with hw1 hw2 hw3
  subst hw1
  have c0 := hcs 0 _ rfl
  rw [Nat.mul_one, Nat.add_zero] at c0
  have HT1 := hid (show ∀ W, Gr w W → W.cell? ⟨gf, of_ + j * 2 + 1, none⟩ = some (.int .i64 y) from fun W k => (k.cell hglf).trans (hcsf 1 _ rfl))
  have HLF := hid (show ∀ W, Gr w W → gf < W.heap.size from fun W k => Nat.lt_of_lt_of_le hglf k.size)
  have HH := hid (fun (o : Int) (W : World) => jumps_any o W)
  have HN := hid (fun (o : Int) (W : World) => ends_any o W)
  have K1 := hid (Gr.alloc (Gr.refl w) #[.slice (some ⟨g, o, none⟩) nc cac, .slice (some ⟨gf, of_, none⟩) nf caf, .slice aot nt cat] 26)
  have B1 := hid (MapKept.heap_alloc w (.cells #[.slice (some ⟨g, o, none⟩) nc cac, .slice (some ⟨gf, of_, none⟩) nf caf, .slice aot nt cat] 26)).1
  have q0 : (0 : Int) ≤ (a : Int) := by omega
  have q1 : (a : Int) < (nc : Int) := by omega
  have jj0 : (0 : Int) ≤ (j : Int) := by omega
  have jj1 : (j : Int) < (nf : Int) := by omega
  obtain ⟨R, hR⟩ : ∃ r, r = wE nf nt (x, y) (a : Nat) n := ⟨_, rfl⟩
  rw [← hR]
  unfold wE at hR
  have HR := hid hR
  unfold iV at HD
  generalize dI n = I at HD HR
  generalize dE n = E at HD HR
  obtain ⟨o1, o2, o3, o4, im⟩ := I
  simp only at HD HR
  have HII := hid (fun (W : World) (p : Gr w W) => HI.out W p im)
  have HIA := hid (fun (W : World) (p : Gr w W) => HI.out W p (a : Int))
  rw [hIA] at HIA
  have hix := HIX.out im
  generalize inx fs im = ix at HII hix
  obtain ⟨hy0, hy1, hy2⟩ := hiy
  clear hR hv2 hv3 hcs hx h u0 u1 hu hf hp hj hw2 hw3 hcsf HI HIX hIA hglf
  by_cases hE : E = 0
  · subst hE
    cases k1 : hT o1 with
    | false =>
      clear hix HII
      by_cases c2 : o1 = 20 ∨ o1 = 22
      · by_cases i2 : (nf : Int) ≤ im
        · have j2 : decide ((nf : Int) ≤ im) = true := decide_eq_true i2
          rcases c2 with rfl | rfl
          · have hr : R = 81 := by rw [HR.out]; simp [k1, i2]
            subst hr
            go_enter Tryd.func45, Tryd.ntmps45
            go_wp2_with (first | (go_at_call 49; refine (HD.out _).mono ?_; rintro e w3 ⟨rfl, g3⟩; have G4 := hid (Gr.alloc (Gr.trans K1.out g3) #[.int .i64 (20 : Int), .int .i64 o2, .int .i64 o3, .int .i64 o4, .int .i64 im] 46); have b1 := gr_blk B1.out g3; have BB := hid (al_blk b1 (.cells #[.int .i64 (20 : Int), .int .i64 o2, .int .i64 o3, .int .i64 o4, .int .i64 im] 46)); have BI := hid (MapKept.heap_alloc w3 (.cells #[.int .i64 (20 : Int), .int .i64 o2, .int .i64 o3, .int .i64 o4, .int .i64 im] 46)).1; have lm := lt_of_block b1; have m0 : w3.cell? ⟨w.heap.size, 0, none⟩ = some (.slice (some ⟨g, o, none⟩) nc cac) := (cell_of b1 0).trans rfl; have m1 : w3.cell? ⟨w.heap.size, 1, none⟩ = some (.slice (some ⟨gf, of_, none⟩) nf caf) := (cell_of b1 1).trans rfl; have m2 : w3.cell? ⟨w.heap.size, 2, none⟩ = some (.slice aot nt cat) := (cell_of b1 2).trans rfl; clear g3 b1) | (go_at_call 54; refine (HII.out _ G5.out).mono ?_; rintro e w6 ⟨rfl, g6⟩; have G6 := hid (Gr.trans G5.out g6); have b6 := gr_blk B5.out g6; have i6 := gr_blk I5.out g6; have lv := lt_of_block b6; have v0 : w6.cell? ⟨w.heap.size, 0, none⟩ = some (.slice (some ⟨g, o, none⟩) nc cac) := (cell_of b6 0).trans rfl; have v1 : w6.cell? ⟨w.heap.size, 1, none⟩ = some (.slice (some ⟨gf, of_, none⟩) nf caf) := (cell_of b6 1).trans rfl; have v2 : w6.cell? ⟨w.heap.size, 2, none⟩ = some (.slice aot nt cat) := (cell_of b6 2).trans rfl; have u0 : w6.cell? ⟨w3.heap.size, 0, none⟩ = some (.int .i64 (20 : Int)) := (cell_of i6 0).trans rfl; have u4 : w6.cell? ⟨w3.heap.size, 4, none⟩ = some (.int .i64 im) := (cell_of i6 4).trans rfl; have lj := lt_of_block i6; have y6 := HT1.out w6 G6.out; have lf6 := HLF.out w6 G6.out; clear g6 b6 i6) | (go_at_call 54; refine (HIA.out _ G4.out).mono ?_; rintro e w5 ⟨rfl, g5⟩; have G5 := hid (Gr.trans G4.out g5); have b5 := gr_blk BB.out g5; have B5 := hid b5; have i5 := gr_blk BI.out g5; have I5 := hid i5; have ls := lt_of_block b5; have s0 : w5.cell? ⟨w.heap.size, 0, none⟩ = some (.slice (some ⟨g, o, none⟩) nc cac) := (cell_of b5 0).trans rfl; have s1 : w5.cell? ⟨w.heap.size, 1, none⟩ = some (.slice (some ⟨gf, of_, none⟩) nf caf) := (cell_of b5 1).trans rfl; have s2 : w5.cell? ⟨w.heap.size, 2, none⟩ = some (.slice aot nt cat) := (cell_of b5 2).trans rfl; have t0 : w5.cell? ⟨w3.heap.size, 0, none⟩ = some (.int .i64 (20 : Int)) := (cell_of i5 0).trans rfl; have t4 : w5.cell? ⟨w3.heap.size, 4, none⟩ = some (.int .i64 im) := (cell_of i5 4).trans rfl; have li := lt_of_block i5; have y5 := HT1.out w5 G5.out; have lf5 := HLF.out w5 G5.out; clear g5 b5 i5) | (go_at_call 55; refine (HH.out _ _).mono ?_; rintro e w4 ⟨rfl, hw⟩; have hw := hw.symm; subst hw) | (go_at_call 56; refine (HN.out _ _).mono ?_; rintro e w4 ⟨rfl, hw⟩; have hw := hw.symm; subst hw))
            go_ret
            exact ⟨rfl, G5.out⟩
          · have hr : R = 81 := by rw [HR.out]; simp [k1, i2]
            subst hr
            go_enter Tryd.func45, Tryd.ntmps45
            go_wp2_with (first | (go_at_call 49; refine (HD.out _).mono ?_; rintro e w3 ⟨rfl, g3⟩; have G4 := hid (Gr.alloc (Gr.trans K1.out g3) #[.int .i64 (22 : Int), .int .i64 o2, .int .i64 o3, .int .i64 o4, .int .i64 im] 46); have b1 := gr_blk B1.out g3; have BB := hid (al_blk b1 (.cells #[.int .i64 (22 : Int), .int .i64 o2, .int .i64 o3, .int .i64 o4, .int .i64 im] 46)); have BI := hid (MapKept.heap_alloc w3 (.cells #[.int .i64 (22 : Int), .int .i64 o2, .int .i64 o3, .int .i64 o4, .int .i64 im] 46)).1; have lm := lt_of_block b1; have m0 : w3.cell? ⟨w.heap.size, 0, none⟩ = some (.slice (some ⟨g, o, none⟩) nc cac) := (cell_of b1 0).trans rfl; have m1 : w3.cell? ⟨w.heap.size, 1, none⟩ = some (.slice (some ⟨gf, of_, none⟩) nf caf) := (cell_of b1 1).trans rfl; have m2 : w3.cell? ⟨w.heap.size, 2, none⟩ = some (.slice aot nt cat) := (cell_of b1 2).trans rfl; clear g3 b1) | (go_at_call 54; refine (HII.out _ G5.out).mono ?_; rintro e w6 ⟨rfl, g6⟩; have G6 := hid (Gr.trans G5.out g6); have b6 := gr_blk B5.out g6; have i6 := gr_blk I5.out g6; have lv := lt_of_block b6; have v0 : w6.cell? ⟨w.heap.size, 0, none⟩ = some (.slice (some ⟨g, o, none⟩) nc cac) := (cell_of b6 0).trans rfl; have v1 : w6.cell? ⟨w.heap.size, 1, none⟩ = some (.slice (some ⟨gf, of_, none⟩) nf caf) := (cell_of b6 1).trans rfl; have v2 : w6.cell? ⟨w.heap.size, 2, none⟩ = some (.slice aot nt cat) := (cell_of b6 2).trans rfl; have u0 : w6.cell? ⟨w3.heap.size, 0, none⟩ = some (.int .i64 (22 : Int)) := (cell_of i6 0).trans rfl; have u4 : w6.cell? ⟨w3.heap.size, 4, none⟩ = some (.int .i64 im) := (cell_of i6 4).trans rfl; have lj := lt_of_block i6; have y6 := HT1.out w6 G6.out; have lf6 := HLF.out w6 G6.out; clear g6 b6 i6) | (go_at_call 54; refine (HIA.out _ G4.out).mono ?_; rintro e w5 ⟨rfl, g5⟩; have G5 := hid (Gr.trans G4.out g5); have b5 := gr_blk BB.out g5; have B5 := hid b5; have i5 := gr_blk BI.out g5; have I5 := hid i5; have ls := lt_of_block b5; have s0 : w5.cell? ⟨w.heap.size, 0, none⟩ = some (.slice (some ⟨g, o, none⟩) nc cac) := (cell_of b5 0).trans rfl; have s1 : w5.cell? ⟨w.heap.size, 1, none⟩ = some (.slice (some ⟨gf, of_, none⟩) nf caf) := (cell_of b5 1).trans rfl; have s2 : w5.cell? ⟨w.heap.size, 2, none⟩ = some (.slice aot nt cat) := (cell_of b5 2).trans rfl; have t0 : w5.cell? ⟨w3.heap.size, 0, none⟩ = some (.int .i64 (22 : Int)) := (cell_of i5 0).trans rfl; have t4 : w5.cell? ⟨w3.heap.size, 4, none⟩ = some (.int .i64 im) := (cell_of i5 4).trans rfl; have li := lt_of_block i5; have y5 := HT1.out w5 G5.out; have lf5 := HLF.out w5 G5.out; clear g5 b5 i5) | (go_at_call 55; refine (HH.out _ _).mono ?_; rintro e w4 ⟨rfl, hw⟩; have hw := hw.symm; subst hw) | (go_at_call 56; refine (HN.out _ _).mono ?_; rintro e w4 ⟨rfl, hw⟩; have hw := hw.symm; subst hw))
            go_ret
            exact ⟨rfl, G5.out⟩
        · have j2 : decide ((nf : Int) ≤ im) = false := decide_eq_false i2
          rcases c2 with rfl | rfl
          · by_cases c4 : (a : Int) = y - 1
            · obtain rfl : y = (a : Int) + 1 := by omega
              clear c4
              have k4 : en (20 : Int) = false := rfl
              have hr : R = 84 := by rw [HR.out]; simp [k1, i2, k4]
              subst hr
              go_enter Tryd.func45, Tryd.ntmps45
              go_wp2_with (first | (go_at_call 49; refine (HD.out _).mono ?_; rintro e w3 ⟨rfl, g3⟩; have G4 := hid (Gr.alloc (Gr.trans K1.out g3) #[.int .i64 (20 : Int), .int .i64 o2, .int .i64 o3, .int .i64 o4, .int .i64 im] 46); have b1 := gr_blk B1.out g3; have BB := hid (al_blk b1 (.cells #[.int .i64 (20 : Int), .int .i64 o2, .int .i64 o3, .int .i64 o4, .int .i64 im] 46)); have BI := hid (MapKept.heap_alloc w3 (.cells #[.int .i64 (20 : Int), .int .i64 o2, .int .i64 o3, .int .i64 o4, .int .i64 im] 46)).1; have lm := lt_of_block b1; have m0 : w3.cell? ⟨w.heap.size, 0, none⟩ = some (.slice (some ⟨g, o, none⟩) nc cac) := (cell_of b1 0).trans rfl; have m1 : w3.cell? ⟨w.heap.size, 1, none⟩ = some (.slice (some ⟨gf, of_, none⟩) nf caf) := (cell_of b1 1).trans rfl; have m2 : w3.cell? ⟨w.heap.size, 2, none⟩ = some (.slice aot nt cat) := (cell_of b1 2).trans rfl; clear g3 b1) | (go_at_call 54; refine (HII.out _ G5.out).mono ?_; rintro e w6 ⟨rfl, g6⟩; have G6 := hid (Gr.trans G5.out g6); have b6 := gr_blk B5.out g6; have i6 := gr_blk I5.out g6; have lv := lt_of_block b6; have v0 : w6.cell? ⟨w.heap.size, 0, none⟩ = some (.slice (some ⟨g, o, none⟩) nc cac) := (cell_of b6 0).trans rfl; have v1 : w6.cell? ⟨w.heap.size, 1, none⟩ = some (.slice (some ⟨gf, of_, none⟩) nf caf) := (cell_of b6 1).trans rfl; have v2 : w6.cell? ⟨w.heap.size, 2, none⟩ = some (.slice aot nt cat) := (cell_of b6 2).trans rfl; have u0 : w6.cell? ⟨w3.heap.size, 0, none⟩ = some (.int .i64 (20 : Int)) := (cell_of i6 0).trans rfl; have u4 : w6.cell? ⟨w3.heap.size, 4, none⟩ = some (.int .i64 im) := (cell_of i6 4).trans rfl; have lj := lt_of_block i6; have y6 := HT1.out w6 G6.out; have lf6 := HLF.out w6 G6.out; clear g6 b6 i6) | (go_at_call 54; refine (HIA.out _ G4.out).mono ?_; rintro e w5 ⟨rfl, g5⟩; have G5 := hid (Gr.trans G4.out g5); have b5 := gr_blk BB.out g5; have B5 := hid b5; have i5 := gr_blk BI.out g5; have I5 := hid i5; have ls := lt_of_block b5; have s0 : w5.cell? ⟨w.heap.size, 0, none⟩ = some (.slice (some ⟨g, o, none⟩) nc cac) := (cell_of b5 0).trans rfl; have s1 : w5.cell? ⟨w.heap.size, 1, none⟩ = some (.slice (some ⟨gf, of_, none⟩) nf caf) := (cell_of b5 1).trans rfl; have s2 : w5.cell? ⟨w.heap.size, 2, none⟩ = some (.slice aot nt cat) := (cell_of b5 2).trans rfl; have t0 : w5.cell? ⟨w3.heap.size, 0, none⟩ = some (.int .i64 (20 : Int)) := (cell_of i5 0).trans rfl; have t4 : w5.cell? ⟨w3.heap.size, 4, none⟩ = some (.int .i64 im) := (cell_of i5 4).trans rfl; have li := lt_of_block i5; have y5 := HT1.out w5 G5.out; have lf5 := HLF.out w5 G5.out; clear g5 b5 i5) | (go_at_call 55; refine (HH.out _ _).mono ?_; rintro e w4 ⟨rfl, hw⟩; have hw := hw.symm; subst hw) | (go_at_call 56; refine (HN.out _ _).mono ?_; rintro e w4 ⟨rfl, hw⟩; have hw := hw.symm; subst hw))
              go_ret
              exact ⟨rfl, G5.out⟩
            · have c4' : ((a : Int) == y - 1) = false := by simpa using c4
              have hr : R = 0 := by rw [HR.out]; simp [k1, i2, c4]
              subst hr
              go_enter Tryd.func45, Tryd.ntmps45
              go_wp2_with (first | (go_at_call 49; refine (HD.out _).mono ?_; rintro e w3 ⟨rfl, g3⟩; have G4 := hid (Gr.alloc (Gr.trans K1.out g3) #[.int .i64 (20 : Int), .int .i64 o2, .int .i64 o3, .int .i64 o4, .int .i64 im] 46); have b1 := gr_blk B1.out g3; have BB := hid (al_blk b1 (.cells #[.int .i64 (20 : Int), .int .i64 o2, .int .i64 o3, .int .i64 o4, .int .i64 im] 46)); have BI := hid (MapKept.heap_alloc w3 (.cells #[.int .i64 (20 : Int), .int .i64 o2, .int .i64 o3, .int .i64 o4, .int .i64 im] 46)).1; have lm := lt_of_block b1; have m0 : w3.cell? ⟨w.heap.size, 0, none⟩ = some (.slice (some ⟨g, o, none⟩) nc cac) := (cell_of b1 0).trans rfl; have m1 : w3.cell? ⟨w.heap.size, 1, none⟩ = some (.slice (some ⟨gf, of_, none⟩) nf caf) := (cell_of b1 1).trans rfl; have m2 : w3.cell? ⟨w.heap.size, 2, none⟩ = some (.slice aot nt cat) := (cell_of b1 2).trans rfl; clear g3 b1) | (go_at_call 54; refine (HII.out _ G5.out).mono ?_; rintro e w6 ⟨rfl, g6⟩; have G6 := hid (Gr.trans G5.out g6); have b6 := gr_blk B5.out g6; have i6 := gr_blk I5.out g6; have lv := lt_of_block b6; have v0 : w6.cell? ⟨w.heap.size, 0, none⟩ = some (.slice (some ⟨g, o, none⟩) nc cac) := (cell_of b6 0).trans rfl; have v1 : w6.cell? ⟨w.heap.size, 1, none⟩ = some (.slice (some ⟨gf, of_, none⟩) nf caf) := (cell_of b6 1).trans rfl; have v2 : w6.cell? ⟨w.heap.size, 2, none⟩ = some (.slice aot nt cat) := (cell_of b6 2).trans rfl; have u0 : w6.cell? ⟨w3.heap.size, 0, none⟩ = some (.int .i64 (20 : Int)) := (cell_of i6 0).trans rfl; have u4 : w6.cell? ⟨w3.heap.size, 4, none⟩ = some (.int .i64 im) := (cell_of i6 4).trans rfl; have lj := lt_of_block i6; have y6 := HT1.out w6 G6.out; have lf6 := HLF.out w6 G6.out; clear g6 b6 i6) | (go_at_call 54; refine (HIA.out _ G4.out).mono ?_; rintro e w5 ⟨rfl, g5⟩; have G5 := hid (Gr.trans G4.out g5); have b5 := gr_blk BB.out g5; have B5 := hid b5; have i5 := gr_blk BI.out g5; have I5 := hid i5; have ls := lt_of_block b5; have s0 : w5.cell? ⟨w.heap.size, 0, none⟩ = some (.slice (some ⟨g, o, none⟩) nc cac) := (cell_of b5 0).trans rfl; have s1 : w5.cell? ⟨w.heap.size, 1, none⟩ = some (.slice (some ⟨gf, of_, none⟩) nf caf) := (cell_of b5 1).trans rfl; have s2 : w5.cell? ⟨w.heap.size, 2, none⟩ = some (.slice aot nt cat) := (cell_of b5 2).trans rfl; have t0 : w5.cell? ⟨w3.heap.size, 0, none⟩ = some (.int .i64 (20 : Int)) := (cell_of i5 0).trans rfl; have t4 : w5.cell? ⟨w3.heap.size, 4, none⟩ = some (.int .i64 im) := (cell_of i5 4).trans rfl; have li := lt_of_block i5; have y5 := HT1.out w5 G5.out; have lf5 := HLF.out w5 G5.out; clear g5 b5 i5) | (go_at_call 55; refine (HH.out _ _).mono ?_; rintro e w4 ⟨rfl, hw⟩; have hw := hw.symm; subst hw) | (go_at_call 56; refine (HN.out _ _).mono ?_; rintro e w4 ⟨rfl, hw⟩; have hw := hw.symm; subst hw))
              go_ret
              exact ⟨rfl, G5.out⟩
          · by_cases c4 : (a : Int) = y - 1
            · obtain rfl : y = (a : Int) + 1 := by omega
              clear c4
              have k4 : en (22 : Int) = false := rfl
              have hr : R = 84 := by rw [HR.out]; simp [k1, i2, k4]
              subst hr
              go_enter Tryd.func45, Tryd.ntmps45
              go_wp2_with (first | (go_at_call 49; refine (HD.out _).mono ?_; rintro e w3 ⟨rfl, g3⟩; have G4 := hid (Gr.alloc (Gr.trans K1.out g3) #[.int .i64 (22 : Int), .int .i64 o2, .int .i64 o3, .int .i64 o4, .int .i64 im] 46); have b1 := gr_blk B1.out g3; have BB := hid (al_blk b1 (.cells #[.int .i64 (22 : Int), .int .i64 o2, .int .i64 o3, .int .i64 o4, .int .i64 im] 46)); have BI := hid (MapKept.heap_alloc w3 (.cells #[.int .i64 (22 : Int), .int .i64 o2, .int .i64 o3, .int .i64 o4, .int .i64 im] 46)).1; have lm := lt_of_block b1; have m0 : w3.cell? ⟨w.heap.size, 0, none⟩ = some (.slice (some ⟨g, o, none⟩) nc cac) := (cell_of b1 0).trans rfl; have m1 : w3.cell? ⟨w.heap.size, 1, none⟩ = some (.slice (some ⟨gf, of_, none⟩) nf caf) := (cell_of b1 1).trans rfl; have m2 : w3.cell? ⟨w.heap.size, 2, none⟩ = some (.slice aot nt cat) := (cell_of b1 2).trans rfl; clear g3 b1) | (go_at_call 54; refine (HII.out _ G5.out).mono ?_; rintro e w6 ⟨rfl, g6⟩; have G6 := hid (Gr.trans G5.out g6); have b6 := gr_blk B5.out g6; have i6 := gr_blk I5.out g6; have lv := lt_of_block b6; have v0 : w6.cell? ⟨w.heap.size, 0, none⟩ = some (.slice (some ⟨g, o, none⟩) nc cac) := (cell_of b6 0).trans rfl; have v1 : w6.cell? ⟨w.heap.size, 1, none⟩ = some (.slice (some ⟨gf, of_, none⟩) nf caf) := (cell_of b6 1).trans rfl; have v2 : w6.cell? ⟨w.heap.size, 2, none⟩ = some (.slice aot nt cat) := (cell_of b6 2).trans rfl; have u0 : w6.cell? ⟨w3.heap.size, 0, none⟩ = some (.int .i64 (22 : Int)) := (cell_of i6 0).trans rfl; have u4 : w6.cell? ⟨w3.heap.size, 4, none⟩ = some (.int .i64 im) := (cell_of i6 4).trans rfl; have lj := lt_of_block i6; have y6 := HT1.out w6 G6.out; have lf6 := HLF.out w6 G6.out; clear g6 b6 i6) | (go_at_call 54; refine (HIA.out _ G4.out).mono ?_; rintro e w5 ⟨rfl, g5⟩; have G5 := hid (Gr.trans G4.out g5); have b5 := gr_blk BB.out g5; have B5 := hid b5; have i5 := gr_blk BI.out g5; have I5 := hid i5; have ls := lt_of_block b5; have s0 : w5.cell? ⟨w.heap.size, 0, none⟩ = some (.slice (some ⟨g, o, none⟩) nc cac) := (cell_of b5 0).trans rfl; have s1 : w5.cell? ⟨w.heap.size, 1, none⟩ = some (.slice (some ⟨gf, of_, none⟩) nf caf) := (cell_of b5 1).trans rfl; have s2 : w5.cell? ⟨w.heap.size, 2, none⟩ = some (.slice aot nt cat) := (cell_of b5 2).trans rfl; have t0 : w5.cell? ⟨w3.heap.size, 0, none⟩ = some (.int .i64 (22 : Int)) := (cell_of i5 0).trans rfl; have t4 : w5.cell? ⟨w3.heap.size, 4, none⟩ = some (.int .i64 im) := (cell_of i5 4).trans rfl; have li := lt_of_block i5; have y5 := HT1.out w5 G5.out; have lf5 := HLF.out w5 G5.out; clear g5 b5 i5) | (go_at_call 55; refine (HH.out _ _).mono ?_; rintro e w4 ⟨rfl, hw⟩; have hw := hw.symm; subst hw) | (go_at_call 56; refine (HN.out _ _).mono ?_; rintro e w4 ⟨rfl, hw⟩; have hw := hw.symm; subst hw))
              go_ret
              exact ⟨rfl, G5.out⟩
            · have c4' : ((a : Int) == y - 1) = false := by simpa using c4
              have hr : R = 0 := by rw [HR.out]; simp [k1, i2, c4]
              subst hr
              go_enter Tryd.func45, Tryd.ntmps45
              go_wp2_with (first | (go_at_call 49; refine (HD.out _).mono ?_; rintro e w3 ⟨rfl, g3⟩; have G4 := hid (Gr.alloc (Gr.trans K1.out g3) #[.int .i64 (22 : Int), .int .i64 o2, .int .i64 o3, .int .i64 o4, .int .i64 im] 46); have b1 := gr_blk B1.out g3; have BB := hid (al_blk b1 (.cells #[.int .i64 (22 : Int), .int .i64 o2, .int .i64 o3, .int .i64 o4, .int .i64 im] 46)); have BI := hid (MapKept.heap_alloc w3 (.cells #[.int .i64 (22 : Int), .int .i64 o2, .int .i64 o3, .int .i64 o4, .int .i64 im] 46)).1; have lm := lt_of_block b1; have m0 : w3.cell? ⟨w.heap.size, 0, none⟩ = some (.slice (some ⟨g, o, none⟩) nc cac) := (cell_of b1 0).trans rfl; have m1 : w3.cell? ⟨w.heap.size, 1, none⟩ = some (.slice (some ⟨gf, of_, none⟩) nf caf) := (cell_of b1 1).trans rfl; have m2 : w3.cell? ⟨w.heap.size, 2, none⟩ = some (.slice aot nt cat) := (cell_of b1 2).trans rfl; clear g3 b1) | (go_at_call 54; refine (HII.out _ G5.out).mono ?_; rintro e w6 ⟨rfl, g6⟩; have G6 := hid (Gr.trans G5.out g6); have b6 := gr_blk B5.out g6; have i6 := gr_blk I5.out g6; have lv := lt_of_block b6; have v0 : w6.cell? ⟨w.heap.size, 0, none⟩ = some (.slice (some ⟨g, o, none⟩) nc cac) := (cell_of b6 0).trans rfl; have v1 : w6.cell? ⟨w.heap.size, 1, none⟩ = some (.slice (some ⟨gf, of_, none⟩) nf caf) := (cell_of b6 1).trans rfl; have v2 : w6.cell? ⟨w.heap.size, 2, none⟩ = some (.slice aot nt cat) := (cell_of b6 2).trans rfl; have u0 : w6.cell? ⟨w3.heap.size, 0, none⟩ = some (.int .i64 (22 : Int)) := (cell_of i6 0).trans rfl; have u4 : w6.cell? ⟨w3.heap.size, 4, none⟩ = some (.int .i64 im) := (cell_of i6 4).trans rfl; have lj := lt_of_block i6; have y6 := HT1.out w6 G6.out; have lf6 := HLF.out w6 G6.out; clear g6 b6 i6) | (go_at_call 54; refine (HIA.out _ G4.out).mono ?_; rintro e w5 ⟨rfl, g5⟩; have G5 := hid (Gr.trans G4.out g5); have b5 := gr_blk BB.out g5; have B5 := hid b5; have i5 := gr_blk BI.out g5; have I5 := hid i5; have ls := lt_of_block b5; have s0 : w5.cell? ⟨w.heap.size, 0, none⟩ = some (.slice (some ⟨g, o, none⟩) nc cac) := (cell_of b5 0).trans rfl; have s1 : w5.cell? ⟨w.heap.size, 1, none⟩ = some (.slice (some ⟨gf, of_, none⟩) nf caf) := (cell_of b5 1).trans rfl; have s2 : w5.cell? ⟨w.heap.size, 2, none⟩ = some (.slice aot nt cat) := (cell_of b5 2).trans rfl; have t0 : w5.cell? ⟨w3.heap.size, 0, none⟩ = some (.int .i64 (22 : Int)) := (cell_of i5 0).trans rfl; have t4 : w5.cell? ⟨w3.heap.size, 4, none⟩ = some (.int .i64 im) := (cell_of i5 4).trans rfl; have li := lt_of_block i5; have y5 := HT1.out w5 G5.out; have lf5 := HLF.out w5 G5.out; clear g5 b5 i5) | (go_at_call 55; refine (HH.out _ _).mono ?_; rintro e w4 ⟨rfl, hw⟩; have hw := hw.symm; subst hw) | (go_at_call 56; refine (HN.out _ _).mono ?_; rintro e w4 ⟨rfl, hw⟩; have hw := hw.symm; subst hw))
              go_ret
              exact ⟨rfl, G5.out⟩
      · have c2' : ¬ o1 = 20 ∧ ¬ o1 = 22 := by omega
        obtain ⟨ca, cb⟩ := c2'
        have ca' : (o1 == 20) = false := by simpa using ca
        have cb' : (o1 == 22) = false := by simpa using cb
        by_cases c3 : o1 = 34
        · subst c3
          by_cases i3 : (nt : Int) ≤ im
          · have j3 : decide ((nt : Int) ≤ im) = true := decide_eq_true i3
            have hr : R = 83 := by rw [HR.out]; simp [k1, i3]
            subst hr
            go_enter Tryd.func45, Tryd.ntmps45
            go_wp2_with (first | (go_at_call 49; refine (HD.out _).mono ?_; rintro e w3 ⟨rfl, g3⟩; have G4 := hid (Gr.alloc (Gr.trans K1.out g3) #[.int .i64 (34 : Int), .int .i64 o2, .int .i64 o3, .int .i64 o4, .int .i64 im] 46); have b1 := gr_blk B1.out g3; have BB := hid (al_blk b1 (.cells #[.int .i64 (34 : Int), .int .i64 o2, .int .i64 o3, .int .i64 o4, .int .i64 im] 46)); have BI := hid (MapKept.heap_alloc w3 (.cells #[.int .i64 (34 : Int), .int .i64 o2, .int .i64 o3, .int .i64 o4, .int .i64 im] 46)).1; have lm := lt_of_block b1; have m0 : w3.cell? ⟨w.heap.size, 0, none⟩ = some (.slice (some ⟨g, o, none⟩) nc cac) := (cell_of b1 0).trans rfl; have m1 : w3.cell? ⟨w.heap.size, 1, none⟩ = some (.slice (some ⟨gf, of_, none⟩) nf caf) := (cell_of b1 1).trans rfl; have m2 : w3.cell? ⟨w.heap.size, 2, none⟩ = some (.slice aot nt cat) := (cell_of b1 2).trans rfl; clear g3 b1) | (go_at_call 54; refine (HII.out _ G5.out).mono ?_; rintro e w6 ⟨rfl, g6⟩; have G6 := hid (Gr.trans G5.out g6); have b6 := gr_blk B5.out g6; have i6 := gr_blk I5.out g6; have lv := lt_of_block b6; have v0 : w6.cell? ⟨w.heap.size, 0, none⟩ = some (.slice (some ⟨g, o, none⟩) nc cac) := (cell_of b6 0).trans rfl; have v1 : w6.cell? ⟨w.heap.size, 1, none⟩ = some (.slice (some ⟨gf, of_, none⟩) nf caf) := (cell_of b6 1).trans rfl; have v2 : w6.cell? ⟨w.heap.size, 2, none⟩ = some (.slice aot nt cat) := (cell_of b6 2).trans rfl; have u0 : w6.cell? ⟨w3.heap.size, 0, none⟩ = some (.int .i64 (34 : Int)) := (cell_of i6 0).trans rfl; have u4 : w6.cell? ⟨w3.heap.size, 4, none⟩ = some (.int .i64 im) := (cell_of i6 4).trans rfl; have lj := lt_of_block i6; have y6 := HT1.out w6 G6.out; have lf6 := HLF.out w6 G6.out; clear g6 b6 i6) | (go_at_call 54; refine (HIA.out _ G4.out).mono ?_; rintro e w5 ⟨rfl, g5⟩; have G5 := hid (Gr.trans G4.out g5); have b5 := gr_blk BB.out g5; have B5 := hid b5; have i5 := gr_blk BI.out g5; have I5 := hid i5; have ls := lt_of_block b5; have s0 : w5.cell? ⟨w.heap.size, 0, none⟩ = some (.slice (some ⟨g, o, none⟩) nc cac) := (cell_of b5 0).trans rfl; have s1 : w5.cell? ⟨w.heap.size, 1, none⟩ = some (.slice (some ⟨gf, of_, none⟩) nf caf) := (cell_of b5 1).trans rfl; have s2 : w5.cell? ⟨w.heap.size, 2, none⟩ = some (.slice aot nt cat) := (cell_of b5 2).trans rfl; have t0 : w5.cell? ⟨w3.heap.size, 0, none⟩ = some (.int .i64 (34 : Int)) := (cell_of i5 0).trans rfl; have t4 : w5.cell? ⟨w3.heap.size, 4, none⟩ = some (.int .i64 im) := (cell_of i5 4).trans rfl; have li := lt_of_block i5; have y5 := HT1.out w5 G5.out; have lf5 := HLF.out w5 G5.out; clear g5 b5 i5) | (go_at_call 55; refine (HH.out _ _).mono ?_; rintro e w4 ⟨rfl, hw⟩; have hw := hw.symm; subst hw) | (go_at_call 56; refine (HN.out _ _).mono ?_; rintro e w4 ⟨rfl, hw⟩; have hw := hw.symm; subst hw))
            go_ret
            exact ⟨rfl, G5.out⟩
          · have j3 : decide ((nt : Int) ≤ im) = false := decide_eq_false i3
            by_cases c4 : (a : Int) = y - 1
            · obtain rfl : y = (a : Int) + 1 := by omega
              clear c4
              have k4 : en (34 : Int) = false := rfl
              have hr : R = 84 := by rw [HR.out]; simp [k1, i3, k4]
              subst hr
              go_enter Tryd.func45, Tryd.ntmps45
              go_wp2_with (first | (go_at_call 49; refine (HD.out _).mono ?_; rintro e w3 ⟨rfl, g3⟩; have G4 := hid (Gr.alloc (Gr.trans K1.out g3) #[.int .i64 (34 : Int), .int .i64 o2, .int .i64 o3, .int .i64 o4, .int .i64 im] 46); have b1 := gr_blk B1.out g3; have BB := hid (al_blk b1 (.cells #[.int .i64 (34 : Int), .int .i64 o2, .int .i64 o3, .int .i64 o4, .int .i64 im] 46)); have BI := hid (MapKept.heap_alloc w3 (.cells #[.int .i64 (34 : Int), .int .i64 o2, .int .i64 o3, .int .i64 o4, .int .i64 im] 46)).1; have lm := lt_of_block b1; have m0 : w3.cell? ⟨w.heap.size, 0, none⟩ = some (.slice (some ⟨g, o, none⟩) nc cac) := (cell_of b1 0).trans rfl; have m1 : w3.cell? ⟨w.heap.size, 1, none⟩ = some (.slice (some ⟨gf, of_, none⟩) nf caf) := (cell_of b1 1).trans rfl; have m2 : w3.cell? ⟨w.heap.size, 2, none⟩ = some (.slice aot nt cat) := (cell_of b1 2).trans rfl; clear g3 b1) | (go_at_call 54; refine (HII.out _ G5.out).mono ?_; rintro e w6 ⟨rfl, g6⟩; have G6 := hid (Gr.trans G5.out g6); have b6 := gr_blk B5.out g6; have i6 := gr_blk I5.out g6; have lv := lt_of_block b6; have v0 : w6.cell? ⟨w.heap.size, 0, none⟩ = some (.slice (some ⟨g, o, none⟩) nc cac) := (cell_of b6 0).trans rfl; have v1 : w6.cell? ⟨w.heap.size, 1, none⟩ = some (.slice (some ⟨gf, of_, none⟩) nf caf) := (cell_of b6 1).trans rfl; have v2 : w6.cell? ⟨w.heap.size, 2, none⟩ = some (.slice aot nt cat) := (cell_of b6 2).trans rfl; have u0 : w6.cell? ⟨w3.heap.size, 0, none⟩ = some (.int .i64 (34 : Int)) := (cell_of i6 0).trans rfl; have u4 : w6.cell? ⟨w3.heap.size, 4, none⟩ = some (.int .i64 im) := (cell_of i6 4).trans rfl; have lj := lt_of_block i6; have y6 := HT1.out w6 G6.out; have lf6 := HLF.out w6 G6.out; clear g6 b6 i6) | (go_at_call 54; refine (HIA.out _ G4.out).mono ?_; rintro e w5 ⟨rfl, g5⟩; have G5 := hid (Gr.trans G4.out g5); have b5 := gr_blk BB.out g5; have B5 := hid b5; have i5 := gr_blk BI.out g5; have I5 := hid i5; have ls := lt_of_block b5; have s0 : w5.cell? ⟨w.heap.size, 0, none⟩ = some (.slice (some ⟨g, o, none⟩) nc cac) := (cell_of b5 0).trans rfl; have s1 : w5.cell? ⟨w.heap.size, 1, none⟩ = some (.slice (some ⟨gf, of_, none⟩) nf caf) := (cell_of b5 1).trans rfl; have s2 : w5.cell? ⟨w.heap.size, 2, none⟩ = some (.slice aot nt cat) := (cell_of b5 2).trans rfl; have t0 : w5.cell? ⟨w3.heap.size, 0, none⟩ = some (.int .i64 (34 : Int)) := (cell_of i5 0).trans rfl; have t4 : w5.cell? ⟨w3.heap.size, 4, none⟩ = some (.int .i64 im) := (cell_of i5 4).trans rfl; have li := lt_of_block i5; have y5 := HT1.out w5 G5.out; have lf5 := HLF.out w5 G5.out; clear g5 b5 i5) | (go_at_call 55; refine (HH.out _ _).mono ?_; rintro e w4 ⟨rfl, hw⟩; have hw := hw.symm; subst hw) | (go_at_call 56; refine (HN.out _ _).mono ?_; rintro e w4 ⟨rfl, hw⟩; have hw := hw.symm; subst hw))
              go_ret
              exact ⟨rfl, G5.out⟩
            · have c4' : ((a : Int) == y - 1) = false := by simpa using c4
              have hr : R = 0 := by rw [HR.out]; simp [k1, i3, c4]
              subst hr
              go_enter Tryd.func45, Tryd.ntmps45
              go_wp2_with (first | (go_at_call 49; refine (HD.out _).mono ?_; rintro e w3 ⟨rfl, g3⟩; have G4 := hid (Gr.alloc (Gr.trans K1.out g3) #[.int .i64 (34 : Int), .int .i64 o2, .int .i64 o3, .int .i64 o4, .int .i64 im] 46); have b1 := gr_blk B1.out g3; have BB := hid (al_blk b1 (.cells #[.int .i64 (34 : Int), .int .i64 o2, .int .i64 o3, .int .i64 o4, .int .i64 im] 46)); have BI := hid (MapKept.heap_alloc w3 (.cells #[.int .i64 (34 : Int), .int .i64 o2, .int .i64 o3, .int .i64 o4, .int .i64 im] 46)).1; have lm := lt_of_block b1; have m0 : w3.cell? ⟨w.heap.size, 0, none⟩ = some (.slice (some ⟨g, o, none⟩) nc cac) := (cell_of b1 0).trans rfl; have m1 : w3.cell? ⟨w.heap.size, 1, none⟩ = some (.slice (some ⟨gf, of_, none⟩) nf caf) := (cell_of b1 1).trans rfl; have m2 : w3.cell? ⟨w.heap.size, 2, none⟩ = some (.slice aot nt cat) := (cell_of b1 2).trans rfl; clear g3 b1) | (go_at_call 54; refine (HII.out _ G5.out).mono ?_; rintro e w6 ⟨rfl, g6⟩; have G6 := hid (Gr.trans G5.out g6); have b6 := gr_blk B5.out g6; have i6 := gr_blk I5.out g6; have lv := lt_of_block b6; have v0 : w6.cell? ⟨w.heap.size, 0, none⟩ = some (.slice (some ⟨g, o, none⟩) nc cac) := (cell_of b6 0).trans rfl; have v1 : w6.cell? ⟨w.heap.size, 1, none⟩ = some (.slice (some ⟨gf, of_, none⟩) nf caf) := (cell_of b6 1).trans rfl; have v2 : w6.cell? ⟨w.heap.size, 2, none⟩ = some (.slice aot nt cat) := (cell_of b6 2).trans rfl; have u0 : w6.cell? ⟨w3.heap.size, 0, none⟩ = some (.int .i64 (34 : Int)) := (cell_of i6 0).trans rfl; have u4 : w6.cell? ⟨w3.heap.size, 4, none⟩ = some (.int .i64 im) := (cell_of i6 4).trans rfl; have lj := lt_of_block i6; have y6 := HT1.out w6 G6.out; have lf6 := HLF.out w6 G6.out; clear g6 b6 i6) | (go_at_call 54; refine (HIA.out _ G4.out).mono ?_; rintro e w5 ⟨rfl, g5⟩; have G5 := hid (Gr.trans G4.out g5); have b5 := gr_blk BB.out g5; have B5 := hid b5; have i5 := gr_blk BI.out g5; have I5 := hid i5; have ls := lt_of_block b5; have s0 : w5.cell? ⟨w.heap.size, 0, none⟩ = some (.slice (some ⟨g, o, none⟩) nc cac) := (cell_of b5 0).trans rfl; have s1 : w5.cell? ⟨w.heap.size, 1, none⟩ = some (.slice (some ⟨gf, of_, none⟩) nf caf) := (cell_of b5 1).trans rfl; have s2 : w5.cell? ⟨w.heap.size, 2, none⟩ = some (.slice aot nt cat) := (cell_of b5 2).trans rfl; have t0 : w5.cell? ⟨w3.heap.size, 0, none⟩ = some (.int .i64 (34 : Int)) := (cell_of i5 0).trans rfl; have t4 : w5.cell? ⟨w3.heap.size, 4, none⟩ = some (.int .i64 im) := (cell_of i5 4).trans rfl; have li := lt_of_block i5; have y5 := HT1.out w5 G5.out; have lf5 := HLF.out w5 G5.out; clear g5 b5 i5) | (go_at_call 55; refine (HH.out _ _).mono ?_; rintro e w4 ⟨rfl, hw⟩; have hw := hw.symm; subst hw) | (go_at_call 56; refine (HN.out _ _).mono ?_; rintro e w4 ⟨rfl, hw⟩; have hw := hw.symm; subst hw))
              go_ret
              exact ⟨rfl, G5.out⟩
        · have c3' : (o1 == 34) = false := by simpa using c3
          by_cases c4 : (a : Int) = y - 1
          · obtain rfl : y = (a : Int) + 1 := by omega
            clear c4
            cases k4 : en o1 with
            | false =>
              have hr : R = 84 := by rw [HR.out]; simp [k1, ca, cb, c3, k4]
              subst hr
              go_enter Tryd.func45, Tryd.ntmps45
              go_wp2_with (first | (go_at_call 49; refine (HD.out _).mono ?_; rintro e w3 ⟨rfl, g3⟩; have G4 := hid (Gr.alloc (Gr.trans K1.out g3) #[.int .i64 o1, .int .i64 o2, .int .i64 o3, .int .i64 o4, .int .i64 im] 46); have b1 := gr_blk B1.out g3; have BB := hid (al_blk b1 (.cells #[.int .i64 o1, .int .i64 o2, .int .i64 o3, .int .i64 o4, .int .i64 im] 46)); have BI := hid (MapKept.heap_alloc w3 (.cells #[.int .i64 o1, .int .i64 o2, .int .i64 o3, .int .i64 o4, .int .i64 im] 46)).1; have lm := lt_of_block b1; have m0 : w3.cell? ⟨w.heap.size, 0, none⟩ = some (.slice (some ⟨g, o, none⟩) nc cac) := (cell_of b1 0).trans rfl; have m1 : w3.cell? ⟨w.heap.size, 1, none⟩ = some (.slice (some ⟨gf, of_, none⟩) nf caf) := (cell_of b1 1).trans rfl; have m2 : w3.cell? ⟨w.heap.size, 2, none⟩ = some (.slice aot nt cat) := (cell_of b1 2).trans rfl; clear g3 b1) | (go_at_call 54; refine (HII.out _ G5.out).mono ?_; rintro e w6 ⟨rfl, g6⟩; have G6 := hid (Gr.trans G5.out g6); have b6 := gr_blk B5.out g6; have i6 := gr_blk I5.out g6; have lv := lt_of_block b6; have v0 : w6.cell? ⟨w.heap.size, 0, none⟩ = some (.slice (some ⟨g, o, none⟩) nc cac) := (cell_of b6 0).trans rfl; have v1 : w6.cell? ⟨w.heap.size, 1, none⟩ = some (.slice (some ⟨gf, of_, none⟩) nf caf) := (cell_of b6 1).trans rfl; have v2 : w6.cell? ⟨w.heap.size, 2, none⟩ = some (.slice aot nt cat) := (cell_of b6 2).trans rfl; have u0 : w6.cell? ⟨w3.heap.size, 0, none⟩ = some (.int .i64 o1) := (cell_of i6 0).trans rfl; have u4 : w6.cell? ⟨w3.heap.size, 4, none⟩ = some (.int .i64 im) := (cell_of i6 4).trans rfl; have lj := lt_of_block i6; have y6 := HT1.out w6 G6.out; have lf6 := HLF.out w6 G6.out; clear g6 b6 i6) | (go_at_call 54; refine (HIA.out _ G4.out).mono ?_; rintro e w5 ⟨rfl, g5⟩; have G5 := hid (Gr.trans G4.out g5); have b5 := gr_blk BB.out g5; have B5 := hid b5; have i5 := gr_blk BI.out g5; have I5 := hid i5; have ls := lt_of_block b5; have s0 : w5.cell? ⟨w.heap.size, 0, none⟩ = some (.slice (some ⟨g, o, none⟩) nc cac) := (cell_of b5 0).trans rfl; have s1 : w5.cell? ⟨w.heap.size, 1, none⟩ = some (.slice (some ⟨gf, of_, none⟩) nf caf) := (cell_of b5 1).trans rfl; have s2 : w5.cell? ⟨w.heap.size, 2, none⟩ = some (.slice aot nt cat) := (cell_of b5 2).trans rfl; have t0 : w5.cell? ⟨w3.heap.size, 0, none⟩ = some (.int .i64 o1) := (cell_of i5 0).trans rfl; have t4 : w5.cell? ⟨w3.heap.size, 4, none⟩ = some (.int .i64 im) := (cell_of i5 4).trans rfl; have li := lt_of_block i5; have y5 := HT1.out w5 G5.out; have lf5 := HLF.out w5 G5.out; clear g5 b5 i5) | (go_at_call 55; refine (HH.out _ _).mono ?_; rintro e w4 ⟨rfl, hw⟩; have hw := hw.symm; subst hw) | (go_at_call 56; refine (HN.out _ _).mono ?_; rintro e w4 ⟨rfl, hw⟩; have hw := hw.symm; subst hw))
              go_ret
              exact ⟨rfl, G5.out⟩
            | true =>
              have hr : R = 0 := by rw [HR.out]; simp [k1, ca, cb, c3, k4]
              subst hr
              go_enter Tryd.func45, Tryd.ntmps45
              go_wp2_with (first | (go_at_call 49; refine (HD.out _).mono ?_; rintro e w3 ⟨rfl, g3⟩; have G4 := hid (Gr.alloc (Gr.trans K1.out g3) #[.int .i64 o1, .int .i64 o2, .int .i64 o3, .int .i64 o4, .int .i64 im] 46); have b1 := gr_blk B1.out g3; have BB := hid (al_blk b1 (.cells #[.int .i64 o1, .int .i64 o2, .int .i64 o3, .int .i64 o4, .int .i64 im] 46)); have BI := hid (MapKept.heap_alloc w3 (.cells #[.int .i64 o1, .int .i64 o2, .int .i64 o3, .int .i64 o4, .int .i64 im] 46)).1; have lm := lt_of_block b1; have m0 : w3.cell? ⟨w.heap.size, 0, none⟩ = some (.slice (some ⟨g, o, none⟩) nc cac) := (cell_of b1 0).trans rfl; have m1 : w3.cell? ⟨w.heap.size, 1, none⟩ = some (.slice (some ⟨gf, of_, none⟩) nf caf) := (cell_of b1 1).trans rfl; have m2 : w3.cell? ⟨w.heap.size, 2, none⟩ = some (.slice aot nt cat) := (cell_of b1 2).trans rfl; clear g3 b1) | (go_at_call 54; refine (HII.out _ G5.out).mono ?_; rintro e w6 ⟨rfl, g6⟩; have G6 := hid (Gr.trans G5.out g6); have b6 := gr_blk B5.out g6; have i6 := gr_blk I5.out g6; have lv := lt_of_block b6; have v0 : w6.cell? ⟨w.heap.size, 0, none⟩ = some (.slice (some ⟨g, o, none⟩) nc cac) := (cell_of b6 0).trans rfl; have v1 : w6.cell? ⟨w.heap.size, 1, none⟩ = some (.slice (some ⟨gf, of_, none⟩) nf caf) := (cell_of b6 1).trans rfl; have v2 : w6.cell? ⟨w.heap.size, 2, none⟩ = some (.slice aot nt cat) := (cell_of b6 2).trans rfl; have u0 : w6.cell? ⟨w3.heap.size, 0, none⟩ = some (.int .i64 o1) := (cell_of i6 0).trans rfl; have u4 : w6.cell? ⟨w3.heap.size, 4, none⟩ = some (.int .i64 im) := (cell_of i6 4).trans rfl; have lj := lt_of_block i6; have y6 := HT1.out w6 G6.out; have lf6 := HLF.out w6 G6.out; clear g6 b6 i6) | (go_at_call 54; refine (HIA.out _ G4.out).mono ?_; rintro e w5 ⟨rfl, g5⟩; have G5 := hid (Gr.trans G4.out g5); have b5 := gr_blk BB.out g5; have B5 := hid b5; have i5 := gr_blk BI.out g5; have I5 := hid i5; have ls := lt_of_block b5; have s0 : w5.cell? ⟨w.heap.size, 0, none⟩ = some (.slice (some ⟨g, o, none⟩) nc cac) := (cell_of b5 0).trans rfl; have s1 : w5.cell? ⟨w.heap.size, 1, none⟩ = some (.slice (some ⟨gf, of_, none⟩) nf caf) := (cell_of b5 1).trans rfl; have s2 : w5.cell? ⟨w.heap.size, 2, none⟩ = some (.slice aot nt cat) := (cell_of b5 2).trans rfl; have t0 : w5.cell? ⟨w3.heap.size, 0, none⟩ = some (.int .i64 o1) := (cell_of i5 0).trans rfl; have t4 : w5.cell? ⟨w3.heap.size, 4, none⟩ = some (.int .i64 im) := (cell_of i5 4).trans rfl; have li := lt_of_block i5; have y5 := HT1.out w5 G5.out; have lf5 := HLF.out w5 G5.out; clear g5 b5 i5) | (go_at_call 55; refine (HH.out _ _).mono ?_; rintro e w4 ⟨rfl, hw⟩; have hw := hw.symm; subst hw) | (go_at_call 56; refine (HN.out _ _).mono ?_; rintro e w4 ⟨rfl, hw⟩; have hw := hw.symm; subst hw))
              go_ret
              exact ⟨rfl, G5.out⟩
          · have c4' : ((a : Int) == y - 1) = false := by simpa using c4
            have hr : R = 0 := by rw [HR.out]; simp [k1, ca, cb, c3, c4]
            subst hr
            go_enter Tryd.func45, Tryd.ntmps45
            go_wp2_with (first | (go_at_call 49; refine (HD.out _).mono ?_; rintro e w3 ⟨rfl, g3⟩; have G4 := hid (Gr.alloc (Gr.trans K1.out g3) #[.int .i64 o1, .int .i64 o2, .int .i64 o3, .int .i64 o4, .int .i64 im] 46); have b1 := gr_blk B1.out g3; have BB := hid (al_blk b1 (.cells #[.int .i64 o1, .int .i64 o2, .int .i64 o3, .int .i64 o4, .int .i64 im] 46)); have BI := hid (MapKept.heap_alloc w3 (.cells #[.int .i64 o1, .int .i64 o2, .int .i64 o3, .int .i64 o4, .int .i64 im] 46)).1; have lm := lt_of_block b1; have m0 : w3.cell? ⟨w.heap.size, 0, none⟩ = some (.slice (some ⟨g, o, none⟩) nc cac) := (cell_of b1 0).trans rfl; have m1 : w3.cell? ⟨w.heap.size, 1, none⟩ = some (.slice (some ⟨gf, of_, none⟩) nf caf) := (cell_of b1 1).trans rfl; have m2 : w3.cell? ⟨w.heap.size, 2, none⟩ = some (.slice aot nt cat) := (cell_of b1 2).trans rfl; clear g3 b1) | (go_at_call 54; refine (HII.out _ G5.out).mono ?_; rintro e w6 ⟨rfl, g6⟩; have G6 := hid (Gr.trans G5.out g6); have b6 := gr_blk B5.out g6; have i6 := gr_blk I5.out g6; have lv := lt_of_block b6; have v0 : w6.cell? ⟨w.heap.size, 0, none⟩ = some (.slice (some ⟨g, o, none⟩) nc cac) := (cell_of b6 0).trans rfl; have v1 : w6.cell? ⟨w.heap.size, 1, none⟩ = some (.slice (some ⟨gf, of_, none⟩) nf caf) := (cell_of b6 1).trans rfl; have v2 : w6.cell? ⟨w.heap.size, 2, none⟩ = some (.slice aot nt cat) := (cell_of b6 2).trans rfl; have u0 : w6.cell? ⟨w3.heap.size, 0, none⟩ = some (.int .i64 o1) := (cell_of i6 0).trans rfl; have u4 : w6.cell? ⟨w3.heap.size, 4, none⟩ = some (.int .i64 im) := (cell_of i6 4).trans rfl; have lj := lt_of_block i6; have y6 := HT1.out w6 G6.out; have lf6 := HLF.out w6 G6.out; clear g6 b6 i6) | (go_at_call 54; refine (HIA.out _ G4.out).mono ?_; rintro e w5 ⟨rfl, g5⟩; have G5 := hid (Gr.trans G4.out g5); have b5 := gr_blk BB.out g5; have B5 := hid b5; have i5 := gr_blk BI.out g5; have I5 := hid i5; have ls := lt_of_block b5; have s0 : w5.cell? ⟨w.heap.size, 0, none⟩ = some (.slice (some ⟨g, o, none⟩) nc cac) := (cell_of b5 0).trans rfl; have s1 : w5.cell? ⟨w.heap.size, 1, none⟩ = some (.slice (some ⟨gf, of_, none⟩) nf caf) := (cell_of b5 1).trans rfl; have s2 : w5.cell? ⟨w.heap.size, 2, none⟩ = some (.slice aot nt cat) := (cell_of b5 2).trans rfl; have t0 : w5.cell? ⟨w3.heap.size, 0, none⟩ = some (.int .i64 o1) := (cell_of i5 0).trans rfl; have t4 : w5.cell? ⟨w3.heap.size, 4, none⟩ = some (.int .i64 im) := (cell_of i5 4).trans rfl; have li := lt_of_block i5; have y5 := HT1.out w5 G5.out; have lf5 := HLF.out w5 G5.out; clear g5 b5 i5) | (go_at_call 55; refine (HH.out _ _).mono ?_; rintro e w4 ⟨rfl, hw⟩; have hw := hw.symm; subst hw) | (go_at_call 56; refine (HN.out _ _).mono ?_; rintro e w4 ⟨rfl, hw⟩; have hw := hw.symm; subst hw))
            go_ret
            exact ⟨rfl, G5.out⟩
    | true =>
      by_cases i9 : (nc : Int) ≤ im
      · have j9 : decide ((nc : Int) ≤ im) = true := decide_eq_true i9
        have i8 : y ≤ im := by omega
        clear hix
        have hr : R = 82 := by rw [HR.out]; simp [k1, i8]
        subst hr
        go_enter Tryd.func45, Tryd.ntmps45
        go_wp2_with (first | (go_at_call 49; refine (HD.out _).mono ?_; rintro e w3 ⟨rfl, g3⟩; have G4 := hid (Gr.alloc (Gr.trans K1.out g3) #[.int .i64 o1, .int .i64 o2, .int .i64 o3, .int .i64 o4, .int .i64 im] 46); have b1 := gr_blk B1.out g3; have BB := hid (al_blk b1 (.cells #[.int .i64 o1, .int .i64 o2, .int .i64 o3, .int .i64 o4, .int .i64 im] 46)); have BI := hid (MapKept.heap_alloc w3 (.cells #[.int .i64 o1, .int .i64 o2, .int .i64 o3, .int .i64 o4, .int .i64 im] 46)).1; have lm := lt_of_block b1; have m0 : w3.cell? ⟨w.heap.size, 0, none⟩ = some (.slice (some ⟨g, o, none⟩) nc cac) := (cell_of b1 0).trans rfl; have m1 : w3.cell? ⟨w.heap.size, 1, none⟩ = some (.slice (some ⟨gf, of_, none⟩) nf caf) := (cell_of b1 1).trans rfl; have m2 : w3.cell? ⟨w.heap.size, 2, none⟩ = some (.slice aot nt cat) := (cell_of b1 2).trans rfl; clear g3 b1) | (go_at_call 54; refine (HII.out _ G5.out).mono ?_; rintro e w6 ⟨rfl, g6⟩; have G6 := hid (Gr.trans G5.out g6); have b6 := gr_blk B5.out g6; have i6 := gr_blk I5.out g6; have lv := lt_of_block b6; have v0 : w6.cell? ⟨w.heap.size, 0, none⟩ = some (.slice (some ⟨g, o, none⟩) nc cac) := (cell_of b6 0).trans rfl; have v1 : w6.cell? ⟨w.heap.size, 1, none⟩ = some (.slice (some ⟨gf, of_, none⟩) nf caf) := (cell_of b6 1).trans rfl; have v2 : w6.cell? ⟨w.heap.size, 2, none⟩ = some (.slice aot nt cat) := (cell_of b6 2).trans rfl; have u0 : w6.cell? ⟨w3.heap.size, 0, none⟩ = some (.int .i64 o1) := (cell_of i6 0).trans rfl; have u4 : w6.cell? ⟨w3.heap.size, 4, none⟩ = some (.int .i64 im) := (cell_of i6 4).trans rfl; have lj := lt_of_block i6; have y6 := HT1.out w6 G6.out; have lf6 := HLF.out w6 G6.out; clear g6 b6 i6) | (go_at_call 54; refine (HIA.out _ G4.out).mono ?_; rintro e w5 ⟨rfl, g5⟩; have G5 := hid (Gr.trans G4.out g5); have b5 := gr_blk BB.out g5; have B5 := hid b5; have i5 := gr_blk BI.out g5; have I5 := hid i5; have ls := lt_of_block b5; have s0 : w5.cell? ⟨w.heap.size, 0, none⟩ = some (.slice (some ⟨g, o, none⟩) nc cac) := (cell_of b5 0).trans rfl; have s1 : w5.cell? ⟨w.heap.size, 1, none⟩ = some (.slice (some ⟨gf, of_, none⟩) nf caf) := (cell_of b5 1).trans rfl; have s2 : w5.cell? ⟨w.heap.size, 2, none⟩ = some (.slice aot nt cat) := (cell_of b5 2).trans rfl; have t0 : w5.cell? ⟨w3.heap.size, 0, none⟩ = some (.int .i64 o1) := (cell_of i5 0).trans rfl; have t4 : w5.cell? ⟨w3.heap.size, 4, none⟩ = some (.int .i64 im) := (cell_of i5 4).trans rfl; have li := lt_of_block i5; have y5 := HT1.out w5 G5.out; have lf5 := HLF.out w5 G5.out; clear g5 b5 i5) | (go_at_call 55; refine (HH.out _ _).mono ?_; rintro e w4 ⟨rfl, hw⟩; have hw := hw.symm; subst hw) | (go_at_call 56; refine (HN.out _ _).mono ?_; rintro e w4 ⟨rfl, hw⟩; have hw := hw.symm; subst hw))
        go_ret
        exact ⟨rfl, G5.out⟩
      · have j9 : decide ((nc : Int) ≤ im) = false := decide_eq_false i9
        by_cases i1 : ix = (j : Int)
        · obtain ⟨ia, ib⟩ := hix.1 i1
          have na : ¬ im < x := by omega
          have nb : ¬ y ≤ im := by omega
          subst i1
          clear hix ia ib
          have hop := of_decide_eq_true k1
          have ca : ¬ o1 = 20 := by omega
          have cb : ¬ o1 = 22 := by omega
          have c3 : ¬ o1 = 34 := by omega
          have ca' : (o1 == 20) = false := by simpa using ca
          have cb' : (o1 == 22) = false := by simpa using cb
          have c3' : (o1 == 34) = false := by simpa using c3
          clear hop
          by_cases c4 : (a : Int) = y - 1
          · obtain rfl : y = (a : Int) + 1 := by omega
            clear c4
            cases k4 : en o1 with
            | false =>
              have hr : R = 84 := by rw [HR.out]; simp [k1, na, nb, ca, cb, c3, k4]
              subst hr
              go_enter Tryd.func45, Tryd.ntmps45
              go_wp2_with (first | (go_at_call 49; refine (HD.out _).mono ?_; rintro e w3 ⟨rfl, g3⟩; have G4 := hid (Gr.alloc (Gr.trans K1.out g3) #[.int .i64 o1, .int .i64 o2, .int .i64 o3, .int .i64 o4, .int .i64 im] 46); have b1 := gr_blk B1.out g3; have BB := hid (al_blk b1 (.cells #[.int .i64 o1, .int .i64 o2, .int .i64 o3, .int .i64 o4, .int .i64 im] 46)); have BI := hid (MapKept.heap_alloc w3 (.cells #[.int .i64 o1, .int .i64 o2, .int .i64 o3, .int .i64 o4, .int .i64 im] 46)).1; have lm := lt_of_block b1; have m0 : w3.cell? ⟨w.heap.size, 0, none⟩ = some (.slice (some ⟨g, o, none⟩) nc cac) := (cell_of b1 0).trans rfl; have m1 : w3.cell? ⟨w.heap.size, 1, none⟩ = some (.slice (some ⟨gf, of_, none⟩) nf caf) := (cell_of b1 1).trans rfl; have m2 : w3.cell? ⟨w.heap.size, 2, none⟩ = some (.slice aot nt cat) := (cell_of b1 2).trans rfl; clear g3 b1) | (go_at_call 54; refine (HII.out _ G5.out).mono ?_; rintro e w6 ⟨rfl, g6⟩; have G6 := hid (Gr.trans G5.out g6); have b6 := gr_blk B5.out g6; have i6 := gr_blk I5.out g6; have lv := lt_of_block b6; have v0 : w6.cell? ⟨w.heap.size, 0, none⟩ = some (.slice (some ⟨g, o, none⟩) nc cac) := (cell_of b6 0).trans rfl; have v1 : w6.cell? ⟨w.heap.size, 1, none⟩ = some (.slice (some ⟨gf, of_, none⟩) nf caf) := (cell_of b6 1).trans rfl; have v2 : w6.cell? ⟨w.heap.size, 2, none⟩ = some (.slice aot nt cat) := (cell_of b6 2).trans rfl; have u0 : w6.cell? ⟨w3.heap.size, 0, none⟩ = some (.int .i64 o1) := (cell_of i6 0).trans rfl; have u4 : w6.cell? ⟨w3.heap.size, 4, none⟩ = some (.int .i64 im) := (cell_of i6 4).trans rfl; have lj := lt_of_block i6; have y6 := HT1.out w6 G6.out; have lf6 := HLF.out w6 G6.out; clear g6 b6 i6) | (go_at_call 54; refine (HIA.out _ G4.out).mono ?_; rintro e w5 ⟨rfl, g5⟩; have G5 := hid (Gr.trans G4.out g5); have b5 := gr_blk BB.out g5; have B5 := hid b5; have i5 := gr_blk BI.out g5; have I5 := hid i5; have ls := lt_of_block b5; have s0 : w5.cell? ⟨w.heap.size, 0, none⟩ = some (.slice (some ⟨g, o, none⟩) nc cac) := (cell_of b5 0).trans rfl; have s1 : w5.cell? ⟨w.heap.size, 1, none⟩ = some (.slice (some ⟨gf, of_, none⟩) nf caf) := (cell_of b5 1).trans rfl; have s2 : w5.cell? ⟨w.heap.size, 2, none⟩ = some (.slice aot nt cat) := (cell_of b5 2).trans rfl; have t0 : w5.cell? ⟨w3.heap.size, 0, none⟩ = some (.int .i64 o1) := (cell_of i5 0).trans rfl; have t4 : w5.cell? ⟨w3.heap.size, 4, none⟩ = some (.int .i64 im) := (cell_of i5 4).trans rfl; have li := lt_of_block i5; have y5 := HT1.out w5 G5.out; have lf5 := HLF.out w5 G5.out; clear g5 b5 i5) | (go_at_call 55; refine (HH.out _ _).mono ?_; rintro e w4 ⟨rfl, hw⟩; have hw := hw.symm; subst hw) | (go_at_call 56; refine (HN.out _ _).mono ?_; rintro e w4 ⟨rfl, hw⟩; have hw := hw.symm; subst hw))
              go_ret
              exact ⟨rfl, G6.out⟩
            | true =>
              have hr : R = 0 := by rw [HR.out]; simp [k1, na, nb, ca, cb, c3, k4]
              subst hr
              go_enter Tryd.func45, Tryd.ntmps45
              go_wp2_with (first | (go_at_call 49; refine (HD.out _).mono ?_; rintro e w3 ⟨rfl, g3⟩; have G4 := hid (Gr.alloc (Gr.trans K1.out g3) #[.int .i64 o1, .int .i64 o2, .int .i64 o3, .int .i64 o4, .int .i64 im] 46); have b1 := gr_blk B1.out g3; have BB := hid (al_blk b1 (.cells #[.int .i64 o1, .int .i64 o2, .int .i64 o3, .int .i64 o4, .int .i64 im] 46)); have BI := hid (MapKept.heap_alloc w3 (.cells #[.int .i64 o1, .int .i64 o2, .int .i64 o3, .int .i64 o4, .int .i64 im] 46)).1; have lm := lt_of_block b1; have m0 : w3.cell? ⟨w.heap.size, 0, none⟩ = some (.slice (some ⟨g, o, none⟩) nc cac) := (cell_of b1 0).trans rfl; have m1 : w3.cell? ⟨w.heap.size, 1, none⟩ = some (.slice (some ⟨gf, of_, none⟩) nf caf) := (cell_of b1 1).trans rfl; have m2 : w3.cell? ⟨w.heap.size, 2, none⟩ = some (.slice aot nt cat) := (cell_of b1 2).trans rfl; clear g3 b1) | (go_at_call 54; refine (HII.out _ G5.out).mono ?_; rintro e w6 ⟨rfl, g6⟩; have G6 := hid (Gr.trans G5.out g6); have b6 := gr_blk B5.out g6; have i6 := gr_blk I5.out g6; have lv := lt_of_block b6; have v0 : w6.cell? ⟨w.heap.size, 0, none⟩ = some (.slice (some ⟨g, o, none⟩) nc cac) := (cell_of b6 0).trans rfl; have v1 : w6.cell? ⟨w.heap.size, 1, none⟩ = some (.slice (some ⟨gf, of_, none⟩) nf caf) := (cell_of b6 1).trans rfl; have v2 : w6.cell? ⟨w.heap.size, 2, none⟩ = some (.slice aot nt cat) := (cell_of b6 2).trans rfl; have u0 : w6.cell? ⟨w3.heap.size, 0, none⟩ = some (.int .i64 o1) := (cell_of i6 0).trans rfl; have u4 : w6.cell? ⟨w3.heap.size, 4, none⟩ = some (.int .i64 im) := (cell_of i6 4).trans rfl; have lj := lt_of_block i6; have y6 := HT1.out w6 G6.out; have lf6 := HLF.out w6 G6.out; clear g6 b6 i6) | (go_at_call 54; refine (HIA.out _ G4.out).mono ?_; rintro e w5 ⟨rfl, g5⟩; have G5 := hid (Gr.trans G4.out g5); have b5 := gr_blk BB.out g5; have B5 := hid b5; have i5 := gr_blk BI.out g5; have I5 := hid i5; have ls := lt_of_block b5; have s0 : w5.cell? ⟨w.heap.size, 0, none⟩ = some (.slice (some ⟨g, o, none⟩) nc cac) := (cell_of b5 0).trans rfl; have s1 : w5.cell? ⟨w.heap.size, 1, none⟩ = some (.slice (some ⟨gf, of_, none⟩) nf caf) := (cell_of b5 1).trans rfl; have s2 : w5.cell? ⟨w.heap.size, 2, none⟩ = some (.slice aot nt cat) := (cell_of b5 2).trans rfl; have t0 : w5.cell? ⟨w3.heap.size, 0, none⟩ = some (.int .i64 o1) := (cell_of i5 0).trans rfl; have t4 : w5.cell? ⟨w3.heap.size, 4, none⟩ = some (.int .i64 im) := (cell_of i5 4).trans rfl; have li := lt_of_block i5; have y5 := HT1.out w5 G5.out; have lf5 := HLF.out w5 G5.out; clear g5 b5 i5) | (go_at_call 55; refine (HH.out _ _).mono ?_; rintro e w4 ⟨rfl, hw⟩; have hw := hw.symm; subst hw) | (go_at_call 56; refine (HN.out _ _).mono ?_; rintro e w4 ⟨rfl, hw⟩; have hw := hw.symm; subst hw))
              go_ret
              exact ⟨rfl, G6.out⟩
          · have c4' : ((a : Int) == y - 1) = false := by simpa using c4
            have hr : R = 0 := by rw [HR.out]; simp [k1, na, nb, ca, cb, c3, c4]
            subst hr
            go_enter Tryd.func45, Tryd.ntmps45
            go_wp2_with (first | (go_at_call 49; refine (HD.out _).mono ?_; rintro e w3 ⟨rfl, g3⟩; have G4 := hid (Gr.alloc (Gr.trans K1.out g3) #[.int .i64 o1, .int .i64 o2, .int .i64 o3, .int .i64 o4, .int .i64 im] 46); have b1 := gr_blk B1.out g3; have BB := hid (al_blk b1 (.cells #[.int .i64 o1, .int .i64 o2, .int .i64 o3, .int .i64 o4, .int .i64 im] 46)); have BI := hid (MapKept.heap_alloc w3 (.cells #[.int .i64 o1, .int .i64 o2, .int .i64 o3, .int .i64 o4, .int .i64 im] 46)).1; have lm := lt_of_block b1; have m0 : w3.cell? ⟨w.heap.size, 0, none⟩ = some (.slice (some ⟨g, o, none⟩) nc cac) := (cell_of b1 0).trans rfl; have m1 : w3.cell? ⟨w.heap.size, 1, none⟩ = some (.slice (some ⟨gf, of_, none⟩) nf caf) := (cell_of b1 1).trans rfl; have m2 : w3.cell? ⟨w.heap.size, 2, none⟩ = some (.slice aot nt cat) := (cell_of b1 2).trans rfl; clear g3 b1) | (go_at_call 54; refine (HII.out _ G5.out).mono ?_; rintro e w6 ⟨rfl, g6⟩; have G6 := hid (Gr.trans G5.out g6); have b6 := gr_blk B5.out g6; have i6 := gr_blk I5.out g6; have lv := lt_of_block b6; have v0 : w6.cell? ⟨w.heap.size, 0, none⟩ = some (.slice (some ⟨g, o, none⟩) nc cac) := (cell_of b6 0).trans rfl; have v1 : w6.cell? ⟨w.heap.size, 1, none⟩ = some (.slice (some ⟨gf, of_, none⟩) nf caf) := (cell_of b6 1).trans rfl; have v2 : w6.cell? ⟨w.heap.size, 2, none⟩ = some (.slice aot nt cat) := (cell_of b6 2).trans rfl; have u0 : w6.cell? ⟨w3.heap.size, 0, none⟩ = some (.int .i64 o1) := (cell_of i6 0).trans rfl; have u4 : w6.cell? ⟨w3.heap.size, 4, none⟩ = some (.int .i64 im) := (cell_of i6 4).trans rfl; have lj := lt_of_block i6; have y6 := HT1.out w6 G6.out; have lf6 := HLF.out w6 G6.out; clear g6 b6 i6) | (go_at_call 54; refine (HIA.out _ G4.out).mono ?_; rintro e w5 ⟨rfl, g5⟩; have G5 := hid (Gr.trans G4.out g5); have b5 := gr_blk BB.out g5; have B5 := hid b5; have i5 := gr_blk BI.out g5; have I5 := hid i5; have ls := lt_of_block b5; have s0 : w5.cell? ⟨w.heap.size, 0, none⟩ = some (.slice (some ⟨g, o, none⟩) nc cac) := (cell_of b5 0).trans rfl; have s1 : w5.cell? ⟨w.heap.size, 1, none⟩ = some (.slice (some ⟨gf, of_, none⟩) nf caf) := (cell_of b5 1).trans rfl; have s2 : w5.cell? ⟨w.heap.size, 2, none⟩ = some (.slice aot nt cat) := (cell_of b5 2).trans rfl; have t0 : w5.cell? ⟨w3.heap.size, 0, none⟩ = some (.int .i64 o1) := (cell_of i5 0).trans rfl; have t4 : w5.cell? ⟨w3.heap.size, 4, none⟩ = some (.int .i64 im) := (cell_of i5 4).trans rfl; have li := lt_of_block i5; have y5 := HT1.out w5 G5.out; have lf5 := HLF.out w5 G5.out; clear g5 b5 i5) | (go_at_call 55; refine (HH.out _ _).mono ?_; rintro e w4 ⟨rfl, hw⟩; have hw := hw.symm; subst hw) | (go_at_call 56; refine (HN.out _ _).mono ?_; rintro e w4 ⟨rfl, hw⟩; have hw := hw.symm; subst hw))
            go_ret
            exact ⟨rfl, G6.out⟩
        · have hno : im < x ∨ y ≤ im := by
            rcases Int.lt_or_le im x with q | q
            · exact .inl q
            · rcases Int.lt_or_le im y with q2 | q2
              · exact absurd (hix.2 ⟨q, q2⟩) i1
              · exact .inr q2
          have i1' : (ix == (j : Int)) = false := by simpa using i1
          clear hix
          have HNO := hid hno
          clear hno
          have hr : R = 82 := by rw [HR.out]; have hno := HNO.out; simp [k1, hno]
          subst hr
          go_enter Tryd.func45, Tryd.ntmps45
          go_wp2_with (first | (go_at_call 49; refine (HD.out _).mono ?_; rintro e w3 ⟨rfl, g3⟩; have G4 := hid (Gr.alloc (Gr.trans K1.out g3) #[.int .i64 o1, .int .i64 o2, .int .i64 o3, .int .i64 o4, .int .i64 im] 46); have b1 := gr_blk B1.out g3; have BB := hid (al_blk b1 (.cells #[.int .i64 o1, .int .i64 o2, .int .i64 o3, .int .i64 o4, .int .i64 im] 46)); have BI := hid (MapKept.heap_alloc w3 (.cells #[.int .i64 o1, .int .i64 o2, .int .i64 o3, .int .i64 o4, .int .i64 im] 46)).1; have lm := lt_of_block b1; have m0 : w3.cell? ⟨w.heap.size, 0, none⟩ = some (.slice (some ⟨g, o, none⟩) nc cac) := (cell_of b1 0).trans rfl; have m1 : w3.cell? ⟨w.heap.size, 1, none⟩ = some (.slice (some ⟨gf, of_, none⟩) nf caf) := (cell_of b1 1).trans rfl; have m2 : w3.cell? ⟨w.heap.size, 2, none⟩ = some (.slice aot nt cat) := (cell_of b1 2).trans rfl; clear g3 b1) | (go_at_call 54; refine (HII.out _ G5.out).mono ?_; rintro e w6 ⟨rfl, g6⟩; have G6 := hid (Gr.trans G5.out g6); have b6 := gr_blk B5.out g6; have i6 := gr_blk I5.out g6; have lv := lt_of_block b6; have v0 : w6.cell? ⟨w.heap.size, 0, none⟩ = some (.slice (some ⟨g, o, none⟩) nc cac) := (cell_of b6 0).trans rfl; have v1 : w6.cell? ⟨w.heap.size, 1, none⟩ = some (.slice (some ⟨gf, of_, none⟩) nf caf) := (cell_of b6 1).trans rfl; have v2 : w6.cell? ⟨w.heap.size, 2, none⟩ = some (.slice aot nt cat) := (cell_of b6 2).trans rfl; have u0 : w6.cell? ⟨w3.heap.size, 0, none⟩ = some (.int .i64 o1) := (cell_of i6 0).trans rfl; have u4 : w6.cell? ⟨w3.heap.size, 4, none⟩ = some (.int .i64 im) := (cell_of i6 4).trans rfl; have lj := lt_of_block i6; have y6 := HT1.out w6 G6.out; have lf6 := HLF.out w6 G6.out; clear g6 b6 i6) | (go_at_call 54; refine (HIA.out _ G4.out).mono ?_; rintro e w5 ⟨rfl, g5⟩; have G5 := hid (Gr.trans G4.out g5); have b5 := gr_blk BB.out g5; have B5 := hid b5; have i5 := gr_blk BI.out g5; have I5 := hid i5; have ls := lt_of_block b5; have s0 : w5.cell? ⟨w.heap.size, 0, none⟩ = some (.slice (some ⟨g, o, none⟩) nc cac) := (cell_of b5 0).trans rfl; have s1 : w5.cell? ⟨w.heap.size, 1, none⟩ = some (.slice (some ⟨gf, of_, none⟩) nf caf) := (cell_of b5 1).trans rfl; have s2 : w5.cell? ⟨w.heap.size, 2, none⟩ = some (.slice aot nt cat) := (cell_of b5 2).trans rfl; have t0 : w5.cell? ⟨w3.heap.size, 0, none⟩ = some (.int .i64 o1) := (cell_of i5 0).trans rfl; have t4 : w5.cell? ⟨w3.heap.size, 4, none⟩ = some (.int .i64 im) := (cell_of i5 4).trans rfl; have li := lt_of_block i5; have y5 := HT1.out w5 G5.out; have lf5 := HLF.out w5 G5.out; clear g5 b5 i5) | (go_at_call 55; refine (HH.out _ _).mono ?_; rintro e w4 ⟨rfl, hw⟩; have hw := hw.symm; subst hw) | (go_at_call 56; refine (HN.out _ _).mono ?_; rintro e w4 ⟨rfl, hw⟩; have hw := hw.symm; subst hw))
          go_ret
          exact ⟨rfl, G6.out⟩
  · have hE' : (E == 0) = false := by simpa using hE
    clear hix HII
    have hr : R = 80 := by rw [HR.out]; simp [hE]
    subst hr
    go_enter Tryd.func45, Tryd.ntmps45
    go_wp2_with (first | (go_at_call 49; refine (HD.out _).mono ?_; rintro e w3 ⟨rfl, g3⟩; have G4 := hid (Gr.alloc (Gr.trans K1.out g3) #[.int .i64 o1, .int .i64 o2, .int .i64 o3, .int .i64 o4, .int .i64 im] 46); have b1 := gr_blk B1.out g3; have BB := hid (al_blk b1 (.cells #[.int .i64 o1, .int .i64 o2, .int .i64 o3, .int .i64 o4, .int .i64 im] 46)); have BI := hid (MapKept.heap_alloc w3 (.cells #[.int .i64 o1, .int .i64 o2, .int .i64 o3, .int .i64 o4, .int .i64 im] 46)).1; have lm := lt_of_block b1; have m0 : w3.cell? ⟨w.heap.size, 0, none⟩ = some (.slice (some ⟨g, o, none⟩) nc cac) := (cell_of b1 0).trans rfl; have m1 : w3.cell? ⟨w.heap.size, 1, none⟩ = some (.slice (some ⟨gf, of_, none⟩) nf caf) := (cell_of b1 1).trans rfl; have m2 : w3.cell? ⟨w.heap.size, 2, none⟩ = some (.slice aot nt cat) := (cell_of b1 2).trans rfl; clear g3 b1) | (go_at_call 54; refine (HII.out _ G5.out).mono ?_; rintro e w6 ⟨rfl, g6⟩; have G6 := hid (Gr.trans G5.out g6); have b6 := gr_blk B5.out g6; have i6 := gr_blk I5.out g6; have lv := lt_of_block b6; have v0 : w6.cell? ⟨w.heap.size, 0, none⟩ = some (.slice (some ⟨g, o, none⟩) nc cac) := (cell_of b6 0).trans rfl; have v1 : w6.cell? ⟨w.heap.size, 1, none⟩ = some (.slice (some ⟨gf, of_, none⟩) nf caf) := (cell_of b6 1).trans rfl; have v2 : w6.cell? ⟨w.heap.size, 2, none⟩ = some (.slice aot nt cat) := (cell_of b6 2).trans rfl; have u0 : w6.cell? ⟨w3.heap.size, 0, none⟩ = some (.int .i64 o1) := (cell_of i6 0).trans rfl; have u4 : w6.cell? ⟨w3.heap.size, 4, none⟩ = some (.int .i64 im) := (cell_of i6 4).trans rfl; have lj := lt_of_block i6; have y6 := HT1.out w6 G6.out; have lf6 := HLF.out w6 G6.out; clear g6 b6 i6) | (go_at_call 54; refine (HIA.out _ G4.out).mono ?_; rintro e w5 ⟨rfl, g5⟩; have G5 := hid (Gr.trans G4.out g5); have b5 := gr_blk BB.out g5; have B5 := hid b5; have i5 := gr_blk BI.out g5; have I5 := hid i5; have ls := lt_of_block b5; have s0 : w5.cell? ⟨w.heap.size, 0, none⟩ = some (.slice (some ⟨g, o, none⟩) nc cac) := (cell_of b5 0).trans rfl; have s1 : w5.cell? ⟨w.heap.size, 1, none⟩ = some (.slice (some ⟨gf, of_, none⟩) nf caf) := (cell_of b5 1).trans rfl; have s2 : w5.cell? ⟨w.heap.size, 2, none⟩ = some (.slice aot nt cat) := (cell_of b5 2).trans rfl; have t0 : w5.cell? ⟨w3.heap.size, 0, none⟩ = some (.int .i64 o1) := (cell_of i5 0).trans rfl; have t4 : w5.cell? ⟨w3.heap.size, 4, none⟩ = some (.int .i64 im) := (cell_of i5 4).trans rfl; have li := lt_of_block i5; have y5 := HT1.out w5 G5.out; have lf5 := HLF.out w5 G5.out; clear g5 b5 i5) | (go_at_call 55; refine (HH.out _ _).mono ?_; rintro e w4 ⟨rfl, hw⟩; have hw := hw.symm; subst hw) | (go_at_call 56; refine (HN.out _ _).mono ?_; rintro e w4 ⟨rfl, hw⟩; have hw := hw.symm; subst hw))
    go_ret
    exact ⟨rfl, G4.out⟩
end Go.Proofs.YtcdlhfodeckleaaDoor.Lt

namespace Go.Proofs.YtcdlhfodeckleaaDoor.Lt
open Go.RowKit Wd

theorem tE_ok {ts : List Tb} {n : Nat} {t : Tb} (h : ts[n]? = some t) : tE ts n = if tOk t.cs = true then 0 else 83 := by
  unfold tE tOk
  rw [h]
  simp only
  by_cases q : 16 < t.cs.length
  · rw [if_pos q, if_neg]
    simp
    omega
  · rw [if_neg q]
    have e : decide (t.cs.length ≤ 16) = true := decide_eq_true (by omega)
    rw [e, Bool.true_and]
    have ce : ∀ l c, t.cs[l]? = some c → cE t.cs l = if cf c = true then 0 else 83 := fun l c hc => by unfold cE; rw [hc]
    by_cases z : t.cs.all cf = true
    · rw [if_pos z, fR_none (fun l _ hl => by
        obtain ⟨c, hc⟩ : ∃ c, t.cs[l]? = some c := ⟨_, List.getElem?_eq_getElem hl⟩
        rw [ce l c hc, if_pos (List.all_eq_true.1 z c (List.mem_of_getElem? hc))])]
    · rw [if_neg z]
      have hex : ∃ m, m < t.cs.length ∧ cE t.cs m ≠ 0 := by
        have z2 : t.cs.all cf = false := by simpa using z
        obtain ⟨c, hc, hn⟩ := List.all_eq_false.1 z2
        obtain ⟨m, hm⟩ := List.getElem?_of_mem hc
        exact ⟨m, (List.getElem?_eq_some_iff.1 hm).1, by rw [ce m c hm, if_neg hn]; decide⟩
      obtain ⟨m, m1, m2, m3⟩ : ∃ m, m < t.cs.length ∧ cE t.cs m ≠ 0 ∧ ∀ l, l < m → cE t.cs l = 0 := by
        obtain ⟨m, hm⟩ := hex
        induction m using Nat.strongRecOn with
        | ind m ih =>
          by_cases q2 : ∃ l, l < m ∧ cE t.cs l ≠ 0
          · obtain ⟨l, l1, l2⟩ := q2
            exact ih l l1 ⟨by omega, l2⟩
          · exact ⟨m, hm.1, hm.2, fun l hl => Classical.byContradiction (fun e => q2 ⟨l, hl, e⟩)⟩
      rw [fR_at (Nat.zero_le m) m1 (fun l _ q => m3 l q) m2]
      obtain ⟨c, hc⟩ : ∃ c, t.cs[m]? = some c := ⟨_, List.getElem?_eq_getElem m1⟩
      simp only
      rw [ce m c hc] at m2 ⊢
      by_cases y : cf c = true
      · rw [if_pos y] at m2
        exact absurd rfl m2
      · rw [if_neg y]
theorem cF_err {fs : List (Int × Int)} {nc : Nat} (h : (cF fs nc).2 ≠ 0) : (cF fs nc).2 = 81 ∧ ∃ k : Nat, (cF fs nc).1 = (k : Int) := by
  unfold cF at h ⊢
  split
  · exact ⟨rfl, _, rfl⟩
  · rename_i q
    rw [if_neg q] at h
    unfold fR at h ⊢
    cases hf : (List.range' 0 (fs.length - 0)).find? (fun n => decide (fB fs nc n ≠ 0)) with
    | none => rw [hf] at h; exact absurd rfl h
    | some m =>
      rw [hf] at h
      simp only at h ⊢
      refine ⟨?_, m, rfl⟩
      unfold fB at h ⊢
      split
      · rfl
      · rename_i z
        rw [if_neg z] at h
        exact absurd rfl h
/-- function by function, word by word: the first that is wrong -/
theorem wF_zero {cs : List Int} {nf nt : Nat} : ∀ (fs : List (Int × Int)), (∀ f ∈ fs, ∀ a : Nat, f.1.toNat ≤ a → a < f.2.toNat → wA cs nf nt f a = 0) → wF cs nf nt fs = (0, 0) := by
  intro fs
  induction fs with
  | nil => intro _; rfl
  | cons f r ih =>
    intro h
    show (if (fR (wA cs nf nt f) f.1.toNat f.2.toNat).2 = 0 then wF cs nf nt r else _) = _
    rw [fR_none (fun l q1 q2 => h f List.mem_cons_self l q1 q2)]
    exact ih (fun g hg => h g (List.mem_cons_of_mem _ hg))
theorem wF_skip {cs : List Int} {nf nt : Nat} {fs : List (Int × Int)} : ∀ (j : Nat), (∀ (l : Nat) f, l < j → fs[l]? = some f → ∀ a : Nat, f.1.toNat ≤ a → a < f.2.toNat → wA cs nf nt f a = 0) → j ≤ fs.length → wF cs nf nt fs = wF cs nf nt (fs.drop j) := by
  intro j
  induction j with
  | zero => intro _ _; rfl
  | succ j ih =>
    intro h hj
    rw [ih (fun l f q => h l f (by omega)) (by omega)]
    obtain ⟨f, hf⟩ : ∃ f, fs[j]? = some f := ⟨_, List.getElem?_eq_getElem (by omega)⟩
    rw [wF_cons hf, fR_none (fun l q1 q2 => h j f (by omega) hf l q1 q2)]
    rfl
theorem wF_at {cs : List Int} {nf nt : Nat} {fs : List (Int × Int)} {nc : Nat} (hp : Prt fs nc) {j : Nat} {f : Int × Int} (hf : fs[j]? = some f) {a : Nat} (h1 : f.1 ≤ (a : Int)) (h2 : (a : Int) < f.2) (hz : ∀ (l : Nat) g, fs[l]? = some g → ∀ b : Nat, b < a → g.1 ≤ (b : Int) → (b : Int) < g.2 → wA cs nf nt g b = 0) (hn : wA cs nf nt f a ≠ 0) : wF cs nf nt fs = ((a : Int), wA cs nf nt f a) := by
  have hi := hp.i f (List.mem_of_getElem? hf)
  rw [wF_skip j (fun l g q hg b b1 b2 => by
    have := hp.mono j l g f q hg hf
    have := hp.i g (List.mem_of_getElem? hg)
    exact hz l g hg b (by omega) (by omega) (by omega)) (by have := (List.getElem?_eq_some_iff.1 hf).1; omega), wF_cons hf,
    fR_at (j := a) (by omega) (by omega) (fun l q1 q2 => hz j f hf l q2 (by omega) (by omega)) hn]
  simp [hn]

set_option maxHeartbeats 2000000 in
set_option maxRecDepth 20000 in
theorem rcheck_any (P : Nat → Prop) (w : World) (vc vf vt : Value) (cs : List Int) (fs : List (Int × Int)) (ts : List Tb) (h : Pin P w vc vf vt cs fs ts) (hu : U32s cs) :
    Calls Tryd.prog 20 #[.agg #[vc, vf, vt]] w fun e w' => e = .returned (.tuple #[.int .i64 (chk cs fs ts).1, .int .i64 (chk cs fs ts).2]) ∧ Gr w w' := by
  have HPT := hid (fun (W : World) (p : Gr w W) q => rparts_any P W vc vf vt cs fs ts (h.gr p) q)
  have HIN := hid h
  have HU := hid hu
  obtain ⟨aoc, cac, hia⟩ := h.c.form
  obtain ⟨aof, caf, hib⟩ := h.f.form
  obtain ⟨aot, cat, hic⟩ := h.t.form
  obtain ⟨A, hA⟩ : ∃ x, x = (chk cs fs ts).1 := ⟨_, rfl⟩
  obtain ⟨B, hB⟩ : ∃ x, x = (chk cs fs ts).2 := ⟨_, rfl⟩
  rw [← hA, ← hB]
  unfold chk at hA hB
  unfold pN at HPT
  obtain ⟨nc, hnc⟩ : ∃ n, n = cs.length := ⟨_, rfl⟩
  obtain ⟨nf, hnf⟩ : ∃ n, n = fs.length := ⟨_, rfl⟩
  obtain ⟨nt, hnt⟩ : ∃ n, n = ts.length := ⟨_, rfl⟩
  rw [← hnc, ← hnf, ← hnt] at hA hB
  rw [← hnc] at hia HPT
  rw [← hnf] at hib HPT
  rw [← hnt] at hic
  have HNC := hid hnc
  have HNF := hid hnf
  have HNT := hid hnt
  have HA := hid hA
  have HB := hid hB
  subst hia hib hic
  have K1 := hid (Gr.alloc (Gr.refl w) #[.slice aoc nc cac, .slice aof nf caf, .slice aot nt cat] 26)
  have B1 := hid (MapKept.heap_alloc w (.cells #[.slice aoc nc cac, .slice aof nf caf, .slice aot nt cat] 26)).1
  clear h hu hA hB hnc hnf hnt
  by_cases h1 : 4096 < nc
  · have i1 : (4096 : Int) < (nc : Int) := by omega
    have d1 : decide ((4096 : Int) < (nc : Int)) = true := decide_eq_true i1
    have ha : A = 0 := by rw [HA.out]; simp [h1]
    have hb : B = 2 := by rw [HB.out]; simp [h1]
    subst ha hb
    go_enter Tryd.func20, Tryd.ntmps20
    go_wp2_with fail
    go_ret2
    exact ⟨rfl, K1.out⟩
  · have i1 : ¬ (4096 : Int) < (nc : Int) := by omega
    have d1 : decide ((4096 : Int) < (nc : Int)) = false := decide_eq_false i1
    by_cases h2 : 256 < nf
    · have i2 : (256 : Int) < (nf : Int) := by omega
      have d2 : decide ((256 : Int) < (nf : Int)) = true := decide_eq_true i2
      have ha : A = 0 := by rw [HA.out]; simp [h1, h2]
      have hb : B = 2 := by rw [HB.out]; simp [h1, h2]
      subst ha hb
      go_enter Tryd.func20, Tryd.ntmps20
      go_wp2_with fail
      go_ret2
      exact ⟨rfl, K1.out⟩
    · have i2 : ¬ (256 : Int) < (nf : Int) := by omega
      have d2 : decide ((256 : Int) < (nf : Int)) = false := decide_eq_false i2
      by_cases h3 : 256 < nt
      · have i3 : (256 : Int) < (nt : Int) := by omega
        have d3 : decide ((256 : Int) < (nt : Int)) = true := decide_eq_true i3
        have ha : A = 0 := by rw [HA.out]; simp [h1, h2, h3]
        have hb : B = 2 := by rw [HB.out]; simp [h1, h2, h3]
        subst ha hb
        go_enter Tryd.func20, Tryd.ntmps20
        go_wp2_with fail
        go_ret2
        exact ⟨rfl, K1.out⟩
      · have i3 : ¬ (256 : Int) < (nt : Int) := by omega
        have d3 : decide ((256 : Int) < (nt : Int)) = false := decide_eq_false i3
        have HCF := hid (show (cF fs nc).2 ≠ 0 → (cF fs nc).2 = 81 ∧ ∃ k : Nat, (cF fs nc).1 = (k : Int) from cF_err)
        have HPR := hid (fun (q : (cF fs nc).2 = 0) => prt_of q)
        generalize cF fs nc = F at HPT HA HB HCF HPR
        obtain ⟨F1, F2⟩ := F
        simp only at HPT HA HB HCF HPR
        by_cases k1 : F2 = 0
        · subst k1
          simp only [if_true] at HPT
          have HP := hid (show Prt fs nc by first | exact HPR.out rfl | exact HPR.out trivial)
          clear HPR HCF
          have hnn : ¬ (0 : Int) ≤ -1 := by omega
          have HA2 := hid (show A = (if (fR (tE ts) 0 nt).2 ≠ 0 then fR (tE ts) 0 nt else wF cs nf nt fs).1 by rw [HA.out]; simp [h1, h2, h3])
          have HB2 := hid (show B = (if (fR (tE ts) 0 nt).2 ≠ 0 then fR (tE ts) 0 nt else wF cs nf nt fs).2 by rw [HB.out]; simp [h1, h2, h3])
          go_enter Tryd.func20, Tryd.ntmps20
          go_wp2_with (go_at_call 43; refine (HPT.out _ K1.out (by omega)).mono ?_; rintro e w1 ⟨rfl, g1⟩; have G1 := hid (Gr.trans K1.out g1); have B2 := hid (gr_blk B1.out g1); clear g1)
          go_loopg [5] nt (fun m i wq => ∃ j : Nat, j + m = nt ∧ i = .int .i64 ((j : Nat) : Int) ∧ (∀ l, l < j → tE ts l = 0) ∧ Gr w wq ∧ wq.heap[w.heap.size]? = some (.cells #[.slice aoc nc cac, .slice aof nf caf, .slice aot nt cat] 26 (0, 0)))
          case atStart => exact ⟨0, by omega, rfl, fun l q => by omega, G1.out, B2.out⟩
          case round =>
            clear G1 B2
            obtain ⟨j, hjk, rfl, hal, hgr, hbk⟩ := hrel
            have HAL := hid hal
            have HG := hid hgr
            have HK := hid hbk
            have lk := lt_of_block hbk
            have n2 : wr.cell? ⟨w.heap.size, 2, none⟩ = some (.slice aot nt cat) := (cell_of hbk 2).trans rfl
            have n0 : wr.cell? ⟨w.heap.size, 0, none⟩ = some (.slice aoc nc cac) := (cell_of hbk 0).trans rfl
            clear hal hgr hbk
            by_cases hj : j < nt
            · obtain ⟨t, hx⟩ : ∃ x, ts[j]? = some x := ⟨_, List.getElem?_eq_getElem (by rw [← HNT.out]; exact hj)⟩
              have HTE := hid (tE_ok hx)
              have HTB := hid (fun (W : World) (p : Gr w W) => rtable_any P W t.cv t.df t.cs ((HIN.out.cs t (List.mem_of_getElem? hx)).gr p))
              generalize tOk t.cs = tb at HTE HTB
              obtain ⟨g, o, cap', hv, _, hgl, _, hcs⟩ := HIN.out.t.get eT_len hx
              injection hv with hv1 hv2 hv3
              subst hv1
              obtain ⟨aq, cq, hcv⟩ := (HIN.out.cs t (List.mem_of_getElem? hx)).form
              generalize t.cs.length = nq at hcv
              have c0 := (HG.out.cell hgl).trans (hcs 0 _ rfl)
              have c1 := (HG.out.cell hgl).trans (hcs 1 _ rfl)
              rw [Nat.add_zero, hcv] at c0
              rw [hcv] at HTB
              generalize t.df = df at c1 HTB
              have gs := HG.out.size
              have lg : g < wr.heap.size := by omega
              have j0 : (0 : Int) ≤ (j : Int) := by omega
              have j1 : (j : Int) < (nt : Int) := by omega
              clear hv2 hv3 hcs hx hgl hcv
              cases tb with
              | true =>
                have HZ := hid (show ∀ l, l < j + 1 → tE ts l = 0 from fun l q => by
                  by_cases e : l = j
                  · rw [e, HTE.out]; simp
                  · exact HAL.out l (by omega))
                go_wp2_with (go_at_call 44; refine (HTB.out _ HG.out).mono ?_; rintro e w1 ⟨rfl, g1⟩; have G1 := hid (Gr.trans HG.out g1); have B2 := hid (gr_blk HK.out g1); clear g1)
                go_roundg (gk - 1)
                case measure => omega
                case rel => exact ⟨j + 1, by omega, by simp, HZ.out, G1.out, B2.out⟩
              | false =>
                have e8 : tE ts j = 83 := by rw [HTE.out]; simp
                have e9 : fR (tE ts) 0 nt = ((j : Int), 83) := by rw [fR_at (Nat.zero_le _) hj (fun l _ q => HAL.out l q) (by rw [e8]; decide), e8]
                have ha : A = (j : Nat) := by rw [HA2.out, e9]; simp
                have hb : B = 83 := by rw [HB2.out, e9]; simp
                subst ha hb
                clear e8 e9
                go_wp2_with (go_at_call 44; refine (HTB.out _ HG.out).mono ?_; rintro e w1 ⟨rfl, g1⟩; have G1 := hid (Gr.trans HG.out g1); clear g1)
                go_ret2
                exact ⟨rfl, G1.out⟩
            · have jn : ¬ (j : Int) < (nt : Int) := by omega
              have e9 : fR (tE ts) 0 nt = (0, 0) := fR_none (fun l _ q => HAL.out l (by omega))
              rw [e9] at HA2 HB2
              simp only [ne_eq, not_true_eq_false, if_false] at HA2 HB2
              clear e9 HAL
              go_wp2_with fail
              clear n2 n0 lk jn hj hjk
              go_loopg [7] nc (fun m i wq => ∃ a : Nat, a + m = nc ∧ i = .int .i64 ((a : Nat) : Int) ∧ (∀ (l : Nat) (g : Int × Int), fs[l]? = some g → ∀ b : Nat, b < a → g.1 ≤ (b : Int) → (b : Int) < g.2 → wA cs nf nt g b = 0) ∧ Gr w wq ∧ wq.heap[w.heap.size]? = some (.cells #[.slice aoc nc cac, .slice aof nf caf, .slice aot nt cat] 26 (0, 0)))
              case atStart => exact ⟨0, by omega, rfl, fun l g _ b q => by omega, HG.out, HK.out⟩
              case round =>
                clear HG HK
                obtain ⟨a, hak, rfl, hal, hgr, hbk⟩ := hrel
                have HAL := hid hal
                have HG := hid hgr
                have HK := hid hbk
                have lk := lt_of_block hbk
                have n0 : wr.cell? ⟨w.heap.size, 0, none⟩ = some (.slice aoc nc cac) := (cell_of hbk 0).trans rfl
                have n1 : wr.cell? ⟨w.heap.size, 1, none⟩ = some (.slice aof nf caf) := (cell_of hbk 1).trans rfl
                have n2 : wr.cell? ⟨w.heap.size, 2, none⟩ = some (.slice aot nt cat) := (cell_of hbk 2).trans rfl
                clear hal hgr hbk
                by_cases ha : a < nc
                · obtain ⟨x, hx⟩ : ∃ x, cs[a]? = some x := ⟨_, List.getElem?_eq_getElem (by rw [← HNC.out]; exact ha)⟩
                  obtain ⟨f, ⟨x1, x2⟩, hf, f1, f2⟩ := HP.out.has a ha
                  have HWR := hid (fun (W : World) (p : Gr w W) => rwrong_any P W aoc aof aot nc nf nt cac caf cat cs fs (HIN.out.c.gr p) (HIN.out.f.gr p) HU.out HP.out (by omega) (by omega) f x1 x2 hf a x hx ⟨f1, f2⟩)
                  have ew : wA cs nf nt (x1, x2) a = wE nf nt (x1, x2) (a : Nat) x := by unfold wA; rw [hx]
                  have HBAD := hid (show wE nf nt (x1, x2) (a : Nat) x ≠ 0 → wF cs nf nt fs = ((a : Int), wE nf nt (x1, x2) (a : Nat) x) from fun q => by
                    rw [← ew] at q ⊢
                    exact wF_at HP.out hf f1 f2 HAL.out q)
                  have HZ := hid (show wE nf nt (x1, x2) (a : Nat) x = 0 → ∀ (l : Nat) (g : Int × Int), fs[l]? = some g → ∀ b : Nat, b < a + 1 → g.1 ≤ (b : Int) → (b : Int) < g.2 → wA cs nf nt g b = 0 from fun q l g hg b b1 b2 b3 => by
                    by_cases e : b = a
                    · subst e
                      have e1 := (HP.out.inx hf (b : Int)).2 ⟨f1, f2⟩
                      have e2 := (HP.out.inx hg (b : Int)).2 ⟨b2, b3⟩
                      have e3 : l = f := by rw [e1] at e2; omega
                      subst e3
                      rw [hf] at hg
                      injection hg with hg
                      rw [← hg, ew]
                      exact q
                    · exact HAL.out l g hg b (by omega) b2 b3)
                  generalize wE nf nt (x1, x2) (a : Nat) x = V at HWR HBAD HZ
                  have q0 : (0 : Int) ≤ (a : Int) := by omega
                  have q1 : (a : Int) < (nc : Int) := by omega
                  clear hx hf f1 f2 ew
                  by_cases hV : V = 0
                  · subst hV
                    have HZ2 := hid (show ∀ (l : Nat) (g : Int × Int), fs[l]? = some g → ∀ b : Nat, b < a + 1 → g.1 ≤ (b : Int) → (b : Int) < g.2 → wA cs nf nt g b = 0 by first | exact HZ.out rfl | exact HZ.out trivial)
                    go_wp2_with (go_at_call 45; refine (HWR.out _ HG.out).mono ?_; rintro e w1 ⟨rfl, g1⟩; have G1 := hid (Gr.trans HG.out g1); have B2 := hid (gr_blk HK.out g1); clear g1)
                    go_roundg (gk - 1)
                    case measure => omega
                    case rel => exact ⟨a + 1, by omega, by simp, HZ2.out, G1.out, B2.out⟩
                  · have hV' : (V == 0) = false := by simpa using hV
                    have ha : A = (a : Nat) := by rw [HA2.out, HBAD.out hV]
                    have hb : B = V := by rw [HB2.out, HBAD.out hV]
                    subst ha hb
                    go_wp2_with (go_at_call 45; refine (HWR.out _ HG.out).mono ?_; rintro e w1 ⟨rfl, g1⟩; have G1 := hid (Gr.trans HG.out g1); clear g1)
                    go_ret2
                    exact ⟨rfl, G1.out⟩
                · have jn : ¬ (a : Int) < (nc : Int) := by omega
                  have e9 : wF cs nf nt fs = (0, 0) := wF_zero fs (fun f hf b b1 b2 => by
                    obtain ⟨l, hl⟩ := List.getElem?_of_mem hf
                    have hi := HP.out.i f hf
                    exact HAL.out l f hl b (by omega) (by omega) (by omega))
                  have ha : A = 0 := by rw [HA2.out, e9]
                  have hb : B = 0 := by rw [HB2.out, e9]
                  subst ha hb
                  clear e9
                  go_wp2
                  go_ret2
                  exact ⟨rfl, HG.out⟩
        · obtain ⟨k2, k, k3⟩ := HCF.out k1
          have kn : (0 : Int) ≤ (k : Int) := by omega
          rw [if_neg k1] at HPT
          subst k2 k3
          clear HCF HPR
          have ha : A = (k : Nat) := by rw [HA.out]; simp [h1, h2, h3]
          have hb : B = 81 := by rw [HB.out]; simp [h1, h2, h3]
          subst ha hb
          go_enter Tryd.func20, Tryd.ntmps20
          go_wp2_with (go_at_call 43; refine (HPT.out _ K1.out (by omega)).mono ?_; rintro e w1 ⟨rfl, g1⟩; have G1 := hid (Gr.trans K1.out g1); have B2 := hid (gr_blk B1.out g1); clear g1)
          go_ret2
          exact ⟨rfl, G1.out⟩
end Go.Proofs.YtcdlhfodeckleaaDoor.Lt
