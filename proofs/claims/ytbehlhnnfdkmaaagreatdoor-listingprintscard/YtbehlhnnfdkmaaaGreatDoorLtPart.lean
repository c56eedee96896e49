/-
  What the program's parted, there and caseInstr answer. Conditions: lists are no longer than the reach lets be.
-/
import Derived.Test.YtbehlhnnfdkmaaaGreatDoorLtTw
import Derived.Test.YtbehlhnnfdkmaaaGreatDoorLtForm
namespace Go.Proofs.YtbehlhnnfdkmaaaGreatDoor.Lt
open Go.RowKit Wd

/-- where functions end that follow on one another from a place, if they do -/
def pr : List (Int × Int) → Int → Option Int
  | [], a => some a
  | f :: r, a => if f.1 = a ∧ ¬ f.2 ≤ a then pr r f.2 else none
/-- do functions part so many words? -/
def ptd (fs : List (Int × Int)) (n : Nat) : Bool := decide (fs ≠ [] ∧ pr fs 0 = some (n : Int))
theorem pr_cons {fs : List (Int × Int)} {j : Nat} {f : Int × Int} (h : fs[j]? = some f) (a : Int) : pr (fs.drop j) a = if f.1 = a ∧ ¬ f.2 ≤ a then pr (fs.drop (j + 1)) f.2 else none := by
  obtain ⟨h1, h2⟩ := List.getElem?_eq_some_iff.1 h
  rw [List.drop_eq_getElem_cons h1, h2]
  rfl

set_option maxHeartbeats 1000000 in
set_option maxRecDepth 20000 in
theorem parted_any (P : Nat → Prop) (w : World) (vc vf vt : Value) (cs : List Int) (fs : List (Int × Int)) (ts : List Tb) (h : Pin P w vc vf vt cs fs ts) (hl : fs.length ≤ 8796093022208) :
    Calls Tryz.prog 81 #[.agg #[vc, vf, vt]] w fun e w' => e = .returned (.bool (ptd fs cs.length)) ∧ Gr w w' := by
  obtain ⟨aoc, cac, hia⟩ := h.c.form
  obtain ⟨aof, caf, hib⟩ := h.f.form
  obtain ⟨aot, cat, hic⟩ := h.t.form
  have HF := hid h.f
  obtain ⟨B, hB⟩ : ∃ b, b = ptd fs cs.length := ⟨_, rfl⟩
  rw [← hB]
  have HB := hid hB
  obtain ⟨nc, hnc⟩ : ∃ n, n = cs.length := ⟨_, rfl⟩
  obtain ⟨nf, hnf⟩ : ∃ n, n = fs.length := ⟨_, rfl⟩
  rw [← hnc] at hia HB
  rw [← hnf] at hib hl
  generalize ts.length = nt at hic
  have HN := hid hnf
  subst hia hib hic
  have K1 := hid (Gr.alloc (Gr.refl w) #[.slice aoc nc cac, .slice aof nf caf, .slice aot nt cat] 26)
  have B1 := hid (MapKept.heap_alloc w (.cells #[.slice aoc nc cac, .slice aof nf caf, .slice aot nt cat] 26)).1
  clear h hB hnc hnf
  by_cases h0 : nf = 0
  · have hb : B = false := by
      have e : fs = [] := List.eq_nil_of_length_eq_zero (by rw [← HN.out]; exact h0)
      rw [HB.out, e]
      rfl
    subst hb h0
    go_enter Tryz.func81, Tryz.ntmps81
    go_wp2
    go_ret
    exact ⟨rfl, K1.out⟩
  · have hne : ((nf : Int) == 0) = false := by simpa using h0
    go_enter Tryz.func81, Tryz.ntmps81
    go_wp2_with fail
    go_loopg [3, 13] nf (fun m a i wq => ∃ (j : Nat) (x : Int), j + m = nf ∧ a = .int .i64 x ∧ i = .int .i64 ((j : Nat) : Int) ∧ pr fs 0 = pr (fs.drop j) x ∧ Gr w wq ∧ wq.heap[w.heap.size]? = some (.cells #[.slice aoc nc cac, .slice aof nf caf, .slice aot nt cat] 26 (0, 0)))
    case atStart => exact ⟨0, 0, by omega, rfl, rfl, rfl, K1.out, B1.out⟩
    case round =>
      obtain ⟨j, x, hjk, rfl, rfl, hpr, hgr, hbk⟩ := hrel
      have HP := hid hpr
      have HG := hid hgr
      have HK := hid hbk
      have lk := lt_of_block hbk
      clear hpr hgr hbk
      by_cases hj : j < nf
      · obtain ⟨⟨x1, x2⟩, hx⟩ : ∃ f, fs[j]? = some f := ⟨_, List.getElem?_eq_getElem (by rw [← HN.out]; exact hj)⟩
        have HX := hid (pr_cons hx x)
        obtain ⟨g, o, cap', hv, _, hgl, hcap, hcs⟩ := HF.out.get eG_len hx
        injection hv with hv1 hv2 hv3
        subst hv1
        have c0 := (HG.out.cell hgl).trans (hcs 0 _ rfl)
        have c1 := (HG.out.cell hgl).trans (hcs 1 _ rfl)
        rw [Nat.add_zero] at c0
        have gs := HG.out.size
        have lg : g < wr.heap.size := by omega
        have j0 : (0 : Int) ≤ (j : Int) := by omega
        have j1 : (j : Int) < (nf : Int) := by omega
        clear hv2 hv3 hcs hx hcap hgl
        by_cases e1 : x1 = x
        · by_cases e2 : x2 ≤ x
          · have hb : B = false := by
              rw [HB.out]
              unfold ptd
              rw [HP.out, HX.out, if_neg (fun q => q.2 e2)]
              simp
            subst hb
            go_wp2
            go_ret
            exact ⟨rfl, Ch.alloc HG.out _⟩
          · have HY := hid (show pr fs 0 = pr (fs.drop (j + 1)) x2 by rw [HP.out, HX.out, if_pos ⟨e1, e2⟩])
            go_wp2_with fail
            go_roundg (gk - 1)
            case measure => omega
            case rel => exact ⟨j + 1, x2, by omega, rfl, by simp, HY.out, Ch.alloc HG.out _, al_blk HK.out _⟩
        · have hb : B = false := by
            rw [HB.out]
            unfold ptd
            rw [HP.out, HX.out, if_neg (fun q => e1 q.1)]
            simp
          subst hb
          go_wp2
          go_ret
          exact ⟨rfl, Ch.alloc HG.out _⟩
      · have hjn : j = nf := by omega
        have jn : ¬ (j : Int) < (nf : Int) := by omega
        have hdr : fs.drop j = [] := by rw [hjn, HN.out]; exact List.drop_length
        have HY := hid (show pr fs 0 = some x by rw [HP.out, hdr]; rfl)
        have hfs : fs ≠ [] := fun e => h0 (by rw [HN.out, e]; rfl)
        have hb : B = decide (x = (nc : Int)) := by
          rw [HB.out]
          unfold ptd
          rw [HY.out]
          simp [hfs]
        have n0 : wr.cell? ⟨w.heap.size, 0, none⟩ = some (.slice aoc nc cac) := (cell_of HK.out 0).trans rfl
        clear hdr hfs hjn
        by_cases hq : x = (nc : Int)
        · have hb' : B = true := by rw [hb]; simp [hq]
          clear hb
          subst hb'
          go_wp2
          go_ret
          exact ⟨rfl, HG.out⟩
        · have hb' : B = false := by rw [hb]; simp [hq]
          have hq' : (x == (nc : Int)) = false := by simpa using hq
          clear hb
          subst hb'
          go_wp2
          go_ret
          exact ⟨rfl, HG.out⟩

/-- the instruction that has a case's text -/
def cI (c : Cs) : Int × Int × Int × Int × Int := if c.send = true then (29, c.ch, c.val, 0, 0) else (30, c.ch, c.val, c.ok, 0)
theorem caseInstr_any (c : Cs) (w : World) : Calls Tryz.prog 85 #[.agg #[.bool c.send, .int .i64 c.ch, .int .i64 c.val, .int .i64 c.ok]] w fun e w' => e = .returned (iV (cI c)) ∧ Gr w w' := by
  obtain ⟨s, a, b, d⟩ := c
  cases s with
  | true =>
    have K1 := hid (Gr.alloc (Gr.alloc (Gr.refl w) #[.bool true, .int .i64 a, .int .i64 b, .int .i64 d] 46) #[.int .i64 29, .int .i64 a, .int .i64 b, .int .i64 0, .int .i64 0] 67)
    have HB := hid (show ((w.alloc (.cells #[.bool true, .int .i64 a, .int .i64 b, .int .i64 d] 46)).alloc (.cells #[.int .i64 29, .int .i64 a, .int .i64 b, .int .i64 0, .int .i64 0] 67)).heap[w.heap.size + 1]? = some (.cells #[.int .i64 29, .int .i64 a, .int .i64 b, .int .i64 0, .int .i64 0] 67 (0, 0)) by simpa using (MapKept.heap_alloc (w.alloc (.cells #[.bool true, .int .i64 a, .int .i64 b, .int .i64 d] 46)) (.cells #[.int .i64 29, .int .i64 a, .int .i64 b, .int .i64 0, .int .i64 0] 67)).1)
    go_enter Tryz.func85, Tryz.ntmps85
    go_wp2
    refine bodyPost_ret (v := .agg #[.int .i64 29, .int .i64 a, .int .i64 b, .int .i64 0, .int .i64 0]) (by simp [results, Tryz.results85, go_sem, cell_of HB.out]) rfl ?_
    exact ⟨rfl, K1.out⟩
  | false =>
    have K1 := hid (Gr.alloc (Gr.alloc (Gr.refl w) #[.bool false, .int .i64 a, .int .i64 b, .int .i64 d] 46) #[.int .i64 30, .int .i64 a, .int .i64 b, .int .i64 d, .int .i64 0] 67)
    have HB := hid (show ((w.alloc (.cells #[.bool false, .int .i64 a, .int .i64 b, .int .i64 d] 46)).alloc (.cells #[.int .i64 30, .int .i64 a, .int .i64 b, .int .i64 d, .int .i64 0] 67)).heap[w.heap.size + 1]? = some (.cells #[.int .i64 30, .int .i64 a, .int .i64 b, .int .i64 d, .int .i64 0] 67 (0, 0)) by simpa using (MapKept.heap_alloc (w.alloc (.cells #[.bool false, .int .i64 a, .int .i64 b, .int .i64 d] 46)) (.cells #[.int .i64 30, .int .i64 a, .int .i64 b, .int .i64 d, .int .i64 0] 67)).1)
    go_enter Tryz.func85, Tryz.ntmps85
    go_wp2
    refine bodyPost_ret (v := .agg #[.int .i64 30, .int .i64 a, .int .i64 b, .int .i64 d, .int .i64 0]) (by simp [results, Tryz.results85, go_sem, cell_of HB.out]) rfl ?_
    exact ⟨rfl, K1.out⟩
/-- is there what an instruction of a function names? -/
def thr (nf nt : Nat) (f : Int × Int) (i : Int × Int × Int × Int × Int) : Bool :=
  if knd i.1 = 1 then decide (f.1 ≤ i.2.2.2.2 ∧ i.2.2.2.2 < f.2) else if knd i.1 = 2 then decide (i.2.2.2.2 < (nf : Int)) else if knd i.1 = 3 then decide (i.2.2.2.2 < (nt : Int)) else true
theorem there_any (w : World) (aoc aof aot : Option Addr) (nc nf nt cac caf cat : Nat) (f : Int × Int) (i : Int × Int × Int × Int × Int) :
    Calls Tryz.prog 83 #[.agg #[.slice aoc nc cac, .slice aof nf caf, .slice aot nt cat], .agg #[.int .i64 f.1, .int .i64 f.2], iV i] w fun e w' => e = .returned (.bool (thr nf nt f i)) ∧ Gr w w' := by
  obtain ⟨f1, f2⟩ := f
  obtain ⟨o, a, b, c, m⟩ := i
  have HN := hid (fun (W : World) => named_any o W)
  have K := hid (Ch.alloc (Ch.alloc (Ch.alloc (Gr.refl w) (.cells #[.slice aoc nc cac, .slice aof nf caf, .slice aot nt cat] 26)) (.cells #[.int .i64 f1, .int .i64 f2] 41)) (.cells #[.int .i64 o, .int .i64 a, .int .i64 b, .int .i64 c, .int .i64 m] 67))
  obtain ⟨B, hB⟩ : ∃ x, x = thr nf nt (f1, f2) (o, a, b, c, m) := ⟨_, rfl⟩
  rw [← hB]
  unfold iV
  unfold thr at hB
  simp only at hB ⊢
  generalize knd o = q at HN hB
  by_cases q1 : q = 1
  · subst q1
    rw [if_pos rfl] at hB
    by_cases h1 : f1 ≤ m
    · by_cases h2 : m < f2
      · have hb : B = true := by rw [hB]; simp [h1, h2]
        subst hb
        clear hB
        go_enter Tryz.func83, Tryz.ntmps83
        go_wp2_with (go_at_call 78; refine (HN.out _).mono ?_; rintro e w4 ⟨rfl, hw⟩; have hw := hw.symm; subst hw)
        go_ret
        exact ⟨rfl, K.out⟩
      · have hb : B = false := by rw [hB]; simp; omega
        have h2' : decide (m < f2) = false := decide_eq_false h2
        subst hb
        clear hB
        go_enter Tryz.func83, Tryz.ntmps83
        go_wp2_with (go_at_call 78; refine (HN.out _).mono ?_; rintro e w4 ⟨rfl, hw⟩; have hw := hw.symm; subst hw)
        go_ret
        exact ⟨rfl, K.out⟩
    · have hb : B = false := by rw [hB]; simp; omega
      subst hb
      clear hB
      go_enter Tryz.func83, Tryz.ntmps83
      go_wp2_with (go_at_call 78; refine (HN.out _).mono ?_; rintro e w4 ⟨rfl, hw⟩; have hw := hw.symm; subst hw)
      go_ret
      exact ⟨rfl, K.out⟩
  · rw [if_neg q1] at hB
    by_cases q2 : q = 2
    · subst q2
      rw [if_pos rfl] at hB
      subst hB
      go_enter Tryz.func83, Tryz.ntmps83
      go_wp2_with (go_at_call 78; refine (HN.out _).mono ?_; rintro e w4 ⟨rfl, hw⟩; have hw := hw.symm; subst hw)
      go_ret
      exact ⟨rfl, K.out⟩
    · rw [if_neg q2] at hB
      by_cases q3 : q = 3
      · subst q3
        rw [if_pos rfl] at hB
        subst hB
        go_enter Tryz.func83, Tryz.ntmps83
        go_wp2_with (go_at_call 78; refine (HN.out _).mono ?_; rintro e w4 ⟨rfl, hw⟩; have hw := hw.symm; subst hw)
        go_ret
        exact ⟨rfl, K.out⟩
      · rw [if_neg q3] at hB
        subst hB
        go_enter Tryz.func83, Tryz.ntmps83
        go_wp2_with (go_at_call 78; refine (HN.out _).mono ?_; rintro e w4 ⟨rfl, hw⟩; have hw := hw.symm; subst hw)
        go_ret
        exact ⟨rfl, K.out⟩
end Go.Proofs.YtbehlhnnfdkmaaaGreatDoor.Lt
