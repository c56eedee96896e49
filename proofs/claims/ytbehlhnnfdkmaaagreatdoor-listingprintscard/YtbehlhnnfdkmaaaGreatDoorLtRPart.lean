/-
  What the document's reg, parts and goal answer. Conditions: lists are no longer than the reach lets be; words are words.
-/
import Derived.Test.YtbehlhnnfdkmaaaGreatDoorLtPart
import Derived.Test.YtbehlhnnfdkmaaaGreatDoorLtMc
import Derived.Test.YtbehlhnnfdkmaaaGreatDoorLtDec
namespace Go.Proofs.YtbehlhnnfdkmaaaGreatDoor.Lt
open Go.RowKit Wd

/-- is a number a register? -/
def rg (n : Int) : Bool := decide (0 ≤ n ∧ n ≤ 15)
theorem reg_any (n : Int) (w : World) : Calls Tryz.prog 88 #[.int .i64 n] w fun e w' => e = .returned (.bool (rg n)) ∧ w' = w := by
  unfold rg
  by_cases h0 : 0 ≤ n
  · by_cases h1 : n ≤ 15
    · rw [decide_eq_true (show 0 ≤ n ∧ n ≤ 15 from ⟨h0, h1⟩)]
      have d0 : decide (0 ≤ n) = true := decide_eq_true h0
      have d1 : decide (n ≤ 15) = true := decide_eq_true h1
      go_enter Tryz.func88, Tryz.ntmps88
      go_wp2
      go_ret
      exact ⟨rfl, rfl⟩
    · rw [decide_eq_false (show ¬ (0 ≤ n ∧ n ≤ 15) from fun q => h1 q.2)]
      have d0 : decide (0 ≤ n) = true := decide_eq_true h0
      have d1 : decide (n ≤ 15) = false := decide_eq_false h1
      go_enter Tryz.func88, Tryz.ntmps88
      go_wp2
      go_ret
      exact ⟨rfl, rfl⟩
  · rw [decide_eq_false (show ¬ (0 ≤ n ∧ n ≤ 15) from fun q => h0 q.1)]
    have d0 : decide (0 ≤ n) = false := decide_eq_false h0
    go_enter Tryz.func88, Tryz.ntmps88
    go_wp2
    go_ret
    exact ⟨rfl, rfl⟩
theorem cf_reg (c : Cs) : cf c = (rg c.ch && rg c.val && (c.send || rg c.ok)) := by
  obtain ⟨s, a, b, d⟩ := c
  unfold cf rg
  cases s with
  | true =>
    show fitB 15 15 0 0 0 a b 0 0 = _
    unfold fitB
    simp only [Bool.true_or, Bool.and_true]
    rw [Bool.eq_iff_iff]
    simp only [decide_eq_true_eq, Bool.and_eq_true]
    omega
  | false =>
    show fitB 15 15 15 0 0 a b d 0 = _
    unfold fitB
    simp only [Bool.false_or]
    rw [Bool.eq_iff_iff]
    simp only [decide_eq_true_eq, Bool.and_eq_true]
    omega

set_option maxHeartbeats 1000000 in
set_option maxRecDepth 20000 in
theorem rparts_any (P : Nat → Prop) (w : World) (vc vf vt : Value) (cs : List Int) (fs : List (Int × Int)) (ts : List Tb) (h : Pin P w vc vf vt cs fs ts) (hl : fs.length ≤ 8796093022208) :
    Calls Tryz.prog 87 #[.agg #[vc, vf, vt]] w fun e w' => e = .returned (.bool (ptd fs cs.length)) ∧ Gr w w' := by
  obtain ⟨aoc, cac, hia⟩ := h.c.form
  obtain ⟨aof, caf, hib⟩ := h.f.form
  obtain ⟨aot, cat, hic⟩ := h.t.form
  have HF := hid h.f
  obtain ⟨B, hB⟩ : ∃ b, b = ptd fs cs.length := ⟨_, rfl⟩
  rw [← hB]
  have HB := hid hB
  obtain ⟨nc, hnc⟩ : ∃ n, n = cs.length := ⟨_, rfl⟩
  obtain ⟨nf, hnf⟩ : ∃ n, n = fs.length := ⟨_, rfl⟩
  rw [← hnc] at hia HB
  rw [← hnf] at hib hl
  generalize ts.length = nt at hic
  have HN := hid hnf
  subst hia hib hic
  have K1 := hid (Gr.alloc (Gr.refl w) #[.slice aoc nc cac, .slice aof nf caf, .slice aot nt cat] 26)
  have B1 := hid (MapKept.heap_alloc w (.cells #[.slice aoc nc cac, .slice aof nf caf, .slice aot nt cat] 26)).1
  clear h hB hnc hnf
  go_enter Tryz.func87, Tryz.ntmps87
  go_wp2_with fail
  go_loopg [3, 4] nf (fun m a i wq => ∃ (j : Nat) (x : Int), j + m = nf ∧ a = .int .i64 x ∧ i = .int .i64 ((j : Nat) : Int) ∧ pr fs 0 = pr (fs.drop j) x ∧ Gr w wq ∧ wq.heap[w.heap.size]? = some (.cells #[.slice aoc nc cac, .slice aof nf caf, .slice aot nt cat] 26 (0, 0)))
  case atStart => exact ⟨0, 0, by omega, rfl, rfl, rfl, K1.out, B1.out⟩
  case round =>
    obtain ⟨j, x, hjk, rfl, rfl, hpr, hgr, hbk⟩ := hrel
    have HP := hid hpr
    have HG := hid hgr
    have HK := hid hbk
    have lk := lt_of_block hbk
    have n0 : wr.cell? ⟨w.heap.size, 0, none⟩ = some (.slice aoc nc cac) := (cell_of hbk 0).trans rfl
    have n1 : wr.cell? ⟨w.heap.size, 1, none⟩ = some (.slice aof nf caf) := (cell_of hbk 1).trans rfl
    clear hpr hgr hbk
    by_cases hj : j < nf
    · obtain ⟨⟨x1, x2⟩, hx⟩ : ∃ f, fs[j]? = some f := ⟨_, List.getElem?_eq_getElem (by rw [← HN.out]; exact hj)⟩
      have HX := hid (pr_cons hx x)
      obtain ⟨g, o, cap', hv, _, hgl, hcap, hcs⟩ := HF.out.get eG_len hx
      injection hv with hv1 hv2 hv3
      subst hv1
      have c0 := (HG.out.cell hgl).trans (hcs 0 _ rfl)
      have c1 := (HG.out.cell hgl).trans (hcs 1 _ rfl)
      rw [Nat.add_zero] at c0
      have gs := HG.out.size
      have lg : g < wr.heap.size := by omega
      have j0 : (0 : Int) ≤ (j : Int) := by omega
      have j1 : (j : Int) < (nf : Int) := by omega
      clear hv2 hv3 hcs hx hcap hgl
      by_cases e1 : x1 = x
      · subst e1
        by_cases e2 : x2 ≤ x1
        · have hb : B = false := by
            rw [HB.out]
            unfold ptd
            rw [HP.out, HX.out, if_neg (fun q => q.2 e2)]
            simp
          have d2 : decide (x2 ≤ x1) = true := decide_eq_true e2
          subst hb
          go_wp2
          go_ret
          exact ⟨rfl, Ch.alloc HG.out _⟩
        · have HY := hid (show pr fs 0 = pr (fs.drop (j + 1)) x2 by rw [HP.out, HX.out, if_pos ⟨rfl, e2⟩])
          have d2 : decide (x2 ≤ x1) = false := decide_eq_false e2
          by_cases e3 : (nc : Int) < x2
          · have hb : B = false := by
              rw [HB.out]
              unfold ptd
              rw [HY.out]
              apply decide_eq_false
              rintro ⟨_, q⟩
              have := pr_le _ _ _ q
              omega
            have d3 : decide ((nc : Int) < x2) = true := decide_eq_true e3
            subst hb
            go_wp2
            go_ret
            exact ⟨rfl, Ch.alloc HG.out _⟩
          · have d3 : decide ((nc : Int) < x2) = false := decide_eq_false e3
            go_wp2_with fail
            go_roundg (gk - 1)
            case measure => omega
            case rel => exact ⟨j + 1, x2, by omega, rfl, by simp, HY.out, Ch.alloc HG.out _, al_blk HK.out _⟩
      · have hb : B = false := by
          rw [HB.out]
          unfold ptd
          rw [HP.out, HX.out, if_neg (fun q => e1 q.1)]
          simp
        have e1' : (x1 == x) = false := by simpa using e1
        subst hb
        go_wp2
        go_ret
        exact ⟨rfl, Ch.alloc HG.out _⟩
    · have hjn : j = nf := by omega
      have jn : ¬ (j : Int) < (nf : Int) := by omega
      have hdr : fs.drop j = [] := by rw [hjn, HN.out]; exact List.drop_length
      have HY := hid (show pr fs 0 = some x by rw [HP.out, hdr]; rfl)
      clear hdr hjn
      by_cases h0 : nf = 0
      · have hb : B = false := by
          have e : fs = [] := List.eq_nil_of_length_eq_zero (by rw [← HN.out]; exact h0)
          rw [HB.out, e]
          rfl
        subst hb h0
        go_wp2
        go_ret
        exact ⟨rfl, HG.out⟩
      · have hp : (0 : Int) < (nf : Int) := by omega
        have hfs : fs ≠ [] := fun e => h0 (by rw [HN.out, e]; rfl)
        have hb : B = decide (x = (nc : Int)) := by
          rw [HB.out]
          unfold ptd
          rw [HY.out]
          simp [hfs]
        clear hfs
        by_cases hq : x = (nc : Int)
        · have hb' : B = true := by rw [hb]; simp [hq]
          clear hb
          subst hb'
          go_wp2
          go_ret
          exact ⟨rfl, HG.out⟩
        · have hb' : B = false := by rw [hb]; simp [hq]
          have hq' : (x == (nc : Int)) = false := by simpa using hq
          clear hb
          subst hb'
          go_wp2
          go_ret
          exact ⟨rfl, HG.out⟩

set_option maxHeartbeats 1000000 in
set_option maxRecDepth 20000 in
theorem goal_any (P : Nat → Prop) (w : World) (vc vf vt : Value) (cs : List Int) (h : Ls eU P w vc cs) (hvf : ∃ a n c, vf = .slice a n c) (hvt : ∃ a n c, vt = .slice a n c) (hu : U32s cs) (hok : ∀ x ∈ cs, dE x = 0) (x y k : Nat) (hxy : x ≤ y) (hy : y ≤ cs.length) (hcl : cs.length ≤ 35184372088832) :
    Calls Tryz.prog 43 #[.agg #[vc, vf, vt], .agg #[.int .i64 (x : Nat), .int .i64 (y : Nat)], .int .i64 (k : Nat)] w fun e w' => e = .returned (.bool (tg (wf cs ((x : Nat), (y : Nat))) k)) ∧ Gr w w' := by
  obtain ⟨aof, nf, caf, rfl⟩ := hvf
  obtain ⟨aot, nt, cat, rfl⟩ := hvt
  obtain ⟨aoc, cac, hia⟩ := h.form
  have HC := hid h
  have HU := hid hu
  have HOK := hid hok
  have HWL := hid (wf_len hxy hy)
  have HWG := hid (fun (j : Nat) (q : j < y - x) => wf_get (cs := cs) (a := x) (b := y) q)
  obtain ⟨B, hB⟩ : ∃ b, b = tg (wf cs ((x : Nat), (y : Nat))) k := ⟨_, rfl⟩
  rw [← hB]
  have HB := hid hB
  obtain ⟨nc, hnc⟩ : ∃ n, n = cs.length := ⟨_, rfl⟩
  rw [← hnc] at hia hcl hy
  have HN := hid hnc
  subst hia
  have K1 := hid (Gr.alloc (Gr.alloc (Gr.refl w) #[.slice aoc nc cac, .slice aof nf caf, .slice aot nt cat] 26) #[.int .i64 (x : Nat), .int .i64 (y : Nat)] 41)
  have B1 := hid (show ((w.alloc (.cells #[.slice aoc nc cac, .slice aof nf caf, .slice aot nt cat] 26)).alloc (.cells #[.int .i64 (x : Nat), .int .i64 (y : Nat)] 41)).heap[w.heap.size]? = some (.cells #[.slice aoc nc cac, .slice aof nf caf, .slice aot nt cat] 26 (0, 0)) from al_blk (MapKept.heap_alloc w _).1 _)
  have B2 := hid (show ((w.alloc (.cells #[.slice aoc nc cac, .slice aof nf caf, .slice aot nt cat] 26)).alloc (.cells #[.int .i64 (x : Nat), .int .i64 (y : Nat)] 41)).heap[w.heap.size + 1]? = some (.cells #[.int .i64 (x : Nat), .int .i64 (y : Nat)] 41 (0, 0)) by simpa using (MapKept.heap_alloc (w.alloc (.cells #[.slice aoc nc cac, .slice aof nf caf, .slice aot nt cat] 26)) (.cells #[.int .i64 (x : Nat), .int .i64 (y : Nat)] 41)).1)
  clear h hu hok hB hnc
  go_enter Tryz.func43, Tryz.ntmps43
  go_wp2_with fail
  go_loopg [7] (y - x) (fun m i wq => ∃ (a : Nat), a + m = y ∧ x ≤ a ∧ i = .int .i64 ((a : Nat) : Int) ∧ (∀ j, j < a - x → ∀ u, cs[x + j]? = some u → tgw u k = false) ∧ Gr w wq ∧ wq.heap[w.heap.size]? = some (.cells #[.slice aoc nc cac, .slice aof nf caf, .slice aot nt cat] 26 (0, 0)) ∧ wq.heap[w.heap.size + 1]? = some (.cells #[.int .i64 (x : Nat), .int .i64 (y : Nat)] 41 (0, 0)))
  case atStart => exact ⟨x, by omega, by omega, rfl, fun j q => by omega, K1.out, B1.out, B2.out⟩
  case round =>
    clear K1 B1 B2
    obtain ⟨a, hak, hxa, rfl, hno, hgr, hbk, hbf⟩ := hrel
    have HNO := hid hno
    have HG := hid hgr
    have HK := hid hbk
    have HF := hid hbf
    have lk := lt_of_block hbk
    have lf := lt_of_block hbf
    have n0 : wr.cell? ⟨w.heap.size, 0, none⟩ = some (.slice aoc nc cac) := (cell_of hbk 0).trans rfl
    have f1 : wr.cell? ⟨w.heap.size + 1, 1, none⟩ = some (.int .i64 (y : Nat)) := (cell_of hbf 1).trans rfl
    clear hno hgr hbk hbf
    by_cases ha : a < y
    · obtain ⟨n, hx⟩ : ∃ x, cs[a]? = some x := ⟨_, List.getElem?_eq_getElem (by rw [← HN.out]; omega)⟩
      have hm := List.mem_of_getElem? hx
      have HX := hid hx
      obtain ⟨u0, u1⟩ := HU.out n hm
      have hd := HOK.out n hm
      have HD := hid (fun (W : World) => rdecode_all n u0 u1 W)
      have HTW := hid (show tgw n k = decide (knd (dI n).1 = 1 ∧ (dI n).2.2.2.2 = (k : Int)) by unfold tgw; simp [hd])
      unfold iV at HD
      rw [hd] at HD
      generalize dI n = I at HD HTW
      obtain ⟨o1, o2, o3, o4, im⟩ := I
      simp only at HD HTW
      have HAH := hid (fun (W : World) => ahead_any o1 W)
      obtain ⟨g, o, cap', hv, _, hgl, hcap, hcs⟩ := HC.out.get eU_len hx
      injection hv with hv1 hv2 hv3
      subst hv1
      have c0 := (HG.out.cell hgl).trans (hcs 0 _ rfl)
      rw [Nat.mul_one, Nat.add_zero] at c0
      have gs := HG.out.size
      have lg : g < wr.heap.size := by omega
      have q0 : (0 : Int) ≤ (a : Int) := by omega
      have q1 : (a : Int) < (nc : Int) := by omega
      have q2 : (a : Int) < (y : Int) := by omega
      clear hv2 hv3 hcs hx hcap hgl hm hd u0 u1
      by_cases hk : knd o1 = 1
      · have h1 : ahd o1 = { data := #[76] } := by unfold ahd; rw [if_pos hk]
        rw [h1] at HAH
        clear h1
        by_cases hi : im = (k : Int)
        · have hb : B = true := by
            rw [HB.out]
            unfold tg
            rw [List.any_eq_true]
            refine ⟨n, ?_, by rw [HTW.out]; simp [hk, hi]⟩
            have := HWG.out (a - x) (by omega)
            rw [show x + (a - x) = a by omega, HX.out] at this
            exact List.mem_of_getElem? this
          subst hb hi
          clear HTW
          go_wp2_with (first | (go_at_call 32; refine (HD.out _).mono ?_; rintro e w3 ⟨rfl, g3⟩; have G3 := hid (Gr.alloc (Gr.trans HG.out g3) #[.int .i64 o1, .int .i64 o2, .int .i64 o3, .int .i64 o4, .int .i64 (k : Nat)] 67); clear g3) | (go_at_call 37; refine (HAH.out _).mono ?_; rintro e w4 ⟨rfl, hw⟩; have hw := hw.symm; subst hw))
          go_ret
          exact ⟨rfl, G3.out⟩
        · have HF2 := hid (show tgw n k = false by rw [HTW.out]; simp [hi])
          have hi' : (im == (k : Int)) = false := by simpa using hi
          clear HTW
          go_wp2_with (first | (go_at_call 32; refine (HD.out _).mono ?_; rintro e w3 ⟨rfl, g3⟩; have G3 := hid (Gr.alloc (Gr.trans HG.out g3) #[.int .i64 o1, .int .i64 o2, .int .i64 o3, .int .i64 o4, .int .i64 im] 67); have K3 := hid (al_blk (gr_blk HK.out g3) (.cells #[.int .i64 o1, .int .i64 o2, .int .i64 o3, .int .i64 o4, .int .i64 im] 67)); have F3 := hid (al_blk (gr_blk HF.out g3) (.cells #[.int .i64 o1, .int .i64 o2, .int .i64 o3, .int .i64 o4, .int .i64 im] 67)); clear g3) | (go_at_call 37; refine (HAH.out _).mono ?_; rintro e w4 ⟨rfl, hw⟩; have hw := hw.symm; subst hw))
          go_roundg (gk - 1)
          case measure => omega
          case rel =>
            refine ⟨a + 1, by omega, by omega, by simp, fun j q u hu => ?_, G3.out, K3.out, F3.out⟩
            by_cases e : j = a - x
            · rw [e, show x + (a - x) = a by omega, HX.out] at hu
              injection hu with hu
              rw [← hu]
              exact HF2.out
            · exact HNO.out j (by omega) u hu
      · have HF2 := hid (show tgw n k = false by rw [HTW.out]; simp [hk])
        have hne : ahd o1 = { data := #[102] } ∨ ahd o1 = { data := #[116] } ∨ ahd o1 = { data := #[] } := by
          unfold ahd
          rw [if_neg hk]
          by_cases z2 : knd o1 = 2
          · rw [if_pos z2]
            exact .inl rfl
          · rw [if_neg z2]
            by_cases z3 : knd o1 = 3
            · rw [if_pos z3]
              exact .inr (.inl rfl)
            · rw [if_neg z3]
              exact .inr (.inr rfl)
        clear HTW
        rcases hne with hne | hne | hne
        all_goals
          rw [hne] at HAH
          clear hne
          go_wp2_with (first | (go_at_call 32; refine (HD.out _).mono ?_; rintro e w3 ⟨rfl, g3⟩; have G3 := hid (Gr.alloc (Gr.trans HG.out g3) #[.int .i64 o1, .int .i64 o2, .int .i64 o3, .int .i64 o4, .int .i64 im] 67); have K3 := hid (al_blk (gr_blk HK.out g3) (.cells #[.int .i64 o1, .int .i64 o2, .int .i64 o3, .int .i64 o4, .int .i64 im] 67)); have F3 := hid (al_blk (gr_blk HF.out g3) (.cells #[.int .i64 o1, .int .i64 o2, .int .i64 o3, .int .i64 o4, .int .i64 im] 67)); clear g3) | (go_at_call 37; refine (HAH.out _).mono ?_; rintro e w4 ⟨rfl, hw⟩; have hw := hw.symm; subst hw))
          go_roundg (gk - 1)
          case measure => omega
          case rel =>
            refine ⟨a + 1, by omega, by omega, by simp, fun j q u hu => ?_, G3.out, K3.out, F3.out⟩
            by_cases e : j = a - x
            · rw [e, show x + (a - x) = a by omega, HX.out] at hu
              injection hu with hu
              rw [← hu]
              exact HF2.out
            · exact HNO.out j (by omega) u hu
    · have kn : ¬ (a : Int) < (y : Int) := by omega
      have hb : B = false := by
        rw [HB.out]
        unfold tg
        rw [List.any_eq_false]
        intro u hu
        obtain ⟨j, hj⟩ := List.getElem?_of_mem hu
        have hjl : j < y - x := by rw [← HWL.out]; exact (List.getElem?_eq_some_iff.1 hj).1
        rw [HWG.out j hjl] at hj
        have := HNO.out j (by omega) u hj
        simp [this]
      subst hb
      go_wp2
      go_ret
      exact ⟨rfl, HG.out⟩
end Go.Proofs.YtbehlhnnfdkmaaaGreatDoor.Lt
