/-
  What the program's named, form, readNumber and readRegisters answer. Conditions: form is asked of an operation; words are no longer than a text may be.
-/
import Derived.Test.YtbehlhnnfdkmaaaGreatDoorLtNum
import Derived.Test.YtbehlhnnfdkmaaaGreatDoorWdDec
namespace Go.Proofs.YtbehlhnnfdkmaaaGreatDoor.Lt
open Go.RowKit Wd

/-- what an operation's number stands for: nothing, a label, a function, a table -/
def knd (o : Int) : Int := if o = 17 ∨ o = 18 ∨ o = 19 then 1 else if o = 20 ∨ o = 22 then 2 else if o = 34 then 3 else 0
theorem named_any (o : Int) (w : World) : Calls Tryz.prog 78 #[.int .i64 o] w fun e w' => e = .returned (.int .i64 (knd o)) ∧ w' = w := by
  rcases (by omega : o = 17 ∨ o = 18 ∨ o = 19 ∨ o = 20 ∨ o = 22 ∨ o = 34 ∨ (¬ o = 17 ∧ ¬ o = 18 ∧ ¬ o = 19 ∧ ¬ o = 20 ∧ ¬ o = 22 ∧ ¬ o = 34)) with rfl | rfl | rfl | rfl | rfl | rfl | ⟨h1, h2, h3, h4, h5, h6⟩
  case inr.inr.inr.inr.inr.inr =>
    have e1 : knd o = 0 := by unfold knd; simp [h1, h2, h3, h4, h5, h6]
    rw [e1]
    clear e1
    go_enter Tryz.func78, Tryz.ntmps78
    go_wp2
    go_ret
    exact ⟨rfl, rfl⟩
  all_goals
    go_enter Tryz.func78, Tryz.ntmps78
    go_wp2
    go_ret
    exact ⟨rfl, rfl⟩

/-- how many registers a shape has -/
def fR : Nat → Nat
  | 1 => 1
  | 2 => 2
  | 3 => 3
  | 5 => 1
  | 6 => 1
  | _ => 0
/-- how many numbers -/
def fN : Nat → Nat
  | 4 => 1
  | 5 => 1
  | 6 => 1
  | _ => 0
theorem form_any (k : Nat) (h1 : 1 ≤ k) (h2 : k < 59) (w : World) (hn : Nums w) : Calls Tryz.prog 75 #[.int .i64 (k : Nat)] w fun e w' => e = .returned (.tuple #[.int .i64 (fR (sh k) : Nat), .int .i64 (fN (sh k) : Nat)]) ∧ w' = w := by
  have hs := shape_yes k h1 h2 w hn
  have hl := sh_lt k
  obtain ⟨s, hs'⟩ : ∃ s, s = sh k := ⟨_, rfl⟩
  rw [← hs'] at hs hl ⊢
  clear hs' hn
  have HS := hid hs
  clear hs
  match s, hl with
  | 0, _ | 1, _ | 2, _ | 3, _ | 4, _ | 5, _ | 6, _ =>
    go_enter Tryz.func75, Tryz.ntmps75
    go_wp2_with (go_at_call 102; refine HS.out.mono ?_; rintro e w1 ⟨rfl, hw⟩; have hw := hw.symm; subst hw)
    go_ret2
    exact ⟨rfl, rfl⟩

/-- does a word stand in the place of a number? -/
def rnL (o : Int) (s : ByteArray) : Bool := numL s || (decide (knd o ≠ 0) && nameOk s)
/-- the name that does -/
def rnA (o : Int) (s : ByteArray) : ByteArray := if numL s = true then { data := #[] } else if rnL o s = true then s else { data := #[] }
theorem readNumber_any (o : Int) (s : ByteArray) (w : World) (hs : s.size ≤ 9223372036854775807) : Calls Tryz.prog 113 #[.int .i64 o, .string s] w fun e w' => e = .returned (.tuple #[.int .i64 (numR s), .string (rnA o s), .bool (rnL o s)]) ∧ Gr w w' := by
  have HN := hid (number_any s w hs)
  have HK := hid (named_any o)
  have HM := hid (isName_any s)
  have e0 : numL s = false → numR s = 0 := fun h => by unfold numR; rw [h]; rfl
  cases h1 : numL s with
  | true =>
    have e1 : rnL o s = true := by unfold rnL; rw [h1]; rfl
    have e2 : rnA o s = { data := #[] } := by unfold rnA; rw [h1]; rfl
    rw [e1, e2]
    rw [h1] at HN
    clear e0 e1 e2
    obtain ⟨V, hV⟩ : ∃ V, V = numR s := ⟨_, rfl⟩
    rw [← hV] at HN ⊢
    clear hV
    go_enter Tryz.func113, Tryz.ntmps113
    go_wp2_with (go_at_call 123; refine HN.out.mono ?_; rintro e w1 ⟨rfl, hg⟩)
    refine bodyPost_ret (v := .tuple #[.int .i64 V, .string { data := #[] }, .bool true]) (by simp [results, Tryz.results113, go_sem]) rfl ?_
    exact ⟨rfl, hg⟩
  | false =>
    rw [e0 h1]
    rw [h1, e0 h1] at HN
    clear e0
    by_cases h2 : knd o = 0
    · have e1 : rnL o s = false := by unfold rnL; rw [h1, h2]; rfl
      have e2 : rnA o s = { data := #[] } := by unfold rnA; rw [h1, e1]; rfl
      rw [e1, e2]
      rw [h2] at HK
      clear e1 e2
      go_enter Tryz.func113, Tryz.ntmps113
      go_wp2_with (first | (go_at_call 123; refine HN.out.mono ?_; rintro e w1 ⟨rfl, hg⟩) | (go_at_call 78; refine (HK.out _).mono ?_; rintro e w2 ⟨rfl, hw⟩; have hw := hw.symm; subst hw))
      refine bodyPost_ret (v := .tuple #[.int .i64 0, .string { data := #[] }, .bool false]) (by simp [results, Tryz.results113, go_sem]) rfl ?_
      exact ⟨rfl, hg⟩
    · cases h3 : nameOk s with
      | true =>
        have e1 : rnL o s = true := by unfold rnL; rw [h1, h3]; simp [h2]
        have e2 : rnA o s = s := by unfold rnA; rw [h1, e1]; rfl
        rw [e1, e2]
        rw [h3] at HM
        clear e1 e2
        obtain ⟨V, hV⟩ : ∃ V, V = knd o := ⟨_, rfl⟩
        rw [← hV] at HK h2
        clear hV
        go_enter Tryz.func113, Tryz.ntmps113
        go_wp2_with (first | (go_at_call 123; refine HN.out.mono ?_; rintro e w1 ⟨rfl, hg⟩) | (go_at_call 78; refine (HK.out _).mono ?_; rintro e w2 ⟨rfl, hw⟩; have hw := hw.symm; subst hw) | (go_at_call 93; refine (HM.out _ hs).mono ?_; rintro e w2 ⟨rfl, hw⟩; have hw := hw.symm; subst hw))
        refine bodyPost_ret (v := .tuple #[.int .i64 0, .string s, .bool true]) (by simp [results, Tryz.results113, go_sem]) rfl ?_
        exact ⟨rfl, hg⟩
      | false =>
        have e1 : rnL o s = false := by unfold rnL; rw [h1, h3]; simp
        have e2 : rnA o s = { data := #[] } := by unfold rnA; rw [h1, e1]; rfl
        rw [e1, e2]
        rw [h3] at HM
        clear e1 e2
        obtain ⟨V, hV⟩ : ∃ V, V = knd o := ⟨_, rfl⟩
        rw [← hV] at HK h2
        clear hV
        go_enter Tryz.func113, Tryz.ntmps113
        go_wp2_with (first | (go_at_call 123; refine HN.out.mono ?_; rintro e w1 ⟨rfl, hg⟩) | (go_at_call 78; refine (HK.out _).mono ?_; rintro e w2 ⟨rfl, hw⟩; have hw := hw.symm; subst hw) | (go_at_call 93; refine (HM.out _ hs).mono ?_; rintro e w2 ⟨rfl, hw⟩; have hw := hw.symm; subst hw))
        refine bodyPost_ret (v := .tuple #[.int .i64 0, .string { data := #[] }, .bool false]) (by simp [results, Tryz.results113, go_sem]) rfl ?_
        exact ⟨rfl, hg⟩

/-- a list of texts in memory -/
def eS (s : ByteArray) : List Value := [.string s]
theorem eS_len (s : ByteArray) : (eS s).length = 1 := rfl
/-- a word's length -/
def Sml (ws : List ByteArray) : Prop := ∀ s ∈ ws, s.size ≤ 4294967296
/-- the numbers of three registers, as far as they are -/
def rv (ws : List ByteArray) (j : Nat) : Int := match ws[j]? with | some s => regV s | none => 0
def rL (ws : List ByteArray) : Bool := ws.all regL
def rvA (ws : List ByteArray) (j : Nat) : Int := if rL ws = true then rv ws j else 0
theorem regR_yes {s : ByteArray} (h : regL s = true) : regR s = regV s := by unfold regR; rw [h]; rfl

theorem three_at {w : World} {b : Nat} {x y z : Value} {t : TypeId} {fr : Nat × Nat} (h : w.heap[b]? = some (.cells #[x, y, z] t fr)) {j : Nat} (hj : j < 3) : ∃ u, w.cell? ⟨b, j, none⟩ = some u := by
  rw [cell_of h]
  rcases (by omega : j = 0 ∨ j = 1 ∨ j = 2) with rfl | rfl | rfl <;> exact ⟨_, rfl⟩
set_option maxHeartbeats 1000000 in
theorem readRegisters_any (P : Nat → Prop) (v : Value) (ws : List ByteArray) (hn : ws.length ≤ 3) (hz : Sml ws) (w : World) (hl : Ls eS P w v ws) :
    Calls Tryz.prog 112 #[v] w fun e w' => e = .returned (.tuple #[.agg #[.int .i64 (rvA ws 0), .int .i64 (rvA ws 1), .int .i64 (rvA ws 2)], .bool (rL ws)]) ∧ Gr w w' := by
  obtain ⟨ao, cap, rfl⟩ := hl.form
  have HL := hid hl
  have hcap := hl.len.2.1
  clear hl
  obtain ⟨n, hn'⟩ : ∃ n, n = ws.length := ⟨_, rfl⟩
  have HN := hid hn'
  rw [← hn'] at hn hcap ⊢
  clear hn'
  obtain ⟨a0, h0⟩ : ∃ a, a = rvA ws 0 := ⟨_, rfl⟩
  obtain ⟨a1, h1⟩ : ∃ a, a = rvA ws 1 := ⟨_, rfl⟩
  obtain ⟨a2, h2⟩ : ∃ a, a = rvA ws 2 := ⟨_, rfl⟩
  obtain ⟨B, hB⟩ : ∃ B, B = rL ws := ⟨_, rfl⟩
  rw [← h0, ← h1, ← h2, ← hB]
  have H0 := hid h0
  have H1 := hid h1
  have H2 := hid h2
  have HB := hid hB
  clear h0 h1 h2 hB
  go_enter Tryz.func112, Tryz.ntmps112
  go_wp2_with fail
  go_loopg [10] n (fun k i wr => ∃ j : Nat, ∃ c0 c1 c2 : Int, j + k = n ∧ i = .int .i64 (j : Nat) ∧ (∀ l s, l < j → ws[l]? = some s → regL s = true) ∧ wr.heap[w.heap.size]? = some (.cells #[.int .i64 c0, .int .i64 c1, .int .i64 c2] 122 (0, 0)) ∧ c0 = rv (ws.take j) 0 ∧ c1 = rv (ws.take j) 1 ∧ c2 = rv (ws.take j) 2 ∧ Gr w wr)
  case atStart => exact ⟨0, 0, 0, 0, by omega, rfl, fun l s a => by omega, (MapKept.heap_alloc w _).1, rfl, rfl, rfl, Gr.alloc (Gr.refl w) _ _⟩
  case round =>
    obtain ⟨j, c0, c1, c2, hjk, rfl, hno, hb, k0, k1, k2, hg⟩ := hrel
    have HNO := hid hno
    have K0 := hid k0
    have K1 := hid k1
    have K2 := hid k2
    have HBK := hid hb
    have HG := hid hg
    clear hno k0 k1 k2
    by_cases hj : j < n
    · obtain ⟨s, hsj⟩ : ∃ s, ws[j]? = some s := ⟨_, List.getElem?_eq_getElem (by rw [← HN.out]; exact hj)⟩
      obtain ⟨g, o, cap', hv, _, hgl, _, hc⟩ := HL.out.get eS_len hsj
      injection hv with hv1 hv2 hv3
      subst hv1
      clear hv2 hv3
      have hc0 := hc 0 _ rfl
      rw [Nat.mul_one, Nat.add_zero] at hc0
      have hcr : wr.cell? ⟨g, o + j, none⟩ = some (.string s) := (hg.cell hgl).trans hc0
      clear hc hc0
      have hss := hz s (List.mem_of_getElem? hsj)
      have SJ := hid hsj
      have j0 : (0 : Int) ≤ (j : Int) := by omega
      have j1 : (j : Int) < (n : Int) := by omega
      clear hsj hg hgl hb
      obtain ⟨R, hR⟩ : ∃ R, R = regR s := ⟨_, rfl⟩
      have HR := hid hR
      cases hq : regL s with
      | true =>
        have HC := hid (register_any s wr (by omega))
        rw [← hR, hq] at HC
        clear hR
        have j3 : (j : Int) < 3 := by omega
        go_wp2_with (go_at_call 122; refine HC.out.mono ?_; rintro e w1 ⟨rfl, hg1⟩; have hb1 := (hg1.block _ (lt_of_block HBK.out) (noB _)).trans HBK.out; obtain ⟨cu, cj⟩ := three_at hb1 (by omega : j < 3); have fj := frozen_of hb1 j; have HB1 := hid hb1; have HG1 := hid hg1; clear hb1 hg1)
        go_roundg (gk - 1)
        case measure => omega
        case rel =>
          have hnx : ∀ l t, l < j + 1 → ws[l]? = some t → regL t = true := fun l t a b => by
            by_cases hl : l = j
            · subst hl
              rw [SJ.out] at b
              injection b with b
              rw [← b]; exact hq
            · exact HNO.out l t (by omega) b
          have hch := (HG.out.trans HG1.out).fresh (Nat.le_refl _) j (.int .i64 R)
          have hbb := setCell_block HB1.out j (.int .i64 R)
          have r1 : R = regV s := HR.out.trans (regR_yes hq)
          have rvx : ∀ i, rv (ws.take (j + 1)) i = if i = j then regV s else rv (ws.take j) i := fun i => by
            unfold rv
            by_cases hi : i = j
            · subst hi
              rw [List.getElem?_take_of_lt (by omega), SJ.out]
              simp
            · rw [if_neg hi]
              by_cases hlt : i < j
              · rw [List.getElem?_take_of_lt hlt, List.getElem?_take_of_lt (by omega)]
              · rw [List.getElem?_eq_none (by simp; omega), List.getElem?_eq_none (by simp; omega)]
          rcases (by omega : j = 0 ∨ j = 1 ∨ j = 2) with rfl | rfl | rfl
          · exact ⟨1, R, c1, c2, by omega, by simp, hnx, by simpa using hbb, by rw [rvx, r1]; rfl, by rw [rvx]; exact K1.out, by rw [rvx]; exact K2.out, hch⟩
          · exact ⟨2, c0, R, c2, by omega, by simp, hnx, by simpa using hbb, by rw [rvx]; exact K0.out, by rw [rvx, r1]; rfl, by rw [rvx]; exact K2.out, hch⟩
          · exact ⟨3, c0, c1, R, by omega, by simp, hnx, by simpa using hbb, by rw [rvx]; exact K0.out, by rw [rvx]; exact K1.out, by rw [rvx, r1]; rfl, hch⟩
      | false =>
        have HC := hid (register_any s wr (by omega))
        rw [← hR, hq] at HC
        clear hR
        have hbad : rL ws = false := by
          unfold rL
          rw [List.all_eq_false]
          exact ⟨s, List.mem_of_getElem? SJ.out, by rw [hq]; simp⟩
        have x0 : a0 = 0 := by rw [H0.out]; unfold rvA; rw [hbad]; rfl
        have x1 : a1 = 0 := by rw [H1.out]; unfold rvA; rw [hbad]; rfl
        have x2 : a2 = 0 := by rw [H2.out]; unfold rvA; rw [hbad]; rfl
        have x3 : B = false := by rw [HB.out]; exact hbad
        subst x0 x1 x2 x3
        clear hbad
        go_wp2_with (go_at_call 122; refine HC.out.mono ?_; rintro e w1 ⟨rfl, hg1⟩; have hb1 := (hg1.block _ (lt_of_block HBK.out) (noB _)).trans HBK.out; have c0' := cell_of hb1 0; have c1' := cell_of hb1 1; have c2' := cell_of hb1 2; have f0 := frozen_of hb1 0; have f1 := frozen_of hb1 1; have f2 := frozen_of hb1 2; simp only [List.getElem?_toArray, List.getElem?_cons_zero, List.getElem?_cons_succ] at c0' c1' c2'; have HB1 := hid hb1; have HG1 := hid hg1; clear hb1 hg1)
        refine bodyPost_ret (v := .tuple #[.agg #[.int .i64 0, .int .i64 0, .int .i64 0], .bool false]) ?_ rfl ?_
        · simp [results, Tryz.results112, go_sem, c0', c1', c2']
        · exact ⟨rfl, (((HG.out.trans HG1.out).fresh (Nat.le_refl _) _ _).fresh (Nat.le_refl _) _ _).fresh (Nat.le_refl _) _ _⟩
    · have hjn : j = n := by omega
      subst hjn
      have htake : ws.take j = ws := by rw [HN.out]; exact List.take_length
      have hok : rL ws = true := by
        unfold rL
        rw [List.all_eq_true]
        intro t ht
        obtain ⟨l, hl⟩ := List.getElem?_of_mem ht
        exact HNO.out l t (by rw [HN.out]; exact (List.getElem?_eq_some_iff.1 hl).1) hl
      have x0 : a0 = c0 := by rw [H0.out, K0.out, htake]; unfold rvA; rw [hok]; rfl
      have x1 : a1 = c1 := by rw [H1.out, K1.out, htake]; unfold rvA; rw [hok]; rfl
      have x2 : a2 = c2 := by rw [H2.out, K2.out, htake]; unfold rvA; rw [hok]; rfl
      have x3 : B = true := by rw [HB.out]; exact hok
      subst x0 x1 x2 x3
      clear hok htake
      have c0' := cell_of hb 0
      have c1' := cell_of hb 1
      have c2' := cell_of hb 2
      have f0 := frozen_of hb 0
      have f1 := frozen_of hb 1
      have f2 := frozen_of hb 2
      simp only [List.getElem?_toArray, List.getElem?_cons_zero, List.getElem?_cons_succ] at c0' c1' c2'
      clear hb hg
      go_wp2
      refine bodyPost_ret (v := .tuple #[.agg #[.int .i64 a0, .int .i64 a1, .int .i64 a2], .bool true]) ?_ rfl ?_
      · simp [results, Tryz.results112, go_sem, c0', c1', c2']
      · exact ⟨rfl, ((HG.out.fresh (Nat.le_refl _) _ _).fresh (Nat.le_refl _) _ _).fresh (Nat.le_refl _) _ _⟩
end Go.Proofs.YtbehlhnnfdkmaaaGreatDoor.Lt
