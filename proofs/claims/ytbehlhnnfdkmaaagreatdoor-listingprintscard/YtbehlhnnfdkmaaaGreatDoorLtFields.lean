/-
  What the program's fields answers. Conditions: it is asked of an operation; words are no longer than a text may be; the tables lie where they lie.
-/
import Derived.Test.YtbehlhnnfdkmaaaGreatDoorLtForm
import Derived.Test.YtbehlhnnfdkmaaaGreatDoorWdEnc
namespace Go.Proofs.YtbehlhnnfdkmaaaGreatDoor.Lt
open Go.RowKit Wd

/-- the word in the number's place -/
def wN (k : Nat) (ws : List ByteArray) : ByteArray := (ws[fR (sh k)]?).getD { data := #[] }
/-- the number in it, none if the shape has none -/
def mN (k : Nat) (ws : List ByteArray) : Int := if fN (sh k) = 1 then numR (wN k ws) else 0
def aN (k : Nat) (ws : List ByteArray) : ByteArray := if fN (sh k) = 1 then rnA (k : Nat) (wN k ws) else { data := #[] }
/-- are all fields of their kinds? -/
def fK (k : Nat) (ws : List ByteArray) : Bool := decide (ws.length = fR (sh k) + fN (sh k)) && rL (ws.take (fR (sh k))) && (decide (fN (sh k) = 0) || rnL (k : Nat) (wN k ws))
/-- do they fit? -/
def fF (k : Nat) (ws : List ByteArray) : Bool := fit (sh k) (rv (ws.take (fR (sh k))) 0) (rv (ws.take (fR (sh k))) 1) (rv (ws.take (fR (sh k))) 2) (mN k ws)
def fE (k : Nat) (ws : List ByteArray) : Int := if fK k ws = true then (if fF k ws = true then 0 else 73) else 70
/-- the instruction -/
def fI (k : Nat) (ws : List ByteArray) : Int × Int × Int × Int × Int := if fE k ws = 0 then ((k : Int), rv (ws.take (fR (sh k))) 0, rv (ws.take (fR (sh k))) 1, rv (ws.take (fR (sh k))) 2, mN k ws) else (0, 0, 0, 0, 0)
def fA (k : Nat) (ws : List ByteArray) : ByteArray := if fE k ws = 0 then aN k ws else { data := #[] }
/-- an instruction's value -/
def iV (x : Int × Int × Int × Int × Int) : Value := .agg #[.int .i64 x.1, .int .i64 x.2.1, .int .i64 x.2.2.1, .int .i64 x.2.2.2.1, .int .i64 x.2.2.2.2]
/-- what Encode answers -/
def eW (k : Nat) (a b c m : Int) : Int := if fit (sh k) a b c m = true then k * 16777216 + a * 1048576 + b * 65536 + m % 65536 + c else 0
def eE (k : Nat) (a b c m : Int) : Int := if fit (sh k) a b c m = true then 0 else 61
theorem encode_any (k : Nat) (a b c m : Int) (h1 : 1 ≤ k) (h2 : k < 59) (w : World) (hn : Nums w) (hf : Forms w) :
    Calls Tryz.prog 54 #[.agg #[.int .i64 (k : Nat), .int .i64 a, .int .i64 b, .int .i64 c, .int .i64 m]] w fun e w' => e = .returned (.tuple #[.int .u32 (eW k a b c m), .int .i64 (eE k a b c m)]) ∧ Gr w w' := by
  unfold eW eE
  cases hq : fit (sh k) a b c m with
  | true => exact encode_ok k a b c m h1 h2 hq w hn hf
  | false => exact encode_bad k a b c m h1 h2 hq w hn hf
theorem st5 {w : World} {x : Nat} {T : TypeId} {o a b c m : Value} (h : w.heap[x]? = some (.cells #[o, a, b, c, m] T (0, 0))) (o' a' b' c' m' : Value) :
    (((((w.setCell ⟨x, 0, none⟩ o').setCell ⟨x, 1, none⟩ a').setCell ⟨x, 2, none⟩ b').setCell ⟨x, 3, none⟩ c').setCell ⟨x, 4, none⟩ m').heap[x]? = some (.cells #[o', a', b', c', m'] T (0, 0)) := by
  have h1 := setCell_block h 0 o'
  have h2 := setCell_block h1 1 a'
  have h3 := setCell_block h2 2 b'
  have h4 := setCell_block h3 3 c'
  have h5 := setCell_block h4 4 m'
  simpa using h5
theorem st4 {w : World} {x : Nat} {T : TypeId} {o a b c m : Value} (h : w.heap[x]? = some (.cells #[o, a, b, c, m] T (0, 0))) (m' : Value) :
    (w.setCell ⟨x, 4, none⟩ m').heap[x]? = some (.cells #[o, a, b, c, m'] T (0, 0)) := by
  have h5 := setCell_block h 4 m'
  simpa using h5
theorem fr5 {S : Nat → Prop} {a w : World} (h : Ch S a w) {x : Nat} (hx : a.heap.size ≤ x) (o' a' b' c' m' : Value) : Ch S a (((((w.setCell ⟨x, 0, none⟩ o').setCell ⟨x, 1, none⟩ a').setCell ⟨x, 2, none⟩ b').setCell ⟨x, 3, none⟩ c').setCell ⟨x, 4, none⟩ m') :=
  ((((h.fresh hx _ _).fresh hx _ _).fresh hx _ _).fresh hx _ _).fresh hx _ _

theorem al_blk {w : World} {x : Nat} {o : Obj} (h : w.heap[x]? = some o) (o' : Obj) : (w.alloc o').heap[x]? = some o := (Below.heap_alloc _ _ _ (lt_of_block h)).trans h
theorem gr_blk {w w' : World} {x : Nat} {o : Obj} (h : w.heap[x]? = some o) (g : Gr w w') : w'.heap[x]? = some o := (g.block _ (lt_of_block h) (noB _)).trans h
/-- another number of words than the shape has -/
theorem fields_len (v : Value) (ws : List ByteArray) (P : Nat → Prop) (k : Nat) (h1 : 1 ≤ k) (h2 : k < 59) (hne : ws.length ≠ fR (sh k) + fN (sh k)) (w : World) (hl : Ls eS P w v ws) (hn : Nums w) :
    Calls Tryz.prog 96 #[.int .i64 (k : Nat), v] w fun e w' => e = .returned (.tuple #[iV (fI k ws), .string (fA k ws), .int .i64 (fE k ws)]) ∧ Gr w w' := by
  have eK : fK k ws = false := by unfold fK; simp [hne]
  have eE' : fE k ws = 70 := by unfold fE; rw [eK]; rfl
  have eI : fI k ws = (0, 0, 0, 0, 0) := by unfold fI; rw [eE']; rfl
  have eA : fA k ws = { data := #[] } := by unfold fA; rw [eE']; rfl
  rw [eE', eI, eA]
  unfold iV
  clear eK eE' eI eA
  obtain ⟨ao, cap, rfl⟩ := hl.form
  clear hl
  have HF := hid (form_any k h1 h2 _ (hn.gr (Gr.alloc (Gr.refl w) #[.int .i64 0, .int .i64 0, .int .i64 0, .int .i64 0, .int .i64 0] 67)))
  have hs := sh_lt k
  obtain ⟨n, hn'⟩ : ∃ n, n = ws.length := ⟨_, rfl⟩
  rw [← hn'] at hne ⊢
  clear hn' hn
  obtain ⟨s, hs'⟩ : ∃ s, s = sh k := ⟨_, rfl⟩
  rw [← hs'] at HF hs hne
  clear hs'
  obtain ⟨r, hr⟩ : ∃ r, r = fR s := ⟨_, rfl⟩
  obtain ⟨m, hm⟩ : ∃ m, m = fN s := ⟨_, rfl⟩
  have b1 : r ≤ 3 := by rw [hr]; unfold fR; split <;> omega
  have b2 : m ≤ 1 := by rw [hm]; unfold fN; split <;> omega
  rw [← hr, ← hm] at HF hne
  clear hr hm hs
  have hw : wrap64 ((r : Int) + (m : Int)) = (r : Int) + (m : Int) := by unfold wrap64; omega
  have hne' : ¬ ((n : Int) = (r : Int) + (m : Int)) := by omega
  go_enter Tryz.func96, Tryz.ntmps96
  go_wp2_with (go_at_call 75; refine HF.out.mono ?_; rintro e w1 ⟨rfl, hw1⟩; have hw1 := hw1.symm; subst hw1)
  refine bodyPost_ret (v := .tuple #[.agg #[.int .i64 0, .int .i64 0, .int .i64 0, .int .i64 0, .int .i64 0], .string { data := #[] }, .int .i64 70]) (by simp [results, Tryz.results96, go_sem]) rfl ?_
  exact ⟨rfl, Gr.alloc (Gr.refl _) _ _⟩

theorem Ls.take {α : Type} {enc : α → List Value} {P : Nat → Prop} {w : World} {ao : Option Addr} {n cap r : Nat} {xs : List α} (h : Ls enc P w (.slice ao n cap) xs) (hr : r ≤ n) : Ls enc P w (.slice ao r cap) (xs.take r) := by
  obtain ⟨ao', cap', e, hc, hcase⟩ := h
  injection e with e1 e2 e3
  subst e1 e3
  have hl : (xs.take r).length = r := by rw [List.length_take]; omega
  refine ⟨ao, cap, by rw [hl], ⟨by rw [hl]; omega, hc.2⟩, ?_⟩
  rcases hcase with rfl | ⟨g, o, h1, h2, h3, h4⟩
  · exact .inl (by simp)
  · refine .inr ⟨g, o, h1, h2, h3, fun j x hx => h4 j x ?_⟩
    have e3 : xs.flatMap enc = (xs.take r).flatMap enc ++ (xs.drop r).flatMap enc := by rw [← List.flatMap_append, List.take_append_drop]
    rw [e3, List.getElem?_append_left (List.getElem?_eq_some_iff.1 hx).1]
    exact hx

set_option maxHeartbeats 2000000 in
set_option maxRecDepth 20000 in
theorem fields_eq (P : Nat → Prop) (v : Value) (ws : List ByteArray) (k : Nat) (h1 : 1 ≤ k) (h2 : k < 59) (hlen : ws.length = fR (sh k) + fN (sh k)) (w : World) (hl : Ls eS P w v ws) (hz : Sml ws) (hn : Nums w) (hf : Forms w) :
    Calls Tryz.prog 96 #[.int .i64 (k : Nat), v] w fun e w' => e = .returned (.tuple #[iV (fI k ws), .string (fA k ws), .int .i64 (fE k ws)]) ∧ Gr w w' := by
  have g0 := Gr.alloc (Gr.refl w) #[.int .i64 0, .int .i64 0, .int .i64 0, .int .i64 0, .int .i64 0] 67
  have HF := hid (form_any k h1 h2 _ (hn.gr g0))
  obtain ⟨r, hr⟩ : ∃ r, r = fR (sh k) := ⟨_, rfl⟩
  obtain ⟨m, hm⟩ : ∃ m, m = fN (sh k) := ⟨_, rfl⟩
  have b1 : r ≤ 3 := by rw [hr]; unfold fR; split <;> omega
  have b2 : m ≤ 1 := by rw [hm]; unfold fN; split <;> omega
  rw [← hr, ← hm] at HF hlen
  have Hr := hid hr
  have Hm := hid hm
  obtain ⟨ao, cap, rfl⟩ := hl.form
  have hlr : Ls eS P w (.slice ao r cap) (ws.take r) := hl.take (by omega)
  have HL := hid hl
  have hcap := hl.len.2.1
  have HR := hid (readRegisters_any P (.slice ao r cap) (ws.take r) (by rw [List.length_take]; omega) (fun s hs => hz s (List.mem_of_mem_take hs)) _ (hlr.gr g0))
  obtain ⟨a, ha⟩ : ∃ a, a = rvA (ws.take r) 0 := ⟨_, rfl⟩
  obtain ⟨b, hb⟩ : ∃ b, b = rvA (ws.take r) 1 := ⟨_, rfl⟩
  obtain ⟨c, hc⟩ : ∃ c, c = rvA (ws.take r) 2 := ⟨_, rfl⟩
  rw [← ha, ← hb, ← hc] at HR
  have Ha := hid ha
  have Hb := hid hb
  have Hc := hid hc
  clear ha hb hc hr hm hlr hl g0
  have hw : wrap64 ((r : Int) + (m : Int)) = (r : Int) + (m : Int) := by unfold wrap64; omega
  obtain ⟨n, hn'⟩ : ∃ n, n = ws.length := ⟨_, rfl⟩
  have HN := hid hn'
  rw [← hn'] at hlen hcap ⊢
  clear hn'
  have hlen' : (n : Int) = (r : Int) + (m : Int) := by omega
  have r0 : (0 : Int) ≤ (r : Int) := by omega
  have r1 : (r : Int) ≤ (cap : Int) := by omega
  have r2 : (r : Int) ≤ (n : Int) := by omega
  have HB0 := hid (MapKept.heap_alloc w (.cells #[.int .i64 0, .int .i64 0, .int .i64 0, .int .i64 0, .int .i64 0] 67)).1
  have HG0 := hid (Gr.alloc (Gr.refl w) #[.int .i64 0, .int .i64 0, .int .i64 0, .int .i64 0, .int .i64 0] 67)
  cases hq : rL (ws.take r) with
  | false =>
    rw [hq] at HR
    have eK : fK k ws = false := by unfold fK; rw [← Hr.out, hq]; simp
    have eE' : fE k ws = 70 := by unfold fE; rw [eK]; rfl
    have eI : fI k ws = (0, 0, 0, 0, 0) := by unfold fI; rw [eE']; rfl
    have eA : fA k ws = { data := #[] } := by unfold fA; rw [eE']; rfl
    rw [eE', eI, eA]
    unfold iV
    clear eK eE' eI eA
    go_enter Tryz.func96, Tryz.ntmps96
    go_wp2_with (first | (go_at_call 75; refine HF.out.mono ?_; rintro e w1 ⟨rfl, hw1⟩; have hw1 := hw1.symm; subst hw1) | (go_at_call 112; refine HR.out.mono ?_; rintro e w1 ⟨rfl, hg1⟩; have hb1 := gr_blk HB0.out hg1; obtain ⟨u0, u1, u2, u3, u4, uz, ul⟩ := Box.of hb1; have y0 := uz 0; have y1 := uz 1; have y2 := uz 2; have y3 := uz 3; have y4 := uz 4; have HG1 := hid (HG0.out.trans hg1); have HB1 := hid hb1; clear hg1 uz hb1))
    refine bodyPost_ret (v := .tuple #[.agg #[.int .i64 0, .int .i64 0, .int .i64 0, .int .i64 0, .int .i64 0], .string { data := #[] }, .int .i64 70]) (by simp [results, Tryz.results96, go_sem, cell_of (al_blk (st5 HB1.out _ _ _ _ _) _)]) rfl ?_
    exact ⟨rfl, (fr5 HG1.out (Nat.le_refl _) _ _ _ _ _).alloc _⟩
  | true =>
    rw [hq] at HR
    have ea : rv (ws.take r) 0 = a := by rw [Ha.out]; unfold rvA; rw [hq]; rfl
    have eb : rv (ws.take r) 1 = b := by rw [Hb.out]; unfold rvA; rw [hq]; rfl
    have ec : rv (ws.take r) 2 = c := by rw [Hc.out]; unfold rvA; rw [hq]; rfl
    have FF := hid (show fF k ws = fit (sh k) a b c (mN k ws) by unfold fF; rw [← Hr.out, ea, eb, ec])
    have FI := hid (show fE k ws = 0 → fI k ws = ((k : Int), a, b, c, mN k ws) from fun h => by unfold fI; rw [h, ← Hr.out, ea, eb, ec]; rfl)
    have FK := hid (show (m = 0 ∨ rnL (k : Nat) (wN k ws) = true) → fK k ws = true from fun h => by
      unfold fK
      rw [← Hr.out, ← Hm.out, hq, ← HN.out]
      rcases h with h | h <;> simp [h, hlen])
    have FK0 := hid (show m = 1 → rnL (k : Nat) (wN k ws) = false → fK k ws = false from fun h h' => by
      unfold fK
      rw [← Hr.out, ← Hm.out, hq, ← HN.out]
      simp [h, h'])
    have EN := hid (fun (mm : Int) (W : World) (x : Nums W) (y : Forms W) => encode_any k a b c mm h1 h2 W x y)
    have hn0 := hn
    have hf0 := hf
    clear ea eb ec
    rcases (by omega : m = 0 ∨ m = 1) with rfl | rfl
    · have em : mN k ws = 0 := by unfold mN; rw [← Hm.out]; rfl
      have eAs : aN k ws = { data := #[] } := by unfold aN; rw [← Hm.out]; rfl
      rw [em] at FF FI
      have HEN := hid (EN.out 0)
      cases hfit : fit (sh k) a b c 0 with
      | true =>
        have eE' : fE k ws = 0 := by unfold fE; rw [FK.out (.inl rfl), FF.out, hfit]; rfl
        have eA : fA k ws = { data := #[] } := by unfold fA; rw [eE', eAs]; rfl
        rw [eE', FI.out eE', eA]
        unfold iV
        have e0 : eE k a b c 0 = 0 := by unfold eE; rw [hfit]; rfl
        rw [e0] at HEN
        obtain ⟨EW, hEW⟩ : ∃ x, x = eW k a b c 0 := ⟨_, rfl⟩
        rw [← hEW] at HEN
        clear hEW e0 eA eE' em eAs hfit
        have NN := hid hn
        have FM := hid hf
        clear hn hf hn0 hf0
        go_enter Tryz.func96, Tryz.ntmps96
        go_wp2_with (first | (go_at_call 75; refine HF.out.mono ?_; rintro e w1 ⟨rfl, hw1⟩; have hw1 := hw1.symm; subst hw1) | (go_at_call 112; refine HR.out.mono ?_; rintro e w1 ⟨rfl, hg1⟩; have hb1 := gr_blk HB0.out hg1; obtain ⟨u0, u1, u2, u3, u4, uz, ul⟩ := Box.of hb1; have y0 := uz 0; have y1 := uz 1; have y2 := uz 2; have y3 := uz 3; have y4 := uz 4; have HG1 := hid (HG0.out.trans hg1); have HB1 := hid hb1; clear hg1 uz hb1))
        all_goals refine wp_loop_rounds 1 ?_
        all_goals rw [rounds_succ]
        all_goals go_wp2_with (go_at_call 54; refine (HEN.out _ (NN.out.gr ((fr5 HG1.out (Nat.le_refl _) _ _ _ _ _).alloc _)) (FM.out.gr ((fr5 HG1.out (Nat.le_refl _) _ _ _ _ _).alloc _))).mono ?_; rintro e w2 ⟨rfl, hg2⟩; have hb2 := gr_blk (al_blk (st5 HB1.out _ _ _ _ _) _) hg2; obtain ⟨v0, v1, v2, v3, v4, vz, vl⟩ := Box.of hb2; have z0 := vz 0; have z1 := vz 1; have z2 := vz 2; have z3 := vz 3; have z4 := vz 4; have HG2 := hid (Gr.trans ((fr5 HG1.out (Nat.le_refl _) _ _ _ _ _).alloc _) hg2); have HB2 := hid hb2; clear hg2 vz hb2 u0 u1 u2 u3 u4 y0 y1 y2 y3 y4 ul)
        all_goals
          refine bodyPost_ret (v := .tuple #[.agg #[.int .i64 (k : Nat), .int .i64 a, .int .i64 b, .int .i64 c, .int .i64 0], .string { data := #[] }, .int .i64 0]) (by simp [results, Tryz.results96, go_sem, cell_of (st5 HB2.out _ _ _ _ _)]) rfl ?_
          exact ⟨rfl, fr5 HG2.out (Nat.le_refl _) _ _ _ _ _⟩
      | false =>
        have eE' : fE k ws = 73 := by unfold fE; rw [FK.out (.inl rfl), FF.out, hfit]; rfl
        have eI : fI k ws = (0, 0, 0, 0, 0) := by unfold fI; rw [eE']; rfl
        have eA : fA k ws = { data := #[] } := by unfold fA; rw [eE']; rfl
        rw [eE', eI, eA]
        unfold iV
        have e0 : eE k a b c 0 = 61 := by unfold eE; rw [hfit]; rfl
        rw [e0] at HEN
        obtain ⟨EW, hEW⟩ : ∃ x, x = eW k a b c 0 := ⟨_, rfl⟩
        rw [← hEW] at HEN
        clear hEW e0 eA eI eE' em eAs hfit
        have NN := hid hn
        have FM := hid hf
        clear hn hf hn0 hf0
        go_enter Tryz.func96, Tryz.ntmps96
        go_wp2_with (first | (go_at_call 75; refine HF.out.mono ?_; rintro e w1 ⟨rfl, hw1⟩; have hw1 := hw1.symm; subst hw1) | (go_at_call 112; refine HR.out.mono ?_; rintro e w1 ⟨rfl, hg1⟩; have hb1 := gr_blk HB0.out hg1; obtain ⟨u0, u1, u2, u3, u4, uz, ul⟩ := Box.of hb1; have y0 := uz 0; have y1 := uz 1; have y2 := uz 2; have y3 := uz 3; have y4 := uz 4; have HG1 := hid (HG0.out.trans hg1); have HB1 := hid hb1; clear hg1 uz hb1))
        all_goals refine wp_loop_rounds 1 ?_
        all_goals rw [rounds_succ]
        all_goals go_wp2_with (go_at_call 54; refine (HEN.out _ (NN.out.gr ((fr5 HG1.out (Nat.le_refl _) _ _ _ _ _).alloc _)) (FM.out.gr ((fr5 HG1.out (Nat.le_refl _) _ _ _ _ _).alloc _))).mono ?_; rintro e w2 ⟨rfl, hg2⟩; have hb2 := gr_blk (al_blk (st5 HB1.out _ _ _ _ _) _) hg2; obtain ⟨v0, v1, v2, v3, v4, vz, vl⟩ := Box.of hb2; have z0 := vz 0; have z1 := vz 1; have z2 := vz 2; have z3 := vz 3; have z4 := vz 4; have HG2 := hid (Gr.trans ((fr5 HG1.out (Nat.le_refl _) _ _ _ _ _).alloc _) hg2); have HB2 := hid hb2; clear hg2 vz hb2 u0 u1 u2 u3 u4 y0 y1 y2 y3 y4 ul)
        all_goals
          refine bodyPost_ret (v := .tuple #[.agg #[.int .i64 0, .int .i64 0, .int .i64 0, .int .i64 0, .int .i64 0], .string { data := #[] }, .int .i64 73]) (by simp [results, Tryz.results96, go_sem, cell_of (st5 HB2.out _ _ _ _ _)]) rfl ?_
          exact ⟨rfl, fr5 HG2.out (Nat.le_refl _) _ _ _ _ _⟩
    · obtain ⟨s, hsj⟩ : ∃ s, ws[r]? = some s := ⟨_, List.getElem?_eq_getElem (by rw [← HN.out]; omega)⟩
      obtain ⟨g, o, cap', hv, _, hgl, _, hcw⟩ := HL.out.get eS_len hsj
      injection hv with hv1 hv2 hv3
      subst hv1
      clear hv2 hv3
      have hcw0 := hcw 0 _ rfl
      rw [Nat.mul_one, Nat.add_zero] at hcw0
      have HCW := hid hcw0
      have HGL := hid hgl
      clear hcw hcw0 hgl
      have ew : wN k ws = s := by unfold wN; rw [← Hr.out, hsj]; rfl
      have em : mN k ws = numR s := by unfold mN; rw [← Hm.out, ew]; rfl
      have eAs : aN k ws = rnA (k : Nat) s := by unfold aN; rw [← Hm.out, ew]; rfl
      rw [em] at FF FI
      rw [ew] at FK FK0
      have HRN := hid (fun (W : World) => readNumber_any (k : Nat) s W (by have := hz s (List.mem_of_getElem? hsj); omega))
      obtain ⟨M, hM⟩ : ∃ M, M = numR s := ⟨_, rfl⟩
      rw [← hM] at HRN FF FI
      clear hM hsj ew em hz
      have NN := hid hn
      have FM := hid hf
      clear hn hf hn0 hf0
      have hcr0 : ¬ (cap : Int) - (r : Int) = 0 := by omega
      have hcr1 : ¬ cap - r = 0 := by omega
      have hcr2 : ¬ cap = r := by omega
      cases hqn : rnL (k : Nat) s with
      | false =>
        rw [hqn] at HRN
        have eE' : fE k ws = 70 := by unfold fE; rw [FK0.out rfl hqn]; rfl
        have eI : fI k ws = (0, 0, 0, 0, 0) := by unfold fI; rw [eE']; rfl
        have eA : fA k ws = { data := #[] } := by unfold fA; rw [eE']; rfl
        rw [eE', eI, eA]
        unfold iV
        obtain ⟨A, hA⟩ : ∃ A, A = rnA (k : Nat) s := ⟨_, rfl⟩
        rw [← hA] at HRN
        clear eA eI eE' hA eAs
        go_enter Tryz.func96, Tryz.ntmps96
        go_wp2_with (first | (go_at_call 75; refine HF.out.mono ?_; rintro e w1 ⟨rfl, hw1⟩; have hw1 := hw1.symm; subst hw1) | (go_at_call 112; refine HR.out.mono ?_; rintro e w1 ⟨rfl, hg1⟩; have hb1 := gr_blk HB0.out hg1; obtain ⟨u0, u1, u2, u3, u4, uz, ul⟩ := Box.of hb1; have y0 := uz 0; have y1 := uz 1; have y2 := uz 2; have y3 := uz 3; have y4 := uz 4; have HG1 := hid (HG0.out.trans hg1); have HB1 := hid hb1; clear hg1 uz hb1; have hcr := (HG1.out.cell HGL.out).trans HCW.out; have gl := Nat.lt_of_lt_of_le HGL.out HG1.out.size; have gne : ¬ g = w.heap.size := Nat.ne_of_lt HGL.out))
        refine wp_loop_rounds 2 ?_
        rw [rounds_succ]
        go_wp2_with (go_at_call 113; refine (HRN.out _).mono ?_; rintro e w2 ⟨rfl, hg2⟩; have hb2 := gr_blk (al_blk (st5 HB1.out _ _ _ _ _) _) hg2; obtain ⟨v0, v1, v2, v3, v4, vz, vl⟩ := Box.of hb2; have z0 := vz 0; have z1 := vz 1; have z2 := vz 2; have z3 := vz 3; have z4 := vz 4; have HG2 := hid (Gr.trans ((fr5 HG1.out (Nat.le_refl _) _ _ _ _ _).alloc _) hg2); have HB2 := hid hb2; clear hg2 vz hb2 u0 u1 u2 u3 u4 y0 y1 y2 y3 y4 ul)
        refine bodyPost_ret (v := .tuple #[.agg #[.int .i64 0, .int .i64 0, .int .i64 0, .int .i64 0, .int .i64 0], .string { data := #[] }, .int .i64 70]) (by simp [results, Tryz.results96, go_sem, cell_of (st5 (st4 HB2.out _) _ _ _ _ _)]) rfl ?_
        exact ⟨rfl, fr5 (HG2.out.fresh (Nat.le_refl _) _ _) (Nat.le_refl _) _ _ _ _ _⟩
      | true =>
        rw [hqn] at HRN
        have HEN := hid (EN.out M)
        cases hfit : fit (sh k) a b c M with
        | true =>
          have eE' : fE k ws = 0 := by unfold fE; rw [FK.out (.inr hqn), FF.out, hfit]; rfl
          have eA : fA k ws = rnA (k : Nat) s := by unfold fA; rw [eE', eAs]; rfl
          rw [eE', FI.out eE', eA]
          unfold iV
          have e0 : eE k a b c M = 0 := by unfold eE; rw [hfit]; rfl
          rw [e0] at HEN
          obtain ⟨EW, hEW⟩ : ∃ x, x = eW k a b c M := ⟨_, rfl⟩
          rw [← hEW] at HEN
          obtain ⟨A, hA⟩ : ∃ A, A = rnA (k : Nat) s := ⟨_, rfl⟩
          rw [← hA] at HRN ⊢
          clear hEW e0 eA eE' eAs hfit hA
          go_enter Tryz.func96, Tryz.ntmps96
          go_wp2_with (first | (go_at_call 75; refine HF.out.mono ?_; rintro e w1 ⟨rfl, hw1⟩; have hw1 := hw1.symm; subst hw1) | (go_at_call 112; refine HR.out.mono ?_; rintro e w1 ⟨rfl, hg1⟩; have hb1 := gr_blk HB0.out hg1; obtain ⟨u0, u1, u2, u3, u4, uz, ul⟩ := Box.of hb1; have y0 := uz 0; have y1 := uz 1; have y2 := uz 2; have y3 := uz 3; have y4 := uz 4; have HG1 := hid (HG0.out.trans hg1); have HB1 := hid hb1; clear hg1 uz hb1; have hcr := (HG1.out.cell HGL.out).trans HCW.out; have gl := Nat.lt_of_lt_of_le HGL.out HG1.out.size; have gne : ¬ g = w.heap.size := Nat.ne_of_lt HGL.out))
          refine wp_loop_rounds 2 ?_
          rw [rounds_succ]
          go_wp2_with (go_at_call 113; refine (HRN.out _).mono ?_; rintro e w2 ⟨rfl, hg2⟩; have hb2 := gr_blk (al_blk (st5 HB1.out _ _ _ _ _) _) hg2; obtain ⟨v0, v1, v2, v3, v4, vz, vl⟩ := Box.of hb2; have z0 := vz 0; have z1 := vz 1; have z2 := vz 2; have z3 := vz 3; have z4 := vz 4; have HG2 := hid (Gr.trans ((fr5 HG1.out (Nat.le_refl _) _ _ _ _ _).alloc _) hg2); have HB2 := hid hb2; clear hg2 vz hb2 u0 u1 u2 u3 u4 y0 y1 y2 y3 y4 ul)
          rw [rounds_succ]
          go_wp2_with (go_at_call 54; refine (HEN.out _ (NN.out.gr (HG2.out.fresh (Nat.le_refl _) _ _)) (FM.out.gr (HG2.out.fresh (Nat.le_refl _) _ _))).mono ?_; rintro e w3 ⟨rfl, hg3⟩; have hb3 := gr_blk (st4 HB2.out _) hg3; obtain ⟨s0, s1, s2, s3, s4, sz, sl⟩ := Box.of hb3; have t0 := sz 0; have t1 := sz 1; have t2 := sz 2; have t3 := sz 3; have t4 := sz 4; have HG3 := hid (Gr.trans (HG2.out.fresh (Nat.le_refl _) _ _) hg3); have HB3 := hid hb3; clear hg3 sz hb3 v0 v1 v2 v3 v4 z0 z1 z2 z3 z4 vl)
          refine bodyPost_ret (v := .tuple #[.agg #[.int .i64 (k : Nat), .int .i64 a, .int .i64 b, .int .i64 c, .int .i64 M], .string A, .int .i64 0]) (by simp [results, Tryz.results96, go_sem, cell_of (st5 HB3.out _ _ _ _ _)]) rfl ?_
          exact ⟨rfl, fr5 HG3.out (Nat.le_refl _) _ _ _ _ _⟩
        | false =>
          have eE' : fE k ws = 73 := by unfold fE; rw [FK.out (.inr hqn), FF.out, hfit]; rfl
          have eI : fI k ws = (0, 0, 0, 0, 0) := by unfold fI; rw [eE']; rfl
          have eA : fA k ws = { data := #[] } := by unfold fA; rw [eE']; rfl
          rw [eE', eI, eA]
          unfold iV
          have e0 : eE k a b c M = 61 := by unfold eE; rw [hfit]; rfl
          rw [e0] at HEN
          obtain ⟨EW, hEW⟩ : ∃ x, x = eW k a b c M := ⟨_, rfl⟩
          rw [← hEW] at HEN
          obtain ⟨A, hA⟩ : ∃ A, A = rnA (k : Nat) s := ⟨_, rfl⟩
          rw [← hA] at HRN
          clear hEW e0 eA eI eE' eAs hfit hA
          go_enter Tryz.func96, Tryz.ntmps96
          go_wp2_with (first | (go_at_call 75; refine HF.out.mono ?_; rintro e w1 ⟨rfl, hw1⟩; have hw1 := hw1.symm; subst hw1) | (go_at_call 112; refine HR.out.mono ?_; rintro e w1 ⟨rfl, hg1⟩; have hb1 := gr_blk HB0.out hg1; obtain ⟨u0, u1, u2, u3, u4, uz, ul⟩ := Box.of hb1; have y0 := uz 0; have y1 := uz 1; have y2 := uz 2; have y3 := uz 3; have y4 := uz 4; have HG1 := hid (HG0.out.trans hg1); have HB1 := hid hb1; clear hg1 uz hb1; have hcr := (HG1.out.cell HGL.out).trans HCW.out; have gl := Nat.lt_of_lt_of_le HGL.out HG1.out.size; have gne : ¬ g = w.heap.size := Nat.ne_of_lt HGL.out))
          refine wp_loop_rounds 2 ?_
          rw [rounds_succ]
          go_wp2_with (go_at_call 113; refine (HRN.out _).mono ?_; rintro e w2 ⟨rfl, hg2⟩; have hb2 := gr_blk (al_blk (st5 HB1.out _ _ _ _ _) _) hg2; obtain ⟨v0, v1, v2, v3, v4, vz, vl⟩ := Box.of hb2; have z0 := vz 0; have z1 := vz 1; have z2 := vz 2; have z3 := vz 3; have z4 := vz 4; have HG2 := hid (Gr.trans ((fr5 HG1.out (Nat.le_refl _) _ _ _ _ _).alloc _) hg2); have HB2 := hid hb2; clear hg2 vz hb2 u0 u1 u2 u3 u4 y0 y1 y2 y3 y4 ul)
          rw [rounds_succ]
          go_wp2_with (go_at_call 54; refine (HEN.out _ (NN.out.gr (HG2.out.fresh (Nat.le_refl _) _ _)) (FM.out.gr (HG2.out.fresh (Nat.le_refl _) _ _))).mono ?_; rintro e w3 ⟨rfl, hg3⟩; have hb3 := gr_blk (st4 HB2.out _) hg3; obtain ⟨s0, s1, s2, s3, s4, sz, sl⟩ := Box.of hb3; have t0 := sz 0; have t1 := sz 1; have t2 := sz 2; have t3 := sz 3; have t4 := sz 4; have HG3 := hid (Gr.trans (HG2.out.fresh (Nat.le_refl _) _ _) hg3); have HB3 := hid hb3; clear hg3 sz hb3 v0 v1 v2 v3 v4 z0 z1 z2 z3 z4 vl)
          refine bodyPost_ret (v := .tuple #[.agg #[.int .i64 0, .int .i64 0, .int .i64 0, .int .i64 0, .int .i64 0], .string { data := #[] }, .int .i64 73]) (by simp [results, Tryz.results96, go_sem, cell_of (st5 HB3.out _ _ _ _ _)]) rfl ?_
          exact ⟨rfl, fr5 HG3.out (Nat.le_refl _) _ _ _ _ _⟩
end Go.Proofs.YtbehlhnnfdkmaaaGreatDoor.Lt
