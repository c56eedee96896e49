/-
  What the program's cut answers: the lines of a text that count. Condition: the text is no longer than a text may be; the tables lie where they lie.
-/
import Derived.Test.YtbehlhnnfdkmaaaGreatDoorLtAhead
namespace Go.Proofs.YtbehlhnnfdkmaaaGreatDoor.Lt
open Go.RowKit Wd

theorem splitB_le (sep : ByteArray) (h1 : 1 ≤ sep.size) : ∀ (k : Nat) (s p : ByteArray), p ∈ Lib.splitB sep 0 k s → p.size ≤ s.size := by
  intro k
  induction k with
  | zero =>
    intro s p hp
    simp [Lib.splitB_zero] at hp
    rw [hp]
    exact Nat.le_refl _
  | succ k ih =>
    intro s p hp
    unfold Lib.splitB at hp
    split at hp
    · simp at hp
      rw [hp]
      exact Nat.le_refl _
    · rcases List.mem_cons.1 hp with h | h
      · rw [h, ByteArray.size_extract]
        omega
      · have := ih _ _ h
        rw [ByteArray.size_extract] at this
        omega
theorem SP_le {s p : ByteArray} (h : p ∈ SP s) : p.size ≤ s.size := splitB_le _ (by decide) _ _ _ h
theorem SP_len (s : ByteArray) : (SP s).length ≤ s.size + 1 := by
  have h1 := Lib.countB_le ⟨#[10]⟩ (by decide) s.size s (Nat.le_refl _)
  have h2 := Lib.splitB_all ⟨#[10]⟩ (by decide) 0 _ s rfl
  unfold SP
  omega
theorem told_le (s : ByteArray) : (told s).size ≤ s.size := by
  have e : (told s).size = (Lib.cut s.data.toList [59]).1.length := by
    unfold told
    show (Lib.cut s.data.toList [59]).1.toArray.size = _
    simp
  rw [e]
  have e2 : s.size = s.data.toList.length := rfl
  rw [e2]
  unfold Lib.cut
  split
  · rw [List.length_take]; omega
  · exact Nat.le_refl _
theorem goFields_le (p : Nat → Bool) (s x : ByteArray) (h : x ∈ Lib.goFieldsP p s) : x.size ≤ s.size := by
  unfold Lib.goFieldsP at h
  obtain ⟨y, _, rfl⟩ := List.mem_map.1 h
  rw [ByteArray.size_extract]
  omega
theorem wd_le {s x : ByteArray} (h : x ∈ wd s) : x.size ≤ s.size := Nat.le_trans (goFields_le _ _ _ h) (told_le s)

/-- the lines that count, with their numbers -/
def cutS : List (List ByteArray) → Nat → List (Nat × List ByteArray)
  | [], _ => []
  | ws :: r, i => if ws = [] then cutS r (i + 1) else (i + 1, ws) :: cutS r (i + 1)
theorem cutS_snoc : ∀ (a : List (List ByteArray)) (x : List ByteArray) (i : Nat), cutS (a ++ [x]) i = cutS a i ++ (if x = [] then [] else [(i + a.length + 1, x)]) := by
  intro a
  induction a with
  | nil => intro x i; simp [cutS]
  | cons y ys ih =>
    intro x i
    rw [List.cons_append]
    unfold cutS
    rw [ih, List.length_cons]
    have e : i + 1 + ys.length + 1 = i + (ys.length + 1) + 1 := by omega
    rw [e]
    split <;> simp
theorem cutS_len : ∀ (a : List (List ByteArray)) (i : Nat), (cutS a i).length ≤ a.length := by
  intro a
  induction a with
  | nil => intro i; simp [cutS]
  | cons y ys ih =>
    intro i
    unfold cutS
    have := ih (i + 1)
    split <;> simp <;> omega
/-- the words of a text, line by line -/
def WS (s : ByteArray) : List (List ByteArray) := (SP s).map wd
/-- a line in memory is what it is -/
structure LnOk (P : Nat → Prop) (w : World) (l : Ln) : Prop where
  kind : l.kind = (kd (l.ws.headD ⟨#[]⟩)).1
  op : l.op = (kd (l.ws.headD ⟨#[]⟩)).2
  ne : l.ws ≠ []
  small : Sml l.ws
  lst : Ls eS P w l.wv l.ws
/-- the lines of a text in memory -/
structure CutR (base : Nat) (t : ByteArray) (w : World) (v : Value) (ls : List Ln) : Prop where
  own : Ow eL 5 56 base w v ls
  says : ls.map (fun l => (l.num, l.ws)) = cutS (WS t) 0
  ok : ∀ l ∈ ls, LnOk (fun g => base ≤ g ∧ ¬ Blk v g) w l
  leads : ∀ i l, ls[i]? = some l → l.leads = cm ((ls.drop (i + 1)).map (·.kind))
/-- lines in memory, those up to the j-th of a text -/
structure Cut0 (base : Nat) (t : ByteArray) (j : Nat) (w : World) (v : Value) (ls : List Ln) : Prop where
  own : Ow eL 5 56 base w v ls
  says : ls.map (fun l => (l.num, l.ws)) = cutS ((WS t).take j) 0
  ok : ∀ l ∈ ls, LnOk (fun g => base ≤ g ∧ ¬ Blk v g) w l ∧ l.leads = false
theorem LnOk.ch {P Q S : Nat → Prop} {w w' : World} {l : Ln} (h : LnOk P w l) (k : Ch S w w') (hs : ∀ g, g < w.heap.size → P g → ¬ S g) (hq : ∀ g, g < w.heap.size → P g → Q g) : LnOk Q w' l :=
  ⟨h.kind, h.op, h.ne, h.small, ((h.lst.mono (Q := fun g => P g ∧ Q g) (fun g a b => ⟨b, hq g a b⟩)).ch k (fun g a b => hs g a b.1)).mono (fun _ _ b => b.2)⟩
theorem Cut0.gr {base : Nat} {t : ByteArray} {j : Nat} {w w' : World} {v : Value} {ls : List Ln} (h : Cut0 base t j w v ls) (k : Gr w w') : Cut0 base t j w' v ls :=
  ⟨h.own.gr k, h.says, fun l hl => ⟨(h.ok l hl).1.ch k (fun _ _ _ => noB _) (fun _ _ x => x), (h.ok l hl).2⟩⟩
theorem line_info : (Tryz.prog.info? 56).map (fun i => (i.zero, i.size, i.bytes)) = some (some (.agg #[.int .i64 0, .slice none 0 0, .int .i64 0, .int .i64 0, .bool false]), 5, 56) := by kernel_rfl
theorem eL_one (l : Ln) (h : l.wv.oneCell' = true) : ∀ u ∈ [l].flatMap eL, u.oneCell' = true := by
  intro u hu
  simp [eL] at hu
  rcases hu with rfl | rfl | rfl | rfl | rfl
  · rfl
  · exact h
  all_goals rfl
/-- one line more -/
theorem Cut0.snoc {base : Nat} {t : ByteArray} {j : Nat} {w w1 w' : World} {v v' : Value} {ls : List Ln} {l : Ln} {s : ByteArray} (h : Cut0 base t j w v ls) (hs : (SP t)[j]? = some s) (hw : wd s = l.ws) (hnum : l.num = j + 1) (k1 : Gr w w1)
    (hl : LnOk (fun g => w.heap.size ≤ g) w1 l) (hlead : l.leads = false) (hb : base ≤ w.heap.size) (ho : Ow eL 5 56 base w' v' (ls ++ [l])) (k : Ch (Blk v) w1 w') (hv : ∀ q, Blk v' q → Blk v q ∨ w1.heap.size ≤ q) : Cut0 base t (j + 1) w' v' (ls ++ [l]) := by
  have hlt : ∀ q, Blk v q → q < w.heap.size := fun q hq => (h.own.blk hq).2
  refine ⟨ho, ?_, fun x hx => ?_⟩
  · have e : (WS t).take (j + 1) = (WS t).take j ++ [wd s] := by
      have hj : (WS t)[j]? = some (wd s) := by unfold WS; rw [List.getElem?_map, hs]; rfl
      rw [List.take_add_one, hj]
      rfl
    have hlen : ((WS t).take j).length = j := by
      rw [List.length_take]
      have : j < (WS t).length := by unfold WS; rw [List.length_map]; exact (List.getElem?_eq_some_iff.1 hs).1
      omega
    rw [e, cutS_snoc, List.map_append, h.says, hw, if_neg hl.ne, hlen]
    simp [hnum]
  · rcases List.mem_append.1 hx with hx | hx
    · obtain ⟨a, b⟩ := h.ok x hx
      refine ⟨((a.ch k1 (fun _ _ _ => noB _) (Q := fun g => (base ≤ g ∧ ¬ Blk v g) ∧ g < w.heap.size) (fun g hg p => ⟨p, hg⟩)).ch k (fun g _ p => p.1.2) (fun g _ p => ⟨p.1.1, fun hq => ?_⟩)), b⟩
      rcases hv g hq with e | e
      · exact p.1.2 e
      · have := k1.size
        have := p.2
        omega
    · have e : x = l := by simpa using hx
      subst e
      refine ⟨(hl.ch (Q := fun g => w.heap.size ≤ g ∧ g < w1.heap.size) (Ch.refl (fun _ => False) w1) (fun _ _ _ x => x) (fun g a b => ⟨b, a⟩)).ch k (fun g _ p hq => ?_) (fun g _ p => ⟨by have := p.1; omega, fun hq => ?_⟩), hlead⟩
      · have := hlt g hq
        have := p.1
        omega
      · rcases hv g hq with e | e
        · have := hlt g e
          have := p.1
          omega
        · have := p.2
          omega
theorem Cut0.skip {base : Nat} {t : ByteArray} {j : Nat} {w : World} {v : Value} {ls : List Ln} {s : ByteArray} (h : Cut0 base t j w v ls) (hs : (SP t)[j]? = some s) (hw : wd s = []) : Cut0 base t (j + 1) w v ls := by
  refine ⟨h.own, ?_, h.ok⟩
  have e : (WS t).take (j + 1) = (WS t).take j ++ [wd s] := by
    have hj : (WS t)[j]? = some (wd s) := by unfold WS; rw [List.getElem?_map, hs]; rfl
    rw [List.take_add_one, hj]
    rfl
  rw [e, cutS_snoc, h.says, hw]
  simp

set_option maxHeartbeats 2000000 in
set_option maxRecDepth 20000 in
theorem cut_lines (t : ByteArray) (ht : t.size ≤ 262144) (w : World) (hg : Glb w) :
    Calls Tryz.prog 20 #[.string t] w fun e w' => ∃ v ls, e = .returned v ∧ CutR (w.heap.size + 1) t w' v ls ∧ Gr w w' := by
  have HG := hid hg
  clear hg
  have hn := SP_len t
  obtain ⟨n, hn'⟩ : ∃ n, n = (SP t).length := ⟨_, rfl⟩
  have HN := hid hn'
  rw [← hn'] at hn
  clear hn'
  have HSP := hid (split_any t w (by omega) HG.out)
  go_enter Tryz.func20, Tryz.ntmps20
  go_wp2_with (go_at_call 44; refine HSP.out.mono ?_; rintro e w0 ⟨k, rfl, hk, hw0⟩; rw [← HN.out] at hk; subst hk; subst hw0)
  have HW0 := hid (MapKept.heap_alloc w (.cells ((SP t).map Value.string).toArray 9)).1
  have HG0 := hid (Gr.alloc (Gr.refl w) ((SP t).map Value.string).toArray 9)
  obtain ⟨W0, hW0⟩ : ∃ W, W = w.alloc (.cells ((SP t).map Value.string).toArray 9) := ⟨_, rfl⟩
  rw [← hW0] at HW0 HG0 ⊢
  have HS0 := hid (show W0.heap.size = w.heap.size + 1 by rw [hW0]; simp)
  clear hW0
  go_loopg [3, 15] k (fun m v i wr => ∃ j ao nl cl ls, j + m = k ∧ i = .int .i64 ((j : Nat) : Int) ∧ v = .slice ao nl cl ∧ nl = ls.length ∧ Cut0 (w.heap.size + 1) t j wr (.slice ao nl cl) ls ∧ Gr W0 wr)
  case atStart => exact ⟨0, none, 0, 0, [], by omega, rfl, rfl, rfl, ⟨Ow.nil _ _ _ _ _, rfl, fun l hl => by simp at hl⟩, Gr.refl _⟩
  case round =>
    obtain ⟨j, ao, nl, cl, ls, hjk, rfl, rfl, hnl, hcut, hgr⟩ := hrel
    have HC := hid hcut
    have HR := hid hgr
    have HNL := hid hnl
    have hls : nl ≤ j := by
      have e1 := congrArg List.length hcut.says
      rw [List.length_map] at e1
      have e2 := cutS_len ((WS t).take j) 0
      rw [List.length_take] at e2
      rw [hnl]
      omega
    clear hcut hgr hnl
    by_cases hj : j < k
    · obtain ⟨s, hs⟩ : ∃ s, (SP t)[j]? = some s := ⟨_, List.getElem?_eq_getElem (by rw [← HN.out]; exact hj)⟩
      have hcj : wr.cell? ⟨w.heap.size, j, none⟩ = some (.string s) := by
        rw [HR.out.cell (lt_of_block HW0.out), cell_of HW0.out]
        simp [hs]
      have hss : s.size ≤ 262144 := Nat.le_trans (SP_le (List.mem_of_getElem? hs)) ht
      have hts := told_le s
      have HS := hid hs
      have j0 : (0 : Int) ≤ (j : Int) := by omega
      have j1 : (j : Int) < (k : Int) := by omega
      have HCU := hid (cut_any s wr (by omega) (HG.out.gr (HG0.out.trans HR.out)))
      have HFF := hid (fun (W : World) => fieldsF_any (told s) W (by omega))
      have HWS := hid (show Sml (wd s) from fun x hx => by have := wd_le hx; omega)
      obtain ⟨wl, hwl⟩ : ∃ wl, wl = wd s := ⟨_, rfl⟩
      have hwl' : Lib.goFieldsP blR (told s) = wl := by rw [hwl]; rfl
      rw [hwl'] at HFF
      have HWL := hid hwl
      clear hs hwl hwl' hts
      cases hlw : wl with
      | nil =>
        rw [hlw] at HFF HWL
        have HJ := hid (show j + gk = k ∧ nl ≤ j from ⟨hjk, hls⟩)
        clear hlw hjk hls
        go_wp2_with (first | (go_at_call 45; refine HCU.out.mono ?_; rintro e w1 ⟨⟨b, c, rfl⟩, q, hw1⟩; subst hw1) | (go_at_call 46; refine (HFF.out _).mono ?_; rintro e w2 ⟨A, kk, rfl, hkk, hA, ho2, hg2⟩; have hkk0 : kk = 0 := hkk; clear hkk; subst hkk0; have HG2 := hid (Ch.trans' ((Gr.refl wr).drewN q) hg2); clear ho2 hg2))
        go_roundg (gk - 1)
        case measure => have := HJ.out; omega
        case rel => exact ⟨j + 1, ao, nl, cl, ls, by have := HJ.out; omega, by simp, rfl, HNL.out, (HC.out.gr HG2.out).skip HS.out HWL.out.symm, HR.out.trans HG2.out⟩
      | cons w0 wt =>
        rw [hlw] at HFF HWL
        have HJ := hid (show j + gk = k ∧ nl ≤ j from ⟨hjk, hls⟩)
        have hw0 : w0.size ≤ 262144 := by
          have h1 : w0 ∈ wd s := by rw [← HWL.out]; simp
          have := wd_le h1
          omega
        have HKO := hid (fun (W : World) (q : Names W) => kindOf_any w0 W (by omega) q)
        obtain ⟨K1, hK1⟩ : ∃ K, K = (kd w0).1 := ⟨_, rfl⟩
        obtain ⟨K2, hK2⟩ : ∃ K, K = (kd w0).2 := ⟨_, rfl⟩
        rw [← hK1, ← hK2] at HKO
        have HK1 := hid hK1
        have HK2 := hid hK2
        clear hlw hjk hK1 hK2
        go_wp2_with (first | (go_at_call 45; refine HCU.out.mono ?_; rintro e w1 ⟨⟨b, c, rfl⟩, q, hw1⟩; subst hw1) | (go_at_call 46; refine (HFF.out _).mono ?_; rintro e w2 ⟨A, kk, rfl, hkk, hA, ho2, hg2⟩; have HKK := hid hkk; have hkp : 0 < kk := (by rw [hkk]; simp); have hg2' := Ch.trans' ((Gr.refl wr).drewN q) hg2; have HG2 := hid hg2'; have HO2 := hid ho2; have HA := hid (show wr.heap.size ≤ A from hA); obtain ⟨gA, cA, hvA, _, hlA, hcA, hca, hfa, _⟩ := ho2.get eS_len (i := 0) (a := w0) rfl; injection hvA with hv1 hv2 hv3; injection hv1 with hv1; injection hv1 with hv1; subst hv1; have ca0 := hca 0 _ rfl; rw [Nat.zero_mul, Nat.add_zero] at ca0; clear ho2 hg2 hg2' hkk hv2 hv3 hcA hca hfa hA) | (go_at_call 48; refine (HKO.out _ (HG.out.gr (HG0.out.trans (HR.out.trans HG2.out))).nm).mono ?_; rintro e w3 ⟨rfl, hw3⟩; have hw3 := hw3.symm; subst hw3) | (at_builtin; refine wpList_append_ow eL_len rfl (.tmp 38) (.tmp 45) _ 56 56 _ Tryz.underlying52 line_info rfl (by omega) rfl (w.heap.size + 1) _ ls rfl ((HC.out.gr HG2.out).own.alloc _) _ _ [⟨j + 1, w0 :: wt, .slice (some ⟨A, 0, none⟩) kk kk, K1, K2, false⟩] rfl (Ls.single w2 _ _ _ rfl) (eL_one _ rfl) (nl + 1) (by rw [HNL.out]; rfl) (by omega) (by unfold maxLen; omega) (by simp; have := HG2.out.size; have := HR.out.size; have := HS0.out; omega) _ rfl ?_; intro ao4 cap4 w4 ow4 cw4 bl4; have HO4 := hid ow4; have HC4 := hid cw4; have HB4 := hid bl4; clear ow4 cw4 bl4))
        go_roundg (gk - 1)
        case measure => have := HJ.out; omega
        case rel =>
          have hsm : Sml (w0 :: wt) := fun x hx => HWS.out x (by rw [← HWL.out]; exact hx)
          have hln : LnOk (fun g => wr.heap.size ≤ g) (w2.alloc (.cells #[.int .i64 ((j : Int) + 1), .slice (some ⟨A, 0, none⟩) kk kk, .int .i64 K1, .int .i64 (K2 : Nat), .bool false] 56)) ⟨j + 1, w0 :: wt, .slice (some ⟨A, 0, none⟩) kk kk, K1, K2, false⟩ :=
            ⟨HK1.out, HK2.out, by simp, hsm, HO2.out.lst.alloc _⟩
          exact ⟨j + 1, ao4, nl + 1, cap4, _, by have := HJ.out; omega, by simp, rfl, by rw [HNL.out]; simp, HC.out.snoc HS.out HWL.out.symm rfl (Ch.alloc HG2.out _) hln rfl (by have := HR.out.size; have := HS0.out; omega) HO4.out HC4.out HB4.out,
            Ch.trans (Ch.alloc (Gr.trans HR.out HG2.out) _) HC4.out (fun q hq => .inr (by have := (HC.out.own.blk hq).1; have := HS0.out; omega))⟩
    · have hjk' : j = k := by omega
      subst hjk'
      have hlen : ls.length ≤ 4294967296 := by rw [← HNL.out]; omega
      have HLA := hid (lookAhead_any (w.heap.size + 1) (.slice ao nl cl) ls hlen wr HC.out.own)
      go_wp2_with (go_at_call 49; refine HLA.out.mono ?_; rintro e w1 ⟨rfl, ho1, hc1⟩; have HO1 := hid ho1; have HC1 := hid hc1; clear ho1 hc1)
      go_ret
      refine ⟨_, laF ls 0, rfl, ⟨HO1.out, ?_, fun l hl => ?_, fun i l hi => ?_⟩, Gr.trans HG0.out (Ch.trans HR.out HC1.out (fun q hq => .inr (by have := (HC.out.own.blk hq).1; have := HS0.out; omega)))⟩
      · have e1 : (laF ls 0).map (fun l => (l.num, l.ws)) = ls.map (fun l => (l.num, l.ws)) := by
          apply List.ext_getElem?
          intro i
          rw [List.getElem?_map, List.getElem?_map, laF_get]
          cases ls[i]? <;> rfl
        rw [e1, HC.out.says]
        have e2 : (WS t).length = j := by unfold WS; rw [List.length_map]; exact HN.out.symm
        rw [← e2, List.take_length]
      · obtain ⟨i, hi⟩ := List.getElem?_of_mem hl
        rw [laF_get] at hi
        cases hx : ls[i]? with
        | none => rw [hx] at hi; cases hi
        | some x =>
          rw [hx] at hi
          simp only [Option.map_some, Nat.zero_le, if_true, Option.some.injEq] at hi
          subst hi
          have a := (HC.out.ok x (List.mem_of_getElem? hx)).1
          have b := a.ch HC1.out (fun g _ p => p.2) (Q := fun g => w.heap.size + 1 ≤ g ∧ ¬ Blk (.slice ao nl cl) g) (fun _ _ p => p)
          exact ⟨b.kind, b.op, b.ne, b.small, b.lst⟩
      · have e3 : (laF ls 0).map (·.kind) = ls.map (·.kind) := by
          apply List.ext_getElem?
          intro i
          rw [List.getElem?_map, List.getElem?_map, laF_get]
          cases ls[i]? <;> rfl
        rw [laF_get] at hi
        cases hx : ls[i]? with
        | none => rw [hx] at hi; cases hi
        | some x =>
          rw [hx] at hi
          simp only [Option.map_some, Nat.zero_le, if_true, Option.some.injEq] at hi
          subst hi
          show cm _ = cm _
          rw [List.map_drop, List.map_drop, e3]
end Go.Proofs.YtbehlhnnfdkmaaaGreatDoor.Lt
