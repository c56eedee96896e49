/-
  What plain and TimerParts of the statements answer. Condition: numbers are numbers of their kinds.
-/
import Derived.Test.YtgkapopkjgljjaaTmSame
import Derived.Test.YtgkapopkjgljjaaTmOnce
namespace Go.Proofs.Ytgkapopkjgljjaa.Lt
open Go.RowKit Wd
attribute [local go_sem ↓] Go.wp_at_zero Go.wp_at_succ
set_option maxRecDepth 20000

theorem single1 (w : World) (t : Tk) : Ls eT (· = w.heap.size) (w.alloc (.cells #[.int .i64 t.id, .int .i64 t.kind, .int .i64 t.s, .int .i64 t.g, .int .i64 t.ch, .int .u64 t.wh, .bool t.nv, .int .u64 t.pd] 46)) (.slice (some ⟨w.heap.size, 0, none⟩) 1 1) [t] := Ls.single (enc := eT) w t 46 _ rfl
set_option maxHeartbeats 8000000 in
theorem plain_any {P : Nat → Prop} (w : World) (a : Option Addr) (n c : Nat) (xs : List Tk) (h : Ls eT P w (.slice a n c) xs) (hn : n ≤ 1099511627776) : Calls Try.prog 20 #[.slice a n c] w fun e w' => ∃ v, e = .returned v ∧ Ow eT 8 46 w.heap.size w' v (xs.filter once) ∧ Gr w w' := by
  have H1 := hid (show ∀ W, Gr w W → Ls eT P W (.slice a n c) xs from fun W k => h.gr k)
  have HL := hid h.len.1
  have HN := hid hn
  clear h
  go_enter Try.func20, Try.ntmps20
  go_wp2_with fail
  go_loopg [3, 4] n (fun q v i wr => ∃ (j m : Nat) (ao : Option Addr) (cp : Nat), j + q = n ∧ v = .slice ao m cp ∧ i = .int .i64 (j : Int) ∧ Ow eT 8 46 w.heap.size wr (.slice ao m cp) ((xs.take j).filter once) ∧ Gr w wr)
  case atStart => exact ⟨0, 0, none, 0, by omega, rfl, rfl, by simpa using Ow.nil _ _ _ _ _, Gr.refl _⟩
  case round =>
    obtain ⟨j, m, ao, cp, hjq, rfl, rfl, how, hg⟩ := hrel
    obtain ⟨V, hV⟩ : ∃ W, W = wr := ⟨_, rfl⟩
    subst hV
    have G := hid hg
    have OW := hid how
    by_cases hj : j < n
    · obtain ⟨t, ht⟩ : ∃ t, xs[j]? = some t := ⟨_, List.getElem?_eq_getElem (by rw [← HL.out]; exact hj)⟩
      obtain ⟨g1, o1, k1, hs1, _, l1, _, hc1⟩ := (H1.out _ hg).get eT_len ht
      injection hs1 with e1 e2 e3
      subst e1
      have z0 := hc1 0 _ rfl; have z1 := hc1 1 _ rfl; have z2 := hc1 2 _ rfl; have z3 := hc1 3 _ rfl; have z4 := hc1 4 _ rfl; have z5 := hc1 5 _ rfl; have z6 := hc1 6 _ rfl; have z7 := hc1 7 _ rfl
      rw [Nat.add_zero] at z0
      have jm : (j : Int) < (n : Int) := Int.ofNat_lt.2 hj
      have HTK := hid (take_succ ht)
      have HM := hid (show m = ((xs.take j).filter once).length from how.lst.len.1)
      have HMB := hid (show m ≤ 1099511627776 from by
        rw [HM.out]
        have h1 := List.length_filter_le once (xs.take j)
        rw [List.length_take] at h1
        have h2 := HN.out
        omega)
      clear hg hc1 e2 e3 ht how
      by_cases hk : (t.kind == 3) = true
      · have HF := hid (show (xs.take (j + 1)).filter once = (xs.take j).filter once from by
          rw [HTK.out, List.filter_append, List.filter_cons_of_neg (by simp [once, hk])]; simp)
        have hB : (t.kind != 3) = false := by simpa [bne] using hk
        clear hk
        go_wp2
        go_roundg (gk - 1)
        case measure => omega
        case rel => exact ⟨j + 1, m, ao, cp, by omega, rfl, by first | with_reducible rfl | simp, by rw [HF.out]; exact OW.out, G.out⟩
      · have hk : (t.kind == 3) = false := by simpa using hk
        have HF := hid (show (xs.take j).filter once ++ [t] = (xs.take (j + 1)).filter once from by
          rw [HTK.out, List.filter_append, List.filter_cons_of_pos (by simp [once, hk])]; rfl)
        have hB : (t.kind != 3) = true := by simpa [bne] using hk
        clear hk
        go_wp2_with (at_builtin; refine wpList_append_ow eT_len rfl (.tmp 17) (.tmp 22) _ 46 64 _ Try.underlying25 tmr_info rfl (by omega) rfl w.heap.size _ ((xs.take j).filter once) rfl (OW.out.alloc _) _ _ [t] rfl (single1 V t) (eT_one _) (m + 1) (by rw [HM.out]; rfl) (by have := HMB.out; omega) (by unfold maxLen; have := HMB.out; omega) (Nat.le_trans G.out.size (Ch.alloc (Gr.refl V) _).size) ((xs.take (j + 1)).filter once) HF.out ?_; intro ao5 cap5 w6 ow6 cw6 bl6; have O6 := hid ow6; have C6 := hid (show Gr w w6 from Ch.trans (Ch.alloc G.out _) cw6 (fun q hq => .inr (OW.out.blk hq).1)); clear ow6 cw6 bl6)
        go_roundg (gk - 1)
        case measure => omega
        case rel => exact ⟨j + 1, m + 1, ao5, cap5, by omega, rfl, by first | with_reducible rfl | simp, O6.out, C6.out⟩
    · have ej : j = n := by omega
      subst ej
      have jm : ¬ ((j : Int) < (j : Int)) := by omega
      have HF := hid (show xs.take j = xs from List.take_of_length_le (by rw [← HL.out]; exact Nat.le_refl _))
      rw [HF.out] at OW
      clear hg how
      go_wp2
      go_ret
      exact ⟨_, rfl, OW.out, G.out⟩
theorem dues_filter {now : Int} {L : List Tk} (h : SrtL L) : duesL now L = L.filter (isDue now) := by
  have h1 := dues_left now L
  have h2 := left_all (now := now) h
  have h3 := dues_all (now := now) (L := L)
  have h4 : L.filter (isDue now) = (duesL now L).filter (isDue now) ++ (leftL now L).filter (isDue now) := by rw [← List.filter_append, h1]
  rw [h4, List.filter_eq_self.2 h3, List.filter_eq_nil_iff.2 (fun t ht => by rw [h2 t ht]; exact Bool.false_ne_true), List.append_nil]
theorem put_once : ∀ (L : List Tk) (t : Tk), once t = false → (putL L t).filter once = L.filter once
  | [], t, h => by
    have : (putL [] t) = [t] := rfl
    rw [this, List.filter_cons_of_neg (by rw [h]; exact Bool.false_ne_true)]
  | u :: r, t, h => by
    have ih := put_once r t h
    unfold putL
    split
    · by_cases e : once u = true
      · rw [List.filter_cons_of_pos e, List.filter_cons_of_pos e, ih]
      · rw [List.filter_cons_of_neg e, List.filter_cons_of_neg e, ih]
    · rw [List.filter_cons_of_neg (by rw [h]; exact Bool.false_ne_true)]
theorem fold_once {now : Int} : ∀ (D R : List Tk), (D.foldl (onL now) R).filter once = R.filter once
  | [], _ => rfl
  | t :: D, R => by
    have h := fold_once (now := now) D (onL now R t)
    simp only [List.foldl_cons]
    rw [h]
    unfold onL
    split
    · rename_i hk
      refine put_once R _ ?_
      unfold once rearm
      rw [laterT_kind, hk]
      rfl
    · rfl
/-- told in one go or in two: those that are told once are the same, in the same order -/
theorem parts_plain {a b : Int} (hab : a ≤ b) {L : List Tk} (h : SrtL L) (h' : SrtL (dueL a L)) : (duesL a L ++ duesL b (dueL a L)).filter once = (duesL b L).filter once := by
  have e1 := dues_left a L
  have e2 : duesL b L = L.filter (isDue b) := dues_filter h
  have e3 : L.filter (isDue b) = duesL a L ++ (leftL a L).filter (isDue b) := by
    have h1 : (duesL a L).filter (isDue b) = duesL a L := List.filter_eq_self.2 (fun t ht => by
      have := dues_all (now := a) (L := L) t ht
      simp only [isDue, Bool.and_eq_true, Bool.not_eq_true', decide_eq_true_eq] at this ⊢
      exact ⟨this.1, by omega⟩)
    have h2 : L.filter (isDue b) = (duesL a L ++ leftL a L).filter (isDue b) := by rw [e1]
    rw [h2, List.filter_append, h1]
  rw [e2, e3, dues_filter h', List.filter_append, List.filter_append]
  congr 1
  have h5 : (dueL a L).filter once = (leftL a L).filter once := fold_once _ _
  have c : ∀ S : List Tk, (S.filter (isDue b)).filter once = (S.filter once).filter (isDue b) := fun S => by
    rw [List.filter_filter, List.filter_filter]
    exact List.filter_congr (fun t _ => Bool.and_comm _ _)
  rw [c, c, h5]
theorem duesL_len {now : Int} {L : List Tk} : (duesL now L).length ≤ L.length := by
  have := congrArg List.length (dues_left now L)
  rw [List.length_append] at this
  omega
set_option maxHeartbeats 16000000 in
theorem parts_le {P : Nat → Prop} (w : World) (lo : Option Addr) (n cap : Nat) (os : List Opn) (a b : Int) (hl : Ls eO P w (.slice lo n cap) os) (ho : ∀ o ∈ os, Ook o) (hn : n ≤ 4398046511104) (a0 : 0 ≤ a) (a1 : a < 18446744073709551616) (b0 : 0 ≤ b) (b1 : b < 18446744073709551616) (hab : a ≤ b) : Calls Try.prog 7 #[.slice lo n cap, .int .u64 a, .int .u64 b] w fun e w' => e = .returned (.bool true) ∧ Gr w w' := by
  have HM := hid (fun W (k : Gr w W) => made_any W lo n cap os (hl.gr k) ho (by omega))
  have HWF := hid (wf_made os)
  have HN := hid hn
  have HAB := hid (show a ≤ b by omega)
  have AX := hid (show (0 ≤ a ∧ a < 18446744073709551616) ∧ 0 ≤ b ∧ b < 18446744073709551616 from ⟨⟨by omega, by omega⟩, by omega, by omega⟩)
  obtain ⟨S, hS⟩ : ∃ S, S = madeF os := ⟨_, rfl⟩
  rw [← hS] at HM HWF
  clear hl ho hn a0 a1 b0 b1 hS
  have hgt : ¬ (b < a) := by omega
  clear hab
  go_enter Try.func7, Try.ntmps7
  go_wp2_with (first
    | (go_at_call 15; refine (HM.out _ G1.out).mono ?_; rintro e w2 ⟨b2, U, rfl, h2, g2, n2⟩; have UM2 := hid h2; have TM2 := hid (TM1.out.gr g2); have G2 := hid (Gr.trans G1.out g2); have NU2 := hid (show ∀ q, U q → w1.heap.size ≤ q from n2); have TL2 := hid (show ∀ q, T q → q < w1.heap.size from TM1.out.lt); clear h2 g2 n2)
    | (go_at_call 15; refine (HM.out _ (Gr.refl w)).mono ?_; rintro e w1 ⟨b1, T, rfl, h1, g1, n1⟩; have TM1 := hid h1; have G1 := hid g1; have N1 := hid n1; clear h1 g1 n1)
    | (go_at_call 16; refine (due_any UM6.out HWF.out.len b AX.out.2.1 AX.out.2.2 (by have := HN.out; omega)).mono ?_; rintro e w7 ⟨v7, U7, rfl, o7, k7, c7, t7, bl7⟩; obtain ⟨a7, cc7, rfl⟩ := o7.form; have O7 := hid o7; have G7 := hid (show Gr w w7 from Ch.trans G6.out c7 (fun q e => .inr (Nat.le_trans G1.out.size (NU2.out q e)))); have P7 := hid (P6.out.ch c7 (fun g hg e => PU.out g hg e)); clear o7 k7 c7 t7 bl7)
    | (go_at_call 16; refine (due_any TM3.out WF3.out.len b AX.out.2.1 AX.out.2.2 (by have := HN.out; omega)).mono ?_; rintro e w4 ⟨v4, T4, rfl, o4, k4, c4, t4, bl4⟩; obtain ⟨a4, cc4, rfl⟩ := o4.form; have O4 := hid o4; have SR4 := hid TM3.out.srt; have G4 := hid (show Gr w w4 from Ch.trans G3.out c4 (fun q e => .inr (N3.out q e))); have UM4a := hid (UM3.out.ch c4 (fun q e e2 => UT3.out q e e2)); have O3b := hid (O3.out.ch c4 (fun g hg => BL3.out g hg)); have GS4 := hid c4.size; have BU4 := hid (show ∀ q, U q → ¬ Blk (.slice a3 (duesL a S.2).length cc3) q from fun q hq e => by have h9 := (O3.out.blk e).1; have := UM2.out.lt q hq; omega); clear o4 k4 c4 t4 bl4)
    | (go_at_call 16; refine (due_any TM2.out HWF.out.len a AX.out.1.1 AX.out.1.2 (by have := HN.out; omega)).mono ?_; rintro e w3 ⟨v3, T3, rfl, o3, k3, c3, t3, bl3⟩; obtain ⟨a3, cc3, rfl⟩ := o3.form; have O3 := hid o3; have TM3 := hid k3; have SR2 := hid TM2.out.srt; have WF3 := hid (HWF.out.due a); have G3 := hid (show Gr w w3 from Ch.trans G2.out c3 (fun q e => .inr (N1.out q e))); have N3 := hid (show ∀ q, T3 q → w.heap.size ≤ q from fun q e => (t3 q e).elim (N1.out q) (fun z => Nat.le_trans G2.out.size z)); have UM3 := hid (UM2.out.ch c3 (fun q e e2 => by have h1 := NU2.out q e; have h2 := TL2.out q e2; omega)); have UT3 := hid (show ∀ q, U q → ¬ T3 q from fun q e e2 => (t3 q e2).elim (fun z => by have h1 := NU2.out q e; have h2 := TL2.out q z; omega) (fun z => by have := UM2.out.lt q e; omega)); have BL3 := hid bl3; have GS3 := hid c3.size; clear o3 k3 c3 t3 bl3)
    | (at_builtin; refine wpList_append_ow eT_len rfl (.tmp 28) (.tmp 31) _ 46 64 _ Try.underlying25 tmr_info rfl (by omega) rfl w2.heap.size _ (duesL a S.2) rfl O3b.out _ _ (duesL b (dueL a S.2)) rfl O4.out.lst (eT_one _) ((duesL a S.2).length + (duesL b (dueL a S.2)).length) rfl (by have h1 := duesL_len (now := a) (L := S.2); have h2 := duesL_len (now := b) (L := dueL a S.2); have h3 := HWF.out.len; have h4 := WF3.out.len; omega) (by have h1 := duesL_len (now := a) (L := S.2); have h2 := duesL_len (now := b) (L := dueL a S.2); have h3 := HWF.out.len; have h4 := WF3.out.len; unfold maxLen; omega) (Nat.le_trans (show w2.heap.size ≤ w3.heap.size from GS3.out) GS4.out) (duesL a S.2 ++ duesL b (dueL a S.2)) rfl ?_; intro ao5 cap5 w5 ow5 cw5 bl5; have O5 := hid ow5; have G5 := hid (show Gr w w5 from Ch.trans G4.out cw5 (fun q hq => .inr (Nat.le_trans G2.out.size (O3b.out.blk hq).1))); have UM4 := hid (UM4a.out.ch cw5 (fun q e hq => BU4.out q e hq)); have GS5 := hid cw5.size; clear ow5 cw5 bl5)
    | (go_at_call 20; refine (plain_any _ _ _ _ _ O7.out.lst (by have h1 := duesL_len (now := b) (L := S.2); have h3 := HWF.out.len; omega)).mono ?_; rintro e w8 ⟨v8, rfl, o8, g8⟩; obtain ⟨a8, cc8, rfl⟩ := o8.form; have O8 := hid o8; have P8 := hid (P7.out.gr g8); have G8 := hid (Gr.trans G7.out g8); clear o8 g8)
    | (go_at_call 20; refine (plain_any _ _ _ _ _ O5.out.lst (by have h1 := duesL_len (now := a) (L := S.2); have h2 := duesL_len (now := b) (L := dueL a S.2); have h3 := HWF.out.len; have h4 := WF3.out.len; omega)).mono ?_; rw [parts_plain HAB.out SR2.out SR4.out]; rintro e w6 ⟨v6, rfl, o6, g6⟩; obtain ⟨a6, cc6, rfl⟩ := o6.form; have P6 := hid o6; have G6 := hid (Gr.trans G5.out g6); have UM6 := hid (UM4.out.gr g6); have PU := hid (show ∀ q, Blk (.slice a6 ((duesL b S.2).filter once).length cc6) q → ¬ U q from fun q hq e => by have h1 := (o6.blk hq).1; have h2 := UM2.out.lt q e; have h3 := GS3.out; have h4 := GS4.out; have h5 := GS5.out; omega); clear o6 g6)
    | (go_at_call 19; refine (same_any _ _ _ _ _ _ _ P8.out.lst O8.out.lst (by have h1 := duesL_len (now := b) (L := S.2); have h3 := HWF.out.len; have h2 := List.length_filter_le once (duesL b S.2); omega)).mono ?_; rintro e w9 ⟨rfl, g9⟩; have G9 := hid (Gr.trans G8.out g9); clear g9)
    | (refine callG (by kernel_rfl) 12 #[] _ rfl #[] (by kernel_rfl) (awake_any _) ?_; rintro e w10 ⟨rfl, g10⟩; have G10 := hid (Gr.trans G9.out g10); clear g10; refine ⟨_, rfl, ?_⟩; simp only [Act.put, List.setIfInBounds_toArray, List.set_cons_zero, List.set_cons_succ]))
  go_ret
  exact ⟨rfl, G10.out⟩
set_option maxHeartbeats 16000000 in
theorem parts_gt {P : Nat → Prop} (w : World) (lo : Option Addr) (n cap : Nat) (os : List Opn) (a b : Int) (hl : Ls eO P w (.slice lo n cap) os) (ho : ∀ o ∈ os, Ook o) (hn : n ≤ 4398046511104) (a0 : 0 ≤ a) (a1 : a < 18446744073709551616) (b0 : 0 ≤ b) (b1 : b < 18446744073709551616) (hab : b < a) : Calls Try.prog 7 #[.slice lo n cap, .int .u64 a, .int .u64 b] w fun e w' => e = .returned (.bool true) ∧ Gr w w' := by
  have HM := hid (fun W (k : Gr w W) => made_any W lo n cap os (hl.gr k) ho (by omega))
  have HWF := hid (wf_made os)
  have HN := hid hn
  have HAB := hid (show b ≤ a by omega)
  have AX := hid (show (0 ≤ b ∧ b < 18446744073709551616) ∧ 0 ≤ a ∧ a < 18446744073709551616 from ⟨⟨by omega, by omega⟩, by omega, by omega⟩)
  obtain ⟨S, hS⟩ : ∃ S, S = madeF os := ⟨_, rfl⟩
  rw [← hS] at HM HWF
  clear hl ho hn a0 a1 b0 b1 hS
  have hgt : b < a := by exact hab
  clear hab
  go_enter Try.func7, Try.ntmps7
  go_wp2_with (first
    | (go_at_call 15; refine (HM.out _ G1.out).mono ?_; rintro e w2 ⟨b2, U, rfl, h2, g2, n2⟩; have UM2 := hid h2; have TM2 := hid (TM1.out.gr g2); have G2 := hid (Gr.trans G1.out g2); have NU2 := hid (show ∀ q, U q → w1.heap.size ≤ q from n2); have TL2 := hid (show ∀ q, T q → q < w1.heap.size from TM1.out.lt); clear h2 g2 n2)
    | (go_at_call 15; refine (HM.out _ (Gr.refl w)).mono ?_; rintro e w1 ⟨b1, T, rfl, h1, g1, n1⟩; have TM1 := hid h1; have G1 := hid g1; have N1 := hid n1; clear h1 g1 n1)
    | (go_at_call 16; refine (due_any UM6.out HWF.out.len a AX.out.2.1 AX.out.2.2 (by have := HN.out; omega)).mono ?_; rintro e w7 ⟨v7, U7, rfl, o7, k7, c7, t7, bl7⟩; obtain ⟨a7, cc7, rfl⟩ := o7.form; have O7 := hid o7; have G7 := hid (show Gr w w7 from Ch.trans G6.out c7 (fun q e => .inr (Nat.le_trans G1.out.size (NU2.out q e)))); have P7 := hid (P6.out.ch c7 (fun g hg e => PU.out g hg e)); clear o7 k7 c7 t7 bl7)
    | (go_at_call 16; refine (due_any TM3.out WF3.out.len a AX.out.2.1 AX.out.2.2 (by have := HN.out; omega)).mono ?_; rintro e w4 ⟨v4, T4, rfl, o4, k4, c4, t4, bl4⟩; obtain ⟨a4, cc4, rfl⟩ := o4.form; have O4 := hid o4; have SR4 := hid TM3.out.srt; have G4 := hid (show Gr w w4 from Ch.trans G3.out c4 (fun q e => .inr (N3.out q e))); have UM4a := hid (UM3.out.ch c4 (fun q e e2 => UT3.out q e e2)); have O3b := hid (O3.out.ch c4 (fun g hg => BL3.out g hg)); have GS4 := hid c4.size; have BU4 := hid (show ∀ q, U q → ¬ Blk (.slice a3 (duesL b S.2).length cc3) q from fun q hq e => by have h9 := (O3.out.blk e).1; have := UM2.out.lt q hq; omega); clear o4 k4 c4 t4 bl4)
    | (go_at_call 16; refine (due_any TM2.out HWF.out.len b AX.out.1.1 AX.out.1.2 (by have := HN.out; omega)).mono ?_; rintro e w3 ⟨v3, T3, rfl, o3, k3, c3, t3, bl3⟩; obtain ⟨a3, cc3, rfl⟩ := o3.form; have O3 := hid o3; have TM3 := hid k3; have SR2 := hid TM2.out.srt; have WF3 := hid (HWF.out.due b); have G3 := hid (show Gr w w3 from Ch.trans G2.out c3 (fun q e => .inr (N1.out q e))); have N3 := hid (show ∀ q, T3 q → w.heap.size ≤ q from fun q e => (t3 q e).elim (N1.out q) (fun z => Nat.le_trans G2.out.size z)); have UM3 := hid (UM2.out.ch c3 (fun q e e2 => by have h1 := NU2.out q e; have h2 := TL2.out q e2; omega)); have UT3 := hid (show ∀ q, U q → ¬ T3 q from fun q e e2 => (t3 q e2).elim (fun z => by have h1 := NU2.out q e; have h2 := TL2.out q z; omega) (fun z => by have := UM2.out.lt q e; omega)); have BL3 := hid bl3; have GS3 := hid c3.size; clear o3 k3 c3 t3 bl3)
    | (at_builtin; refine wpList_append_ow eT_len rfl (.tmp 28) (.tmp 31) _ 46 64 _ Try.underlying25 tmr_info rfl (by omega) rfl w2.heap.size _ (duesL b S.2) rfl O3b.out _ _ (duesL a (dueL b S.2)) rfl O4.out.lst (eT_one _) ((duesL b S.2).length + (duesL a (dueL b S.2)).length) rfl (by have h1 := duesL_len (now := b) (L := S.2); have h2 := duesL_len (now := a) (L := dueL b S.2); have h3 := HWF.out.len; have h4 := WF3.out.len; omega) (by have h1 := duesL_len (now := b) (L := S.2); have h2 := duesL_len (now := a) (L := dueL b S.2); have h3 := HWF.out.len; have h4 := WF3.out.len; unfold maxLen; omega) (Nat.le_trans (show w2.heap.size ≤ w3.heap.size from GS3.out) GS4.out) (duesL b S.2 ++ duesL a (dueL b S.2)) rfl ?_; intro ao5 cap5 w5 ow5 cw5 bl5; have O5 := hid ow5; have G5 := hid (show Gr w w5 from Ch.trans G4.out cw5 (fun q hq => .inr (Nat.le_trans G2.out.size (O3b.out.blk hq).1))); have UM4 := hid (UM4a.out.ch cw5 (fun q e hq => BU4.out q e hq)); have GS5 := hid cw5.size; clear ow5 cw5 bl5)
    | (go_at_call 20; refine (plain_any _ _ _ _ _ O7.out.lst (by have h1 := duesL_len (now := a) (L := S.2); have h3 := HWF.out.len; omega)).mono ?_; rintro e w8 ⟨v8, rfl, o8, g8⟩; obtain ⟨a8, cc8, rfl⟩ := o8.form; have O8 := hid o8; have P8 := hid (P7.out.gr g8); have G8 := hid (Gr.trans G7.out g8); clear o8 g8)
    | (go_at_call 20; refine (plain_any _ _ _ _ _ O5.out.lst (by have h1 := duesL_len (now := b) (L := S.2); have h2 := duesL_len (now := a) (L := dueL b S.2); have h3 := HWF.out.len; have h4 := WF3.out.len; omega)).mono ?_; rw [parts_plain HAB.out SR2.out SR4.out]; rintro e w6 ⟨v6, rfl, o6, g6⟩; obtain ⟨a6, cc6, rfl⟩ := o6.form; have P6 := hid o6; have G6 := hid (Gr.trans G5.out g6); have UM6 := hid (UM4.out.gr g6); have PU := hid (show ∀ q, Blk (.slice a6 ((duesL a S.2).filter once).length cc6) q → ¬ U q from fun q hq e => by have h1 := (o6.blk hq).1; have h2 := UM2.out.lt q e; have h3 := GS3.out; have h4 := GS4.out; have h5 := GS5.out; omega); clear o6 g6)
    | (go_at_call 19; refine (same_any _ _ _ _ _ _ _ P8.out.lst O8.out.lst (by have h1 := duesL_len (now := a) (L := S.2); have h3 := HWF.out.len; have h2 := List.length_filter_le once (duesL a S.2); omega)).mono ?_; rintro e w9 ⟨rfl, g9⟩; have G9 := hid (Gr.trans G8.out g9); clear g9)
    | (refine callG (by kernel_rfl) 12 #[] _ rfl #[] (by kernel_rfl) (awake_any _) ?_; rintro e w10 ⟨rfl, g10⟩; have G10 := hid (Gr.trans G9.out g10); clear g10; refine ⟨_, rfl, ?_⟩; simp only [Act.put, List.setIfInBounds_toArray, List.set_cons_zero, List.set_cons_succ]))
  go_ret
  exact ⟨rfl, G10.out⟩
theorem parts_walk {P : Nat → Prop} (w : World) (lo : Option Addr) (n cap : Nat) (os : List Opn) (a b : Int) (hl : Ls eO P w (.slice lo n cap) os) (ho : ∀ o ∈ os, Ook o) (hn : n ≤ 4398046511104) (a0 : 0 ≤ a) (a1 : a < 18446744073709551616) (b0 : 0 ≤ b) (b1 : b < 18446744073709551616) : Calls Try.prog 7 #[.slice lo n cap, .int .u64 a, .int .u64 b] w fun e w' => e = .returned (.bool true) ∧ Gr w w' := by
  by_cases h : a ≤ b
  · exact parts_le w lo n cap os a b hl ho hn a0 a1 b0 b1 h
  · exact parts_gt w lo n cap os a b hl ho hn a0 a1 b0 b1 (by omega)
end Go.Proofs.Ytgkapopkjgljjaa.Lt
