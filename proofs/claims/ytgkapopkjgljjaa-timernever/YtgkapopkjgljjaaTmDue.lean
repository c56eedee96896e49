/-
  What the program's Due tells and leaves of timers. Condition: numbers are numbers of their kinds, not more than 1024 run.
-/
import Derived.Test.YtgkapopkjgljjaaTmCalls2
namespace Go.Proofs.Ytgkapopkjgljjaa.Lt
open Go.RowKit Wd
attribute [local go_sem ↓] Go.wp_at_zero Go.wp_at_succ
set_option maxRecDepth 20000

theorem eT_one (xs : List Tk) : ∀ u ∈ xs.flatMap eT, u.oneCell' = true := by
  intro u hu
  rw [List.mem_flatMap] at hu
  obtain ⟨x, _, hx⟩ := hu
  simp only [eT, List.mem_cons, List.not_mem_nil, or_false] at hx
  rcases hx with rfl | rfl | rfl | rfl | rfl | rfl | rfl | rfl <;> simp [Value.oneCell']
theorem tmr_info : (Try.prog.info? 46).map (fun i => (i.zero, i.size, i.bytes)) = some (some (.agg #[.int .i64 0, .int .i64 0, .int .i64 0, .int .i64 0, .int .i64 0, .int .u64 0, .bool false, .int .u64 0]), 8, 64) := by kernel_rfl
theorem Tok.rearm {t : Tk} (h : Tok t) {now : Int} (hle : t.wh ≤ now) (hp : 0 < t.pd) : Tok (rearm now t) := by
  have h0 := h.w0
  have h3 : (now - t.wh) % t.pd ≤ now - t.wh := by
    rw [Int.emod_def]
    have := Int.mul_nonneg (Int.le_of_lt hp) (Int.ediv_nonneg (show 0 ≤ now - t.wh by omega) (Int.le_of_lt hp))
    omega
  exact h.later _ _ (by omega)
theorem single2 (w : World) (o : Obj) (t : Tk) : Ls eT (· = w.heap.size + 1) ((w.alloc o).alloc (.cells #[.int .i64 t.id, .int .i64 t.kind, .int .i64 t.s, .int .i64 t.g, .int .i64 t.ch, .int .u64 t.wh, .bool t.nv, .int .u64 t.pd] 46)) (.slice (some ⟨w.heap.size + 1, 0, none⟩) 1 1) [t] := by
  have h := Ls.single (enc := eT) (w.alloc o) t 46 #[.int .i64 t.id, .int .i64 t.kind, .int .i64 t.s, .int .i64 t.g, .int .i64 t.ch, .int .u64 t.wh, .bool t.nv, .int .u64 t.pd] rfl
  have e : (w.alloc o).heap.size = w.heap.size + 1 := by simp
  rw [e] at h
  exact h
/-- what Due tells and leaves -/
def DueR (T : Nat → Prop) (w : World) (b : Nat) (last : Int) (D R : List Tk) (B : Int) (e : Ending) (w' : World) : Prop := ∃ v T', e = .returned v ∧ Ow eT 8 46 w.heap.size w' v D ∧ Tm T' w' b last R B ∧ Ch T w w' ∧ (∀ q, T' q → T q ∨ w.heap.size ≤ q) ∧ ∀ q, Blk v q → ¬ T' q
/-- the timers behind j of those that were due -/
def curL (now : Int) (D L0 : List Tk) (j : Nat) : List Tk := D.drop j ++ (D.take j).foldl (onL now) L0
theorem curL_zero (now : Int) (D L0 : List Tk) : curL now D L0 0 = D ++ L0 := by simp [curL]
theorem curL_end (now : Int) (D L0 : List Tk) : curL now D L0 D.length = D.foldl (onL now) L0 := by simp [curL]
theorem take_succ {α : Type} {D : List α} {j : Nat} {t : α} (h : D[j]? = some t) : D.take (j + 1) = D.take j ++ [t] := by
  rw [List.take_add_one, h, Option.toList_some]
theorem curL_head {now : Int} {D L0 : List Tk} {j : Nat} {t : Tk} (h : D[j]? = some t) : curL now D L0 j = t :: (D.drop (j + 1) ++ (D.take j).foldl (onL now) L0) := by
  obtain ⟨hj, e⟩ := List.getElem?_eq_some_iff.1 h
  unfold curL
  rw [List.drop_eq_getElem_cons hj, e]
  rfl
theorem curL_step {now : Int} {D L0 : List Tk} {j : Nat} {t : Tk} (h : D[j]? = some t) (hD : ∀ u ∈ D, isDue now u = true) (hp : t.kind = 3 → 0 < t.pd) : curL now D L0 (j + 1) = if t.kind == 3 then putL (D.drop (j + 1) ++ (D.take j).foldl (onL now) L0) (rearm now t) else D.drop (j + 1) ++ (D.take j).foldl (onL now) L0 := by
  unfold curL
  rw [take_succ h, List.foldl_append]
  simp only [List.foldl_cons, List.foldl_nil, onL]
  split
  · rename_i hk
    rw [putL_due _ _ _ (fun u hu => hD u (List.mem_of_mem_drop hu)) (rearm_not (hp (by simpa using hk)))]
  · rfl
theorem fold_not {now : Int} : ∀ (D R : List Tk), (∀ t ∈ D, Tok t) → (∀ u ∈ R, isDue now u = false) → ∀ u ∈ D.foldl (onL now) R, isDue now u = false
  | [], _, _, h => h
  | t :: D, R, ok, h => fold_not D (onL now R t) (fun u hu => ok u (List.mem_cons_of_mem _ hu)) (onL_not (ok t List.mem_cons_self) h)
theorem onL_len (now : Int) (R : List Tk) (t : Tk) : (onL now R t).length ≤ R.length + 1 := by
  unfold onL
  split
  · rw [(putL_perm _ _).length_eq]; simp
  · omega
theorem fold_len (now : Int) : ∀ (D R : List Tk), (D.foldl (onL now) R).length ≤ R.length + D.length
  | [], _ => by simp
  | t :: D, R => by
    have h1 := fold_len now D (onL now R t)
    have h2 := onL_len now R t
    simp only [List.foldl_cons, List.length_cons]
    omega
theorem curL_len (now : Int) (L : List Tk) (j : Nat) : (curL now (duesL now L) (leftL now L) j).length ≤ L.length := by
  have h1 := fold_len now ((duesL now L).take j) (leftL now L)
  have h2 : L.length = (duesL now L).length + (leftL now L).length := by
    have := congrArg List.length (dues_left now L)
    rw [List.length_append] at this
    omega
  unfold curL
  rw [List.length_append, List.length_drop]
  rw [List.length_take] at h1
  omega
set_option maxHeartbeats 16000000 in
theorem due_any {T : Nat → Prop} {w : World} {b : Nat} {last : Int} {L : List Tk} {B : Int} (h : Tm T w b last L B) (hlen : L.length ≤ 1024) (now : Int) (n0 : 0 ≤ now) (n1 : now < 18446744073709551616) (hB : B + 1024 < 4611686018427387904) : Calls Try.prog 16 #[.pointer (some ⟨b, 0, none⟩), .int .u64 now] w fun e w' => DueR T w b last (duesL now L) (dueL now L) (B + 1024) e w' := by
  obtain ⟨D, hD⟩ : ∃ D, D = duesL now L := ⟨_, rfl⟩
  obtain ⟨L0, hL0⟩ : ∃ L0, L0 = leftL now L := ⟨_, rfl⟩
  have HDA := hid (show ∀ u ∈ D, isDue now u = true from by rw [hD]; exact dues_all)
  have HLA := hid (show ∀ u ∈ L0, isDue now u = false from by rw [hL0]; exact left_all h.srt)
  have hcl := fun j => curL_len now L j
  rw [← hD, ← hL0] at hcl
  have HCL := hid (show ∀ j, (curL now D L0 j).length ≤ 1024 from fun j => Nat.le_trans (hcl j) hlen)
  have hDL : D ++ L0 = L := by rw [hD, hL0]; exact dues_left now L
  have HDO := hid (show ∀ t ∈ D, Tok t from fun t ht => h.ok t (by rw [← hDL]; exact List.mem_append_left _ ht))
  have hend : dueL now L = curL now D L0 D.length := by rw [curL_end, hD, hL0]; rfl
  have hDn : D.length ≤ 1024 := by
    have := congrArg List.length hDL
    rw [List.length_append] at this
    omega
  rw [← hD, hend]
  obtain ⟨n, hn⟩ : ∃ n, n = D.length := ⟨_, rfl⟩
  rw [← hn] at hDn ⊢
  have HN := hid hn
  have HB := hid hB
  have h0 : Tm T w b last (curL now D L0 0) B := by rw [curL_zero, hDL]; exact h
  have HT0 := hid h0
  have HNX := hid (next_any h0)
  obtain ⟨i1, hi1⟩ : ∃ x, x = (nextL (curL now D L0 0)).1 := ⟨_, rfl⟩
  obtain ⟨i2, hi2⟩ : ∃ x, x = (nextL (curL now D L0 0)).2 := ⟨_, rfl⟩
  rw [← hi1, ← hi2] at HNX
  have HI1 := hid hi1
  have HI2 := hid hi2
  clear hi1 hi2
  have HN0 := hid n0
  have HN1 := hid n1
  clear h h0 hcl hDL hend hD hL0 hlen hB hn n0 n1
  go_enter Try.func16, Try.ntmps16
  go_wp2_with (go_at_call 18; refine HNX.out.mono ?_; rintro e w1 ⟨rfl, g1⟩; have G1 := hid g1; clear g1)
  go_loopg [5, 6, 7] n (fun q a v6 v7 wr => ∃ j T' ao cap, j + q = n ∧ a = .slice ao j cap ∧ v6 = .int .u64 (nextL (curL now D L0 j)).1 ∧ v7 = .bool (nextL (curL now D L0 j)).2 ∧ Ow eT 8 46 w.heap.size wr (.slice ao j cap) (D.take j) ∧ Tm T' wr b last (curL now D L0 j) (B + j) ∧ Ch T w wr ∧ (∀ q, T' q → T q ∨ w.heap.size ≤ q) ∧ ∀ q, Blk (.slice ao j cap) q → ¬ T' q)
  case atStart => exact ⟨0, T, none, 0, by omega, rfl, by rw [← HI1.out], by rw [← HI2.out], Ow.nil _ _ _ _ _, (HT0.out.gr G1.out).more (by omega), G1.out.any, fun q e => .inl e, fun q e => by cases e⟩
  case round =>
    obtain ⟨j, T', ao, cap, hjq, rfl, rfl, rfl, how, htm, hch, htt, hbl⟩ := hrel
    have OW := hid how
    have TMj := hid htm
    have CH := hid hch
    have TT := hid htt
    have BL := hid hbl
    clear how htm hch htt hbl
    by_cases hj : j < n
    · obtain ⟨t, ht⟩ : ∃ t, D[j]? = some t := ⟨_, List.getElem?_eq_getElem (by rw [← HN.out]; exact hj)⟩
      have hmem := List.mem_of_getElem? ht
      have hdue := HDA.out t hmem
      simp only [isDue, Bool.and_eq_true, Bool.not_eq_true', decide_eq_true_eq] at hdue
      have ok := HDO.out t hmem
      have hhd := curL_head (now := now) (L0 := L0) ht
      have hst := curL_step (now := now) (L0 := L0) ht HDA.out ok.kp
      obtain ⟨rest, hrest⟩ : ∃ r, r = D.drop (j + 1) ++ (D.take j).foldl (onL now) L0 := ⟨_, rfl⟩
      rw [← hrest] at hhd hst
      have hnx : nextL (curL now D L0 j) = (t.wh, true) := by
        rw [hhd]
        unfold nextL
        simp only [hdue.1]
        rfl
      rw [hnx]
      have hlen := HCL.out j
      rw [hhd] at hlen
      rw [hhd] at TMj
      have HTF := hid (takeFirst_any TMj.out hdue.1 (by omega))
      have hle : t.wh ≤ now := hdue.2
      have HTK := hid (take_succ ht)
      have HST := hid hst
      have OK := hid ok
      have HLE := hid hle
      have HLN := hid hlen
      clear hmem hdue ok hhd hst hrest hnx hlen ht
      by_cases hk : (t.kind == 3) = true
      · have HK3 := hid (show t.kind = 3 by simpa using hk)
        have HST := hid (show curL now D L0 (j + 1) = putL rest (rearm now t) from by rw [HST.out, if_pos hk])
        have RO := hid (show Tok (rearm now t) from OK.out.rearm HLE.out (OK.out.kp HK3.out))
        have RI := hid (show ∀ u ∈ rest, u.id ≠ (rearm now t).id from fun u hu e => by
          have h1 := List.nodup_cons.1 (show (t.id :: rest.map (·.id)).Nodup from TMj.out.ui)
          unfold rearm at e
          rw [laterT_id] at e
          exact h1.1 (List.mem_map.2 ⟨u, hu, e⟩))
        have RS := hid (show slp (rearm now t) = true → ∀ u ∈ rest, slp u = true → gid u ≠ gid (rearm now t) from fun e => by
          unfold slp rearm at e
          rw [laterT_kind, HK3.out] at e
          cases e)
        have RL := hid (show rest.length < 4294967296 from by have := HLN.out; simp at this; omega)
        have RB := hid (show B + (j : Int) < 4611686018427387904 from by have := HB.out; omega)
        go_wp2_with (first
          | (go_at_call 40; refine HTF.out.mono ?_; rintro e w1 ⟨rfl, tl⟩; unfold tV; obtain ⟨T1, k1, c1, t1⟩ := tl; have TM1 := hid k1; have C1 := hid c1; have T11 := hid t1; have OW1 := hid (OW.out.ch c1 (fun g hg => BL.out g hg)); have BL1 := hid (show ∀ q, Blk (.slice ao j cap) q → ¬ T1 q from fun q hq e => (t1 q e).elim (BL.out q hq) (fun x => by have := (OW.out.blk hq).2; omega)); clear k1 c1 t1)
          | (at_builtin; refine wpList_append_ow eT_len rfl (.tmp 27) (.tmp 29) _ 46 64 _ Try.underlying25 tmr_info rfl (by omega) rfl w.heap.size _ (D.take j) rfl ((OW1.out.alloc _).alloc _) _ _ [t] rfl (single2 w1 _ t) (eT_one _) (j + 1) (by rw [List.length_take, ← HN.out, List.length_singleton]; omega) (by omega) (by unfold maxLen; omega) (Nat.le_trans (Nat.le_trans CH.out.size C1.out.size) (Ch.alloc (Ch.alloc (Gr.refl w1) _) _).size) (D.take (j + 1)) HTK.out.symm ?_; intro ao5 cap5 w6 ow6 cw6 bl6; have OW6 := hid ow6; have C6 := hid cw6; have BL6 := hid (show ∀ q, Blk (.slice ao5 (j + 1) cap5) q → ¬ T1 q from fun q hq e => (bl6 q hq).elim (fun x => BL1.out q x e) (fun x => by have := TM1.out.lt q e; have h9 : w1.heap.size ≤ ((w1.alloc (.cells #[.int .i64 t.id, .int .i64 t.kind, .int .i64 t.s, .int .i64 t.g, .int .i64 t.ch, .int .u64 t.wh, .bool t.nv, .int .u64 t.pd] 46)).alloc (.cells #[.int .i64 t.id, .int .i64 t.kind, .int .i64 t.s, .int .i64 t.g, .int .i64 t.ch, .int .u64 t.wh, .bool t.nv, .int .u64 t.pd] 46)).heap.size := (Ch.alloc (Ch.alloc (Gr.refl w1) _) _).size; omega)); have TM6 := hid ((TM1.out.gr (Ch.alloc (Ch.alloc (Gr.refl w1) (.cells #[.int .i64 t.id, .int .i64 t.kind, .int .i64 t.s, .int .i64 t.g, .int .i64 t.ch, .int .u64 t.wh, .bool t.nv, .int .u64 t.pd] 46)) (.cells #[.int .i64 t.id, .int .i64 t.kind, .int .i64 t.s, .int .i64 t.g, .int .i64 t.ch, .int .u64 t.wh, .bool t.nv, .int .u64 t.pd] 46))).ch cw6 (fun q e hq => BL1.out q hq e)); have B8 := hid ((cw6.block w1.heap.size (lt_of_block (al_blk (al_at (w := w1) (.cells #[.int .i64 t.id, .int .i64 t.kind, .int .i64 t.s, .int .i64 t.g, .int .i64 t.ch, .int .u64 t.wh, .bool t.nv, .int .u64 t.pd] 46) rfl) (.cells #[.int .i64 t.id, .int .i64 t.kind, .int .i64 t.s, .int .i64 t.g, .int .i64 t.ch, .int .u64 t.wh, .bool t.nv, .int .u64 t.pd] 46))) (fun hq => by have := (OW1.out.blk hq).2; omega)).trans (al_blk (al_at (w := w1) (.cells #[.int .i64 t.id, .int .i64 t.kind, .int .i64 t.s, .int .i64 t.g, .int .i64 t.ch, .int .u64 t.wh, .bool t.nv, .int .u64 t.pd] 46) rfl) (.cells #[.int .i64 t.id, .int .i64 t.kind, .int .i64 t.s, .int .i64 t.g, .int .i64 t.ch, .int .u64 t.wh, .bool t.nv, .int .u64 t.pd] 46))); have x1 := cell_of B8.out 1; have xl := lt_of_block B8.out; simp at x1; clear ow6 cw6 bl6)
          | (refine wpList_load_row rfl 46 (.tmp 8) rfl w1.heap.size rfl _ _ _ _ B8.out Try.underlying46 rfl tmr_size ?_)
          | (go_at_call 41; refine (again_any t now HN1.out OK.out HLE.out (OK.out.kp HK3.out) _).mono ?_; rintro e w7 ⟨rfl, g7⟩; unfold tV; have G7 := hid g7; clear g7)
          | (go_at_call 38; refine (arm_any (TM6.out.gr G7.out) (rearm now t) RO.out RI.out RS.out RL.out RB.out).mono ?_; rintro e w8 ⟨rfl, tl⟩; obtain ⟨T8, k8, c8, t8⟩ := tl; rw [← HST.out] at k8; have TM8 := hid (k8.more (show B + (j : Int) + 1 ≤ B + ((j + 1 : Nat) : Int) by omega)); have C8 := hid c8; have T88 := hid t8; clear k8 c8 t8)
          | (go_at_call 18; refine (next_any TM8.out).mono ?_; rintro e w9 ⟨rfl, g9⟩; have G9 := hid g9; clear g9))
        go_roundg (gk - 1)
        case measure => omega
        case rel =>
          have s1 := CH.out.trans C1.out (fun q e => TT.out q e)
          have s2 := s1.trans (Ch.alloc (Ch.alloc (Gr.refl w1) (.cells #[.int .i64 t.id, .int .i64 t.kind, .int .i64 t.s, .int .i64 t.g, .int .i64 t.ch, .int .u64 t.wh, .bool t.nv, .int .u64 t.pd] 46)) (.cells #[.int .i64 t.id, .int .i64 t.kind, .int .i64 t.s, .int .i64 t.g, .int .i64 t.ch, .int .u64 t.wh, .bool t.nv, .int .u64 t.pd] 46)) (fun q e => e.elim)
          have s3 := s2.trans C6.out (fun q e => .inr (OW1.out.blk e).1)
          have a1 : ∀ q, T1 q → T q ∨ w.heap.size ≤ q := fun q e => (T11.out q e).elim (TT.out q) (fun x => .inr (Nat.le_trans CH.out.size x))
          have s4 := s3.trans G7.out (fun q e => e.elim)
          have s5 := s4.trans C8.out (fun q e => a1 q e)
          have z1 : w.heap.size ≤ w6.heap.size := s3.size
          refine ⟨j + 1, T8, ao5, cap5, by omega, rfl, rfl, rfl, ?_, TM8.out.gr G9.out, s5.trans G9.out (fun q e => e.elim), ?_, ?_⟩
          · exact ((OW6.out.gr G7.out).ch C8.out (fun g hg e => BL6.out g hg e)).gr G9.out
          · exact fun q e => (T88.out q e).elim (a1 q) (fun x => .inr (Nat.le_trans s4.size x))
          · exact fun q hq e => (T88.out q e).elim (BL6.out q hq) (fun x => by have := (OW6.out.blk hq).2; have := G7.out.size; omega)
      · have hk : (t.kind == 3) = false := by simpa using hk
        have HST := hid (show curL now D L0 (j + 1) = rest from by rw [HST.out, if_neg (by rw [hk]; exact Bool.false_ne_true)])
        go_wp2_with (first
          | (go_at_call 40; refine HTF.out.mono ?_; rintro e w1 ⟨rfl, tl⟩; unfold tV; obtain ⟨T1, k1, c1, t1⟩ := tl; have TM1 := hid k1; have C1 := hid c1; have T11 := hid t1; have OW1 := hid (OW.out.ch c1 (fun g hg => BL.out g hg)); have BL1 := hid (show ∀ q, Blk (.slice ao j cap) q → ¬ T1 q from fun q hq e => (t1 q e).elim (BL.out q hq) (fun x => by have := (OW.out.blk hq).2; omega)); clear k1 c1 t1)
          | (at_builtin; refine wpList_append_ow eT_len rfl (.tmp 27) (.tmp 29) _ 46 64 _ Try.underlying25 tmr_info rfl (by omega) rfl w.heap.size _ (D.take j) rfl ((OW1.out.alloc _).alloc _) _ _ [t] rfl (single2 w1 _ t) (eT_one _) (j + 1) (by rw [List.length_take, ← HN.out, List.length_singleton]; omega) (by omega) (by unfold maxLen; omega) (Nat.le_trans (Nat.le_trans CH.out.size C1.out.size) (Ch.alloc (Ch.alloc (Gr.refl w1) _) _).size) (D.take (j + 1)) HTK.out.symm ?_; intro ao5 cap5 w6 ow6 cw6 bl6; have OW6 := hid ow6; have C6 := hid cw6; have BL6 := hid (show ∀ q, Blk (.slice ao5 (j + 1) cap5) q → ¬ T1 q from fun q hq e => (bl6 q hq).elim (fun x => BL1.out q x e) (fun x => by have := TM1.out.lt q e; have h9 : w1.heap.size ≤ ((w1.alloc (.cells #[.int .i64 t.id, .int .i64 t.kind, .int .i64 t.s, .int .i64 t.g, .int .i64 t.ch, .int .u64 t.wh, .bool t.nv, .int .u64 t.pd] 46)).alloc (.cells #[.int .i64 t.id, .int .i64 t.kind, .int .i64 t.s, .int .i64 t.g, .int .i64 t.ch, .int .u64 t.wh, .bool t.nv, .int .u64 t.pd] 46)).heap.size := (Ch.alloc (Ch.alloc (Gr.refl w1) _) _).size; omega)); have TM6 := hid ((TM1.out.gr (Ch.alloc (Ch.alloc (Gr.refl w1) (.cells #[.int .i64 t.id, .int .i64 t.kind, .int .i64 t.s, .int .i64 t.g, .int .i64 t.ch, .int .u64 t.wh, .bool t.nv, .int .u64 t.pd] 46)) (.cells #[.int .i64 t.id, .int .i64 t.kind, .int .i64 t.s, .int .i64 t.g, .int .i64 t.ch, .int .u64 t.wh, .bool t.nv, .int .u64 t.pd] 46))).ch cw6 (fun q e hq => BL1.out q hq e)); have B8 := hid ((cw6.block w1.heap.size (lt_of_block (al_blk (al_at (w := w1) (.cells #[.int .i64 t.id, .int .i64 t.kind, .int .i64 t.s, .int .i64 t.g, .int .i64 t.ch, .int .u64 t.wh, .bool t.nv, .int .u64 t.pd] 46) rfl) (.cells #[.int .i64 t.id, .int .i64 t.kind, .int .i64 t.s, .int .i64 t.g, .int .i64 t.ch, .int .u64 t.wh, .bool t.nv, .int .u64 t.pd] 46))) (fun hq => by have := (OW1.out.blk hq).2; omega)).trans (al_blk (al_at (w := w1) (.cells #[.int .i64 t.id, .int .i64 t.kind, .int .i64 t.s, .int .i64 t.g, .int .i64 t.ch, .int .u64 t.wh, .bool t.nv, .int .u64 t.pd] 46) rfl) (.cells #[.int .i64 t.id, .int .i64 t.kind, .int .i64 t.s, .int .i64 t.g, .int .i64 t.ch, .int .u64 t.wh, .bool t.nv, .int .u64 t.pd] 46))); have x1 := cell_of B8.out 1; have xl := lt_of_block B8.out; simp at x1; clear ow6 cw6 bl6)
          | (go_at_call 18; refine (next_any TM6.out).mono ?_; rintro e w9 ⟨rfl, g9⟩; have G9 := hid g9; clear g9))
        go_roundg (gk - 1)
        case measure => omega
        case rel =>
          have s1 := CH.out.trans C1.out (fun q e => TT.out q e)
          have s2 := s1.trans (Ch.alloc (Ch.alloc (Gr.refl w1) (.cells #[.int .i64 t.id, .int .i64 t.kind, .int .i64 t.s, .int .i64 t.g, .int .i64 t.ch, .int .u64 t.wh, .bool t.nv, .int .u64 t.pd] 46)) (.cells #[.int .i64 t.id, .int .i64 t.kind, .int .i64 t.s, .int .i64 t.g, .int .i64 t.ch, .int .u64 t.wh, .bool t.nv, .int .u64 t.pd] 46)) (fun q e => e.elim)
          have s3 := s2.trans C6.out (fun q e => .inr (OW1.out.blk e).1)
          have a1 : ∀ q, T1 q → T q ∨ w.heap.size ≤ q := fun q e => (T11.out q e).elim (TT.out q) (fun x => .inr (Nat.le_trans CH.out.size x))
          refine ⟨j + 1, T1, ao5, cap5, by omega, rfl, ?_, ?_, OW6.out.gr G9.out, ?_, s3.trans G9.out (fun q e => e.elim), a1, BL6.out⟩
          · rw [HST.out]
          · rw [HST.out]
          · rw [HST.out]; exact (TM6.out.gr G9.out).more (by omega)
    · have ej : j = n := by omega
      subst ej
      have hnot : ∀ u ∈ curL now D L0 j, isDue now u = false := by
        have e : curL now D L0 j = D.foldl (onL now) L0 := by rw [HN.out]; exact curL_end _ _ _
        rw [e]
        exact fold_not D L0 HDO.out HLA.out
      have HF := hid (show DueR T w b last D (curL now D L0 j) (B + 1024) (.returned (.slice ao j cap)) wr from by
        refine ⟨_, T', rfl, ?_, TMj.out.more (by omega), CH.out, TT.out, BL.out⟩
        have := OW.out
        rwa [List.take_of_length_le (by rw [← HN.out]; exact Nat.le_refl _)] at this)
      have hf : ∃ f1 f2, nextL (curL now D L0 j) = (f1, f2) ∧ (f2 = true → ¬ (f1 ≤ now)) := by
        cases hcl : curL now D L0 j with
        | nil => exact ⟨0, false, rfl, fun e => by cases e⟩
        | cons t r =>
          have hnd := hnot t (by rw [hcl]; exact List.mem_cons_self)
          simp only [isDue, Bool.and_eq_false_iff, Bool.not_eq_false', decide_eq_false_iff_not] at hnd
          by_cases hv : t.nv = true
          · exact ⟨0, false, by unfold nextL; dsimp only; rw [if_pos hv], fun e => by cases e⟩
          · exact ⟨t.wh, true, by unfold nextL; dsimp only; rw [if_neg hv], fun _ => hnd.resolve_left hv⟩
      obtain ⟨f1, f2, hf1, hf2⟩ := hf
      rw [hf1]
      clear hnot hf1
      cases f2 with
      | false =>
        clear hf2
        go_wp2
        go_ret
        exact HF.out
      | true =>
        have hgt : ¬ (f1 ≤ now) := hf2 rfl
        clear hf2
        go_wp2
        go_ret
        exact HF.out
end Go.Proofs.Ytgkapopkjgljjaa.Lt
