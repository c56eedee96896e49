/-
  What awake and made of the statements answer and leave. Condition: numbers are numbers of their kinds.
-/
import Derived.Test.YtgkapopkjgljjaaTmDue
import Derived.Test.YtgkapopkjgljjaaGnGrd
import Derived.Deep.Cut
namespace Go.Proofs.Ytgkapopkjgljjaa.Lt
open Go.RowKit Wd
attribute [local go_sem ↓] Go.wp_at_zero Go.wp_at_succ
set_option maxRecDepth 20000

/-- a call: which, a goroutine, a channel or a name, the clock, ticks -/
structure Opn where
  k : Int
  s : Int
  g : Int
  ch : Int
  n : Int
  d : Int
def eO (o : Opn) : List Value := [.int .i64 o.k, .int .i64 o.s, .int .i64 o.g, .int .i64 o.ch, .int .u64 o.n, .int .u64 o.d]
theorem eO_len (o : Opn) : (eO o).length = 6 := rfl
/-- its numbers are of their kinds -/
structure Ook (o : Opn) : Prop where
  gk : Gok o.s o.g
  n0 : 0 ≤ o.n
  n1 : o.n < 18446744073709551616
  d0 : 0 ≤ o.d
  d1 : o.d < 18446744073709551616
/-- the last name and the timers behind a call -/
def stepF (S : Int × List Tk) (o : Opn) : Int × List Tk :=
  if o.k == 0 then ((sleepF S.1 S.2 o.s o.g o.n o.d).last, (sleepF S.1 S.2 o.s o.g o.n o.d).L)
  else if o.k == 1 then ((afterF S.1 S.2 o.ch o.n o.d).last, (afterF S.1 S.2 o.ch o.n o.d).L)
  else if o.k == 2 then ((everyF S.1 S.2 o.ch o.n o.d).last, (everyF S.1 S.2 o.ch o.n o.d).L)
  else if o.k == 3 then (S.1, stoppedL S.2 o.ch)
  else if o.k == 4 then (S.1, dueL o.n S.2)
  else S
def madeF (os : List Opn) : Int × List Tk := os.foldl stepF (0, [])
theorem Wf.nil : Wf 0 [] := ⟨Int.le_refl _, by simp, fun t ht => by simp at ht, by simp⟩
theorem Wf.stop {last : Int} {L : List Tk} (h : Wf last L) (i : Int) : Wf last (stoppedL L i) := by
  unfold stoppedL
  split
  · exact ⟨h.l0, h.l1, fun t ht => h.ids t (List.mem_filter.1 ht).1, Nat.le_trans (List.length_filter_le _ _) h.len⟩
  · exact h
theorem fold_ids {now last : Int} : ∀ (D R : List Tk), (∀ t ∈ D, 1 ≤ t.id ∧ t.id ≤ last) → (∀ t ∈ R, 1 ≤ t.id ∧ t.id ≤ last) → ∀ t ∈ D.foldl (onL now) R, 1 ≤ t.id ∧ t.id ≤ last
  | [], _, _, h => h
  | t :: D, R, hD, hR => fold_ids D (onL now R t) (fun u hu => hD u (List.mem_cons_of_mem _ hu)) (fun u hu => by
    unfold onL at hu
    split at hu
    · rcases List.mem_cons.1 ((putL_perm _ _).mem_iff.1 hu) with rfl | hu
      · unfold rearm
        rw [laterT_id]
        exact hD t List.mem_cons_self
      · exact hR u hu
    · exact hR u hu)
theorem Wf.due {last : Int} {L : List Tk} (h : Wf last L) (now : Int) : Wf last (dueL now L) := by
  have e := dues_left now L
  refine ⟨h.l0, h.l1, fold_ids _ _ (fun t ht => h.ids t ?_) (fun t ht => h.ids t ?_), ?_⟩
  · rw [← e]; exact List.mem_append_left _ ht
  · rw [← e]; exact List.mem_append_right _ ht
  · have := curL_len now L (duesL now L).length
    rw [curL_end] at this
    exact Nat.le_trans this h.len
theorem Wf.step {S : Int × List Tk} (h : Wf S.1 S.2) (o : Opn) : Wf (stepF S o).1 (stepF S o).2 := by
  unfold stepF
  split
  · unfold sleepF
    split
    · exact h
    · exact h.arm _ _ _
  · split
    · exact h.arm _ _ _
    · split
      · unfold everyF
        split
        · exact h
        · exact h.arm _ _ _
      · split
        · exact h.stop _
        · split
          · exact h.due _
          · exact h
theorem wf_fold : ∀ (os : List Opn) (S : Int × List Tk), Wf S.1 S.2 → Wf (os.foldl stepF S).1 (os.foldl stepF S).2
  | [], _, h => h
  | o :: os, S, h => wf_fold os (stepF S o) (h.step o)
theorem wf_made (os : List Opn) : Wf (madeF os).1 (madeF os).2 := wf_fold os _ Wf.nil
theorem made_snoc {os : List Opn} {j : Nat} {o : Opn} (h : os[j]? = some o) : madeF (os.take (j + 1)) = stepF (madeF (os.take j)) o := by
  rw [take_succ h]
  unfold madeF
  rw [List.foldl_append]
  rfl
/-- a sleeper -/
def tk1 : Tk := ⟨1, 1, 1, 1, 0, 5, false, 0⟩
theorem awk_s : sleepF 0 [] 1 1 3 2 = ⟨1, 0, 1, [tk1]⟩ := by rfl
theorem awk_d4 : duesL 4 [tk1] = [] := by rfl
theorem awk_l4 : dueL 4 [tk1] = [tk1] := by rfl
theorem awk_d5 : duesL 5 [tk1] = [tk1] := by rfl
theorem TL.new {T : Nat → Prop} {w0 w w' : World} {b : Nat} {last : Int} {L : List Tk} {B : Int} (h : TL T w w' b last L B) (g : Gr w0 w) (n : ∀ q, T q → w0.heap.size ≤ q) : ∃ T', Tm T' w' b last L B ∧ Gr w0 w' ∧ ∀ q, T' q → w0.heap.size ≤ q := by
  obtain ⟨T', h1, h2, h3⟩ := h
  exact ⟨T', h1, Ch.trans g h2 (fun q e => .inr (n q e)), fun q e => (h3 q e).elim (n q) (fun x => Nat.le_trans g.size x)⟩
theorem DueR.new {T : Nat → Prop} {w0 w w' : World} {b : Nat} {last : Int} {D R : List Tk} {B : Int} {e : Ending} (h : DueR T w b last D R B e w') (g : Gr w0 w) (n : ∀ q, T q → w0.heap.size ≤ q) : ∃ ao cap T', e = .returned (.slice ao D.length cap) ∧ Ow eT 8 46 w.heap.size w' (.slice ao D.length cap) D ∧ Tm T' w' b last R B ∧ Gr w0 w' ∧ (∀ q, T' q → w0.heap.size ≤ q) ∧ (∀ q, Blk (.slice ao D.length cap) q → ¬ T' q) := by
  obtain ⟨v, T', h0, h1, h2, h3, h4, h5⟩ := h
  obtain ⟨ao, cap, rfl⟩ := h1.form
  exact ⟨ao, cap, T', h0, h1, h2, Ch.trans g h3 (fun q e => .inr (n q e)), fun q e => (h4 q e).elim (n q) (fun x => Nat.le_trans g.size x), h5⟩
set_option maxHeartbeats 4000000 in
theorem awake_any (w : World) : Calls Try.prog 12 #[] w fun e w' => e = .returned (.bool true) ∧ Gr w w' := by
  go_enter Try.func12, Try.ntmps12
  go_wp2_with (first
    | (go_at_call 9; refine (new_any _).mono ?_; rintro e w1 ⟨b, T, rfl, h1, g1, n1⟩; have TM1 := hid h1; have G1 := hid g1; have N1 := hid n1; clear h1 g1 n1)
    | (refine callG (by kernel_rfl) 24 #[.tmp 6, .tmp 7, .const (.int .u64 3), .const (.int .u64 2)] _ rfl #[.pointer (some ⟨b, 0, none⟩), .agg #[.int .i64 1, .int .i64 1], .int .u64 3, .int .u64 2] (by kernel_rfl) (sleep_any TM1.out Wf.nil 1 1 3 2 (by unfold Gok; omega) (by omega) (by omega) (by omega) (by omega) (by omega)) ?_; rw [awk_s]; rintro e w2 ⟨rfl, tl⟩; obtain ⟨T2, k2, g2, n2⟩ := tl.new G1.out N1.out; have TM2 := hid k2; have G2 := hid g2; have N2 := hid n2; clear tl k2 g2 n2; refine ⟨_, rfl, ?_⟩; simp only [Act.put, List.setIfInBounds_toArray, List.set_cons_zero, List.set_cons_succ])
    | (go_at_call 16; refine (due_any TM2.out (by simp) 4 (by omega) (by omega) (by omega)).mono ?_; rw [awk_d4, awk_l4]; rintro e w3 hd; obtain ⟨a3, c3, T3, rfl, o3, k3, g3, n3, b3⟩ := hd.new G2.out N2.out; have TM3 := hid k3; have G3 := hid g3; have N3 := hid n3; clear hd o3 k3 g3 n3 b3)
    | (refine callG (by kernel_rfl) 16 #[.tmp 16, .const (.int .u64 5)] _ rfl #[.pointer (some ⟨b, 0, none⟩), .int .u64 5] (by kernel_rfl) (due_any TM3.out (by simp) 5 (by omega) (by omega) (by omega)) ?_; rw [awk_d5]; rintro e w4 hd; obtain ⟨a4, c4, T4, rfl, o4, k4, g4, n4, b4⟩ := hd.new G3.out N3.out; have G4 := hid g4; clear hd o4 k4 g4 n4 b4; refine ⟨_, rfl, ?_⟩; simp only [Act.put, List.setIfInBounds_toArray, List.set_cons_zero, List.set_cons_succ]))
  go_ret
  exact ⟨rfl, G4.out⟩
/-- what made tells and leaves -/
def MadeR (w : World) (S : Int × List Tk) (B : Int) (e : Ending) (w' : World) : Prop := ∃ b T, e = .returned (.pointer (some ⟨b, 0, none⟩)) ∧ Tm T w' b S.1 S.2 B ∧ Gr w w' ∧ ∀ q, T q → w.heap.size ≤ q
set_option maxHeartbeats 16000000 in
theorem made_any {P : Nat → Prop} (w : World) (lo : Option Addr) (n cap : Nat) (os : List Opn) (hl : Ls eO P w (.slice lo n cap) os) (ho : ∀ o ∈ os, Ook o) (hn : n ≤ 1125899906842624) : Calls Try.prog 15 #[.slice lo n cap] w fun e w' => MadeR w (madeF os) (1024 * (n : Int)) e w' := by
  have hln := hl.len.1
  have HL := hid (show ∀ W, Gr w W → Ls eO P W (.slice lo n cap) os from fun W k => hl.gr k)
  have HO := hid ho
  have HN := hid hln
  have HNB := hid hn
  clear hl ho hln hn
  go_enter Try.func15, Try.ntmps15
  go_wp2_with (go_at_call 9; refine (new_any _).mono ?_; rintro e w1 ⟨b, T, rfl, h1, g1, n1⟩; have TM1 := hid h1; have G1 := hid g1; have N1 := hid n1; clear h1 g1 n1)
  go_loopg [4] n (fun q i wr => ∃ j T, j + q = n ∧ i = .int .i64 (j : Int) ∧ Tm T wr b (madeF (os.take j)).1 (madeF (os.take j)).2 (1024 * (j : Int)) ∧ Gr w wr ∧ ∀ q, T q → w.heap.size ≤ q)
  case atStart => exact ⟨0, T, by omega, rfl, TM1.out, G1.out, N1.out⟩
  case round =>
    obtain ⟨j, T, hjq, rfl, htm, hg, hn2⟩ := hrel
    have TMj := hid htm
    have GJ := hid hg
    have NJ := hid hn2
    have WFj := hid (wf_made (os.take j))
    obtain ⟨l0, hl0⟩ : ∃ x, x = (madeF (os.take j)).1 := ⟨_, rfl⟩
    obtain ⟨L0, hL0⟩ : ∃ x, x = (madeF (os.take j)).2 := ⟨_, rfl⟩
    by_cases hj : j < n
    · obtain ⟨o, hoj⟩ : ∃ o, os[j]? = some o := ⟨_, List.getElem?_eq_getElem (by rw [← HN.out]; exact hj)⟩
      have HSN := hid (show madeF (os.take (j + 1)) = stepF (l0, L0) o from by rw [made_snoc hoj, hl0, hL0])
      rw [← hl0, ← hL0] at TMj WFj
      obtain ⟨g, oo, cap', hs, _, gl, _, hc⟩ := (HL.out _ GJ.out).get eO_len hoj
      injection hs with hs1 hs2 hs3
      subst hs1
      have y0 := hc 0 _ rfl
      have y1 := hc 1 _ rfl
      have y2 := hc 2 _ rfl
      have y3 := hc 3 _ rfl
      have y4 := hc 4 _ rfl
      have y5 := hc 5 _ rfl
      rw [Nat.add_zero] at y0
      have OK := hid (HO.out o (List.mem_of_getElem? hoj))
      have HB := hid (show 1024 * (j : Int) < 4611686018427387904 by have := HNB.out; omega)
      have HB2 := hid (show 1024 * (j : Int) + 1024 < 4611686018427387904 by have := HNB.out; omega)
      have GX := hid (Gr.trans GJ.out (Ch.alloc (Gr.refl wr) (.cells #[.int .i64 o.k, .int .i64 o.s, .int .i64 o.g, .int .i64 o.ch, .int .u64 o.n, .int .u64 o.d] 34)))
      have jb : (j : Int) + 1 < 9223372036854775808 := by have := HNB.out; omega
      have jn : (j : Int) < (n : Int) := Int.ofNat_lt.2 hj
      clear htm hg hn2 hl0 hL0 hoj hc hs2 hs3
      by_cases h0 : (o.k == 0) = true
      · have e0 : (o.k == 0) = true := by exact h0
        have hst : stepF (l0, L0) o = ((sleepF l0 L0 o.s o.g o.n o.d).last, (sleepF l0 L0 o.s o.g o.n o.d).L) := by
          unfold stepF
          rw [if_pos e0]
        have HST := hid hst
        clear hst h0
        go_wp2_with (go_at_call 24; refine (sleep_any (TMj.out.gr (Ch.alloc (Gr.refl wr) _)) WFj.out o.s o.g o.n o.d OK.out.gk HB.out OK.out.n0 OK.out.n1 OK.out.d0 OK.out.d1).mono ?_; rintro e w7 ⟨rfl, tl⟩; obtain ⟨T7, k7, g7, n7⟩ := tl.new GX.out NJ.out; have TM7 := hid k7; have G7 := hid g7; have N7 := hid n7; clear tl k7 g7 n7)
        go_roundg (gk - 1)
        case measure => omega
        case rel =>
          refine ⟨j + 1, T7, by omega, by first | with_reducible rfl | simp, ?_, G7.out, N7.out⟩
          rw [HSN.out, HST.out]
          exact TM7.out.more (by omega)
      · by_cases h1 : (o.k == 1) = true
        · have e0 : (o.k == 0) = false := by simpa using h0
          have e1 : (o.k == 1) = true := by exact h1
          have hst : stepF (l0, L0) o = ((afterF l0 L0 o.ch o.n o.d).last, (afterF l0 L0 o.ch o.n o.d).L) := by
            unfold stepF
            rw [if_neg (by rw [e0]; exact Bool.false_ne_true)]; rw [if_pos e1]
          have HST := hid hst
          clear hst h0 h1
          go_wp2_with (go_at_call 26; refine (after_any (TMj.out.gr (Ch.alloc (Gr.refl wr) _)) WFj.out o.ch o.n o.d HB.out OK.out.n0 OK.out.n1 OK.out.d0 OK.out.d1).mono ?_; rintro e w7 ⟨rfl, tl⟩; obtain ⟨T7, k7, g7, n7⟩ := tl.new GX.out NJ.out; have TM7 := hid k7; have G7 := hid g7; have N7 := hid n7; clear tl k7 g7 n7)
          go_roundg (gk - 1)
          case measure => omega
          case rel =>
            refine ⟨j + 1, T7, by omega, by first | with_reducible rfl | simp, ?_, G7.out, N7.out⟩
            rw [HSN.out, HST.out]
            exact TM7.out.more (by omega)
        · by_cases h2 : (o.k == 2) = true
          · have e0 : (o.k == 0) = false := by simpa using h0
            have e1 : (o.k == 1) = false := by simpa using h1
            have e2 : (o.k == 2) = true := by exact h2
            have hst : stepF (l0, L0) o = ((everyF l0 L0 o.ch o.n o.d).last, (everyF l0 L0 o.ch o.n o.d).L) := by
              unfold stepF
              rw [if_neg (by rw [e0]; exact Bool.false_ne_true)]; rw [if_neg (by rw [e1]; exact Bool.false_ne_true)]; rw [if_pos e2]
            have HST := hid hst
            clear hst h0 h1 h2
            go_wp2_with (go_at_call 21; refine (every_any (TMj.out.gr (Ch.alloc (Gr.refl wr) _)) WFj.out o.ch o.n o.d HB.out OK.out.n0 OK.out.n1 OK.out.d0 OK.out.d1).mono ?_; rintro e w7 ⟨rfl, tl⟩; obtain ⟨T7, k7, g7, n7⟩ := tl.new GX.out NJ.out; have TM7 := hid k7; have G7 := hid g7; have N7 := hid n7; clear tl k7 g7 n7)
            go_roundg (gk - 1)
            case measure => omega
            case rel =>
              refine ⟨j + 1, T7, by omega, by first | with_reducible rfl | simp, ?_, G7.out, N7.out⟩
              rw [HSN.out, HST.out]
              exact TM7.out.more (by omega)
          · by_cases h3 : (o.k == 3) = true
            · have e0 : (o.k == 0) = false := by simpa using h0
              have e1 : (o.k == 1) = false := by simpa using h1
              have e2 : (o.k == 2) = false := by simpa using h2
              have e3 : (o.k == 3) = true := by exact h3
              have hst : stepF (l0, L0) o = (l0, stoppedL L0 o.ch) := by
                unfold stepF
                rw [if_neg (by rw [e0]; exact Bool.false_ne_true)]; rw [if_neg (by rw [e1]; exact Bool.false_ne_true)]; rw [if_neg (by rw [e2]; exact Bool.false_ne_true)]; rw [if_pos e3]
              have HST := hid hst
              clear hst h0 h1 h2 h3
              go_wp2_with (go_at_call 22; refine (stop_any (TMj.out.gr (Ch.alloc (Gr.refl wr) _)) (by have := WFj.out.len; omega) o.ch).mono ?_; rintro e w7 ⟨rfl, tl⟩; obtain ⟨T7, k7, g7, n7⟩ := tl.new GX.out NJ.out; have TM7 := hid k7; have G7 := hid g7; have N7 := hid n7; clear tl k7 g7 n7)
              go_roundg (gk - 1)
              case measure => omega
              case rel =>
                refine ⟨j + 1, T7, by omega, by first | with_reducible rfl | simp, ?_, G7.out, N7.out⟩
                rw [HSN.out, HST.out]
                exact TM7.out.more (by omega)
            · by_cases h4 : (o.k == 4) = true
              · have e0 : (o.k == 0) = false := by simpa using h0
                have e1 : (o.k == 1) = false := by simpa using h1
                have e2 : (o.k == 2) = false := by simpa using h2
                have e3 : (o.k == 3) = false := by simpa using h3
                have e4 : (o.k == 4) = true := by exact h4
                have hst : stepF (l0, L0) o = (l0, dueL o.n L0) := by
                  unfold stepF
                  rw [if_neg (by rw [e0]; exact Bool.false_ne_true)]; rw [if_neg (by rw [e1]; exact Bool.false_ne_true)]; rw [if_neg (by rw [e2]; exact Bool.false_ne_true)]; rw [if_neg (by rw [e3]; exact Bool.false_ne_true)]; rw [if_pos e4]
                have HST := hid hst
                clear hst h0 h1 h2 h3 h4
                go_wp2_with (go_at_call 16; refine (due_any (TMj.out.gr (Ch.alloc (Gr.refl wr) _)) WFj.out.len o.n OK.out.n0 OK.out.n1 HB2.out).mono ?_; rintro e w7 hd; obtain ⟨a7, c7, T7, rfl, o7, k7, g7, n7, b7⟩ := hd.new GX.out NJ.out; have TM7 := hid k7; have G7 := hid g7; have N7 := hid n7; clear hd o7 k7 g7 n7 b7)
                go_roundg (gk - 1)
                case measure => omega
                case rel =>
                  refine ⟨j + 1, T7, by omega, by first | with_reducible rfl | simp, ?_, G7.out, N7.out⟩
                  rw [HSN.out, HST.out]
                  exact TM7.out.more (by omega)
              · have e0 : (o.k == 0) = false := by simpa using h0
                have e1 : (o.k == 1) = false := by simpa using h1
                have e2 : (o.k == 2) = false := by simpa using h2
                have e3 : (o.k == 3) = false := by simpa using h3
                have e4 : (o.k == 4) = false := by simpa using h4
                have HST := hid (show stepF (l0, L0) o = (l0, L0) from by
                  unfold stepF
                  rw [if_neg (by rw [e0]; exact Bool.false_ne_true)]; rw [if_neg (by rw [e1]; exact Bool.false_ne_true)]; rw [if_neg (by rw [e2]; exact Bool.false_ne_true)]; rw [if_neg (by rw [e3]; exact Bool.false_ne_true)]; rw [if_neg (by rw [e4]; exact Bool.false_ne_true)])
                clear h0 h1 h2 h3 h4
                go_wp2
                go_roundg (gk - 1)
                case measure => omega
                case rel =>
                  refine ⟨j + 1, T, by omega, by first | with_reducible rfl | simp, ?_, GX.out, NJ.out⟩
                  rw [HSN.out, HST.out]
                  exact (TMj.out.gr (Ch.alloc (Gr.refl wr) _)).more (by omega)
    · have ej : j = n := by omega
      subst ej
      have HE := hid (show madeF (os.take j) = madeF os by rw [List.take_of_length_le (by rw [← HN.out]; exact Nat.le_refl _)])
      have jn : ¬ ((j : Int) < (j : Int)) := by omega
      clear htm hg hn2 hl0 hL0
      go_wp2
      go_ret
      refine ⟨_, T, rfl, ?_, GJ.out, NJ.out⟩
      rw [← HE.out]
      exact TMj.out
end Go.Proofs.Ytgkapopkjgljjaa.Lt
