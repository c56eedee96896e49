/-
  What Has answers: the program. Condition: the numbers are of their types.
-/
import Derived.Test.YtbghagpjkkmhpaaTbEach
import Derived.Test.YtbghagpjkkmhpaaTbAt
import Derived.Test.YtbghagpjkkmhpaaTbHasP
import Derived.Test.YtbghagpjkkmhpaaTbNum
namespace Go.Proofs.Ytbghagpjkkmhpaa.Lt
open Go.RowKit Wd Go.Shelf
attribute [local go_sem ↓] Go.wp_at_zero Go.wp_at_succ
set_option maxRecDepth 20000

set_option maxHeartbeats 4000000 in
theorem hasc_any (w : World) (P : Nat) (x : Sl) (tb nb lb base : Nat) (a : Option Addr) (n c : Nat) (F t : Int) (hF : Tk.U F) (ht : Tk.U t) (hx : x.rg) (hw : wOk F x)
    (T0 : w.cell? ⟨tb, 0, none⟩ = some (.int .u64 F)) (T1 : w.cell? ⟨tb, 1, none⟩ = some (.slice a n c)) (tl : tb < w.heap.size) (N0 : w.cell? ⟨nb, 0, none⟩ = some (.int .u64 t)) (nl : nb < w.heap.size)
    (xs : List Int) (hl : xs.length ≤ 65536) (hb : LBox eI 1 3 40 lb base xs w) (h1 : lb < base) (h2 : base ≤ w.heap.size) :
    Calls Try.prog 38 #[.int .i64 (P : Int), .agg #[.int .i64 x.d, .int .u64 x.s, .int .u64 x.l, .int .u64 x.p], .pointer (some ⟨tb, 0, none⟩), .pointer (some ⟨nb, 0, none⟩), .pointer (some ⟨lb, 0, none⟩)] w fun e w' => e = .returned (.tuple #[]) ∧ LBox eI 1 3 40 lb base (if inT F t x = true then xs ++ [(P : Int)] else xs) w' ∧ Ch (Apd lb base) w w' := by
  have C := hide (fun W => inside_any W (.slice a n c) x.d x.s x.l x.p F t hx.2.1 hx.2.2.1 hF ht)
  rw [left_in hw hx.2.1.1] at C
  have HB := hide hb
  have H1 := hide h1
  have H2 := hide h2
  clear hF ht hx hw hb
  cases hi : inT F t x
  · rw [hi] at C
    go_enter Try.func38, Try.ntmps38
    go_wp2_with fail
    refine (C.out _).mono ?_
    rintro e w1 ⟨rfl, g1⟩
    have G1 := hide (Gr.trans (Ch.alloc (Gr.refl w) _) g1)
    clear g1
    go_wp2
    go_end0
    exact ⟨rfl, HB.out.gr G1.out, G1.out.any⟩
  · rw [hi] at C
    go_enter Try.func38, Try.ntmps38
    go_wp2_with fail
    refine (C.out _).mono ?_
    rintro e w1 ⟨rfl, g1⟩
    have G1 := hide (Gr.trans (Ch.alloc (Gr.refl w) _) g1)
    clear g1
    obtain ⟨ao, cap, b1, o1⟩ := (HB.out.gr G1.out).form
    have l0 := cell_of b1 0
    simp at l0
    have ll := lt_of_block b1
    have O1 := hide o1
    have B1 := hide b1
    have S1 := hide G1.out.size
    clear b1 o1
    go_wp2_with (at_builtin; refine wpList_append_ow eI_len rfl (.tmp 11) (.tmp 13) _ 3 8 _ Try.underlying40 int_info rfl (by omega) rfl base _ xs rfl (O1.out.alloc _) _ _ [(P : Int)] rfl (Ls.single w1 (P : Int) 3 #[.int .i64 (P : Int)] rfl) (eI_one _) (xs.length + 1) (by simp) (by omega) (by unfold maxLen; omega) (by simp; have := S1.out; have := H2.out; omega) (xs ++ [(P : Int)]) rfl ?_; intro ao5 cap5 w5 ow5 cw5 bl5; have B2 := gr_blk B1.out (Ch.alloc (Gr.refl w1) (.cells #[.int .i64 (P : Int)] 3)); have l5 := cell_of ((cw5.block lb (lt_of_block B2) (fun q => by have := (O1.out.blk q).1; have := H1.out; omega)).trans B2) 0; simp at l5; have f5 := frozen_of ((cw5.block lb (lt_of_block B2) (fun q => by have := (O1.out.blk q).1; have := H1.out; omega)).trans B2) 0; have z5 := Nat.lt_of_lt_of_le (lt_of_block B2) cw5.size; have O5 := hide ow5; have C5 := hide cw5; have L5 := hide bl5; have BB := hide B2; clear ow5 cw5 bl5 B2)
    go_end0
    obtain ⟨q1, q2⟩ := LBox.set BB.out H1.out (fun q hq => (O1.out.blk hq).1) O5.out C5.out L5.out
    exact ⟨rfl, q1, Ch.trans (Gr.trans G1.out (Ch.alloc (Gr.refl w1) _)).any q2 (fun q hq => .inl hq)⟩
/-- which Ps, as numbers; none beside a refusal -/
def hasI (F : Int) (L : List (List Sl)) (t dm : Int) : List Int := if lkE F L dm 16 = 0 then (hasP F L t dm).map (fun p : Nat => (p : Int)) else []
theorem hasI_len {F t dm : Int} {L : List (List Sl)} (hx : Rgs L) : (hasI F L t dm).length ≤ 64 := by
  unfold hasI
  split
  · rename_i h0
    rw [List.length_map]
    have := hasP_len (F := F) (t := t) (dm := dm) (L := L)
    have := (lkE_ok hx h0).1.n2
    omega
  · simp
/-- a list of numbers in new memory, and an error -/
def NumR (w : World) (xs : List Int) (E : Int) (e : Ending) (w' : World) : Prop := ∃ ao cap, e = .returned (.tuple #[.slice ao xs.length cap, .int .i64 E]) ∧ Ls eI (w.heap.size ≤ ·) w' (.slice ao xs.length cap) xs ∧ Gr w w'
theorem boxes_has {w W : World} {a : Option Addr} {n c : Nat} {F t : Int} {b : Value} (g : Ch (Only (w.heap.size + 2)) ((((w.alloc (.cells #[.int .u64 F, .slice a n c] 25)).alloc (.cells #[.int .u64 t] 22)).alloc (.cells #[b] 40)).alloc (.cells #[.int .u64 F, .slice a n c] 25)) W) :
    W.cell? ⟨w.heap.size, 0, none⟩ = some (.int .u64 F) ∧ W.cell? ⟨w.heap.size, 1, none⟩ = some (.slice a n c) ∧ W.cell? ⟨w.heap.size + 1, 0, none⟩ = some (.int .u64 t) ∧ w.heap.size + 4 ≤ W.heap.size ∧ Gr w W := by
  have h0 := gr_blk (al_at (w := w) (x := w.heap.size) (.cells #[.int .u64 F, .slice a n c] 25) rfl) (Ch.alloc (Ch.alloc (Ch.alloc (Gr.refl _) (.cells #[.int .u64 t] 22)) (.cells #[b] 40)) (.cells #[.int .u64 F, .slice a n c] 25))
  have h1 := gr_blk (al_at (w := w.alloc (.cells #[.int .u64 F, .slice a n c] 25)) (x := w.heap.size + 1) (.cells #[.int .u64 t] 22) (by simp)) (Ch.alloc (Ch.alloc (Gr.refl _) (.cells #[b] 40)) (.cells #[.int .u64 F, .slice a n c] 25))
  have k0 := (g.block _ (lt_of_block h0) (fun e => by have e1 : w.heap.size = w.heap.size + 2 := e; omega)).trans h0
  have k1 := (g.block _ (lt_of_block h1) (fun e => by have e1 : w.heap.size + 1 = w.heap.size + 2 := e; omega)).trans h1
  refine ⟨cell_of k0 0, cell_of k0 1, cell_of k1 0, ?_, ?_⟩
  · have := g.size
    simp at this
    omega
  · exact Ch.trans (Ch.alloc (Ch.alloc (Ch.alloc (Ch.alloc (Gr.refl w) _) _) _) _) g (fun q e => .inr (by have e1 : q = w.heap.size + 2 := e; omega))
set_option maxHeartbeats 8000000 in
theorem has_any (w : World) (a : Option Addr) (n c : Nat) (L : List (List Sl)) (h : Rw w (.slice a n c) L) (hx : Rgs L) (F t dm : Int) (hF : Tk.U F) (ht : Tk.U t) :
    Calls Try.prog 18 #[.agg #[.int .u64 F, .slice a n c], .int .u64 t, .int .i64 dm] w fun e w' => NumR w (hasI F L t dm) (lkE F L dm 16) e w' := by
  obtain ⟨W3, hW3⟩ : ∃ W, W = ((w.alloc (.cells #[.int .u64 F, .slice a n c] 25)).alloc (.cells #[.int .u64 t] 22)).alloc (.cells #[.slice none 0 0] 40) := ⟨_, rfl⟩
  have G3 : Gr w W3 := by rw [hW3]; exact Ch.alloc (Ch.alloc (Ch.alloc (Gr.refl w) _) _) _
  have hsz : W3.heap.size = w.heap.size + 3 := by rw [hW3]; simp
  have B3 : W3.heap[w.heap.size + 2]? = some (.cells #[.slice none 0 0] 40 (0, 0)) := by rw [hW3]; exact al_at _ (by simp)
  have HBX := hide (show ∀ W, Ch (Only (w.heap.size + 2)) (W3.alloc (.cells #[.int .u64 F, .slice a n c] 25)) W → _ from fun W g => boxes_has (by rw [hW3] at g; exact g))
  have HE := hide (each_any w W3 a n c L hx F dm hF 38 #[.pointer (some ⟨w.heap.size, 0, none⟩), .pointer (some ⟨w.heap.size + 1, 0, none⟩), .pointer (some ⟨w.heap.size + 2, 0, none⟩)] (enters_of Try.func38 (by kernel_rfl) rfl) (Only (w.heap.size + 2)) (fun q e => by have e1 : q = w.heap.size + 2 := e; omega) G3 h
    (fun vs W => LBox eI 1 3 40 (w.heap.size + 2) (w.heap.size + 4) ((seenP F t vs).map (fun p : Nat => (p : Int))) W) (fun vs W W' h g => h.gr g) (LBox.start B3)
    (fun vs P x W hg hm hp hch hi => by
      obtain ⟨T0, T1, N0, hz, -⟩ := HBX.out W hch
      obtain ⟨⟨l, hl, hxl⟩, -⟩ := dsl_mem hm
      have hlen : ((seenP F t vs).map (fun p : Nat => (p : Int))).length ≤ 65536 := by
        rw [List.length_map]
        have h1 := seenP_len F t vs
        have h2 := ((List.prefix_append vs [(P, x)]).trans hp).length_le
        have h3 := vis_len hg dm
        omega
      refine (hasc_any W P x _ _ _ _ a n c F t hF ht (hg.rg l hl x hxl) (hg.slot l hl x hxl).1 T0 T1 (by omega) N0 (by omega) _ hlen hi (by omega) (by omega)).mono ?_
      rintro e w' ⟨h1, h2, h3⟩
      refine ⟨h1, chApd hch h3 (by simp; omega), ?_⟩
      cases hin : inT F t x
      · rw [seenP_out hin]; rw [hin] at h2; exact h2
      · rw [seenP_in hin, List.map_append]; rw [hin] at h2; exact h2))
  have HV := hide (show lkE F L dm 16 = 0 → seenP F t (vis L dm) = hasP F L t dm from fun e => seenP_vis (lkE_ok hx e).1)
  obtain ⟨R, hR⟩ : ∃ R, R = hasI F L t dm := ⟨_, rfl⟩
  rw [← hR]
  unfold hasI at hR
  have HR := hide hR
  generalize lkE F L dm 16 = E at HE HR HV ⊢
  clear h hx hF ht G3 hsz B3 hR
  go_enter Try.func18, Try.ntmps18
  go_wp2_with fail
  rw [← hW3]
  clear hW3
  refine HE.out.mono ?_
  rintro e w5 ⟨rfl, h5, s5⟩
  obtain ⟨-, -, -, -, gw⟩ := HBX.out _ h5
  have G5 := hide gw
  have s6 : LBox eI 1 3 40 (w.heap.size + 2) (w.heap.size + 4) R w5 := by
    unfold Seen at s5
    by_cases h0 : E = 0
    · rw [if_pos h0] at s5
      rw [HR.out, if_pos h0, ← HV.out h0]
      exact s5
    · rw [if_neg h0] at s5
      rw [HR.out, if_neg h0]
      exact s5
  obtain ⟨ao, cap, b5, o5⟩ := s6.form
  have l0 := cell_of b5 0
  simp at l0
  have ll := lt_of_block b5
  have O5 := hide o5
  clear h5 s5 s6 gw b5 o5
  go_wp2
  go_ret2
  exact ⟨ao, cap, rfl, O5.out.lst.mono (fun _ _ h => by omega), G5.out⟩
end Go.Proofs.Ytbghagpjkkmhpaa.Lt
