/-
  What the program's next answers, and Next on both sides. Conditions: a place is a word's; words are words; the tables lie where they lie.
-/
import Derived.Test.YtollfepggicehabDoorPpSort
namespace Go.Proofs.YtollfepggicehabDoor.Lt
open Go.RowKit Wd

theorem p_cells {w : World} {X : Nat} {a b c : Value} {T : TypeId} (h : w.heap[X]? = some (.cells #[a, b, c] T (0, 0))) : w.cell? ⟨X, 0, none⟩ = some a ∧ w.cell? ⟨X, 1, none⟩ = some b ∧ w.cell? ⟨X, 2, none⟩ = some c ∧ X < w.heap.size := ⟨(cell_of h 0).trans rfl, (cell_of h 1).trans rfl, (cell_of h 2).trans rfl, lt_of_block h⟩
theorem wN_len (cs : List Int) (x : Int) : (wN cs x).length ≤ 4096 := by
  unfold wN nxt
  split
  · simp
  · split
    · simp
    · split
      · simp
      · split <;> simp
/-- the numbers that a word's operation and place put, sorted, each once -/
theorem nxt_both {i : Int × Int × Int × Int × Int} {a : Int} (h1 : hT i.1 = true) (h2 : en i.1 = false) : Lib.compact (([i.2.2.2.2, a + 1] : List Int).mergeSort fun x y => decide (x ≤ y)) = nxt i a := by
  have h0 : ¬ i.1 = 17 := fun e => by rw [e] at h2; exact absurd h2 (by decide)
  rw [sort_two]
  unfold nxt
  rw [if_neg h0, h1, h2]
  by_cases e : i.2.2.2.2 = a + 1
  · rw [if_pos (by omega), compact_two, if_pos e]
    simp [e]
  · by_cases l : i.2.2.2.2 ≤ a + 1
    · rw [if_pos l, compact_two, if_neg e]
      simp [e, show i.2.2.2.2 < a + 1 by omega]
    · rw [if_neg l, compact_two, if_neg (fun q => e q.symm)]
      simp [e, show ¬ i.2.2.2.2 < a + 1 by omega]
theorem nxt_jump {i : Int × Int × Int × Int × Int} {a : Int} (h1 : hT i.1 = true) (h2 : en i.1 = true) : nxt i a = [i.2.2.2.2] := by
  have h0 : i.1 = 17 := by
    unfold hT en at *
    simp only [decide_eq_true_eq] at h1 h2
    omega
  unfold nxt
  rw [if_pos h0]
theorem nxt_end {i : Int × Int × Int × Int × Int} {a : Int} (h1 : hT i.1 = false) (h2 : en i.1 = true) : nxt i a = [] := by
  have h0 : ¬ i.1 = 17 := fun e => by rw [e] at h1; exact absurd h1 (by decide)
  unfold nxt
  rw [if_neg h0, if_pos h2]
theorem nxt_on {i : Int × Int × Int × Int × Int} {a : Int} (h1 : hT i.1 = false) (h2 : en i.1 = false) : nxt i a = [a + 1] := by
  have h0 : ¬ i.1 = 17 := fun e => by rw [e] at h1; exact absurd h1 (by decide)
  unfold nxt
  rw [if_neg h0, if_neg (by rw [h2]; decide), if_pos (.inl h1)]
set_option maxHeartbeats 1000000 in
set_option maxRecDepth 20000 in
theorem pnext_any (P : Nat → Prop) (w : World) (aoc aof aot : Option Addr) (nc nf nt cac caf cat : Nat) (cs : List Int) (h : Ls eU P w (.slice aoc nc cac) cs) (hu : U32s cs) (hg : Glb w) (hc : nc ≤ 4096) (a : Nat) (n : Int) (hx : cs[a]? = some n) :
    Calls Tryd.prog 40 #[.agg #[.slice aoc nc cac, .slice aof nf caf, .slice aot nt cat], .int .i64 (a : Nat)] w (NxR w (nxt (dI n) (a : Nat))) := by
  obtain ⟨u0, u1⟩ := hu n (List.mem_of_getElem? hx)
  have HD := hid (fun (W : World) (p : Gr w W) => decode_all n u0 u1 W (hg.gr p))
  have hlen : a < nc := by rw [h.len.1]; exact (List.getElem?_eq_some_iff.1 hx).1
  obtain ⟨g, o, cap', hv, _, hgl, _, hcs⟩ := h.get eU_len hx
  injection hv with hv1 hv2 hv3
  subst hv1
  have c0 := hcs 0 _ rfl
  rw [Nat.mul_one, Nat.add_zero] at c0
  have HH := hid (fun (o : Int) (W : World) => hast_any o W)
  have HN := hid (fun (o : Int) (W : World) => ending_any o W)
  have K1 := hid (Gr.alloc (Gr.refl w) #[.slice (some ⟨g, o, none⟩) nc cac, .slice aof nf caf, .slice aot nt cat] 26)
  have q0 : (0 : Int) ≤ (a : Int) := by omega
  have q1 : (a : Int) < (nc : Int) := by omega
  have a1 : (a : Int) ≤ 4096 := by omega
  have HJ := hid (fun k1 k2 => nxt_jump (i := dI n) (a := (a : Int)) k1 k2)
  have HE := hid (fun k1 k2 => nxt_end (i := dI n) (a := (a : Int)) k1 k2)
  have HO := hid (fun k1 k2 => nxt_on (i := dI n) (a := (a : Int)) k1 k2)
  have HB := hid (fun k1 k2 => nxt_both (i := dI n) (a := (a : Int)) k1 k2)
  unfold iV at HD
  generalize nxt (dI n) (a : Nat) = X at HJ HE HO HB ⊢
  generalize dI n = II at HD HJ HE HO HB
  generalize dE n = E at HD
  obtain ⟨o1, o2, o3, o4, im⟩ := II
  simp only at HD HJ HE HO HB
  clear hv2 hv3 hcs hx h u0 u1 hu hg
  cases k1 : hT o1 with
  | true =>
    cases k2 : en o1 with
    | true =>
      have hr := HJ.out k1 k2
      subst hr
      go_enter Tryd.func40, Tryd.ntmps40
      go_wp2_with (first | (go_at_call 38; refine (HD.out _ K1.out).mono ?_; rintro e w3 ⟨rfl, g3⟩; have G4 := hid (Gr.alloc (Gr.trans K1.out g3) #[.int .i64 o1, .int .i64 o2, .int .i64 o3, .int .i64 o4, .int .i64 im] 37); have BI := hid (MapKept.heap_alloc w3 (.cells #[.int .i64 o1, .int .i64 o2, .int .i64 o3, .int .i64 o4, .int .i64 im] 37)).1; have S4 := hid (show w.heap.size ≤ w3.heap.size from (Gr.trans K1.out g3).size); clear g3) | (go_at_call 62; refine (HH.out _ _).mono ?_; rintro e w9 ⟨rfl, hw⟩; have hw := hw.symm; subst hw) | (go_at_call 63; refine (HN.out _ _).mono ?_; rintro e w9 ⟨rfl, hw⟩; have hw := hw.symm; subst hw) | (at_builtin; refine wpList_append_ow eI_len rfl (.tmp 20) (.tmp 23) _ 3 8 _ Tryd.underlying32 int_info rfl (by omega) rfl w.heap.size _ [] rfl (Ow.nil _ _ _ _ _) _ _ [im] rfl (ls_int _ _ _ (by simp)) (eI_one _) 1 rfl (by omega) (by unfold maxLen; omega) (by simp; have := S4.out; have := G4.out.size; simp at this; omega) [im] rfl ?_; intro ao5 cap5 w5 ow5 cw5 bl5; have O5 := hid ow5; have J5 := hid ((cw5.block w3.heap.size (by simp; omega) (fun q => by cases q)).trans (al_blk BI.out _)); have G5 := hid (show Gr w w5 from Ch.trans (Ch.alloc G4.out _) cw5 (fun x q => by cases q)); have l5 := lt_of_block J5.out; have u5 : w5.cell? ⟨w3.heap.size, 0, none⟩ = some (.int .i64 o1) := (cell_of J5.out 0).trans rfl; have v5 : w5.cell? ⟨w3.heap.size, 4, none⟩ = some (.int .i64 im) := (cell_of J5.out 4).trans rfl; clear ow5 cw5 bl5) | (go_at_call 37; refine (sort_ow _ w.heap.size _ _ _ [im] O5.out (by simp)).mono ?_; rintro e w7 ⟨rfl, o7, c7⟩; have O7 := hid o7; have G7 := hid (show Gr w w7 from Ch.trans G5.out c7 (fun x q => .inr (O5.out.blk q).1)); clear o7 c7) | (go_at_call 64; refine (compact_ow _ w.heap.size _ _ _ _ [im] O7.out (by rw [List.length_mergeSort]; simp) (by rw [sort_one]; exact compact_one _) (by rw [List.length_mergeSort]; simp) 1 rfl).mono ?_; rintro e w8 ⟨rfl, o8, c8⟩; have O8 := hid o8; have G8 := hid (show Gr w w8 from Ch.trans G7.out c8 (fun x q => .inr (O7.out.blk q).1)); clear o8 c8))
      go_ret
      exact ⟨_, rfl, O8.out, G8.out⟩
    | false =>
      have hB := hid (HB.out k1 k2)
      have hBL := hid (show X.length ≤ 2 from by rw [← hB.out, sort_two]; split <;> (rw [compact_two]; split <;> simp))
      go_enter Tryd.func40, Tryd.ntmps40
      go_wp2_with (first | (go_at_call 38; refine (HD.out _ K1.out).mono ?_; rintro e w3 ⟨rfl, g3⟩; have G4 := hid (Gr.alloc (Gr.trans K1.out g3) #[.int .i64 o1, .int .i64 o2, .int .i64 o3, .int .i64 o4, .int .i64 im] 37); have BI := hid (MapKept.heap_alloc w3 (.cells #[.int .i64 o1, .int .i64 o2, .int .i64 o3, .int .i64 o4, .int .i64 im] 37)).1; have S4 := hid (show w.heap.size ≤ w3.heap.size from (Gr.trans K1.out g3).size); clear g3) | (go_at_call 62; refine (HH.out _ _).mono ?_; rintro e w9 ⟨rfl, hw⟩; have hw := hw.symm; subst hw) | (go_at_call 63; refine (HN.out _ _).mono ?_; rintro e w9 ⟨rfl, hw⟩; have hw := hw.symm; subst hw) | (at_builtin; refine wpList_append_ow eI_len rfl (.tmp 29) (.tmp 32) _ 3 8 _ Tryd.underlying32 int_info rfl (by omega) rfl w.heap.size _ [im] rfl (O5.out.alloc _) _ _ [(a : Int) + 1] rfl (ls_int _ _ _ (by simp)) (eI_one _) 2 rfl (by omega) (by unfold maxLen; omega) (by simp; have := G5.out.size; omega) [im, (a : Int) + 1] rfl ?_; intro ao6 cap6 w6 ow6 cw6 bl6; have O6 := hid ow6; have G6 := hid (show Gr w w6 from Ch.trans (Ch.alloc G5.out _) cw6 (fun x q => .inr (O5.out.blk q).1)); clear ow6 cw6 bl6) | (at_builtin; refine wpList_append_ow eI_len rfl (.tmp 20) (.tmp 23) _ 3 8 _ Tryd.underlying32 int_info rfl (by omega) rfl w.heap.size _ [] rfl (Ow.nil _ _ _ _ _) _ _ [im] rfl (ls_int _ _ _ (by simp)) (eI_one _) 1 rfl (by omega) (by unfold maxLen; omega) (by simp; have := S4.out; have := G4.out.size; simp at this; omega) [im] rfl ?_; intro ao5 cap5 w5 ow5 cw5 bl5; have O5 := hid ow5; have J5 := hid ((cw5.block w3.heap.size (by simp; omega) (fun q => by cases q)).trans (al_blk BI.out _)); have G5 := hid (show Gr w w5 from Ch.trans (Ch.alloc G4.out _) cw5 (fun x q => by cases q)); have l5 := lt_of_block J5.out; have u5 : w5.cell? ⟨w3.heap.size, 0, none⟩ = some (.int .i64 o1) := (cell_of J5.out 0).trans rfl; have v5 : w5.cell? ⟨w3.heap.size, 4, none⟩ = some (.int .i64 im) := (cell_of J5.out 4).trans rfl; clear ow5 cw5 bl5) | (go_at_call 37; refine (sort_ow _ w.heap.size _ _ _ [im, (a : Int) + 1] O6.out (by simp)).mono ?_; rintro e w7 ⟨rfl, o7, c7⟩; have O7 := hid o7; have G7 := hid (show Gr w w7 from Ch.trans G6.out c7 (fun x q => .inr (O6.out.blk q).1)); clear o7 c7) | (go_at_call 64; refine (compact_ow _ w.heap.size _ _ _ _ X O7.out (by rw [List.length_mergeSort]; simp) hB.out (by rw [List.length_mergeSort]; exact hBL.out) _ rfl).mono ?_; rintro e w8 ⟨rfl, o8, c8⟩; have O8 := hid o8; have G8 := hid (show Gr w w8 from Ch.trans G7.out c8 (fun x q => .inr (O7.out.blk q).1)); clear o8 c8))
      go_ret
      exact ⟨_, rfl, O8.out, G8.out⟩
  | false =>
    cases k2 : en o1 with
    | true =>
      have hr := HE.out k1 k2
      subst hr
      go_enter Tryd.func40, Tryd.ntmps40
      go_wp2_with (first | (go_at_call 38; refine (HD.out _ K1.out).mono ?_; rintro e w3 ⟨rfl, g3⟩; have G4 := hid (Gr.alloc (Gr.trans K1.out g3) #[.int .i64 o1, .int .i64 o2, .int .i64 o3, .int .i64 o4, .int .i64 im] 37); have BI := hid (MapKept.heap_alloc w3 (.cells #[.int .i64 o1, .int .i64 o2, .int .i64 o3, .int .i64 o4, .int .i64 im] 37)).1; have S4 := hid (show w.heap.size ≤ w3.heap.size from (Gr.trans K1.out g3).size); clear g3) | (go_at_call 62; refine (HH.out _ _).mono ?_; rintro e w9 ⟨rfl, hw⟩; have hw := hw.symm; subst hw) | (go_at_call 63; refine (HN.out _ _).mono ?_; rintro e w9 ⟨rfl, hw⟩; have hw := hw.symm; subst hw) | (go_at_call 37; refine (sort_ow _ w.heap.size _ _ _ [] (Ow.nil _ _ _ _ _) (by simp)).mono ?_; rintro e w7 ⟨rfl, o7, c7⟩; have O7 := hid o7; have G7 := hid (show Gr w w7 from Ch.trans G4.out c7 (fun x q => by cases q)); clear o7 c7) | (go_at_call 64; refine (compact_ow _ w.heap.size _ _ _ _ [] O7.out (by rw [List.length_mergeSort]; simp) (by rw [List.mergeSort_nil]; exact compact_nil) (by rw [List.length_mergeSort]; simp) 0 rfl).mono ?_; rintro e w8 ⟨rfl, o8, c8⟩; have O8 := hid o8; have G8 := hid (show Gr w w8 from Ch.trans G7.out c8 (fun x q => by cases q)); clear o8 c8))
      go_ret
      exact ⟨_, rfl, O8.out, G8.out⟩
    | false =>
      have hr := HO.out k1 k2
      subst hr
      go_enter Tryd.func40, Tryd.ntmps40
      go_wp2_with (first | (go_at_call 38; refine (HD.out _ K1.out).mono ?_; rintro e w3 ⟨rfl, g3⟩; have G4 := hid (Gr.alloc (Gr.trans K1.out g3) #[.int .i64 o1, .int .i64 o2, .int .i64 o3, .int .i64 o4, .int .i64 im] 37); have BI := hid (MapKept.heap_alloc w3 (.cells #[.int .i64 o1, .int .i64 o2, .int .i64 o3, .int .i64 o4, .int .i64 im] 37)).1; have S4 := hid (show w.heap.size ≤ w3.heap.size from (Gr.trans K1.out g3).size); clear g3) | (go_at_call 62; refine (HH.out _ _).mono ?_; rintro e w9 ⟨rfl, hw⟩; have hw := hw.symm; subst hw) | (go_at_call 63; refine (HN.out _ _).mono ?_; rintro e w9 ⟨rfl, hw⟩; have hw := hw.symm; subst hw) | (at_builtin; refine wpList_append_ow eI_len rfl (.tmp 29) (.tmp 32) _ 3 8 _ Tryd.underlying32 int_info rfl (by omega) rfl w.heap.size _ [] rfl (Ow.nil _ _ _ _ _) _ _ [(a : Int) + 1] rfl (ls_int _ _ _ (by simp)) (eI_one _) 1 rfl (by omega) (by unfold maxLen; omega) (by simp; have := S4.out; have := G4.out.size; simp at this; omega) [(a : Int) + 1] rfl ?_; intro ao5 cap5 w5 ow5 cw5 bl5; have O5 := hid ow5; have J5 := hid ((cw5.block w3.heap.size (by simp; omega) (fun q => by cases q)).trans (al_blk BI.out _)); have G5 := hid (show Gr w w5 from Ch.trans (Ch.alloc G4.out _) cw5 (fun x q => by cases q)); have l5 := lt_of_block J5.out; have u5 : w5.cell? ⟨w3.heap.size, 0, none⟩ = some (.int .i64 o1) := (cell_of J5.out 0).trans rfl; have v5 : w5.cell? ⟨w3.heap.size, 4, none⟩ = some (.int .i64 im) := (cell_of J5.out 4).trans rfl; clear ow5 cw5 bl5) | (go_at_call 37; refine (sort_ow _ w.heap.size _ _ _ [(a : Int) + 1] O5.out (by simp)).mono ?_; rintro e w7 ⟨rfl, o7, c7⟩; have O7 := hid o7; have G7 := hid (show Gr w w7 from Ch.trans G5.out c7 (fun x q => .inr (O5.out.blk q).1)); clear o7 c7) | (go_at_call 64; refine (compact_ow _ w.heap.size _ _ _ _ [(a : Int) + 1] O7.out (by rw [List.length_mergeSort]; simp) (by rw [sort_one]; exact compact_one _) (by rw [List.length_mergeSort]; simp) 1 rfl).mono ?_; rintro e w8 ⟨rfl, o8, c8⟩; have O8 := hid o8; have G8 := hid (show Gr w w8 from Ch.trans G7.out c8 (fun x q => .inr (O7.out.blk q).1)); clear o8 c8))
      go_ret
      exact ⟨_, rfl, O8.out, G8.out⟩
/-- a list and why not -/
def TxR (w : World) (xs : List Int) (E : Int) (e : Ending) (w' : World) : Prop := ∃ v, e = .returned (.tuple #[v, .int .i64 E]) ∧ Ow eI 1 3 w.heap.size w' v xs ∧ Gr w w'
/-- what Next answers -/
def nxN (cs : List Int) (fs : List (Int × Int)) (ts : List Tb) (a : Int) : List Int := if ask cs fs ts a (cs.length : Int) = 0 then wN cs a else []
theorem ask_may {cs : List Int} {fs : List (Int × Int)} {ts : List Tb} {a k : Int} (q : ask cs fs ts a k = 0) : May cs fs ts.length ∧ 0 ≤ a ∧ a < k := by
  unfold ask at q
  split at q
  · rename_i z; exact absurd q z
  · rename_i z
    split at q
    · cases q
    · exact ⟨may_of (Classical.byContradiction z), by omega, by omega⟩
theorem ask_yes {cs : List Int} {fs : List (Int × Int)} {ts : List Tb} {a : Int} (q : ask cs fs ts a (cs.length : Int) = 0) : cs.length ≤ 4096 ∧ ∃ b : Nat, a = (b : Int) ∧ b < cs.length := by
  obtain ⟨h, h0, h1⟩ := ask_may q
  exact ⟨h.nc, a.toNat, by omega, by omega⟩
end Go.Proofs.YtollfepggicehabDoor.Lt
