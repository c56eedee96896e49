/-
  What New, Push, Top and Len of a heap of strings answer: of one value. Condition: the heap is there.
-/
import Derived.Test.YtkaeccmhfbjcmaaHpPlays
import Derived.Handy
import Derived.Deep.DeepCutAuto
import Derived.Deep.CutBlock
namespace Go.Proofs.Ytkaeccmhfbjcmaa.Hp
open Go.RowKit
attribute [local go_sem ↓] Go.wp_at_zero Go.wp_at_succ

/-- a heap of strings that nothing was put into -/
def FreshS (w : World) (b : Nat) : Prop := w.heap[b]? = some (.cells #[.slice none 0 0, .map none, .int .i64 0] 78 (0, 0))
/-- a heap of one string, its blocks that are read in S -/
structure SH (S : Nat → Prop) (w : World) (b : Nat) : Prop where
  st : ∃ g cap mp, w.heap[b]? = some (.cells #[.slice (some ⟨g, 0, none⟩) 1 cap, mp, .int .i64 1] 78 (0, 0)) ∧ S g ∧ g < w.heap.size ∧ w.cell? ⟨g, 0, none⟩ = some (.int .u64 1) ∧ w.cell? ⟨g, 1, none⟩ = some (.int .i64 0) ∧ w.cell? ⟨g, 2, none⟩ = some (.string ⟨#[97]⟩)
  sb : S b
theorem SH.ch {S T : Nat → Prop} {w w' : World} {b : Nat} (h : SH S w b) (k : Ch T w w') (hs : ∀ q, S q → ¬ T q) : SH S w' b := by
  obtain ⟨⟨g, cap, mp, h1, h2, h3, h4, h5, h6⟩, h7⟩ := h
  exact ⟨⟨g, cap, mp, (k.block b (lt_of_block h1) (hs b h7)).trans h1, h2, Nat.lt_of_lt_of_le h3 k.size, (k.cell h3 (hs g h2)).trans h4, (k.cell h3 (hs g h2)).trans h5, (k.cell h3 (hs g h2)).trans h6⟩, h7⟩
theorem newS_any (w : World) : Calls Try.prog 15 #[] w fun e w' => ∃ b, e = .returned (.pointer (some ⟨b, 0, none⟩)) ∧ w.heap.size ≤ b ∧ FreshS w' b ∧ Ch NoB w w' := by
  go_enter Try.func15, Try.ntmps15
  go_wp2
  go_ret
  exact ⟨_, rfl, Nat.le_refl _, (MapKept.heap_alloc w _).1, (Ch.refl _ _).alloc _⟩
theorem lenS_any (S : Nat → Prop) (b : Nat) (w : World) (h : SH S w b) : Calls Try.prog 18 #[.pointer (some ⟨b, 0, none⟩)] w fun e w' => e = .returned (.int .i64 1) ∧ w' = w := by
  obtain ⟨⟨g, cap, mp, h1, h2, h3, h4, h5, h6⟩, h7⟩ := h
  have c0 : w.cell? ⟨b, 0, none⟩ = some (.slice (some ⟨g, 0, none⟩) 1 cap) := (cell_of h1 0).trans rfl
  have bl := lt_of_block h1
  clear h1 h4 h5 h6
  go_enter Try.func18, Try.ntmps18
  go_wp2
  go_ret
  exact ⟨rfl, rfl⟩
set_option maxHeartbeats 2000000 in
theorem topS_any (S : Nat → Prop) (b : Nat) (w : World) (h : SH S w b) : Calls Try.prog 17 #[.pointer (some ⟨b, 0, none⟩)] w fun e w' => e = .returned (.tuple #[.int .u64 1, .int .i64 0, .string ⟨#[97]⟩, .int .i64 0]) ∧ Ch NoB w w' := by
  have H := hid h
  obtain ⟨⟨g, cap, mp, h1, h2, h3, h4, h5, h6⟩, h7⟩ := h
  have c0 : w.cell? ⟨b, 0, none⟩ = some (.slice (some ⟨g, 0, none⟩) 1 cap) := (cell_of h1 0).trans rfl
  have bl := lt_of_block h1
  clear h1
  go_enter Try.func17, Try.ntmps17
  go_wp2_with fail
  refine (lenS_any S b _ H.out).mono ?_
  rintro e w1 ⟨rfl, rfl⟩
  go_wp2_with fail
  clear c0 bl h4 h5 h6 h3
  go_quiet (fail)
  go_wp2
  refine bodyPost_ret (v := .tuple #[.int .u64 1, .int .i64 0, .string ⟨#[97]⟩, .int .i64 0]) (by simp [results, Try.results17, go_sem]) rfl ?_
  exact ⟨rfl, ((Ch.refl _ _).alloc _).drewN _⟩
theorem riseS_zero (b : Nat) (w : World) : Calls Try.prog 30 #[.pointer (some ⟨b, 0, none⟩), .int .i64 0] w fun e w' => e = .returned (.tuple #[]) ∧ w' = w := by
  go_enter Try.func30, Try.ntmps30
  go_wp2_with fail
  go_rounds 1
  all_goals go_end0
  all_goals exact ⟨rfl, rfl⟩
theorem nodeS_info : (Try.prog.info? 80).map (fun i => (i.zero, i.size, i.bytes)) = some (some (.agg #[.int .u64 0, .int .i64 0, .string ⟨#[]⟩]), 3, 32) := by kernel_rfl
theorem own_one {w : World} {e : Nat} {v u0 u1 u2 : Value} (h : w.ownsRow 0 e 3 v (0 + 1) ([] ++ [u0, u1, u2])) : ∃ g cap, v = .slice (some ⟨g, 0, none⟩) (0 + 1) cap ∧ g < w.heap.size ∧ w.cell? ⟨g, 0, none⟩ = some u0 ∧ w.cell? ⟨g, 1, none⟩ = some u1 ∧ w.cell? ⟨g, 2, none⟩ = some u2 := by
  rcases h.2 with ⟨_, h0⟩ | ⟨g, cap, cur, hv, hb, hg, hc, hm, hs, ht⟩
  · omega
  · have k : ∀ j : Nat, j < 3 → w.cell? ⟨g, j, none⟩ = [u0, u1, u2][j]? := fun j hj => by
      rw [cell_of hg, ← Array.getElem?_toList]
      have h1 : (cur.toList.take _)[j]? = ([] ++ [u0, u1, u2])[j]? := congrArg (fun l : List Value => l[j]?) ht
      rw [List.getElem?_take_of_lt (by omega)] at h1
      exact h1
    exact ⟨g, cap, hv, lt_of_block hg, k 0 (by omega), k 1 (by omega), k 2 (by omega)⟩
set_option maxRecDepth 20000 in
set_option maxHeartbeats 4000000 in
theorem pushS_one (b : Nat) (w : World) (hf : FreshS w b) : Calls Try.prog 16 #[.pointer (some ⟨b, 0, none⟩), .int .u64 1, .string ⟨#[97]⟩] w fun e w' => e = .returned (.int .i64 0) ∧ SH (fun q => q = b ∨ w.heap.size ≤ q) w' b ∧ Ch (Only b) w w' := by
  have bl := lt_of_block hf
  obtain ⟨km, hkm⟩ : ∃ k, k = w.heap.size := ⟨_, rfl⟩
  obtain ⟨Wm, hWm⟩ : ∃ W, W = (w.setCell ⟨b, 1, none⟩ (.map (some w.heap.size))).alloc (.map #[] 0) := ⟨_, rfl⟩
  have CA : Ch (Only b) w (w.setCell ⟨b, 1, none⟩ (.map (some w.heap.size))) := (Ch.refl (Only b) _).own 1 _
  have fA := setCell_block hf 1 (.map (some w.heap.size))
  have gA : Ch NoB (w.setCell ⟨b, 1, none⟩ (.map (some w.heap.size))) Wm := by rw [hWm]; exact (Ch.refl _ _).alloc _
  have Bm : Wm.heap[b]? = some (.cells #[.slice none 0 0, .map (some km), .int .i64 0] 78 (0, 0)) := by rw [hkm]; exact (gA.block b (lt_of_block fA) (noB _)).trans fA
  have Mm : MAt Wm km [] 0 := by
    have e1 := (MapKept.heap_alloc (w.setCell ⟨b, 1, none⟩ (.map (some w.heap.size))) (.map #[] 0)).1
    have e2 : (w.setCell ⟨b, 1, none⟩ (.map (some w.heap.size))).heap.size = km := by rw [hkm]; simp [World.setCell]
    rw [e2] at e1
    rw [hWm]
    exact e1
  have Gm : Ch (Only b) w Wm := CA.trans gA (fun q e => e.elim)
  have f0 : w.cell? ⟨b, 0, none⟩ = some (.slice none 0 0) := (cell_of hf 0).trans rfl
  have f1 : w.cell? ⟨b, 1, none⟩ = some (.map none) := (cell_of hf 1).trans rfl
  have f2 : w.cell? ⟨b, 2, none⟩ = some (.int .i64 0) := (cell_of hf 2).trans rfl
  have uf1 := frozen_of hf 1
  have hmm := @run_makeMap Try.prog
  have dbk : b ≠ km := by omega
  have hel := eql_map_nil
  obtain ⟨i0, hi, hz0, hz1, hz2⟩ := info_parts2 nodeS_info
  have HKM := hid hkm
  go_enter Try.func16, Try.ntmps16
  go_upto_region 5 with fail
  rw [← hWm]
  clear hWm hmm f0 f1 f2 uf1 fA CA gA hkm hf
  have c0 : Wm.cell? ⟨b, 0, none⟩ = some (.slice none 0 0) := (cell_of Bm 0).trans rfl
  have c2 : Wm.cell? ⟨b, 2, none⟩ = some (.int .i64 0) := (cell_of Bm 2).trans rfl
  have blm := lt_of_block Bm
  have HB := hid Bm
  have HM := hid Mm
  have HG := hid Gm
  clear Bm Mm Gm
  go_quiet (fail)
  obtain ⟨V5, hV5⟩ : ∃ V, V = Wm.drewN nq := ⟨_, rfl⟩
  have gV : Ch NoB Wm V5 := by rw [hV5]; exact (Ch.refl _ _).drewN _
  have BV := (gV.block b blm (noB _)).trans HB.out
  have v2 : V5.cell? ⟨b, 2, none⟩ = some (.int .i64 0) := (cell_of BV 2).trans rfl
  have vf2 := frozen_of BV 2
  have blV := lt_of_block BV
  obtain ⟨W6, hW6⟩ : ∃ W, W = V5.setCell ⟨b, 2, none⟩ (.int .i64 1) := ⟨_, rfl⟩
  have B6 : W6.heap[b]? = some (.cells #[.slice none 0 0, .map (some km), .int .i64 1] 78 (0, 0)) := by rw [hW6]; exact setCell_block BV 2 _
  have C6 : Ch (Only b) V5 W6 := by rw [hW6]; exact (Ch.refl (Only b) V5).own 2 _
  have M6 := (HM.out.ch gV (noB _)).ch C6 (fun e => dbk e.symm)
  have g6 : Ch (Only b) w W6 := (HG.out.trans gV (fun _ e => e.elim)).trans' C6
  have bl6 := lt_of_block B6
  have y0 : W6.cell? ⟨b, 0, none⟩ = some (.slice none 0 0) := (cell_of B6 0).trans rfl
  have HB6 := hid B6
  have HM6 := hid M6
  have HG6 := hid g6
  rw [← hV5]
  clear gV BV B6 C6 M6 g6 hV5 c0 c2
  go_upto_region 7 with fail
  rw [← hW6]
  clear hW6 v2 vf2 blV
  obtain ⟨ka, hka⟩ : ∃ k, k = W6.heap.size := ⟨_, rfl⟩
  have zb := (MapKept.heap_alloc W6 (.cells #[.int .u64 1, .int .i64 0, .string ⟨#[97]⟩] 80)).1
  rw [← hka] at zb
  have HN := hid (show ∀ j u, [.int .u64 1, .int .i64 0, .string ⟨#[97]⟩][j]? = some u → (W6.alloc (.cells #[.int .u64 1, .int .i64 0, .string ⟨#[97]⟩] 80)).cell? ((⟨ka, 0, none⟩ : Addr).add j) = some u from fun j u hu => by
    have hadd : (⟨ka, 0, none⟩ : Addr).add j = ⟨ka, j, none⟩ := by unfold Addr.add; by_cases h : j = 0 <;> simp [h]
    rw [hadd, cell_of zb]
    rw [← List.getElem?_toArray] at hu
    exact hu)
  clear zb
  go_upto_region 8 with (first | (at_builtin; (rw [← hka]; refine wpList_append_own_at _ rfl (.tmp 40) (.tmp 46) _ rfl 0 80 i0 _ 3 32 Try.underlying76 hi hz0 hz1 hz2 rfl (by omega) (.slice none 0 0) 0 [] rfl (World.ownsRow_nil _ _ _ _) ⟨ka, 0, none⟩ 1 1 [.int .u64 1, .int .i64 0, .string ⟨#[97]⟩] rfl rfl HN.out (fun u hu => by simp at hu; rcases hu with rfl | rfl | rfl <;> rfl) (by unfold maxLen; omega) (by omega) (Nat.zero_le _) ?_; intro v7 w7 h2 h3 _ h5; obtain ⟨g7, cap7, hv7, gl7, q0, q1, q2⟩ := own_one h2; subst hv7; have G7 : Ch NoB W6 w7 := ((Ch.refl NoB W6).alloc _).trans' ((Ch.refl NoB _).grown h3 (fun k hk => by cases hk)); have HG7x := hid (show W6.heap.size ≤ g7 from h5.elim (fun e => by cases e) (fun e => by have e1 : some g7 = some _ := e; injection e1 with e1; rw [World.size_alloc] at e1; omega)); have B7 := (G7.block b bl6 (noB _)).trans HB6.out; have z0 : w7.cell? ⟨b, 0, none⟩ = some (.slice none 0 0) := (cell_of B7 0).trans rfl; have zf := frozen_of B7 0; have bl7 := lt_of_block B7; have HG7 := hid G7; have HB7 := hid B7; have HD7 := hid (And.intro gl7 (And.intro q0 (And.intro q1 q2))); clear h2 h3 h5 G7 B7 gl7 q0 q1 q2)))
  have s6 := HG6.out.size
  have hg7 := HG7x.out
  have d1 : b ≠ g7 := by omega
  have dg : g7 ≠ km := by have := HM6.out.lt; omega
  obtain ⟨W8, hW8⟩ : ∃ W, W = w7.setCell ⟨b, 0, none⟩ (.slice (some ⟨g7, 0, none⟩) 1 cap7) := ⟨_, rfl⟩
  have B8 : W8.heap[b]? = some (.cells #[.slice (some ⟨g7, 0, none⟩) 1 cap7, .map (some km), .int .i64 1] 78 (0, 0)) := by rw [hW8]; exact setCell_block HB7.out 0 _
  have C8 : Ch (Only b) w7 W8 := by rw [hW8]; exact (Ch.refl (Only b) w7).own 0 _
  have M8 := (HM6.out.ch HG7.out (noB _)).ch C8 (fun e => dbk e.symm)
  have hnew : ∀ e ∈ ([] : List (Int × Int × Nat)), e.1 ≠ 0 := fun e he => by simp at he
  have hu := update_new (w := W8) M8 hnew (0 : Int)
  have w1 : W8.cell? ⟨b, 1, none⟩ = some (.map (some km)) := (cell_of B8 1).trans rfl
  have bl8 := lt_of_block B8
  have HB8 := hid B8
  have HC8 := hid C8
  rw [← hW8]
  clear hW8 B8 C8 M8 hnew z0 zf y0 s6 hg7
  go_wp2_with fail
  have P9 := putM_ch W8 km [((0 : Int), (0 : Int), 0)] 1
  have HP9 := hid P9
  refine (riseS_zero b _).mono ?_
  rintro e w10 ⟨rfl, hw10⟩
  have HW10 := hid hw10
  clear hu w1 P9 hw10
  go_wp2
  go_ret
  rw [HW10.out]
  have g9 := (HG6.out.trans HG7.out (fun _ e => e.elim)).trans' HC8.out
  refine ⟨rfl, ⟨⟨g7, cap7, .map (some km), (HP9.out.block b bl8 dbk).trans HB8.out, .inr ?_, ?_, ?_, ?_, ?_⟩, .inl rfl⟩, g9.trans HP9.out (fun q e => .inr (by have e1 : q = km := e; rw [e1, HKM.out]; exact Nat.le_refl _))⟩
  · have := HG6.out.size
    have := HG7x.out
    omega
  · have h1 := HC8.out.size
    have h2 := HP9.out.size
    have := HD7.out.1
    omega
  · rw [HP9.out.cell (Nat.lt_of_lt_of_le HD7.out.1 HC8.out.size) (fun e => dg e), HC8.out.cell HD7.out.1 (fun e => d1 e.symm)]
    exact HD7.out.2.1
  · rw [HP9.out.cell (Nat.lt_of_lt_of_le HD7.out.1 HC8.out.size) (fun e => dg e), HC8.out.cell HD7.out.1 (fun e => d1 e.symm)]
    exact HD7.out.2.2.1
  · rw [HP9.out.cell (Nat.lt_of_lt_of_le HD7.out.1 HC8.out.size) (fun e => dg e), HC8.out.cell HD7.out.1 (fun e => d1 e.symm)]
    exact HD7.out.2.2.2
end Go.Proofs.Ytkaeccmhfbjcmaa.Hp
