/-
  What the program's targets answers. Conditions: a target is a word's place; the tables lie where they lie.
-/
import Derived.Test.YtbehlhnnfdkmaaaGreatDoorLtCheck
import Derived.Deep.OwnRows
namespace Go.Proofs.YtbehlhnnfdkmaaaGreatDoor.Lt
open Go.RowKit Wd

/-- does a word have a place as its target? -/
def tgw (x : Int) (k : Nat) : Bool := decide (dE x = 0 ∧ knd (dI x).1 = 1 ∧ (dI x).2.2.2.2 = (k : Int))
/-- has one of them? -/
def tg (ws : List Int) (k : Nat) : Bool := ws.any (fun x => tgw x k)
/-- targets lie within -/
def TgOk (cs : List Int) (n : Nat) : Prop := ∀ x ∈ cs, dE x = 0 → knd (dI x).1 = 1 → 0 ≤ (dI x).2.2.2.2 ∧ (dI x).2.2.2.2 < (n : Int)
def tgC (ws : List Int) (n : Nat) : Array Value := ((List.range n).map (fun k => Value.bool (tg ws k))).toArray

theorem bool_info : (Tryz.prog.info? 4).map (fun i => (i.zero, i.size, i.bytes)) = some (some (.bool false), 1, 1) := by kernel_rfl
theorem tg_snoc (ws : List Int) (x : Int) (k : Nat) : tg (ws ++ [x]) k = (tg ws k || tgw x k) := by
  unfold tg
  simp
theorem tgC_same {ws : List Int} {x : Int} {n : Nat} (h : ∀ k, k < n → tgw x k = false) : tgC (ws ++ [x]) n = tgC ws n := by
  unfold tgC
  congr 1
  apply List.map_congr_left
  intro k hk
  rw [tg_snoc, h k (List.mem_range.1 hk), Bool.or_false]
theorem tgC_set {ws : List Int} {x : Int} {n m : Nat} (hm : m < n) (h : ∀ k, tgw x k = decide (k = m)) : (tgC ws n).setIfInBounds m (.bool true) = tgC (ws ++ [x]) n := by
  unfold tgC
  apply Array.ext_getElem?
  intro i
  rw [Array.getElem?_setIfInBounds]
  simp only [List.getElem?_toArray, List.getElem?_map, List.size_toArray, List.length_map, List.length_range]
  by_cases hi : m = i
  · subst hi
    rw [if_pos rfl, if_pos hm, List.getElem?_range hm]
    simp [tg_snoc, h]
  · rw [if_neg hi]
    rcases Nat.lt_or_ge i n with h1 | h1
    · rw [List.getElem?_range h1]
      have : ¬ i = m := fun e => hi e.symm
      simp [tg_snoc, h, this]
    · rw [List.getElem?_eq_none (by simpa using h1)]
      rfl
theorem made_tg (n : Nat) : madeCells #[.bool false] n = tgC [] n := by
  unfold madeCells tgC tg
  apply Array.ext_getElem?
  intro i
  rcases Nat.lt_or_ge i n with h1 | h1
  · simp [h1, Nat.mod_one]
  · simp [h1]
set_option maxHeartbeats 1000000 in
set_option maxRecDepth 20000 in
theorem targets_any (P : Nat → Prop) (w : World) (vc : Value) (cs : List Int) (h : Ls eU P w vc cs) (hcl : cs.length ≤ 35184372088832) (hu : U32s cs) (hk : TgOk cs cs.length) (hg : Glb w) :
    Calls Tryz.prog 86 #[vc] w fun e w' => e = .returned (.slice (some ⟨w.heap.size, 0, none⟩) cs.length cs.length) ∧ w'.heap[w.heap.size]? = some (.cells (tgC cs cs.length) 4 (0, 0)) ∧ Gr w w' := by
  obtain ⟨aoc, cac, hia⟩ := h.form
  have HL := hid h
  have HU := hid hu
  have HK := hid hk
  have HG := hid hg
  obtain ⟨nc, hnc⟩ : ∃ n, n = cs.length := ⟨_, rfl⟩
  rw [← hnc] at hia hcl HK ⊢
  have HN := hid hnc
  subst hia
  have hmk := run_make_row' (P := Tryz.prog) 135 4 (.bool false) 1 Tryz.underlying135 bool_info rfl .i64 .i64 nc (by omega) (by omega)
  rw [made_tg] at hmk
  have K1 := hid (Gr.alloc (Gr.refl w) (tgC [] nc) 4)
  have B1 := hid (MapKept.heap_alloc w (.cells (tgC [] nc) 4)).1
  clear h hu hk hg hnc
  go_enter Tryz.func86, Tryz.ntmps86
  go_wp2_with fail
  clear hmk
  go_loopg [13] nc (fun m i wq => ∃ j : Nat, j + m = nc ∧ i = .int .i64 ((j : Nat) : Int) ∧ wq.heap[w.heap.size]? = some (.cells (tgC (cs.take j) nc) 4 (0, 0)) ∧ Gr w wq)
  case atStart => exact ⟨0, by omega, rfl, B1.out, K1.out⟩
  case round =>
    clear B1 K1
    obtain ⟨j, hjk, rfl, hbk, hgr⟩ := hrel
    have HB := hid hbk
    have HR := hid hgr
    clear hbk hgr
    by_cases hj : j < nc
    · obtain ⟨x, hx⟩ : ∃ x, cs[j]? = some x := ⟨_, List.getElem?_eq_getElem (by rw [← HN.out]; exact hj)⟩
      have HX := hid (take_one hx)
      have hxu := HU.out x (List.mem_of_getElem? hx)
      have hxk := HK.out x (List.mem_of_getElem? hx)
      have HD := hid (fun (W : World) (q : Glb W) => decode_all x hxu.1 hxu.2 W q)
      obtain ⟨g, o, cap', hv, _, hgl, _, hcs⟩ := HL.out.get eU_len hx
      injection hv with hv1 hv2 hv3
      subst hv1
      have c0 := (HR.out.cell hgl).trans (hcs 0 _ rfl)
      rw [Nat.mul_one, Nat.add_zero] at c0
      have gs := HR.out.size
      have lg : g < wr.heap.size := by omega
      have j0 : (0 : Int) ≤ (j : Int) := by omega
      have j1 : (j : Int) < (nc : Int) := by omega
      have HTW := hid (show ∀ k, tgw x k = decide (dE x = 0 ∧ knd (dI x).1 = 1 ∧ (dI x).2.2.2.2 = (k : Int)) from fun _ => rfl)
      unfold iV at HD
      generalize dI x = I at HD hxk HTW
      generalize dE x = E at HD hxk HTW
      have HNM := hid (fun (W : World) => named_any I.1 W)
      generalize knd I.1 = q at HNM hxk HTW
      clear hv2 hv3 hcs hx hgl hxu
      by_cases hE : E = 0
      · subst hE
        by_cases hq : q = 1
        · subst hq
          obtain ⟨h1, h2⟩ := hxk rfl rfl
          obtain ⟨i1, i2, i3, i4, i5⟩ := I
          simp only at h1 h2 HD HNM HTW
          obtain ⟨m, rfl⟩ : ∃ m : Nat, i5 = (m : Nat) := ⟨i5.toNat, by omega⟩
          have hm : m < nc := by omega
          have HSET := hid (tgC_set (ws := cs.take j) (x := x) hm (fun k => by rw [HTW.out k]; simp only [true_and]; rw [Bool.eq_iff_iff]; simp; omega))
          clear HTW hxk
          go_wp2_with fail
          refine (HD.out _ (HG.out.gr HR.out)).mono ?_
          rintro e w3 ⟨rfl, g3⟩
          have G3 := hid (Gr.trans HR.out g3)
          have B3 := hid (gr_blk HB.out g3)
          have l3 := lt_of_block B3.out
          obtain ⟨ov, hov⟩ : ∃ v, (tgC (cs.take j) nc)[m]? = some v := ⟨_, Array.getElem?_eq_getElem (by unfold tgC; simp; exact hm)⟩
          have cm : w3.cell? ⟨w.heap.size, m, none⟩ = some ov := (cell_of B3.out m).trans hov
          have zm := frozen_of B3.out m
          clear g3
          go_wp2_with (go_at_call 78; refine (HNM.out _).mono ?_; rintro e w4 ⟨rfl, hw⟩; have hw := hw.symm; subst hw)
          go_roundg (gk - 1)
          case measure => omega
          case rel =>
            refine ⟨j + 1, by omega, by simp, ?_, ?_⟩
            · rw [HX.out, ← HSET.out]
              exact al_blk (setCell_block B3.out m (.bool true)) _
            · exact Ch.alloc (Ch.fresh G3.out (Nat.le_refl _) _ _) _
        · have HSAME := hid (tgC_same (ws := cs.take j) (x := x) (n := nc) (fun k _ => by rw [HTW.out k]; simp [hq]))
          have hq' : (q == 1) = false := by simpa using hq
          clear HTW hxk
          go_wp2_with (first | (go_at_call 30; refine (HD.out _ (HG.out.gr HR.out)).mono ?_; rintro e w3 ⟨rfl, g3⟩; have G3 := hid (Gr.trans HR.out g3); have B3 := hid (gr_blk HB.out g3); have l3 := lt_of_block B3.out; clear g3) | (go_at_call 78; refine (HNM.out _).mono ?_; rintro e w4 ⟨rfl, hw⟩; have hw := hw.symm; subst hw))
          go_roundg (gk - 1)
          case measure => omega
          case rel => exact ⟨j + 1, by omega, by simp, by rw [HX.out, HSAME.out]; exact al_blk B3.out _, Ch.alloc G3.out _⟩
      · have HSAME := hid (tgC_same (ws := cs.take j) (x := x) (n := nc) (fun k _ => by rw [HTW.out k]; simp [hE]))
        have hE' : (E == 0) = false := by simpa using hE
        clear HTW hxk
        go_wp2_with (first | (go_at_call 30; refine (HD.out _ (HG.out.gr HR.out)).mono ?_; rintro e w3 ⟨rfl, g3⟩; have G3 := hid (Gr.trans HR.out g3); have B3 := hid (gr_blk HB.out g3); have l3 := lt_of_block B3.out; clear g3) | (go_at_call 78; refine (HNM.out _).mono ?_; rintro e w4 ⟨rfl, hw⟩; have hw := hw.symm; subst hw))
        go_roundg (gk - 1)
        case measure => omega
        case rel => exact ⟨j + 1, by omega, by simp, by rw [HX.out, HSAME.out]; exact al_blk B3.out _, Ch.alloc G3.out _⟩
    · have hjn : j = nc := by omega
      have jn : ¬ (j : Int) < (nc : Int) := by omega
      have htk : cs.take j = cs := by rw [hjn, HN.out]; exact List.take_length
      rw [htk] at HB
      clear htk hjn
      go_wp2
      go_ret
      exact ⟨rfl, HB.out, HR.out⟩
end Go.Proofs.YtbehlhnnfdkmaaaGreatDoor.Lt
