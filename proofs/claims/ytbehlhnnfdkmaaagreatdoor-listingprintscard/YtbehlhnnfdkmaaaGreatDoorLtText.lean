/-
  What the program's called, instruction and Line answer. Conditions: the tables lie where they lie; an instruction is one that can be.
-/
import Derived.Test.YtbehlhnnfdkmaaaGreatDoorLtMr
import Derived.Lib.ItoaLen
namespace Go.Proofs.YtbehlhnnfdkmaaaGreatDoor.Lt
open Go.RowKit Wd

/-- a number's text -/
def itB (n : Int) : ByteArray := ⟨(Lib.itoa n).toArray⟩
theorem itB_size (n : Int) (h0 : -9223372036854775808 ≤ n) (h1 : n ≤ 9223372036854775807) : (itB n).size ≤ 21 := by
  have := Lib.itoa_length_le n h0 h1
  unfold itB
  show (Lib.itoa n).toArray.size ≤ 21
  simpa using this
theorem tab_of {w : World} (name : String) (hn : Tryz.prog.globalNamed name = some 4) (h : Pow w) : Lib.TabIs Tryz.prog w name .u64 Lib.pow10Tab := by
  obtain ⟨T, fr, h⟩ := h
  unfold Lib.TabIs World.var?
  rw [hn]
  simp only [Option.bind_some]
  rw [h]
theorem itoa_any (n : Int) (h0 : -9223372036854775808 ≤ n) (h1 : n ≤ 9223372036854775807) (w : World) (hg : Glb w) : Calls Tryz.prog 76 #[.int .i64 n] w fun e w' => e = .returned (.string (itB n)) ∧ Gr w w' := by
  refine (Any.strconv_Itoa Tryz.laysM171 n h0 h1 w (tab_of _ (by kernel_rfl) hg.p)).mono ?_
  rintro e w1 ⟨rfl, k, os, rfl⟩
  exact ⟨rfl, rfl, rfl, rfl, by show w.heap.size ≤ (w.heap ++ os).size; rw [Array.size_append]; omega, fun i hi _ => Sort.heap_grow_old (w.drewN k) os hi⟩
/-- the name of a thing of a kind -/
def cal (k n : Int) : ByteArray := if k = 1 then { data := #[76] } ++ itB n else if k = 2 then { data := #[102] } ++ itB n else if k = 3 then { data := #[116] } ++ itB n else itB n
theorem cal_size (k n : Int) (h0 : -9223372036854775808 ≤ n) (h1 : n ≤ 9223372036854775807) : (cal k n).size ≤ 22 := by
  have := itB_size n h0 h1
  have e1 : ({ data := #[76] } : ByteArray).size = 1 := rfl
  have e2 : ({ data := #[102] } : ByteArray).size = 1 := rfl
  have e3 : ({ data := #[116] } : ByteArray).size = 1 := rfl
  unfold cal
  repeat' split
  all_goals (try rw [ByteArray.size_append]); omega
theorem called_any (k n : Int) (h0 : -9223372036854775808 ≤ n) (h1 : n ≤ 9223372036854775807) (w : World) (hg : Glb w) : Calls Tryz.prog 77 #[.int .i64 k, .int .i64 n] w fun e w' => e = .returned (.string (cal k n)) ∧ Gr w w' := by
  have HI := hid (itoa_any n h0 h1 w hg)
  have hs := itB_size n h0 h1
  unfold cal
  obtain ⟨s, hs'⟩ : ∃ s, s = itB n := ⟨_, rfl⟩
  rw [← hs'] at HI hs ⊢
  clear hs' hg h0 h1
  rcases (by omega : k = 1 ∨ k = 2 ∨ k = 3 ∨ (¬ k = 1 ∧ ¬ k = 2 ∧ ¬ k = 3)) with rfl | rfl | rfl | ⟨c1, c2, c3⟩
  case inr.inr.inr =>
    rw [if_neg c1, if_neg c2, if_neg c3]
    go_enter Tryz.func77, Tryz.ntmps77
    go_wp2_with (go_at_call 76; refine HI.out.mono ?_; rintro e w1 ⟨rfl, hg⟩)
    go_ret
    exact ⟨rfl, hg⟩
  all_goals
    go_enter Tryz.func77, Tryz.ntmps77
    go_wp2_with (go_at_call 76; refine HI.out.mono ?_; rintro e w1 ⟨rfl, hg⟩)
    go_ret
    exact ⟨rfl, hg⟩

/-- a text with registers behind it -/
def rgT (s : ByteArray) (vs : List Int) : ByteArray := vs.foldl (fun s v => s ++ ({ data := #[32, 114] } ++ itB v)) s
/-- an instruction's text -/
def insT (k : Nat) (a b c m : Int) : ByteArray := if fN (sh k) = 1 then rgT (nm k) ([a, b, c].take (fR (sh k))) ++ ({ data := #[32] } ++ cal (knd (k : Nat)) m) else rgT (nm k) ([a, b, c].take (fR (sh k)))
theorem nm_le : ∀ k, (nm k).size ≤ 9 := by
  intro k
  unfold nm
  split <;> decide
theorem rgT_snoc (s : ByteArray) (vs : List Int) (v : Int) : rgT s (vs ++ [v]) = rgT s vs ++ ({ data := #[32, 114] } ++ itB v) := by unfold rgT; rw [List.foldl_append]; rfl
theorem rgT_size' : ∀ (vs : List Int) (s : ByteArray) (n : Nat), s.size ≤ n → (∀ v ∈ vs, -9223372036854775808 ≤ v ∧ v ≤ 9223372036854775807) → (rgT s vs).size ≤ n + 23 * vs.length := by
  intro vs
  induction vs with
  | nil => intro s n hs _; simpa [rgT] using hs
  | cons v vs ih =>
    intro s n hs h
    have e : rgT s (v :: vs) = rgT (s ++ ({ data := #[32, 114] } ++ itB v)) vs := rfl
    have h2 := itB_size v (h v (by simp)).1 (h v (by simp)).2
    have e1 : ({ data := #[32, 114] } : ByteArray).size = 2 := rfl
    have := ih (s ++ ({ data := #[32, 114] } ++ itB v)) (n + 23) (by rw [ByteArray.size_append, ByteArray.size_append]; omega) (fun x hx => h x (by simp [hx]))
    rw [e]
    simp only [List.length_cons]
    omega
theorem rgT_size (s : ByteArray) (hs : s.size ≤ 9) (vs : List Int) (h : ∀ v ∈ vs, -9223372036854775808 ≤ v ∧ v ≤ 9223372036854775807) : (rgT s vs).size ≤ 9 + 23 * vs.length := rgT_size' vs s 9 hs h
/-- an int -/
def I64 (n : Int) : Prop := -9223372036854775808 ≤ n ∧ n ≤ 9223372036854775807

set_option maxHeartbeats 1000000 in
set_option maxRecDepth 20000 in
theorem instruction_any (k : Nat) (h1 : 1 ≤ k) (h2 : k < 59) (a b c m : Int) (ha : I64 a) (hb : I64 b) (hc : I64 c) (hm : I64 m) (w : World) (hg : Glb w) :
    Calls Tryz.prog 31 #[.agg #[.int .i64 (k : Nat), .int .i64 a, .int .i64 b, .int .i64 c, .int .i64 m]] w fun e w' => e = .returned (.string (insT k a b c m)) ∧ Gr w w' := by
  have HG := hid hg
  have K1 := hid (Gr.alloc (Gr.refl w) #[.int .i64 (k : Nat), .int .i64 a, .int .i64 b, .int .i64 c, .int .i64 m] 67)
  have K2 := hid (Ch.alloc K1.out (.cells #[.int .i64 a, .int .i64 b, .int .i64 c] 122))
  have HNM := hid (name_yes k h1 h2 _ (hg.gr K1.out).nm)
  have HFM := hid (form_any k h1 h2 _ (hg.gr K1.out).n)
  have HND := hid (named_any (k : Nat))
  have HCL := hid (fun (W : World) (q : Glb W) => called_any (knd (k : Nat)) m hm.1 hm.2 W q)
  have HIT := hid (fun (n : Int) (hn : I64 n) (W : World) (q : Glb W) => itoa_any n hn.1 hn.2 W q)
  have hnl := nm_le k
  have hcs := cal_size (knd (k : Nat)) m hm.1 hm.2
  unfold insT
  obtain ⟨r, hr⟩ : ∃ r, r = fR (sh k) := ⟨_, rfl⟩
  obtain ⟨q, hq⟩ : ∃ q, q = fN (sh k) := ⟨_, rfl⟩
  have b1 : r ≤ 3 := by rw [hr]; unfold fR; split <;> omega
  have b2 : q ≤ 1 := by rw [hq]; unfold fN; split <;> omega
  rw [← hr, ← hq] at HFM ⊢
  obtain ⟨s0, hs0⟩ : ∃ s, s = nm k := ⟨_, rfl⟩
  rw [← hs0] at HNM hnl ⊢
  obtain ⟨CA, hCA⟩ : ∃ s, s = cal (knd (k : Nat)) m := ⟨_, rfl⟩
  rw [← hCA] at HCL hcs ⊢
  obtain ⟨KD, hKD⟩ : ∃ s, s = knd (k : Nat) := ⟨_, rfl⟩
  rw [← hKD] at HND HCL
  have HV := hid (show ∀ v ∈ [a, b, c], I64 v from fun v hv => by
    simp at hv
    rcases hv with rfl | rfl | rfl
    · exact ha
    · exact hb
    · exact hc)
  have HRS := hid (show ∀ j, j ≤ 3 → (rgT s0 ([a, b, c].take j)).size ≤ 78 from fun j hj => by
    have := rgT_size s0 hnl ([a, b, c].take j) (fun v hv => HV.out v (List.mem_of_mem_take hv))
    simp only [List.length_take, List.length_cons, List.length_nil] at this
    omega)
  have BA := hid (MapKept.heap_alloc (w.alloc (.cells #[.int .i64 (k : Nat), .int .i64 a, .int .i64 b, .int .i64 c, .int .i64 m] 67)) (.cells #[.int .i64 a, .int .i64 b, .int .i64 c] 122)).1
  have BB := hid (al_blk (MapKept.heap_alloc w (.cells #[.int .i64 (k : Nat), .int .i64 a, .int .i64 b, .int .i64 c, .int .i64 m] 67)).1 (.cells #[.int .i64 a, .int .i64 b, .int .i64 c] 122))
  have SZ := hid (show ((w.alloc (.cells #[.int .i64 (k : Nat), .int .i64 a, .int .i64 b, .int .i64 c, .int .i64 m] 67)).alloc (.cells #[.int .i64 a, .int .i64 b, .int .i64 c] 122)).heap.size = w.heap.size + 2 by simp)
  simp only [World.size_alloc] at BA
  clear hr hq hs0 hCA hKD hg ha hb hc hm
  go_enter Tryz.func31, Tryz.ntmps31
  go_wp2_with (first | (go_at_call 74; refine HNM.out.mono ?_; rintro e w1 ⟨rfl, hw⟩; have hw := hw.symm; subst hw) | (go_at_call 75; refine HFM.out.mono ?_; rintro e w1 ⟨rfl, hw⟩; have hw := hw.symm; subst hw))
  generalize (w.alloc (.cells #[.int .i64 (k : Nat), .int .i64 a, .int .i64 b, .int .i64 c, .int .i64 m] 67)).alloc (.cells #[.int .i64 a, .int .i64 b, .int .i64 c] 122) = W at K2 BA BB SZ ⊢
  go_loopg [3, 29] r (fun mm s i wq => ∃ j, j + mm = r ∧ i = .int .i64 ((j : Nat) : Int) ∧ s = .string (rgT s0 ([a, b, c].take j)) ∧ Gr W wq)
  case atStart => exact ⟨0, by omega, rfl, rfl, Gr.refl _⟩
  case round =>
    obtain ⟨j, hjk, rfl, rfl, hgr⟩ := hrel
    have HGW := hid hgr
    have BAr := hid (gr_blk BA.out hgr)
    have BBr := hid (gr_blk BB.out hgr)
    have HGR := hid (Gr.trans K2.out hgr)
    clear hgr
    by_cases hj : j < r
    · obtain ⟨v, hv⟩ : ∃ v, [a, b, c][j]? = some v := ⟨_, List.getElem?_eq_getElem (by simp; omega)⟩
      have hcv : wr.cell? ⟨w.heap.size + 1, j, none⟩ = some (.int .i64 v) := by
        rw [cell_of BAr.out]
        have e : (#[Value.int .i64 a, .int .i64 b, .int .i64 c] : Array Value)[j]? = ([a, b, c].map (Value.int .i64))[j]? := by simp
        rw [e, List.getElem?_map, hv]
        rfl
      have hI := HV.out v (List.mem_of_getElem? hv)
      have hiz := itB_size v hI.1 hI.2
      have HIv := hid (HIT.out v hI)
      have hrs := HRS.out j (by omega)
      have htk : rgT s0 ([a, b, c].take (j + 1)) = rgT s0 ([a, b, c].take j) ++ ({ data := #[32, 114] } ++ itB v) := by
        rw [List.take_add_one, hv]
        exact rgT_snoc _ _ _
      obtain ⟨IT, hIT⟩ : ∃ s, s = itB v := ⟨_, rfl⟩
      rw [← hIT] at hiz HIv htk
      obtain ⟨TX, hTX⟩ : ∃ s, s = rgT s0 ([a, b, c].take j) := ⟨_, rfl⟩
      rw [← hTX] at hrs htk ⊢
      have HTK := hid htk
      have j0 : (0 : Int) ≤ (j : Int) := by omega
      have j3 : (j : Int) < 3 := by omega
      clear hv hI hIT hTX htk
      go_wp2_with (go_at_call 76; refine (HIv.out _ (HG.out.gr HGR.out)).mono ?_; rintro e w2 ⟨rfl, g2⟩; have G2 := hid g2; clear g2)
      go_roundg (gk - 1)
      case measure => omega
      case rel => exact ⟨j + 1, by omega, by simp, by rw [HTK.out], Gr.trans HGW.out G2.out⟩
    · have hjr : j = r := by omega
      subst hjr
      have hrs := HRS.out j (by omega)
      obtain ⟨TX, hTX⟩ : ∃ s, s = rgT s0 ([a, b, c].take j) := ⟨_, rfl⟩
      rw [← hTX] at hrs ⊢
      rcases (by omega : q = 0 ∨ q = 1) with rfl | rfl
      · have e1 : (if (0 : Nat) = 1 then rgT s0 (List.take j [a, b, c]) ++ ({ data := #[32] } ++ CA) else rgT s0 (List.take j [a, b, c])) = TX := by rw [if_neg (by omega), hTX]
        have HTX := hid hTX
        have E1 := hid e1
        clear hTX e1
        go_wp2
        go_ret
        exact ⟨by first | (rw [E1.out]; rfl) | (rw [HTX.out]; rfl), HGR.out⟩
      · have e1 : (if (1 : Nat) = 1 then rgT s0 (List.take j [a, b, c]) ++ ({ data := #[32] } ++ CA) else rgT s0 (List.take j [a, b, c])) = TX ++ ({ data := #[32] } ++ CA) := by rw [if_pos rfl, hTX]
        have E1 := hid e1
        have HTX := hid hTX
        have x0 : wr.cell? ⟨w.heap.size, 0, none⟩ = some (.int .i64 (k : Nat)) := (cell_of BBr.out 0).trans rfl
        have x4 : wr.cell? ⟨w.heap.size, 4, none⟩ = some (.int .i64 m) := (cell_of BBr.out 4).trans rfl
        have lB := lt_of_block BBr.out
        have g1 : ¬ 9223372036854775807 < 1 + CA.size := by omega
        have g2 : ¬ 9223372036854775807 < TX.size + (1 + CA.size) := by omega
        clear hTX e1
        go_wp2_with fail
        have hS0 : (fun w' => w'.cell? ⟨w.heap.size, 0, none⟩ = some (.int .i64 (k : Nat)) ∧ w'.cell? ⟨w.heap.size, 4, none⟩ = some (.int .i64 m)) wr.drew := ⟨x0, x4⟩
        refine wp_region_held_drew (S := fun w' => w'.cell? ⟨w.heap.size, 0, none⟩ = some (.int .i64 (k : Nat)) ∧ w'.cell? ⟨w.heap.size, 4, none⟩ = some (.int .i64 m)) (by kernel_rfl) (by exact hS0) (fun hSx => ?_)
        clear hSx
        refine takeS_on (i := 0) 42 (v := ?v18) rfl rfl (by kernel_rfl) (by kernel_rfl) (by kernel_rfl) (fun _ _ _ h => h) (by kernel_rfl) ?hy18 (by exact hS0) ?_
        case hy18 => (intro w' hSw; go_simp; try (with_reducible rfl))
        simp only [Act.put, List.setIfInBounds_toArray, List.set_cons_zero, List.set_cons_succ]
        refine takeS_on (i := 1) 43 (v := ?v19) rfl rfl (by kernel_rfl) (by kernel_rfl) (by kernel_rfl) (fun _ _ _ h => h) (by kernel_rfl) ?hy19 (by exact hS0) ?_
        case hy19 => (intro w' hSw; go_simp; try (with_reducible rfl))
        simp only [Act.put, List.setIfInBounds_toArray, List.set_cons_zero, List.set_cons_succ]
        refine takeS_on (i := 2) 44 (v := ?v20) rfl rfl (by kernel_rfl) (by kernel_rfl) (by kernel_rfl) (fun _ _ _ h => h) (by kernel_rfl) ?hy20 (by exact hS0) ?_
        case hy20 => (intro w' hSw; go_simp; try (with_reducible rfl))
        simp only [Act.put, List.setIfInBounds_toArray, List.set_cons_zero, List.set_cons_succ]
        refine takeS_on (i := 4) 46 (v := ?v21) rfl rfl (by kernel_rfl) (by kernel_rfl) (by kernel_rfl) (fun _ _ _ h => h) (by kernel_rfl) ?hy21 (by exact hS0) ?_
        case hy21 => (intro w' hSw; go_simp; try (with_reducible rfl))
        simp only [Act.put, List.setIfInBounds_toArray, List.set_cons_zero, List.set_cons_succ]
        refine takeS_on (i := 5) 47 (v := ?v22) rfl rfl (by kernel_rfl) (by kernel_rfl) (by kernel_rfl) (fun _ _ _ h => h) (by kernel_rfl) ?hy22 (by exact hS0) ?_
        case hy22 => (intro w' hSw; go_simp; try (with_reducible rfl))
        simp only [Act.put, List.setIfInBounds_toArray, List.set_cons_zero, List.set_cons_succ]
        refine wpAnyH_ready (rs := [3]) (by kernel_rfl) (by simp) (AllReadyH.cons rfl (fun K hK => ?_) AllReadyH.nil)
        go_simp
        refine (HND.out _).mono ?_
        rintro e w4 ⟨rfl, hw4⟩
        have hw4 := hw4.symm
        subst hw4
        refine hK.out _ _ (by exact hS0) (fun hSx => ?_)
        clear hSx hK K
        refine wpAnyH_ready (rs := [6]) (by kernel_rfl) (by simp) (AllReadyH.cons rfl (fun K hK => ?_) AllReadyH.nil)
        go_simp
        refine (HCL.out _ (HG.out.gr (Gr.trans HGR.out (Ch.drew (Gr.refl wr))))).mono ?_
        rintro e w5 ⟨rfl, g5⟩
        have hS5 : (fun w' => w'.cell? ⟨w.heap.size, 0, none⟩ = some (.int .i64 (k : Nat)) ∧ w'.cell? ⟨w.heap.size, 4, none⟩ = some (.int .i64 m)) w5 := ⟨(Ch.cell g5 lB (noB _)).trans x0, (Ch.cell g5 lB (noB _)).trans x4⟩
        have K5 := hid (Gr.trans HGR.out (Gr.trans (Ch.drew (Gr.refl wr)) g5))
        clear g5
        refine hK.out _ _ (by exact hS5) (fun hSx => ?_)
        clear hSx hK K
        refine takeS_on (i := 7) 49 (v := ?v23) rfl rfl (by kernel_rfl) (by kernel_rfl) (by kernel_rfl) (fun _ _ _ h => h) (by kernel_rfl) ?hy23 (by exact hS5) ?_
        case hy23 => (intro w' hSw; go_simp; try (with_reducible rfl))
        simp only [Act.put, List.setIfInBounds_toArray, List.set_cons_zero, List.set_cons_succ]
        refine takeS_on (i := 8) 50 (v := ?v24) rfl rfl (by kernel_rfl) (by kernel_rfl) (by kernel_rfl) (fun _ _ _ h => h) (by kernel_rfl) ?hy24 (by exact hS5) ?_
        case hy24 => (intro w' hSw; go_simp; try (with_reducible rfl))
        simp only [Act.put, List.setIfInBounds_toArray, List.set_cons_zero, List.set_cons_succ]
        refine takeS_on (i := 9) 3 (v := ?v25) rfl rfl (by kernel_rfl) (by kernel_rfl) (by kernel_rfl) (fun _ _ _ h => h) (by kernel_rfl) ?hy25 (by exact hS5) ?_
        case hy25 => (intro w' hSw; go_simp; try (with_reducible rfl))
        simp only [Act.put, List.setIfInBounds_toArray, List.set_cons_zero, List.set_cons_succ]
        refine wpAnyH_done (by kernel_rfl) ?_ _
        clear hS0 hS5
        go_wp2
        go_ret
        exact ⟨by first | (rw [E1.out]; rfl) | (rw [HTX.out]; rfl), K5.out⟩
end Go.Proofs.YtbehlhnnfdkmaaaGreatDoor.Lt
