/-
  What Has answers: the document. Condition: the numbers are of their types.
-/
import Derived.Test.YtbghagpjkkmhpaaTbSlt
import Derived.Test.YtbghagpjkkmhpaaTbOwn0
import Derived.Test.YtbghagpjkkmhpaaTbHas
namespace Go.Proofs.Ytbghagpjkkmhpaa.Lt
open Go.RowKit Wd
attribute [local go_sem ↓] Go.wp_at_zero Go.wp_at_succ
set_option maxRecDepth 20000

theorem hasL_go {F t dm : Int} {j : Nat} {l : List Sl} {r : List (List Sl)} : hasL F t dm j (l :: r) = (if hasB F t dm l = true then [j] else []) ++ hasL F t dm (j + 1) r := rfl
def toI (xs : List Nat) : List Int := xs.map fun p : Nat => (p : Int)
theorem toI_app (a b : List Nat) : toI (a ++ b) = toI a ++ toI b := List.map_append
set_option maxHeartbeats 8000000 in
theorem rhas0_any (w : World) (a : Option Addr) (n c : Nat) (L : List (List Sl)) (h : Rw w (.slice a n c) L) (F t dm : Int) (hg : Good F L) (ht : Tk.U t) :
    Calls Try.prog 40 #[.agg #[.int .u64 F, .slice a n c], .int .u64 t, .int .i64 dm] w fun e w' => ∃ ao cap, e = .returned (.slice ao (toI (hasP F L t dm)).length cap) ∧ Ls eI (w.heap.size ≤ ·) w' (.slice ao (toI (hasP F L t dm)).length cap) (toI (hasP F L t dm)) ∧ Gr w w' := by
  obtain ⟨A, hA⟩ : ∃ A, A = w.alloc (.cells #[.int .u64 F, .slice a n c] 25) := ⟨_, rfl⟩
  have HBX := hide (show ∀ W, Gr A W → _ from fun W g => box2 (by rw [hA] at g; exact g))
  have HSZ := hide (show A.heap.size = w.heap.size + 1 by rw [hA]; simp)
  have HCS := hide (fun W (g : Gr w W) => fun P l hl => slot_any W a n c L (h.gr g) F t hg ht P l hl)
  have HL := hide h.len
  have hn64 : n ≤ 64 := by rw [h.len]; exact hg.n2
  obtain ⟨R, hR⟩ : ∃ R, R = toI (hasP F L t dm) := ⟨_, rfl⟩
  rw [← hR]
  have HR := hide (show toI [] ++ toI (hasL F t dm 0 (L.drop 0)) = R by rw [hR]; rfl)
  have HRL := hide (show R.length ≤ 64 by rw [hR]; unfold toI; rw [List.length_map]; have := hasP_len (F := F) (t := t) (dm := dm) (L := L); have := hg.n2; omega)
  clear h hg ht hR
  go_enter Try.func40, Try.ntmps40
  go_wp2_with fail
  rw [← hA]
  clear hA
  go_loopg [7, 8] n (fun k lv i wr => ∃ (j : Nat) (zs : List Int), j + k = n ∧ i = .int .i64 (j : Int) ∧ Ow eI 1 3 (w.heap.size + 1) wr lv zs ∧ zs ++ toI (hasL F t dm j (L.drop j)) = R ∧ Gr A wr)
  case atStart => exact ⟨0, [], by omega, rfl, Ow.nil _ _ _ _ _, HR.out, Gr.refl _⟩
  case round =>
    obtain ⟨j, zs, hjk, rfl, ho, hr, hg⟩ := hrel
    obtain ⟨V, hV⟩ : ∃ W, W = wr := ⟨_, rfl⟩
    subst hV
    obtain ⟨ao, cap, rfl⟩ := ho.form
    have G := hide hg
    have HH := hide hr
    have HO := hide ho
    have HZ := hide (show zs.length ≤ 64 by have := congrArg List.length hr; rw [List.length_append] at this; have := HRL.out; omega)
    obtain ⟨b0, b1, bb, gw⟩ := HBX.out _ hg
    clear hr ho
    by_cases hj : j < n
    · have hj' : (j : Int) < (n : Int) := by omega
      have hjl : j < L.length := by rw [← HL.out]; exact hj
      have hjx : L[j]? = some L[j] := List.getElem?_eq_getElem hjl
      have hd : L.drop j = L[j] :: L.drop (j + 1) := List.drop_eq_getElem_cons hjl
      generalize L[j] = l at hjx hd
      have HD := hide hd
      have CS := HCS.out V gw j l hjx
      clear hjx hd hg
      have HB := hide (show hasB F t dm l = (slt F l t).elim false (fun x => decide (x.d = dm)) from rfl)
      cases hs : slt F l t with
      | none =>
        have hb : hasB F t dm l = false := by rw [HB.out, hs]; rfl
        have HF := hide (show zs ++ toI (hasL F t dm (j + 1) (L.drop (j + 1))) = R by rw [← HH.out, HD.out, hasL_go, hb]; rfl)
        rw [hs, slotE_none] at CS
        clear hs hb
        go_wp2_with fail
        refine CS.mono ?_
        rintro e w1 ⟨rfl, g1⟩
        have G1 := hide g1
        clear g1
        go_wp2
        go_roundg (gk - 1)
        case measure => omega
        case rel =>
          refine ⟨j + 1, zs, by omega, ?_, (HO.out.gr G1.out).alloc _, HF.out, Ch.alloc (Gr.trans G.out G1.out) _⟩
          first | with_reducible rfl | simp
      | some x =>
        rw [hs, slotE_some] at CS
        by_cases hdm : x.d = dm
        · have hb : hasB F t dm l = true := by rw [HB.out, hs]; simp [hdm]
          have HF := hide (show (zs ++ [(j : Int)]) ++ toI (hasL F t dm (j + 1) (L.drop (j + 1))) = R by rw [← HH.out, HD.out, hasL_go, hb, if_pos rfl, toI_app, List.append_assoc]; rfl)
          have hdb : (x.d == dm) = true := by simpa using hdm
          clear hs hb hdm
          go_wp2_with fail
          refine CS.mono ?_
          rintro e w1 ⟨rfl, g1⟩
          have G1 := hide g1
          have O1 := hide (show Ow eI 1 3 (w.heap.size + 1) (w1.alloc (.cells #[.int .i64 x.d, .int .u64 x.s, .int .u64 x.l, .int .u64 x.p] 54)) (.slice ao zs.length cap) zs from (HO.out.gr G1.out).alloc _)
          have GA := hide (show Gr A (w1.alloc (.cells #[.int .i64 x.d, .int .u64 x.s, .int .u64 x.l, .int .u64 x.p] 54)) from Ch.alloc (Gr.trans G.out G1.out) _)
          have S1 := hide (show w.heap.size + 1 ≤ (w1.alloc (.cells #[.int .i64 x.d, .int .u64 x.s, .int .u64 x.l, .int .u64 x.p] 54)).heap.size by have := GA.out.size; have := HSZ.out; omega)
          clear g1
          go_wp2_with (at_builtin; refine wpList_append_ow eI_len rfl (.tmp 32) (.tmp 34) _ 3 8 _ Try.underlying40 int_info rfl (by omega) rfl (w.heap.size + 1) _ zs rfl (O1.out.alloc _) _ _ [(j : Int)] rfl (ls_at _ (j : Int) 3 #[.int .i64 (j : Int)] (w1.heap.size + 1) (by simp) rfl) (eI_one _) (zs.length + 1) (by simp) (by have := HZ.out; omega) (by unfold maxLen; have := HZ.out; omega) (by have h1 := S1.out; simp at h1 ⊢; omega) (zs ++ [(j : Int)]) rfl ?_; intro ao5 cap5 w5 ow5 cw5 bl5; have O5 := hide ow5; have C5 := hide (show Gr A w5 from Ch.trans (Gr.trans GA.out (Ch.alloc (Gr.refl (w1.alloc (.cells #[.int .i64 x.d, .int .u64 x.s, .int .u64 x.l, .int .u64 x.p] 54))) (.cells #[.int .i64 (j : Int)] 3))) cw5 (fun q hq => .inr (by have := (O1.out.blk hq).1; have := HSZ.out; omega))); clear ow5 cw5 bl5)
          go_roundg (gk - 1)
          case measure => omega
          case rel =>
            refine ⟨j + 1, zs ++ [(j : Int)], by omega, ?_, O5.out, HF.out, C5.out⟩
            first | with_reducible rfl | simp
        · have hb : hasB F t dm l = false := by rw [HB.out, hs]; simp [hdm]
          have HF := hide (show zs ++ toI (hasL F t dm (j + 1) (L.drop (j + 1))) = R by rw [← HH.out, HD.out, hasL_go, hb]; rfl)
          have hdb : (x.d == dm) = false := by simpa using hdm
          clear hs hb hdm
          go_wp2_with fail
          refine CS.mono ?_
          rintro e w1 ⟨rfl, g1⟩
          have G1 := hide g1
          clear g1
          go_wp2
          go_roundg (gk - 1)
          case measure => omega
          case rel =>
            refine ⟨j + 1, zs, by omega, ?_, (HO.out.gr G1.out).alloc _, HF.out, Ch.alloc (Gr.trans G.out G1.out) _⟩
            first | with_reducible rfl | simp
    · have hj' : ¬ ((j : Int) < (n : Int)) := by omega
      have HF := hide (show zs = R by
        have e : L.drop j = [] := List.drop_of_length_le (by rw [← HL.out]; omega)
        rw [← HH.out, e]
        exact (List.append_nil _).symm)
      have GW := hide gw
      clear hg gw
      go_wp2
      go_ret
      exact ⟨ao, cap, by rw [HF.out]; rfl, by rw [← HF.out]; exact HO.out.lst.mono (fun _ _ h => by omega), GW.out⟩
set_option maxHeartbeats 4000000 in
theorem rhas_any (w : World) (a : Option Addr) (n c : Nat) (L : List (List Sl)) (h : Rw w (.slice a n c) L) (hx : Rgs L) (F t dm : Int) (hF : Tk.U F) (ht : Tk.U t) :
    Calls Try.prog 19 #[.agg #[.int .u64 F, .slice a n c], .int .u64 t, .int .i64 dm] w fun e w' => NumR w (hasI F L t dm) (lkE F L dm 16) e w' := by
  have CL := look_any _ a n c L (h.gr (Ch.alloc (Gr.refl w) (.cells #[.int .u64 F, .slice a n c] 25))) hx F dm 16 hF
  by_cases h0 : lkE F L dm 16 = 0
  · obtain ⟨hg, -, -, -⟩ := lkE_ok hx h0
    have HI := hide (show hasI F L t dm = toI (hasP F L t dm) from if_pos h0)
    have CH := hide (fun W (g : Gr w W) => rhas0_any W a n c L (h.gr g) F t dm hg ht)
    rw [h0] at CL ⊢
    rw [HI.out]
    generalize toI (hasP F L t dm) = R at CH ⊢
    clear h hx hF ht h0 hg HI
    go_enter Try.func19, Try.ntmps19
    go_wp2_with fail
    refine CL.mono ?_
    rintro e w1 ⟨rfl, g1⟩
    obtain ⟨b0, b1, bb, gw⟩ := box2 g1
    have GW := hide gw
    clear g1
    go_wp2_with fail
    refine (CH.out _ GW.out).mono ?_
    rintro e w2 ⟨ao, cap, rfl, l2, g2⟩
    have L2 := hide l2
    have G2 := hide (Gr.trans GW.out g2)
    clear g2 l2
    go_wp2
    go_ret2
    exact ⟨ao, cap, rfl, L2.out.mono (fun _ _ h => Nat.le_trans GW.out.size h), G2.out⟩
  · have HI := hide (show hasI F L t dm = [] from if_neg h0)
    rw [HI.out]
    generalize lkE F L dm 16 = E at CL h0 ⊢
    have hne : (E != 0) = true := by simpa using h0
    clear h hx hF ht h0 HI
    go_enter Try.func19, Try.ntmps19
    go_wp2_with fail
    refine CL.mono ?_
    rintro e w1 ⟨rfl, g1⟩
    obtain ⟨b0, b1, bb, gw⟩ := box2 g1
    have GW := hide gw
    clear g1 gw
    go_wp2
    go_ret2
    exact ⟨none, 0, rfl, Ls.nil _ _ _, GW.out⟩
end Go.Proofs.Ytbghagpjkkmhpaa.Lt
