/-
  On how many Ps a domain can run at a place: the document's answer. Conditions: the table may be, the place is below the frame.
-/
import Derived.Test.YtbghagpjkkmhpabTbSlt
import Derived.Test.YtbghagpjkkmhpabTbOwn0
import Derived.Test.YtbghagpjkkmhpabTbMath
namespace Go.Proofs.Ytbghagpjkkmhpab.Lt
open Go.RowKit Wd
attribute [local go_sem ↓] Go.wp_at_zero Go.wp_at_succ
set_option maxRecDepth 20000

def rowR (F dm : Int) (i : Nat) (l : List Sl) : Int := (slt F l i).elim 0 fun x => if x.d = dm ∧ (i : Int) < x.s + x.l - x.p then 1 else 0
theorem rowR_bd (F dm : Int) (i : Nat) (l : List Sl) : 0 ≤ rowR F dm i l ∧ rowR F dm i l ≤ 1 := by
  unfold rowR
  cases slt F l i with
  | none => exact ⟨Int.le_refl _, (by decide : (0 : Int) ≤ 1)⟩
  | some x => show 0 ≤ (if _ then (1 : Int) else 0) ∧ (if _ then (1 : Int) else 0) ≤ 1; split <;> decide
set_option maxHeartbeats 4000000 in
theorem runs_any (w : World) (a : Option Addr) (n c : Nat) (L : List (List Sl)) (h : Rw w (.slice a n c) L) (F dm : Int) (hg : Good F L) (i : Nat) (hi : (i : Int) < F) :
    Calls Try.prog 40 #[.agg #[.int .u64 F, .slice a n c], .int .i64 dm, .int .u64 (i : Int)] w fun e w' => e = .returned (.int .u64 (crw L dm i)) ∧ Gr w w' := by
  obtain ⟨A, hA⟩ : ∃ A, A = w.alloc (.cells #[.int .u64 F, .slice a n c] 25) := ⟨_, rfl⟩
  have HBX := hide (show ∀ W, Gr A W → _ from fun W g => box2 (by rw [hA] at g; exact g))
  have hf2 := hg.f2
  have HCS := hide (fun W (g : Gr w W) => fun P l hl => slot_any W a n c L (h.gr g) F (i : Int) hg ⟨by omega, by omega⟩ P l hl)
  have HL := hide h.len
  have hn64 : n ≤ 64 := by rw [h.len]; exact hg.n2
  obtain ⟨R, hR⟩ : ∃ R, R = crw L dm i := ⟨_, rfl⟩
  rw [← hR]
  have HR := hide (show 0 + ls (L.drop 0) (rowR F dm i) = R by rw [hR, Int.zero_add]; exact run_at hg dm i hi)
  have HRB := hide (show R ≤ 64 by rw [hR]; exact (crw_bd hg dm i hi).2)
  have HG := hide hg
  clear h hg hR
  go_enter Try.func40, Try.ntmps40
  go_wp2_with fail
  rw [← hA]
  clear hA
  go_loopg [7, 8] n (fun k nv iv wr => ∃ (j : Nat) (s : Int), j + k = n ∧ iv = .int .i64 (j : Int) ∧ nv = .int .u64 s ∧ 0 ≤ s ∧ s + ls (L.drop j) (rowR F dm i) = R ∧ Gr A wr)
  case atStart => exact ⟨0, 0, by omega, rfl, rfl, Int.le_refl _, HR.out, Gr.refl _⟩
  case round =>
    obtain ⟨j, s, hjk, rfl, rfl, hs0, hr, hg⟩ := hrel
    obtain ⟨V, hV⟩ : ∃ W, W = wr := ⟨_, rfl⟩
    subst hV
    have G := hide hg
    have HH := hide hr
    have hs1 : s ≤ 64 := by
      have k1 : 0 ≤ ls (L.drop j) (rowR F dm i) := ls_nonneg fun l _ => (rowR_bd F dm i l).1
      have := HRB.out
      omega
    obtain ⟨b0, b1, bb, gw⟩ := HBX.out _ hg
    clear hr
    by_cases hj : j < n
    · have hj' : (j : Int) < (n : Int) := by omega
      have hjl : j < L.length := by rw [← HL.out]; exact hj
      have hjx : L[j]? = some L[j] := List.getElem?_eq_getElem hjl
      have hd : L.drop j = L[j] :: L.drop (j + 1) := List.drop_eq_getElem_cons hjl
      have hlm : L[j] ∈ L := List.getElem_mem hjl
      generalize L[j] = l at hjx hd hlm
      have CS := HCS.out V gw j l hjx
      have HN := hide (show s + rowR F dm i l + ls (L.drop (j + 1)) (rowR F dm i) = R by rw [← HH.out, hd, ls_cons]; omega)
      clear hjx hd hg
      cases hs : slt F l (i : Int) with
      | none =>
        have HF := hide (show s + ls (L.drop (j + 1)) (rowR F dm i) = R by
          have k := HN.out
          have e : rowR F dm i l = 0 := by unfold rowR; rw [hs]; rfl
          omega)
        rw [hs, slotE_none] at CS
        clear hs
        go_wp2_with fail
        refine CS.mono ?_
        rintro e w1 ⟨rfl, g1⟩
        have G1 := hide (Gr.trans G.out g1)
        clear g1
        go_wp2
        go_roundg (gk - 1)
        case measure => omega
        case rel =>
          refine ⟨j + 1, s, by omega, ?_, rfl, by omega, HF.out, Ch.alloc G1.out _⟩
          first | with_reducible rfl | simp
      | some x =>
        rw [hs, slotE_some] at CS
        obtain ⟨q1, q2, q3⟩ := slt_mem hs
        obtain ⟨⟨k1, k2, k3⟩, _, _, k0⟩ := HG.out.slot l hlm x q1
        have kp := (HG.out.rg l hlm x q1).2.2.2.1
        have k4 : x.s + x.l ≤ 65536 := by omega
        have k5 : 0 ≤ x.s + x.l - x.p := by omega
        have k6 : x.s + x.l - x.p ≤ 65536 := by omega
        have k7 : 0 ≤ x.s + x.l := by omega
        have HV := hide (show rowR F dm i l = if x.d = dm ∧ (i : Int) < x.s + x.l - x.p then 1 else 0 by unfold rowR; rw [hs]; rfl)
        by_cases hdm : x.d = dm
        · have hdb : (x.d == dm) = true := by simpa using hdm
          by_cases hlt : (i : Int) < x.s + x.l - x.p
          · have HF := hide (show s + 1 + ls (L.drop (j + 1)) (rowR F dm i) = R by
              have k := HN.out
              rw [HV.out, if_pos ⟨hdm, hlt⟩] at k
              exact k)
            clear hs q1 q2 q3 hdm
            go_wp2_with fail
            refine CS.mono ?_
            rintro e w1 ⟨rfl, g1⟩
            have G1 := hide (Gr.trans G.out g1)
            clear g1
            go_wp2
            go_roundg (gk - 1)
            case measure => omega
            case rel =>
              refine ⟨j + 1, s + 1, by omega, ?_, rfl, by omega, HF.out, Ch.alloc G1.out _⟩
              first | with_reducible rfl | simp
          · have HF := hide (show s + ls (L.drop (j + 1)) (rowR F dm i) = R by
              have k := HN.out
              rw [HV.out, if_neg (fun q => hlt q.2)] at k
              omega)
            clear hs q1 q2 q3 hdm
            go_wp2_with fail
            refine CS.mono ?_
            rintro e w1 ⟨rfl, g1⟩
            have G1 := hide (Gr.trans G.out g1)
            clear g1
            go_wp2
            go_roundg (gk - 1)
            case measure => omega
            case rel =>
              refine ⟨j + 1, s, by omega, ?_, rfl, by omega, HF.out, Ch.alloc G1.out _⟩
              first | with_reducible rfl | simp
        · have hdb : (x.d == dm) = false := by simpa using hdm
          have HF := hide (show s + ls (L.drop (j + 1)) (rowR F dm i) = R by
            have k := HN.out
            rw [HV.out, if_neg (fun q => hdm q.1)] at k
            omega)
          clear hs q1 q2 q3 hdm
          go_wp2_with fail
          refine CS.mono ?_
          rintro e w1 ⟨rfl, g1⟩
          have G1 := hide (Gr.trans G.out g1)
          clear g1
          go_wp2
          go_roundg (gk - 1)
          case measure => omega
          case rel =>
            refine ⟨j + 1, s, by omega, ?_, rfl, by omega, HF.out, Ch.alloc G1.out _⟩
            first | with_reducible rfl | simp
    · have hj' : ¬ ((j : Int) < (n : Int)) := by omega
      have HF := hide (show s = R by
        have e : L.drop j = [] := List.drop_of_length_le (by rw [← HL.out]; omega)
        have k := HH.out
        rw [e, ls_nil] at k
        omega)
      have GW := hide gw
      clear hg gw
      go_wp2
      go_ret
      exact ⟨by rw [HF.out]; rfl, GW.out⟩
end Go.Proofs.Ytbghagpjkkmhpab.Lt
