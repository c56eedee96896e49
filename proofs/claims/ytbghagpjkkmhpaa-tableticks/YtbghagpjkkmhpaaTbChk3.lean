/-
  What Check tells of a table: the program's answer. Condition: the numbers are of their types.
-/
import Derived.Test.YtbghagpjkkmhpaaTbChk2
namespace Go.Proofs.Ytbghagpjkkmhpaa.Lt
open Go.RowKit Wd
attribute [local go_sem ↓] Go.wp_at_zero Go.wp_at_succ
set_option maxRecDepth 20000

/-- what Check tells, as its answer -/
def chkV (R : Nat × Nat × Int) : Ending := .returned (.tuple #[.int .i64 (R.1 : Nat), .int .i64 (R.2.1 : Nat), .int .i64 R.2.2])
set_option maxHeartbeats 4000000 in
theorem check_any (w : World) (a : Option Addr) (n c : Nat) (L : List (List Sl)) (h : Rw w (.slice a n c) L) (hx : Rgs L) (F dm : Int) (hF : Tk.U F) :
    Calls Try.prog 9 #[.agg #[.int .u64 F, .slice a n c], .int .i64 dm] w fun e w' => e = chkV (chk F L dm) ∧ Gr w w' := by
  have HX := hide (show ∀ W, Gr w W → Rw W (.slice a n c) L from fun W g => h.gr g)
  have HL := hide h.len
  have HRG := hide hx
  have HF := hide hF
  obtain ⟨R, hR⟩ : ∃ R, R = chk F L dm := ⟨_, rfl⟩
  rw [← hR]
  unfold chk at hR
  by_cases hd1 : dm < 1
  · rw [if_pos (.inl hd1)] at hR
    have HR := hide hR
    clear hR h hx hF
    go_enter Try.func9, Try.ntmps9
    go_wp2
    go_ret3
    exact ⟨by rw [HR.out]; rfl, Ch.alloc (Gr.refl _) _⟩
  by_cases hd2 : 16 < dm
  · rw [if_pos (.inr hd2)] at hR
    have HR := hide hR
    clear hR h hx hF
    go_enter Try.func9, Try.ntmps9
    go_wp2
    go_ret3
    exact ⟨by rw [HR.out]; rfl, Ch.alloc (Gr.refl _) _⟩
  rw [if_neg (fun q => q.elim hd1 hd2)] at hR
  by_cases hf1 : F < 1
  · rw [if_pos (.inl hf1)] at hR
    have HR := hide hR
    clear hR h hx hF
    go_enter Try.func9, Try.ntmps9
    go_wp2
    go_ret3
    exact ⟨by rw [HR.out]; rfl, Ch.alloc (Gr.refl _) _⟩
  by_cases hf2 : 65536 < F
  · rw [if_pos (.inr (.inl hf2))] at hR
    have HR := hide hR
    clear hR h hx hF
    go_enter Try.func9, Try.ntmps9
    go_wp2
    go_ret3
    exact ⟨by rw [HR.out]; rfl, Ch.alloc (Gr.refl _) _⟩
  by_cases hn1 : n < 1
  · rw [if_pos (.inr (.inr (.inl (by rw [← HL.out]; exact hn1))))] at hR
    have HR := hide hR
    have hn1' : (n : Int) < 1 := by omega
    clear hR h hx hF
    go_enter Try.func9, Try.ntmps9
    go_wp2
    go_ret3
    exact ⟨by rw [HR.out]; rfl, Ch.alloc (Gr.refl _) _⟩
  by_cases hn2 : 64 < n
  · rw [if_pos (.inr (.inr (.inr (by rw [← HL.out]; exact hn2))))] at hR
    have HR := hide hR
    have hn2' : (64 : Int) < (n : Int) := by omega
    have hn1' : ¬ (n : Int) < 1 := by omega
    clear hR h hx hF
    go_enter Try.func9, Try.ntmps9
    go_wp2
    go_ret3
    exact ⟨by rw [HR.out]; rfl, Ch.alloc (Gr.refl _) _⟩
  rw [if_neg (fun q => q.elim hf1 (fun q => q.elim hf2 (fun q => by rw [← HL.out] at q; exact q.elim hn1 hn2)))] at hR
  have HR := hide hR
  have hn1' : ¬ (n : Int) < 1 := by omega
  have hn2' : ¬ (64 : Int) < (n : Int) := by omega
  have hn3 : n ≤ 64 := by omega
  clear hR h hx hF
  go_enter Try.func9, Try.ntmps9
  go_wp2_with fail
  go_loopg [40] n (fun k i wr => ∃ (j : Nat), j + k = n ∧ i = .int .i64 (j : Int) ∧ R = chL F dm j (L.drop j) ∧ Gr (w.alloc (.cells #[.int .u64 F, .slice a n c] 25)) wr)
  case atStart => exact ⟨0, by omega, rfl, HR.out, Gr.refl _⟩
  case round =>
    obtain ⟨j, hjk, rfl, hr, hg⟩ := hrel
    obtain ⟨V, hV⟩ : ∃ W, W = wr := ⟨_, rfl⟩
    subst hV
    have G := hide hg
    have HH := hide hr
    clear hr
    obtain ⟨b0, b1, bb, gw⟩ := box2 hg
    by_cases hj : j < n
    · have hj' : (j : Int) < (n : Int) := by omega
      have hjl : j < L.length := by rw [← HL.out]; exact hj
      have hjx : L[j]? = some L[j] := List.getElem?_eq_getElem hjl
      have hd : L.drop j = L[j] :: L.drop (j + 1) := List.drop_eq_getElem_cons hjl
      have hrg : ∀ x ∈ L[j], x.rg := HRG.out L[j] (List.getElem_mem hjl)
      generalize L[j] = l at hjx hd hrg
      have HD := hide hd
      have HRx := hide hrg
      obtain ⟨g, o, al, cl, e1, hgl, hcap, c0, hls⟩ := (HX.out _ gw).at hjx
      subst e1
      clear hjx hd hg hrg
      have HS := hide hls
      clear hls
      by_cases h0 : (chQ F dm l).2 = 0
      · have HE := hide h0
        have HF' := hide (show R = chL F dm (j + 1) (L.drop (j + 1)) by rw [HH.out, HD.out, chL_go h0])
        clear h0
        go_wp2_with fail
        refine (chkslots_any _ al l.length cl l HS.out HRx.out F dm HF.out (by omega)).mono ?_
        rintro e w1 ⟨rfl, g1⟩
        rw [HE.out]
        have G1 := hide (Gr.trans G.out g1)
        go_wp2
        go_roundg (gk - 1)
        case measure => omega
        case rel =>
          refine ⟨j + 1, by omega, ?_, HF'.out, G1.out⟩
          first | with_reducible rfl | simp
      · have hne : ((chQ F dm l).2 != 0) = true := by simpa using h0
        have HF' := hide (show R = (j, (chQ F dm l).1, (chQ F dm l).2) by rw [HH.out, HD.out, chL_no h0])
        clear h0
        go_wp2_with fail
        refine (chkslots_any _ al l.length cl l HS.out HRx.out F dm HF.out (by omega)).mono ?_
        rintro e w1 ⟨rfl, g1⟩
        have G1 := hide (Gr.trans G.out g1)
        go_wp2
        go_ret3
        exact ⟨by rw [HF'.out]; rfl, (box2 G1.out).2.2.2⟩
    · have hj' : ¬ ((j : Int) < (n : Int)) := by omega
      have HF' := hide (show R = (0, 0, 0) by rw [HH.out, List.drop_of_length_le (by rw [← HL.out]; omega)]; rfl)
      clear hg
      go_wp2
      go_ret3
      exact ⟨by rw [HF'.out]; rfl, gw⟩
theorem wrong_any (w : World) (a : Option Addr) (n c : Nat) (L : List (List Sl)) (h : Rw w (.slice a n c) L) (hx : Rgs L) (F : Int) (hF : Tk.U F) :
    Calls Try.prog 51 #[.agg #[.int .u64 F, .slice a n c]] w fun e w' => e = .returned (.int .i64 (chk F L 16).2.2) ∧ Gr w w' := by
  have C := check_any _ a n c L (h.gr (Ch.alloc (Gr.refl w) (.cells #[.int .u64 F, .slice a n c] 25))) hx F 16 hF
  unfold chkV at C
  generalize chk F L 16 = R at C
  clear h hx hF
  go_enter Try.func51, Try.ntmps51
  go_wp2_with fail
  refine C.mono ?_
  rintro e w1 ⟨rfl, g1⟩
  obtain ⟨c0, c1, cb, gw⟩ := box2 g1
  go_wp2
  go_ret
  exact ⟨rfl, gw⟩
end Go.Proofs.Ytbghagpjkkmhpaa.Lt
