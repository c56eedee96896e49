/-
  What Check and its parts tell of a table: the program's answer. Condition: the numbers are of their types.
-/
import Derived.Test.YtbghagpjkkmhpaaTbChk1
namespace Go.Proofs.Ytbghagpjkkmhpaa.Lt
open Go.RowKit Wd
attribute [local go_sem ↓] Go.wp_at_zero Go.wp_at_succ
set_option maxRecDepth 20000

theorem chS_go {F dm en : Int} {i : Nat} {x : Sl} {r : List Sl} (h : slE F dm en x = 0) : chS F dm en i (x :: r) = chS F dm (x.s + x.l) (i + 1) r := by
  show (if _ then _ else _) = _
  rw [if_pos h]
theorem chS_no {F dm en : Int} {i : Nat} {x : Sl} {r : List Sl} (h : slE F dm en x ≠ 0) : chS F dm en i (x :: r) = (i, slE F dm en x) := by
  show (if _ then _ else _) = _
  rw [if_neg h]
theorem chL_go {F dm : Int} {i : Nat} {l : List Sl} {r : List (List Sl)} (h : (chQ F dm l).2 = 0) : chL F dm i (l :: r) = chL F dm (i + 1) r := by
  show (if _ then _ else _) = _
  rw [if_pos h]
theorem chL_no {F dm : Int} {i : Nat} {l : List Sl} {r : List (List Sl)} (h : (chQ F dm l).2 ≠ 0) : chL F dm i (l :: r) = (i, (chQ F dm l).1, (chQ F dm l).2) := by
  show (if _ then _ else _) = _
  rw [if_neg h]
set_option maxHeartbeats 4000000 in
theorem chkslots_any (w : World) (a : Option Addr) (n c : Nat) (l : List Sl) (h : Ls eS AnyB w (.slice a n c) l) (hx : ∀ x ∈ l, x.rg) (F dm : Int) (hF : Tk.U F) (hF2 : F ≤ 65536) :
    Calls Try.prog 29 #[.slice a n c, .int .u64 F, .int .i64 dm] w fun e w' => e = .returned (.tuple #[.int .i64 ((chQ F dm l).1 : Nat), .int .i64 (chQ F dm l).2]) ∧ Gr w w' := by
  have HX := hide (show ∀ W, Gr w W → Ls eS AnyB W (.slice a n c) l from fun W g => h.gr g)
  have HL := hide h.len.1
  have HRG := hide hx
  have HF := hide hF
  obtain ⟨R, hR⟩ : ∃ R, R = chQ F dm l := ⟨_, rfl⟩
  rw [← hR]
  by_cases hn : 1024 < n
  · have HR := hide (show R = (0, 2) by rw [hR]; unfold chQ; rw [if_pos (by rw [← HL.out]; exact hn)])
    have hn' : (1024 : Int) < (n : Int) := by omega
    clear hR h hx hF
    go_enter Try.func29, Try.ntmps29
    go_wp2
    go_ret2
    exact ⟨by rw [HR.out]; rfl, Gr.refl _⟩
  · have HR := hide (show R = chS F dm 0 0 l by rw [hR]; unfold chQ; rw [if_neg (by rw [← HL.out]; exact hn)])
    have hn' : ¬ (1024 : Int) < (n : Int) := by omega
    have hn2 : n ≤ 1024 := by omega
    clear hR h hx hF
    go_enter Try.func29, Try.ntmps29
    go_wp2_with fail
    go_loopg [8, 17] n (fun k ev i wr => ∃ (j : Nat) (en : Int), j + k = n ∧ i = .int .i64 (j : Int) ∧ ev = .int .u64 en ∧ R = chS F dm en j (l.drop j) ∧ Gr w wr)
    case atStart => exact ⟨0, 0, by omega, rfl, rfl, HR.out, Gr.refl _⟩
    case round =>
      obtain ⟨j, en, hjk, rfl, rfl, hr, hg⟩ := hrel
      obtain ⟨V, hV⟩ : ∃ W, W = wr := ⟨_, rfl⟩
      subst hV
      have G := hide hg
      have HH := hide hr
      clear hr
      by_cases hj : j < n
      · have hj' : (j : Int) < (n : Int) := by omega
        have hjl : j < l.length := by rw [← HL.out]; exact hj
        have hjx : l[j]? = some l[j] := List.getElem?_eq_getElem hjl
        have hd : l.drop j = l[j] :: l.drop (j + 1) := List.drop_eq_getElem_cons hjl
        have hrg := HRG.out l[j] (List.getElem_mem hjl)
        generalize l[j] = x at hjx hd hrg
        have HD := hide hd
        have HRx := hide hrg
        obtain ⟨g, o, e1, hgl, hcap, c0, c1, c2, c3⟩ := slot_at (HX.out _ hg) hjx
        subst e1
        clear hjx hd hg hrg
        have C := chkslot_any x HRx.out F dm en HF.out
        by_cases h0 : slE F dm en x = 0
        · have HE := hide h0
          have HF' := hide (show R = chS F dm (x.s + x.l) (j + 1) (l.drop (j + 1)) by rw [HH.out, HD.out, chS_go h0])
          obtain ⟨⟨k1, k2, k3⟩, _, _, _⟩ := slE_ok h0
          have k0 : 0 ≤ x.s := HRx.out.2.1.1
          have k4 : x.s + x.l ≤ 65536 := by omega
          clear h0
          go_wp2_with fail
          refine (C _).mono ?_
          rintro e w1 ⟨rfl, g1⟩
          rw [HE.out]
          obtain ⟨d0, d1, d2, d3, db, gw⟩ := box4 g1
          go_wp2
          go_roundg (gk - 1)
          case measure => omega
          case rel =>
            refine ⟨j + 1, x.s + x.l, by omega, ?_, rfl, HF'.out, Gr.trans G.out gw⟩
            first | with_reducible rfl | simp
        · have hne : (slE F dm en x != 0) = true := by simpa using h0
          have HF' := hide (show R = (j, slE F dm en x) by rw [HH.out, HD.out, chS_no h0])
          clear h0
          go_wp2_with fail
          refine (C _).mono ?_
          rintro e w1 ⟨rfl, g1⟩
          obtain ⟨d0, d1, d2, d3, db, gw⟩ := box4 g1
          go_wp2
          go_ret2
          exact ⟨by rw [HF'.out]; rfl, Gr.trans G.out gw⟩
      · have hj' : ¬ ((j : Int) < (n : Int)) := by omega
        have HF' := hide (show R = (0, 0) by rw [HH.out, List.drop_of_length_le (by rw [← HL.out]; omega)]; rfl)
        clear hg
        go_wp2
        go_ret2
        exact ⟨by rw [HF'.out]; rfl, G.out⟩
end Go.Proofs.Ytbghagpjkkmhpaa.Lt
