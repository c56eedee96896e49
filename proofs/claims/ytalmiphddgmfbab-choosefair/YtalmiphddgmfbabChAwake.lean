/-
  What awake of the statements of layer 12 answers: true. No conditions.
-/
import Derived.Test.YtalmiphddgmfbabChSl
namespace Go.Proofs.Ytalmiphddgmfbab.Lt
open Go.RowKit Wd
attribute [local go_sem ↓] Go.wp_at_zero Go.wp_at_succ

/-- would it not wait, by its handle? -/
def gzc (cs : List Cn) (ch : Int) (sd : Bool) : Bool := if 1 ≤ ch then (match cs[(ch - 1).toNat]? with | some c => goes c sd | none => false) else false
/-- the trap of a handle -/
def tzc (cs : List Cn) (ch : Int) : Int := if 0 ≤ ch ∧ ch ≤ (cs.length : Int) then 0 else 4
theorem goa_any {t : Nat → Tg} {w : World} {b : Nat} {cs : List Cn} (h : Cs t w b cs) (hn : cs.length ≤ 1024) : GoA (.pointer (some ⟨b, 0, none⟩)) w (gzc cs) (tzc cs) := by
  intro W g ch sd
  by_cases hc : 1 ≤ ch ∧ ch ≤ (cs.length : Int)
  · obtain ⟨i, rfl⟩ : ∃ i : Nat, ch = (i : Int) + 1 := ⟨(ch - 1).toNat, by omega⟩
    obtain ⟨c, hx⟩ : ∃ c, cs[i]? = some c := ⟨_, List.getElem?_eq_getElem (by omega)⟩
    have e1 : gzc cs ((i : Int) + 1) sd = goes c sd := by
      unfold gzc
      rw [if_pos (by omega), show ((i : Int) + 1 - 1).toNat = i by omega, hx]
    have e2 : tzc cs ((i : Int) + 1) = 0 := by unfold tzc; rw [if_pos (by omega)]
    rw [e1, e2]
    exact goes_yes (h.gr g) hx hn sd
  · have e1 : gzc cs ch sd = false := by
      unfold gzc
      by_cases h1 : 1 ≤ ch
      · rw [if_pos h1, List.getElem?_eq_none (by omega)]
      · rw [if_neg h1]
    have e2 : tzc cs ch = if ch = 0 then 0 else 4 := by
      unfold tzc
      by_cases h0 : ch = 0
      · rw [if_pos h0, if_pos (by omega)]
      · rw [if_neg h0, if_neg (by omega)]
    rw [e1, e2]
    exact goes_no (h.gr g) ch sd hc
theorem Tn.low {t t' : Nat → Tg} {w w1 w2 : World} (hT : ∀ q, q < w.heap.size → t q = .no) (g : Gr w w1) (n : Tn t t' w1 w2) : Gr w w2 ∧ ∀ q, q < w.heap.size → t' q = .no :=
  ⟨Ch.trans g n.c (fun q hq => by
    by_cases h1 : q < w.heap.size
    · exact (hq (hT q h1)).elim
    · exact .inr (by omega)), fun q hq => n.o q (Nat.lt_of_lt_of_le hq g.size) (hT q hq)⟩
theorem Cs.hi {t : Nat → Tg} {w : World} {b : Nat} {cs : List Cn} (h : Cs t w b cs) : ∀ q, w.heap.size ≤ q → t q = .no := by
  obtain ⟨k, v, xs, M, clock, h⟩ := h
  intro q hq
  rcases Classical.em (t q = .no) with e | e
  · exact e
  · have := h.hi q e; omega
set_option maxRecDepth 20000 in
set_option maxHeartbeats 4000000 in
theorem awake_any (w : World) : Calls Try.prog 8 #[] w fun e w' => e = .returned (.bool true) ∧ Gr w w' := by
  have HN := hid (new_any w)
  go_enter Try.func8, Try.ntmps8
  go_upto_region 2 with (first
    | (go_at_call 12; refine HN.out.mono ?_; rintro e w1 ⟨b, t1, rfl, c1, g1, z1⟩; have C1 := hid c1; have G1 := hid g1; have Z1 := hid z1; clear c1 g1 z1))
  have HM := hid (make_yes C1.out 1 (by decide))
  go_upto_region 3 with (first
    | (go_at_call 13; refine HM.out.mono ?_; rintro e w2 ⟨rfl, t2, c2, n2⟩; have C2 := hid (show Cs t2 w2 b [⟨1, [], [], [], false⟩] from c2); obtain ⟨g2, z2⟩ := Tn.low Z1.out G1.out n2; have G2 := hid g2; have Z2 := hid z2; clear c2 n2 g2 z2))
  obtain ⟨W3, hW3⟩ : ∃ W3, W3 = (w2.alloc (.cells #[.bool true, .int .i64 1, .int .i64 4] 39)).alloc (.cells #[.int .u64 9] 77) := ⟨_, rfl⟩
  have g3 : Gr w2 W3 := by rw [hW3]; exact Ch.alloc (Ch.alloc (Gr.refl _) _) _
  have C3 := hid (C2.out.gr g3)
  have hps : Ls eP (· = w2.heap.size) W3 (.slice (some ⟨w2.heap.size, 0, none⟩) 1 1) [⟨true, 1, 4⟩] := by rw [hW3]; exact (Ls.single w2 (Pk.mk true 1 4) 39 _ rfl).alloc _
  have hds : Ls eU (· = w2.heap.size + 1) W3 (.slice (some ⟨w2.heap.size + 1, 0, none⟩) 1 1) [9] := by
    rw [hW3]
    have := Ls.single (enc := eU) (w2.alloc (.cells #[.bool true, .int .i64 1, .int .i64 4] 39)) 9 77 #[.int .u64 9] rfl
    simpa using this
  have hno : ∀ q, w2.heap.size ≤ q → t2 q = .no := C2.out.hi
  have gk11 : Gok 1 1 := by unfold Gok; omega
  have HS := hid (sel_goes (t := t2) (w := W3) (b := b) (cs := [⟨1, [4], [], [], false⟩]) (s := 1) (g := 1) (wa := false) (va := 0) (ok := true) (tr := 0) (ks := []) _ 1 1 [⟨true, 1, 4⟩] false _ [0] 0 true 1 4 _ hps (fun q e => hno q (by omega)) rfl (fun q hq => hno q (by have := g3.size; omega))
    (fun W p => order_ok _ W _ 1 1 [9] 1 (hds.gr p) (by intro d hd; simp at hd; omega) (by omega) (by omega))
    (fun W p => waits_any (C3.out.gr p) gk11)
    (fun W p => chall_any _ _ W _ 1 1 _ _ _ (hps.gr p) (by omega) (goa_any (C3.out.gr p) (by decide)))
    (fun W p oo co l => first_any _ _ _ W _ 1 1 _ _ 1 co [0] _ _ (hps.gr p) l (by omega) (by intro o ho; simp at ho; omega) (goa_any (C3.out.gr p) (by decide)))
    (fun W p => carry_send (fun q hq => hno q (by have := g3.size; have := p.size; omega)) (fun W' p' => (send_room (i := 0) ((C3.out.gr p).gr p') gk11 rfl (by decide) 4 rfl rfl (by decide) (by decide) rfl).mono (fun e w' h => SnR.mv h))))
  have hsz : w2.heap.size ≤ W3.heap.size := g3.size
  have G3 := hid (Gr.trans G2.out g3)
  rw [hW3] at HS
  clear hps hds hno gk11 g3 HM HN hsz
  go_upto_region 4 with (first
    | (go_at_call 11; refine HS.out.mono ?_; rintro e w4 ⟨mo, mn, mc, rfl, -, t4, c4, n4, -⟩; rw [← hW3] at n4; have C4 := hid c4; obtain ⟨g4, z4⟩ := Tn.low Z2.out G3.out n4; have G4 := hid g4; clear c4 n4 g4 z4))
  have HL := hid (fun (W : World) (p : Gr w4 W) => len_yes (i := 0) (C4.out.gr p) rfl (by decide))
  have GA := hid (show Gr w4 (w4.alloc (.cells #[.int .i64 0, .bool false, .bool false, .int .i64 0, .bool true, .int .i64 0, .slice mo mn mc] 45)) from Ch.alloc (Gr.refl _) _)
  go_wp2_with (first
    | (go_at_call 25; refine (HL.out _ GA.out).mono ?_; rintro e w5 ⟨rfl, hw⟩; subst hw))
  go_ret
  exact ⟨rfl, Gr.trans G4.out GA.out⟩
end Go.Proofs.Ytalmiphddgmfbab.Lt
