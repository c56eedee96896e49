/-
  What the program's Print answers. Conditions: lists are no longer than the reach lets be; words are words; the tables lie where they lie.
-/
import Derived.Test.YtbehlhnnfdkmaaaGreatDoorLtMt
import Derived.Test.YtbehlhnnfdkmaaaGreatDoorLtRPr0
namespace Go.Proofs.YtbehlhnnfdkmaaaGreatDoor.Lt
open Go.RowKit Wd

set_option maxHeartbeats 1000000 in
set_option maxRecDepth 20000 in
theorem print_any (P : Nat → Prop) (w : World) (vc vf vt : Value) (cs : List Int) (fs : List (Int × Int)) (ts : List Tb) (h : Pin P w vc vf vt cs fs ts) (hcl : cs.length ≤ 35184372088832) (hfl : fs.length ≤ 8796093022208) (htl : ts.length ≤ 4398046511104) (hq : ∀ t ∈ ts, t.cs.length ≤ 4398046511104) (hu : U32s cs) (hg : Glb w) (hB : 10 < w.heap.size) :
    Calls Tryz.prog 17 #[.agg #[vc, vf, vt]] w fun e w' => e = .returned (.tuple #[.string (prT cs fs ts), .int .i64 (prE cs fs ts)]) ∧ Gr w w' := by
  have h : Pin (· < w.heap.size) w vc vf vt cs fs ts := ⟨h.c.mono (fun _ q _ => q), h.f.mono (fun _ q _ => q), h.t.mono (fun _ q _ => q), fun t ht => (h.cs t ht).mono (fun _ q _ => q)⟩
  have HG := hid hg
  have HCK := hid (fun (W : World) (p : Gr w W) => check_any _ W vc vf vt cs fs ts (h.gr p) hcl hfl htl hq hu (hg.gr p))
  have HTB := hid (fun (W : World) (p : Gr w W) (base X : Nat) (v : Value) (T : ByteArray) (q : ∀ g, g < w.heap.size → g < base ∧ g ≠ X) (r : Wr base X W v T) (c : cfs ts = true) (x : 10 < X) => tables_any _ base X W v T vc vf vt ts (h.t.gr p) (fun t ht => (h.cs t ht).gr p) q r htl hq c (hg.gr p) x (by obtain ⟨a, c, e⟩ := h.c.form; exact ⟨a, _, c, e⟩) (by obtain ⟨a, c, e⟩ := h.f.form; exact ⟨a, _, c, e⟩))
  have HFN := hid (fun (W : World) (P : Nat → Prop) (pc : Ls eU P W vc cs) (pf : Ls eG P W vf fs) (base X : Nat) (v : Value) (T : ByteArray) (q : ∀ g, P g → g < base ∧ g ≠ X) (r : Wr base X W v T) (p1 : pr fs 0 = some (cs.length : Int)) (p2 : ∀ x ∈ cs, dE x = 0) (p3 : TgOk cs cs.length) (G : Glb W) (x : 10 < X) => functions_any P base X W v T vc vf vt cs fs pc pf q r hcl hfl hu p1 p2 p3 G x (by obtain ⟨a, c, e⟩ := h.t.form; exact ⟨a, _, c, e⟩))
  have HIN := hid h
  have HWF := hid (wls_full cs fs (ts.map tT))
  have HYES := hid (show chk cs fs ts = 0 → cfs ts = true ∧ pr fs 0 = some (cs.length : Int) ∧ (∀ x ∈ cs, dE x = 0) ∧ TgOk cs cs.length from fun q => by
    rw [chk_is] at q
    have q1 : fts cs fs ts = true := by
      cases hf : fts cs fs ts with
      | true => rfl
      | false => rw [hf] at q; simp at q
    rw [if_pos q1] at q
    unfold fts at q1
    simp only [Bool.and_eq_true] at q1
    exact ⟨q1.1.2, ptd_pr q1.1.1, fsE_zero.1 q, tg_ok (ptd_pr q1.1.1) q1.2⟩)
  obtain ⟨aoc, cac, hia⟩ := h.c.form
  obtain ⟨aof, caf, hib⟩ := h.f.form
  obtain ⟨aot, cat, hic⟩ := h.t.form
  generalize cs.length = nc at hia HYES HFN
  generalize fs.length = nf at hib
  generalize ts.length = nt at hic
  obtain ⟨E, hE⟩ : ∃ b, b = prE cs fs ts := ⟨_, rfl⟩
  obtain ⟨S, hS⟩ : ∃ b, b = prT cs fs ts := ⟨_, rfl⟩
  rw [← hE, ← hS]
  unfold prE at hE
  unfold prT at hS
  generalize chk cs fs ts = C at HCK HYES hE hS
  have HE := hid hE
  have HS := hid hS
  subst hia hib hic
  have K1 := hid (Gr.alloc (Gr.refl w) #[.slice aoc nc cac, .slice aof nf caf, .slice aot nt cat] 26)
  have B1 := hid (MapKept.heap_alloc w (.cells #[.slice aoc nc cac, .slice aof nf caf, .slice aot nt cat] 26)).1
  have HBG := hid hB
  clear h hg hq hu hE hS hcl hfl htl hB
  by_cases hC : C = 0
  · subst hC
    obtain ⟨y1, y2, y3, y4⟩ := HYES.out rfl
    have Y1 := hid y1
    have Y2 := hid y2
    have Y3 := hid y3
    have Y4 := hid y4
    rw [if_pos rfl] at HE HS
    clear y1 y2 y3 y4 HYES
    obtain ⟨TT, hTT⟩ : ∃ x, x = wls (wls { data := #[] } (ixl tbL 0 (ts.map tT))) (ixl (fnL cs) 0 fs) := ⟨_, rfl⟩
    rw [← hTT] at HWF
    have HTT := hid hTT
    have HLO := hid (fun (base X : Nat) (W : World) (v : Value) (r : Wr base X W v TT) => long_any base X W v TT r)
    clear hTT
    by_cases hz : 262144 < TT.size
    · have hF : 262144 < (full cs fs (ts.map tT)).size := by
        rcases Nat.lt_or_ge 262144 (full cs fs (ts.map tT)).size with q | q
        · exact q
        · rw [← HWF.out.1 q]
          exact hz
      have he : E = 75 := by rw [HE.out, if_pos hF]
      have hs : S = { data := #[] } := by rw [HS.out, if_pos hF]
      rw [decide_eq_true hz] at HLO
      subst he hs
      clear hF
      go_enter Tryz.func17, Tryz.ntmps17
      go_wp2_with (first | (go_at_call 38; refine (HCK.out _ K1.out).mono ?_; rintro e w1 ⟨rfl, g1⟩; have G1 := hid (Gr.trans K1.out g1); have B2 := hid (gr_blk B1.out g1); have l1 := lt_of_block B2.out; have p0 : w1.cell? ⟨w.heap.size, 0, none⟩ = some (.slice aoc nc cac) := (cell_of B2.out 0).trans rfl; have p1 : w1.cell? ⟨w.heap.size, 1, none⟩ = some (.slice aof nf caf) := (cell_of B2.out 1).trans rfl; have p2 : w1.cell? ⟨w.heap.size, 2, none⟩ = some (.slice aot nt cat) := (cell_of B2.out 2).trans rfl; clear g1) | (go_at_call 39; have WR := hid (show Wr (w1.heap.size + 1) w1.heap.size (w1.alloc (.cells #[.slice none 0 0] 86)) (.slice none 0 0) { data := #[] } from ⟨(MapKept.heap_alloc w1 _).1, Ow.nil _ _ _ _ _, by omega, by simp⟩); refine (HTB.out _ (Gr.alloc G1.out _ _) (w1.heap.size + 1) w1.heap.size _ _ (fun g q => by omega) WR.out Y1.out (by have := HBG.out; omega)).mono ?_; rintro e w2 ⟨rfl, ⟨v2, W2⟩, C2⟩; have HW2 := hid W2; have HC2 := hid C2; have B3 := hid ((C2.block w.heap.size (by simp; omega) (fun e => by rcases e with e | e <;> omega)).trans (al_blk B2.out _)); have l3 := lt_of_block B3.out; have r0 : w2.cell? ⟨w.heap.size, 0, none⟩ = some (.slice aoc nc cac) := (cell_of B3.out 0).trans rfl; have r1 : w2.cell? ⟨w.heap.size, 1, none⟩ = some (.slice aof nf caf) := (cell_of B3.out 1).trans rfl; have r2 : w2.cell? ⟨w.heap.size, 2, none⟩ = some (.slice aot nt cat) := (cell_of B3.out 2).trans rfl; clear W2 C2) | (go_at_call 40; have NS := hid (show ∀ g, g < (w1.alloc (.cells #[.slice none 0 0] 86)).heap.size → g < w.heap.size → ¬ SW (w1.heap.size + 1) w1.heap.size g from fun g _ q e => by { rcases e with e | e <;> omega }); refine (HFN.out _ (· < w.heap.size) ((HIN.out.c.gr (Gr.alloc G1.out _ _)).ch HC2.out NS.out) ((HIN.out.f.gr (Gr.alloc G1.out _ _)).ch HC2.out NS.out) (w1.heap.size + 1) w1.heap.size _ _ (fun g q => by omega) HW2.out Y2.out Y3.out Y4.out ((HG.out.gr (Gr.alloc G1.out _ _)).sw (by have := HBG.out; omega) (by omega) HC2.out) (by have := HBG.out; omega)).mono ?_; rintro e w3 ⟨rfl, ⟨v3, W3⟩, C3⟩; rw [← HTT.out] at W3; obtain ⟨ao3, cap3, rfl⟩ := W3.form; have HW3 := hid W3; have HC3 := hid C3; have x0 : w3.cell? ⟨w1.heap.size, 0, none⟩ = some (.slice ao3 TT.size cap3) := (cell_of W3.blk 0).trans rfl; have lx := lt_of_block W3.blk; have hcv := conv_ow W3.own; clear W3 C3) | (go_at_call 41; refine (HLO.out _ _ _ _ HW3.out).mono ?_; rintro e w4 ⟨rfl, hw⟩; have hw := hw.symm; subst hw))
      go_ret2
      refine ⟨rfl, ?_⟩
      have g2 : Gr w w2 := Ch.trans (Gr.alloc G1.out _ _) HC2.out (fun q e => .inr (by rcases e with e | e <;> omega))
      exact Ch.trans g2 HC3.out (fun q e => .inr (by rcases e with e | e <;> omega))
    · have hF : ¬ 262144 < (full cs fs (ts.map tT)).size := fun q => hz (HWF.out.2 q)
      have he : E = 0 := by rw [HE.out, if_neg hF]
      have hs : TT = S := by rw [HS.out, if_neg hF]; exact HWF.out.1 (by omega)
      rw [decide_eq_false hz] at HLO
      subst he hs
      clear hF
      go_enter Tryz.func17, Tryz.ntmps17
      go_wp2_with (first | (go_at_call 38; refine (HCK.out _ K1.out).mono ?_; rintro e w1 ⟨rfl, g1⟩; have G1 := hid (Gr.trans K1.out g1); have B2 := hid (gr_blk B1.out g1); have l1 := lt_of_block B2.out; have p0 : w1.cell? ⟨w.heap.size, 0, none⟩ = some (.slice aoc nc cac) := (cell_of B2.out 0).trans rfl; have p1 : w1.cell? ⟨w.heap.size, 1, none⟩ = some (.slice aof nf caf) := (cell_of B2.out 1).trans rfl; have p2 : w1.cell? ⟨w.heap.size, 2, none⟩ = some (.slice aot nt cat) := (cell_of B2.out 2).trans rfl; clear g1) | (go_at_call 39; have WR := hid (show Wr (w1.heap.size + 1) w1.heap.size (w1.alloc (.cells #[.slice none 0 0] 86)) (.slice none 0 0) { data := #[] } from ⟨(MapKept.heap_alloc w1 _).1, Ow.nil _ _ _ _ _, by omega, by simp⟩); refine (HTB.out _ (Gr.alloc G1.out _ _) (w1.heap.size + 1) w1.heap.size _ _ (fun g q => by omega) WR.out Y1.out (by have := HBG.out; omega)).mono ?_; rintro e w2 ⟨rfl, ⟨v2, W2⟩, C2⟩; have HW2 := hid W2; have HC2 := hid C2; have B3 := hid ((C2.block w.heap.size (by simp; omega) (fun e => by rcases e with e | e <;> omega)).trans (al_blk B2.out _)); have l3 := lt_of_block B3.out; have r0 : w2.cell? ⟨w.heap.size, 0, none⟩ = some (.slice aoc nc cac) := (cell_of B3.out 0).trans rfl; have r1 : w2.cell? ⟨w.heap.size, 1, none⟩ = some (.slice aof nf caf) := (cell_of B3.out 1).trans rfl; have r2 : w2.cell? ⟨w.heap.size, 2, none⟩ = some (.slice aot nt cat) := (cell_of B3.out 2).trans rfl; clear W2 C2) | (go_at_call 40; have NS := hid (show ∀ g, g < (w1.alloc (.cells #[.slice none 0 0] 86)).heap.size → g < w.heap.size → ¬ SW (w1.heap.size + 1) w1.heap.size g from fun g _ q e => by { rcases e with e | e <;> omega }); refine (HFN.out _ (· < w.heap.size) ((HIN.out.c.gr (Gr.alloc G1.out _ _)).ch HC2.out NS.out) ((HIN.out.f.gr (Gr.alloc G1.out _ _)).ch HC2.out NS.out) (w1.heap.size + 1) w1.heap.size _ _ (fun g q => by omega) HW2.out Y2.out Y3.out Y4.out ((HG.out.gr (Gr.alloc G1.out _ _)).sw (by have := HBG.out; omega) (by omega) HC2.out) (by have := HBG.out; omega)).mono ?_; rintro e w3 ⟨rfl, ⟨v3, W3⟩, C3⟩; rw [← HTT.out] at W3; obtain ⟨ao3, cap3, rfl⟩ := W3.form; have HW3 := hid W3; have HC3 := hid C3; have x0 : w3.cell? ⟨w1.heap.size, 0, none⟩ = some (.slice ao3 TT.size cap3) := (cell_of W3.blk 0).trans rfl; have lx := lt_of_block W3.blk; have hcv := conv_ow W3.own; clear W3 C3) | (go_at_call 41; refine (HLO.out _ _ _ _ HW3.out).mono ?_; rintro e w4 ⟨rfl, hw⟩; have hw := hw.symm; subst hw))
      go_ret2
      refine ⟨rfl, ?_⟩
      have g2 : Gr w w2 := Ch.trans (Gr.alloc G1.out _ _) HC2.out (fun q e => .inr (by rcases e with e | e <;> omega))
      exact Ch.trans g2 HC3.out (fun q e => .inr (by rcases e with e | e <;> omega))
  · have hC' : (C == 0) = false := by simpa using hC
    rw [if_neg hC] at HE HS
    have he : E = C := HE.out
    have hs : S = { data := #[] } := HS.out
    subst he hs
    go_enter Tryz.func17, Tryz.ntmps17
    go_wp2_with (go_at_call 38; refine (HCK.out _ K1.out).mono ?_; rintro e w1 ⟨rfl, g1⟩; have G1 := hid (Gr.trans K1.out g1); clear g1)
    go_ret2
    exact ⟨rfl, G1.out⟩
end Go.Proofs.YtbehlhnnfdkmaaaGreatDoor.Lt
