/-
  What ProperWords answers of any program and place. Conditions: the tables lie where they lie; words are words.
-/
import Derived.Test.YtollfepggicehaaDoorPpNext
import Derived.Test.YtollfepggicehaaDoorPpSame
import Derived.Test.YtollfepggicehaaDoorPpAwake
namespace Go.Proofs.YtollfepggicehaaDoor.Lt
open Go.RowKit Wd

set_option maxHeartbeats 1000000 in
set_option maxRecDepth 20000 in
theorem words_any (P : Nat → Prop) (w : World) (ia ib ic : Value) (cs : List Int) (fs : List (Int × Int)) (ts : List Tb) (a : Int) (h : Pin P w ia ib ic cs fs ts) (_hc : cs.length ≤ 35184372088832) (_hf : fs.length ≤ 8796093022208) (_ht : ts.length ≤ 4398046511104) (_hq : ∀ t ∈ ts, t.cs.length ≤ 4398046511104) (hu : U32s cs) (hg : Glb w) :
    Calls Tryd.prog 4 #[.agg #[ia, ib, ic], .int .i64 a] w fun e w' => e = .returned (.bool true) ∧ Gr w w' := by
  have HI := hid (fun (W : World) (p : Gr w W) => pIn_any P W ia ib ic cs fs ts (h.gr p) hu (hg.gr p) a)
  have HRI := hid (fun (W : World) (p : Gr w W) => rIn_any P W ia ib ic cs fs ts (h.gr p) hu a)
  have HN := hid (fun (W : World) (p : Gr w W) => pNext_any P W ia ib ic cs fs ts (h.gr p) hu (hg.gr p) a)
  have HRN := hid (fun (W : World) (p : Gr w W) => rNext_any P W ia ib ic cs fs ts (h.gr p) hu a)
  have HXL := hid (show (nxN cs fs ts a).length ≤ 4096 from by unfold nxN; split; exact wN_len cs a; simp)
  have HV := hid (fun (W : World) (q : Glb W) => awake_any W q)
  have HG := hid hg
  obtain ⟨aoc, cac, hia⟩ := h.c.form
  obtain ⟨aof, caf, hib⟩ := h.f.form
  obtain ⟨aot, cat, hic⟩ := h.t.form
  generalize inN cs fs ts a = I at HI HRI
  generalize ask cs fs ts a (cs.length : Int) = E at HI HRI HN HRN
  generalize nxN cs fs ts a = XL at HN HRN HXL
  generalize cs.length = nc at hia
  generalize fs.length = nf at hib
  generalize ts.length = nt at hic
  subst hia hib hic
  have K1 := hid (Gr.alloc (Gr.refl w) #[.slice aoc nc cac, .slice aof nf caf, .slice aot nt cat] 26)
  have B1 := hid (MapKept.heap_alloc w (.cells #[.slice aoc nc cac, .slice aof nf caf, .slice aot nt cat] 26)).1
  clear h hu hg _hc _hf _ht _hq
  go_enter Tryd.func4, Tryd.ntmps4
  go_wp2_with (first | (go_at_call 12; refine (HI.out _ K1.out).mono ?_; rintro e w1 ⟨rfl, g1⟩; have G1 := hid (Gr.trans K1.out g1); have J1 := hid (gr_blk B1.out g1); obtain ⟨pa1, pb1, pcc1, pl1⟩ := p_cells J1.out; clear g1) | (go_at_call 13; refine (HRI.out _ G1.out).mono ?_; rintro e w2 ⟨rfl, g2⟩; have G2 := hid (Gr.trans G1.out g2); have J2 := hid (gr_blk J1.out g2); obtain ⟨pa2, pb2, pcc2, pl2⟩ := p_cells J2.out; clear g2) | (go_at_call 14; refine (HN.out _ G2.out).mono ?_; rintro e w3 ⟨v3, rfl, o3, g3⟩; obtain ⟨ao3, cap3, hv3⟩ := o3.form; subst hv3; have O3 := hid o3; have G3 := hid (Gr.trans G2.out g3); have J3 := hid (gr_blk J2.out g3); obtain ⟨pa3, pb3, pcc3, pl3⟩ := p_cells J3.out; clear o3 g3) | (go_at_call 15; refine (HRN.out _ G3.out).mono ?_; rintro e w4 ⟨v4, rfl, o4, g4⟩; obtain ⟨ao4, cap4, hv4⟩ := o4.form; subst hv4; have O4 := hid o4; have O34 := hid (O3.out.gr g4); have G4 := hid (Gr.trans G3.out g4); clear o4 g4) | (go_at_call 16; refine (same_any _ _ _ _ _ _ _ _ _ XL O34.out.lst O4.out.lst HXL.out).mono ?_; rintro e w5 ⟨rfl, g5⟩; have G5 := hid (Gr.trans G4.out g5); clear g5) | (go_at_call 11; refine (HV.out _ (HG.out.gr G5.out)).mono ?_; rintro e w6 ⟨rfl, g6⟩; have G6 := hid (Gr.trans G5.out g6); clear g6))
  go_ret
  exact ⟨rfl, G6.out⟩
end Go.Proofs.YtollfepggicehaaDoor.Lt
