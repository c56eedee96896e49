/-
  What ListingLines answers of any program and any place. Conditions: the tables lie where they lie; words are words; lists are no longer than the reach lets be.
-/
import Derived.Test.YtbehlhnnfdkmaaaGreatDoorLtLives
import Derived.Test.YtbehlhnnfdkmaaaGreatDoorLtTwin
import Derived.Test.YtbehlhnnfdkmaaaGreatDoorLtLine
import Derived.Test.YtbehlhnnfdkmaaaGreatDoorLtRLine
namespace Go.Proofs.YtbehlhnnfdkmaaaGreatDoor.Lt
open Go.RowKit Wd

set_option maxHeartbeats 1000000 in
set_option maxRecDepth 100000 in
theorem lines_any (P : Nat → Prop) (w : World) (ia ib ic : Value) (cs : List Int) (fs : List (Int × Int)) (ts : List Tb) (i : Int) (h : Pin P w ia ib ic cs fs ts) (hc : cs.length ≤ 35184372088832) (hf : fs.length ≤ 8796093022208) (ht : ts.length ≤ 4398046511104) (hq : ∀ t ∈ ts, t.cs.length ≤ 4398046511104) (hu : U32s cs) (hg : Glb w) :
    Calls Tryz.prog 4 #[.agg #[ia, ib, ic], .int .i64 i] w fun e w' => e = .returned (.bool true) ∧ Gr w w' := by
  have K1 := hid (Gr.alloc (Gr.refl w) #[ia, ib, ic] 26)
  have HT := hid (twin_any P _ ia ib ic cs fs ts (h.gr K1.out) hc hf ht hq)
  have HL := hid (fun (W : World) (vc vf vt : Value) (Q : Nat → Prop) (p : Ls eU Q W vc cs) (q : Glb W) => line_any Q W vc vf vt cs i p hu q)
  have HR := hid (fun (W : World) (p : Gr w W) => rline_any P W ia ib ic cs i (h.c.gr p) hu)
  have HV := hid (fun (W : World) (q : Glb W) => lives_any W q)
  have HG := hid hg
  obtain ⟨aoc, cac, hia⟩ := h.c.form
  obtain ⟨aof, caf, hib⟩ := h.f.form
  obtain ⟨aot, cat, hic⟩ := h.t.form
  generalize cs.length = nc at hia
  generalize fs.length = nf at hib
  generalize ts.length = nt at hic
  subst hia hib hic
  have B1 := hid (MapKept.heap_alloc w (.cells #[.slice aoc nc cac, .slice aof nf caf, .slice aot nt cat] 26)).1
  generalize lnT cs i = S at HL HR
  generalize lnE cs i = E at HL HR
  clear h hc hf ht hq hu hg
  go_enter Tryz.func4, Tryz.ntmps4
  go_wp2_with (first | (go_at_call 14; refine HT.out.mono ?_; rintro e w1 ⟨vc, vf, vt, us, rfl, _, oc, of_, ot, _, _, g1⟩; have HO := hid oc.lst; have G1 := hid (Gr.trans K1.out g1); have B2 := hid (gr_blk B1.out g1); clear g1 oc of_ ot) | (go_at_call 13; refine (HL.out _ vc vf vt _ HO.out (HG.out.gr G1.out)).mono ?_; rintro e w2 ⟨rfl, g2⟩; have G2 := hid (Gr.trans G1.out g2); have b3 := gr_blk B2.out g2; have i0 : w2.cell? ⟨w.heap.size, 0, none⟩ = some (.slice aoc nc cac) := (cell_of b3 0).trans rfl; have i1 : w2.cell? ⟨w.heap.size, 1, none⟩ = some (.slice aof nf caf) := (cell_of b3 1).trans rfl; have i2 : w2.cell? ⟨w.heap.size, 2, none⟩ = some (.slice aot nt cat) := (cell_of b3 2).trans rfl; clear g2 b3) | (go_at_call 15; refine (HR.out _ G2.out).mono ?_; rintro e w3 ⟨rfl, g3⟩; have G3 := hid (Gr.trans G2.out g3); clear g3) | (go_at_call 11; refine (HV.out _ (HG.out.gr G3.out)).mono ?_; rintro e w4 ⟨rfl, g4⟩; have G4 := hid (Gr.trans G3.out g4); clear g4))
  go_ret
  exact ⟨rfl, G4.out⟩
end Go.Proofs.YtbehlhnnfdkmaaaGreatDoor.Lt
