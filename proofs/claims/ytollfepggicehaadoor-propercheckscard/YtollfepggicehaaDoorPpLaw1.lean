/-
  What ProperChecks answers of any program. Conditions: the tables lie where they lie; words are words.
-/
import Derived.Test.YtollfepggicehaaDoorPpRCheck
import Derived.Test.YtollfepggicehaaDoorPpAwake
namespace Go.Proofs.YtollfepggicehaaDoor.Lt
open Go.RowKit Wd

set_option maxRecDepth 20000 in
theorem checks_any (P : Nat → Prop) (w : World) (ia ib ic : Value) (cs : List Int) (fs : List (Int × Int)) (ts : List Tb) (h : Pin P w ia ib ic cs fs ts) (_hc : cs.length ≤ 35184372088832) (_hf : fs.length ≤ 8796093022208) (_ht : ts.length ≤ 4398046511104) (_hq : ∀ t ∈ ts, t.cs.length ≤ 4398046511104) (hu : U32s cs) (hg : Glb w) :
    Calls Tryd.prog 3 #[.agg #[ia, ib, ic]] w fun e w' => e = .returned (.bool true) ∧ Gr w w' := by
  have HC := hid (fun (W : World) (p : Gr w W) => check_any P W ia ib ic cs fs ts (h.gr p) hu (hg.gr p))
  have HR := hid (fun (W : World) (p : Gr w W) => rcheck_any P W ia ib ic cs fs ts (h.gr p) hu)
  have HV := hid (fun (W : World) (q : Glb W) => awake_any W q)
  have HG := hid hg
  obtain ⟨aoc, cac, hia⟩ := h.c.form
  obtain ⟨aof, caf, hib⟩ := h.f.form
  obtain ⟨aot, cat, hic⟩ := h.t.form
  generalize cs.length = nc at hia
  generalize fs.length = nf at hib
  generalize ts.length = nt at hic
  generalize chk cs fs ts = R at HC HR
  obtain ⟨r1, r2⟩ := R
  simp only at HC HR
  subst hia hib hic
  have K1 := hid (Gr.alloc (Gr.refl w) #[.slice aoc nc cac, .slice aof nf caf, .slice aot nt cat] 26)
  have B1 := hid (MapKept.heap_alloc w (.cells #[.slice aoc nc cac, .slice aof nf caf, .slice aot nt cat] 26)).1
  clear h hu hg _hc _hf _ht _hq
  go_enter Tryd.func3, Tryd.ntmps3
  go_wp2_with (first | (go_at_call 9; refine (HC.out _ K1.out).mono ?_; rintro e w1 ⟨rfl, g1⟩; have G1 := hid (Gr.trans K1.out g1); have b1 := gr_blk B1.out g1; have l1 := lt_of_block b1; have p0 : w1.cell? ⟨w.heap.size, 0, none⟩ = some (.slice aoc nc cac) := (cell_of b1 0).trans rfl; have p1 : w1.cell? ⟨w.heap.size, 1, none⟩ = some (.slice aof nf caf) := (cell_of b1 1).trans rfl; have p2 : w1.cell? ⟨w.heap.size, 2, none⟩ = some (.slice aot nt cat) := (cell_of b1 2).trans rfl; clear g1 b1) | (go_at_call 10; refine (HR.out _ G1.out).mono ?_; rintro e w2 ⟨rfl, g2⟩; have G2 := hid (Gr.trans G1.out g2); clear g2) | (go_at_call 11; refine (HV.out _ (HG.out.gr G2.out)).mono ?_; rintro e w3 ⟨rfl, g3⟩; have G3 := hid (Gr.trans G2.out g3); clear g3))
  go_ret
  exact ⟨rfl, G3.out⟩
end Go.Proofs.YtollfepggicehaaDoor.Lt
