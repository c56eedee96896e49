/-
  What ProperReaches answers of any program and function. Conditions: the tables lie where they lie; words are words.
-/
import Derived.Test.YtollfepggicehaaDoorPpRNamed
import Derived.Test.YtollfepggicehaaDoorPpSame
import Derived.Test.YtollfepggicehaaDoorPpAwake
namespace Go.Proofs.YtollfepggicehaaDoor.Lt
open Go.RowKit Wd

theorem rcN_len {cs : List Int} {fs : List (Int × Int)} {ts : List Tb} {rch : Nat → List Int} (hr : Rcs cs fs rch) (f : Int) : (rcN cs fs ts rch f).length ≤ 4096 := by
  unfold rcN
  split
  · rename_i q
    have := (ask_may q).1.nc
    have := (hr f.toNat).len
    omega
  · simp
set_option maxHeartbeats 1000000 in
set_option maxRecDepth 20000 in
theorem reaches_any (P : Nat → Prop) (w : World) (ia ib ic : Value) (cs : List Int) (fs : List (Int × Int)) (ts : List Tb) (a : Int) (h : Pin P w ia ib ic cs fs ts) (_hc : cs.length ≤ 35184372088832) (_hf : fs.length ≤ 8796093022208) (_ht : ts.length ≤ 4398046511104) (_hq : ∀ t ∈ ts, t.cs.length ≤ 4398046511104) (hu : U32s cs) (hg : Glb w) :
    Calls Tryd.prog 5 #[.agg #[ia, ib, ic], .int .i64 a] w fun e w' => e = .returned (.bool true) ∧ Gr w w' := by
  obtain ⟨rch, hr⟩ := rcs_ex cs fs
  have HN := hid (fun (W : World) (p : Gr w W) => pReach_any P W ia ib ic cs fs ts (h.gr p) hu (hg.gr p) rch hr a)
  have HRN := hid (fun (W : World) (p : Gr w W) => rReach_any P W ia ib ic cs fs ts (h.gr p) hu rch hr a)
  have HXL := hid (rcN_len (ts := ts) hr a)
  have HV := hid (fun (W : World) (q : Glb W) => awake_any W q)
  have HG := hid hg
  obtain ⟨aoc, cac, hia⟩ := h.c.form
  obtain ⟨aof, caf, hib⟩ := h.f.form
  obtain ⟨aot, cat, hic⟩ := h.t.form
  generalize ask cs fs ts a (fs.length : Int) = E at HN HRN
  generalize rcN cs fs ts rch a = XL at HN HRN HXL
  generalize cs.length = nc at hia
  generalize fs.length = nf at hib
  generalize ts.length = nt at hic
  subst hia hib hic
  have K1 := hid (Gr.alloc (Gr.refl w) #[.slice aoc nc cac, .slice aof nf caf, .slice aot nt cat] 26)
  have B1 := hid (MapKept.heap_alloc w (.cells #[.slice aoc nc cac, .slice aof nf caf, .slice aot nt cat] 26)).1
  clear h hu hg _hc _hf _ht _hq hr
  go_enter Tryd.func5, Tryd.ntmps5
  go_wp2_with (first | (go_at_call 17; refine (HN.out _ K1.out).mono ?_; rintro e w1 ⟨v1, rfl, o1, g1⟩; obtain ⟨ao1, cap1, hv1⟩ := o1.form; subst hv1; have O1 := hid o1; have G1 := hid (Gr.trans K1.out g1); have J1 := hid (gr_blk B1.out g1); obtain ⟨pa1, pb1, pcc1, pl1⟩ := p_cells J1.out; clear o1 g1) | (go_at_call 18; refine (HRN.out _ G1.out).mono ?_; rintro e w2 ⟨v2, rfl, o2, g2⟩; obtain ⟨ao2, cap2, hv2⟩ := o2.form; subst hv2; have O2 := hid o2; have O12 := hid (O1.out.gr g2); have G2 := hid (Gr.trans G1.out g2); clear o2 g2) | (go_at_call 16; refine (same_any _ _ _ _ _ _ _ _ _ XL O12.out.lst O2.out.lst HXL.out).mono ?_; rintro e w3 ⟨rfl, g3⟩; have G3 := hid (Gr.trans G2.out g3); clear g3) | (go_at_call 11; refine (HV.out _ (HG.out.gr G3.out)).mono ?_; rintro e w4 ⟨rfl, g4⟩; have G4 := hid (Gr.trans G3.out g4); clear g4))
  go_ret
  exact ⟨rfl, G4.out⟩
end Go.Proofs.YtollfepggicehaaDoor.Lt
