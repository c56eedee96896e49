/-
  What ProperCalls answers of any program, function and truth. Conditions: the tables lie where they lie; words are words.
-/
import Derived.Test.YtollfepggicehaaDoorPpRDepth
import Derived.Test.YtollfepggicehaaDoorPpSame
import Derived.Test.YtollfepggicehaaDoorPpAwake
namespace Go.Proofs.YtollfepggicehaaDoor.Lt
open Go.RowKit Wd

theorem clN_len {cs : List Int} {fs : List (Int × Int)} {ts : List Tb} {rch : Nat → List Int} {sp : Bool} {cls : Nat → List Int} (hc : Cls cs fs rch sp cls) (f : Int) : (rcN cs fs ts cls f).length ≤ 4096 := by
  unfold rcN
  split
  · rename_i q
    have := (ask_may q).1.nf
    have := (hc f.toNat).len
    omega
  · simp
set_option maxHeartbeats 1000000 in
set_option maxRecDepth 20000 in
theorem calls_any (P : Nat → Prop) (w : World) (ia ib ic : Value) (cs : List Int) (fs : List (Int × Int)) (ts : List Tb) (a : Int) (sp : Bool) (h : Pin P w ia ib ic cs fs ts) (_hc : cs.length ≤ 35184372088832) (_hf : fs.length ≤ 8796093022208) (_ht : ts.length ≤ 4398046511104) (_hq : ∀ t ∈ ts, t.cs.length ≤ 4398046511104) (hu : U32s cs) (hg : Glb w) :
    Calls Tryd.prog 6 #[.agg #[ia, ib, ic], .int .i64 a, .bool sp] w fun e w' => e = .returned (.bool true) ∧ Gr w w' := by
  obtain ⟨rch, hr⟩ := rcs_ex cs fs
  obtain ⟨cls, hcl⟩ := cls_ex cs fs rch sp
  obtain ⟨dp, hdp⟩ := dps_ex cs rch
  have HN := hid (fun (W : World) (p : Gr w W) => pCalls_any P W ia ib ic cs fs ts (h.gr p) hu (hg.gr p) rch hr sp cls hcl a)
  have HRN := hid (fun (W : World) (p : Gr w W) => rCalls_any P W ia ib ic cs fs ts (h.gr p) hu rch hr sp cls hcl a)
  have HD := hid (fun (W : World) (p : Gr w W) => pDepth_any P W ia ib ic cs fs ts (h.gr p) hu (hg.gr p) rch hr dp hdp a)
  have HRD := hid (fun (W : World) (p : Gr w W) => rDepth_any P W ia ib ic cs fs ts (h.gr p) hu rch hr dp hdp a)
  have HXL := hid (clN_len (ts := ts) hcl a)
  have HV := hid (fun (W : World) (q : Glb W) => awake_any W q)
  have HG := hid hg
  obtain ⟨aoc, cac, hia⟩ := h.c.form
  obtain ⟨aof, caf, hib⟩ := h.f.form
  obtain ⟨aot, cat, hic⟩ := h.t.form
  generalize ask cs fs ts a (fs.length : Int) = E at HN HRN HD HRD
  generalize rcN cs fs ts cls a = XL at HN HRN HXL
  generalize dpN cs fs ts dp a = DD at HD HRD
  generalize cs.length = nc at hia
  generalize fs.length = nf at hib
  generalize ts.length = nt at hic
  subst hia hib hic
  have K1 := hid (Gr.alloc (Gr.refl w) #[.slice aoc nc cac, .slice aof nf caf, .slice aot nt cat] 26)
  have B1 := hid (MapKept.heap_alloc w (.cells #[.slice aoc nc cac, .slice aof nf caf, .slice aot nt cat] 26)).1
  clear h hu hg _hc _hf _ht _hq hr hcl hdp
  go_enter Tryd.func6, Tryd.ntmps6
  go_wp2_with (first | (go_at_call 19; refine (HN.out _ K1.out).mono ?_; rintro e w1 ⟨v1, rfl, o1, g1⟩; obtain ⟨ao1, cap1, hv1⟩ := o1.form; subst hv1; have O1 := hid o1; have G1 := hid (Gr.trans K1.out g1); have J1 := hid (gr_blk B1.out g1); obtain ⟨pa1, pb1, pcc1, pl1⟩ := p_cells J1.out; clear o1 g1) | (go_at_call 20; refine (HRN.out _ G1.out).mono ?_; rintro e w2 ⟨v2, rfl, o2, g2⟩; obtain ⟨ao2, cap2, hv2⟩ := o2.form; subst hv2; have O2 := hid o2; have O12 := hid (O1.out.gr g2); have G2 := hid (Gr.trans G1.out g2); have J2 := hid (gr_blk J1.out g2); obtain ⟨pa2, pb2, pcc2, pl2⟩ := p_cells J2.out; clear o2 g2) | (go_at_call 21; refine (HD.out _ G2.out).mono ?_; rintro e w3 ⟨rfl, g3⟩; have G3 := hid (Gr.trans G2.out g3); have O13 := hid (O12.out.gr g3); have O23 := hid (O2.out.gr g3); have J3 := hid (gr_blk J2.out g3); obtain ⟨pa3, pb3, pcc3, pl3⟩ := p_cells J3.out; clear g3) | (go_at_call 22; refine (HRD.out _ G3.out).mono ?_; rintro e w4 ⟨rfl, g4⟩; have G4 := hid (Gr.trans G3.out g4); have O14 := hid (O13.out.gr g4); have O24 := hid (O23.out.gr g4); clear g4) | (go_at_call 16; refine (same_any _ _ _ _ _ _ _ _ _ XL O14.out.lst O24.out.lst HXL.out).mono ?_; rintro e w5 ⟨rfl, g5⟩; have G5 := hid (Gr.trans G4.out g5); clear g5) | (go_at_call 11; refine (HV.out _ (HG.out.gr G5.out)).mono ?_; rintro e w6 ⟨rfl, g6⟩; have G6 := hid (Gr.trans G5.out g6); clear g6))
  go_ret
  exact ⟨rfl, G6.out⟩
end Go.Proofs.YtollfepggicehaaDoor.Lt
