/-
  What the document's Line answers. Conditions: a word is one.
-/
import Derived.Test.YtbehlhnnfdkmaaaGreatDoorLtLine
namespace Go.Proofs.YtbehlhnnfdkmaaaGreatDoor.Lt
open Go.RowKit Wd

def Bq (q1 q2 q3 q4 : Int) : Prop := (I64 q1 ∧ -9223372036854775807 ≤ q1) ∧ (I64 q2 ∧ -9223372036854775807 ≤ q2) ∧ (I64 q3 ∧ -9223372036854775807 ≤ q3) ∧ (I64 q4 ∧ -9223372036854775807 ≤ q4)

set_option maxHeartbeats 1000000 in
set_option maxRecDepth 20000 in
theorem rline_0 (w : World) (g o n cap j : Nat) (vf vt : Value) (x q1 q2 q3 q4 : Int) (k : Nat) (k1 : 1 ≤ k) (k2 : k < 59) (hs : sh k = 0) (hgl : g < w.heap.size) (hj : j < n) (c0 : w.cell? ⟨g, o + j, none⟩ = some (.int .u32 x))
    (hd : ∀ W : World, Calls Tryz.prog 32 #[.int .u32 x] W fun e w' => e = .returned (.tuple #[.agg #[.int .i64 (k : Nat), .int .i64 q1, .int .i64 q2, .int .i64 q3, .int .i64 q4], .int .i64 0]) ∧ Gr W w') (_hq : Bq q1 q2 q3 q4) :
    Calls Tryz.prog 15 #[.agg #[.slice (some ⟨g, o, none⟩) n cap, vf, vt], .int .i64 (j : Int)] w fun e w' => e = .returned (.tuple #[.string (insT k q1 q2 q3 q4), .int .i64 0]) ∧ Gr w w' := by
  have K1 := hid (Gr.alloc (Gr.refl w) #[.slice (some ⟨g, o, none⟩) n cap, vf, vt] 26)
  have HD := hid hd
  have HNM := hid (fun (W : World) => rname_yes k k1 k2 W)
  have HSH := hid (fun (W : World) => rshape_yes k k1 k2 W)
  rw [hs] at HSH
  have HHS := hid (has_0)
  have znm := nm_le k
  have hfin : insT k q1 q2 q3 q4 = nm k := by
    unfold insT
    rw [hs]
    simp only [fN, fR, List.take, rgT, List.foldl, Nat.zero_ne_one, if_false]
  rw [hfin]
  obtain ⟨s0, hs0⟩ : ∃ s, s = nm k := ⟨_, rfl⟩
  rw [← hs0] at HNM znm ⊢
  have j0 : ¬ (j : Int) < 0 := by omega
  have j1 : (j : Int) < (n : Int) := by omega
  have j2 : ¬ (n : Int) ≤ (j : Int) := by omega
  have gne : ¬ g = w.heap.size := by omega
  clear hd hfin hs0 hs k1 k2
  go_enter Tryz.func15, Tryz.ntmps15
  go_wp2_with fail
  refine (HD.out _).mono ?_
  rintro e w1 ⟨rfl, g1⟩
  have G1 := hid (Gr.trans K1.out g1)
  have BI := hid (MapKept.heap_alloc w1 (.cells #[.int .i64 (k : Nat), .int .i64 q1, .int .i64 q2, .int .i64 q3, .int .i64 q4] 67)).1
  have GV := hid (Ch.alloc G1.out (.cells #[.int .i64 (k : Nat), .int .i64 q1, .int .i64 q2, .int .i64 q3, .int .i64 q4] 67))
  clear g1 c0
  go_wp2_with fail
  generalize w1.alloc (.cells #[.int .i64 (k : Nat), .int .i64 q1, .int .i64 q2, .int .i64 q3, .int .i64 q4] 67) = V0 at BI GV ⊢
  obtain ⟨kI, hkI⟩ : ∃ k, k = w1.heap.size := ⟨_, rfl⟩
  rw [← hkI] at BI ⊢
  clear hkI
  refine (HNM.out _).mono ?_
  rintro e V1 ⟨rfl, gg⟩
  have B1 := hid (gr_blk BI.out gg)
  have G1x := hid (Gr.trans GV.out gg)
  clear gg
  have i0 : V1.cell? ⟨kI, 0, none⟩ = some (.int .i64 (k : Nat)) := (cell_of B1.out 0).trans rfl
  have i1 : V1.cell? ⟨kI, 1, none⟩ = some (.int .i64 q1) := (cell_of B1.out 1).trans rfl
  have i2 : V1.cell? ⟨kI, 2, none⟩ = some (.int .i64 q2) := (cell_of B1.out 2).trans rfl
  have i3 : V1.cell? ⟨kI, 3, none⟩ = some (.int .i64 q3) := (cell_of B1.out 3).trans rfl
  have i4 : V1.cell? ⟨kI, 4, none⟩ = some (.int .i64 q4) := (cell_of B1.out 4).trans rfl
  go_wp2_with fail
  refine (HSH.out _).mono ?_
  rintro e V2 ⟨rfl, gg⟩
  have B2 := hid (gr_blk B1.out gg)
  have G2x := hid (Gr.trans G1x.out gg)
  clear gg
  clear i0 i1 i2 i3 i4
  have i0 : V2.cell? ⟨kI, 0, none⟩ = some (.int .i64 (k : Nat)) := (cell_of B2.out 0).trans rfl
  have i1 : V2.cell? ⟨kI, 1, none⟩ = some (.int .i64 q1) := (cell_of B2.out 1).trans rfl
  have i2 : V2.cell? ⟨kI, 2, none⟩ = some (.int .i64 q2) := (cell_of B2.out 2).trans rfl
  have i3 : V2.cell? ⟨kI, 3, none⟩ = some (.int .i64 q3) := (cell_of B2.out 3).trans rfl
  have i4 : V2.cell? ⟨kI, 4, none⟩ = some (.int .i64 q4) := (cell_of B2.out 4).trans rfl
  go_wp2_with fail
  refine (HHS.out _).mono ?_
  rintro e VV ⟨rfl, hw⟩
  have hw := hw.symm
  subst hw
  go_wp2
  go_ret2
  exact ⟨rfl, G2x.out⟩

set_option maxHeartbeats 1000000 in
set_option maxRecDepth 20000 in
theorem rline_1 (w : World) (g o n cap j : Nat) (vf vt : Value) (x q1 q2 q3 q4 : Int) (k : Nat) (k1 : 1 ≤ k) (k2 : k < 59) (hs : sh k = 1) (hgl : g < w.heap.size) (hj : j < n) (c0 : w.cell? ⟨g, o + j, none⟩ = some (.int .u32 x))
    (hd : ∀ W : World, Calls Tryz.prog 32 #[.int .u32 x] W fun e w' => e = .returned (.tuple #[.agg #[.int .i64 (k : Nat), .int .i64 q1, .int .i64 q2, .int .i64 q3, .int .i64 q4], .int .i64 0]) ∧ Gr W w') (_hq : Bq q1 q2 q3 q4) :
    Calls Tryz.prog 15 #[.agg #[.slice (some ⟨g, o, none⟩) n cap, vf, vt], .int .i64 (j : Int)] w fun e w' => e = .returned (.tuple #[.string (insT k q1 q2 q3 q4), .int .i64 0]) ∧ Gr w w' := by
  have K1 := hid (Gr.alloc (Gr.refl w) #[.slice (some ⟨g, o, none⟩) n cap, vf, vt] 26)
  have HD := hid hd
  have HNM := hid (fun (W : World) => rname_yes k k1 k2 W)
  have HSH := hid (fun (W : World) => rshape_yes k k1 k2 W)
  rw [hs] at HSH
  have HHS := hid (has_1)
  have HD0 := hid (fun (W : World) => decimal_any q1 _hq.1.2 _hq.1.1.2 W)
  have z0 := itB_size q1 _hq.1.1.1 _hq.1.1.2
  have znm := nm_le k
  have hfin : insT k q1 q2 q3 q4 = ((nm k) ++ { data := #[32, 114] }) ++ itB q1 := by
    unfold insT
    rw [hs]
    simp only [fN, fR, List.take, rgT, List.foldl, Nat.zero_ne_one, if_false, ba_assoc]
  rw [hfin]
  obtain ⟨s0, hs0⟩ : ∃ s, s = nm k := ⟨_, rfl⟩
  rw [← hs0] at HNM znm ⊢
  obtain ⟨d0, hd0⟩ : ∃ s, s = itB q1 := ⟨_, rfl⟩
  rw [← hd0] at HD0 z0 ⊢
  have j0 : ¬ (j : Int) < 0 := by omega
  have j1 : (j : Int) < (n : Int) := by omega
  have j2 : ¬ (n : Int) ≤ (j : Int) := by omega
  have gne : ¬ g = w.heap.size := by omega
  clear hd hfin hs0 hs k1 k2 hd0
  go_enter Tryz.func15, Tryz.ntmps15
  go_wp2_with fail
  refine (HD.out _).mono ?_
  rintro e w1 ⟨rfl, g1⟩
  have G1 := hid (Gr.trans K1.out g1)
  have BI := hid (MapKept.heap_alloc w1 (.cells #[.int .i64 (k : Nat), .int .i64 q1, .int .i64 q2, .int .i64 q3, .int .i64 q4] 67)).1
  have GV := hid (Ch.alloc G1.out (.cells #[.int .i64 (k : Nat), .int .i64 q1, .int .i64 q2, .int .i64 q3, .int .i64 q4] 67))
  clear g1 c0
  go_wp2_with fail
  generalize w1.alloc (.cells #[.int .i64 (k : Nat), .int .i64 q1, .int .i64 q2, .int .i64 q3, .int .i64 q4] 67) = V0 at BI GV ⊢
  obtain ⟨kI, hkI⟩ : ∃ k, k = w1.heap.size := ⟨_, rfl⟩
  rw [← hkI] at BI ⊢
  clear hkI
  refine (HNM.out _).mono ?_
  rintro e V1 ⟨rfl, gg⟩
  have B1 := hid (gr_blk BI.out gg)
  have G1x := hid (Gr.trans GV.out gg)
  clear gg
  have i0 : V1.cell? ⟨kI, 0, none⟩ = some (.int .i64 (k : Nat)) := (cell_of B1.out 0).trans rfl
  have i1 : V1.cell? ⟨kI, 1, none⟩ = some (.int .i64 q1) := (cell_of B1.out 1).trans rfl
  have i2 : V1.cell? ⟨kI, 2, none⟩ = some (.int .i64 q2) := (cell_of B1.out 2).trans rfl
  have i3 : V1.cell? ⟨kI, 3, none⟩ = some (.int .i64 q3) := (cell_of B1.out 3).trans rfl
  have i4 : V1.cell? ⟨kI, 4, none⟩ = some (.int .i64 q4) := (cell_of B1.out 4).trans rfl
  go_wp2_with fail
  refine (HSH.out _).mono ?_
  rintro e V2 ⟨rfl, gg⟩
  have B2 := hid (gr_blk B1.out gg)
  have G2x := hid (Gr.trans G1x.out gg)
  clear gg
  clear i0 i1 i2 i3 i4
  have i0 : V2.cell? ⟨kI, 0, none⟩ = some (.int .i64 (k : Nat)) := (cell_of B2.out 0).trans rfl
  have i1 : V2.cell? ⟨kI, 1, none⟩ = some (.int .i64 q1) := (cell_of B2.out 1).trans rfl
  have i2 : V2.cell? ⟨kI, 2, none⟩ = some (.int .i64 q2) := (cell_of B2.out 2).trans rfl
  have i3 : V2.cell? ⟨kI, 3, none⟩ = some (.int .i64 q3) := (cell_of B2.out 3).trans rfl
  have i4 : V2.cell? ⟨kI, 4, none⟩ = some (.int .i64 q4) := (cell_of B2.out 4).trans rfl
  go_wp2_with fail
  refine (HHS.out _).mono ?_
  rintro e VV ⟨rfl, hw⟩
  have hw := hw.symm
  subst hw
  go_wp2_with fail
  refine (HD0.out _).mono ?_
  rintro e V3 ⟨rfl, gg⟩
  have B3 := hid (gr_blk B2.out gg)
  have G3x := hid (Gr.trans G2x.out gg)
  clear gg
  clear i0 i1 i2 i3 i4
  have i0 : V3.cell? ⟨kI, 0, none⟩ = some (.int .i64 (k : Nat)) := (cell_of B3.out 0).trans rfl
  have i1 : V3.cell? ⟨kI, 1, none⟩ = some (.int .i64 q1) := (cell_of B3.out 1).trans rfl
  have i2 : V3.cell? ⟨kI, 2, none⟩ = some (.int .i64 q2) := (cell_of B3.out 2).trans rfl
  have i3 : V3.cell? ⟨kI, 3, none⟩ = some (.int .i64 q3) := (cell_of B3.out 3).trans rfl
  have i4 : V3.cell? ⟨kI, 4, none⟩ = some (.int .i64 q4) := (cell_of B3.out 4).trans rfl
  go_wp2
  go_ret2
  exact ⟨rfl, G3x.out⟩

set_option maxHeartbeats 1000000 in
set_option maxRecDepth 20000 in
theorem rline_2 (w : World) (g o n cap j : Nat) (vf vt : Value) (x q1 q2 q3 q4 : Int) (k : Nat) (k1 : 1 ≤ k) (k2 : k < 59) (hs : sh k = 2) (hgl : g < w.heap.size) (hj : j < n) (c0 : w.cell? ⟨g, o + j, none⟩ = some (.int .u32 x))
    (hd : ∀ W : World, Calls Tryz.prog 32 #[.int .u32 x] W fun e w' => e = .returned (.tuple #[.agg #[.int .i64 (k : Nat), .int .i64 q1, .int .i64 q2, .int .i64 q3, .int .i64 q4], .int .i64 0]) ∧ Gr W w') (_hq : Bq q1 q2 q3 q4) :
    Calls Tryz.prog 15 #[.agg #[.slice (some ⟨g, o, none⟩) n cap, vf, vt], .int .i64 (j : Int)] w fun e w' => e = .returned (.tuple #[.string (insT k q1 q2 q3 q4), .int .i64 0]) ∧ Gr w w' := by
  have K1 := hid (Gr.alloc (Gr.refl w) #[.slice (some ⟨g, o, none⟩) n cap, vf, vt] 26)
  have HD := hid hd
  have HNM := hid (fun (W : World) => rname_yes k k1 k2 W)
  have HSH := hid (fun (W : World) => rshape_yes k k1 k2 W)
  rw [hs] at HSH
  have HHS := hid (has_2)
  have HD0 := hid (fun (W : World) => decimal_any q1 _hq.1.2 _hq.1.1.2 W)
  have z0 := itB_size q1 _hq.1.1.1 _hq.1.1.2
  have HD1 := hid (fun (W : World) => decimal_any q2 _hq.2.1.2 _hq.2.1.1.2 W)
  have z1 := itB_size q2 _hq.2.1.1.1 _hq.2.1.1.2
  have znm := nm_le k
  have hfin : insT k q1 q2 q3 q4 = ((((nm k) ++ { data := #[32, 114] }) ++ itB q1) ++ { data := #[32, 114] }) ++ itB q2 := by
    unfold insT
    rw [hs]
    simp only [fN, fR, List.take, rgT, List.foldl, Nat.zero_ne_one, if_false, ba_assoc]
  rw [hfin]
  obtain ⟨s0, hs0⟩ : ∃ s, s = nm k := ⟨_, rfl⟩
  rw [← hs0] at HNM znm ⊢
  obtain ⟨d0, hd0⟩ : ∃ s, s = itB q1 := ⟨_, rfl⟩
  rw [← hd0] at HD0 z0 ⊢
  obtain ⟨d1, hd1⟩ : ∃ s, s = itB q2 := ⟨_, rfl⟩
  rw [← hd1] at HD1 z1 ⊢
  have j0 : ¬ (j : Int) < 0 := by omega
  have j1 : (j : Int) < (n : Int) := by omega
  have j2 : ¬ (n : Int) ≤ (j : Int) := by omega
  have gne : ¬ g = w.heap.size := by omega
  clear hd hfin hs0 hs k1 k2 hd0 hd1
  go_enter Tryz.func15, Tryz.ntmps15
  go_wp2_with fail
  refine (HD.out _).mono ?_
  rintro e w1 ⟨rfl, g1⟩
  have G1 := hid (Gr.trans K1.out g1)
  have BI := hid (MapKept.heap_alloc w1 (.cells #[.int .i64 (k : Nat), .int .i64 q1, .int .i64 q2, .int .i64 q3, .int .i64 q4] 67)).1
  have GV := hid (Ch.alloc G1.out (.cells #[.int .i64 (k : Nat), .int .i64 q1, .int .i64 q2, .int .i64 q3, .int .i64 q4] 67))
  clear g1 c0
  go_wp2_with fail
  generalize w1.alloc (.cells #[.int .i64 (k : Nat), .int .i64 q1, .int .i64 q2, .int .i64 q3, .int .i64 q4] 67) = V0 at BI GV ⊢
  obtain ⟨kI, hkI⟩ : ∃ k, k = w1.heap.size := ⟨_, rfl⟩
  rw [← hkI] at BI ⊢
  clear hkI
  refine (HNM.out _).mono ?_
  rintro e V1 ⟨rfl, gg⟩
  have B1 := hid (gr_blk BI.out gg)
  have G1x := hid (Gr.trans GV.out gg)
  clear gg
  have i0 : V1.cell? ⟨kI, 0, none⟩ = some (.int .i64 (k : Nat)) := (cell_of B1.out 0).trans rfl
  have i1 : V1.cell? ⟨kI, 1, none⟩ = some (.int .i64 q1) := (cell_of B1.out 1).trans rfl
  have i2 : V1.cell? ⟨kI, 2, none⟩ = some (.int .i64 q2) := (cell_of B1.out 2).trans rfl
  have i3 : V1.cell? ⟨kI, 3, none⟩ = some (.int .i64 q3) := (cell_of B1.out 3).trans rfl
  have i4 : V1.cell? ⟨kI, 4, none⟩ = some (.int .i64 q4) := (cell_of B1.out 4).trans rfl
  go_wp2_with fail
  refine (HSH.out _).mono ?_
  rintro e V2 ⟨rfl, gg⟩
  have B2 := hid (gr_blk B1.out gg)
  have G2x := hid (Gr.trans G1x.out gg)
  clear gg
  clear i0 i1 i2 i3 i4
  have i0 : V2.cell? ⟨kI, 0, none⟩ = some (.int .i64 (k : Nat)) := (cell_of B2.out 0).trans rfl
  have i1 : V2.cell? ⟨kI, 1, none⟩ = some (.int .i64 q1) := (cell_of B2.out 1).trans rfl
  have i2 : V2.cell? ⟨kI, 2, none⟩ = some (.int .i64 q2) := (cell_of B2.out 2).trans rfl
  have i3 : V2.cell? ⟨kI, 3, none⟩ = some (.int .i64 q3) := (cell_of B2.out 3).trans rfl
  have i4 : V2.cell? ⟨kI, 4, none⟩ = some (.int .i64 q4) := (cell_of B2.out 4).trans rfl
  go_wp2_with fail
  refine (HHS.out _).mono ?_
  rintro e VV ⟨rfl, hw⟩
  have hw := hw.symm
  subst hw
  go_wp2_with fail
  refine (HD0.out _).mono ?_
  rintro e V3 ⟨rfl, gg⟩
  have B3 := hid (gr_blk B2.out gg)
  have G3x := hid (Gr.trans G2x.out gg)
  clear gg
  clear i0 i1 i2 i3 i4
  have i0 : V3.cell? ⟨kI, 0, none⟩ = some (.int .i64 (k : Nat)) := (cell_of B3.out 0).trans rfl
  have i1 : V3.cell? ⟨kI, 1, none⟩ = some (.int .i64 q1) := (cell_of B3.out 1).trans rfl
  have i2 : V3.cell? ⟨kI, 2, none⟩ = some (.int .i64 q2) := (cell_of B3.out 2).trans rfl
  have i3 : V3.cell? ⟨kI, 3, none⟩ = some (.int .i64 q3) := (cell_of B3.out 3).trans rfl
  have i4 : V3.cell? ⟨kI, 4, none⟩ = some (.int .i64 q4) := (cell_of B3.out 4).trans rfl
  go_wp2_with fail
  refine (HD1.out _).mono ?_
  rintro e V4 ⟨rfl, gg⟩
  have B4 := hid (gr_blk B3.out gg)
  have G4x := hid (Gr.trans G3x.out gg)
  clear gg
  clear i0 i1 i2 i3 i4
  have i0 : V4.cell? ⟨kI, 0, none⟩ = some (.int .i64 (k : Nat)) := (cell_of B4.out 0).trans rfl
  have i1 : V4.cell? ⟨kI, 1, none⟩ = some (.int .i64 q1) := (cell_of B4.out 1).trans rfl
  have i2 : V4.cell? ⟨kI, 2, none⟩ = some (.int .i64 q2) := (cell_of B4.out 2).trans rfl
  have i3 : V4.cell? ⟨kI, 3, none⟩ = some (.int .i64 q3) := (cell_of B4.out 3).trans rfl
  have i4 : V4.cell? ⟨kI, 4, none⟩ = some (.int .i64 q4) := (cell_of B4.out 4).trans rfl
  go_wp2
  go_ret2
  exact ⟨rfl, G4x.out⟩

set_option maxHeartbeats 1000000 in
set_option maxRecDepth 20000 in
theorem rline_3 (w : World) (g o n cap j : Nat) (vf vt : Value) (x q1 q2 q3 q4 : Int) (k : Nat) (k1 : 1 ≤ k) (k2 : k < 59) (hs : sh k = 3) (hgl : g < w.heap.size) (hj : j < n) (c0 : w.cell? ⟨g, o + j, none⟩ = some (.int .u32 x))
    (hd : ∀ W : World, Calls Tryz.prog 32 #[.int .u32 x] W fun e w' => e = .returned (.tuple #[.agg #[.int .i64 (k : Nat), .int .i64 q1, .int .i64 q2, .int .i64 q3, .int .i64 q4], .int .i64 0]) ∧ Gr W w') (_hq : Bq q1 q2 q3 q4) :
    Calls Tryz.prog 15 #[.agg #[.slice (some ⟨g, o, none⟩) n cap, vf, vt], .int .i64 (j : Int)] w fun e w' => e = .returned (.tuple #[.string (insT k q1 q2 q3 q4), .int .i64 0]) ∧ Gr w w' := by
  have K1 := hid (Gr.alloc (Gr.refl w) #[.slice (some ⟨g, o, none⟩) n cap, vf, vt] 26)
  have HD := hid hd
  have HNM := hid (fun (W : World) => rname_yes k k1 k2 W)
  have HSH := hid (fun (W : World) => rshape_yes k k1 k2 W)
  rw [hs] at HSH
  have HHS := hid (has_3)
  have HD0 := hid (fun (W : World) => decimal_any q1 _hq.1.2 _hq.1.1.2 W)
  have z0 := itB_size q1 _hq.1.1.1 _hq.1.1.2
  have HD1 := hid (fun (W : World) => decimal_any q2 _hq.2.1.2 _hq.2.1.1.2 W)
  have z1 := itB_size q2 _hq.2.1.1.1 _hq.2.1.1.2
  have HD2 := hid (fun (W : World) => decimal_any q3 _hq.2.2.1.2 _hq.2.2.1.1.2 W)
  have z2 := itB_size q3 _hq.2.2.1.1.1 _hq.2.2.1.1.2
  have znm := nm_le k
  have hfin : insT k q1 q2 q3 q4 = ((((((nm k) ++ { data := #[32, 114] }) ++ itB q1) ++ { data := #[32, 114] }) ++ itB q2) ++ { data := #[32, 114] }) ++ itB q3 := by
    unfold insT
    rw [hs]
    simp only [fN, fR, List.take, rgT, List.foldl, Nat.zero_ne_one, if_false, ba_assoc]
  rw [hfin]
  obtain ⟨s0, hs0⟩ : ∃ s, s = nm k := ⟨_, rfl⟩
  rw [← hs0] at HNM znm ⊢
  obtain ⟨d0, hd0⟩ : ∃ s, s = itB q1 := ⟨_, rfl⟩
  rw [← hd0] at HD0 z0 ⊢
  obtain ⟨d1, hd1⟩ : ∃ s, s = itB q2 := ⟨_, rfl⟩
  rw [← hd1] at HD1 z1 ⊢
  obtain ⟨d2, hd2⟩ : ∃ s, s = itB q3 := ⟨_, rfl⟩
  rw [← hd2] at HD2 z2 ⊢
  have j0 : ¬ (j : Int) < 0 := by omega
  have j1 : (j : Int) < (n : Int) := by omega
  have j2 : ¬ (n : Int) ≤ (j : Int) := by omega
  have gne : ¬ g = w.heap.size := by omega
  clear hd hfin hs0 hs k1 k2 hd0 hd1 hd2
  go_enter Tryz.func15, Tryz.ntmps15
  go_wp2_with fail
  refine (HD.out _).mono ?_
  rintro e w1 ⟨rfl, g1⟩
  have G1 := hid (Gr.trans K1.out g1)
  have BI := hid (MapKept.heap_alloc w1 (.cells #[.int .i64 (k : Nat), .int .i64 q1, .int .i64 q2, .int .i64 q3, .int .i64 q4] 67)).1
  have GV := hid (Ch.alloc G1.out (.cells #[.int .i64 (k : Nat), .int .i64 q1, .int .i64 q2, .int .i64 q3, .int .i64 q4] 67))
  clear g1 c0
  go_wp2_with fail
  generalize w1.alloc (.cells #[.int .i64 (k : Nat), .int .i64 q1, .int .i64 q2, .int .i64 q3, .int .i64 q4] 67) = V0 at BI GV ⊢
  obtain ⟨kI, hkI⟩ : ∃ k, k = w1.heap.size := ⟨_, rfl⟩
  rw [← hkI] at BI ⊢
  clear hkI
  refine (HNM.out _).mono ?_
  rintro e V1 ⟨rfl, gg⟩
  have B1 := hid (gr_blk BI.out gg)
  have G1x := hid (Gr.trans GV.out gg)
  clear gg
  have i0 : V1.cell? ⟨kI, 0, none⟩ = some (.int .i64 (k : Nat)) := (cell_of B1.out 0).trans rfl
  have i1 : V1.cell? ⟨kI, 1, none⟩ = some (.int .i64 q1) := (cell_of B1.out 1).trans rfl
  have i2 : V1.cell? ⟨kI, 2, none⟩ = some (.int .i64 q2) := (cell_of B1.out 2).trans rfl
  have i3 : V1.cell? ⟨kI, 3, none⟩ = some (.int .i64 q3) := (cell_of B1.out 3).trans rfl
  have i4 : V1.cell? ⟨kI, 4, none⟩ = some (.int .i64 q4) := (cell_of B1.out 4).trans rfl
  go_wp2_with fail
  refine (HSH.out _).mono ?_
  rintro e V2 ⟨rfl, gg⟩
  have B2 := hid (gr_blk B1.out gg)
  have G2x := hid (Gr.trans G1x.out gg)
  clear gg
  clear i0 i1 i2 i3 i4
  have i0 : V2.cell? ⟨kI, 0, none⟩ = some (.int .i64 (k : Nat)) := (cell_of B2.out 0).trans rfl
  have i1 : V2.cell? ⟨kI, 1, none⟩ = some (.int .i64 q1) := (cell_of B2.out 1).trans rfl
  have i2 : V2.cell? ⟨kI, 2, none⟩ = some (.int .i64 q2) := (cell_of B2.out 2).trans rfl
  have i3 : V2.cell? ⟨kI, 3, none⟩ = some (.int .i64 q3) := (cell_of B2.out 3).trans rfl
  have i4 : V2.cell? ⟨kI, 4, none⟩ = some (.int .i64 q4) := (cell_of B2.out 4).trans rfl
  go_wp2_with fail
  refine (HHS.out _).mono ?_
  rintro e VV ⟨rfl, hw⟩
  have hw := hw.symm
  subst hw
  go_wp2_with fail
  refine (HD0.out _).mono ?_
  rintro e V3 ⟨rfl, gg⟩
  have B3 := hid (gr_blk B2.out gg)
  have G3x := hid (Gr.trans G2x.out gg)
  clear gg
  clear i0 i1 i2 i3 i4
  have i0 : V3.cell? ⟨kI, 0, none⟩ = some (.int .i64 (k : Nat)) := (cell_of B3.out 0).trans rfl
  have i1 : V3.cell? ⟨kI, 1, none⟩ = some (.int .i64 q1) := (cell_of B3.out 1).trans rfl
  have i2 : V3.cell? ⟨kI, 2, none⟩ = some (.int .i64 q2) := (cell_of B3.out 2).trans rfl
  have i3 : V3.cell? ⟨kI, 3, none⟩ = some (.int .i64 q3) := (cell_of B3.out 3).trans rfl
  have i4 : V3.cell? ⟨kI, 4, none⟩ = some (.int .i64 q4) := (cell_of B3.out 4).trans rfl
  go_wp2_with fail
  refine (HD1.out _).mono ?_
  rintro e V4 ⟨rfl, gg⟩
  have B4 := hid (gr_blk B3.out gg)
  have G4x := hid (Gr.trans G3x.out gg)
  clear gg
  clear i0 i1 i2 i3 i4
  have i0 : V4.cell? ⟨kI, 0, none⟩ = some (.int .i64 (k : Nat)) := (cell_of B4.out 0).trans rfl
  have i1 : V4.cell? ⟨kI, 1, none⟩ = some (.int .i64 q1) := (cell_of B4.out 1).trans rfl
  have i2 : V4.cell? ⟨kI, 2, none⟩ = some (.int .i64 q2) := (cell_of B4.out 2).trans rfl
  have i3 : V4.cell? ⟨kI, 3, none⟩ = some (.int .i64 q3) := (cell_of B4.out 3).trans rfl
  have i4 : V4.cell? ⟨kI, 4, none⟩ = some (.int .i64 q4) := (cell_of B4.out 4).trans rfl
  go_wp2_with fail
  refine (HD2.out _).mono ?_
  rintro e V5 ⟨rfl, gg⟩
  have B5 := hid (gr_blk B4.out gg)
  have G5x := hid (Gr.trans G4x.out gg)
  clear gg
  clear i0 i1 i2 i3 i4
  have i0 : V5.cell? ⟨kI, 0, none⟩ = some (.int .i64 (k : Nat)) := (cell_of B5.out 0).trans rfl
  have i1 : V5.cell? ⟨kI, 1, none⟩ = some (.int .i64 q1) := (cell_of B5.out 1).trans rfl
  have i2 : V5.cell? ⟨kI, 2, none⟩ = some (.int .i64 q2) := (cell_of B5.out 2).trans rfl
  have i3 : V5.cell? ⟨kI, 3, none⟩ = some (.int .i64 q3) := (cell_of B5.out 3).trans rfl
  have i4 : V5.cell? ⟨kI, 4, none⟩ = some (.int .i64 q4) := (cell_of B5.out 4).trans rfl
  go_wp2
  go_ret2
  exact ⟨rfl, G5x.out⟩

set_option maxHeartbeats 1000000 in
set_option maxRecDepth 20000 in
theorem rline_4 (w : World) (g o n cap j : Nat) (vf vt : Value) (x q1 q2 q3 q4 : Int) (k : Nat) (k1 : 1 ≤ k) (k2 : k < 59) (hs : sh k = 4) (hgl : g < w.heap.size) (hj : j < n) (c0 : w.cell? ⟨g, o + j, none⟩ = some (.int .u32 x))
    (hd : ∀ W : World, Calls Tryz.prog 32 #[.int .u32 x] W fun e w' => e = .returned (.tuple #[.agg #[.int .i64 (k : Nat), .int .i64 q1, .int .i64 q2, .int .i64 q3, .int .i64 q4], .int .i64 0]) ∧ Gr W w') (_hq : Bq q1 q2 q3 q4) :
    Calls Tryz.prog 15 #[.agg #[.slice (some ⟨g, o, none⟩) n cap, vf, vt], .int .i64 (j : Int)] w fun e w' => e = .returned (.tuple #[.string (insT k q1 q2 q3 q4), .int .i64 0]) ∧ Gr w w' := by
  have K1 := hid (Gr.alloc (Gr.refl w) #[.slice (some ⟨g, o, none⟩) n cap, vf, vt] 26)
  have HD := hid hd
  have HNM := hid (fun (W : World) => rname_yes k k1 k2 W)
  have HSH := hid (fun (W : World) => rshape_yes k k1 k2 W)
  rw [hs] at HSH
  have HHS := hid (has_4)
  have HAH := hid (ahead_any (k : Nat))
  have HDM := hid (fun (W : World) => decimal_any q4 _hq.2.2.2.2 _hq.2.2.2.1.2 W)
  have zm := itB_size q4 _hq.2.2.2.1.1 _hq.2.2.2.1.2
  have za : (ahd (k : Nat)).size ≤ 1 := by unfold ahd; repeat' split
                                           all_goals decide
  have znm := nm_le k
  have hfin : insT k q1 q2 q3 q4 = (((nm k) ++ { data := #[32] }) ++ ahd (k : Nat)) ++ itB q4 := by
    unfold insT
    rw [hs]
    simp only [fN, fR, List.take, rgT, List.foldl, if_true, ← ahd_cal, ba_assoc]
  rw [hfin]
  obtain ⟨s0, hs0⟩ : ∃ s, s = nm k := ⟨_, rfl⟩
  rw [← hs0] at HNM znm ⊢
  obtain ⟨dm, hdm⟩ : ∃ s, s = itB q4 := ⟨_, rfl⟩
  rw [← hdm] at HDM zm ⊢
  obtain ⟨ah, hah⟩ : ∃ s, s = ahd (k : Nat) := ⟨_, rfl⟩
  rw [← hah] at HAH za ⊢
  have j0 : ¬ (j : Int) < 0 := by omega
  have j1 : (j : Int) < (n : Int) := by omega
  have j2 : ¬ (n : Int) ≤ (j : Int) := by omega
  have gne : ¬ g = w.heap.size := by omega
  have u1 : ¬ 9223372036854775807 < s0.size + 1 := by omega
  have u2 : ¬ 9223372036854775807 < s0.size + 1 + ah.size := by omega
  have u3 : ¬ 9223372036854775807 < s0.size + 1 + ah.size + dm.size := by omega
  clear hd hfin hs0 hs k1 k2 hdm hah
  go_enter Tryz.func15, Tryz.ntmps15
  go_wp2_with fail
  refine (HD.out _).mono ?_
  rintro e w1 ⟨rfl, g1⟩
  have G1 := hid (Gr.trans K1.out g1)
  have BI := hid (MapKept.heap_alloc w1 (.cells #[.int .i64 (k : Nat), .int .i64 q1, .int .i64 q2, .int .i64 q3, .int .i64 q4] 67)).1
  have GV := hid (Ch.alloc G1.out (.cells #[.int .i64 (k : Nat), .int .i64 q1, .int .i64 q2, .int .i64 q3, .int .i64 q4] 67))
  clear g1 c0
  go_wp2_with fail
  generalize w1.alloc (.cells #[.int .i64 (k : Nat), .int .i64 q1, .int .i64 q2, .int .i64 q3, .int .i64 q4] 67) = V0 at BI GV ⊢
  obtain ⟨kI, hkI⟩ : ∃ k, k = w1.heap.size := ⟨_, rfl⟩
  rw [← hkI] at BI ⊢
  clear hkI
  refine (HNM.out _).mono ?_
  rintro e V1 ⟨rfl, gg⟩
  have B1 := hid (gr_blk BI.out gg)
  have G1x := hid (Gr.trans GV.out gg)
  clear gg
  have i0 : V1.cell? ⟨kI, 0, none⟩ = some (.int .i64 (k : Nat)) := (cell_of B1.out 0).trans rfl
  have i1 : V1.cell? ⟨kI, 1, none⟩ = some (.int .i64 q1) := (cell_of B1.out 1).trans rfl
  have i2 : V1.cell? ⟨kI, 2, none⟩ = some (.int .i64 q2) := (cell_of B1.out 2).trans rfl
  have i3 : V1.cell? ⟨kI, 3, none⟩ = some (.int .i64 q3) := (cell_of B1.out 3).trans rfl
  have i4 : V1.cell? ⟨kI, 4, none⟩ = some (.int .i64 q4) := (cell_of B1.out 4).trans rfl
  go_wp2_with fail
  refine (HSH.out _).mono ?_
  rintro e V2 ⟨rfl, gg⟩
  have B2 := hid (gr_blk B1.out gg)
  have G2x := hid (Gr.trans G1x.out gg)
  clear gg
  clear i0 i1 i2 i3 i4
  have i0 : V2.cell? ⟨kI, 0, none⟩ = some (.int .i64 (k : Nat)) := (cell_of B2.out 0).trans rfl
  have i1 : V2.cell? ⟨kI, 1, none⟩ = some (.int .i64 q1) := (cell_of B2.out 1).trans rfl
  have i2 : V2.cell? ⟨kI, 2, none⟩ = some (.int .i64 q2) := (cell_of B2.out 2).trans rfl
  have i3 : V2.cell? ⟨kI, 3, none⟩ = some (.int .i64 q3) := (cell_of B2.out 3).trans rfl
  have i4 : V2.cell? ⟨kI, 4, none⟩ = some (.int .i64 q4) := (cell_of B2.out 4).trans rfl
  go_wp2_with fail
  refine (HHS.out _).mono ?_
  rintro e VV ⟨rfl, hw⟩
  have hw := hw.symm
  subst hw
  have lK := lt_of_block B2.out
  go_wp2_with fail
  have hS0 : (fun w' => w'.cell? ⟨kI, 0, none⟩ = some (.int .i64 (k : Nat)) ∧ w'.cell? ⟨kI, 4, none⟩ = some (.int .i64 q4) ∧ kI < w'.heap.size) V2.drew := ⟨i0, i4, lK⟩
  refine wp_region_held_drew (S := fun w' => w'.cell? ⟨kI, 0, none⟩ = some (.int .i64 (k : Nat)) ∧ w'.cell? ⟨kI, 4, none⟩ = some (.int .i64 q4) ∧ kI < w'.heap.size) (by kernel_rfl) (by exact hS0) (fun hSx => ?_)
  clear hSx
  refine takeS_on (i := 0) 85 (v := ?v18) rfl rfl (by kernel_rfl) (by kernel_rfl) (by kernel_rfl) (fun _ _ _ h => h) (by kernel_rfl) ?hy18 (by exact hS0) ?_
  case hy18 => (intro w' hSw; go_simp; try (with_reducible rfl))
  simp only [Act.put, List.setIfInBounds_toArray, List.set_cons_zero, List.set_cons_succ]
  refine takeS_on (i := 1) 86 (v := ?v19) rfl rfl (by kernel_rfl) (by kernel_rfl) (by kernel_rfl) (fun _ _ _ h => h) (by kernel_rfl) ?hy19 (by exact hS0) ?_
  case hy19 => (intro w' hSw; go_simp; try (with_reducible rfl))
  simp only [Act.put, List.setIfInBounds_toArray, List.set_cons_zero, List.set_cons_succ]
  refine takeS_on (i := 2) 87 (v := ?v20) rfl rfl (by kernel_rfl) (by kernel_rfl) (by kernel_rfl) (fun _ _ _ h => h) (by kernel_rfl) ?hy20 (by exact hS0) ?_
  case hy20 => (intro w' hSw; go_simp; try (with_reducible rfl))
  simp only [Act.put, List.setIfInBounds_toArray, List.set_cons_zero, List.set_cons_succ]
  refine takeS_on (i := 3) 88 (v := ?v21) rfl rfl (by kernel_rfl) (by kernel_rfl) (by kernel_rfl) (fun _ _ _ h => h) (by kernel_rfl) ?hy21 (by exact hS0) ?_
  case hy21 => (intro w' hSw; go_simp; try (with_reducible rfl))
  simp only [Act.put, List.setIfInBounds_toArray, List.set_cons_zero, List.set_cons_succ]
  refine takeS_on (i := 6) 91 (v := ?v22) rfl rfl (by kernel_rfl) (by kernel_rfl) (by kernel_rfl) (fun _ _ _ h => h) (by kernel_rfl) ?hy22 (by exact hS0) ?_
  case hy22 => (intro w' hSw; go_simp; try (with_reducible rfl))
  simp only [Act.put, List.setIfInBounds_toArray, List.set_cons_zero, List.set_cons_succ]
  refine takeS_on (i := 7) 92 (v := ?v23) rfl rfl (by kernel_rfl) (by kernel_rfl) (by kernel_rfl) (fun _ _ _ h => h) (by kernel_rfl) ?hy23 (by exact hS0) ?_
  case hy23 => (intro w' hSw; go_simp; try (with_reducible rfl))
  simp only [Act.put, List.setIfInBounds_toArray, List.set_cons_zero, List.set_cons_succ]
  refine wpAnyH_ready (rs := [4]) (by kernel_rfl) (by simp) (AllReadyH.cons rfl (fun K hK => ?_) AllReadyH.nil)
  go_simp
  refine (HAH.out _).mono ?_
  rintro e w8 ⟨rfl, hw8⟩
  have hw8 := hw8.symm
  subst hw8
  refine hK.out _ _ (by exact hS0) (fun hSx => ?_)
  clear hSx hK K
  refine takeS_on (i := 5) 90 (v := ?v24) rfl rfl (by kernel_rfl) (by kernel_rfl) (by kernel_rfl) (fun _ _ _ h => h) (by kernel_rfl) ?hy24 (by exact hS0) ?_
  case hy24 => (intro w' hSw; go_simp; try (with_reducible rfl))
  simp only [Act.put, List.setIfInBounds_toArray, List.set_cons_zero, List.set_cons_succ]
  refine wpAnyH_ready (rs := [8]) (by kernel_rfl) (by simp) (AllReadyH.cons rfl (fun K hK => ?_) AllReadyH.nil)
  go_simp
  refine (HDM.out _).mono ?_
  rintro e w9 ⟨rfl, g9⟩
  have hS9 : (fun w' => w'.cell? ⟨kI, 0, none⟩ = some (.int .i64 (k : Nat)) ∧ w'.cell? ⟨kI, 4, none⟩ = some (.int .i64 q4) ∧ kI < w'.heap.size) w9 := ⟨(Ch.cell g9 lK (noB _)).trans i0, (Ch.cell g9 lK (noB _)).trans i4, Nat.lt_of_lt_of_le lK g9.size⟩
  have G9 := hid (Gr.trans G2x.out (Gr.trans (Ch.drew (Gr.refl V2)) g9))
  clear g9
  refine hK.out _ _ (by exact hS9) (fun hSx => ?_)
  clear hSx hK K
  refine takeS_on (i := 9) 94 (v := ?v25) rfl rfl (by kernel_rfl) (by kernel_rfl) (by kernel_rfl) (fun _ _ _ h => h) (by kernel_rfl) ?hy25 (by exact hS9) ?_
  case hy25 => (intro w' hSw; go_simp; try (with_reducible rfl))
  simp only [Act.put, List.setIfInBounds_toArray, List.set_cons_zero, List.set_cons_succ]
  refine takeS_on (i := 10) 8 (v := ?v26) rfl rfl (by kernel_rfl) (by kernel_rfl) (by kernel_rfl) (fun _ _ _ h => h) (by kernel_rfl) ?hy26 (by exact hS9) ?_
  case hy26 => (intro w' hSw; go_simp; try (with_reducible rfl))
  simp only [Act.put, List.setIfInBounds_toArray, List.set_cons_zero, List.set_cons_succ]
  refine wpAnyH_done (by kernel_rfl) ?_ _
  clear hS0 hS9
  go_wp2
  go_ret2
  exact ⟨rfl, G9.out⟩

set_option maxHeartbeats 1000000 in
set_option maxRecDepth 20000 in
theorem rline_5 (w : World) (g o n cap j : Nat) (vf vt : Value) (x q1 q2 q3 q4 : Int) (k : Nat) (k1 : 1 ≤ k) (k2 : k < 59) (hs : sh k = 5) (hgl : g < w.heap.size) (hj : j < n) (c0 : w.cell? ⟨g, o + j, none⟩ = some (.int .u32 x))
    (hd : ∀ W : World, Calls Tryz.prog 32 #[.int .u32 x] W fun e w' => e = .returned (.tuple #[.agg #[.int .i64 (k : Nat), .int .i64 q1, .int .i64 q2, .int .i64 q3, .int .i64 q4], .int .i64 0]) ∧ Gr W w') (_hq : Bq q1 q2 q3 q4) :
    Calls Tryz.prog 15 #[.agg #[.slice (some ⟨g, o, none⟩) n cap, vf, vt], .int .i64 (j : Int)] w fun e w' => e = .returned (.tuple #[.string (insT k q1 q2 q3 q4), .int .i64 0]) ∧ Gr w w' := by
  have K1 := hid (Gr.alloc (Gr.refl w) #[.slice (some ⟨g, o, none⟩) n cap, vf, vt] 26)
  have HD := hid hd
  have HNM := hid (fun (W : World) => rname_yes k k1 k2 W)
  have HSH := hid (fun (W : World) => rshape_yes k k1 k2 W)
  rw [hs] at HSH
  have HHS := hid (has_5)
  have HD0 := hid (fun (W : World) => decimal_any q1 _hq.1.2 _hq.1.1.2 W)
  have z0 := itB_size q1 _hq.1.1.1 _hq.1.1.2
  have HAH := hid (ahead_any (k : Nat))
  have HDM := hid (fun (W : World) => decimal_any q4 _hq.2.2.2.2 _hq.2.2.2.1.2 W)
  have zm := itB_size q4 _hq.2.2.2.1.1 _hq.2.2.2.1.2
  have za : (ahd (k : Nat)).size ≤ 1 := by unfold ahd; repeat' split
                                           all_goals decide
  have znm := nm_le k
  have hfin : insT k q1 q2 q3 q4 = (((((nm k) ++ { data := #[32, 114] }) ++ itB q1) ++ { data := #[32] }) ++ ahd (k : Nat)) ++ itB q4 := by
    unfold insT
    rw [hs]
    simp only [fN, fR, List.take, rgT, List.foldl, if_true, ← ahd_cal, ba_assoc]
  rw [hfin]
  obtain ⟨s0, hs0⟩ : ∃ s, s = nm k := ⟨_, rfl⟩
  rw [← hs0] at HNM znm ⊢
  obtain ⟨d0, hd0⟩ : ∃ s, s = itB q1 := ⟨_, rfl⟩
  rw [← hd0] at HD0 z0 ⊢
  obtain ⟨dm, hdm⟩ : ∃ s, s = itB q4 := ⟨_, rfl⟩
  rw [← hdm] at HDM zm ⊢
  obtain ⟨ah, hah⟩ : ∃ s, s = ahd (k : Nat) := ⟨_, rfl⟩
  rw [← hah] at HAH za ⊢
  have j0 : ¬ (j : Int) < 0 := by omega
  have j1 : (j : Int) < (n : Int) := by omega
  have j2 : ¬ (n : Int) ≤ (j : Int) := by omega
  have gne : ¬ g = w.heap.size := by omega
  have u1 : ¬ 9223372036854775807 < (s0.size + 2 + d0.size) + 1 := by omega
  have u2 : ¬ 9223372036854775807 < (s0.size + 2 + d0.size) + 1 + ah.size := by omega
  have u3 : ¬ 9223372036854775807 < (s0.size + 2 + d0.size) + 1 + ah.size + dm.size := by omega
  clear hd hfin hs0 hs k1 k2 hdm hah hd0
  go_enter Tryz.func15, Tryz.ntmps15
  go_wp2_with fail
  refine (HD.out _).mono ?_
  rintro e w1 ⟨rfl, g1⟩
  have G1 := hid (Gr.trans K1.out g1)
  have BI := hid (MapKept.heap_alloc w1 (.cells #[.int .i64 (k : Nat), .int .i64 q1, .int .i64 q2, .int .i64 q3, .int .i64 q4] 67)).1
  have GV := hid (Ch.alloc G1.out (.cells #[.int .i64 (k : Nat), .int .i64 q1, .int .i64 q2, .int .i64 q3, .int .i64 q4] 67))
  clear g1 c0
  go_wp2_with fail
  generalize w1.alloc (.cells #[.int .i64 (k : Nat), .int .i64 q1, .int .i64 q2, .int .i64 q3, .int .i64 q4] 67) = V0 at BI GV ⊢
  obtain ⟨kI, hkI⟩ : ∃ k, k = w1.heap.size := ⟨_, rfl⟩
  rw [← hkI] at BI ⊢
  clear hkI
  refine (HNM.out _).mono ?_
  rintro e V1 ⟨rfl, gg⟩
  have B1 := hid (gr_blk BI.out gg)
  have G1x := hid (Gr.trans GV.out gg)
  clear gg
  have i0 : V1.cell? ⟨kI, 0, none⟩ = some (.int .i64 (k : Nat)) := (cell_of B1.out 0).trans rfl
  have i1 : V1.cell? ⟨kI, 1, none⟩ = some (.int .i64 q1) := (cell_of B1.out 1).trans rfl
  have i2 : V1.cell? ⟨kI, 2, none⟩ = some (.int .i64 q2) := (cell_of B1.out 2).trans rfl
  have i3 : V1.cell? ⟨kI, 3, none⟩ = some (.int .i64 q3) := (cell_of B1.out 3).trans rfl
  have i4 : V1.cell? ⟨kI, 4, none⟩ = some (.int .i64 q4) := (cell_of B1.out 4).trans rfl
  go_wp2_with fail
  refine (HSH.out _).mono ?_
  rintro e V2 ⟨rfl, gg⟩
  have B2 := hid (gr_blk B1.out gg)
  have G2x := hid (Gr.trans G1x.out gg)
  clear gg
  clear i0 i1 i2 i3 i4
  have i0 : V2.cell? ⟨kI, 0, none⟩ = some (.int .i64 (k : Nat)) := (cell_of B2.out 0).trans rfl
  have i1 : V2.cell? ⟨kI, 1, none⟩ = some (.int .i64 q1) := (cell_of B2.out 1).trans rfl
  have i2 : V2.cell? ⟨kI, 2, none⟩ = some (.int .i64 q2) := (cell_of B2.out 2).trans rfl
  have i3 : V2.cell? ⟨kI, 3, none⟩ = some (.int .i64 q3) := (cell_of B2.out 3).trans rfl
  have i4 : V2.cell? ⟨kI, 4, none⟩ = some (.int .i64 q4) := (cell_of B2.out 4).trans rfl
  go_wp2_with fail
  refine (HHS.out _).mono ?_
  rintro e VV ⟨rfl, hw⟩
  have hw := hw.symm
  subst hw
  go_wp2_with fail
  refine (HD0.out _).mono ?_
  rintro e V3 ⟨rfl, gg⟩
  have B3 := hid (gr_blk B2.out gg)
  have G3x := hid (Gr.trans G2x.out gg)
  clear gg
  clear i0 i1 i2 i3 i4
  have i0 : V3.cell? ⟨kI, 0, none⟩ = some (.int .i64 (k : Nat)) := (cell_of B3.out 0).trans rfl
  have i1 : V3.cell? ⟨kI, 1, none⟩ = some (.int .i64 q1) := (cell_of B3.out 1).trans rfl
  have i2 : V3.cell? ⟨kI, 2, none⟩ = some (.int .i64 q2) := (cell_of B3.out 2).trans rfl
  have i3 : V3.cell? ⟨kI, 3, none⟩ = some (.int .i64 q3) := (cell_of B3.out 3).trans rfl
  have i4 : V3.cell? ⟨kI, 4, none⟩ = some (.int .i64 q4) := (cell_of B3.out 4).trans rfl
  have lK := lt_of_block B3.out
  go_wp2_with fail
  have hS0 : (fun w' => w'.cell? ⟨kI, 0, none⟩ = some (.int .i64 (k : Nat)) ∧ w'.cell? ⟨kI, 4, none⟩ = some (.int .i64 q4) ∧ kI < w'.heap.size) V3.drew := ⟨i0, i4, lK⟩
  refine wp_region_held_drew (S := fun w' => w'.cell? ⟨kI, 0, none⟩ = some (.int .i64 (k : Nat)) ∧ w'.cell? ⟨kI, 4, none⟩ = some (.int .i64 q4) ∧ kI < w'.heap.size) (by kernel_rfl) (by exact hS0) (fun hSx => ?_)
  clear hSx
  refine takeS_on (i := 0) 85 (v := ?v27) rfl rfl (by kernel_rfl) (by kernel_rfl) (by kernel_rfl) (fun _ _ _ h => h) (by kernel_rfl) ?hy27 (by exact hS0) ?_
  case hy27 => (intro w' hSw; go_simp; try (with_reducible rfl))
  simp only [Act.put, List.setIfInBounds_toArray, List.set_cons_zero, List.set_cons_succ]
  refine takeS_on (i := 1) 86 (v := ?v28) rfl rfl (by kernel_rfl) (by kernel_rfl) (by kernel_rfl) (fun _ _ _ h => h) (by kernel_rfl) ?hy28 (by exact hS0) ?_
  case hy28 => (intro w' hSw; go_simp; try (with_reducible rfl))
  simp only [Act.put, List.setIfInBounds_toArray, List.set_cons_zero, List.set_cons_succ]
  refine takeS_on (i := 2) 87 (v := ?v29) rfl rfl (by kernel_rfl) (by kernel_rfl) (by kernel_rfl) (fun _ _ _ h => h) (by kernel_rfl) ?hy29 (by exact hS0) ?_
  case hy29 => (intro w' hSw; go_simp; try (with_reducible rfl))
  simp only [Act.put, List.setIfInBounds_toArray, List.set_cons_zero, List.set_cons_succ]
  refine takeS_on (i := 3) 88 (v := ?v30) rfl rfl (by kernel_rfl) (by kernel_rfl) (by kernel_rfl) (fun _ _ _ h => h) (by kernel_rfl) ?hy30 (by exact hS0) ?_
  case hy30 => (intro w' hSw; go_simp; try (with_reducible rfl))
  simp only [Act.put, List.setIfInBounds_toArray, List.set_cons_zero, List.set_cons_succ]
  refine takeS_on (i := 6) 91 (v := ?v31) rfl rfl (by kernel_rfl) (by kernel_rfl) (by kernel_rfl) (fun _ _ _ h => h) (by kernel_rfl) ?hy31 (by exact hS0) ?_
  case hy31 => (intro w' hSw; go_simp; try (with_reducible rfl))
  simp only [Act.put, List.setIfInBounds_toArray, List.set_cons_zero, List.set_cons_succ]
  refine takeS_on (i := 7) 92 (v := ?v32) rfl rfl (by kernel_rfl) (by kernel_rfl) (by kernel_rfl) (fun _ _ _ h => h) (by kernel_rfl) ?hy32 (by exact hS0) ?_
  case hy32 => (intro w' hSw; go_simp; try (with_reducible rfl))
  simp only [Act.put, List.setIfInBounds_toArray, List.set_cons_zero, List.set_cons_succ]
  refine wpAnyH_ready (rs := [4]) (by kernel_rfl) (by simp) (AllReadyH.cons rfl (fun K hK => ?_) AllReadyH.nil)
  go_simp
  refine (HAH.out _).mono ?_
  rintro e w8 ⟨rfl, hw8⟩
  have hw8 := hw8.symm
  subst hw8
  refine hK.out _ _ (by exact hS0) (fun hSx => ?_)
  clear hSx hK K
  refine takeS_on (i := 5) 90 (v := ?v33) rfl rfl (by kernel_rfl) (by kernel_rfl) (by kernel_rfl) (fun _ _ _ h => h) (by kernel_rfl) ?hy33 (by exact hS0) ?_
  case hy33 => (intro w' hSw; go_simp; try (with_reducible rfl))
  simp only [Act.put, List.setIfInBounds_toArray, List.set_cons_zero, List.set_cons_succ]
  refine wpAnyH_ready (rs := [8]) (by kernel_rfl) (by simp) (AllReadyH.cons rfl (fun K hK => ?_) AllReadyH.nil)
  go_simp
  refine (HDM.out _).mono ?_
  rintro e w9 ⟨rfl, g9⟩
  have hS9 : (fun w' => w'.cell? ⟨kI, 0, none⟩ = some (.int .i64 (k : Nat)) ∧ w'.cell? ⟨kI, 4, none⟩ = some (.int .i64 q4) ∧ kI < w'.heap.size) w9 := ⟨(Ch.cell g9 lK (noB _)).trans i0, (Ch.cell g9 lK (noB _)).trans i4, Nat.lt_of_lt_of_le lK g9.size⟩
  have G9 := hid (Gr.trans G3x.out (Gr.trans (Ch.drew (Gr.refl V3)) g9))
  clear g9
  refine hK.out _ _ (by exact hS9) (fun hSx => ?_)
  clear hSx hK K
  refine takeS_on (i := 9) 94 (v := ?v34) rfl rfl (by kernel_rfl) (by kernel_rfl) (by kernel_rfl) (fun _ _ _ h => h) (by kernel_rfl) ?hy34 (by exact hS9) ?_
  case hy34 => (intro w' hSw; go_simp; try (with_reducible rfl))
  simp only [Act.put, List.setIfInBounds_toArray, List.set_cons_zero, List.set_cons_succ]
  refine takeS_on (i := 10) 8 (v := ?v35) rfl rfl (by kernel_rfl) (by kernel_rfl) (by kernel_rfl) (fun _ _ _ h => h) (by kernel_rfl) ?hy35 (by exact hS9) ?_
  case hy35 => (intro w' hSw; go_simp; try (with_reducible rfl))
  simp only [Act.put, List.setIfInBounds_toArray, List.set_cons_zero, List.set_cons_succ]
  refine wpAnyH_done (by kernel_rfl) ?_ _
  clear hS0 hS9
  go_wp2
  go_ret2
  exact ⟨rfl, G9.out⟩

set_option maxHeartbeats 1000000 in
set_option maxRecDepth 20000 in
theorem rline_6 (w : World) (g o n cap j : Nat) (vf vt : Value) (x q1 q2 q3 q4 : Int) (k : Nat) (k1 : 1 ≤ k) (k2 : k < 59) (hs : sh k = 6) (hgl : g < w.heap.size) (hj : j < n) (c0 : w.cell? ⟨g, o + j, none⟩ = some (.int .u32 x))
    (hd : ∀ W : World, Calls Tryz.prog 32 #[.int .u32 x] W fun e w' => e = .returned (.tuple #[.agg #[.int .i64 (k : Nat), .int .i64 q1, .int .i64 q2, .int .i64 q3, .int .i64 q4], .int .i64 0]) ∧ Gr W w') (_hq : Bq q1 q2 q3 q4) :
    Calls Tryz.prog 15 #[.agg #[.slice (some ⟨g, o, none⟩) n cap, vf, vt], .int .i64 (j : Int)] w fun e w' => e = .returned (.tuple #[.string (insT k q1 q2 q3 q4), .int .i64 0]) ∧ Gr w w' := by
  have K1 := hid (Gr.alloc (Gr.refl w) #[.slice (some ⟨g, o, none⟩) n cap, vf, vt] 26)
  have HD := hid hd
  have HNM := hid (fun (W : World) => rname_yes k k1 k2 W)
  have HSH := hid (fun (W : World) => rshape_yes k k1 k2 W)
  rw [hs] at HSH
  have HHS := hid (has_6)
  have HD0 := hid (fun (W : World) => decimal_any q1 _hq.1.2 _hq.1.1.2 W)
  have z0 := itB_size q1 _hq.1.1.1 _hq.1.1.2
  have HAH := hid (ahead_any (k : Nat))
  have HDM := hid (fun (W : World) => decimal_any q4 _hq.2.2.2.2 _hq.2.2.2.1.2 W)
  have zm := itB_size q4 _hq.2.2.2.1.1 _hq.2.2.2.1.2
  have za : (ahd (k : Nat)).size ≤ 1 := by unfold ahd; repeat' split
                                           all_goals decide
  have znm := nm_le k
  have hfin : insT k q1 q2 q3 q4 = (((((nm k) ++ { data := #[32, 114] }) ++ itB q1) ++ { data := #[32] }) ++ ahd (k : Nat)) ++ itB q4 := by
    unfold insT
    rw [hs]
    simp only [fN, fR, List.take, rgT, List.foldl, if_true, ← ahd_cal, ba_assoc]
  rw [hfin]
  obtain ⟨s0, hs0⟩ : ∃ s, s = nm k := ⟨_, rfl⟩
  rw [← hs0] at HNM znm ⊢
  obtain ⟨d0, hd0⟩ : ∃ s, s = itB q1 := ⟨_, rfl⟩
  rw [← hd0] at HD0 z0 ⊢
  obtain ⟨dm, hdm⟩ : ∃ s, s = itB q4 := ⟨_, rfl⟩
  rw [← hdm] at HDM zm ⊢
  obtain ⟨ah, hah⟩ : ∃ s, s = ahd (k : Nat) := ⟨_, rfl⟩
  rw [← hah] at HAH za ⊢
  have j0 : ¬ (j : Int) < 0 := by omega
  have j1 : (j : Int) < (n : Int) := by omega
  have j2 : ¬ (n : Int) ≤ (j : Int) := by omega
  have gne : ¬ g = w.heap.size := by omega
  have u1 : ¬ 9223372036854775807 < (s0.size + 2 + d0.size) + 1 := by omega
  have u2 : ¬ 9223372036854775807 < (s0.size + 2 + d0.size) + 1 + ah.size := by omega
  have u3 : ¬ 9223372036854775807 < (s0.size + 2 + d0.size) + 1 + ah.size + dm.size := by omega
  clear hd hfin hs0 hs k1 k2 hdm hah hd0
  go_enter Tryz.func15, Tryz.ntmps15
  go_wp2_with fail
  refine (HD.out _).mono ?_
  rintro e w1 ⟨rfl, g1⟩
  have G1 := hid (Gr.trans K1.out g1)
  have BI := hid (MapKept.heap_alloc w1 (.cells #[.int .i64 (k : Nat), .int .i64 q1, .int .i64 q2, .int .i64 q3, .int .i64 q4] 67)).1
  have GV := hid (Ch.alloc G1.out (.cells #[.int .i64 (k : Nat), .int .i64 q1, .int .i64 q2, .int .i64 q3, .int .i64 q4] 67))
  clear g1 c0
  go_wp2_with fail
  generalize w1.alloc (.cells #[.int .i64 (k : Nat), .int .i64 q1, .int .i64 q2, .int .i64 q3, .int .i64 q4] 67) = V0 at BI GV ⊢
  obtain ⟨kI, hkI⟩ : ∃ k, k = w1.heap.size := ⟨_, rfl⟩
  rw [← hkI] at BI ⊢
  clear hkI
  refine (HNM.out _).mono ?_
  rintro e V1 ⟨rfl, gg⟩
  have B1 := hid (gr_blk BI.out gg)
  have G1x := hid (Gr.trans GV.out gg)
  clear gg
  have i0 : V1.cell? ⟨kI, 0, none⟩ = some (.int .i64 (k : Nat)) := (cell_of B1.out 0).trans rfl
  have i1 : V1.cell? ⟨kI, 1, none⟩ = some (.int .i64 q1) := (cell_of B1.out 1).trans rfl
  have i2 : V1.cell? ⟨kI, 2, none⟩ = some (.int .i64 q2) := (cell_of B1.out 2).trans rfl
  have i3 : V1.cell? ⟨kI, 3, none⟩ = some (.int .i64 q3) := (cell_of B1.out 3).trans rfl
  have i4 : V1.cell? ⟨kI, 4, none⟩ = some (.int .i64 q4) := (cell_of B1.out 4).trans rfl
  go_wp2_with fail
  refine (HSH.out _).mono ?_
  rintro e V2 ⟨rfl, gg⟩
  have B2 := hid (gr_blk B1.out gg)
  have G2x := hid (Gr.trans G1x.out gg)
  clear gg
  clear i0 i1 i2 i3 i4
  have i0 : V2.cell? ⟨kI, 0, none⟩ = some (.int .i64 (k : Nat)) := (cell_of B2.out 0).trans rfl
  have i1 : V2.cell? ⟨kI, 1, none⟩ = some (.int .i64 q1) := (cell_of B2.out 1).trans rfl
  have i2 : V2.cell? ⟨kI, 2, none⟩ = some (.int .i64 q2) := (cell_of B2.out 2).trans rfl
  have i3 : V2.cell? ⟨kI, 3, none⟩ = some (.int .i64 q3) := (cell_of B2.out 3).trans rfl
  have i4 : V2.cell? ⟨kI, 4, none⟩ = some (.int .i64 q4) := (cell_of B2.out 4).trans rfl
  go_wp2_with fail
  refine (HHS.out _).mono ?_
  rintro e VV ⟨rfl, hw⟩
  have hw := hw.symm
  subst hw
  go_wp2_with fail
  refine (HD0.out _).mono ?_
  rintro e V3 ⟨rfl, gg⟩
  have B3 := hid (gr_blk B2.out gg)
  have G3x := hid (Gr.trans G2x.out gg)
  clear gg
  clear i0 i1 i2 i3 i4
  have i0 : V3.cell? ⟨kI, 0, none⟩ = some (.int .i64 (k : Nat)) := (cell_of B3.out 0).trans rfl
  have i1 : V3.cell? ⟨kI, 1, none⟩ = some (.int .i64 q1) := (cell_of B3.out 1).trans rfl
  have i2 : V3.cell? ⟨kI, 2, none⟩ = some (.int .i64 q2) := (cell_of B3.out 2).trans rfl
  have i3 : V3.cell? ⟨kI, 3, none⟩ = some (.int .i64 q3) := (cell_of B3.out 3).trans rfl
  have i4 : V3.cell? ⟨kI, 4, none⟩ = some (.int .i64 q4) := (cell_of B3.out 4).trans rfl
  have lK := lt_of_block B3.out
  go_wp2_with fail
  have hS0 : (fun w' => w'.cell? ⟨kI, 0, none⟩ = some (.int .i64 (k : Nat)) ∧ w'.cell? ⟨kI, 4, none⟩ = some (.int .i64 q4) ∧ kI < w'.heap.size) V3.drew := ⟨i0, i4, lK⟩
  refine wp_region_held_drew (S := fun w' => w'.cell? ⟨kI, 0, none⟩ = some (.int .i64 (k : Nat)) ∧ w'.cell? ⟨kI, 4, none⟩ = some (.int .i64 q4) ∧ kI < w'.heap.size) (by kernel_rfl) (by exact hS0) (fun hSx => ?_)
  clear hSx
  refine takeS_on (i := 0) 85 (v := ?v36) rfl rfl (by kernel_rfl) (by kernel_rfl) (by kernel_rfl) (fun _ _ _ h => h) (by kernel_rfl) ?hy36 (by exact hS0) ?_
  case hy36 => (intro w' hSw; go_simp; try (with_reducible rfl))
  simp only [Act.put, List.setIfInBounds_toArray, List.set_cons_zero, List.set_cons_succ]
  refine takeS_on (i := 1) 86 (v := ?v37) rfl rfl (by kernel_rfl) (by kernel_rfl) (by kernel_rfl) (fun _ _ _ h => h) (by kernel_rfl) ?hy37 (by exact hS0) ?_
  case hy37 => (intro w' hSw; go_simp; try (with_reducible rfl))
  simp only [Act.put, List.setIfInBounds_toArray, List.set_cons_zero, List.set_cons_succ]
  refine takeS_on (i := 2) 87 (v := ?v38) rfl rfl (by kernel_rfl) (by kernel_rfl) (by kernel_rfl) (fun _ _ _ h => h) (by kernel_rfl) ?hy38 (by exact hS0) ?_
  case hy38 => (intro w' hSw; go_simp; try (with_reducible rfl))
  simp only [Act.put, List.setIfInBounds_toArray, List.set_cons_zero, List.set_cons_succ]
  refine takeS_on (i := 3) 88 (v := ?v39) rfl rfl (by kernel_rfl) (by kernel_rfl) (by kernel_rfl) (fun _ _ _ h => h) (by kernel_rfl) ?hy39 (by exact hS0) ?_
  case hy39 => (intro w' hSw; go_simp; try (with_reducible rfl))
  simp only [Act.put, List.setIfInBounds_toArray, List.set_cons_zero, List.set_cons_succ]
  refine takeS_on (i := 6) 91 (v := ?v40) rfl rfl (by kernel_rfl) (by kernel_rfl) (by kernel_rfl) (fun _ _ _ h => h) (by kernel_rfl) ?hy40 (by exact hS0) ?_
  case hy40 => (intro w' hSw; go_simp; try (with_reducible rfl))
  simp only [Act.put, List.setIfInBounds_toArray, List.set_cons_zero, List.set_cons_succ]
  refine takeS_on (i := 7) 92 (v := ?v41) rfl rfl (by kernel_rfl) (by kernel_rfl) (by kernel_rfl) (fun _ _ _ h => h) (by kernel_rfl) ?hy41 (by exact hS0) ?_
  case hy41 => (intro w' hSw; go_simp; try (with_reducible rfl))
  simp only [Act.put, List.setIfInBounds_toArray, List.set_cons_zero, List.set_cons_succ]
  refine wpAnyH_ready (rs := [4]) (by kernel_rfl) (by simp) (AllReadyH.cons rfl (fun K hK => ?_) AllReadyH.nil)
  go_simp
  refine (HAH.out _).mono ?_
  rintro e w8 ⟨rfl, hw8⟩
  have hw8 := hw8.symm
  subst hw8
  refine hK.out _ _ (by exact hS0) (fun hSx => ?_)
  clear hSx hK K
  refine takeS_on (i := 5) 90 (v := ?v42) rfl rfl (by kernel_rfl) (by kernel_rfl) (by kernel_rfl) (fun _ _ _ h => h) (by kernel_rfl) ?hy42 (by exact hS0) ?_
  case hy42 => (intro w' hSw; go_simp; try (with_reducible rfl))
  simp only [Act.put, List.setIfInBounds_toArray, List.set_cons_zero, List.set_cons_succ]
  refine wpAnyH_ready (rs := [8]) (by kernel_rfl) (by simp) (AllReadyH.cons rfl (fun K hK => ?_) AllReadyH.nil)
  go_simp
  refine (HDM.out _).mono ?_
  rintro e w9 ⟨rfl, g9⟩
  have hS9 : (fun w' => w'.cell? ⟨kI, 0, none⟩ = some (.int .i64 (k : Nat)) ∧ w'.cell? ⟨kI, 4, none⟩ = some (.int .i64 q4) ∧ kI < w'.heap.size) w9 := ⟨(Ch.cell g9 lK (noB _)).trans i0, (Ch.cell g9 lK (noB _)).trans i4, Nat.lt_of_lt_of_le lK g9.size⟩
  have G9 := hid (Gr.trans G3x.out (Gr.trans (Ch.drew (Gr.refl V3)) g9))
  clear g9
  refine hK.out _ _ (by exact hS9) (fun hSx => ?_)
  clear hSx hK K
  refine takeS_on (i := 9) 94 (v := ?v43) rfl rfl (by kernel_rfl) (by kernel_rfl) (by kernel_rfl) (fun _ _ _ h => h) (by kernel_rfl) ?hy43 (by exact hS9) ?_
  case hy43 => (intro w' hSw; go_simp; try (with_reducible rfl))
  simp only [Act.put, List.setIfInBounds_toArray, List.set_cons_zero, List.set_cons_succ]
  refine takeS_on (i := 10) 8 (v := ?v44) rfl rfl (by kernel_rfl) (by kernel_rfl) (by kernel_rfl) (fun _ _ _ h => h) (by kernel_rfl) ?hy44 (by exact hS9) ?_
  case hy44 => (intro w' hSw; go_simp; try (with_reducible rfl))
  simp only [Act.put, List.setIfInBounds_toArray, List.set_cons_zero, List.set_cons_succ]
  refine wpAnyH_done (by kernel_rfl) ?_ _
  clear hS0 hS9
  go_wp2
  go_ret2
  exact ⟨rfl, G9.out⟩

theorem d_bq (n : Int) (h0 : 0 ≤ n) (h1 : n < 4294967296) (s : Nat) : Bq (dA n) (dB n) (dC s n) (dM s n) := by
  obtain ⟨a, b, c, d⟩ := d_bd n h0 h1 s
  refine ⟨⟨a, ?_⟩, ⟨b, ?_⟩, ⟨c, ?_⟩, ⟨d, ?_⟩⟩
  · unfold dA; omega
  · unfold dB; omega
  · unfold dC lowC; split <;> omega
  · unfold dM lowM
    split
    · omega
    · split
      · split <;> omega
      · omega
theorem rline_op (w : World) (g o n cap j : Nat) (vf vt : Value) (x q1 q2 q3 q4 : Int) (k : Nat) (k1 : 1 ≤ k) (k2 : k < 59) (hgl : g < w.heap.size) (hj : j < n) (c0 : w.cell? ⟨g, o + j, none⟩ = some (.int .u32 x))
    (hd : ∀ W : World, Calls Tryz.prog 32 #[.int .u32 x] W fun e w' => e = .returned (.tuple #[.agg #[.int .i64 (k : Nat), .int .i64 q1, .int .i64 q2, .int .i64 q3, .int .i64 q4], .int .i64 0]) ∧ Gr W w') (hq : Bq q1 q2 q3 q4) :
    Calls Tryz.prog 15 #[.agg #[.slice (some ⟨g, o, none⟩) n cap, vf, vt], .int .i64 (j : Int)] w fun e w' => e = .returned (.tuple #[.string (insT k q1 q2 q3 q4), .int .i64 0]) ∧ Gr w w' := by
  have hl := sh_lt k
  obtain ⟨s, hs⟩ : ∃ s, sh k = s := ⟨_, rfl⟩
  rw [hs] at hl
  match s, hl, hs with
  | 0, _, hs => exact rline_0 w g o n cap j vf vt x q1 q2 q3 q4 k k1 k2 hs hgl hj c0 hd hq
  | 1, _, hs => exact rline_1 w g o n cap j vf vt x q1 q2 q3 q4 k k1 k2 hs hgl hj c0 hd hq
  | 2, _, hs => exact rline_2 w g o n cap j vf vt x q1 q2 q3 q4 k k1 k2 hs hgl hj c0 hd hq
  | 3, _, hs => exact rline_3 w g o n cap j vf vt x q1 q2 q3 q4 k k1 k2 hs hgl hj c0 hd hq
  | 4, _, hs => exact rline_4 w g o n cap j vf vt x q1 q2 q3 q4 k k1 k2 hs hgl hj c0 hd hq
  | 5, _, hs => exact rline_5 w g o n cap j vf vt x q1 q2 q3 q4 k k1 k2 hs hgl hj c0 hd hq
  | 6, _, hs => exact rline_6 w g o n cap j vf vt x q1 q2 q3 q4 k k1 k2 hs hgl hj c0 hd hq

set_option maxHeartbeats 1000000 in
set_option maxRecDepth 20000 in
theorem rline_any (P : Nat → Prop) (w : World) (vc vf vt : Value) (cs : List Int) (at_ : Int) (hl : Ls eU P w vc cs) (hu : U32s cs) :
    Calls Tryz.prog 15 #[.agg #[vc, vf, vt], .int .i64 at_] w fun e w' => e = .returned (.tuple #[.string (lnT cs at_), .int .i64 (lnE cs at_)]) ∧ Gr w w' := by
  obtain ⟨ao, cap, rfl⟩ := hl.form
  obtain ⟨n, hn⟩ : ∃ n, n = cs.length := ⟨_, rfl⟩
  by_cases h0 : 0 ≤ at_
  · obtain ⟨j, rfl⟩ : ∃ j : Nat, at_ = (j : Int) := ⟨at_.toNat, by omega⟩
    by_cases hj : j < cs.length
    · obtain ⟨x, hx⟩ : ∃ x, cs[j]? = some x := ⟨_, List.getElem?_eq_getElem hj⟩
      have e1 : lnT cs (j : Int) = wT x := by unfold lnT; rw [if_pos (by omega)]; simp [hx]
      have e2 : lnE cs (j : Int) = dE x := by unfold lnE; rw [if_pos (by omega)]; simp [hx]
      rw [e1, e2]
      obtain ⟨x0, x1⟩ := hu x (List.mem_of_getElem? hx)
      obtain ⟨g, o, cap', hv, _, hgl, hcap, hc⟩ := hl.get eU_len hx
      injection hv with hv1 hv2 hv3
      subst hv1
      have c0 := hc 0 _ rfl
      rw [Nat.mul_one, Nat.add_zero] at c0
      rw [← hn] at hj hcap ⊢
      have HD := hid (rdecode_all x x0 x1)
      by_cases hE : dE x = 0
      · obtain ⟨⟨k1, k2⟩, hI⟩ := dE_ok hE
        have hT : wT x = insT (opOf x) (dA x) (dB x) (dC (sh (opOf x)) x) (dM (sh (opOf x)) x) := by unfold wT; rw [if_pos hE]
        rw [hT, hE]
        rw [hI, hE] at HD
        exact rline_op w g o n cap j vf vt x _ _ _ _ (opOf x) k1 k2 hgl hj c0 HD.out (d_bq x x0 x1 _)
      · have K1 := hid (Gr.alloc (Gr.refl w) #[.slice (some ⟨g, o, none⟩) n cap, vf, vt] 26)
        have hT : wT x = { data := #[] } := by unfold wT; rw [if_neg hE]
        rw [hT]
        have hI : dI x = (0, 0, 0, 0, 0) := by unfold dI; rw [if_neg hE]
        rw [hI] at HD
        unfold iV at HD
        simp only at HD
        generalize dE x = E at HD hE ⊢
        have j0 : ¬ (j : Int) < 0 := by omega
        have j1 : (j : Int) < (n : Int) := by omega
        have j2 : ¬ (n : Int) ≤ (j : Int) := by omega
        have gne : ¬ g = w.heap.size := by omega
        clear hT hI hc hv2 hv3 hl hu hx e1 e2 hn
        go_enter Tryz.func15, Tryz.ntmps15
        go_wp2_with (go_at_call 32; refine (HD.out _).mono ?_; rintro e w1 ⟨rfl, g1⟩; have G1 := hid (Gr.trans K1.out g1); clear g1)
        go_ret2
        exact ⟨rfl, Ch.alloc G1.out _⟩
    · have e1 : lnT cs (j : Int) = { data := #[] } := by unfold lnT; rw [if_pos (by omega)]; simp [List.getElem?_eq_none (Nat.le_of_not_lt hj)]
      have e2 : lnE cs (j : Int) = 1 := by unfold lnE; rw [if_pos (by omega)]; simp [List.getElem?_eq_none (Nat.le_of_not_lt hj)]
      rw [e1, e2, ← hn]
      rw [← hn] at hj
      have j0 : ¬ (j : Int) < 0 := by omega
      have j2 : (n : Int) ≤ (j : Int) := by omega
      clear hl hu e1 e2 hn
      go_enter Tryz.func15, Tryz.ntmps15
      go_wp2
      go_ret2
      exact ⟨rfl, Gr.alloc (Gr.refl w) _ _⟩
  · have e1 : lnT cs at_ = { data := #[] } := by unfold lnT; rw [if_neg h0]
    have e2 : lnE cs at_ = 1 := by unfold lnE; rw [if_neg h0]
    rw [e1, e2, ← hn]
    have j0 : at_ < 0 := by omega
    clear hl hu e1 e2 hn h0
    go_enter Tryz.func15, Tryz.ntmps15
    go_wp2
    go_ret2
    exact ⟨rfl, Gr.alloc (Gr.refl w) _ _⟩
end Go.Proofs.YtbehlhnnfdkmaaaGreatDoor.Lt
