/-
  The premise that the text of a function that exits is read: what lives answers. Condition: the tables lie where they lie.
-/
import Derived.Test.YtbehlhnnfdkmaaaGreatDoorLtMp
import Derived.Test.YtbehlhnnfdkmaaaGreatDoorWdRef2
namespace Go.Proofs.YtbehlhnnfdkmaaaGreatDoor.Lt
open Go.RowKit Wd

/-- the text -/
def tx : ByteArray := { data := #[102, 117, 110, 99, 32, 102, 10, 101, 120, 105, 116, 10] }
theorem tx_e : (prs tx).2.1 = 0 := by kernel_rfl
theorem tx_x : pgX (prs tx).1 = none := by kernel_rfl
theorem tx_w : (prs tx).1.ask.map (cw (prs tx).1) = [402653184] := by kernel_rfl
/-- what Parse tells of it -/
def TxR (w : World) (e : Ending) (w' : World) : Prop :=
  ∃ g cap af nf cf at_ nt ct, e = .returned (.tuple #[.agg #[.slice (some ⟨g, 0, none⟩) 1 cap, .slice af nf cf, .slice at_ nt ct], .int .i64 0, .int .i64 0]) ∧ g < w'.heap.size ∧ w'.cell? ⟨g, 0, none⟩ = some (.int .u32 402653184) ∧ Gr w w'
theorem parse_tx (w : World) (hg : Glb w) : Calls Tryz.prog 9 #[.string { data := #[102, 117, 110, 99, 32, 102, 10, 101, 120, 105, 116, 10] }] w (TxR w) := by
  refine (parse_any tx (by decide) w hg).mono ?_
  intro e w1 h
  unfold Prsd at h
  rw [if_pos tx_e, tx_x] at h
  obtain ⟨⟨vc, vf, vt, ts, he, hp⟩, g⟩ := h
  have hc := hp.c
  rw [tx_w] at hc
  obtain ⟨gg, cap, hv, _, h1, _, h2⟩ := hc.get eU_len (i := 0) (a := 402653184) rfl
  obtain ⟨af, cf, hf⟩ := hp.f.form
  obtain ⟨at_, ct, ht⟩ := hp.t.form
  subst hv hf ht
  have hcell := h2.1 0 _ rfl
  exact ⟨gg, cap, af, _, cf, at_, _, ct, he, h1, hcell, g⟩
set_option maxRecDepth 100000 in
theorem lives_any (w : World) (hg : Glb w) : Calls Tryz.prog 11 #[] w fun e w' => e = .returned (.bool true) ∧ Gr w w' := by
  have HP := hid (parse_tx w hg)
  have HE := hid (fun (W : World) => rencode_ok 24 0 0 0 0 (by decide) (by decide) (by decide) W)
  clear hg
  go_enter Tryz.func11, Tryz.ntmps11
  go_wp2_with (first | (go_at_call 9; refine HP.out.mono ?_; rintro e w1 ⟨g, cap, af, nf, cf, at_, nt, ct, rfl, hgl, hcl, g1⟩; have G1 := hid g1; have HB := hid (MapKept.heap_alloc w1 (.cells #[.slice (some ⟨g, 0, none⟩) 1 cap, .slice af nf cf, .slice at_ nt ct] 26)).1; have HCL := hid hcl; clear g1 hcl) | (go_at_call 29; refine (HE.out _).mono ?_; rintro e w2 ⟨rfl, g2⟩; have G2 := hid (Gr.trans (Ch.alloc G1.out _) g2); have B2 := hid ((g2.block _ (by simp) (noB _)).trans HB.out); have i0 : w2.cell? ⟨w1.heap.size, 0, none⟩ = some (.slice (some ⟨g, 0, none⟩) 1 cap) := (cell_of B2.out 0).trans rfl; have i1 : w2.cell? ⟨g, 0, none⟩ = some (.int .u32 402653184) := (Gr.cell g2 (by simp; omega)).trans ((Gr.cell (Ch.alloc (Gr.refl w1) _) hgl).trans HCL.out); clear g2))
  go_ret
  exact ⟨rfl, G2.out⟩
end Go.Proofs.YtbehlhnnfdkmaaaGreatDoor.Lt
