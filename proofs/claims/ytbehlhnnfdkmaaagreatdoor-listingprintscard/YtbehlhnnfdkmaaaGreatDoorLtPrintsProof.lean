/-
  ListingPrints holds: for any program the call returns true, and its argument reads afterwards as it read before. Condition, tied to the program's text: the package-level tables read as their initialisers lay them.
-/
import Derived.Test.YtbehlhnnfdkmaaaGreatDoorLtLaw3
import Derived.Test.YtbehlhnnfdkmaaaGreatDoorLtMf
namespace Go.Proofs.YtbehlhnnfdkmaaaGreatDoor.Lt
open Go.ChangeShapes Go.WideShapes Go.ChangeAt Go.RowKit Wd

set_option maxRecDepth 100000 in
theorem prints_lifted (os : Os) (started : os.Started) (H : Type) (enc : TypeId × Value → H) :
    ReturnsInHanded {} Tryz.checked os 5 .any (fun w args => (Rows.listingPrintsSpec.pre enc Tryz.prog Tryz.f5 [] false w args ∧ laidMetH Tryz.prog L10 w) ∧ sizedMet enc Tryz.prog Tryz.f5 (OpenSpec.ofChange Rows.listingPrintsSpec) false w args)
      (Rows.listingPrintsSpec.post enc Tryz.prog Tryz.f5 false true false false) := by
  refine lift (C := Tryz.checked) (X := fun w _ => laidMetH Tryz.prog L10 w) (fun _ _ _ hh h => h.of_heap hh) own started (by kernel_rfl) Tryz.func5
    (ChangeSpec.witness_shaped (enc := enc) (C := Tryz.checked) (os := os) (X := fun w _ => laidMetH Tryz.prog L10 w) false (World.laidAll Tryz.prog os L10) #[.agg #[.slice none 0 0, .slice none 0 0, .slice none 0 0]] 8 (World.laidAll_os _ _ _) (shaped os _) (by kernel_rfl) (by kernel_rfl) (by kernel_rfl) (door os _)) ?_
  intro W base args ds gs before hval0 hW hsz hL hSh
  have hval : ∀ (j : Nat) t v, Tryz.f5.params[j]? = some t → args[j]? = some v → Value.okWide Tryz.prog W .any base t v := hval0
  have hW' := hW
  obtain ⟨p, q, hA0, hV, rfl, hfz, hnd⟩ := hW
  have hA : DataW.TrodAll enc Tryz.prog W 0 (fun _ => true) true Tryz.f5.params.toList args.toList ds p := hA0
  have hsz' : (DataW.weightsEach Tryz.prog (Tryz.f5.params.toList ++ Rows.listingPrintsSpec.plain.varTypes Tryz.prog) (ds ++ gs)).all (· ≤ reachBytes) = true := hsz
  rw [Tryz.params5] at hA hval hsz'
  obtain ⟨v0, d0, rfl, rfl, h0⟩ := trodAll_one hA
  obtain ⟨rfl, rfl⟩ := trodVars_none hV
  obtain ⟨ia0, ib0, ic0, cs0, fs0, tb0, rfl, hin0, hc0, hf0, ht0, hq0, hu0⟩ := open_prog (j := 0) (hval 0 26 v0 rfl rfl) h0 hsz' rfl rfl
  have hG := glb_of hL hSh
  clear hA0 hval0
  simp only [List.append_nil] at hW'
  refine (prints_any _ W ia0 ib0 ic0 cs0 fs0 tb0 hin0 hc0 hf0 ht0 hq0 hu0 hG (big_of hSh)).mono fun e W' ⟨he, hg⟩ => ?_
  subst he
  exact ⟨_, rfl, post_law1  (by first | (rw [List.append_nil]; exact hW') | exact hW') (by rw [Tryz.params5]) rfl Tryz.underlying4 rfl rfl (by kernel_rfl) (of_decide_eq_true (by kernel_rfl)) h0 (Ch.below hg (fun _ x => x.elim) (Nat.le_refl _))⟩

theorem prints_row : Rows.ListingPrintsSaid :=
  OpenClaim.holds_of_wide 5 Tryz.f5 rfl rfl rfl rfl rfl rfl rfl ⟨rfl, rfl, rfl, rfl, rfl⟩ rfl rfl rfl rfl rfl (by kernel_rfl) Tryz.func5 (by kernel_rfl)
    (of_decide_eq_true (by kernel_rfl)) (by unfold Func.isWrapper; first | (rw [if_pos (by decide +kernel)]; kernel_rfl) | (rw [if_neg (by decide +kernel)]; exact ⟨rfl, rfl⟩))
    (fun os started H enc _ => prints_lifted os started H enc)

theorem prints_holds : Rows.ListingPrintsCardSaid :=
  Claim7.holds_tied_plain_at .later [] [.data, .data, .data, .data, .data, .data, .data, .sentinel, .sentinel, .pinned] true _ _
    prints_row (fun _ h => by cases h) (by kernel_rfl) (fun _ h => by cases h) listingPrints_row_tie rfl ⟨rfl, rfl⟩ (by kernel_rfl) rfl
    (fun f fn hf hfn => by
      obtain rfl : f = 5 := Option.some.inj ((show Tryz.prog.funcNamed "rota/rotalaw07.ListingPrints" = some 5 by kernel_rfl).symm.trans hf) |>.symm
      obtain rfl : fn = Tryz.f5 := (Option.some.inj (Tryz.func5.symm.trans hfn)).symm
      exact ⟨by kernel_rfl, fun j t ht => by
        rw [Tryz.params5] at ht
        have hm : t ∈ [26] := by simpa using Array.mem_of_getElem? ht
        have hall : ([26].all fun u => !Tryz.prog.wantsStandIn u) = true := by kernel_rfl
        exact (show Tryz.prog.wantsStandIn t = false by simpa using List.all_eq_true.1 hall t hm)⟩)
    (by kernel_rfl)
end Go.Proofs.YtbehlhnnfdkmaaaGreatDoor.Lt
