/-
  WordDecodes holds: for any list of words the call returns true, and its argument reads afterwards as it read before. Condition, tied to the program's text: the package-level tables read as their initialisers lay them.
-/
import Derived.Test.YtejmmpgclgdbbaaDoorWdDecodes
import Derived.Test.YtejmmpgclgdbbaaDoorWdFrame2
namespace Go.Proofs.YtejmmpgclgdbbaaDoor.Wd
open Go.ChangeShapes Go.WideShapes Go.ChangeAt Go.RowKit

theorem decodes_door (os : Os) (args : Array Value) : laidMetH Tryd.prog [("rota/word.forms", Rows.laid_rota_word_forms), ("rota/word.numbers", Rows.laid_rota_word_numbers)] ((World.doorLaid Tryd.prog 400 os).forCall (fun _ _ => 0) ⟨#[], args, []⟩).memory :=
  laidMetH_of_parts3 (fuel := 8) (laidMet_of_run' 8 (by kernel_rfl) (by kernel_rfl)) (by kernel_rfl) (by kernel_rfl)

set_option maxRecDepth 100000 in
theorem decodes_lifted (os : Os) (started : os.Started) (H : Type) (enc : TypeId × Value → H) :
    ReturnsInHanded {} Tryd.checked os 6 .any (fun w args => (Rows.wordDecodesSpec.pre enc Tryd.prog Tryd.f6 [] false w args ∧ laidMetH Tryd.prog [("rota/word.forms", Rows.laid_rota_word_forms), ("rota/word.numbers", Rows.laid_rota_word_numbers)] w) ∧ sizedMet enc Tryd.prog Tryd.f6 (OpenSpec.ofChange Rows.wordDecodesSpec) false w args)
      (Rows.wordDecodesSpec.post enc Tryd.prog Tryd.f6 false true false false) := by
  refine returnsInHanded_of_change_and (C := Tryd.checked) (X := fun w _ => laidMetH Tryd.prog [("rota/word.forms", Rows.laid_rota_word_forms), ("rota/word.numbers", Rows.laid_rota_word_numbers)] w) (fun _ _ _ hh h => h.of_heap hh) own started (by kernel_rfl) Tryd.func6
    (ChangeSpec.witness_shaped (enc := enc) (C := Tryd.checked) (os := os) (X := fun w _ => laidMetH Tryd.prog [("rota/word.forms", Rows.laid_rota_word_forms), ("rota/word.numbers", Rows.laid_rota_word_numbers)] w) false (World.doorLaid Tryd.prog 400 os) #[.slice none 0 0] 8 rfl (World.shaped_of_RefB (by kernel_rfl) (by kernel_rfl)) (by kernel_rfl) (by kernel_rfl) (by kernel_rfl) (decodes_door os _)) ?_
  intro W base args ds gs before hval0 hW _ hsz hL _
  have hval : ∀ (j : Nat) t v, Tryd.f6.params[j]? = some t → args[j]? = some v → Value.okWide Tryd.prog W .any base t v := hval0
  have hW' := hW
  obtain ⟨p, q, hA0, hV, rfl, hfz, hnd⟩ := hW
  have hA : DataW.TrodAll enc Tryd.prog W 0 (fun _ => true) true Tryd.f6.params.toList args.toList ds p := hA0
  rw [Tryd.params6] at hA hval
  obtain ⟨v0, d0, rfl, rfl, h0⟩ := trodAll_one hA
  obtain ⟨rfl, rfl⟩ := trodVars_none hV
  obtain ⟨n0, hx0⟩ := open_listD (hval 0 38 v0 rfl rfl) h0
  obtain ⟨hN, hF⟩ := of_laid2 hL
  clear hA0 hval0
  simp only [List.append_nil] at hW'
  refine (decodes_any v0 n0 W hx0 hN hF).mono fun e W' ⟨he, hg⟩ => ?_
  subst he
  exact ⟨_, rfl, post_law1 hW' (by rw [Tryd.params6]) rfl Tryd.underlying4 rfl rfl (by kernel_rfl) (of_decide_eq_true (by kernel_rfl)) h0 (Ch.below hg (fun _ x => x.elim) (Nat.le_refl _))⟩

theorem decodes_row : Rows.WordDecodesSaid :=
  OpenClaim.holds_of_wide 6 Tryd.f6 rfl rfl rfl rfl rfl rfl rfl ⟨rfl, rfl, rfl, rfl, rfl⟩ rfl rfl rfl rfl rfl (by kernel_rfl) Tryd.func6 (by kernel_rfl)
    (of_decide_eq_true (by kernel_rfl)) (by unfold Func.isWrapper; first | (rw [if_pos (by decide +kernel)]; kernel_rfl) | (rw [if_neg (by decide +kernel)]; exact ⟨rfl, rfl⟩))
    (fun os started H enc _ => decodes_lifted os started H enc)

theorem decodes_holds : Rows.WordDecodesCardSaid :=
  Claim7.holds_tied_plain_at .later [] [.data, .data] true _ _
    decodes_row (fun _ h => by cases h) (by kernel_rfl) (fun _ h => by cases h) wordDecodes_row_tie rfl ⟨rfl, rfl⟩ (by kernel_rfl) rfl
    (fun f fn hf hfn => by
      obtain rfl : f = 6 := Option.some.inj ((show Tryd.prog.funcNamed "rota/rotalaw06.WordDecodes" = some 6 by kernel_rfl).symm.trans hf) |>.symm
      obtain rfl : fn = Tryd.f6 := (Option.some.inj (Tryd.func6.symm.trans hfn)).symm
      exact ⟨by kernel_rfl, fun j t ht => by
        rw [Tryd.params6] at ht
        have hm : t ∈ [38] := by simpa using Array.mem_of_getElem? ht
        have hall : ([38].all fun u => !Tryd.prog.wantsStandIn u) = true := by kernel_rfl
        exact (show Tryd.prog.wantsStandIn t = false by simpa using List.all_eq_true.1 hall t hm)⟩)
    (by kernel_rfl)
end Go.Proofs.YtejmmpgclgdbbaaDoor.Wd
