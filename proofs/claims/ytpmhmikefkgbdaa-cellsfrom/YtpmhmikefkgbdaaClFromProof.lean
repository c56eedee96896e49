/-
  CellsFrom holds: for any log the call returns true, and its argument reads afterwards as it read before. No conditions.
-/
import Derived.Test.YtpmhmikefkgbdaaClFromLaw
import Derived.Test.YtpmhmikefkgbdaaClFrame
namespace Go.Proofs.Ytpmhmikefkgbdaa.Lt
open Go.ChangeShapes Go.WideShapes Go.ChangeAt Go.RowKit Wd

set_option maxRecDepth 100000 in
theorem from_lifted (os : Os) (started : os.Started) (H : Type) (enc : TypeId × Value → H) :
    ReturnsInHanded {} Try.checked os 6 .any (Rows.cellsFromSpec.pre6 enc Try.prog Try.f6 Rows.cellsFromRow.domain false) (Rows.cellsFromSpec.post enc Try.prog Try.f6 false true false false) := by
  refine returnsInHanded_of_change_sized (C := Try.checked) own started (by kernel_rfl) Try.func6
    (ChangeSpec.witness6 (enc := enc) (C := Try.checked) false ⟨#[], #[.slice none 0 0], []⟩ 8 (by kernel_rfl) (by kernel_rfl) (by kernel_rfl) (by kernel_rfl)) ?_
  intro W base args ds gs before hval0 hW hcnd hsz _
  have hval : ∀ (j : Nat) t v, Try.f6.params[j]? = some t → args[j]? = some v → Value.okWide Try.prog W .any base t v := hval0
  have hW' := hW
  obtain ⟨p, q, hA0, hV, rfl, hfz, hnd⟩ := hW
  have hA : DataW.TrodAll enc Try.prog W 0 (fun _ => true) true Try.f6.params.toList args.toList ds p := hA0
  have hsz' : (DataW.weightsEach Try.prog (Try.f6.params.toList ++ Rows.cellsFromSpec.plain.varTypes Try.prog) (ds ++ gs)).all (· ≤ reachBytes) = true := hsz
  rw [Try.params6] at hA hval hsz'
  obtain ⟨v0, d0, rfl, rfl, h0⟩ := trodAll_one hA
  obtain ⟨rfl, rfl⟩ := trodVars_none hV
  have : Inhabited Ac := ⟨⟨0, 0, 0, 0, false⟩⟩
  obtain ⟨xs0, lx0, bx0⟩ := open_sl eA Try.underlying43 cellsA bytesA eA_len (by omega) (fun n cs z hl h => el_acc n cs z hl h) (j := 0) (hval 0 43 v0 rfl rfl) h0 hsz' rfl rfl
  clear hA0 hval0
  simp only [List.append_nil] at hW'
  refine (from_law (· < W.heap.size) v0 xs0 W lx0 (by omega)).mono fun e W' ⟨he, hg⟩ => ?_
  subst he
  exact ⟨_, rfl, post_law1 hW' (by rw [Try.params6]) rfl Try.underlying4 rfl rfl (by kernel_rfl) (of_decide_eq_true (by kernel_rfl)) h0 (hg.below (fun _ x => x.elim) (Nat.le_refl _))⟩

theorem from_holds : Rows.CellsFromSaid :=
  OpenClaim.holds_of_wide 6 Try.f6 rfl rfl rfl rfl rfl rfl rfl ⟨rfl, rfl, rfl, rfl, rfl⟩ rfl rfl rfl rfl rfl (by kernel_rfl) Try.func6 (by kernel_rfl)
    (of_decide_eq_true (by kernel_rfl)) (by unfold Func.isWrapper; first | (rw [if_pos (by decide +kernel)]; kernel_rfl) | (rw [if_neg (by decide +kernel)]; exact ⟨rfl, rfl⟩))
    (fun os started H enc _ => from_lifted os started H enc)
end Go.Proofs.Ytpmhmikefkgbdaa.Lt
