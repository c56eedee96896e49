/-
  CellsFound holds in its second form: for any number and any calls that together hold at most 1048576 values the call returns true, and its arguments read afterwards as they read before. Condition: that bound.
-/
import Derived.Test.YtpmhmikefkgbdaaClFound
import Derived.Test.YtpmhmikefkgbdaaClFrame
namespace Go.Proofs.Ytpmhmikefkgbdaa.Lt
open Go.ChangeShapes Go.WideShapes Go.ChangeAt Go.RowKit Wd

set_option maxRecDepth 100000 in
theorem found_lifted (os : Os) (started : os.Started) (H : Type) (enc : TypeId × Value → H) (F : Stop.Interp) :
    ReturnsInHanded {} Try.checked os 8 .any ((Rows.OpenSpec.upto Rows.cellsFoundSpec).pre6 enc Try.prog Try.f8 Rows.cellsFoundUptoRow.domain false) (((Rows.OpenSpec.upto Rows.cellsFoundSpec).at F).post enc Try.prog Try.f8 false true false false) := by
  refine returnsInHanded_of_cond (C := Try.checked) (s := Rows.OpenSpec.upto Rows.cellsFoundSpec) (k := Rows.uptoSmall) rfl own started (by kernel_rfl) Try.func8
    (OpenSpec.witness (enc := enc) (C := Try.checked) (s := Rows.OpenSpec.upto Rows.cellsFoundSpec) (k := Rows.uptoSmall) rfl false ⟨#[], #[.int .i64 0, .slice none 0 0], []⟩ 8 (by kernel_rfl) (by kernel_rfl) (by kernel_rfl)
      (x := ([.lit (.int .i64 0), .nil], [], [])) (by kernel_rfl) rfl (by kernel_rfl)) ?_
  intro W base args ds gs before hval0 hW _ hk _
  have hval : ∀ (j : Nat) t v, Try.f8.params[j]? = some t → args[j]? = some v → Value.okWide Try.prog W .any base t v := hval0
  have hW' := hW
  obtain ⟨p, q, hA0, hV, rfl, hfz, hnd⟩ := hW
  have hA : DataW.TrodAll enc Try.prog W 0 (fun _ => true) true Try.f8.params.toList args.toList ds p := hA0
  rw [Try.params8] at hA hval
  obtain ⟨v0, v1, d0, d1, p0, p1, rfl, rfl, rfl, h0, h1⟩ := trodAll_two hA
  obtain ⟨rfl, rfl⟩ := trodVars_none hV
  obtain ⟨i0, rfl, -, -, -⟩ := open_int Try.underlying3 (hval 0 3 v0 rfl rfl) h0
  have : Inhabited O4 := ⟨⟨0, 0, 0, 0⟩⟩
  obtain ⟨xs1, lx1, bx1⟩ := open_slU eO Try.underlying34 cellsO eO_len (by omega) (fun n cs z hl h => el_op n cs z hl h) (hval 1 34 v1 rfl rfl) h1 hk (by simp)
  clear hA0 hval0
  simp only [List.append_nil] at hW'
  refine (found_law i0 (· < W.heap.size) v1 xs1 W lx1 (by omega)).mono fun e W' ⟨he, hg⟩ => ?_
  subst he
  exact ⟨_, rfl, post_law2 hW' (by rw [Try.params8]) rfl Try.underlying4 rfl rfl (by kernel_rfl) (of_decide_eq_true (by kernel_rfl)) (by kernel_rfl) (of_decide_eq_true (by kernel_rfl)) h0 h1 (hg.below (fun _ x => x.elim) (Nat.le_refl _))⟩

theorem found_holds : Rows.CellsFoundUptoSaid :=
  OpenClaim.holds_of_cond 8 Try.f8 rfl rfl rfl rfl rfl rfl rfl ⟨rfl, rfl, rfl, rfl, rfl⟩ rfl rfl rfl rfl rfl (by kernel_rfl) Try.func8 (by kernel_rfl)
    (of_decide_eq_true (by kernel_rfl)) (by unfold Func.isWrapper; first | (rw [if_pos (by decide +kernel)]; kernel_rfl) | (rw [if_neg (by decide +kernel)]; exact ⟨rfl, rfl⟩))
    (fun os started H enc _ F => found_lifted os started H enc F)
end Go.Proofs.Ytpmhmikefkgbdaa.Lt
