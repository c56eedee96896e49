/-
  CellsOwn holds: for any number, any calls and any log the call returns true, and its arguments read afterwards as they read before. No conditions.
-/
import Derived.Test.YtpmhmikefkgbdabClOwn
import Derived.Test.YtpmhmikefkgbdabClFrame
namespace Go.Proofs.Ytpmhmikefkgbdab.Lt
open Go.ChangeShapes Go.WideShapes Go.ChangeAt Go.RowKit Wd

set_option maxRecDepth 100000 in
theorem own_lifted (os : Os) (started : os.Started) (H : Type) (enc : TypeId × Value → H) :
    ReturnsInHanded {} Try.checked os 5 .any (Rows.cellsOwnSpec.pre6 enc Try.prog Try.f5 Rows.cellsOwnRow.domain false) (Rows.cellsOwnSpec.post enc Try.prog Try.f5 false true false false) := by
  refine returnsInHanded_of_change_sized (C := Try.checked) own started (by kernel_rfl) Try.func5
    (ChangeSpec.witness6 (enc := enc) (C := Try.checked) false ⟨#[], #[.int .i64 0, .slice none 0 0, .slice none 0 0], []⟩ 8 (by kernel_rfl) (by kernel_rfl) (by kernel_rfl) (by kernel_rfl)) ?_
  intro W base args ds gs before hval0 hW hcnd hsz _
  have hval : ∀ (j : Nat) t v, Try.f5.params[j]? = some t → args[j]? = some v → Value.okWide Try.prog W .any base t v := hval0
  have hW' := hW
  obtain ⟨p, q, hA0, hV, rfl, hfz, hnd⟩ := hW
  have hA : DataW.TrodAll enc Try.prog W 0 (fun _ => true) true Try.f5.params.toList args.toList ds p := hA0
  have hsz' : (DataW.weightsEach Try.prog (Try.f5.params.toList ++ Rows.cellsOwnSpec.plain.varTypes Try.prog) (ds ++ gs)).all (· ≤ reachBytes) = true := hsz
  rw [Try.params5] at hA hval hsz'
  obtain ⟨v0, v1, v2, d0, d1, d2, p0, p1, p2, rfl, rfl, rfl, h0, h1, h2⟩ := trodAll_three hA
  obtain ⟨rfl, rfl⟩ := trodVars_none hV
  obtain ⟨i0, rfl, -, -, -⟩ := open_int Try.underlying3 (hval 0 3 v0 rfl rfl) h0
  have : Inhabited O4 := ⟨⟨0, 0, 0, 0⟩⟩
  obtain ⟨xs1, lx1, bx1⟩ := open_sl eO Try.underlying42 cellsO bytesO eO_len (by omega) (fun n cs z hl h => el_op n cs z hl h) (j := 1) (hval 1 42 v1 rfl rfl) h1 hsz' rfl rfl
  have : Inhabited Ac := ⟨⟨0, 0, 0, 0, false⟩⟩
  obtain ⟨xs2, lx2, bx2⟩ := open_sl eA Try.underlying43 cellsA bytesA eA_len (by omega) (fun n cs z hl h => el_acc n cs z hl h) (j := 2) (hval 2 43 v2 rfl rfl) h2 hsz' rfl rfl
  clear hA0 hval0
  simp only [List.append_nil] at hW'
  refine (own_law i0 (· < W.heap.size) v1 xs1 (· < W.heap.size) v2 xs2 W lx1 (by omega) lx2 (by omega)).mono fun e W' ⟨he, hg⟩ => ?_
  subst he
  exact ⟨_, rfl, post_law3 hW' (by rw [Try.params5]) rfl Try.underlying4 rfl rfl (by kernel_rfl) (of_decide_eq_true (by kernel_rfl)) (by kernel_rfl) (of_decide_eq_true (by kernel_rfl)) (by kernel_rfl) (of_decide_eq_true (by kernel_rfl)) h0 h1 h2 (hg.below (fun _ x => x.elim) (Nat.le_refl _))⟩

theorem ownlaw_holds : Rows.CellsOwnSaid :=
  OpenClaim.holds_of_wide 5 Try.f5 rfl rfl rfl rfl rfl rfl rfl ⟨rfl, rfl, rfl, rfl, rfl⟩ rfl rfl rfl rfl rfl (by kernel_rfl) Try.func5 (by kernel_rfl)
    (of_decide_eq_true (by kernel_rfl)) (by unfold Func.isWrapper; first | (rw [if_pos (by decide +kernel)]; kernel_rfl) | (rw [if_neg (by decide +kernel)]; exact ⟨rfl, rfl⟩))
    (fun os started H enc _ => own_lifted os started H enc)
end Go.Proofs.Ytpmhmikefkgbdab.Lt
