/-
  ChannelOrders holds in its second form: for any capacity, any numbers that are sent and any turns that together hold at most 1048576 values the call returns true, and its arguments read afterwards as they read before. Condition: that bound.
-/
import Derived.Test.YtpkbgfneebjnjaaCpOr
import Derived.Test.YtpkbgfneebjnjaaCpFrame
namespace Go.Proofs.Ytpkbgfneebjnjaa.Lt
open Go.ChangeShapes Go.WideShapes Go.ChangeAt Go.RowKit Wd

set_option maxRecDepth 100000 in
theorem orders_lifted (os : Os) (started : os.Started) (H : Type) (enc : TypeId × Value → H) (F : Stop.Interp) :
    ReturnsInHanded {} Try.checked os 5 .any ((Rows.OpenSpec.upto Rows.channelOrdersSpec).pre6 enc Try.prog Try.f5 Rows.channelOrdersUptoRow.domain false) (((Rows.OpenSpec.upto Rows.channelOrdersSpec).at F).post enc Try.prog Try.f5 false true false false) := by
  refine returnsInHanded_of_cond (C := Try.checked) (s := Rows.OpenSpec.upto Rows.channelOrdersSpec) (k := Rows.uptoSmall) rfl own started (by kernel_rfl) Try.func5
    (OpenSpec.witness (enc := enc) (C := Try.checked) (s := Rows.OpenSpec.upto Rows.channelOrdersSpec) (k := Rows.uptoSmall) rfl false ⟨#[], #[.int .u8 0, .slice none 0 0, .slice none 0 0], []⟩ 8 (by kernel_rfl) (by kernel_rfl) (by kernel_rfl)
      (x := ([.lit (.int .u8 0), .nil, .nil], [], [])) (by kernel_rfl) rfl (by kernel_rfl)) ?_
  intro W base args ds gs before hval0 hW _ hk _
  have hval : ∀ (j : Nat) t v, Try.f5.params[j]? = some t → args[j]? = some v → Value.okWide Try.prog W .any base t v := hval0
  have hW' := hW
  obtain ⟨p, q, hA0, hV, rfl, hfz, hnd⟩ := hW
  have hA : DataW.TrodAll enc Try.prog W 0 (fun _ => true) true Try.f5.params.toList args.toList ds p := hA0
  rw [Try.params5] at hA hval
  obtain ⟨v0, v1, v2, d0, d1, d2, p0, p1, p2, rfl, rfl, rfl, h0, h1, h2⟩ := trodAll_three hA
  obtain ⟨rfl, rfl⟩ := trodVars_none hV
  obtain ⟨i0, rfl, -, -, hb0⟩ := open_int Try.underlying5 (hval 0 5 v0 rfl rfl) h0
  obtain ⟨xs1, lx1, bx1⟩ := open_slU eI Try.underlying43 cellsJ eI_len (by omega) (fun n cs z hl h => el_num n cs z hl h) (hval 1 43 v1 rfl rfl) h1 hk (by simp)
  obtain ⟨xs2, lx2, bx2⟩ := open_slU eBo Try.underlying44 cellsB eBo_len (by omega) (fun n cs z hl h => el_bool n cs z hl h) (hval 2 44 v2 rfl rfl) h2 hk (by simp)
  clear hA0 hval0
  simp only [List.append_nil] at hW'
  refine (orders_any i0 (wf_u8c hb0).1 (wf_u8c hb0).2 (· < W.heap.size) v1 xs1 (· < W.heap.size) v2 xs2 W lx1 (by omega) lx2 (by omega)).mono fun e W' ⟨he, hg⟩ => ?_
  subst he
  exact ⟨_, rfl, post_law3 hW' (by rw [Try.params5]) rfl Try.underlying4 rfl rfl (by kernel_rfl) (of_decide_eq_true (by kernel_rfl)) (by kernel_rfl) (of_decide_eq_true (by kernel_rfl)) (by kernel_rfl) (of_decide_eq_true (by kernel_rfl)) h0 h1 h2 (hg.below (fun _ x => x.elim) (Nat.le_refl _))⟩

theorem orders_holds : Rows.ChannelOrdersUptoSaid :=
  OpenClaim.holds_of_cond 5 Try.f5 rfl rfl rfl rfl rfl rfl rfl ⟨rfl, rfl, rfl, rfl, rfl⟩ rfl rfl rfl rfl rfl (by kernel_rfl) Try.func5 (by kernel_rfl)
    (of_decide_eq_true (by kernel_rfl)) (by unfold Func.isWrapper; first | (rw [if_pos (by decide +kernel)]; kernel_rfl) | (rw [if_neg (by decide +kernel)]; exact ⟨rfl, rfl⟩))
    (fun os started H enc _ F => orders_lifted os started H enc F)
end Go.Proofs.Ytpkbgfneebjnjaa.Lt
