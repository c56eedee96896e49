/-
  StepAnswers: for every context, every instruction and whatever it is answered Answer tells what the document's Answer tells. Condition, tied to the program's text: the package-level tables read as their initialisers lay them.
-/
import Derived.Test.YtcdlhfodeckleaaDoorStAnswers
import Derived.Test.YtcdlhfodeckleaaDoorStFrameA
namespace Go.Proofs.YtcdlhfodeckleaaDoor.Lt
open Go.ChangeShapes Go.WideShapes Go.ChangeAt Go.RowKit Wd

set_option maxRecDepth 100000 in
theorem answers_lifted (os : Os) (started : os.Started) (H : Type) (enc : TypeId × Value → H) :
    ReturnsInHanded {} Tryd.checked os 6 .any (fun w args => (Rows.stepAnswersSpec.pre enc Tryd.prog Tryd.f6 [] false w args ∧ laidMetH Tryd.prog L2 w) ∧ sizedMet enc Tryd.prog Tryd.f6 (OpenSpec.ofChange Rows.stepAnswersSpec) false w args)
      (Rows.stepAnswersSpec.post enc Tryd.prog Tryd.f6 false true false false) := by
  refine lift (C := Tryd.checked) (X := fun w _ => laidMetH Tryd.prog L2 w) (fun _ _ _ hh h => h.of_heap hh) own started (by kernel_rfl) Tryd.func6
    (ChangeSpec.witness_shaped (enc := enc) (C := Tryd.checked) (os := os) (X := fun w _ => laidMetH Tryd.prog L2 w) false (World.laidAll Tryd.prog os L2) #[.agg #[.int .i64 0, .int .i64 0, .int .i64 0, .int .i64 0, .int .i64 0, .int .i64 0, .int .i64 0, .int .i64 0, .int .i64 0, .int .i64 0, .int .i64 0, .int .i64 0, .int .i64 0, .int .i64 0, .int .i64 0, .int .i64 0, .int .i64 0, .slice none 0 0], .agg #[.int .i64 0, .int .i64 0, .int .i64 0, .int .i64 0, .int .i64 0, .int .i64 0, .int .i64 0]] 8 (World.laidAll_os _ _ _) (shaped os _) (by kernel_rfl) (by kernel_rfl) (by kernel_rfl) (door os _)) ?_
  intro W base args ds gs before hval0 hW hsz hL hSh
  have hval : ∀ (j : Nat) t v, Tryd.f6.params[j]? = some t → args[j]? = some v → Value.okWide Tryd.prog W .any base t v := hval0
  have hW' := hW
  obtain ⟨p, q, hA0, hV, rfl, hfz, hnd⟩ := hW
  have hA : DataW.TrodAll enc Tryd.prog W 0 (fun _ => true) true Tryd.f6.params.toList args.toList ds p := hA0
  have hsz' : (DataW.weightsEach Tryd.prog (Tryd.f6.params.toList ++ Rows.stepAnswersSpec.plain.varTypes Tryd.prog) (ds ++ gs)).all (· ≤ reachBytes) = true := hsz
  rw [Tryd.params6] at hA hval hsz'
  obtain ⟨v0, v1, d0, d1, p0, p1, rfl, rfl, rfl, h0, h1⟩ := trodAll_two hA
  obtain ⟨rfl, rfl⟩ := trodVars_none hV
  obtain ⟨pc0, rg0, xo0, xn0, xc0, ks0, rfl, hr0, hk0, hn0⟩ := open_ctx (j := 0) (hval 0 30 v0 rfl rfl) h0 hsz' rfl rfl
  obtain ⟨ao1, aa1, ab1, ac1, am1, av1, ak1, rfl⟩ := open_reply (hval 1 54 v1 rfl rfl) h1
  have hG := glb_of hL
  clear hA0 hval0
  simp only [List.append_nil] at hW'
  refine (answers_any9 _ W pc0 rg0 xo0 xn0 xc0 ks0 ao1 aa1 ab1 ac1 am1 av1 ak1 hr0 hk0 hn0 hG).mono fun e W' ⟨he, hg⟩ => ?_
  subst he
  exact ⟨_, rfl, post_law2  (by first | (rw [List.append_nil, List.append_nil]; exact hW') | (rw [List.append_nil]; exact hW') | exact hW') (by rw [Tryd.params6]) rfl Tryd.underlying4 rfl rfl (by kernel_rfl) (of_decide_eq_true (by kernel_rfl)) (by kernel_rfl) (of_decide_eq_true (by kernel_rfl)) h0 h1 (Ch.below hg (fun _ x => x.elim) (Nat.le_refl _))⟩

theorem answers_row : Rows.StepAnswersSaid :=
  OpenClaim.holds_of_wide 6 Tryd.f6 rfl rfl rfl rfl rfl rfl rfl ⟨rfl, rfl, rfl, rfl, rfl⟩ rfl rfl rfl rfl rfl (by kernel_rfl) Tryd.func6 (by kernel_rfl)
    (of_decide_eq_true (by kernel_rfl)) (by unfold Func.isWrapper; first | (rw [if_pos (by decide +kernel)]; kernel_rfl) | (rw [if_neg (by decide +kernel)]; exact ⟨rfl, rfl⟩))
    (fun os started H enc _ => answers_lifted os started H enc)

theorem answers_holds : Rows.StepAnswersCardSaid :=
  Claim7.holds_tied_plain_at .later [] [.data, .data] true _ _
    answers_row (fun _ h => by cases h) (by kernel_rfl) (fun _ h => by cases h) stepAnswers_row_tie rfl ⟨rfl, rfl⟩ (by kernel_rfl) rfl
    (fun f fn hf hfn => by
      obtain rfl : f = 6 := Option.some.inj ((show Tryd.prog.funcNamed "rota/rotalaw09.StepAnswers" = some 6 by kernel_rfl).symm.trans hf) |>.symm
      obtain rfl : fn = Tryd.f6 := (Option.some.inj (Tryd.func6.symm.trans hfn)).symm
      exact ⟨by kernel_rfl, fun j t ht => by
        rw [Tryd.params6] at ht
        have hm : t ∈ [30, 54] := by simpa using Array.mem_of_getElem? ht
        have hall : ([30, 54].all fun u => !Tryd.prog.wantsStandIn u) = true := by kernel_rfl
        exact (show Tryd.prog.wantsStandIn t = false by simpa using List.all_eq_true.1 hall t hm)⟩)
    (by kernel_rfl)
end Go.Proofs.YtcdlhfodeckleaaDoor.Lt
