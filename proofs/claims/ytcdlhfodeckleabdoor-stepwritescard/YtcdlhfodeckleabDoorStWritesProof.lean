/-
  StepWrites answers true, for every program, context and surroundings. Condition, tied to the program's text: the package-level tables read as their initialisers lay them.
-/
import Derived.Test.YtcdlhfodeckleabDoorStWr9
import Derived.Test.YtcdlhfodeckleabDoorStFrameX
namespace Go.Proofs.YtcdlhfodeckleabDoor.Lt
open Go.ChangeShapes Go.WideShapes Go.ChangeAt Go.RowKit Wd

set_option maxRecDepth 100000 in
theorem writes_lifted (os : Os) (started : os.Started) (H : Type) (enc : TypeId × Value → H) :
    ReturnsInHanded {} Tryd.checked os 3 .any (fun w args => (Rows.stepWritesSpec.pre enc Tryd.prog Tryd.f3 [] false w args ∧ laidMetH Tryd.prog L2 w) ∧ sizedMet enc Tryd.prog Tryd.f3 (OpenSpec.ofChange Rows.stepWritesSpec) false w args)
      (Rows.stepWritesSpec.post enc Tryd.prog Tryd.f3 false true false false) := by
  refine lift (C := Tryd.checked) (X := fun w _ => laidMetH Tryd.prog L2 w) (fun _ _ _ hh h => h.of_heap hh) own started (by kernel_rfl) Tryd.func3
    (ChangeSpec.witness_shaped (enc := enc) (C := Tryd.checked) (os := os) (X := fun w _ => laidMetH Tryd.prog L2 w) false (World.laidAll Tryd.prog os L2) #[.agg #[.slice none 0 0, .slice none 0 0, .slice none 0 0], .agg #[.int .i64 0, .int .i64 0, .int .i64 0, .int .i64 0, .int .i64 0, .int .i64 0, .int .i64 0, .int .i64 0, .int .i64 0, .int .i64 0, .int .i64 0, .int .i64 0, .int .i64 0, .int .i64 0, .int .i64 0, .int .i64 0, .int .i64 0, .slice none 0 0], .agg #[.int .u64 0, .int .i64 0, .int .i64 0]] 8 (World.laidAll_os _ _ _) (shaped os _) (by kernel_rfl) (by kernel_rfl) (by kernel_rfl) (door os _)) ?_
  intro W base args ds gs before hval0 hW hsz hL hSh
  have hval : ∀ (j : Nat) t v, Tryd.f3.params[j]? = some t → args[j]? = some v → Value.okWide Tryd.prog W .any base t v := hval0
  have hW' := hW
  obtain ⟨p, q, hA0, hV, rfl, hfz, hnd⟩ := hW
  have hA : DataW.TrodAll enc Tryd.prog W 0 (fun _ => true) true Tryd.f3.params.toList args.toList ds p := hA0
  have hsz' : (DataW.weightsEach Tryd.prog (Tryd.f3.params.toList ++ Rows.stepWritesSpec.plain.varTypes Tryd.prog) (ds ++ gs)).all (· ≤ reachBytes) = true := hsz
  rw [Tryd.params3] at hA hval hsz'
  obtain ⟨v0, v1, v2, d0, d1, d2, p0, p1, p2, rfl, rfl, rfl, h0, h1, h2⟩ := trodAll_three hA
  obtain ⟨rfl, rfl⟩ := trodVars_none hV
  obtain ⟨ia0, ib0, ic0, cs0, fs0, tb0, rfl, hin0, hc0, hf0, ht0, hq0, hu0⟩ := open_prog (j := 0) (hval 0 26 v0 rfl rfl) h0 hsz' rfl rfl
  obtain ⟨pc1, rg1, xo1, xn1, xc1, ks1, rfl, hr1, hk1, hn1⟩ := open_ctx (j := 1) (hval 1 30 v1 rfl rfl) h1 hsz' rfl rfl
  obtain ⟨ek2, es2, eg2, rfl⟩ := open_env (hval 2 35 v2 rfl rfl) h2
  have hG := glb_of hL
  clear hA0 hval0
  simp only [List.append_nil] at hW'
  refine (writes_any9 _ W ia0 ib0 ic0 cs0 fs0 tb0 pc1 rg1 xo1 xn1 xc1 ks1 ek2 es2 eg2 hin0 hc0 hf0 ht0 hq0 hu0 hr1 hk1 hn1 hG).mono fun e W' ⟨he, hg⟩ => ?_
  subst he
  exact ⟨_, rfl, post_law3  (by first | (rw [List.append_nil, List.append_nil]; exact hW') | (rw [List.append_nil]; exact hW') | exact hW') (by rw [Tryd.params3]) rfl Tryd.underlying4 rfl rfl (by kernel_rfl) (of_decide_eq_true (by kernel_rfl)) (by kernel_rfl) (of_decide_eq_true (by kernel_rfl)) (by kernel_rfl) (of_decide_eq_true (by kernel_rfl)) h0 h1 h2 (Ch.below hg (fun _ x => x.elim) (Nat.le_refl _))⟩

theorem writes_row : Rows.StepWritesSaid :=
  OpenClaim.holds_of_wide 3 Tryd.f3 rfl rfl rfl rfl rfl rfl rfl ⟨rfl, rfl, rfl, rfl, rfl⟩ rfl rfl rfl rfl rfl (by kernel_rfl) Tryd.func3 (by kernel_rfl)
    (of_decide_eq_true (by kernel_rfl)) (by unfold Func.isWrapper; first | (rw [if_pos (by decide +kernel)]; kernel_rfl) | (rw [if_neg (by decide +kernel)]; exact ⟨rfl, rfl⟩))
    (fun os started H enc _ => writes_lifted os started H enc)

theorem writes_holds : Rows.StepWritesCardSaid :=
  Claim7.holds_tied_plain_at .later [] [.data, .data] true _ _
    writes_row (fun _ h => by cases h) (by kernel_rfl) (fun _ h => by cases h) stepWrites_row_tie rfl ⟨rfl, rfl⟩ (by kernel_rfl) rfl
    (fun f fn hf hfn => by
      obtain rfl : f = 3 := Option.some.inj ((show Tryd.prog.funcNamed "rota/rotalaw09.StepWrites" = some 3 by kernel_rfl).symm.trans hf) |>.symm
      obtain rfl : fn = Tryd.f3 := (Option.some.inj (Tryd.func3.symm.trans hfn)).symm
      exact ⟨by kernel_rfl, fun j t ht => by
        rw [Tryd.params3] at ht
        have hm : t ∈ [26, 30, 35] := by simpa using Array.mem_of_getElem? ht
        have hall : ([26, 30, 35].all fun u => !Tryd.prog.wantsStandIn u) = true := by kernel_rfl
        exact (show Tryd.prog.wantsStandIn t = false by simpa using List.all_eq_true.1 hall t hm)⟩)
    (by kernel_rfl)
end Go.Proofs.YtcdlhfodeckleabDoor.Lt
