/-
  A list of numbers that an argument tells. No conditions.
  StepRuns holds: for any program, any context and any numbers the call returns true, and its arguments read afterwards as they read before. No conditions. Condition, tied to the program's text: the package-level tables read as their initialisers lay them.
-/
import Derived.Test.YtcdlhfodeckleaaDoorStFrame
import Derived.Test.YtcdlhfodeckleaaDoorPpFrame3
import Derived.Test.YtcdlhfodeckleaaDoorStRuns8
namespace Go.Proofs.YtcdlhfodeckleaaDoor.Lt
open Go.ChangeShapes Go.WideShapes Go.ChangeAt Go.RowKit Wd

theorem cI64 : Tryd.prog.cellsOf 2 = 1 := by kernel_rfl
theorem bI64 : Tryd.prog.bytesOf 2 = 8 := by kernel_rfl
section
variable {H : Type} {enc : TypeId × Value → H} {w : World} {base : Nat} {spare : Nat → Bool} {held : Bool}
theorem el_i64 (n : Nat) (cs : List Value) (z : DataW H × List MemPlace) (_hl : cs.length = 1) (h : DataW.trod enc Tryd.prog w base spare held n 2 cs = some z) : ∃ x : Int, cs = eI x ∧ True := by
  obtain ⟨x, e1, _, _⟩ := DataW.trod_int Tryd.underlying2 h
  exact ⟨x, by rw [e1]; rfl, trivial⟩
set_option maxRecDepth 100000 in
theorem open_i64s {r : Reach} {b0 : Nat} {v : Value} {d : DataW H} {p : List MemPlace} {ts : List TypeId} {ds : List (DataW H)} {j : Nat}
    (hv : Value.okWide Tryd.prog w r b0 57 v) (h : DataW.Trod enc Tryd.prog w base spare held 57 v d p) (hz : (DataW.weightsEach Tryd.prog ts ds).all (· ≤ reachBytes) = true) (ht : ts[j]? = some 57) (hd : ds[j]? = some d) :
    ∃ (ao : Option Addr) (n cap : Nat) (ys : List Int), v = .slice ao n cap ∧ Ls eI (· < w.heap.size) w (.slice ao n cap) ys ∧ n ≤ 17592186044416 := by
  obtain ⟨va, vl, vc, rfl⟩ := okWide_slice Tryd.underlying57 hv
  obtain ⟨fuel, hf⟩ := h
  have hf' : DataW.trod enc Tryd.prog w base spare held fuel 57 [.slice va vl vc] = some (d, p) := hf
  have hb : ∀ k ∈ d.weights Tryd.prog 57, k ≤ 140737488351232 := fun k hk => by
    have e' : reachBytes = 140737488351232 := by decide
    have := List.all_eq_true.1 hz _ (DataW.weights_mem_each ht hd k hk)
    simp only [decide_eq_true_eq] at this
    omega
  obtain ⟨ys, ly, sy⟩ := open_gen eI Tryd.underlying57 cI64 eI_len (by omega) (fun _ _ => True) (fun n cs z hl h => el_i64 n cs z hl h) hf'
  refine ⟨va, vl, vc, ys, rfl, ly, ?_⟩
  rw [ly.len.1]
  rcases sy with ⟨e, _⟩ | ⟨el, sp, e, hle, _⟩
  · rw [e]; simp
  · have := hb ((el.length + sp.length) * 8) (by
      have e9 : d = .slice el sp := e
      rw [e9]
      simp only [DataW.weights, Tryd.underlying57, bI64]
      exact List.mem_cons_self)
    omega
end
end Go.Proofs.YtcdlhfodeckleaaDoor.Lt

namespace Go.Proofs.YtcdlhfodeckleaaDoor.Lt
open Go.ChangeShapes Go.WideShapes Go.ChangeAt Go.RowKit Wd

set_option maxRecDepth 100000 in
theorem runs_lifted (os : Os) (started : os.Started) (H : Type) (enc : TypeId × Value → H) :
    ReturnsInHanded {} Tryd.checked os 7 .any (fun w args => (Rows.stepRunsSpec.pre enc Tryd.prog Tryd.f7 [] false w args ∧ laidMetH Tryd.prog L2 w) ∧ sizedMet enc Tryd.prog Tryd.f7 (OpenSpec.ofChange Rows.stepRunsSpec) false w args)
      (Rows.stepRunsSpec.post enc Tryd.prog Tryd.f7 false true false false) := by
  refine lift (C := Tryd.checked) (X := fun w _ => laidMetH Tryd.prog L2 w) (fun _ _ _ hh h => h.of_heap hh) own started (by kernel_rfl) Tryd.func7
    (ChangeSpec.witness_shaped (enc := enc) (C := Tryd.checked) (os := os) (X := fun w _ => laidMetH Tryd.prog L2 w) false (World.laidAll Tryd.prog os L2) #[.agg #[.slice none 0 0, .slice none 0 0, .slice none 0 0], .agg #[.int .i64 0, .int .i64 0, .int .i64 0, .int .i64 0, .int .i64 0, .int .i64 0, .int .i64 0, .int .i64 0, .int .i64 0, .int .i64 0, .int .i64 0, .int .i64 0, .int .i64 0, .int .i64 0, .int .i64 0, .int .i64 0, .int .i64 0, .slice none 0 0], .slice none 0 0] 8 (World.laidAll_os _ _ _) (shaped os _) (by kernel_rfl) (by kernel_rfl) (by kernel_rfl) (door os _)) ?_
  intro W base args ds gs before hval0 hW hsz hL hSh
  have hval : ∀ (j : Nat) t v, Tryd.f7.params[j]? = some t → args[j]? = some v → Value.okWide Tryd.prog W .any base t v := hval0
  have hW' := hW
  obtain ⟨p, q, hA0, hV, rfl, hfz, hnd⟩ := hW
  have hA : DataW.TrodAll enc Tryd.prog W 0 (fun _ => true) true Tryd.f7.params.toList args.toList ds p := hA0
  have hsz' : (DataW.weightsEach Tryd.prog (Tryd.f7.params.toList ++ Rows.stepRunsSpec.plain.varTypes Tryd.prog) (ds ++ gs)).all (· ≤ reachBytes) = true := hsz
  rw [Tryd.params7] at hA hval hsz'
  obtain ⟨v0, v1, v2, d0, d1, d2, p0, p1, p2, rfl, rfl, rfl, h0, h1, h2⟩ := trodAll_three hA
  obtain ⟨rfl, rfl⟩ := trodVars_none hV
  obtain ⟨ia0, ib0, ic0, cs0, fs0, tb0, rfl, hin0, hc0, hf0, ht0, hq0, hu0⟩ := open_prog (j := 0) (hval 0 26 v0 rfl rfl) h0 hsz' rfl rfl
  obtain ⟨pc1, rg1, xo1, xn1, xc1, ks1, rfl, hr1, hk1, hn1⟩ := open_ctx (j := 1) (hval 1 30 v1 rfl rfl) h1 hsz' rfl rfl
  obtain ⟨yo2, ny2, yc2, ys2, rfl, hy2, hn2⟩ := open_i64s (j := 2) (hval 2 57 v2 rfl rfl) h2 hsz' rfl rfl
  have hG := glb_of hL
  clear hA0 hval0
  simp only [List.append_nil] at hW'
  refine (runs_any9 _ W ia0 ib0 ic0 cs0 fs0 tb0 pc1 rg1 xo1 xn1 xc1 ks1 yo2 ny2 yc2 ys2 hin0 hc0 hf0 ht0 hq0 hu0 hr1 hk1 hn1 hy2 hn2 hG).mono fun e W' ⟨he, hg⟩ => ?_
  subst he
  exact ⟨_, rfl, post_law3  (by first | (rw [List.append_nil, List.append_nil]; exact hW') | (rw [List.append_nil]; exact hW') | exact hW') (by rw [Tryd.params7]) rfl Tryd.underlying4 rfl rfl (by kernel_rfl) (of_decide_eq_true (by kernel_rfl)) (by kernel_rfl) (of_decide_eq_true (by kernel_rfl)) (by kernel_rfl) (of_decide_eq_true (by kernel_rfl)) h0 h1 h2 (Ch.below hg (fun _ x => x.elim) (Nat.le_refl _))⟩

theorem runs_row : Rows.StepRunsSaid :=
  OpenClaim.holds_of_wide 7 Tryd.f7 rfl rfl rfl rfl rfl rfl rfl ⟨rfl, rfl, rfl, rfl, rfl⟩ rfl rfl rfl rfl rfl (by kernel_rfl) Tryd.func7 (by kernel_rfl)
    (of_decide_eq_true (by kernel_rfl)) (by unfold Func.isWrapper; first | (rw [if_pos (by decide +kernel)]; kernel_rfl) | (rw [if_neg (by decide +kernel)]; exact ⟨rfl, rfl⟩))
    (fun os started H enc _ => runs_lifted os started H enc)

theorem runs_holds : Rows.StepRunsCardSaid :=
  Claim7.holds_tied_plain_at .later [] [.data, .data] true _ _
    runs_row (fun _ h => by cases h) (by kernel_rfl) (fun _ h => by cases h) stepRuns_row_tie rfl ⟨rfl, rfl⟩ (by kernel_rfl) rfl
    (fun f fn hf hfn => by
      obtain rfl : f = 7 := Option.some.inj ((show Tryd.prog.funcNamed "rota/rotalaw09.StepRuns" = some 7 by kernel_rfl).symm.trans hf) |>.symm
      obtain rfl : fn = Tryd.f7 := (Option.some.inj (Tryd.func7.symm.trans hfn)).symm
      exact ⟨by kernel_rfl, fun j t ht => by
        rw [Tryd.params7] at ht
        have hm : t ∈ [26, 30, 57] := by simpa using Array.mem_of_getElem? ht
        have hall : ([26, 30, 57].all fun u => !Tryd.prog.wantsStandIn u) = true := by kernel_rfl
        exact (show Tryd.prog.wantsStandIn t = false by simpa using List.all_eq_true.1 hall t hm)⟩)
    (by kernel_rfl)
end Go.Proofs.YtcdlhfodeckleaaDoor.Lt
