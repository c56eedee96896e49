/-
  How a context that is handed in reads. No conditions.
-/
import Derived.Test.YtcdlhfodeckleaaDoorStBase
import Derived.Test.YtcdlhfodeckleaaDoorPpFrame
namespace Go.Proofs.YtcdlhfodeckleaaDoor.Lt
open Go.ChangeShapes Go.WideShapes Go.ChangeAt Go.RowKit Go.Deep Go.Joins Wd
set_option maxRecDepth 100000

theorem cX : Tryd.prog.cellsOf 30 = 18 := by kernel_rfl
theorem cR : Tryd.prog.cellsOf 27 = 16 := by kernel_rfl
theorem cL : Tryd.prog.cellsOf 2 = 1 := by kernel_rfl
theorem cLI : Tryd.prog.cellsOf 28 = 1 := by kernel_rfl
theorem bI : Tryd.prog.bytesOf 3 = 8 := by kernel_rfl
section
variable {H : Type} {enc : TypeId × Value → H} {w : World} {base : Nat} {spare : Nat → Bool} {held : Bool}
theorem el_int (n : Nat) (cs : List Value) (z : DataW H × List MemPlace) (_hl : cs.length = 1) (h : DataW.trod enc Tryd.prog w base spare held n 3 cs = some z) : ∃ x : Int, cs = eI x ∧ True := by
  obtain ⟨x, e1, _, hw⟩ := DataW.trod_int Tryd.underlying3 h
  exact ⟨x, by rw [e1]; rfl, trivial⟩
/-- sixteen numbers -/
theorem open_sixteen {fuel : Nat} {cs : List Value} {x : DataW H × List MemPlace} (h : DataW.trod enc Tryd.prog w base spare held fuel 27 cs = some x) : ∃ r : List Int, r.length = 16 ∧ cs = r.map (Value.int .i64) := by
  obtain ⟨xs, m, rfl, hx, hlen, hn, hel⟩ := DataW.trod_array Tryd.underlying27 h
  rw [cR] at hlen
  have hg : ∀ i, i < 16 → ∃ z : Int, cs[i]? = some (.int .i64 z) := fun i hi => by
    have h1 := hel i hi
    obtain ⟨y, hy⟩ : ∃ y, xs[i]? = some y := ⟨_, List.getElem?_eq_getElem (by omega)⟩
    rw [hy, cL] at h1
    obtain ⟨z, e, _⟩ := DataW.trod_int Tryd.underlying2 h1
    exact ⟨z, Wd.take_one e⟩
  obtain ⟨Z, hZ⟩ := choose_lt (α := Int) (n := 16) (p := fun i z => cs[i]? = some (.int .i64 z)) hg
  refine ⟨(List.range 16).map Z, by simp, List.ext_getElem? fun i => ?_⟩
  rcases Nat.lt_or_ge i 16 with hi | hi
  · rw [hZ i hi, List.map_map, List.getElem?_map, List.getElem?_range hi]
    rfl
  · rw [List.getElem?_eq_none (by omega), List.getElem?_eq_none (by simpa using hi)]
theorem open_ctx {r : Reach} {b0 : Nat} {v : Value} {d : DataW H} {p : List MemPlace} {ts : List TypeId} {ds : List (DataW H)} {j : Nat}
    (hv : Value.okWide Tryd.prog w r b0 30 v) (h : DataW.Trod enc Tryd.prog w base spare held 30 v d p) (hz : (DataW.weightsEach Tryd.prog ts ds).all (· ≤ reachBytes) = true) (ht : ts[j]? = some 30) (hd : ds[j]? = some d) :
    ∃ (pc : Int) (rg : List Int) (ao : Option Addr) (n cap : Nat) (ks : List Int), v = .agg (cC pc rg (.slice ao n cap)) ∧ rg.length = 16 ∧ Ls eI (· < w.heap.size) w (.slice ao n cap) ks ∧ n ≤ 17592186044416 := by
  obtain ⟨vs, rfl, hsz⟩ := okWide_struct Tryd.underlying30 hv
  rw [cX] at hsz
  obtain ⟨fuel, hf⟩ := h
  have hb : ∀ k ∈ d.weights Tryd.prog 30, k ≤ 140737488351232 := fun k hk => by
    have e' : reachBytes = 140737488351232 := by decide
    have := List.all_eq_true.1 hz _ (DataW.weights_mem_each ht hd k hk)
    simp only [decide_eq_true_eq] at this
    omega
  obtain ⟨l⟩ := vs
  match l, hsz with
  | [c0, c1, c2, c3, c4, c5, c6, c7, c8, c9, c10, c11, c12, c13, c14, c15, c16, c17], _ =>
    obtain ⟨xs, n, _, hx, hl, hlen, hfs⟩ := DataW.trod_struct Tryd.underlying30 hf
    match xs, hlen with
    | [y0, y1, y2], _ =>
      have h0 := hfs 0 _ rfl
      have h1 := hfs 1 _ rfl
      have h2 := hfs 2 _ rfl
      have h0' : DataW.trod enc Tryd.prog w base spare held n 3 [c0] = some y0 := by simpa [Value.cells, cellsI] using h0
      have h1' : DataW.trod enc Tryd.prog w base spare held n 27 [c1, c2, c3, c4, c5, c6, c7, c8, c9, c10, c11, c12, c13, c14, c15, c16] = some y1 := by simpa [Value.cells, cR] using h1
      have h2' : DataW.trod enc Tryd.prog w base spare held n 28 [c17] = some y2 := by simpa [Value.cells, cLI] using h2
      obtain ⟨pc, e0, _⟩ := DataW.trod_int Tryd.underlying3 h0'
      obtain ⟨rg, hr, e1⟩ := open_sixteen h1'
      obtain ⟨ks, lk, sk⟩ := open_gen eI Tryd.underlying28 cellsI eI_len (by omega) (fun _ _ => True) (fun n cs z hl h => el_int n cs z hl h) h2'
      obtain ⟨ao, cap, e2⟩ := lk.form
      have hdx : d = .agg [y0.1, y1.1, y2.1] := by
        have := congrArg Prod.fst hx
        simpa using this
      refine ⟨pc, rg, ao, ks.length, cap, ks, ?_, hr, by rw [← e2]; exact lk, ?_⟩
      · have e0' : c0 = .int .i64 pc := by simpa using e0
        have : [c0, c1, c2, c3, c4, c5, c6, c7, c8, c9, c10, c11, c12, c13, c14, c15, c16, c17] = .int .i64 pc :: (rg.map (Value.int .i64) ++ [.slice ao ks.length cap]) := by
          rw [← e1, ← e2, ← e0']
          rfl
        unfold cC
        rw [← this]
      · rcases sk with ⟨e, _⟩ | ⟨el, sp, e, hle, _⟩
        · rw [e]
          simp
        · have := hb ((el.length + sp.length) * 8) (by
            rw [hdx]
            simp only [DataW.weights, Tryd.underlying30, e]
            simp [DataW.weights, DataW.weightsEach, Tryd.underlying28, bI])
          omega
end
end Go.Proofs.YtcdlhfodeckleaaDoor.Lt
