/-
  How surroundings, and a context with some room, that are handed in read. No conditions.
  How a context that is handed in reads: its list leaves some room. No conditions.
-/
import Derived.Test.YtcdlhfodeckleabDoorStFrame
import Derived.Test.YtcdlhfodeckleabDoorPpFrame3
namespace Go.Proofs.YtcdlhfodeckleabDoor.Lt
open Go.ChangeShapes Go.WideShapes Go.ChangeAt Go.RowKit Go.Deep Go.Joins Wd
set_option maxRecDepth 100000

theorem cEnv : Tryd.prog.cellsOf 35 = 3 := by kernel_rfl
theorem cGid : Tryd.prog.cellsOf 33 = 2 := by kernel_rfl
theorem cCk : Tryd.prog.cellsOf 31 = 1 := by kernel_rfl
theorem cIn : Tryd.prog.cellsOf 3 = 1 := by kernel_rfl
theorem open_env {H : Type} {enc : TypeId × Value → H} {w : World} {base : Nat} {spare : Nat → Bool} {held : Bool} {r : Reach} {b0 : Nat} {v : Value} {d : DataW H} {p : List MemPlace}
    (hv : Value.okWide Tryd.prog w r b0 35 v) (h : DataW.Trod enc Tryd.prog w base spare held 35 v d p) : ∃ ck sl gn : Int, v = .agg #[.int .u64 ck, .int .i64 sl, .int .i64 gn] := by
  obtain ⟨vs, rfl, hsz⟩ := okWide_struct Tryd.underlying35 hv
  rw [cEnv] at hsz
  obtain ⟨fuel, hf⟩ := h
  obtain ⟨l⟩ := vs
  match l, hsz with
  | [c0, c1, c2], _ =>
    obtain ⟨xs, n, _, hx, hl, hlen, hfs⟩ := DataW.trod_struct Tryd.underlying35 hf
    match xs, hlen with
    | [y0, y1], _ =>
      have h0 := hfs 0 _ rfl
      have h1 := hfs 1 _ rfl
      have h0' : DataW.trod enc Tryd.prog w base spare held n 31 [c0] = some y0 := by simpa [Value.cells, cCk] using h0
      have h1' : DataW.trod enc Tryd.prog w base spare held n 33 [c1, c2] = some y1 := by simpa [Value.cells, cGid] using h1
      obtain ⟨zs, m, _, hx', hl', hlen', hfs'⟩ := DataW.trod_struct Tryd.underlying33 h1'
      match zs, hlen' with
      | [z0, z1], _ =>
        have k0 := hfs' 0 _ rfl
        have k1 := hfs' 1 _ rfl
        have k0' : DataW.trod enc Tryd.prog w base spare held m 3 [c1] = some z0 := by simpa [Value.cells, cIn] using k0
        have k1' : DataW.trod enc Tryd.prog w base spare held m 3 [c2] = some z1 := by simpa [Value.cells, cIn] using k1
        obtain ⟨x, e0, _⟩ := DataW.trod_int Tryd.underlying31 h0'
        obtain ⟨y, e1, _⟩ := DataW.trod_int Tryd.underlying3 k0'
        obtain ⟨z, e2, _⟩ := DataW.trod_int Tryd.underlying3 k1'
        simp at e0 e1 e2
        exact ⟨x, y, z, by rw [e0, e1, e2]⟩
end Go.Proofs.YtcdlhfodeckleabDoor.Lt

namespace Go.Proofs.YtcdlhfodeckleabDoor.Lt
open Go.ChangeShapes Go.WideShapes Go.ChangeAt Go.RowKit Go.Deep Go.Joins Wd
set_option maxRecDepth 100000

section
variable {H : Type} {enc : TypeId × Value → H} {w : World} {base : Nat} {spare : Nat → Bool} {held : Bool}
theorem open_ctx9 {r : Reach} {b0 : Nat} {v : Value} {d : DataW H} {p : List MemPlace} {ts : List TypeId} {ds : List (DataW H)} {j : Nat}
    (hv : Value.okWide Tryd.prog w r b0 30 v) (h : DataW.Trod enc Tryd.prog w base spare held 30 v d p) (hz : (DataW.weightsEach Tryd.prog ts ds).all (· ≤ reachBytes) = true) (ht : ts[j]? = some 30) (hd : ds[j]? = some d) :
    ∃ (pc : Int) (rg : List Int) (ao : Option Addr) (n cap : Nat) (ks : List Int), v = .agg (cC pc rg (.slice ao n cap)) ∧ rg.length = 16 ∧ Ls eI (· < w.heap.size) w (.slice ao n cap) ks ∧ n ≤ 17592186043904 := by
  obtain ⟨vs, rfl, hsz⟩ := okWide_struct Tryd.underlying30 hv
  rw [cX] at hsz
  obtain ⟨fuel, hf⟩ := h
  have hb : ∀ k ∈ d.weights Tryd.prog 30, k ≤ 140737488351232 := fun k hk => by
    have e' : reachBytes = 140737488351232 := by decide
    have := List.all_eq_true.1 hz _ (DataW.weights_mem_each ht hd k hk)
    simp only [decide_eq_true_eq] at this
    omega
  obtain ⟨l⟩ := vs
  match l, hsz with
  | [c0, c1, c2, c3, c4, c5, c6, c7, c8, c9, c10, c11, c12, c13, c14, c15, c16, c17], _ =>
    obtain ⟨xs, n, _, hx, hl, hlen, hfs⟩ := DataW.trod_struct Tryd.underlying30 hf
    match xs, hlen with
    | [y0, y1, y2], _ =>
      have h0 := hfs 0 _ rfl
      have h1 := hfs 1 _ rfl
      have h2 := hfs 2 _ rfl
      have h0' : DataW.trod enc Tryd.prog w base spare held n 3 [c0] = some y0 := by simpa [Value.cells, cellsI] using h0
      have h1' : DataW.trod enc Tryd.prog w base spare held n 27 [c1, c2, c3, c4, c5, c6, c7, c8, c9, c10, c11, c12, c13, c14, c15, c16] = some y1 := by simpa [Value.cells, cR] using h1
      have h2' : DataW.trod enc Tryd.prog w base spare held n 28 [c17] = some y2 := by simpa [Value.cells, cLI] using h2
      obtain ⟨pc, e0, _⟩ := DataW.trod_int Tryd.underlying3 h0'
      obtain ⟨rg, hr, e1⟩ := open_sixteen h1'
      obtain ⟨ks, lk, sk⟩ := open_gen eI Tryd.underlying28 cellsI eI_len (by omega) (fun _ _ => True) (fun n cs z hl h => el_int n cs z hl h) h2'
      obtain ⟨ao, cap, e2⟩ := lk.form
      have hdx : d = .agg [y0.1, y1.1, y2.1] := by
        have := congrArg Prod.fst hx
        simpa using this
      refine ⟨pc, rg, ao, ks.length, cap, ks, ?_, hr, by rw [← e2]; exact lk, ?_⟩
      · have e0' : c0 = .int .i64 pc := by simpa using e0
        have : [c0, c1, c2, c3, c4, c5, c6, c7, c8, c9, c10, c11, c12, c13, c14, c15, c16, c17] = .int .i64 pc :: (rg.map (Value.int .i64) ++ [.slice ao ks.length cap]) := by
          rw [← e1, ← e2, ← e0']
          rfl
        unfold cC
        rw [← this]
      · rcases sk with ⟨e, _⟩ | ⟨el, sp, e, hle, _⟩
        · rw [e]
          simp
        · have := hb ((el.length + sp.length) * 8) (by
            rw [hdx]
            simp only [DataW.weights, Tryd.underlying30, e]
            simp [DataW.weights, DataW.weightsEach, Tryd.underlying28, bI])
          omega
end
end Go.Proofs.YtcdlhfodeckleabDoor.Lt
