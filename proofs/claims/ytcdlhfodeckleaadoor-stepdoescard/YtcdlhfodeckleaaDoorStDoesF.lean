/-
  StepDoes, walked, for a program that is handed in. Condition: the tables lie where they lie.
  How surroundings that are handed in read. No conditions.
-/
import Derived.Test.YtcdlhfodeckleaaDoorStDoes
import Derived.Test.YtcdlhfodeckleaaDoorStFrame
import Derived.Test.YtcdlhfodeckleaaDoorPpFrame3
namespace Go.Proofs.YtcdlhfodeckleaaDoor.Lt
open Go.RowKit Wd

theorem does_any9 (P : Nat → Prop) (w : World) (ia ib ic : Value) (cs : List Int) (fs : List (Int × Int)) (tb : List Tb) (pc : Int) (r : List Int) (ao : Option Addr) (n cap : Nat) (ks : List Int) (ck sl gn : Int) (h : Pin P w ia ib ic cs fs tb) (hc : cs.length ≤ 35184372088832) (_hf : fs.length ≤ 8796093022208) (_ht : tb.length ≤ 4398046511104) (_hq : ∀ t ∈ tb, t.cs.length ≤ 4398046511104) (hu : U32s cs) (hr : r.length = 16) (hk : Ls eI P w (.slice ao n cap) ks) (hn : n ≤ 17592186044416) (hg : Glb w) :
    Calls Tryd.prog 5 #[.agg #[ia, ib, ic], .agg (cC pc r (.slice ao n cap)), .agg #[.int .u64 ck, .int .i64 sl, .int .i64 gn]] w fun e w' => e = .returned (.bool true) ∧ Gr w w' := by
  obtain ⟨aoc, cac, rfl⟩ := h.c.form
  obtain ⟨aof, caf, rfl⟩ := h.f.form
  obtain ⟨aot, cat, rfl⟩ := h.t.form
  have hkl : ks.length ≤ 17592186044416 := by have := hk.len.1; omega
  obtain ⟨q0, q1, q2, q3, q4, q5, q6, q7, q8, q9, q10, hw⟩ := stp_wt cs fs pc r ks ck sl gn
  have hPP := fun (W : World) (p : Gr w W) (ao2 : Option Addr) (n2 cap2 B : Nat) (o : Ow eI 1 3 B W (.slice ao2 n2 cap2) ks) => pstep_any (fun q => P q ∨ B ≤ q) W aoc aof aot cs.length fs.length tb.length cac caf cat cs ((h.c.gr p).mono (fun _ _ q => .inl q)) hu (hg.gr p) hc fs ((h.f.gr p).mono (fun _ _ q => .inl q)) pc r hr ao2 n2 cap2 ks (o.lst.mono (fun _ _ q => .inr q)) (by have := o.len.1; omega) ck sl gn
  have hRR := fun (W : World) (p : Gr w W) => rstep_any P W aoc aof aot cs.length fs.length tb.length cac caf cat cs (h.c.gr p) hu hc fs (h.f.gr p) pc r hr ao n cap ks (hk.gr p) hn ck sl gn
  unfold StO at hPP hRR
  rw [hw] at hRR
  simp only [hw] at hPP
  exact does_walk w hg aoc aof aot _ _ _ cac caf cat pc r hr ao n cap ks ck sl gn _ _ ((stp_len cs fs pc r ks ck sl gn).trans hr) _ (stp_ks cs fs pc r ks ck sl gn hkl) q0 q1 q2 q3 q4 q5 q6 q7 q8 q9 q10 (fun W p => twin_any P W pc r hr ao n cap ks (hk.gr p) hn) hPP hRR
end Go.Proofs.YtcdlhfodeckleaaDoor.Lt

namespace Go.Proofs.YtcdlhfodeckleaaDoor.Lt
open Go.ChangeShapes Go.WideShapes Go.ChangeAt Go.RowKit Go.Deep Go.Joins Wd
set_option maxRecDepth 100000

theorem cEnv : Tryd.prog.cellsOf 44 = 3 := by kernel_rfl
theorem cGid : Tryd.prog.cellsOf 42 = 2 := by kernel_rfl
theorem cCk : Tryd.prog.cellsOf 40 = 1 := by kernel_rfl
theorem cIn : Tryd.prog.cellsOf 3 = 1 := by kernel_rfl
theorem open_env {H : Type} {enc : TypeId × Value → H} {w : World} {base : Nat} {spare : Nat → Bool} {held : Bool} {r : Reach} {b0 : Nat} {v : Value} {d : DataW H} {p : List MemPlace}
    (hv : Value.okWide Tryd.prog w r b0 44 v) (h : DataW.Trod enc Tryd.prog w base spare held 44 v d p) : ∃ ck sl gn : Int, v = .agg #[.int .u64 ck, .int .i64 sl, .int .i64 gn] := by
  obtain ⟨vs, rfl, hsz⟩ := okWide_struct Tryd.underlying44 hv
  rw [cEnv] at hsz
  obtain ⟨fuel, hf⟩ := h
  obtain ⟨l⟩ := vs
  match l, hsz with
  | [c0, c1, c2], _ =>
    obtain ⟨xs, n, _, hx, hl, hlen, hfs⟩ := DataW.trod_struct Tryd.underlying44 hf
    match xs, hlen with
    | [y0, y1], _ =>
      have h0 := hfs 0 _ rfl
      have h1 := hfs 1 _ rfl
      have h0' : DataW.trod enc Tryd.prog w base spare held n 40 [c0] = some y0 := by simpa [Value.cells, cCk] using h0
      have h1' : DataW.trod enc Tryd.prog w base spare held n 42 [c1, c2] = some y1 := by simpa [Value.cells, cGid] using h1
      obtain ⟨zs, m, _, hx', hl', hlen', hfs'⟩ := DataW.trod_struct Tryd.underlying42 h1'
      match zs, hlen' with
      | [z0, z1], _ =>
        have k0 := hfs' 0 _ rfl
        have k1 := hfs' 1 _ rfl
        have k0' : DataW.trod enc Tryd.prog w base spare held m 3 [c1] = some z0 := by simpa [Value.cells, cIn] using k0
        have k1' : DataW.trod enc Tryd.prog w base spare held m 3 [c2] = some z1 := by simpa [Value.cells, cIn] using k1
        obtain ⟨x, e0, _⟩ := DataW.trod_int Tryd.underlying40 h0'
        obtain ⟨y, e1, _⟩ := DataW.trod_int Tryd.underlying3 k0'
        obtain ⟨z, e2, _⟩ := DataW.trod_int Tryd.underlying3 k1'
        simp at e0 e1 e2
        exact ⟨x, y, z, by rw [e0, e1, e2]⟩
end Go.Proofs.YtcdlhfodeckleaaDoor.Lt
