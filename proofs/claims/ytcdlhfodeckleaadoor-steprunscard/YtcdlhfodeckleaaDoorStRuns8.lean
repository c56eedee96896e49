/-
  StepRuns: a step and an answer on both sides, for a program that is handed in. Condition: the tables lie where they lie.
  StepRuns, walked, for a program that is handed in. Condition: the tables lie where they lie.
-/
import Derived.Test.YtcdlhfodeckleaaDoorStRnM
import Derived.Test.YtcdlhfodeckleaaDoorSwPR
import Derived.Test.YtcdlhfodeckleaaDoorStRns
namespace Go.Proofs.YtcdlhfodeckleaaDoor.Lt
open Go.RowKit Wd

theorem rds_any (P : Nat → Prop) (w : World) (aoc aof aot : Option Addr) (nt cac caf cat : Nat) (cs : List Int) (fs : List (Int × Int)) (hc : Ls eU P w (.slice aoc cs.length cac) cs) (hf : Ls eG P w (.slice aof fs.length caf) fs) (hl : cs.length ≤ 35184372088832) (hu : U32s cs) (hg : Glb w) :
    RdS w #[.slice aoc cs.length cac, .slice aof fs.length caf, .slice aot nt cat] := by
  intro pc r ks ck sl gn hr hk
  obtain ⟨q0, q1, q2, q3, q4, q5, q6, q7, q8, q9, q10, hw⟩ := stp_wt cs fs pc r ks ck sl gn
  refine ⟨(stp cs fs pc r ks ck sl gn).1, (stp cs fs pc r ks ck sl gn).2.1, (stp cs fs pc r ks ck sl gn).2.2.1, q0, q1, q2, q3, q4, q5, q6, q7, q8, q9, q10, (stp_len cs fs pc r ks ck sl gn).trans hr, stp_ks cs fs pc r ks ck sl gn hk, fun W p ao n cap N f => ?_, fun W p ao n cap N f => ?_⟩
  · obtain ⟨b, l⟩ := f.lst
    have h := pstep_any (fun q => P q ∨ b ≤ q) W aoc aof aot cs.length fs.length nt cac caf cat cs ((hc.gr p).mono (fun _ _ q => .inl q)) hu (hg.gr p) hl fs ((hf.gr p).mono (fun _ _ q => .inl q)) pc r hr ao n cap ks (l.mono (fun _ _ q => .inr q)) (by have := f.len; omega) ck sl gn
    unfold StO at h
    rw [hw] at h
    exact h
  · obtain ⟨b, l⟩ := f.lst
    have h := rstep_any (fun q => P q ∨ b ≤ q) W aoc aof aot cs.length fs.length nt cac caf cat cs ((hc.gr p).mono (fun _ _ q => .inl q)) hu hl fs ((hf.gr p).mono (fun _ _ q => .inl q)) pc r hr ao n cap ks (l.mono (fun _ _ q => .inr q)) (by have := f.len; omega) ck sl gn
    unfold StO at h
    rw [hw] at h
    exact h
theorem pans_fr (w W : World) (_p : Gr w W) (pc : Int) (r ks : List Int) (ao : Option Addr) (n cap : Nat) (N : Nat → Prop) (o a b c m v k : Int) (hr : r.length = 16) (hk : ks.length ≤ 17592186044416) (f : Fr N W (.slice ao n cap) ks) :
    Calls Tryd.prog 18 #[.agg (cC pc r (.slice ao n cap)), .agg #[.int .i64 o, .int .i64 a, .int .i64 b, .int .i64 c, .int .i64 m], .int .i64 v, .int .i64 k] W (CxR W pc (ans o a b c v k r) ks) :=
  pans_any _ W pc r hr ao n cap ks f.lst.choose_spec (by have := f.len; omega) o a b c m v k
theorem rans_fr (w W : World) (_p : Gr w W) (pc : Int) (r ks : List Int) (ao : Option Addr) (n cap : Nat) (N : Nat → Prop) (o a b c m v k : Int) (hr : r.length = 16) (hk : ks.length ≤ 17592186044416) (f : Fr N W (.slice ao n cap) ks) :
    Calls Tryd.prog 19 #[.agg (cC pc r (.slice ao n cap)), .agg #[.int .i64 o, .int .i64 a, .int .i64 b, .int .i64 c, .int .i64 m], .int .i64 v, .int .i64 k] W (CxR W pc (ans o a b c v k r) ks) :=
  rans_any _ W pc r hr ao n cap ks f.lst.choose_spec (by have := f.len; omega) o a b c m v k
end Go.Proofs.YtcdlhfodeckleaaDoor.Lt

namespace Go.Proofs.YtcdlhfodeckleaaDoor.Lt
open Go.RowKit Wd

theorem runs_any9 (P : Nat → Prop) (w : World) (ia ib ic : Value) (cs : List Int) (fs : List (Int × Int)) (tb : List Tb) (pc : Int) (r : List Int) (ao : Option Addr) (n cap : Nat) (ks : List Int) (yo : Option Addr) (ny yc : Nat) (ys : List Int) (h : Pin P w ia ib ic cs fs tb) (hc : cs.length ≤ 35184372088832) (_hf : fs.length ≤ 8796093022208) (_ht : tb.length ≤ 4398046511104) (_hq : ∀ t ∈ tb, t.cs.length ≤ 4398046511104) (hu : U32s cs) (hr : r.length = 16) (hk : Ls eI P w (.slice ao n cap) ks) (hn : n ≤ 17592186044416) (hy : Ls eI P w (.slice yo ny yc) ys) (hny : ny ≤ 17592186044416) (hg : Glb w) :
    Calls Tryd.prog 7 #[.agg #[ia, ib, ic], .agg (cC pc r (.slice ao n cap)), .slice yo ny yc] w fun e w' => e = .returned (.bool true) ∧ Gr w w' := by
  obtain ⟨aoc, cac, rfl⟩ := h.c.form
  obtain ⟨aof, caf, rfl⟩ := h.f.form
  obtain ⟨aot, cat, rfl⟩ := h.t.form
  exact runs_walk P w hg aoc aof aot _ _ _ cac caf cat pc r hr ao n cap ks (by have := hk.len.1; omega) yo ny yc ys hy hny (fun W p => twin_any P W pc r hr ao n cap ks (hk.gr p) hn) (rds_any P w aoc aof aot _ cac caf cat cs fs h.c h.f hc hu hg) (pans_fr w) (rans_fr w)
end Go.Proofs.YtcdlhfodeckleaaDoor.Lt
