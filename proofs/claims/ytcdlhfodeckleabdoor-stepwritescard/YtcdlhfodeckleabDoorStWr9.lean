/-
  What the program's Step answers, of any program, context and surroundings: what the plain function says. Conditions: words are words; the lists lie where they lie. What the document's Step answers, of any program, context and surroundings: what the plain function says. Conditions: words are words; the lists lie where they lie.
  StepAnswers, walked. Condition: the tables lie where they lie.
  StepWrites, walked, for a program that is handed in. Condition: the tables lie where they lie.
-/
import Derived.Test.YtcdlhfodeckleabDoorSwStp
import Derived.Test.YtcdlhfodeckleabDoorSuMe
import Derived.Test.YtcdlhfodeckleabDoorSuMb
import Derived.Test.YtcdlhfodeckleabDoorSuMd
import Derived.Test.YtcdlhfodeckleabDoorStAnsP
import Derived.Test.YtcdlhfodeckleabDoorStAnsR
import Derived.Test.YtcdlhfodeckleabDoorStSame
import Derived.Test.YtcdlhfodeckleabDoorStWrites
namespace Go.Proofs.YtcdlhfodeckleabDoor.Lt
open Go.RowKit Wd

theorem pstep_any (P : Nat → Prop) (w : World) (aoc aof aot : Option Addr) (nc nf nt cac caf cat : Nat) (cs : List Int) (h : Ls eU P w (.slice aoc nc cac) cs) (hu : U32s cs) (hg : Glb w) (hcl : nc ≤ 35184372088832) (fs : List (Int × Int)) (hfs : Ls eG P w (.slice aof nf caf) fs) (pc : Int) (r : List Int) (hr : r.length = 16) (ao : Option Addr) (n cap : Nat) (ks : List Int) (hk : Ls eI P w (.slice ao n cap) ks) (hn : n ≤ 17592186044416) (ck sl gn : Int) :
    Calls Tryd.prog 5 #[.agg #[.slice aoc nc cac, .slice aof nf caf, .slice aot nt cat], .agg (cC pc r (.slice ao n cap)), .agg #[.int .u64 ck, .int .i64 sl, .int .i64 gn]] w (StO w (stp cs fs pc r ks ck sl gn)) := by
  unfold StO
  have hnl := hk.len.1
  have hfl := hfs.len.1
  cases hB : nB cs pc with
  | false =>
    have e : stp cs fs pc r ks ck sl gn = (pc, r, ks, wt 58 0 0 0 0 0 0 0 0 1 0) := by simp [stp, hB]
    rw [e]
    exact pstep_none P w aoc aof aot nc nf nt cac caf cat cs h hu hg pc r hr ao n cap ks hk hn ck sl gn _ _ _ _ _ rfl hB
  | true =>
    obtain ⟨o, m, a, b, c, hI, o1, o58, la, lb, lc, hm20⟩ := nI_some hB
    have hx := gt_get (r := r) (a := a) (by omega)
    have hy := gt_get (r := r) (a := b) (by omega)
    have hz := gt_get (r := r) (a := c) (by omega)
    by_cases h58 : o = 58
    · subst h58
      have e : stp cs fs pc r ks ck sl gn = (pc, r, ks, wt 58 0 0 0 0 0 0 0 0 16 m) := by simp [stp, hB, hI]
      rw [e]
      exact pstep_trap P w aoc aof aot nc nf nt cac caf cat cs h hu hg hcl pc r hr ao n cap ks hk hn ck sl gn _ _ _ _ _ hI hB 16 m (fun W ao2 n2 cap2 _ => traps_58 W aoc aof aot nc nf nt cac caf cat pc r ao2 n2 cap2 _ _ _ m)

    by_cases h8 : o = 8 ∨ o = 9
    · by_cases hz0 : gt r (c : Int) = 0
      · have hz' : r[c]? = some 0 := hz0 ▸ hz
        rcases h8 with rfl | rfl
        · have e : stp cs fs pc r ks ck sl gn = (pc, r, ks, wt 58 0 0 0 0 0 0 0 0 2 0) := by simp [stp, hB, hI, hz0]
          rw [e]
          exact pstep_trap P w aoc aof aot nc nf nt cac caf cat cs h hu hg hcl pc r hr ao n cap ks hk hn ck sl gn _ _ _ _ _ hI hB 2 0 (fun W ao2 n2 cap2 _ => traps_div0_8 W aoc aof aot nc nf nt cac caf cat pc r hr ao2 n2 cap2 _ _ m c lc hz')
        · have e : stp cs fs pc r ks ck sl gn = (pc, r, ks, wt 58 0 0 0 0 0 0 0 0 2 0) := by simp [stp, hB, hI, hz0]
          rw [e]
          exact pstep_trap P w aoc aof aot nc nf nt cac caf cat cs h hu hg hcl pc r hr ao n cap ks hk hn ck sl gn _ _ _ _ _ hI hB 2 0 (fun W ao2 n2 cap2 _ => traps_div0_9 W aoc aof aot nc nf nt cac caf cat pc r hr ao2 n2 cap2 _ _ m c lc hz')
      · rcases h8 with rfl | rfl
        · have e : stp cs fs pc r ks ck sl gn = (pc + 1, r.set a (rk 8 m (gt r a) (gt r b) (gt r c)), ks, (wt 0 0 0 0 0 0 0 0 0 0 0)) := by simp [stp, hB, hI, hz0]
          rw [e]
          exact pstep_reckon P w aoc aof aot nc nf nt cac caf cat cs h hu hg hcl pc r hr ao n cap ks hk hn ck sl gn _ _ a b c la lb lc _ _ _ hx hy hz hI hB (by omega) (fun _ => hz0) (fun W ao2 n2 cap2 => traps_divn_8 W aoc aof aot nc nf nt cac caf cat pc r hr ao2 n2 cap2 _ _ m c lc _ hz hz0)
        · have e : stp cs fs pc r ks ck sl gn = (pc + 1, r.set a (rk 9 m (gt r a) (gt r b) (gt r c)), ks, (wt 0 0 0 0 0 0 0 0 0 0 0)) := by simp [stp, hB, hI, hz0]
          rw [e]
          exact pstep_reckon P w aoc aof aot nc nf nt cac caf cat cs h hu hg hcl pc r hr ao n cap ks hk hn ck sl gn _ _ a b c la lb lc _ _ _ hx hy hz hI hB (by omega) (fun _ => hz0) (fun W ao2 n2 cap2 => traps_divn_9 W aoc aof aot nc nf nt cac caf cat pc r hr ao2 n2 cap2 _ _ m c lc _ hz hz0)
    have n8 : ¬ (o = 8 ∨ o = 9) := h8
    by_cases h20 : o = 20
    · subst h20
      by_cases hfull : 64 ≤ ks.length
      · have e : stp cs fs pc r ks ck sl gn = (pc, r, ks, wt 58 0 0 0 0 0 0 0 0 3 0) := by simp [stp, hB, hI, hfull]
        rw [e]
        exact pstep_trap P w aoc aof aot nc nf nt cac caf cat cs h hu hg hcl pc r hr ao n cap ks hk hn ck sl gn _ _ _ _ _ hI hB 3 0 (fun W ao2 n2 cap2 q => traps_full W aoc aof aot nc nf nt cac caf cat pc r hr ao2 n2 cap2 _ _ _ m (by omega))
      · by_cases hno : (fs.length : Int) ≤ m
        · have e : stp cs fs pc r ks ck sl gn = (pc, r, ks, wt 58 0 0 0 0 0 0 0 0 1 0) := by simp [stp, hB, hI, hfull, hno]
          rw [e]
          exact pstep_trap P w aoc aof aot nc nf nt cac caf cat cs h hu hg hcl pc r hr ao n cap ks hk hn ck sl gn _ _ _ _ _ hI hB 1 0 (fun W ao2 n2 cap2 q => traps_none W aoc aof aot nc nf nt cac caf cat pc r hr ao2 n2 cap2 _ _ _ m (by omega) (by omega))
        · have m0 := hm20 rfl
          obtain ⟨f, hf⟩ : ∃ f : Nat, m = (f : Int) := ⟨m.toNat, by omega⟩
          obtain ⟨⟨fb, fe⟩, hfe⟩ : ∃ x, fs[f]? = some x := ⟨_, List.getElem?_eq_getElem (by omega)⟩
          have e : stp cs fs pc r ks ck sl gn = (fb, r, ks ++ [pc + 1], (wt 0 0 0 0 0 0 0 0 0 0 0)) := by
            have hno' : ¬ ((fs.length : Int) ≤ (f : Int)) := hf ▸ hno
            simp [stp, hB, hI, hfull, hf, hfe]
            omega
          rw [e]
          exact pstep_call P w aoc aof aot nc nf nt cac caf cat cs h hu hg hcl pc r hr ao n cap ks hk hn ck sl gn _ _ _ _ _ hI hB rfl fs hfs f fb fe hfe hf (by omega) (fun W ao2 n2 cap2 q => traps_fits W aoc aof aot nc nf nt cac caf cat pc r hr ao2 n2 cap2 _ _ _ m (by omega) (by omega) (by omega))
    by_cases h1 : o = 1
    · subst h1
      have e : stp cs fs pc r ks ck sl gn = (pc + 1, r, ks, (wt 0 0 0 0 0 0 0 0 0 0 0)) := by simp [stp, hB, hI]
      rw [e]
      exact pstep_nop P w aoc aof aot nc nf nt cac caf cat cs h hu hg hcl pc r hr ao n cap ks hk hn ck sl gn _ _ _ _ _ hI hB rfl
    by_cases hrk : 2 ≤ o ∧ o ≤ 16
    · have e : stp cs fs pc r ks ck sl gn = (pc + 1, r.set a (rk o m (gt r a) (gt r b) (gt r c)), ks, (wt 0 0 0 0 0 0 0 0 0 0 0)) := by simp [stp, hB, hI, h58, n8, h20, h1, hrk]
      rw [e]
      exact pstep_reckon P w aoc aof aot nc nf nt cac caf cat cs h hu hg hcl pc r hr ao n cap ks hk hn ck sl gn _ _ a b c la lb lc _ _ _ hx hy hz hI hB hrk (fun q => absurd q n8) (fun W ao2 n2 cap2 => traps_no W aoc aof aot nc nf nt cac caf cat pc r hr ao2 n2 cap2 o _ _ _ m h58 (fun q => n8 (.inl q)) (fun q => n8 (.inr q)) h20)
    by_cases h17 : o = 17
    · subst h17
      have e : stp cs fs pc r ks ck sl gn = (m, r, ks, (wt 0 0 0 0 0 0 0 0 0 0 0)) := by simp [stp, hB, hI]
      rw [e]
      exact pstep_j17y P w aoc aof aot nc nf nt cac caf cat cs h hu hg hcl pc r hr ao n cap ks hk hn ck sl gn _ _ _ m a la _ hx hI hB rfl
    by_cases h18 : o = 18
    · subst h18
      by_cases hq : gt r (a : Int) = 0
      · have e : stp cs fs pc r ks ck sl gn = (m, r, ks, (wt 0 0 0 0 0 0 0 0 0 0 0)) := by simp [stp, hB, hI, hq]
        rw [e]
        exact pstep_j18y P w aoc aof aot nc nf nt cac caf cat cs h hu hg hcl pc r hr ao n cap ks hk hn ck sl gn _ _ _ m a la _ hx hI hB rfl hq
      · have e : stp cs fs pc r ks ck sl gn = (pc + 1, r, ks, (wt 0 0 0 0 0 0 0 0 0 0 0)) := by simp [stp, hB, hI, hq]
        rw [e]
        exact pstep_j18n P w aoc aof aot nc nf nt cac caf cat cs h hu hg hcl pc r hr ao n cap ks hk hn ck sl gn _ _ _ m a la _ hx hI hB rfl hq
    by_cases h19 : o = 19
    · subst h19
      by_cases hq : gt r (a : Int) = 0
      · have e : stp cs fs pc r ks ck sl gn = (pc + 1, r, ks, (wt 0 0 0 0 0 0 0 0 0 0 0)) := by simp [stp, hB, hI, hq]
        rw [e]
        exact pstep_j19n P w aoc aof aot nc nf nt cac caf cat cs h hu hg hcl pc r hr ao n cap ks hk hn ck sl gn _ _ _ m a la _ hx hI hB rfl hq
      · have e : stp cs fs pc r ks ck sl gn = (m, r, ks, (wt 0 0 0 0 0 0 0 0 0 0 0)) := by simp [stp, hB, hI, hq]
        rw [e]
        exact pstep_j19y P w aoc aof aot nc nf nt cac caf cat cs h hu hg hcl pc r hr ao n cap ks hk hn ck sl gn _ _ _ m a la _ hx hI hB rfl hq
    by_cases h21 : o = 21
    · subst h21
      by_cases hks : ks = []
      · have hn0 : n = 0 := by rw [hnl, hks]; rfl
        have e : stp cs fs pc r ks ck sl gn = (pc + 1, r, ks, wt 24 0 0 0 0 0 0 0 0 0 0) := by simp [stp, hB, hI, hks]
        rw [e]
        exact pstep_retn P w aoc aof aot nc nf nt cac caf cat cs h hu hg hcl pc r hr ao n cap ks hk hn ck sl gn _ _ _ _ _ hI hB rfl hn0
      · obtain ⟨k, hkk⟩ : ∃ k, ks.length = k + 1 := ⟨ks.length - 1, by have : ks.length ≠ 0 := fun q => hks (List.eq_nil_of_length_eq_zero q); omega⟩
        obtain ⟨xr, hxr⟩ : ∃ x, ks[k]? = some x := ⟨_, List.getElem?_eq_getElem (by omega)⟩
        have hn1 : n = k + 1 := by omega
        have e : stp cs fs pc r ks ck sl gn = (xr, r, ks.take k, (wt 0 0 0 0 0 0 0 0 0 0 0)) := by simp [stp, hB, hI, hks, hkk]; exact (List.getElem?_eq_some_iff.1 hxr).2
        rw [e]
        exact pstep_rety P w aoc aof aot nc nf nt cac caf cat cs h hu hg hcl pc r hr ao n cap ks hk hn ck sl gn _ _ _ _ _ hI hB rfl k hn1 xr hxr
    by_cases h25 : o = 25
    · subst h25
      have e : stp cs fs pc r ks ck sl gn = (pc + 1, r.set a (hd sl gn), ks, (wt 0 0 0 0 0 0 0 0 0 0 0)) := by simp [stp, hB, hI]
      rw [e]
      exact pstep_self P w aoc aof aot nc nf nt cac caf cat cs h hu hg hcl pc r hr ao n cap ks hk hn ck sl gn _ _ _ m a la _ hx hI hB rfl
    by_cases h26 : o = 26
    · subst h26
      have e : stp cs fs pc r ks ck sl gn = (pc + 1, r.set a (wrap64 ck), ks, (wt 0 0 0 0 0 0 0 0 0 0 0)) := by simp [stp, hB, hI]
      rw [e]
      exact pstep_now P w aoc aof aot nc nf nt cac caf cat cs h hu hg hcl pc r hr ao n cap ks hk hn ck sl gn _ _ _ m a la _ hx hI hB rfl
    by_cases h23 : o = 23
    · subst h23
      have e : stp cs fs pc r ks ck sl gn = (pc + 1, r, ks, wt 23 0 0 0 0 0 0 0 0 0 0) := by simp [stp, hB, hI]
      rw [e]
      exact pstep_ends P w aoc aof aot nc nf nt cac caf cat cs h hu hg hcl pc r hr ao n cap ks hk hn ck sl gn _ _ a b c la lb lc _ _ _ hx hy hz hI hB (.inl rfl)
    by_cases h24 : o = 24
    · subst h24
      have e : stp cs fs pc r ks ck sl gn = (pc + 1, r, ks, wt 24 0 0 0 0 0 0 0 0 0 0) := by simp [stp, hB, hI]
      rw [e]
      exact pstep_ends P w aoc aof aot nc nf nt cac caf cat cs h hu hg hcl pc r hr ao n cap ks hk hn ck sl gn _ _ a b c la lb lc _ _ _ hx hy hz hI hB (.inr rfl)
    have e : stp cs fs pc r ks ck sl gn = (pc + 1, r, ks, wt o o (a : Int) (b : Int) (c : Int) m (gt r a) (gt r b) (gt r c) 0 0) := by simp [stp, hB, hI, h58, n8, h20, h1, hrk, h17, h18, h19, h21, h25, h26, h23, h24]
    rw [e]
    exact pstep_asks P w aoc aof aot nc nf nt cac caf cat cs h hu hg hcl pc r hr ao n cap ks hk hn ck sl gn _ _ a b c la lb lc _ _ _ hx hy hz hI hB (by omega)
end Go.Proofs.YtcdlhfodeckleabDoor.Lt

namespace Go.Proofs.YtcdlhfodeckleabDoor.Lt
open Go.RowKit Wd

theorem pans_any (P : Nat → Prop) (w : World) (pc : Int) (r : List Int) (hr : r.length = 16) (ao : Option Addr) (n cap : Nat) (ks : List Int) (hk : Ls eI P w (.slice ao n cap) ks) (hn : n ≤ 17592186044416) (o a b c m v k : Int) :
    Calls Tryd.prog 11 #[.agg (cC pc r (.slice ao n cap)), .agg #[.int .i64 o, .int .i64 a, .int .i64 b, .int .i64 c, .int .i64 m], .int .i64 v, .int .i64 k] w (CxR w pc (ans o a b c v k r) ks) := by
  unfold ans
  by_cases h1 : C1 o
  · rw [if_pos h1]; exact pans_1 P w pc r hr ao n cap ks hk hn o a b c m v k h1
  · rw [if_neg h1]
    by_cases h2 : C2 o
    · rw [if_pos h2]; exact pans_2 P w pc r hr ao n cap ks hk hn o a b c m v k h2
    · rw [if_neg h2]
      by_cases h3 : o = 53
      · rw [if_pos h3]; exact pans_3 P w pc r hr ao n cap ks hk hn o a b c m v k h3
      · rw [if_neg h3]; exact pans_0 P w pc r hr ao n cap ks hk hn o a b c m v k ⟨h1, h2, h3⟩
theorem y7_cells {w : World} {X : Nat} {a b c d e f g : Value} {T : TypeId} (h : w.heap[X]? = some (.cells #[a, b, c, d, e, f, g] T (0, 0))) : w.cell? ⟨X, 0, none⟩ = some a ∧ w.cell? ⟨X, 1, none⟩ = some b ∧ w.cell? ⟨X, 2, none⟩ = some c ∧ w.cell? ⟨X, 3, none⟩ = some d ∧ w.cell? ⟨X, 4, none⟩ = some e ∧ w.cell? ⟨X, 5, none⟩ = some f ∧ w.cell? ⟨X, 6, none⟩ = some g ∧ X < w.heap.size :=
  ⟨(cell_of h 0).trans rfl, (cell_of h 1).trans rfl, (cell_of h 2).trans rfl, (cell_of h 3).trans rfl, (cell_of h 4).trans rfl, (cell_of h 5).trans rfl, (cell_of h 6).trans rfl, lt_of_block h⟩
end Go.Proofs.YtcdlhfodeckleabDoor.Lt

namespace Go.Proofs.YtcdlhfodeckleabDoor.Lt
open Go.RowKit Wd

/-- a word that is read, and its instruction -/
theorem word_of {cs : List Int} {pc : Int} (h : nB cs pc = true) : ∃ (kp k a b c : Nat) (x m : Int), pc = (kp : Int) ∧ cs[kp]? = some x ∧ nI cs pc = ((k : Int), (a : Int), (b : Int), (c : Int), m) ∧ dE x = 0 ∧ dI x = ((k : Int), (a : Int), (b : Int), (c : Int), m) ∧ 1 ≤ k ∧ k < 59 ∧ a < 16 ∧ b < 16 ∧ c < 16 ∧ fit (sh k) (a : Int) (b : Int) (c : Int) m = true := by
  obtain ⟨o, m, a, b, c, hI, ho1, ho2, ha, hb, hc, -⟩ := nI_some h
  obtain ⟨k, rfl⟩ : ∃ k : Nat, o = (k : Int) := ⟨o.toNat, by omega⟩
  unfold nB at h
  split at h
  · rename_i q
    obtain ⟨kp, rfl⟩ : ∃ kp : Nat, pc = (kp : Int) := ⟨pc.toNat, by omega⟩
    have hkl : kp < cs.length := by omega
    have hx := List.getElem?_eq_getElem hkl
    rw [Int.toNat_natCast, hx] at h
    have hd : dE cs[kp] = 0 := by simpa using h
    have hdi : dI cs[kp] = ((k : Int), (a : Int), (b : Int), (c : Int), m) := by
      rw [← hI]
      unfold nI
      rw [if_pos q, Int.toNat_natCast, hx]
      rfl
    refine ⟨kp, k, a, b, c, cs[kp], m, rfl, hx, hI, hd, hdi, by omega, by omega, ha, hb, hc, ?_⟩
    have hd' := hd
    unfold dI at hdi
    rw [if_pos hd] at hdi
    unfold dE at hd'
    split at hd'
    · cases hd'
    · split at hd'
      · rename_i q2
        simp only [Prod.mk.injEq] at hdi
        obtain ⟨e1, e2, e3, e4, e5⟩ := hdi
        have e1' : opOf cs[kp] = k := by omega
        rw [e1'] at q2 e4 e5
        rw [e2, e3, e4, e5] at q2
        exact q2
      · cases hd'
  · cases h
theorem writes_any9 (P : Nat → Prop) (w : World) (ia ib ic : Value) (cs : List Int) (fs : List (Int × Int)) (tb : List Tb) (pc : Int) (r : List Int) (ao : Option Addr) (n cap : Nat) (ks : List Int) (ck sl gn : Int) (h : Pin P w ia ib ic cs fs tb) (hc : cs.length ≤ 35184372088832) (_hf : fs.length ≤ 8796093022208) (_ht : tb.length ≤ 4398046511104) (_hq : ∀ t ∈ tb, t.cs.length ≤ 4398046511104) (hu : U32s cs) (hr : r.length = 16) (hk : Ls eI P w (.slice ao n cap) ks) (hn : n ≤ 17592186044416) (hg : Glb w) :
    Calls Tryd.prog 3 #[.agg #[ia, ib, ic], .agg (cC pc r (.slice ao n cap)), .agg #[.int .u64 ck, .int .i64 sl, .int .i64 gn]] w fun e w' => e = .returned (.bool true) ∧ Gr w w' := by
  obtain ⟨aoc, cac, rfl⟩ := h.c.form
  obtain ⟨aof, caf, rfl⟩ := h.f.form
  obtain ⟨aot, cat, rfl⟩ := h.t.form
  have hkl : ks.length ≤ 17592186044416 := by have := hk.len.1; omega
  obtain ⟨q0, q1, q2, q3, q4, q5, q6, q7, q8, q9, q10, hw⟩ := stp_wt cs fs pc r ks ck sl gn
  have hPP := fun (W : World) (p : Gr w W) (ao2 : Option Addr) (n2 cap2 B : Nat) (o : Ow eI 1 3 B W (.slice ao2 n2 cap2) ks) => pstep_any (fun q => P q ∨ B ≤ q) W aoc aof aot cs.length fs.length tb.length cac caf cat cs ((h.c.gr p).mono (fun _ _ q => .inl q)) hu (hg.gr p) hc fs ((h.f.gr p).mono (fun _ _ q => .inl q)) pc r hr ao2 n2 cap2 ks (o.lst.mono (fun _ _ q => .inr q)) (by have := o.len.1; omega) ck sl gn
  unfold StO at hPP
  simp only [hw] at hPP
  have hT := fun (W : World) (p : Gr w W) => twin_any P W pc r hr ao n cap ks (hk.gr p) hn
  have hrr := (stp_len cs fs pc r ks ck sl gn).trans hr
  have hk1 := stp_ks cs fs pc r ks ck sl gn hkl
  have hAA := fun (W : World) (_ : Gr w W) (ao : Option Addr) (n cap B : Nat) (o : Ow eI 1 3 B W (.slice ao n cap) (stp cs fs pc r ks ck sl gn).2.2.1) => pans_any (B ≤ ·) W (stp cs fs pc r ks ck sl gn).1 _ hrr ao n cap _ o.lst (by have := o.len.1; omega) q1 q2 q3 q4 q5 11 12
  by_cases hq : q0 = 58
  · exact writes_walk P w hg aoc aof aot _ _ _ cac caf cat pc r hr ao n cap ks ck sl gn _ _ hrr _ q0 q1 q2 q3 q4 q5 q6 q7 q8 q9 q10 hT hPP (stp_traps cs fs pc r ks ck sl gn q0 q1 q2 q3 q4 q5 q6 q7 q8 q9 q10 hw) hk hn 0 0 0 0 0 0 0 0 0 0 (fun e => absurd hq e) (fun e => absurd hq e) (fun e => absurd hq e) hAA (fun e => absurd hq e)
  · have hB : nB cs pc = true := by
      cases hb : nB cs pc with
      | true => rfl
      | false =>
        rw [stp_none fs r ks ck sl gn hb] at hw
        exact absurd (wt_inj hw).1.symm hq
    obtain ⟨kp, k, a, b, c, x, m, hpc, hx, hI, hd, hdi, k1, k2, ha, hb, hc', hfit⟩ := word_of hB
    obtain ⟨u0, u1⟩ := hu x (List.mem_of_getElem? hx)
    obtain ⟨gc, oc, capc, ec, -, hgl, -, hcc⟩ := h.c.get eU_len hx
    injection ec with ec1 ec2 ec3
    have h1 := fun W => rdecode_all x u0 u1 W
    rw [hdi, hd] at h1
    exact writes_walk P w hg aoc aof aot _ _ _ cac caf cat pc r hr ao n cap ks ck sl gn _ _ hrr _ q0 q1 q2 q3 q4 q5 q6 q7 q8 q9 q10 hT hPP (stp_traps cs fs pc r ks ck sl gn q0 q1 q2 q3 q4 q5 q6 q7 q8 q9 q10 hw) hk hn gc oc k a b c m (useV (wr k) (a : Int) (b : Int) (c : Int)) x kp (fun _ => ⟨hpc, (List.getElem?_eq_some_iff.1 hx).1, ec1, hgl, by simpa using hcc 0 _ rfl⟩) (fun _ W _ => h1 W) (fun _ W _ => rwrites_ok k (a : Int) (b : Int) (c : Int) m k1 k2 hfit W) hAA (fun _ j hj hz => stp_writes hB hI ha hb hc' (named_no k1 k2 ha hb hc' hj hz) q0 q1 q2 q3 q4 q5 q6 q7 q8 q9 q10 hw hq)
end Go.Proofs.YtcdlhfodeckleabDoor.Lt
