/-
  What the program's Step answers, of any program, context and surroundings: what the plain function says. Conditions: words are words; the lists lie where they lie.
  What the document's Step answers, of any program, context and surroundings: what the plain function says. Conditions: words are words; the lists lie where they lie.
-/
import Derived.Test.YtcdlhfodeckleaaDoorSwStp
import Derived.Test.YtcdlhfodeckleaaDoorSuMe
import Derived.Test.YtcdlhfodeckleaaDoorSuMb
import Derived.Test.YtcdlhfodeckleaaDoorSuMd
import Derived.Test.YtcdlhfodeckleaaDoorSvMa
import Derived.Test.YtcdlhfodeckleaaDoorSvMe
import Derived.Test.YtcdlhfodeckleaaDoorSvMg
namespace Go.Proofs.YtcdlhfodeckleaaDoor.Lt
open Go.RowKit Wd

theorem pstep_any (P : Nat → Prop) (w : World) (aoc aof aot : Option Addr) (nc nf nt cac caf cat : Nat) (cs : List Int) (h : Ls eU P w (.slice aoc nc cac) cs) (hu : U32s cs) (hg : Glb w) (hcl : nc ≤ 35184372088832) (fs : List (Int × Int)) (hfs : Ls eG P w (.slice aof nf caf) fs) (pc : Int) (r : List Int) (hr : r.length = 16) (ao : Option Addr) (n cap : Nat) (ks : List Int) (hk : Ls eI P w (.slice ao n cap) ks) (hn : n ≤ 17592186044416) (ck sl gn : Int) :
    Calls Tryd.prog 16 #[.agg #[.slice aoc nc cac, .slice aof nf caf, .slice aot nt cat], .agg (cC pc r (.slice ao n cap)), .agg #[.int .u64 ck, .int .i64 sl, .int .i64 gn]] w (StO w (stp cs fs pc r ks ck sl gn)) := by
  unfold StO
  have hnl := hk.len.1
  have hfl := hfs.len.1
  cases hB : nB cs pc with
  | false =>
    have e : stp cs fs pc r ks ck sl gn = (pc, r, ks, wt 58 0 0 0 0 0 0 0 0 1 0) := by simp [stp, hB]
    rw [e]
    exact pstep_none P w aoc aof aot nc nf nt cac caf cat cs h hu hg pc r hr ao n cap ks hk hn ck sl gn _ _ _ _ _ rfl hB
  | true =>
    obtain ⟨o, m, a, b, c, hI, o1, o58, la, lb, lc, hm20⟩ := nI_some hB
    have hx := gt_get (r := r) (a := a) (by omega)
    have hy := gt_get (r := r) (a := b) (by omega)
    have hz := gt_get (r := r) (a := c) (by omega)
    by_cases h58 : o = 58
    · subst h58
      have e : stp cs fs pc r ks ck sl gn = (pc, r, ks, wt 58 0 0 0 0 0 0 0 0 16 m) := by simp [stp, hB, hI]
      rw [e]
      exact pstep_trap P w aoc aof aot nc nf nt cac caf cat cs h hu hg hcl pc r hr ao n cap ks hk hn ck sl gn _ _ _ _ _ hI hB 16 m (fun W ao2 n2 cap2 _ => traps_58 W aoc aof aot nc nf nt cac caf cat pc r ao2 n2 cap2 _ _ _ m)

    by_cases h8 : o = 8 ∨ o = 9
    · by_cases hz0 : gt r (c : Int) = 0
      · have hz' : r[c]? = some 0 := hz0 ▸ hz
        rcases h8 with rfl | rfl
        · have e : stp cs fs pc r ks ck sl gn = (pc, r, ks, wt 58 0 0 0 0 0 0 0 0 2 0) := by simp [stp, hB, hI, hz0]
          rw [e]
          exact pstep_trap P w aoc aof aot nc nf nt cac caf cat cs h hu hg hcl pc r hr ao n cap ks hk hn ck sl gn _ _ _ _ _ hI hB 2 0 (fun W ao2 n2 cap2 _ => traps_div0_8 W aoc aof aot nc nf nt cac caf cat pc r hr ao2 n2 cap2 _ _ m c lc hz')
        · have e : stp cs fs pc r ks ck sl gn = (pc, r, ks, wt 58 0 0 0 0 0 0 0 0 2 0) := by simp [stp, hB, hI, hz0]
          rw [e]
          exact pstep_trap P w aoc aof aot nc nf nt cac caf cat cs h hu hg hcl pc r hr ao n cap ks hk hn ck sl gn _ _ _ _ _ hI hB 2 0 (fun W ao2 n2 cap2 _ => traps_div0_9 W aoc aof aot nc nf nt cac caf cat pc r hr ao2 n2 cap2 _ _ m c lc hz')
      · rcases h8 with rfl | rfl
        · have e : stp cs fs pc r ks ck sl gn = (pc + 1, r.set a (rk 8 m (gt r a) (gt r b) (gt r c)), ks, (wt 0 0 0 0 0 0 0 0 0 0 0)) := by simp [stp, hB, hI, hz0]
          rw [e]
          exact pstep_reckon P w aoc aof aot nc nf nt cac caf cat cs h hu hg hcl pc r hr ao n cap ks hk hn ck sl gn _ _ a b c la lb lc _ _ _ hx hy hz hI hB (by omega) (fun _ => hz0) (fun W ao2 n2 cap2 => traps_divn_8 W aoc aof aot nc nf nt cac caf cat pc r hr ao2 n2 cap2 _ _ m c lc _ hz hz0)
        · have e : stp cs fs pc r ks ck sl gn = (pc + 1, r.set a (rk 9 m (gt r a) (gt r b) (gt r c)), ks, (wt 0 0 0 0 0 0 0 0 0 0 0)) := by simp [stp, hB, hI, hz0]
          rw [e]
          exact pstep_reckon P w aoc aof aot nc nf nt cac caf cat cs h hu hg hcl pc r hr ao n cap ks hk hn ck sl gn _ _ a b c la lb lc _ _ _ hx hy hz hI hB (by omega) (fun _ => hz0) (fun W ao2 n2 cap2 => traps_divn_9 W aoc aof aot nc nf nt cac caf cat pc r hr ao2 n2 cap2 _ _ m c lc _ hz hz0)
    have n8 : ¬ (o = 8 ∨ o = 9) := h8
    by_cases h20 : o = 20
    · subst h20
      by_cases hfull : 64 ≤ ks.length
      · have e : stp cs fs pc r ks ck sl gn = (pc, r, ks, wt 58 0 0 0 0 0 0 0 0 3 0) := by simp [stp, hB, hI, hfull]
        rw [e]
        exact pstep_trap P w aoc aof aot nc nf nt cac caf cat cs h hu hg hcl pc r hr ao n cap ks hk hn ck sl gn _ _ _ _ _ hI hB 3 0 (fun W ao2 n2 cap2 q => traps_full W aoc aof aot nc nf nt cac caf cat pc r hr ao2 n2 cap2 _ _ _ m (by omega))
      · by_cases hno : (fs.length : Int) ≤ m
        · have e : stp cs fs pc r ks ck sl gn = (pc, r, ks, wt 58 0 0 0 0 0 0 0 0 1 0) := by simp [stp, hB, hI, hfull, hno]
          rw [e]
          exact pstep_trap P w aoc aof aot nc nf nt cac caf cat cs h hu hg hcl pc r hr ao n cap ks hk hn ck sl gn _ _ _ _ _ hI hB 1 0 (fun W ao2 n2 cap2 q => traps_none W aoc aof aot nc nf nt cac caf cat pc r hr ao2 n2 cap2 _ _ _ m (by omega) (by omega))
        · have m0 := hm20 rfl
          obtain ⟨f, hf⟩ : ∃ f : Nat, m = (f : Int) := ⟨m.toNat, by omega⟩
          obtain ⟨⟨fb, fe⟩, hfe⟩ : ∃ x, fs[f]? = some x := ⟨_, List.getElem?_eq_getElem (by omega)⟩
          have e : stp cs fs pc r ks ck sl gn = (fb, r, ks ++ [pc + 1], (wt 0 0 0 0 0 0 0 0 0 0 0)) := by
            have hno' : ¬ ((fs.length : Int) ≤ (f : Int)) := hf ▸ hno
            simp [stp, hB, hI, hfull, hf, hfe]
            omega
          rw [e]
          exact pstep_call P w aoc aof aot nc nf nt cac caf cat cs h hu hg hcl pc r hr ao n cap ks hk hn ck sl gn _ _ _ _ _ hI hB rfl fs hfs f fb fe hfe hf (by omega) (fun W ao2 n2 cap2 q => traps_fits W aoc aof aot nc nf nt cac caf cat pc r hr ao2 n2 cap2 _ _ _ m (by omega) (by omega) (by omega))
    by_cases h1 : o = 1
    · subst h1
      have e : stp cs fs pc r ks ck sl gn = (pc + 1, r, ks, (wt 0 0 0 0 0 0 0 0 0 0 0)) := by simp [stp, hB, hI]
      rw [e]
      exact pstep_nop P w aoc aof aot nc nf nt cac caf cat cs h hu hg hcl pc r hr ao n cap ks hk hn ck sl gn _ _ _ _ _ hI hB rfl
    by_cases hrk : 2 ≤ o ∧ o ≤ 16
    · have e : stp cs fs pc r ks ck sl gn = (pc + 1, r.set a (rk o m (gt r a) (gt r b) (gt r c)), ks, (wt 0 0 0 0 0 0 0 0 0 0 0)) := by simp [stp, hB, hI, h58, n8, h20, h1, hrk]
      rw [e]
      exact pstep_reckon P w aoc aof aot nc nf nt cac caf cat cs h hu hg hcl pc r hr ao n cap ks hk hn ck sl gn _ _ a b c la lb lc _ _ _ hx hy hz hI hB hrk (fun q => absurd q n8) (fun W ao2 n2 cap2 => traps_no W aoc aof aot nc nf nt cac caf cat pc r hr ao2 n2 cap2 o _ _ _ m h58 (fun q => n8 (.inl q)) (fun q => n8 (.inr q)) h20)
    by_cases h17 : o = 17
    · subst h17
      have e : stp cs fs pc r ks ck sl gn = (m, r, ks, (wt 0 0 0 0 0 0 0 0 0 0 0)) := by simp [stp, hB, hI]
      rw [e]
      exact pstep_j17y P w aoc aof aot nc nf nt cac caf cat cs h hu hg hcl pc r hr ao n cap ks hk hn ck sl gn _ _ _ m a la _ hx hI hB rfl
    by_cases h18 : o = 18
    · subst h18
      by_cases hq : gt r (a : Int) = 0
      · have e : stp cs fs pc r ks ck sl gn = (m, r, ks, (wt 0 0 0 0 0 0 0 0 0 0 0)) := by simp [stp, hB, hI, hq]
        rw [e]
        exact pstep_j18y P w aoc aof aot nc nf nt cac caf cat cs h hu hg hcl pc r hr ao n cap ks hk hn ck sl gn _ _ _ m a la _ hx hI hB rfl hq
      · have e : stp cs fs pc r ks ck sl gn = (pc + 1, r, ks, (wt 0 0 0 0 0 0 0 0 0 0 0)) := by simp [stp, hB, hI, hq]
        rw [e]
        exact pstep_j18n P w aoc aof aot nc nf nt cac caf cat cs h hu hg hcl pc r hr ao n cap ks hk hn ck sl gn _ _ _ m a la _ hx hI hB rfl hq
    by_cases h19 : o = 19
    · subst h19
      by_cases hq : gt r (a : Int) = 0
      · have e : stp cs fs pc r ks ck sl gn = (pc + 1, r, ks, (wt 0 0 0 0 0 0 0 0 0 0 0)) := by simp [stp, hB, hI, hq]
        rw [e]
        exact pstep_j19n P w aoc aof aot nc nf nt cac caf cat cs h hu hg hcl pc r hr ao n cap ks hk hn ck sl gn _ _ _ m a la _ hx hI hB rfl hq
      · have e : stp cs fs pc r ks ck sl gn = (m, r, ks, (wt 0 0 0 0 0 0 0 0 0 0 0)) := by simp [stp, hB, hI, hq]
        rw [e]
        exact pstep_j19y P w aoc aof aot nc nf nt cac caf cat cs h hu hg hcl pc r hr ao n cap ks hk hn ck sl gn _ _ _ m a la _ hx hI hB rfl hq
    by_cases h21 : o = 21
    · subst h21
      by_cases hks : ks = []
      · have hn0 : n = 0 := by rw [hnl, hks]; rfl
        have e : stp cs fs pc r ks ck sl gn = (pc + 1, r, ks, wt 24 0 0 0 0 0 0 0 0 0 0) := by simp [stp, hB, hI, hks]
        rw [e]
        exact pstep_retn P w aoc aof aot nc nf nt cac caf cat cs h hu hg hcl pc r hr ao n cap ks hk hn ck sl gn _ _ _ _ _ hI hB rfl hn0
      · obtain ⟨k, hkk⟩ : ∃ k, ks.length = k + 1 := ⟨ks.length - 1, by have : ks.length ≠ 0 := fun q => hks (List.eq_nil_of_length_eq_zero q); omega⟩
        obtain ⟨xr, hxr⟩ : ∃ x, ks[k]? = some x := ⟨_, List.getElem?_eq_getElem (by omega)⟩
        have hn1 : n = k + 1 := by omega
        have e : stp cs fs pc r ks ck sl gn = (xr, r, ks.take k, (wt 0 0 0 0 0 0 0 0 0 0 0)) := by simp [stp, hB, hI, hks, hkk]; exact (List.getElem?_eq_some_iff.1 hxr).2
        rw [e]
        exact pstep_rety P w aoc aof aot nc nf nt cac caf cat cs h hu hg hcl pc r hr ao n cap ks hk hn ck sl gn _ _ _ _ _ hI hB rfl k hn1 xr hxr
    by_cases h25 : o = 25
    · subst h25
      have e : stp cs fs pc r ks ck sl gn = (pc + 1, r.set a (hd sl gn), ks, (wt 0 0 0 0 0 0 0 0 0 0 0)) := by simp [stp, hB, hI]
      rw [e]
      exact pstep_self P w aoc aof aot nc nf nt cac caf cat cs h hu hg hcl pc r hr ao n cap ks hk hn ck sl gn _ _ _ m a la _ hx hI hB rfl
    by_cases h26 : o = 26
    · subst h26
      have e : stp cs fs pc r ks ck sl gn = (pc + 1, r.set a (wrap64 ck), ks, (wt 0 0 0 0 0 0 0 0 0 0 0)) := by simp [stp, hB, hI]
      rw [e]
      exact pstep_now P w aoc aof aot nc nf nt cac caf cat cs h hu hg hcl pc r hr ao n cap ks hk hn ck sl gn _ _ _ m a la _ hx hI hB rfl
    by_cases h23 : o = 23
    · subst h23
      have e : stp cs fs pc r ks ck sl gn = (pc + 1, r, ks, wt 23 0 0 0 0 0 0 0 0 0 0) := by simp [stp, hB, hI]
      rw [e]
      exact pstep_ends P w aoc aof aot nc nf nt cac caf cat cs h hu hg hcl pc r hr ao n cap ks hk hn ck sl gn _ _ a b c la lb lc _ _ _ hx hy hz hI hB (.inl rfl)
    by_cases h24 : o = 24
    · subst h24
      have e : stp cs fs pc r ks ck sl gn = (pc + 1, r, ks, wt 24 0 0 0 0 0 0 0 0 0 0) := by simp [stp, hB, hI]
      rw [e]
      exact pstep_ends P w aoc aof aot nc nf nt cac caf cat cs h hu hg hcl pc r hr ao n cap ks hk hn ck sl gn _ _ a b c la lb lc _ _ _ hx hy hz hI hB (.inr rfl)
    have e : stp cs fs pc r ks ck sl gn = (pc + 1, r, ks, wt o o (a : Int) (b : Int) (c : Int) m (gt r a) (gt r b) (gt r c) 0 0) := by simp [stp, hB, hI, h58, n8, h20, h1, hrk, h17, h18, h19, h21, h25, h26, h23, h24]
    rw [e]
    exact pstep_asks P w aoc aof aot nc nf nt cac caf cat cs h hu hg hcl pc r hr ao n cap ks hk hn ck sl gn _ _ a b c la lb lc _ _ _ hx hy hz hI hB (by omega)
end Go.Proofs.YtcdlhfodeckleaaDoor.Lt

namespace Go.Proofs.YtcdlhfodeckleaaDoor.Lt
open Go.RowKit Wd

theorem rstep_any (P : Nat → Prop) (w : World) (aoc aof aot : Option Addr) (nc nf nt cac caf cat : Nat) (cs : List Int) (h : Ls eU P w (.slice aoc nc cac) cs) (hu : U32s cs) (hcl : nc ≤ 35184372088832) (fs : List (Int × Int)) (hfs : Ls eG P w (.slice aof nf caf) fs) (pc : Int) (r : List Int) (hr : r.length = 16) (ao : Option Addr) (n cap : Nat) (ks : List Int) (hk : Ls eI P w (.slice ao n cap) ks) (hn : n ≤ 17592186044416) (ck sl gn : Int) :
    Calls Tryd.prog 17 #[.agg #[.slice aoc nc cac, .slice aof nf caf, .slice aot nt cat], .agg (cC pc r (.slice ao n cap)), .agg #[.int .u64 ck, .int .i64 sl, .int .i64 gn]] w (StO w (stp cs fs pc r ks ck sl gn)) := by
  unfold StO
  have hnl := hk.len.1
  have hfl := hfs.len.1
  cases hB : nB cs pc with
  | false =>
    have e : stp cs fs pc r ks ck sl gn = (pc, r, ks, wt 58 0 0 0 0 0 0 0 0 1 0) := by simp [stp, hB]
    rw [e]
    exact rstep_none P w aoc aof aot nc nf nt cac caf cat cs h hu pc r hr ao n cap ks hk hn ck sl gn _ _ _ _ _ rfl hB
  | true =>
    obtain ⟨o, m, a, b, c, hI, o1, o58, la, lb, lc, hm20⟩ := nI_some hB
    have hx := gt_get (r := r) (a := a) (by omega)
    have hy := gt_get (r := r) (a := b) (by omega)
    have hz := gt_get (r := r) (a := c) (by omega)
    by_cases h58 : o = 58
    · subst h58
      have e : stp cs fs pc r ks ck sl gn = (pc, r, ks, wt 58 0 0 0 0 0 0 0 0 16 m) := by simp [stp, hB, hI]
      rw [e]
      exact rstep_trap58 P w aoc aof aot nc nf nt cac caf cat cs h hu hcl pc r hr ao n cap ks hk hn ck sl gn _ _ a b c la lb lc _ _ _ hx hy hz hI hB rfl

    by_cases h8 : o = 8 ∨ o = 9
    · by_cases hz0 : gt r (c : Int) = 0
      · have hz' : r[c]? = some 0 := hz0 ▸ hz
        rcases h8 with rfl | rfl
        · have e : stp cs fs pc r ks ck sl gn = (pc, r, ks, wt 58 0 0 0 0 0 0 0 0 2 0) := by simp [stp, hB, hI, hz0]
          rw [e]
          exact rstep_div0_8 P w aoc aof aot nc nf nt cac caf cat cs h hu hcl pc r hr ao n cap ks hk hn ck sl gn _ _ a b c la lb lc _ _ _ hx hy hz hI hB rfl hz0
        · have e : stp cs fs pc r ks ck sl gn = (pc, r, ks, wt 58 0 0 0 0 0 0 0 0 2 0) := by simp [stp, hB, hI, hz0]
          rw [e]
          exact rstep_div0_9 P w aoc aof aot nc nf nt cac caf cat cs h hu hcl pc r hr ao n cap ks hk hn ck sl gn _ _ a b c la lb lc _ _ _ hx hy hz hI hB rfl hz0
      · rcases h8 with rfl | rfl
        · have e : stp cs fs pc r ks ck sl gn = (pc + 1, r.set a (rk 8 m (gt r a) (gt r b) (gt r c)), ks, (wt 0 0 0 0 0 0 0 0 0 0 0)) := by simp [stp, hB, hI, hz0]
          rw [e]
          exact rstep_div_8 P w aoc aof aot nc nf nt cac caf cat cs h hu hcl pc r hr ao n cap ks hk hn ck sl gn _ _ a b c la lb lc _ _ _ hx hy hz hI hB rfl hz0
        · have e : stp cs fs pc r ks ck sl gn = (pc + 1, r.set a (rk 9 m (gt r a) (gt r b) (gt r c)), ks, (wt 0 0 0 0 0 0 0 0 0 0 0)) := by simp [stp, hB, hI, hz0]
          rw [e]
          exact rstep_div_9 P w aoc aof aot nc nf nt cac caf cat cs h hu hcl pc r hr ao n cap ks hk hn ck sl gn _ _ a b c la lb lc _ _ _ hx hy hz hI hB rfl hz0
    have n8 : ¬ (o = 8 ∨ o = 9) := h8
    by_cases h20 : o = 20
    · subst h20
      by_cases hfull : 64 ≤ ks.length
      · have e : stp cs fs pc r ks ck sl gn = (pc, r, ks, wt 58 0 0 0 0 0 0 0 0 3 0) := by simp [stp, hB, hI, hfull]
        rw [e]
        exact rstep_full P w aoc aof aot nc nf nt cac caf cat cs h hu hcl pc r hr ao n cap ks hk hn ck sl gn _ _ a b c la lb lc _ _ _ hx hy hz hI hB rfl (by omega)
      · by_cases hno : (fs.length : Int) ≤ m
        · have e : stp cs fs pc r ks ck sl gn = (pc, r, ks, wt 58 0 0 0 0 0 0 0 0 1 0) := by simp [stp, hB, hI, hfull, hno]
          rw [e]
          exact rstep_nofn P w aoc aof aot nc nf nt cac caf cat cs h hu hcl pc r hr ao n cap ks hk hn ck sl gn _ _ a b c la lb lc _ _ _ hx hy hz hI hB rfl (by omega) (by omega)
        · have m0 := hm20 rfl
          obtain ⟨f, hf⟩ : ∃ f : Nat, m = (f : Int) := ⟨m.toNat, by omega⟩
          obtain ⟨⟨fb, fe⟩, hfe⟩ : ∃ x, fs[f]? = some x := ⟨_, List.getElem?_eq_getElem (by omega)⟩
          have e : stp cs fs pc r ks ck sl gn = (fb, r, ks ++ [pc + 1], (wt 0 0 0 0 0 0 0 0 0 0 0)) := by
            have hno' : ¬ ((fs.length : Int) ≤ (f : Int)) := hf ▸ hno
            simp [stp, hB, hI, hfull, hf, hfe]
            omega
          rw [e]
          exact rstep_call P w aoc aof aot nc nf nt cac caf cat cs h hu hcl pc r hr ao n cap ks hk hn ck sl gn _ _ a b c la lb lc _ _ _ hx hy hz hI hB rfl (by omega) fs hfs f fb fe hfe hf
    by_cases h1 : o = 1
    · subst h1
      have e : stp cs fs pc r ks ck sl gn = (pc + 1, r, ks, (wt 0 0 0 0 0 0 0 0 0 0 0)) := by simp [stp, hB, hI]
      rw [e]
      exact rstep_nop P w aoc aof aot nc nf nt cac caf cat cs h hu hcl pc r hr ao n cap ks hk hn ck sl gn _ _ a b c la lb lc _ _ _ hx hy hz hI hB rfl
    by_cases hrk : 2 ≤ o ∧ o ≤ 16
    · have e : stp cs fs pc r ks ck sl gn = (pc + 1, r.set a (rk o m (gt r a) (gt r b) (gt r c)), ks, (wt 0 0 0 0 0 0 0 0 0 0 0)) := by simp [stp, hB, hI, h58, n8, h20, h1, hrk]
      rw [e]
      by_cases h2 : Two o
      · exact rstep_two P w aoc aof aot nc nf nt cac caf cat cs h hu hcl pc r hr ao n cap ks hk hn ck sl gn _ _ a b c la lb lc _ _ _ hx hy hz hI hB h2
      · rcases (by unfold Two at h2; omega : o = 2 ∨ o = 3 ∨ o = 4) with rfl | rfl | rfl
        · exact rstep_set P w aoc aof aot nc nf nt cac caf cat cs h hu hcl pc r hr ao n cap ks hk hn ck sl gn _ _ a b c la lb lc _ _ _ hx hy hz hI hB rfl
        · exact rstep_high P w aoc aof aot nc nf nt cac caf cat cs h hu hcl pc r hr ao n cap ks hk hn ck sl gn _ _ a b c la lb lc _ _ _ hx hy hz hI hB rfl
        · exact rstep_move P w aoc aof aot nc nf nt cac caf cat cs h hu hcl pc r hr ao n cap ks hk hn ck sl gn _ _ a b c la lb lc _ _ _ hx hy hz hI hB rfl
    by_cases h17 : o = 17
    · subst h17
      have e : stp cs fs pc r ks ck sl gn = (m, r, ks, (wt 0 0 0 0 0 0 0 0 0 0 0)) := by simp [stp, hB, hI]
      rw [e]
      exact rstep_j17y P w aoc aof aot nc nf nt cac caf cat cs h hu hcl pc r hr ao n cap ks hk hn ck sl gn _ _ a b c la lb lc _ _ _ hx hy hz hI hB rfl
    by_cases h18 : o = 18
    · subst h18
      by_cases hq : gt r (a : Int) = 0
      · have e : stp cs fs pc r ks ck sl gn = (m, r, ks, (wt 0 0 0 0 0 0 0 0 0 0 0)) := by simp [stp, hB, hI, hq]
        rw [e]
        exact rstep_j18y P w aoc aof aot nc nf nt cac caf cat cs h hu hcl pc r hr ao n cap ks hk hn ck sl gn _ _ a b c la lb lc _ _ _ hx hy hz hI hB rfl hq
      · have e : stp cs fs pc r ks ck sl gn = (pc + 1, r, ks, (wt 0 0 0 0 0 0 0 0 0 0 0)) := by simp [stp, hB, hI, hq]
        rw [e]
        exact rstep_j18n P w aoc aof aot nc nf nt cac caf cat cs h hu hcl pc r hr ao n cap ks hk hn ck sl gn _ _ a b c la lb lc _ _ _ hx hy hz hI hB rfl hq
    by_cases h19 : o = 19
    · subst h19
      by_cases hq : gt r (a : Int) = 0
      · have e : stp cs fs pc r ks ck sl gn = (pc + 1, r, ks, (wt 0 0 0 0 0 0 0 0 0 0 0)) := by simp [stp, hB, hI, hq]
        rw [e]
        exact rstep_j19n P w aoc aof aot nc nf nt cac caf cat cs h hu hcl pc r hr ao n cap ks hk hn ck sl gn _ _ a b c la lb lc _ _ _ hx hy hz hI hB rfl hq
      · have e : stp cs fs pc r ks ck sl gn = (m, r, ks, (wt 0 0 0 0 0 0 0 0 0 0 0)) := by simp [stp, hB, hI, hq]
        rw [e]
        exact rstep_j19y P w aoc aof aot nc nf nt cac caf cat cs h hu hcl pc r hr ao n cap ks hk hn ck sl gn _ _ a b c la lb lc _ _ _ hx hy hz hI hB rfl hq
    by_cases h21 : o = 21
    · subst h21
      by_cases hks : ks = []
      · have hn0 : n = 0 := by rw [hnl, hks]; rfl
        have e : stp cs fs pc r ks ck sl gn = (pc + 1, r, ks, wt 24 0 0 0 0 0 0 0 0 0 0) := by simp [stp, hB, hI, hks]
        rw [e]
        exact rstep_retn P w aoc aof aot nc nf nt cac caf cat cs h hu hcl pc r hr ao n cap ks hk hn ck sl gn _ _ a b c la lb lc _ _ _ hx hy hz hI hB rfl hn0
      · obtain ⟨k, hkk⟩ : ∃ k, ks.length = k + 1 := ⟨ks.length - 1, by have : ks.length ≠ 0 := fun q => hks (List.eq_nil_of_length_eq_zero q); omega⟩
        obtain ⟨xr, hxr⟩ : ∃ x, ks[k]? = some x := ⟨_, List.getElem?_eq_getElem (by omega)⟩
        have hn1 : n = k + 1 := by omega
        have e : stp cs fs pc r ks ck sl gn = (xr, r, ks.take k, (wt 0 0 0 0 0 0 0 0 0 0 0)) := by simp [stp, hB, hI, hks, hkk]; exact (List.getElem?_eq_some_iff.1 hxr).2
        rw [e]
        exact rstep_rety P w aoc aof aot nc nf nt cac caf cat cs h hu hcl pc r hr ao n cap ks hk hn ck sl gn _ _ a b c la lb lc _ _ _ hx hy hz hI hB rfl k hn1 xr hxr
    by_cases h25 : o = 25
    · subst h25
      have e : stp cs fs pc r ks ck sl gn = (pc + 1, r.set a (hd sl gn), ks, (wt 0 0 0 0 0 0 0 0 0 0 0)) := by simp [stp, hB, hI]
      rw [e]
      exact rstep_self P w aoc aof aot nc nf nt cac caf cat cs h hu hcl pc r hr ao n cap ks hk hn ck sl gn _ _ a b c la lb lc _ _ _ hx hy hz hI hB rfl
    by_cases h26 : o = 26
    · subst h26
      have e : stp cs fs pc r ks ck sl gn = (pc + 1, r.set a (wrap64 ck), ks, (wt 0 0 0 0 0 0 0 0 0 0 0)) := by simp [stp, hB, hI]
      rw [e]
      exact rstep_now P w aoc aof aot nc nf nt cac caf cat cs h hu hcl pc r hr ao n cap ks hk hn ck sl gn _ _ a b c la lb lc _ _ _ hx hy hz hI hB rfl
    by_cases h23 : o = 23
    · subst h23
      have e : stp cs fs pc r ks ck sl gn = (pc + 1, r, ks, wt 23 0 0 0 0 0 0 0 0 0 0) := by simp [stp, hB, hI]
      rw [e]
      exact rstep_end_23 P w aoc aof aot nc nf nt cac caf cat cs h hu hcl pc r hr ao n cap ks hk hn ck sl gn _ _ a b c la lb lc _ _ _ hx hy hz hI hB rfl
    by_cases h24 : o = 24
    · subst h24
      have e : stp cs fs pc r ks ck sl gn = (pc + 1, r, ks, wt 24 0 0 0 0 0 0 0 0 0 0) := by simp [stp, hB, hI]
      rw [e]
      exact rstep_end_24 P w aoc aof aot nc nf nt cac caf cat cs h hu hcl pc r hr ao n cap ks hk hn ck sl gn _ _ a b c la lb lc _ _ _ hx hy hz hI hB rfl
    have e : stp cs fs pc r ks ck sl gn = (pc + 1, r, ks, wt o o (a : Int) (b : Int) (c : Int) m (gt r a) (gt r b) (gt r c) 0 0) := by simp [stp, hB, hI, h58, n8, h20, h1, hrk, h17, h18, h19, h21, h25, h26, h23, h24]
    rw [e]
    exact rstep_asks P w aoc aof aot nc nf nt cac caf cat cs h hu hcl pc r hr ao n cap ks hk hn ck sl gn _ _ a b c la lb lc _ _ _ hx hy hz hI hB (by omega)
end Go.Proofs.YtcdlhfodeckleaaDoor.Lt
