/-
  What freeSlot of a slab answers and leaves: a slot out of the P's own cache, or a new one, or one out of another's cache, or none. Condition: the slab is there, with that P, and no list of it is too long.
-/
import Derived.Test.YtfbkifkfhgkdbabSbRefill
import Derived.Test.YtfbkifkfhgkdbabSbUncache
namespace Go.Proofs.Ytfbkifkfhgkdbab.Sb
open Go.RowKit
attribute [local go_sem ↓] Go.wp_at_zero Go.wp_at_succ

theorem SlabIn.self {S : Nat → Prop} {base : Nat} {w : World} {b : Nat} {L : Int} {x : Sl} (h : SlabIn S base w b L x) : S b := by
  obtain ⟨vg, va, vc, vf, cv, h1, h2, h3, h4, h5, h6⟩ := h
  exact h4
/-- the first P behind p whose cache is not empty; m more are looked at, from the i-th on -/
def seek (C : List (List Int)) (p : Nat) : Nat → Nat → Option Nat
  | 0, _ => none
  | m + 1, i => if (C[(p + i) % C.length]?).getD [] = [] then seek C p m (i + 1) else some ((p + i) % C.length)
theorem seek_skip {C : List (List Int)} {p m i : Nat} (h : C[(p + i) % C.length]? = some []) : seek C p (m + 1) i = seek C p m (i + 1) := by
  rw [seek, if_pos (by rw [h]; rfl)]
theorem seek_hit {C : List (List Int)} {p m i : Nat} {z : Int} {c : List Int} (h : C[(p + i) % C.length]? = some (z :: c)) : seek C p (m + 1) i = some ((p + i) % C.length) := by
  rw [seek, if_neg (by rw [h]; simp)]
theorem seek_some {C : List (List Int)} {p : Nat} : ∀ {m i q : Nat}, seek C p m i = some q → ∃ z c, C[q]? = some (z :: c)
  | 0, _, _, h => by cases h
  | m + 1, i, q, h => by
    cases hc : C[(p + i) % C.length]? with
    | none =>
      rw [seek, if_pos (by rw [hc]; rfl)] at h
      exact seek_some h
    | some c =>
      cases c with
      | nil =>
        rw [seek_skip hc] at h
        exact seek_some h
      | cons z c =>
        rw [seek_hit hc] at h
        injection h with h
        subst h
        exact ⟨z, c, hc⟩

/-- what freeSlot answers, and what it leaves -/
def Freed (L : Int) (x : Sl) (p : Nat) (r : Option Int) (x' : Sl) : Prop :=
  (∃ (c : List Int) (z : Int), x.C[p]? = some (c ++ [z]) ∧ r = some z ∧ x' = uncacheS x p c.length (c ++ [z])) ∨
  (x.C[p]? = some [] ∧ (x.G.length : Int) < L ∧ r = some (x.G.length : Int) ∧ x' = makeS x) ∨
  (∃ (q : Nat) (z : Int) (c : List Int), x.C[p]? = some [] ∧ L ≤ (x.G.length : Int) ∧ seek x.C p (x.C.length - 1) 1 = some q ∧ x.C[q]? = some (z :: c) ∧ r = some z ∧ x' = uncacheS x q 0 (z :: c)) ∨
  (x.C[p]? = some [] ∧ L ≤ (x.G.length : Int) ∧ seek x.C p (x.C.length - 1) 1 = Option.none ∧ r = Option.none ∧ x' = x)
section
variable {L : Int} {x : Sl} {p : Nat}
theorem Freed.own {c : List Int} {z : Int} (hc : x.C[p]? = some (c ++ [z])) : Freed L x p (some z) (uncacheS x p c.length (c ++ [z])) := .inl ⟨c, z, hc, rfl, rfl⟩
theorem Freed.made (hc : x.C[p]? = some []) (hl : (x.G.length : Int) < L) : Freed L x p (some (x.G.length : Int)) (makeS x) := .inr (.inl ⟨hc, hl, rfl, rfl⟩)
theorem Freed.found {q : Nat} {z : Int} {c : List Int} (hc : x.C[p]? = some []) (hl : L ≤ (x.G.length : Int)) (hq : seek x.C p (x.C.length - 1) 1 = some q) (hz : x.C[q]? = some (z :: c)) : Freed L x p (some z) (uncacheS x q 0 (z :: c)) := .inr (.inr (.inl ⟨q, z, c, hc, hl, hq, hz, rfl, rfl⟩))
theorem Freed.none (hc : x.C[p]? = some []) (hl : L ≤ (x.G.length : Int)) (hq : seek x.C p (x.C.length - 1) 1 = Option.none) : Freed L x p Option.none x := .inr (.inr (.inr ⟨hc, hl, hq, rfl, rfl⟩))
theorem Freed.elim {motive : (r : Option Int) → (x' : Sl) → Freed L x p r x' → Prop}
    (own : ∀ {c : List Int} {z : Int} (hc : x.C[p]? = some (c ++ [z])), motive _ _ (Freed.own hc))
    (made : ∀ (hc : x.C[p]? = some []) (hl : (x.G.length : Int) < L), motive _ _ (Freed.made hc hl))
    (found : ∀ {q : Nat} {z : Int} {c : List Int} (hc : x.C[p]? = some []) (hl : L ≤ (x.G.length : Int)) (hq : seek x.C p (x.C.length - 1) 1 = some q) (hz : x.C[q]? = some (z :: c)), motive _ _ (Freed.found hc hl hq hz))
    (none : ∀ (hc : x.C[p]? = some []) (hl : L ≤ (x.G.length : Int)) (hq : seek x.C p (x.C.length - 1) 1 = Option.none), motive _ _ (Freed.none hc hl hq)) {r : Option Int} {x' : Sl} (h : Freed L x p r x') : motive r x' h := by
  rcases h with ⟨c, z, hc, rfl, rfl⟩ | ⟨hc, hl, rfl, rfl⟩ | ⟨q, z, c, hc, hl, hq, hz, rfl, rfl⟩ | ⟨hc, hl, hq, rfl, rfl⟩
  · exact own hc
  · exact made hc hl
  · exact found hc hl hq hz
  · exact none hc hl hq
end

/-- the answer's two values -/
def fv : Option Int → Value
  | some z => .tuple #[.int .i64 z, .bool true]
  | none => .tuple #[.int .i64 0, .bool false]

set_option maxHeartbeats 2000000 in
theorem free_own (S : Nat → Prop) (base b p : Nat) (L z : Int) (x : Sl) (c : List Int) (w : World) (h : SlabIn S base w b L x) (hc : x.C[p]? = some (c ++ [z])) (hcl : (c ++ [z]).length ≤ 4294967296) :
    Calls Try.prog 28 #[.pointer (some ⟨b, 0, none⟩), .int .i64 (p : Int)] w fun e w' => e = .returned (fv (some z)) ∧ Left S base w w' b L (uncacheS x p c.length (c ++ [z])) := by
  have HU0 := hid (uncache_any S base b p c.length L z x (c ++ [z]) w h hc (by simp) hcl)
  obtain ⟨vg, va, vc, vf, cv, hf, hs, hnb, hSb, hSB, hlt⟩ := h
  obtain ⟨ga, gc, rfl⟩ := hs.g.form
  obtain ⟨aa, ac, rfl⟩ := hs.a.form
  obtain ⟨ca, cc, rfl⟩ := hs.c.form
  obtain ⟨fa, fc, rfl⟩ := hs.f.form
  obtain ⟨nG, hnG⟩ : ∃ n, n = (iv x.G).length := ⟨_, rfl⟩
  obtain ⟨nA, hnA⟩ : ∃ n, n = (bv x.A).length := ⟨_, rfl⟩
  obtain ⟨nC, hnC⟩ : ∃ n, n = cv.length := ⟨_, rfl⟩
  obtain ⟨nF, hnF⟩ : ∃ n, n = (iv x.F).length := ⟨_, rfl⟩
  rw [← hnG, ← hnA, ← hnC, ← hnF] at hf hs hnb hSB
  have hp : p < cv.length := by rw [hs.cl]; exact (List.getElem?_eq_some_iff.1 hc).1
  obtain ⟨u, hu⟩ : ∃ u, cv[p]? = some u := ⟨_, List.getElem?_eq_getElem hp⟩
  have hou := hs.e p u (c ++ [z]) hu hc
  obtain ⟨ua, uc, rfl⟩ := hou.form
  obtain ⟨nU, hnU⟩ : ∃ n, n = (iv (c ++ [z])).length := ⟨_, rfl⟩
  rw [← hnU] at hou hu
  obtain ⟨g1, rfl, -, hg1, hcap1, d0, df, -⟩ := hs.c.get1 hu
  have hucap := hou.len.2
  have hnUc : nU ≤ 4294967296 := by rw [hnU, iv_length]; exact hcl
  have hne1 : ¬ (b = g1) := fun e => hnb (.inr (.inr (.inl (by rw [e]; rfl))))
  have hne2 : ¬ (g1 = b) := fun e => hne1 e.symm
  have b3 : (0 : Int) ≤ (p : Int) := by omega
  have b4 : (p : Int) < (nC : Int) := by rw [hnC]; omega
  have HU := hid hu
  have HOU := hid hou
  have HC := hid hc
  obtain ⟨c0, c1, c2, c3, c4⟩ := hf.cells
  obtain ⟨y0, y1, y2, y3, y4⟩ := hf.fz
  have bl := hf.lt
  have HF := hid hf
  have HS := hid hs
  have HNB := hid hnb
  have HSB := hid hSB
  have HLT := hid hlt
  have HSb := hid hSb
  obtain ⟨k, hk⟩ : ∃ k, k = c.length := ⟨_, rfl⟩
  have hUk : nU = k + 1 := by rw [hnU, iv_length, hk]; simp
  subst hUk
  rw [← hk] at HU0 ⊢
  have hw : IntKind.i64.wrap ((k : Int) + 1 - 1) = (k : Int) := by rw [IntKind.wrap_i64]; omega
  have f0 : decide ((0 : Int) < (k : Int) + 1) = true := decide_eq_true (by omega)
  have g0 : (0 : Int) < (k : Int) + 1 := by omega
  clear hf hs hnb hSB hlt hSb hu hou hc hnG hnA hnC hnF hnU hp hcl hk
  go_enter Try.func28, Try.ntmps28
  go_wp2_with fail
  refine HU0.out.mono ?_
  rintro e w1 ⟨rfl, l1⟩
  have HL := hid l1
  clear l1
  go_wp2
  go_ret2
  exact ⟨rfl, HL.out⟩

set_option maxHeartbeats 2000000 in
theorem free_made (S : Nat → Prop) (base b p : Nat) (L : Int) (x : Sl) (w : World) (h : SlabIn S base w b L x) (hbase : base ≤ w.heap.size) (hc : x.C[p]? = some []) (hl : (x.G.length : Int) < L) (hgl : x.G.length ≤ 4294967295) (hal : x.A.length ≤ 4294967295) :
    Calls Try.prog 28 #[.pointer (some ⟨b, 0, none⟩), .int .i64 (p : Int)] w fun e w' => e = .returned (fv (some (x.G.length : Int))) ∧ Left S base w w' b L (makeS x) := by
  have HU0 := hid (fun (w1 : World) (g1 : Ch NoB w w1) => makeSlot_any S base b L x w1 (h.ch g1 (fun _ _ => noB _)) (Nat.le_trans hbase g1.size) hgl hal)
  have hcl : ([] : List Int).length ≤ 4294967296 := by simp
  obtain ⟨vg, va, vc, vf, cv, hf, hs, hnb, hSb, hSB, hlt⟩ := h
  obtain ⟨ga, gc, rfl⟩ := hs.g.form
  obtain ⟨aa, ac, rfl⟩ := hs.a.form
  obtain ⟨ca, cc, rfl⟩ := hs.c.form
  obtain ⟨fa, fc, rfl⟩ := hs.f.form
  obtain ⟨nG, hnG⟩ : ∃ n, n = (iv x.G).length := ⟨_, rfl⟩
  obtain ⟨nA, hnA⟩ : ∃ n, n = (bv x.A).length := ⟨_, rfl⟩
  obtain ⟨nC, hnC⟩ : ∃ n, n = cv.length := ⟨_, rfl⟩
  obtain ⟨nF, hnF⟩ : ∃ n, n = (iv x.F).length := ⟨_, rfl⟩
  rw [← hnG, ← hnA, ← hnC, ← hnF] at hf hs hnb hSB
  have hp : p < cv.length := by rw [hs.cl]; exact (List.getElem?_eq_some_iff.1 hc).1
  obtain ⟨u, hu⟩ : ∃ u, cv[p]? = some u := ⟨_, List.getElem?_eq_getElem hp⟩
  have hou := hs.e p u [] hu hc
  obtain ⟨ua, uc, rfl⟩ := hou.form
  obtain ⟨nU, hnU⟩ : ∃ n, n = (iv []).length := ⟨_, rfl⟩
  rw [← hnU] at hou hu
  obtain ⟨g1, rfl, -, hg1, hcap1, d0, df, -⟩ := hs.c.get1 hu
  have hucap := hou.len.2
  have hnUc : nU ≤ 4294967296 := by rw [hnU, iv_length]; exact hcl
  have hne1 : ¬ (b = g1) := fun e => hnb (.inr (.inr (.inl (by rw [e]; rfl))))
  have hne2 : ¬ (g1 = b) := fun e => hne1 e.symm
  have b3 : (0 : Int) ≤ (p : Int) := by omega
  have b4 : (p : Int) < (nC : Int) := by rw [hnC]; omega
  have HU := hid hu
  have HOU := hid hou
  have HC := hid hc
  obtain ⟨c0, c1, c2, c3, c4⟩ := hf.cells
  obtain ⟨y0, y1, y2, y3, y4⟩ := hf.fz
  have bl := hf.lt
  have HF := hid hf
  have HS := hid hs
  have HNB := hid hnb
  have HSB := hid hSB
  have HLT := hid hlt
  have HSb := hid hSb
  have hU0 : nU = 0 := hnU
  subst hU0
  have HGL := hid (show x.G.length = nG by rw [hnG, iv_length])
  rw [HGL.out] at hl HU0 ⊢
  have f1 : decide ((nG : Int) < L) = true := decide_eq_true hl
  have g1' : (nG : Int) < L := hl
  have HC0 := hid c0
  clear hf hs hnb hSB hlt hSb hu hou hc hnG hnA hnC hnF hnU hp hcl hgl hal
  go_enter Try.func28, Try.ntmps28
  go_wp2_with fail
  go_region_held3 (fun w' => w'.cell? ⟨b, 1, none⟩ = some (.slice ga nG gc) ∧ w'.cell? ⟨b, 0, none⟩ = some (.int .i64 L)) (first | (exact ⟨c1, c0⟩) | (go_keep; done) | (go_simp; done)) (fail)
  go_wp2_with fail
  refine (HU0.out w.drew (Ch.refl NoB w).drew).mono ?_
  rintro e w1 ⟨rfl, l1⟩
  have HL := hid l1
  clear l1
  go_wp2
  go_ret2
  exact ⟨rfl, Left.bind ((Ch.refl S w).drew) (fun _ e => .inl e) HL.out⟩

set_option maxHeartbeats 4000000 in
theorem free_seek (S : Nat → Prop) (base b p : Nat) (L : Int) (x : Sl) (w : World) (h : SlabIn S base w b L x) (hc : x.C[p]? = some []) (hl : L ≤ (x.G.length : Int)) (hcn : x.C.length ≤ 4294967296) (hel : ∀ (q : Nat) c, x.C[q]? = some c → c.length ≤ 4294967296) :
    Calls Try.prog 28 #[.pointer (some ⟨b, 0, none⟩), .int .i64 (p : Int)] w fun e w' => ∃ r x', e = .returned (fv r) ∧ Freed L x p r x' ∧ Left S base w w' b L x' := by
  have HU0 := hid (fun (q : Nat) (z : Int) (c : List Int) (hq : x.C[q]? = some (z :: c)) => uncache_any S base b q 0 L z x (z :: c) w.drew (h.ch ((Ch.refl NoB w).drew) (fun _ _ => noB _)) hq rfl (hel q _ hq))
  have HH := hid h
  have HC0 := hid hc
  have HL0 := hid hl
  have hcl : ([] : List Int).length ≤ 4294967296 := by simp
  obtain ⟨vg, va, vc, vf, cv, hf, hs, hnb, hSb, hSB, hlt⟩ := h
  obtain ⟨ga, gc, rfl⟩ := hs.g.form
  obtain ⟨aa, ac, rfl⟩ := hs.a.form
  obtain ⟨ca, cc, rfl⟩ := hs.c.form
  obtain ⟨fa, fc, rfl⟩ := hs.f.form
  obtain ⟨nG, hnG⟩ : ∃ n, n = (iv x.G).length := ⟨_, rfl⟩
  obtain ⟨nA, hnA⟩ : ∃ n, n = (bv x.A).length := ⟨_, rfl⟩
  obtain ⟨nC, hnC⟩ : ∃ n, n = cv.length := ⟨_, rfl⟩
  obtain ⟨nF, hnF⟩ : ∃ n, n = (iv x.F).length := ⟨_, rfl⟩
  rw [← hnG, ← hnA, ← hnC, ← hnF] at hf hs hnb hSB
  have hp : p < cv.length := by rw [hs.cl]; exact (List.getElem?_eq_some_iff.1 hc).1
  obtain ⟨u, hu⟩ : ∃ u, cv[p]? = some u := ⟨_, List.getElem?_eq_getElem hp⟩
  have hou := hs.e p u [] hu hc
  obtain ⟨ua, uc, rfl⟩ := hou.form
  obtain ⟨nU, hnU⟩ : ∃ n, n = (iv []).length := ⟨_, rfl⟩
  rw [← hnU] at hou hu
  obtain ⟨g1, rfl, -, hg1, hcap1, d0, df, -⟩ := hs.c.get1 hu
  have hucap := hou.len.2
  have hnUc : nU ≤ 4294967296 := by rw [hnU, iv_length]; exact hcl
  have hne1 : ¬ (b = g1) := fun e => hnb (.inr (.inr (.inl (by rw [e]; rfl))))
  have hne2 : ¬ (g1 = b) := fun e => hne1 e.symm
  have b3 : (0 : Int) ≤ (p : Int) := by omega
  have b4 : (p : Int) < (nC : Int) := by rw [hnC]; omega
  have HU := hid hu
  have HOU := hid hou
  have HC := hid hc
  obtain ⟨c0, c1, c2, c3, c4⟩ := hf.cells
  obtain ⟨y0, y1, y2, y3, y4⟩ := hf.fz
  have bl := hf.lt
  have HF := hid hf
  have HS := hid hs
  have HNB := hid hnb
  have HSB := hid hSB
  have HLT := hid hlt
  have HSb := hid hSb
  have hU0 : nU = 0 := hnU
  subst hU0
  have HGL := hid (show x.G.length = nG by rw [hnG, iv_length])
  have HCL := hid (show x.C.length = nC by rw [hnC, hs.cl])
  have hn1 : 0 < nC := by omega
  have hn2 : nC ≤ 4294967296 := by rw [← HCL.out]; exact hcn
  have hpn : p < nC := by omega
  rw [HGL.out] at hl
  have f1 : decide ((nG : Int) < L) = false := decide_eq_false (by omega)
  have g1' : ¬ ((nG : Int) < L) := by omega
  have hnz : ¬ ((nC : Int) = 0) := by omega
  clear hf hs hnb hSB hlt hSb hu hou hc hnG hnA hnC hnF hnU hp hcl hcn hel hl
  go_enter Try.func28, Try.ntmps28
  go_wp2_with fail
  go_region_held3 (fun w' => w'.cell? ⟨b, 1, none⟩ = some (.slice ga nG gc) ∧ w'.cell? ⟨b, 0, none⟩ = some (.int .i64 L)) (first | (exact ⟨c1, c0⟩) | (go_keep; done) | (go_simp; done)) (fail)
  go_wp2_with fail
  go_loopg [8] (nC - 1) (fun m i wv => ∃ j : Nat, 1 ≤ j ∧ j + m = nC ∧ i = .int .i64 ((j : Nat) : Int) ∧ wv = w.drew ∧ seek x.C p m j = seek x.C p (nC - 1) 1)
  case atStart => exact ⟨1, by omega, by omega, rfl, rfl, rfl⟩
  case round =>
    obtain ⟨j, hj1, hjm, rfl, rfl, hsk⟩ := hrel
    have HSK := hid hsk
    clear hsk
    by_cases hj : j < nC
    · obtain ⟨q, hq⟩ : ∃ q, q = (p + j) % nC := ⟨_, rfl⟩
      have hqn : q < nC := by rw [hq]; exact Nat.mod_lt _ hn1
      have j1 : (j : Int) < (nC : Int) := by omega
      have hw1 : IntKind.i64.wrap ((p : Int) + (j : Int)) = (p : Int) + (j : Int) := by rw [IntKind.wrap_i64]; omega
      have hr1 : ((p : Int) + (j : Int)).tmod (nC : Int) = (q : Int) := by rw [hq, Int.tmod_eq_emod_of_nonneg (by omega)]; push_cast; rfl
      have q0 : (0 : Int) ≤ (q : Int) := by omega
      have q1 : (q : Int) < (nC : Int) := by omega
      obtain ⟨cq, hcq⟩ : ∃ cq, x.C[q]? = some cq := ⟨_, List.getElem?_eq_getElem (by rw [HCL.out]; exact hqn)⟩
      obtain ⟨uq, huq⟩ : ∃ uq, cv[q]? = some uq := ⟨_, List.getElem?_eq_getElem (by rw [HS.out.cl, HCL.out]; exact hqn)⟩
      have hoq := HS.out.e q uq cq huq hcq
      obtain ⟨va, vc, rfl⟩ := hoq.form
      obtain ⟨nQ, hnQ⟩ : ∃ n, n = (iv cq).length := ⟨_, rfl⟩
      rw [← hnQ] at hoq huq
      obtain ⟨g', e', -, hgq, -, dq, -, -⟩ := HS.out.c.get1 huq
      cases e'
      have HQ := hid (show (p + j) % x.C.length = q by rw [HCL.out, hq])
      have HCQ := hid hcq
      clear hoq huq hcq hq
      cases cq with
      | nil =>
        have hQ0 : nQ = 0 := hnQ
        subst hQ0
        clear hnQ
        go_wp2
        go_roundg (gk - 1)
        case measure => omega
        case rel =>
          refine ⟨j + 1, by omega, by omega, by simp, rfl, ?_⟩
          obtain ⟨m', rfl⟩ : ∃ m', gk = m' + 1 := ⟨gk - 1, by omega⟩
          rw [← HSK.out, seek_skip (by rw [HQ.out]; exact HCQ.out)]
          rfl
      | cons z cq =>
        have hQ0 : (0 : Int) < (nQ : Int) := by rw [hnQ, iv_length]; simp
        have f2 : decide ((0 : Int) < (nQ : Int)) = true := decide_eq_true hQ0
        clear hnQ
        go_wp2_with fail
        refine (HU0.out q z cq HCQ.out).mono ?_
        rintro e w1 ⟨rfl, l1⟩
        have HL := hid l1
        clear l1
        go_wp2
        go_ret2
        refine ⟨some z, _, rfl, Freed.found HC0.out HL0.out ?_ HCQ.out, Left.bind ((Ch.refl S w).drew) (fun _ e => .inl e) HL.out⟩
        obtain ⟨m', rfl⟩ : ∃ m', gk = m' + 1 := ⟨gk - 1, by omega⟩
        rw [HCL.out, ← HSK.out, seek_hit (by rw [HQ.out]; exact HCQ.out), HQ.out]
    · have e0 : j = nC := by omega
      subst e0
      go_wp2
      go_ret2
      have h0 : gk = 0 := by omega
      subst h0
      exact ⟨none, x, rfl, Freed.none HC0.out HL0.out (by rw [HCL.out, ← HSK.out]; rfl), (Left.refl HH.out).still ((Ch.refl NoB w).drew)⟩

theorem freeSlot_any (S : Nat → Prop) (base b p : Nat) (L : Int) (x : Sl) (c : List Int) (w : World) (h : SlabIn S base w b L x) (hbase : base ≤ w.heap.size) (hc : x.C[p]? = some c) (hgl : x.G.length ≤ 4294967295) (hal : x.A.length ≤ 4294967295) (hcn : x.C.length ≤ 4294967296) (hel : ∀ (q : Nat) c, x.C[q]? = some c → c.length ≤ 4294967296) :
    Calls Try.prog 28 #[.pointer (some ⟨b, 0, none⟩), .int .i64 (p : Int)] w fun e w' => ∃ r x', e = .returned (fv r) ∧ Freed L x p r x' ∧ Left S base w w' b L x' := by
  by_cases hne : c = []
  · subst hne
    by_cases hl : (x.G.length : Int) < L
    · refine (free_made S base b p L x w h hbase hc hl hgl hal).mono ?_
      rintro e w' ⟨rfl, l⟩
      exact ⟨_, _, rfl, Freed.made hc hl, l⟩
    · exact free_seek S base b p L x w h hc (by omega) hcn hel
  · obtain ⟨c', z, rfl⟩ : ∃ c' z, c = c' ++ [z] := ⟨c.dropLast, c.getLast hne, (List.dropLast_concat_getLast hne).symm⟩
    refine (free_own S base b p L z x c' w h hc (hel p _ hc)).mono ?_
    rintro e w' ⟨rfl, l⟩
    exact ⟨_, _, rfl, Freed.own hc, l⟩
end Go.Proofs.Ytfbkifkfhgkdbab.Sb
