/-
  What State and Live of a slab that somebody made answer, and the document's Live and sameInts. Condition: the slab, or the state, is there; no list of it is longer than 4294967296.
-/
import Derived.Test.YtfbkifkfhgkdbabSbCopied
namespace Go.Proofs.Ytfbkifkfhgkdbab.Sb
open Go.RowKit
attribute [local go_sem ↓] Go.wp_at_zero Go.wp_at_succ

/-- a slab that somebody made -/
def SlabAt (base : Nat) (w : World) (b : Nat) (L : Int) (x : Sl) : Prop :=
  ∃ vg va vc vf cv, Fv 51 w b (.int .i64 L) vg va vc vf ∧ St base w vg va vc vf cv x ∧ ¬ SB vg va vc vf cv b

theorem SlabAt.ch {base : Nat} {w w' : World} {b : Nat} {L : Int} {x : Sl} (h : SlabAt base w b L x) (g : Ch NoB w w') : SlabAt base w' b L x := by
  obtain ⟨vg, va, vc, vf, cv, h1, h2, h3⟩ := h
  exact ⟨vg, va, vc, vf, cv, h1.ch g (noB _), h2.ch g (fun _ _ => noB _), h3⟩

set_option maxHeartbeats 1000000 in
theorem state_any (base b : Nat) (L : Int) (x : Sl) (w : World) (h : SlabAt base w b L x) (ht : x.Fits) :
    Calls Try.prog 16 #[.pointer (some ⟨b, 0, none⟩)] w fun e w' => ∃ vg' va' vc' vf' cv', e = .returned (.agg #[.int .i64 L, vg', va', vc', vf']) ∧ St w.heap.size w' vg' va' vc' vf' cv' x ∧ Ch NoB w w' := by
  obtain ⟨vg, va, vc, vf, cv, hf, hs, -⟩ := h
  obtain ⟨ga, gc, rfl⟩ := hs.g.form
  obtain ⟨aa, ac, rfl⟩ := hs.a.form
  obtain ⟨ca, cc, rfl⟩ := hs.c.form
  obtain ⟨fa, fc, rfl⟩ := hs.f.form
  obtain ⟨nG, hnG⟩ : ∃ n, n = (iv x.G).length := ⟨_, rfl⟩
  obtain ⟨nA, hnA⟩ : ∃ n, n = (bv x.A).length := ⟨_, rfl⟩
  obtain ⟨nC, hnC⟩ : ∃ n, n = cv.length := ⟨_, rfl⟩
  obtain ⟨nF, hnF⟩ : ∃ n, n = (iv x.F).length := ⟨_, rfl⟩
  rw [← hnG, ← hnA, ← hnC, ← hnF] at hf hs
  obtain ⟨c0, c1, c2, c3, c4⟩ := hf.cells
  have bl := hf.lt
  have HS := hid hs
  have HT := hid ht
  clear hf hs ht hnG hnA hnC hnF
  go_enter Try.func16, Try.ntmps16
  go_wp2_with fail
  refine (copied_any _ L _ _ _ _ cv x _ (HS.out.rd.ch ((Ch.refl NoB w).alloc _) (fun _ _ _ => noB _)) HT.out).mono ?_
  rintro e w1 ⟨vg', va', vc', vf', cv', rfl, s1, g1⟩
  obtain ⟨ga', gc', rfl⟩ := s1.g.form
  obtain ⟨aa', ac', rfl⟩ := s1.a.form
  obtain ⟨ca', cc', rfl⟩ := s1.c.form
  obtain ⟨fa', fc', rfl⟩ := s1.f.form
  obtain ⟨nG', hnG'⟩ : ∃ n, n = (iv x.G).length := ⟨_, rfl⟩
  obtain ⟨nA', hnA'⟩ : ∃ n, n = (bv x.A).length := ⟨_, rfl⟩
  obtain ⟨nC', hnC'⟩ : ∃ n, n = cv'.length := ⟨_, rfl⟩
  obtain ⟨nF', hnF'⟩ : ∃ n, n = (iv x.F).length := ⟨_, rfl⟩
  rw [← hnG', ← hnA', ← hnC', ← hnF'] at s1 ⊢
  have F1 := (Fv.new 45 w (.int .i64 0) (.slice none 0 0) (.slice none 0 0) (.slice none 0 0) (.slice none 0 0)).ch g1 (noB _)
  obtain ⟨r0, r1, r2, r3, r4⟩ := F1.cells
  obtain ⟨y0, y1, y2, y3, y4⟩ := F1.fz
  have rl := F1.lt
  have HS1 := hid s1
  have HG := hid (((Ch.refl NoB w).alloc _).trans' g1)
  clear F1 g1 s1 hnG' hnA' hnC' hnF'
  go_wp2
  have C5 := (((((Ch.refl (Only w.heap.size) w1).own 0 (.int .i64 L)).own 1 (.slice ga' nG' gc')).own 2 (.slice aa' nA' ac')).own 3 (.slice ca' nC' cc')).own 4 (.slice fa' nF' fc')
  refine bodyPost_ret (v := .agg #[.int .i64 L, .slice ga' nG' gc', .slice aa' nA' ac', .slice ca' nC' cc', .slice fa' nF' fc']) (by simp [results, Try.results16, go_sem, r0, r1, r2, r3, r4]) rfl ⟨_, _, _, _, cv', rfl, ?_, ?_⟩
  · exact (HS1.out.ch C5 (fun q a b => by have := (HS1.out.blk a).1; rw [World.size_alloc] at this; have e1 : q = w.heap.size := b; omega)).lower (by rw [World.size_alloc]; omega)
  · exact HG.out.trans C5 (fun q e => .inr (by have e1 : q = w.heap.size := e; omega))

/-- how many are true -/
def cnt (l : List Bool) : Nat := (l.filter id).length
theorem cnt_le (l : List Bool) : cnt l ≤ l.length := List.length_filter_le _ _
theorem cnt_next {l : List Bool} {j : Nat} {a : Bool} (h : l[j]? = some a) : cnt (l.take (j + 1)) = cnt (l.take j) + (if a then 1 else 0) := by
  rw [List.take_add_one, h]
  simp only [cnt, Option.toList_some, List.filter_append, List.length_append]
  cases a <;> simp
theorem cnt_take_le (l : List Bool) (j : Nat) : cnt (l.take j) ≤ j := Nat.le_trans (cnt_le _) (by rw [List.length_take]; omega)

set_option maxHeartbeats 1000000 in
theorem live_any (base b : Nat) (L : Int) (x : Sl) (w : World) (h : SlabAt base w b L x) (ht : x.Fits) :
    Calls Try.prog 11 #[.pointer (some ⟨b, 0, none⟩)] w fun e w' => e = .returned (.int .i64 (cnt x.A : Int)) ∧ Ch NoB w w' := by
  obtain ⟨vg, va, vc, vf, cv, hf, hs, -⟩ := h
  obtain ⟨aa, ac, rfl⟩ := hs.a.form
  obtain ⟨n, hn⟩ : ∃ n, n = (bv x.A).length := ⟨_, rfl⟩
  rw [← hn] at hf hs
  obtain ⟨c0, c1, c2, c3, c4⟩ := hf.cells
  have bl := hf.lt
  have hnl : n = x.A.length := by rw [hn, bv_length]
  have hnb : n ≤ 4294967296 := by rw [hnl]; exact ht.a
  have HA := hid hs.a.lstB
  have HN := hid hnl
  clear hf hs ht hn hnl
  go_enter Try.func11, Try.ntmps11
  go_wp2_with fail
  go_loopg [3, 14] n (fun m p q wv => ∃ (j k : Nat), j + m = n ∧ p = .int .i64 ((k : Nat) : Int) ∧ q = .int .i64 ((j : Nat) : Int) ∧ k = cnt (x.A.take j) ∧ Ch NoB w wv)
  case atStart => exact ⟨0, 0, by omega, rfl, rfl, rfl, Ch.refl _ _⟩
  case round =>
    obtain ⟨j, k, hjm, rfl, rfl, hk, hg⟩ := hrel
    have HK := hid hk
    have HG := hid hg
    have hkj : k ≤ j := by rw [hk]; exact cnt_take_le _ _
    have hl := HA.out.ch hg (fun _ _ _ => noB _)
    clear hk hg
    by_cases hj : j < n
    · obtain ⟨a, ha⟩ : ∃ a, x.A[j]? = some a := ⟨_, List.getElem?_eq_getElem (by rw [← HN.out]; exact hj)⟩
      obtain ⟨g, o, c, e, -, hgl, hcap, d0⟩ := hl.get (bv_get ha)
      injection e with e1 e2 e3
      subst e1 e3
      have HKN := hid (cnt_next ha)
      have HA' := hid ha
      have j0 : (0 : Int) ≤ (j : Int) := by omega
      have j1 : (j : Int) < (n : Int) := by omega
      clear ha hl e2 hcap
      cases a with
      | true =>
        go_wp2
        go_roundg (gk - 1)
        case measure => omega
        case rel => exact ⟨j + 1, k + 1, by omega, by simp, by simp, by rw [HKN.out, HK.out]; rfl, HG.out⟩
      | false =>
        go_wp2
        go_roundg (gk - 1)
        case measure => omega
        case rel => exact ⟨j + 1, k, by omega, rfl, by simp, by rw [HKN.out, HK.out]; rfl, HG.out⟩
    · have e : j = n := by omega
      subst e
      clear hl
      have HE := hid (show cnt x.A = k by rw [HK.out, HN.out, List.take_length])
      go_wp2
      go_ret
      refine ⟨by rw [HE.out]; rfl, ?_⟩
      exact HG.out
/-- the document's Live -/
theorem rlive_any (P : Nat → Prop) (L : Int) (vg va vc vf : Value) (cv : List Value) (x : Sl) (w : World) (h : Rd P w vg va vc vf cv x) (ht : x.Fits) :
    Calls Try.prog 38 #[.agg #[.int .i64 L, vg, va, vc, vf]] w fun e w' => e = .returned (.int .i64 (cnt x.A : Int)) ∧ Ch NoB w w' := by
  obtain ⟨ga, gc, rfl⟩ := h.g.form
  obtain ⟨aa, ac, rfl⟩ := h.a.form
  obtain ⟨ca, cc, rfl⟩ := h.c.form
  obtain ⟨fa, fc, rfl⟩ := h.f.form
  obtain ⟨nG, hnG⟩ : ∃ n, n = (iv x.G).length := ⟨_, rfl⟩
  obtain ⟨n, hn⟩ : ∃ n, n = (bv x.A).length := ⟨_, rfl⟩
  obtain ⟨nC, hnC⟩ : ∃ n, n = cv.length := ⟨_, rfl⟩
  obtain ⟨nF, hnF⟩ : ∃ n, n = (iv x.F).length := ⟨_, rfl⟩
  rw [← hnG, ← hn, ← hnC, ← hnF] at h
  rw [← hnG, ← hn, ← hnC, ← hnF]
  have hnl : n = x.A.length := by rw [hn, bv_length]
  have hnb : n ≤ 4294967296 := by rw [hnl]; exact ht.a
  have HA := hid h.a
  have HN := hid hnl
  clear h ht hnG hn hnC hnF hnl
  go_enter Try.func38, Try.ntmps38
  go_wp2_with fail
  go_loopg [3, 4] n (fun m p q wv => ∃ (j k : Nat), j + m = n ∧ p = .int .i64 ((k : Nat) : Int) ∧ q = .int .i64 ((j : Nat) : Int) ∧ k = cnt (x.A.take j) ∧ Ch NoB (w.alloc (.cells #[.int .i64 L, .slice ga nG gc, .slice aa n ac, .slice ca nC cc, .slice fa nF fc] 45)) wv)
  case atStart => exact ⟨0, 0, by omega, rfl, rfl, rfl, Ch.refl _ _⟩
  case round =>
    obtain ⟨j, k, hjm, rfl, rfl, hk, hg⟩ := hrel
    have HK := hid hk
    have HG := hid hg
    have hkj : k ≤ j := by rw [hk]; exact cnt_take_le _ _
    have hl := (HA.out.alloc _).ch hg (fun _ _ _ => noB _)
    have F := (Fv.new 45 w (.int .i64 L) (.slice ga nG gc) (.slice aa n ac) (.slice ca nC cc) (.slice fa nF fc)).ch hg (noB _)
    obtain ⟨c0, c1, c2, c3, c4⟩ := F.cells
    have fl := F.lt
    clear F
    clear hk hg
    by_cases hj : j < n
    · obtain ⟨a, ha⟩ : ∃ a, x.A[j]? = some a := ⟨_, List.getElem?_eq_getElem (by rw [← HN.out]; exact hj)⟩
      obtain ⟨g, o, c, e, -, hgl, hcap, d0⟩ := hl.get (bv_get ha)
      injection e with e1 e2 e3
      subst e1 e3
      have HKN := hid (cnt_next ha)
      have HA' := hid ha
      have j0 : (0 : Int) ≤ (j : Int) := by omega
      have j1 : (j : Int) < (n : Int) := by omega
      clear ha hl e2 hcap
      cases a with
      | true =>
        go_wp2
        go_roundg (gk - 1)
        case measure => omega
        case rel => exact ⟨j + 1, k + 1, by omega, by simp, by simp, by rw [HKN.out, HK.out]; rfl, HG.out⟩
      | false =>
        go_wp2
        go_roundg (gk - 1)
        case measure => omega
        case rel => exact ⟨j + 1, k, by omega, rfl, by simp, by rw [HKN.out, HK.out]; rfl, HG.out⟩
    · have e : j = n := by omega
      subst e
      clear hl
      have HE := hid (show cnt x.A = k by rw [HK.out, HN.out, List.take_length])
      go_wp2
      go_ret
      refine ⟨by rw [HE.out]; rfl, ?_⟩
      exact ((Ch.refl NoB w).alloc _).trans HG.out (fun q e => e.elim)
end Go.Proofs.Ytfbkifkfhgkdbab.Sb
