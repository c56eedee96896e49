/-
  What the document's given and Flush answer. Condition: the state is there, and no list of it is too long.
-/
import Derived.Test.YtfbkifkfhgkdbabSbCopy
namespace Go.Proofs.Ytfbkifkfhgkdbab.Sb
open Go.RowKit
attribute [local go_sem ↓] Go.wp_at_zero Go.wp_at_succ

set_option maxHeartbeats 4000000 in
theorem given_any (base k : Nat) (L g : Int) (a : Bool) (vg va vc vf : Value) (cv : List Value) (x : Sl) (w : World) (h : St base w vg va vc vf cv x) (hG : x.G[k]? = some g) (hA : x.A[k]? = some a) (hg0 : 0 ≤ g) (hg1 : g < 2147483647) :
    Calls Try.prog 54 #[.agg #[.int .i64 L, vg, va, vc, vf], .int .i64 (k : Int)] w fun e w' => e = .returned (.tuple #[.agg #[.int .i64 L, vg, va, vc, vf], .agg #[.int .i64 (k : Int), .int .i64 (g + 1)], .int .i64 0]) ∧ St base w' vg va vc vf cv (givenS x k g) ∧ Ch (base ≤ ·) w w' := by
  obtain ⟨ga, gc, rfl⟩ := h.g.form
  obtain ⟨aa, ac, rfl⟩ := h.a.form
  obtain ⟨ca, cc, rfl⟩ := h.c.form
  obtain ⟨fa, fc, rfl⟩ := h.f.form
  obtain ⟨nG, hnG⟩ : ∃ n, n = (iv x.G).length := ⟨_, rfl⟩
  obtain ⟨nA, hnA⟩ : ∃ n, n = (bv x.A).length := ⟨_, rfl⟩
  obtain ⟨nC, hnC⟩ : ∃ n, n = cv.length := ⟨_, rfl⟩
  obtain ⟨nF, hnF⟩ : ∃ n, n = (iv x.F).length := ⟨_, rfl⟩
  rw [← hnG, ← hnA, ← hnC, ← hnF] at h
  rw [← hnG, ← hnA, ← hnC, ← hnF]
  obtain ⟨gg, rfl, hgb, hgl, hgc, eg, fg, setg⟩ := h.g.get1 (iv_get hG)
  obtain ⟨ag, rfl, hab, hal, hac, ea, fa', seta⟩ := h.a.get1 (bv_get hA)
  have hkG : k < nG := by rw [hnG, iv_length]; exact (List.getElem?_eq_some_iff.1 hG).1
  have hkA : k < nA := by rw [hnA, bv_length]; exact (List.getElem?_eq_some_iff.1 hA).1
  have n5 : ¬ (gg = ag) := fun e => h.ga gg rfl (by rw [e]; rfl)
  have n6 : ¬ (ag = gg) := fun e => n5 e.symm
  have b1 : (0 : Int) ≤ (k : Int) := by omega
  have b2 : (k : Int) < (nG : Int) := by omega
  have b3 : (k : Int) < (nA : Int) := by omega
  have hwr : IntKind.i64.wrap (g + 1) = g + 1 := by rw [IntKind.wrap_i64]; omega
  have n1 : ¬ (gg = w.heap.size) ∧ ¬ (w.heap.size = gg) ∧ ¬ (ag = w.heap.size) ∧ ¬ (w.heap.size = ag) := by omega
  have n2 : ¬ (gg = w.heap.size + 1) ∧ ¬ (w.heap.size + 1 = gg) ∧ ¬ (ag = w.heap.size + 1) ∧ ¬ (w.heap.size + 1 = ag) := by omega
  have n3 : ¬ (gg = w.heap.size + 1 + 1) ∧ ¬ (w.heap.size + 1 + 1 = gg) ∧ ¬ (ag = w.heap.size + 1 + 1) ∧ ¬ (w.heap.size + 1 + 1 = ag) := by omega
  have q1 : gg < w.heap.size + 1 := by omega
  have q2 : gg < w.heap.size + 1 + 1 := by omega
  have q3 : ag < w.heap.size + 1 := by omega
  have q4 : ag < w.heap.size + 1 + 1 := by omega
  obtain ⟨n11, n12, n13, n14⟩ := n1
  obtain ⟨n21, n22, n23, n24⟩ := n2
  obtain ⟨n31, n32, n33, n34⟩ := n3
  have HS := hid h
  have HG := hid hG
  have HA := hid hA
  clear h hG hA hnG hnA hnC hnF setg seta
  go_enter Try.func54, Try.ntmps54
  go_wp2_with fail
  go_region_held3 (fun w' => w'.cell? ⟨w.heap.size, 0, none⟩ = some (.int .i64 L) ∧ w'.cell? ⟨w.heap.size, 1, none⟩ = some (.slice (some ⟨gg, 0, none⟩) nG gc) ∧ w'.cell? ⟨w.heap.size, 2, none⟩ = some (.slice (some ⟨ag, 0, none⟩) nA ac) ∧ w'.cell? ⟨w.heap.size, 3, none⟩ = some (.slice ca nC cc) ∧ w'.cell? ⟨w.heap.size, 4, none⟩ = some (.slice fa nF fc) ∧ w'.cell? ⟨gg, k, none⟩ = some (.int .i64 (g + 1))) (first | (go_simp; done) | (go_keep; done)) (fail)
  all_goals go_wp2
  all_goals (
    have C3 := (Ch.refl (Only gg) w).own k (.int .i64 (g + 1))
    obtain ⟨g', e', -, -, -, -, -, setg⟩ := HS.out.g.get1 (iv_get HG.out)
    cases e'
    have s3 := HS.out.gens (vg' := .slice (some ⟨gg, 0, none⟩) nG gc) (G' := x.G.set k (g + 1)) (C3.mono (fun q e => .inl (by have e1 : q = gg := e; subst e1; rfl))) (by rw [← iv_set]; exact setg _) (fun q e => .inl e)
    have C4 := (Ch.refl (Only ag) (w.setCell ⟨gg, k, none⟩ (.int .i64 (g + 1)))).own k (.bool true)
    obtain ⟨ag', e', -, -, -, -, -, seta2⟩ := s3.a.get1 (bv_get HA.out)
    cases e'
    have s4 := s3.alive (va' := .slice (some ⟨ag, 0, none⟩) nA ac) (A' := x.A.set k true) (C4.mono (fun q e => .inl (by have e1 : q = ag := e; subst e1; rfl))) (by rw [← bv_set]; exact seta2 _) (fun q e => .inl e)
    have k4 : Ch (base ≤ ·) w _ := (C3.mono (T := (base ≤ ·)) (fun q e => .inl (by have e1 : q = gg := e; subst e1; exact hgb))).trans C4 (fun q e => .inl (by have e1 : q = ag := e; subst e1; exact hab))
    refine bodyPost_ret (v := .tuple #[.agg #[.int .i64 L, .slice (some ⟨gg, 0, none⟩) nG gc, .slice (some ⟨ag, 0, none⟩) nA ac, .slice ca nC cc, .slice fa nF fc], .agg #[.int .i64 (k : Int), .int .i64 (g + 1)], .int .i64 0]) (by simp [results, Try.results54, go_sem, World.setCell]) rfl ⟨rfl, s4.ch (((((Ch.refl NoB _).alloc _).alloc _).alloc _).drew) (fun _ _ => noB _), (((k4.alloc _).alloc _).alloc _).drew⟩)
end Go.Proofs.Ytfbkifkfhgkdbab.Sb
