/-
  What the program's without of layer 11 leaves: those that wait, without a goroutine, in the same memory. Condition: a list is not too long.
-/
import Derived.Test.YtalmiphddgmfbabCpBase
import Derived.Lib.SliceRun
import Derived.Laws.IdiomCopy
import Derived.Deep.MidRow
namespace Go.Proofs.Ytalmiphddgmfbab.Lt
open Go.RowKit Wd
attribute [local go_sem ↓] Go.wp_at_zero Go.wp_at_succ

theorem setCells_ch (b : Nat) : ∀ (vs : List Value) (o : Nat) (w : World), Ch (Only b) w (w.setCells b o vs)
  | [], _, w => Ch.refl _ w
  | v :: r, o, w => ((Ch.refl (Only b) w).own o v).trans' (setCells_ch b r (o + 1) _)
theorem setCells_block {b : Nat} {t : TypeId} {fr : Nat × Nat} : ∀ (vs : List Value) (o : Nat) (w : World) (c : Array Value), w.heap[b]? = some (.cells c t fr) → o + vs.length ≤ c.size →
    ∃ c' : Array Value, (w.setCells b o vs).heap[b]? = some (.cells c' t fr) ∧ c'.size = c.size ∧ c'.toList.take o = c.toList.take o
  | [], o, w, c, h, _ => ⟨c, h, rfl, rfl⟩
  | v :: r, o, w, c, h, hl => by
    simp only [List.length_cons] at hl
    have h1 := setCell_block h o v
    obtain ⟨c', h2, h3, h4⟩ := setCells_block r (o + 1) (w.setCell ⟨b, o, none⟩ v) _ h1 (by simp; omega)
    refine ⟨c', h2, by rw [h3]; simp, ?_⟩
    have h5 := congrArg (List.take o) h4
    rw [List.take_take, List.take_take, Nat.min_eq_left (by omega)] at h5
    rw [h5, Array.toList_setIfInBounds, List.take_set_of_le (Nat.le_refl _)]
/-- the closure of without -/
theorem clo_any (s g x0 x1 x2 x3 : Int) (gb : Nat) (w : World) (h : w.heap[gb]? = some (.cells #[.int .i64 s, .int .i64 g] 24 (0, 0))) : Calls Try.prog 71 #[.agg #[.int .i64 x0, .int .i64 x1, .int .i64 x2, .int .i64 x3], .pointer (some ⟨gb, 0, none⟩)] w fun e w' => e = .returned (.bool (x0 == s && x1 == g)) ∧ Gr w w' := by
  have b0 := cell_of h 0
  have b1 := cell_of h 1
  simp at b0 b1
  have l0 := lt_of_block h
  have G0 := hid (show Gr w (w.alloc (.cells #[.int .i64 x0, .int .i64 x1, .int .i64 x2, .int .i64 x3] 95)) from Ch.alloc (Gr.refl w) _)
  clear h
  by_cases e1 : x0 = s
  · subst e1
    by_cases e2 : x1 = g
    · subst e2
      go_enter Try.func71, Try.ntmps71
      go_wp2
      go_ret
      exact ⟨by simp, G0.out⟩
    · have e3 : (x1 == g) = false := by simpa using e2
      go_enter Try.func71, Try.ntmps71
      go_wp2
      go_ret
      exact ⟨by simp [e3], G0.out⟩
  · have e3 : (x0 == s) = false := by simpa using e1
    go_enter Try.func71, Try.ntmps71
    go_wp2
    go_ret
    exact ⟨by simp [e3], G0.out⟩
/-- is it of the goroutine? -/
def isG (s g : Int) (x : Wt) : Bool := x.s == s && x.g == g
/-- where the first of a goroutine stands, or -1 -/
def ixG (ws : List Wt) (s g : Int) : Int := match ws.findIdx? (isG s g) with | some i => (i : Int) | none => -1
theorem ixG_yes {ws : List Wt} {s g : Int} {j : Nat} {x : Wt} (hn : ∀ y ∈ ws.take j, isG s g y = false) (hx : ws[j]? = some x) (h : isG s g x = true) : ixG ws s g = (j : Int) := by
  unfold ixG
  have : ws.findIdx? (isG s g) = some j := by
    rw [List.findIdx?_eq_some_iff_getElem]
    obtain ⟨hj, hxe⟩ := List.getElem?_eq_some_iff.1 hx
    refine ⟨hj, by rw [hxe]; exact h, fun i hi => ?_⟩
    have := hn ws[i] (by
      refine List.mem_iff_getElem?.2 ⟨i, ?_⟩
      rw [List.getElem?_take_of_lt hi, List.getElem?_eq_getElem (by omega)])
    simp [this]
  rw [this]
theorem ixG_no {ws : List Wt} {s g : Int} (hn : ∀ y ∈ ws, isG s g y = false) : ixG ws s g = -1 := by
  unfold ixG
  have : ws.findIdx? (isG s g) = none := List.findIdx?_eq_none_iff.2 (fun x hx => hn x hx)
  rw [this]
abbrev cloV (gb : Nat) : Value := .func (.func 71) #[] #[.pointer (some ⟨gb, 0, none⟩)]
set_option maxRecDepth 20000 in
set_option maxHeartbeats 2000000 in
theorem indexf_any (P : Nat → Prop) (w : World) (ao : Option Addr) (n cap : Nat) (ws : List Wt) (s g : Int) (gb : Nat) (h : Ls eW P w (.slice ao n cap) ws) (hn : n ≤ 4398046511104) (hb : w.heap[gb]? = some (.cells #[.int .i64 s, .int .i64 g] 24 (0, 0))) : Calls Try.prog 60 #[.slice ao n cap, cloV gb] w fun e w' => e = .returned (.int .i64 (ixG ws s g)) ∧ Gr w w' := by
  have HL := hid h.len.1
  have HB := hid h
  have HC := hid hb
  clear h hb
  go_enter Try.func60, Try.ntmps60
  go_wp2_with fail
  go_loopg [8] n (fun q i wr => ∃ (j : Nat), j + q = n ∧ i = .int .i64 (j : Int) ∧ (∀ y ∈ ws.take j, isG s g y = false) ∧ Gr w wr)
  case atStart => exact ⟨0, by omega, rfl, (fun y hy => by simp at hy), Gr.refl _⟩
  case round =>
    obtain ⟨j, hjk, rfl, hN, hG⟩ := hrel
    have HN := hid hN
    have HG := hid hG
    clear hN hG
    by_cases hj : j < n
    · obtain ⟨⟨x0, x1, x2, x3⟩, hx⟩ : ∃ x, ws[j]? = some x := ⟨_, List.getElem?_eq_getElem (by rw [← HL.out]; omega)⟩
      obtain ⟨gg, oo, cap', hv, _, hgl, _, hcs⟩ := (HB.out.gr HG.out).get eW_len hx
      injection hv with hv1 hv2 hv3
      subst hv1
      have c0 := hcs 0 _ rfl
      have c1 := hcs 1 _ rfl
      have c2 := hcs 2 _ rfl
      have c3 := hcs 3 _ rfl
      dsimp only [Nat.add_zero] at c0 c1 c2 c3
      have j0 : (0 : Int) ≤ (j : Int) := by omega
      have j1 : (j : Int) < (n : Int) := by omega
      have HX := hid hx
      have HCL := hid (clo_any s g x0 x1 x2 x3 gb wr (gr_blk HC.out HG.out))
      obtain ⟨z, hz⟩ : ∃ z, z = (x0 == s && x1 == g) := ⟨_, rfl⟩
      have HZ := hid hz
      rw [← hz] at HCL
      clear hcs hv2 hv3 hx hgl hz
      cases z with
      | true =>
        have HI := hid (ixG_yes HN.out HX.out HZ.out.symm)
        go_wp2_with (go_at_call 71; refine HCL.out.mono ?_; rintro e w5 ⟨rfl, g5⟩; have G5 := hid (Gr.trans HG.out g5); clear g5)
        go_ret
        exact ⟨by rw [HI.out]; rfl, G5.out⟩
      | false =>
        go_wp2_with (go_at_call 71; refine HCL.out.mono ?_; rintro e w5 ⟨rfl, g5⟩; have G5 := hid (Gr.trans HG.out g5); clear g5)
        go_roundg (gk - 1)
        case measure => omega
        case rel => exact ⟨j + 1, by omega, by simp, (fun y hy => by
          rw [take_one HX.out, List.mem_append] at hy
          rcases hy with hy | hy
          · exact HN.out y hy
          · simp only [List.mem_cons, List.not_mem_nil, or_false] at hy
            rw [hy]
            exact HZ.out.symm), G5.out⟩
    · have jn : ¬ (j : Int) < (n : Int) := by omega
      have HI := hid (show ixG ws s g = -1 from ixG_no (by have := HN.out; rwa [List.take_of_length_le (by rw [← HL.out]; omega)] at this))
      go_wp2
      go_ret
      exact ⟨by rw [HI.out]; rfl, HG.out⟩
theorem clear_len (n : Nat) : (Builtin.zeroCells Wt.zero.cells n).toList.length = n * 4 := by simp [Builtin.zeroCells, Wt.zero, Value.cells]
theorem clear_one (n : Nat) : ∀ v ∈ (Builtin.zeroCells Wt.zero.cells n).toList, v.oneCell' = true := by
  intro v hv
  have : v = .int .i64 0 := by
    obtain ⟨j, hj⟩ := List.mem_iff_getElem?.1 hv
    have hl := (List.getElem?_eq_some_iff.1 hj).1
    rw [clear_len] at hl
    simp only [Builtin.zeroCells, Wt.zero, Value.cells] at hj
    have hm : j % 4 < 4 := Nat.mod_lt _ (by omega)
    have h4 : j % 4 = 0 ∨ j % 4 = 1 ∨ j % 4 = 2 ∨ j % 4 = 3 := by omega
    rcases h4 with h | h | h | h <;> simp [h, hl] at hj <;> first | exact hj.symm | exact hj.2.symm | (simp_all; done)
  rw [this]
  rfl
theorem run_clear4 (w : World) (ty : TypeId) (b o n c : Nat) (hn : 0 < n) (hc : ∀ j, j < n * 4 → (w.cell? ⟨b, o + j, none⟩).isSome = true) (hf : ∀ j, j < n * 4 → w.frozen? ⟨b, o + j, none⟩ = false) :
    (Builtin.clear_ #[68] ty #[.slice (some ⟨b, o, none⟩) n c]).run Try.prog w = .ok (.tuple #[]) (w.setCells b o (Builtin.zeroCells Wt.zero.cells n).toList) := by
  have hst := run_storeCells_cells (P := Try.prog) b o (Builtin.zeroCells Wt.zero.cells n).toList 0 w (fun j hj => by rw [clear_len] at hj; simpa using hc j hj) (fun j hj => by rw [clear_len] at hj; simpa using hf j hj) (clear_one n)
  simp only [Nat.add_zero] at hst
  have hz : ∀ w : World, (zeroValue 95).run Try.prog w = .ok Wt.zero w := fun w => by kernel_rfl
  obtain ⟨m, rfl⟩ : ∃ m, n = m + 1 := ⟨n - 1, by omega⟩
  simp [Builtin.clear_, run_underlying Try.underlying68, hz, hst]
/-- one that waits is set in its list -/
theorem Ow.set4 {T base g n cap : Nat} {w : World} {xs : List Wt} (h : Ow eW 4 T base w (.slice (some ⟨g, 0, none⟩) n cap) xs) {i : Nat} (hi : i < n) (y : Wt) :
    w.there g (i * 4) 4 ∧ Ow eW 4 T base (w.setCells g (i * 4) (eW y)) (.slice (some ⟨g, 0, none⟩) n cap) (xs.set i y) := by
  have hn := h.len.1
  obtain ⟨a, ha⟩ : ∃ a, xs[i]? = some a := ⟨_, List.getElem?_eq_getElem (by omega)⟩
  have step : ∀ {w : World} {xs : List Wt} {a : Wt} (h : Ow eW 4 T base w (.slice (some ⟨g, 0, none⟩) n cap) xs) (ha : xs[i]? = some a) (j : Nat) (u : Value) (b : Wt), j < 4 → eW b = (eW a).set j u → Ow eW 4 T base (w.setCell ⟨g, i * 4 + j, none⟩ u) (.slice (some ⟨g, 0, none⟩) n cap) (xs.set i b) ∧ (xs.set i b)[i]? = some b := by
    intro w xs a h ha j u b hj hb
    obtain ⟨g', cap', e, -, -, -, -, -, h6⟩ := h.get eW_len ha
    injection e with e1 e2 e3
    injection e1 with e1
    injection e1 with e1 _ _
    subst e1
    exact ⟨h6 j u b hj hb, List.getElem?_set_self (List.getElem?_eq_some_iff.1 ha).1⟩
  constructor
  · obtain ⟨g', cap', e, -, -, -, h4, h5, -⟩ := h.get eW_len ha
    injection e with e1 e2 e3
    injection e1 with e1
    injection e1 with e1 _ _
    subst e1
    intro j hj
    refine ⟨?_, h5 _⟩
    rw [h4 j ((eW a)[j]'(by rw [eW_len]; exact hj)) (List.getElem?_eq_getElem (by rw [eW_len]; exact hj))]
    rfl
  · obtain ⟨o1, a1⟩ := step h ha 0 (.int .i64 y.s) ⟨y.s, a.g, a.c, a.v⟩ (by omega) rfl
    obtain ⟨o2, a2⟩ := step o1 a1 1 (.int .i64 y.g) ⟨y.s, y.g, a.c, a.v⟩ (by omega) rfl
    obtain ⟨o3, a3⟩ := step o2 a2 2 (.int .i64 y.c) ⟨y.s, y.g, y.c, a.v⟩ (by omega) rfl
    obtain ⟨o4, -⟩ := step o3 a3 3 (.int .i64 y.v) y (by omega) rfl
    simp only [List.set_set] at o4
    exact o4
/-- a list's end is written over: its head stays -/
theorem Ow.cut4 {T base g n cap m : Nat} {w : World} {xs : List Wt} {vs : List Value} (h : Ow eW 4 T base w (.slice (some ⟨g, 0, none⟩) n cap) xs) (hm : m ≤ n) (hv : vs.length = (n - m) * 4) : Ow eW 4 T base (w.setCells g (m * 4) vs) (.slice (some ⟨g, 0, none⟩) m cap) (xs.take m) := by
  have h1 := h.take eW_len hm
  refine ⟨h1.1, ?_⟩
  rcases h1.2 with ⟨e, _⟩ | ⟨g', cap', cur, e, hb, hg, hc, hmx, hs, ht⟩
  · cases e
  · injection e with e1 e2 e3
    injection e1 with e1
    injection e1 with e1 _ _
    subst e1 e3
    have hle := h.len.2
    obtain ⟨c', k1, k2, k3⟩ := setCells_block vs (m * 4) w cur hg (by
      rw [hv, hs]
      have : m * 4 + (n - m) * 4 = n * 4 := by omega
      omega)
    refine .inr ⟨g, cap, c', congrArg (fun k => Value.slice (some ⟨g, 0, none⟩) k cap) e2, hb, k1, hc, hmx, by rw [k2, hs], ?_⟩
    rw [← e2] at ht
    rw [← e2, k3]
    exact ht
theorem there_of {T base g n cap : Nat} {w : World} {xs : List Wt} (h : Ow eW 4 T base w (.slice (some ⟨g, 0, none⟩) n cap) xs) {m : Nat} (hm : m ≤ n) : (∀ j, j < (n - m) * 4 → (w.cell? ⟨g, m * 4 + j, none⟩).isSome = true) ∧ ∀ j, j < (n - m) * 4 → w.frozen? ⟨g, m * 4 + j, none⟩ = false := by
  rcases h.2 with ⟨e, _⟩ | ⟨g', cap', cur, e, hb, hg, hc, hmx, hs, ht⟩
  · cases e
  · injection e with e1 e2 e3
    injection e1 with e1
    injection e1 with e1 _ _
    subst e1 e3
    have hle := h.len.2
    refine ⟨fun j hj => ?_, fun j _ => frozen_of hg _⟩
    rw [cell_of hg, Array.getElem?_eq_getElem (by rw [hs]; omega)]
    rfl
end Go.Proofs.Ytalmiphddgmfbab.Lt
