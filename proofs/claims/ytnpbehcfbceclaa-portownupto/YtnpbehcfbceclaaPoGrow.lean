/-
  What grow leaves: each value one delivery older. Condition: the part that does is there, and may be.
-/
import Derived.Test.YtnpbehcfbceclaaPoGet
namespace Go.Proofs.Ytnpbehcfbceclaa.Lt
open Go.RowKit Wd
attribute [local go_sem ↓] Go.wp_at_zero Go.wp_at_succ
set_option maxRecDepth 20000

/-- the first j of a list are older -/
def grown (xs : List Ag) (j : Nat) : List Ag := (xs.take j).map older ++ xs.drop j
theorem grown_len (xs : List Ag) (j : Nat) : (grown xs j).length = xs.length := by
  unfold grown
  simp
  omega
theorem grown_get {xs : List Ag} {j : Nat} {u : Ag} (h : xs[j]? = some u) : (grown xs j)[j]? = some u := by
  have hj : j < xs.length := (List.getElem?_eq_some_iff.1 h).1
  have hl : ((xs.take j).map older).length = j := by simp; omega
  unfold grown
  rw [List.getElem?_append_right (by omega), hl, Nat.sub_self, List.getElem?_drop, Nat.add_zero]
  exact h
theorem grown_set {xs : List Ag} {j : Nat} {u : Ag} (h : xs[j]? = some u) : (grown xs j).set j (older u) = grown xs (j + 1) := by
  have hj : j < xs.length := (List.getElem?_eq_some_iff.1 h).1
  have hl : ((xs.take j).map older).length = j := by simp; omega
  have hu : xs[j] = u := (List.getElem?_eq_some_iff.1 h).2
  unfold grown
  rw [List.set_append_right _ _ (by omega), hl, Nat.sub_self, List.drop_eq_getElem_cons hj, List.set_cons_zero, List.take_add_one, h, List.map_append, List.append_assoc]
  rfl
theorem grown_same {xs : List Ag} {j : Nat} {u : Ag} (h : xs[j]? = some u) (ho : older u = u) : grown xs (j + 1) = grown xs j := by
  rw [← grown_set h, ho]
  exact List.ext_getElem? fun i => by
    by_cases e : j = i
    · subst e
      rw [List.getElem?_set_self (by rw [grown_len]; exact (List.getElem?_eq_some_iff.1 h).1), grown_get h]
    · rw [List.getElem?_set_ne e]
theorem grow_any (w : World) (k : Nat) (vo vi : Value) (x : Pt) (h : Kq w k vo vi x) (hok : x.ok) : Calls Try.prog 56 #[.pointer (some ⟨k, 0, none⟩)] w fun e w' => e = .returned (.tuple #[]) ∧ Kq w' k vo vi { x with inn := x.inn.map older } ∧ Ch (Blk vi) w w' := by
  have HH := hid h
  obtain ⟨_, c1, f0, l0⟩ := h.c1
  have hle : x.inn.length ≤ 1024 := Nat.le_trans hok.i hok.c2
  have HA := hid hok.ages
  obtain ⟨ao, co, rfl⟩ := h.hi.form
  obtain ⟨xs, hxs⟩ : ∃ xs, xs = x.inn := ⟨_, rfl⟩
  have HX := hid hxs
  rw [← hxs] at HA
  have h1 := h.hi
  have HI := hid (show Ow eG 2 59 0 w (.slice ao x.inn.length co) (grown xs 0) from by rw [hxs]; exact h1)
  have HK := hid (show ∀ W, Ch (Blk (.slice ao x.inn.length co)) w W → W.cell? ⟨k, 1, none⟩ = some (.slice ao x.inn.length co) ∧ k < W.heap.size from fun W c => ⟨(c.cell l0 h.kp.si).trans c1, Nat.lt_of_lt_of_le l0 c.size⟩)
  have HL := hid (show x.inn.length = xs.length by rw [hxs])
  clear h hok hxs h1 f0
  generalize x.inn.length = n at *
  go_enter Try.func56, Try.ntmps56
  go_wp2_with fail
  go_loopg [8] n (fun k i wr => ∃ j : Nat, j + k = n ∧ i = .int .i64 (j : Int) ∧ Ow eG 2 59 0 wr (.slice ao n co) (grown xs j) ∧ Ch (Blk (.slice ao n co)) w wr)
  case atStart => exact ⟨0, by omega, rfl, HI.out, Ch.refl _ _⟩
  case round =>
    obtain ⟨j, hjk, rfl, how, hg⟩ := hrel
    obtain ⟨V, hV⟩ : ∃ W, W = wr := ⟨_, rfl⟩
    subst hV
    obtain ⟨q0, ql⟩ := HK.out _ hg
    have G := hid hg
    clear hg
    by_cases hj : j < n
    · have hjx : xs[j]? = some (xs[j]'(by rw [← HL.out]; exact hj)) := List.getElem?_eq_getElem _
      generalize xs[j]'(by rw [← HL.out]; exact hj) = u at hjx
      have HJ := hid hjx
      obtain ⟨g, cp, e, _, hgl, hcp, hc, hf, hs⟩ := how.get eG_len (grown_get hjx)
      have HO := hid how
      injection e with e1 e2 e3
      subst e1 e3
      have g1 := hc 1 _ rfl
      have f1 := hf (j * 2 + 1)
      have HS := hid (hs 1 (.int .i64 (u.a + 1)) ⟨u.v, u.a + 1⟩ (by omega) rfl)
      have hne := hid (show g ≠ k from fun e => HH.out.kp.si (by rw [e]; rfl))
      have hb : u.a ≤ 2147483647 ∧ 0 ≤ u.a := by have := HA.out u (List.mem_of_getElem? hjx); omega
      obtain ⟨hb1, hb2⟩ := hb
      clear how hc hf hs hcp e2 hjx
      have hj' : (j : Int) < (n : Int) := by omega
      by_cases ha : u.a < 2147483647
      · go_wp2
        go_roundg (gk - 1)
        case measure => omega
        case rel =>
          refine ⟨j + 1, by omega, ?_, ?_, ?_⟩
          · first | with_reducible rfl | simp
          · have e : older u = ⟨u.v, u.a + 1⟩ := by unfold older; rw [if_pos ha]
            rw [← grown_set HJ.out, e]
            exact HS.out
          · exact G.out.setCell (p := ⟨g, j * 2 + 1, none⟩) (.inl rfl) _
      · go_wp2
        go_roundg (gk - 1)
        case measure => omega
        case rel =>
          refine ⟨j + 1, by omega, ?_, ?_, ?_⟩
          · first | with_reducible rfl | simp
          · have e : older u = u := by unfold older; rw [if_neg (by omega)]
            rw [grown_same HJ.out e]
            exact HO.out
          · exact G.out
    · have e : j = n := by omega
      have HJ := hid e
      have hj' : ¬ ((j : Int) < (n : Int)) := by omega
      have HO := hid how
      clear how e q0 ql
      go_wp2
      go_end0
      have h1 := HO.out
      have hl : grown xs j = xs.map older := by
        unfold grown
        rw [HJ.out, HL.out, List.take_length, List.drop_length, List.append_nil]
      rw [hl] at h1
      refine ⟨rfl, ⟨ch_blk HH.out.bk G.out HH.out.kp.si, HH.out.ho.ch G.out (fun q e e' => HH.out.kp.oi e e'), by rw [← HX.out]; exact h1⟩, G.out⟩
end Go.Proofs.Ytnpbehcfbceclaa.Lt
