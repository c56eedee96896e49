/-
  What the program's blank and kindOf answer, and the library's Split, Cut, FieldsFunc, HasSuffix as the program calls them. Conditions: texts are no longer than a text may be; the tables lie where they lie.
-/
import Derived.Test.YtbehlhnnfdkmaaaGreatDoorLtForm
import Derived.Test.YtbehlhnnfdkmaaaGreatDoorWdFind
namespace Go.Proofs.YtbehlhnnfdkmaaaGreatDoor.Lt
open Go.RowKit Wd

/-- the powers of ten that the library keeps lie where they lie -/
def Pow (w : World) : Prop := ∃ T fr, w.heap[4]? = some (.cells (Lib.pow10Tab.map fun z => Value.int .u64 z).toArray T fr)
/-- what lies in the package-level variables -/
structure Glb (w : World) : Prop where
  n : Nums w
  nm : Names w
  f : Forms w
  lt : 3 < w.heap.size
  m : ∃ m, w.cell? ⟨3, 0, none⟩ = some (.int .i64 m)
  p : Pow w
theorem Glb.gr {w w' : World} (h : Glb w) (g : Gr w w') : Glb w' := by
  refine ⟨h.n.gr g, h.nm.gr g, h.f.gr g, Nat.lt_of_lt_of_le h.lt g.size, ?_, ?_⟩
  · obtain ⟨m, hm⟩ := h.m
    exact ⟨m, (g.cell h.lt).trans hm⟩
  · obtain ⟨T, fr, hp⟩ := h.p
    exact ⟨T, fr, (g.block _ (lt_of_block hp) (noB _)).trans hp⟩
/-- all of these lie below -/
theorem Glb.ch {S : Nat → Prop} {w w' : World} (h : Glb w) (g : Ch S w w') (hs : ∀ x, S x → 10 < x) : Glb w' := by
  have low : ∀ b : Nat, b ≤ 10 → ¬ S b := fun b hb hS => by have := hs b hS; omega
  have c : ∀ b o : Nat, b ≤ 10 → b < w.heap.size → w'.cell? ⟨b, o, none⟩ = w.cell? ⟨b, o, none⟩ := fun b o hb hl => g.cell hl (low b hb)
  refine ⟨⟨Nat.lt_of_lt_of_le h.n.lt g.size, fun k a b => (c _ _ (by omega) h.n.lt).trans (h.n.at_ k a b)⟩, ⟨Nat.lt_of_lt_of_le h.nm.lt g.size, fun k a b => (c _ _ (by omega) h.nm.lt).trans (h.nm.at_ k a b)⟩,
    ⟨Nat.lt_of_lt_of_le h.f.lt g.size, fun k a => (c _ _ (by omega) h.f.lt).trans (h.f.a0 k a), fun k a => (c _ _ (by omega) h.f.lt).trans (h.f.a1 k a), fun k a => (c _ _ (by omega) h.f.lt).trans (h.f.a2 k a), fun k a => (c _ _ (by omega) h.f.lt).trans (h.f.a3 k a), fun k a => (c _ _ (by omega) h.f.lt).trans (h.f.a4 k a)⟩,
    Nat.lt_of_lt_of_le h.lt g.size, ?_, ?_⟩
  · obtain ⟨m, hm⟩ := h.m
    exact ⟨m, (c _ _ (by omega) h.lt).trans hm⟩
  · obtain ⟨T, fr, hp⟩ := h.p
    exact ⟨T, fr, (g.block _ (lt_of_block hp) (low _ (by omega))).trans hp⟩

/-- a blank -/
def blR (r : Nat) : Bool := decide (r = 32) || decide (r = 9) || decide (r = 13)
theorem blank_any (r : Nat) (w : World) : Calls Tryz.prog 47 #[.int .i32 (r : Nat)] w fun e w' => e = .returned (.bool (blR r)) ∧ w' = w := by
  rcases (by omega : r = 32 ∨ r = 9 ∨ r = 13 ∨ (¬ r = 32 ∧ ¬ r = 9 ∧ ¬ r = 13)) with rfl | rfl | rfl | ⟨h1, h2, h3⟩
  case inr.inr.inr =>
    have e1 : blR r = false := by unfold blR; simp [h1, h2, h3]
    rw [e1]
    clear e1
    have g1 : ¬ ((r : Nat) : Int) = 32 := by omega
    have g2 : ¬ ((r : Nat) : Int) = 9 := by omega
    have g3 : ¬ ((r : Nat) : Int) = 13 := by omega
    go_enter Tryz.func47, Tryz.ntmps47
    go_wp2
    go_ret
    refine ⟨?_, rfl⟩
    simp
    omega
  all_goals
    go_enter Tryz.func47, Tryz.ntmps47
    go_wp2
    go_ret
    exact ⟨rfl, rfl⟩

/-- a line up to its remark -/
def told (s : ByteArray) : ByteArray := ⟨(Lib.cut s.data.toList [59]).1.toArray⟩
/-- a line's words -/
def wd (s : ByteArray) : List ByteArray := Lib.goFieldsP blR (told s)
/-- a text's lines -/
def SP (s : ByteArray) : List ByteArray := Lib.splitB ⟨#[10]⟩ 0 (Lib.countB s ⟨#[10]⟩) s

theorem split_any (s : ByteArray) (w : World) (hs : s.size < 4294967281) (hg : Glb w) : Calls Tryz.prog 44 #[.string s, .string { data := #[10] }] w fun e w' => ∃ k, e = .returned (.slice (some ⟨w.heap.size, 0, none⟩) k k) ∧ k = (SP s).length ∧ w' = w.alloc (.cells ((SP s).map Value.string).toArray 9) := by
  obtain ⟨m, hm⟩ := hg.m
  refine (Any.strings_Split Tryz.lays146 (by kernel_rfl) s ⟨#[10]⟩ m w hs hm (by decide)).mono ?_
  rintro e w1 ⟨rfl, rfl⟩
  exact ⟨_, rfl, (Lib.splitB_all ⟨#[10]⟩ (by decide) 0 _ s rfl).symm, rfl⟩
theorem cut_any (s : ByteArray) (w : World) (hs : s.size < 4294967281) (hg : Glb w) : Calls Tryz.prog 45 #[.string s, .string { data := #[59] }] w fun e w' => (∃ b c, e = .returned (.tuple #[.string (told s), .string b, .bool c])) ∧ ∃ n, w' = w.drewN n := by
  obtain ⟨m, hm⟩ := hg.m
  refine (Any.strings_Cut Tryz.lays145 s ⟨#[59]⟩ m w hs hm).mono ?_
  rintro e w1 ⟨rfl, n, rfl⟩
  exact ⟨⟨_, _, rfl⟩, n, rfl⟩
theorem fieldsF_any (s : ByteArray) (w : World) (hs : s.size ≤ 4294967296) : Calls Tryz.prog 46 #[.string s, .func (.func 47) #[] #[]] w fun e w' => ∃ A k, e = .returned (.slice (some ⟨A, 0, none⟩) k k) ∧ k = (Lib.goFieldsP blR s).length ∧ w.heap.size ≤ A ∧ Ow eS 1 9 w.heap.size w' (.slice (some ⟨A, 0, none⟩) k k) (Lib.goFieldsP blR s) ∧ Gr w w' := by
  refine (Any.strings_FieldsFunc_runes Tryz.lays229 47 #[] (enters_of Tryz.func47 (by kernel_rfl) rfl) blR s w hs ?_ (by kernel_rfl) (by kernel_rfl)).mono ?_
  · intro W x _ _
    refine (blank_any x W).mono ?_
    rintro e w1 ⟨rfl, rfl⟩
    exact ⟨rfl, 0, rfl⟩
  · rintro e w1 ⟨A, rfl, hA, ho, hb⟩
    refine ⟨A, _, rfl, rfl, hA, ?_, Gr.of_below hb⟩
    have e1 : (Lib.goFieldsP blR s).flatMap eS = (Lib.goFieldsP blR s).map Value.string := by
      unfold eS
      induction Lib.goFieldsP blR s with
      | nil => rfl
      | cons a l ih => rw [List.flatMap_cons, ih]; rfl
    show World.ownsRow _ _ _ _ _ _ _
    rw [e1]
    exact ho
/-- does a text end with a colon? -/
def colon (s : ByteArray) : Bool := Lib.hasSuffix s.data.toList [58]
theorem hasSuffix_any (s : ByteArray) (w : World) (hs : s.size ≤ 9223372036854775807) : Calls Tryz.prog 91 #[.string s, .string { data := #[58] }] w fun e w' => e = .returned (.bool (colon s)) ∧ w' = w :=
  Any.strings_HasSuffix Tryz.lays100 s ⟨#[58]⟩ w hs

/-- the operation of a name, 0 if there is none -/
def fop (s : ByteArray) : Nat := ((List.range' 1 58).find? (fun k => decide (nm k = s))).getD 0
theorem fop_found {s : ByteArray} {r e : Int} (h : Wd.Found s r e) : r = (fop s : Nat) ∧ e = (if fop s = 0 then 60 else 0) := by
  unfold fop
  rcases h with ⟨k, h1, h2, h3, h4, rfl, rfl⟩ | ⟨h1, rfl, rfl⟩
  · have e1 : (List.range' 1 58).find? (fun k => decide (nm k = s)) = some k := by
      rw [List.find?_range'_eq_some]
      refine ⟨by simp [h3], by simp; omega, fun j a b => ?_⟩
      simp
      exact h4 j a b
    rw [e1]
    simp
    omega
  · have e1 : (List.range' 1 58).find? (fun k => decide (nm k = s)) = none := by
      rw [List.find?_eq_none]
      intro k hk
      simp at hk ⊢
      exact h1 k (by omega) (by omega)
    rw [e1]
    simp
theorem fop_lt (s : ByteArray) : fop s < 59 := by
  unfold fop
  cases h : (List.range' 1 58).find? (fun k => decide (nm k = s)) with
  | none => simp
  | some k =>
    have := List.mem_of_find?_eq_some h
    simp at this
    simp
    omega
def sFunc : ByteArray := { data := #[102, 117, 110, 99] }
def sTable : ByteArray := { data := #[116, 97, 98, 108, 101] }
/-- a line's kind by its first word, and its operation -/
def kd (s : ByteArray) : Int × Nat := if s = sFunc then (1, 0) else if s = sTable then (3, 0) else if colon s = true then (2, 0) else if fop s = 0 then (0, 0) else (4, fop s)
theorem kindOf_any (s : ByteArray) (w : World) (hs : s.size ≤ 9223372036854775807) (hg : Names w) : Calls Tryz.prog 48 #[.string s] w fun e w' => e = .returned (.tuple #[.int .i64 (kd s).1, .int .i64 ((kd s).2 : Nat)]) ∧ w' = w := by
  have HS := hid (hasSuffix_any s)
  have HF := hid (find_any s w hg)
  clear hg
  obtain ⟨A, hA⟩ : ∃ A, A = (kd s).1 := ⟨_, rfl⟩
  obtain ⟨B, hB⟩ : ∃ B, B = (kd s).2 := ⟨_, rfl⟩
  rw [← hA, ← hB]
  have HA := hid hA
  have HB := hid hB
  clear hA hB
  unfold kd at HA HB
  cases h1 : (s.toList == sFunc.toList) with
  | true =>
    have e1 := str_eq h1
    rw [if_pos e1] at HA HB
    have a1 : A = 1 := HA.out
    have b1 : B = 0 := HB.out
    subst a1 b1 e1
    clear h1
    go_enter Tryz.func48, Tryz.ntmps48
    unfold sFunc
    go_wp2
    go_ret2
    exact ⟨rfl, rfl⟩
  | false =>
    rw [if_neg (str_ne h1)] at HA HB
    have h1 : (s.toList == [102, 117, 110, 99]) = false := by
      have e : sFunc.toList = [102, 117, 110, 99] := by rw [ByteArray.toList_eq]; rfl
      rw [← e]
      exact h1
    cases h2 : (s.toList == sTable.toList) with
    | true =>
      have e1 := str_eq h2
      rw [if_pos e1] at HA HB
      have a1 : A = 3 := HA.out
      have b1 : B = 0 := HB.out
      subst a1 b1 e1
      clear h1 h2
      go_enter Tryz.func48, Tryz.ntmps48
      unfold sTable
      go_wp2
      go_ret2
      exact ⟨rfl, rfl⟩
    | false =>
      rw [if_neg (str_ne h2)] at HA HB
      have h2 : (s.toList == [116, 97, 98, 108, 101]) = false := by
        have e : sTable.toList = [116, 97, 98, 108, 101] := by rw [ByteArray.toList_eq]; rfl
        rw [← e]
        exact h2
      cases h3 : colon s with
      | true =>
        rw [h3] at HA HB HS
        have a1 : A = 2 := HA.out
        have b1 : B = 0 := HB.out
        subst a1 b1
        go_enter Tryz.func48, Tryz.ntmps48
        go_wp2_with (go_at_call 91; refine (HS.out _ hs).mono ?_; rintro e w1 ⟨rfl, hw⟩; have hw := hw.symm; subst hw)
        go_ret2
        exact ⟨rfl, rfl⟩
      | false =>
        rw [h3] at HA HB HS
        by_cases h4 : fop s = 0
        · have a1 : A = 0 := by rw [HA.out]; simp [h4]
          have b1 : B = 0 := by rw [HB.out]; simp [h4]
          subst a1 b1
          have HF2 : Hid (Calls Tryz.prog 92 #[.string s] w fun e w' => e = .returned (.tuple #[.int .i64 0, .int .i64 60]) ∧ w' = w) := hid (HF.out.mono (by
            rintro e w1 ⟨⟨r, x, rfl, hf⟩, rfl⟩
            obtain ⟨q1, q2⟩ := fop_found hf
            rw [q1, q2, h4]
            exact ⟨rfl, rfl⟩))
          go_enter Tryz.func48, Tryz.ntmps48
          go_wp2_with (first | (go_at_call 91; refine (HS.out _ hs).mono ?_; rintro e w1 ⟨rfl, hw⟩; have hw := hw.symm; subst hw) | (go_at_call 92; refine HF2.out.mono ?_; rintro e w1 ⟨rfl, hw⟩; have hw := hw.symm; subst hw))
          go_ret2
          exact ⟨rfl, rfl⟩
        · have a1 : A = 4 := by rw [HA.out]; simp [h4]
          have b1 : B = fop s := by rw [HB.out]; simp [h4]
          subst a1
          have HF2 : Hid (Calls Tryz.prog 92 #[.string s] w fun e w' => e = .returned (.tuple #[.int .i64 (B : Nat), .int .i64 0]) ∧ w' = w) := hid (HF.out.mono (by
            rintro e w1 ⟨⟨r, x, rfl, hf⟩, rfl⟩
            obtain ⟨q1, q2⟩ := fop_found hf
            rw [q1, q2, if_neg h4, b1]
            exact ⟨rfl, rfl⟩))
          clear b1
          go_enter Tryz.func48, Tryz.ntmps48
          go_wp2_with (first | (go_at_call 91; refine (HS.out _ hs).mono ?_; rintro e w1 ⟨rfl, hw⟩; have hw := hw.symm; subst hw) | (go_at_call 92; refine HF2.out.mono ?_; rintro e w1 ⟨rfl, hw⟩; have hw := hw.symm; subst hw))
          go_ret2
          exact ⟨rfl, rfl⟩
end Go.Proofs.YtbehlhnnfdkmaaaGreatDoor.Lt
