/-
  What the document's Make and Waits of layer 11 answer. Conditions: the lists are not too long.
-/
import Derived.Test.YtpkbgfneebjnjabCnRef2
namespace Go.Proofs.Ytpkbgfneebjnjab.Lt
open Go.RowKit Wd
attribute [local go_sem ↓] Go.wp_at_zero Go.wp_at_succ

/-- may one more be made? -/
def mkB (n : Nat) (x : Int) : Prop := 0 ≤ x ∧ x ≤ 1024 ∧ n < 1024
set_option maxHeartbeats 1000000 in
theorem rmake_no (ao : Option Addr) (n cap : Nat) (x : Int) (w : World) (h : ¬ mkB n x) : Calls Try.prog 22 #[.slice ao n cap, .int .i64 x] w fun e w' => e = .returned (.tuple #[.slice ao n cap, .int .i64 0, .int .i64 5]) ∧ w' = w := by
  unfold mkB at h
  by_cases h0 : x < 0
  · clear h
    go_enter Try.func22, Try.ntmps22
    go_wp2
    exact bodyPost_ret (v := .tuple #[.slice ao n cap, .int .i64 0, .int .i64 5]) (by simp [results, Try.results22, go_sem]) rfl ⟨rfl, rfl⟩
  · by_cases h1 : 1024 < x
    · clear h
      go_enter Try.func22, Try.ntmps22
      go_wp2
      exact bodyPost_ret (v := .tuple #[.slice ao n cap, .int .i64 0, .int .i64 5]) (by simp [results, Try.results22, go_sem]) rfl ⟨rfl, rfl⟩
    · have h2 : (1024 : Int) ≤ (n : Int) := by omega
      clear h
      go_enter Try.func22, Try.ntmps22
      go_wp2
      exact bodyPost_ret (v := .tuple #[.slice ao n cap, .int .i64 0, .int .i64 5]) (by simp [results, Try.results22, go_sem]) rfl ⟨rfl, rfl⟩
/-- what Make tells where one more is made -/
def MkR (w : World) (cs : List Cn) (x : Int) (e : Ending) (w' : World) : Prop := ∃ v, e = .returned (.tuple #[v, .int .i64 ((cs.length + 1 : Nat) : Int), .int .i64 0]) ∧ Nx w.heap.size w' v (cs ++ [⟨x, [], [], [], false⟩]) ∧ Gr w w'
set_option maxHeartbeats 1000000 in
theorem rmake_yes (P : Nat → Prop) (w : World) (ao : Option Addr) (n cap : Nat) (cs : List Cn) (x : Int) (hm : mkB n x) (h : Rds P w (.slice ao n cap) cs) (hb : Bd cs) (hn : n = cs.length) : Calls Try.prog 22 #[.slice ao n cap, .int .i64 x] w (MkR w cs x) := by
  have HC := hid (copy_any P w _ cs h hb)
  obtain ⟨m0, m1, m2⟩ := hm
  have d0 : ¬ x < 0 := by omega
  have d1 : ¬ (1024 : Int) < x := by omega
  have d2 : ¬ (1024 : Int) ≤ (n : Int) := by omega
  have HN := hid hn
  clear h hb hn
  go_enter Try.func22, Try.ntmps22
  go_wp2_with (first
    | (go_at_call 4; refine HC.out.mono ?_; rintro e w1 ⟨v1, t1, xs1, rfl, nl1, g1⟩; obtain ⟨a1, c1, rfl⟩ : ∃ a c, v1 = .slice a n c := (by obtain ⟨a, c, e⟩ := nl1.o.form; exact ⟨a, c, by rw [e, nl1.n, HN.out]⟩); have N1 := hid nl1; have G1 := hid g1; clear nl1 g1)
    | (at_builtin; refine wpList_append_ow eR_len rfl (.tmp 21) (.tmp 24) _ 45 88 _ Try.underlying22 chn_info rfl (by omega) rfl w.heap.size _ xs1 rfl (N1.out.o.alloc _) _ _ [Rw.mk x (.slice none 0 0) (.slice none 0 0) (.slice none 0 0) false] rfl (Ls.single w1 (Rw.mk x (.slice none 0 0) (.slice none 0 0) (.slice none 0 0) false) 45 #[.int .i64 x, .slice none 0 0, .slice none 0 0, .slice none 0 0, .bool false] rfl) (eR1_one _ _ _ _ _ _ _ _ _ _ _) (n + 1) (by rw [N1.out.n, ← HN.out]; rfl) (by omega) (by unfold maxLen; omega) (by have := G1.out.size; simp; omega) (xs1 ++ [Rw.mk x (.slice none 0 0) (.slice none 0 0) (.slice none 0 0) false]) rfl ?_; intro a9 c9 w9 ow9 cw9 bl9; have O9 := hid ow9; have C9 := hid cw9; have B9 := hid bl9; clear ow9 cw9 bl9))
  obtain ⟨t', -, nl⟩ := N1.out.snoc (c := ⟨x, [], [], [], false⟩) (x := Rw.mk x (.slice none 0 0) (.slice none 0 0) (.slice none 0 0) false) (Ch.alloc (Gr.refl w1) _) rfl rfl (Ow.nil _ _ _ _ _) (Ow.nil _ _ _ _ _) (Ow.nil _ _ _ _ _) (fun q hq => by cases hq) (fun q hq => by cases hq) (fun q hq => by cases hq) O9.out C9.out B9.out
  exact bodyPost_ret (v := .tuple #[.slice a9 (n + 1) c9, .int .i64 ((n + 1 : Nat) : Int), .int .i64 0]) (by simp [results, Try.results22, go_sem]) rfl ⟨_, by rw [HN.out], ⟨t', _, nl⟩, Ch.trans (Ch.alloc G1.out _) C9.out (fun q hq => .inr ((N1.out.o.blk hq).1))⟩
theorem rwaits_any (P : Nat → Prop) (w : World) (v : Value) (cs : List Cn) (s g : Int) (h : Rds P w v cs) (hb : Bd cs) (hn : cs.length ≤ 1024) : Calls Try.prog 49 #[v, .agg #[.int .i64 s, .int .i64 g]] w fun e w' => e = .returned (.bool (decide (0 < pls cs s g))) ∧ Gr w w' := by
  have HL := hid (fun (W : World) (p : Gr w W) => rleave_any P W v cs s g (h.gr p) hb hn)
  have G0 := hid (show Gr w (w.alloc (.cells #[.int .i64 s, .int .i64 g] 37)) from Ch.alloc (Gr.refl w) _)
  clear h hb hn
  unfold LvR at HL
  generalize pls cs s g = p at HL ⊢
  have hbx : (w.alloc (.cells #[.int .i64 s, .int .i64 g] 37)).heap[w.heap.size]? = some (.cells #[.int .i64 s, .int .i64 g] 37 (0, 0)) := (MapKept.heap_alloc w _).1
  go_enter Try.func49, Try.ntmps49
  go_wp2_with (go_at_call 31; refine (HL.out _ G0.out).mono ?_; rintro e w1 ⟨v1, rfl, -, g1⟩; have G1 := hid (Gr.trans G0.out g1); clear g1)
  go_ret
  exact ⟨rfl, G1.out⟩
end Go.Proofs.Ytpkbgfneebjnjab.Lt
