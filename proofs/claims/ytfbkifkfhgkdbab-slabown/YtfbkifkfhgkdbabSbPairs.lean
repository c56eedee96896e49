/-
  The words in which the walks of layer 4 speak of a list of names (two numbers each) that a call owns, and what 'name' answers. Condition: the list is there.
-/
import Derived.Test.YtfbkifkfhgkdbabSbOpsP
namespace Go.Proofs.Ytfbkifkfhgkdbab.Sb
open Go.RowKit
attribute [local go_sem ↓] Go.wp_at_zero Go.wp_at_succ

/-- the cells of a list of names -/
def rowP : List (Int × Int) → List Value
  | [] => []
  | g :: r => .int .i64 g.1 :: .int .i64 g.2 :: rowP r
theorem rowP_length : ∀ gs : List (Int × Int), (rowP gs).length = gs.length * 2
  | [] => rfl
  | _ :: r => by simp only [rowP, List.length_cons, rowP_length r]; omega
theorem rowP_append : ∀ a b : List (Int × Int), rowP (a ++ b) = rowP a ++ rowP b
  | [], _ => rfl
  | g :: r, b => by simp only [List.cons_append, rowP, rowP_append r b]
theorem rowP_get : ∀ (gs : List (Int × Int)) (i : Nat) (g : Int × Int), gs[i]? = some g → (rowP gs)[i * 2]? = some (.int .i64 g.1) ∧ (rowP gs)[i * 2 + 1]? = some (.int .i64 g.2)
  | [], _, _, h => by simp at h
  | y :: r, 0, g, h => by
    have e : y = g := by simpa using h
    subst e
    exact ⟨rfl, rfl⟩
  | y :: r, i + 1, g, h => by
    have h2 := rowP_get r i g (by simpa using h)
    have e1 : (i + 1) * 2 = i * 2 + 1 + 1 := by omega
    rw [e1]
    exact h2
/-- a list of names that a call owns -/
def Pr (base : Nat) (w : World) (v : Value) (gs : List (Int × Int)) : Prop := w.ownsRow base 34 2 v gs.length (rowP gs)
section
variable {S : Nat → Prop} {base : Nat} {w w' : World} {v : Value} {gs : List (Int × Int)}
theorem Pr.nil (base : Nat) (w : World) : Pr base w (.slice none 0 0) [] := World.ownsRow_nil _ _ _ _
theorem own_form2 {n : Nat} {us : List Value} (h : w.ownsRow base 34 2 v n us) : ∃ ao cap, v = .slice ao n cap := by
  rcases h.2 with ⟨rfl, rfl⟩ | ⟨g, cap, cur, rfl, _⟩
  · exact ⟨none, 0, rfl⟩
  · exact ⟨_, cap, rfl⟩
theorem Pr.form (h : Pr base w v gs) : ∃ ao cap, v = .slice ao gs.length cap := own_form2 h
theorem Pr.blk (h : Pr base w v gs) {q : Nat} (hq : Blk v q) : base ≤ q ∧ q < w.heap.size := World.ownsRow.lt h q hq
theorem Pr.ch (h : Pr base w v gs) (k : Ch S w w') (hs : ∀ g, Blk v g → ¬ S g) : Pr base w' v gs := by
  refine ⟨h.1, ?_⟩
  rcases h.2 with h2 | ⟨g, cap, cur, hv, hb, hg, r⟩
  · exact .inl h2
  · exact .inr ⟨g, cap, cur, hv, hb, (k.block g (lt_of_block hg) (hs g (by rw [hv]; rfl))).trans hg, r⟩
theorem Pr.alloc (h : Pr base w v gs) (o : Obj) : Pr base (w.alloc o) v gs := World.ownsRow.alloc h o
theorem Pr.get {ao : Option Addr} {n cap i : Nat} {g : Int × Int} (h : Pr base w (.slice ao n cap) gs) (hg : gs[i]? = some g) : ∃ b, ao = some ⟨b, 0, none⟩ ∧ base ≤ b ∧ b < w.heap.size ∧ w.cell? ⟨b, i * 2, none⟩ = some (.int .i64 g.1) ∧ w.cell? ⟨b, i * 2 + 1, none⟩ = some (.int .i64 g.2) := by
  have hi : i < gs.length := (List.getElem?_eq_some_iff.1 hg).1
  obtain ⟨r1, r2⟩ := rowP_get gs i g hg
  rcases h.2 with ⟨h1, h0⟩ | ⟨b, cap', cur, h1, hb, hblk, hc, hm, hs, ht⟩
  · omega
  · injection h1 with a1 a2 a3
    rw [← ht, List.getElem?_take_of_lt (by omega), Array.getElem?_toList] at r1 r2
    exact ⟨b, a1, hb, lt_of_block hblk, (cell_of hblk _).trans r1, (cell_of hblk _).trans r2⟩
end
theorem info_parts2 {t : Nat} {z : Value} {B : Nat} (h : (Try.prog.info? t).map (fun i => (i.zero, i.size, i.bytes)) = some (some z, 2, B)) : ∃ i, Try.prog.info? t = some i ∧ i.zero = some z ∧ i.size = 2 ∧ i.bytes = B := by
  cases hi : Try.prog.info? t with
  | none => rw [hi] at h; cases h
  | some i =>
    rw [hi] at h
    simp only [Option.map_some, Option.some.injEq, Prod.mk.injEq] at h
    exact ⟨i, rfl, h.1, h.2.1, h.2.2⟩
theorem gid_info : (Try.prog.info? 34).map (fun i => (i.zero, i.size, i.bytes)) = some (some (.agg #[.int .i64 0, .int .i64 0]), 2, 16) := by kernel_rfl
/-- a name is put behind a list of them -/
theorem wpList_append_pr {g : Int × Int} {w : World} {ops : Array Oper} {rest : List Oper} {o : Oper} {a : Act} {Q : Exit → Act → World → Prop} (hgd : o.guard = none) (s x : Operand)
    (ho : o.op = .call { callee := .builtin .append, args := #[s, x], argTypes := #[30, 30] })
    (base : Nat) (v : Value) (gs : List (Int × Int)) (hs : a.eval s = v) (hown : Pr base (w.alloc (.cells #[.int .i64 g.1, .int .i64 g.2] 34)) v gs) (k : Nat) (hk0 : k = w.heap.size) (hx : a.eval x = .slice (some ⟨k, 0, none⟩) 1 1)
    (n : Nat) (hn : n = gs.length + 1) (hb : n ≤ 8796093022208) (hbase : base ≤ w.heap.size)
    (h : ∀ ao cap w', Pr base w' (.slice ao n cap) (gs ++ [g]) → Ch (Blk v) (w.alloc (.cells #[.int .i64 g.1, .int .i64 g.2] 34)) w' → (∀ q, Blk (.slice ao n cap) q → Blk v q ∨ w.heap.size ≤ q) → wpList Try.prog ops Q rest (a.put o.dst (.slice ao n cap)) w') : wpList Try.prog ops Q (o :: rest) a (w.alloc (.cells #[.int .i64 g.1, .int .i64 g.2] 34)) := by
  obtain ⟨i0, hi, hz0, hz1, hz2⟩ := info_parts2 gid_info
  subst hk0 hn
  have hblk := (MapKept.heap_alloc w (.cells #[.int .i64 g.1, .int .i64 g.2] 34)).1
  refine wpList_append_own_at _ hgd s x _ ho base 34 i0 _ 2 16 Try.underlying30 hi hz0 hz1 hz2 rfl (by omega) v gs.length _ hs hown ⟨w.heap.size, 0, none⟩ 1 1 (rowP [g]) hx rfl ?_ ?_ (by unfold maxLen; omega) (by omega) (Nat.le_trans hbase (((Ch.refl NoB w).alloc _).size)) ?_
  · intro j u hu
    exact World.news_of_block hblk j u hu
  · intro u hu
    simp only [rowP, List.mem_cons, List.not_mem_nil, or_false] at hu
    rcases hu with rfl | rfl <;> rfl
  · intro v' w' h2 h3 _ h5
    obtain ⟨ao', cap', rfl⟩ := own_form2 h2
    refine h ao' cap' w' ?_ ((Ch.refl _ _).grown h3 (fun k hk => .inl hk)) ?_
    · show World.ownsRow _ _ _ _ _ _ _
      rw [List.length_append, rowP_append]
      exact h2
    · intro q hq
      rcases h5 with h5 | h5
      · exact .inl (h5.symm.trans hq)
      · right
        have e : some q = some (w.alloc (.cells #[.int .i64 g.1, .int .i64 g.2] 34)).heap.size := hq.symm.trans h5
        injection e with e
        have := ((Ch.refl NoB w).alloc (.cells #[.int .i64 g.1, .int .i64 g.2] 34)).size
        omega

/-- the name that a call is about -/
def nameP (gs : List (Int × Int)) (pick : Int) (g : Int × Int) : Int × Int := if 0 ≤ pick then (gs[pick.toNat]?).getD g else g
theorem nameP_in {gs : List (Int × Int)} {k : Nat} {g y : Int × Int} (h : gs[k]? = some y) : nameP gs (k : Int) g = y := by
  rw [nameP, if_pos (by omega)]
  simp [h]
theorem nameP_out {gs : List (Int × Int)} {p : Int} {g : Int × Int} (h : ¬ (0 ≤ p ∧ p < (gs.length : Int))) : nameP gs p g = g := by
  unfold nameP
  split
  · rw [List.getElem?_eq_none (by omega)]
    rfl
  · rfl

set_option maxHeartbeats 2000000 in
theorem name_any (base : Nat) (d p pk s gn : Int) (v : Value) (gs : List (Int × Int)) (w : World) (h : Pr base w v gs) :
    Calls Try.prog 25 #[.agg #[.int .i64 d, .int .i64 p, .int .i64 pk, .int .i64 s, .int .i64 gn], v] w fun e w' => e = .returned (.agg #[.int .i64 (nameP gs pk (s, gn)).1, .int .i64 (nameP gs pk (s, gn)).2]) ∧ Ch NoB w w' := by
  obtain ⟨ao, cap, rfl⟩ := h.form
  obtain ⟨n, hn⟩ : ∃ n, n = gs.length := ⟨_, rfl⟩
  rw [← hn] at h ⊢
  by_cases hp : 0 ≤ pk ∧ pk < (gs.length : Int)
  · obtain ⟨k, rfl⟩ : ∃ k : Nat, pk = (k : Int) := ⟨pk.toNat, by omega⟩
    have hk : k < gs.length := by omega
    obtain ⟨y, hy⟩ : ∃ y, gs[k]? = some y := ⟨_, List.getElem?_eq_getElem hk⟩
    obtain ⟨b, rfl, -, hb, e0, e1⟩ := h.get hy
    have HE := hid (nameP_in (g := (s, gn)) hy)
    have d1 : decide (0 ≤ (k : Int)) = true := decide_eq_true (by omega)
    have d2 : decide ((k : Int) < (n : Int)) = true := decide_eq_true (by omega)
    have d3 : (0 : Int) ≤ (k : Int) := by omega
    have d4 : (k : Int) < (n : Int) := by omega
    have q1 : b < w.heap.size + 1 := by omega
    clear h hy hp hn
    go_enter Try.func25, Try.ntmps25
    go_wp2
    exact bodyPost_ret (v := .agg #[.int .i64 y.1, .int .i64 y.2]) (by simp [results, Try.results25, go_sem]) rfl ⟨by rw [HE.out], ((Ch.refl _ _).alloc _).alloc _⟩
  · have HE := hid (nameP_out (g := (s, gn)) hp)
    by_cases h1 : 0 ≤ pk
    · have d1 : decide (0 ≤ pk) = true := decide_eq_true h1
      have d2 : decide (pk < (n : Int)) = false := decide_eq_false (by omega)
      have d4 : ¬ (pk < (n : Int)) := by omega
      clear h hp hn
      go_enter Try.func25, Try.ntmps25
      go_wp2
      exact bodyPost_ret (v := .agg #[.int .i64 s, .int .i64 gn]) (by simp [results, Try.results25, go_sem]) rfl ⟨by rw [HE.out], ((Ch.refl _ _).alloc _).alloc _⟩
    · have d1 : decide (0 ≤ pk) = false := decide_eq_false h1
      clear h hp hn
      go_enter Try.func25, Try.ntmps25
      go_wp2
      exact bodyPost_ret (v := .agg #[.int .i64 s, .int .i64 gn]) (by simp [results, Try.results25, go_sem]) rfl ⟨by rw [HE.out], ((Ch.refl _ _).alloc _).alloc _⟩
end Go.Proofs.Ytfbkifkfhgkdbab.Sb
