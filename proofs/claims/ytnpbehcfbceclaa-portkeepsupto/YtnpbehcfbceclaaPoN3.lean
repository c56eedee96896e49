/-
  A port that was made since and two lists of numbers beside it, apart; what the calls and append leave of them; what is got, can be got, waits and was lost is what was put. No conditions but that the port may be.
-/
import Derived.Test.YtnpbehcfbceclaaPoCall
import Derived.Test.YtnpbehcfbceclaaPoPortS
namespace Go.Proofs.Ytnpbehcfbceclaa.Lt
open Go.RowKit Wd

def N3 (w W : World) (p : Nat) (x : Pt) (vp : Value) (Pl : List Int) (vg : Value) (Gt : List Int) : Prop := Gr w W ∧ x.ok ∧ ∃ T, Pm T W p x ∧ (∀ g, T g → w.heap.size ≤ g) ∧ Ow eI 1 2 w.heap.size W vp Pl ∧ Ow eI 1 2 w.heap.size W vg Gt ∧ (∀ g, T g → ¬ Blk vp g ∧ ¬ Blk vg g) ∧ ∀ g, Blk vp g → ¬ Blk vg g
section
variable {w W W' : World} {p : Nat} {x x' : Pt} {vp vg v' : Value} {Pl Gt Pl' : List Int}
theorem N3.of (h : Nw w W p x) : N3 w W p x (.slice none 0 0) [] (.slice none 0 0) [] := by
  obtain ⟨g, k, T, h1, h2⟩ := h
  exact ⟨g, k, T, h1, h2, Ow.nil _ _ _ _ _, Ow.nil _ _ _ _ _, fun _ _ => ⟨nofun, nofun⟩, nofun⟩
theorem ow_none {w : World} {b g : Nat} (h : w.heap[g]? = some (.cells #[] 2 (0, 0))) (hb : b ≤ g) : Ow eI 1 2 b w (.slice (some ⟨g, 0, none⟩) 0 0) [] :=
  ⟨rfl, .inr ⟨g, 0, #[], rfl, hb, h, Nat.le_refl _, by unfold maxLen; omega, rfl, rfl⟩⟩
/-- with two lists that are empty -/
theorem N3.start (h : Nw w W p x) : N3 w ((W.alloc (.cells #[] 2)).alloc (.cells #[] 2)) p x (.slice (some ⟨W.heap.size, 0, none⟩) 0 0) [] (.slice (some ⟨W.heap.size + 1, 0, none⟩) 0 0) [] := by
  obtain ⟨g, k, T, h1, h2⟩ := h
  have gg : Gr W ((W.alloc (.cells #[] 2)).alloc (.cells #[] 2)) := Ch.alloc (Ch.alloc (Gr.refl W) _) _
  have hs := g.size
  have n1 : ∀ q m, Blk (.slice (some ⟨m, 0, none⟩) 0 0) q → q = m := fun q m e => by
    have e1 : some m = some q := e
    injection e1 with e1
    exact e1.symm
  refine ⟨Gr.trans g gg, k, T, h1.gr gg, h2, ow_none (al_blk (al_at _ rfl) _) hs, ow_none (al_at _ (by simp)) (by omega), fun q e => ⟨fun e' => ?_, fun e' => ?_⟩, fun q e e' => ?_⟩
  · have := n1 q _ e'
    have := h1.1 q e
    omega
  · have := n1 q _ e'
    have := h1.1 q e
    omega
  · have := n1 q _ e
    have := n1 q _ e'
    omega
theorem N3.gr (h : N3 w W p x vp Pl vg Gt) (g : Gr W W') : N3 w W' p x vp Pl vg Gt := by
  obtain ⟨c, k, T, h1, h2, h3, h4, h5⟩ := h
  exact ⟨Gr.trans c g, k, T, h1.gr g, h2, h3.gr g, h4.gr g, h5⟩
theorem N3.symm (h : N3 w W p x vp Pl vg Gt) : N3 w W p x vg Gt vp Pl := by
  obtain ⟨c, k, T, h1, h2, h3, h4, h5, h6⟩ := h
  exact ⟨c, k, T, h1, h2, h4, h3, fun g e => ⟨(h5 g e).2, (h5 g e).1⟩, fun g e e' => h6 g e' e⟩
/-- one more in the first list -/
theorem N3.app (h : N3 w W p x vp Pl vg Gt) (c : Ch (Blk vp) W W') (o : Ow eI 1 2 w.heap.size W' v' Pl') (b : ∀ q, Blk v' q → Blk vp q ∨ W.heap.size ≤ q) : N3 w W' p x v' Pl' vg Gt := by
  obtain ⟨g, k, T, h1, h2, h3, h4, h5, h6⟩ := h
  refine ⟨Ch.trans g c (fun q e => .inr (h3.blk e).1), k, T, h1.ch c (fun q e => (h5 q e).1), h2, o, h4.ch c (fun q e e' => h6 q e' e), fun q e => ⟨fun e' => ?_, (h5 q e).2⟩, fun q e e' => ?_⟩
  · rcases b q e' with e'' | e''
    · exact (h5 q e).1 e''
    · have := h1.1 q e
      omega
  · rcases b q e with e'' | e''
    · exact h6 q e'' e'
    · have := (h4.blk e').2
      omega
theorem N3.pl {T : Nat → Prop} (g : Gr w W) (h1 : Pm T W p x) (h2 : ∀ g, T g → w.heap.size ≤ g) (h3 : Ow eI 1 2 w.heap.size W vp Pl) (h4 : Ow eI 1 2 w.heap.size W vg Gt) (h5 : ∀ g, T g → ¬ Blk vp g ∧ ¬ Blk vg g) (h6 : ∀ g, Blk vp g → ¬ Blk vg g) (hp : PL T W W' p x') (hok : x'.ok) : N3 w W' p x' vp Pl vg Gt := by
  have _ := h1
  obtain ⟨c, T', k1, k2⟩ := hp
  refine ⟨Ch.trans g c (fun r e => .inr (h2 r e)), hok, T', k1, fun r e => (k2 r e).elim (h2 r) (fun e => Nat.le_trans g.size e), h3.ch c (fun q e e' => (h5 q e').1 e), h4.ch c (fun q e e' => (h5 q e').2 e), fun q e => ?_, h6⟩
  rcases k2 q e with e | e
  · exact h5 q e
  · exact ⟨fun e' => by have := (h3.blk e').2; omega, fun e' => by have := (h4.blk e').2; omega⟩
theorem n3_fst (h : N3 w W p x vp Pl vg Gt) : Ow eI 1 2 w.heap.size W vp Pl := by
  obtain ⟨_, _, _, _, _, h3, _⟩ := h
  exact h3
theorem kput (v : Int) (h : N3 w W p x vp Pl vg Gt) : Calls Try.prog 19 #[.pointer (some ⟨p, 0, none⟩), .int .i64 v] W fun e W' => e = .returned (.bool (putP x v).2) ∧ N3 w W' p (putP x v).1 vp Pl vg Gt := by
  obtain ⟨g, k, T, h1, h2, h3, h4, h5, h6⟩ := h
  refine (put_any v h1 k).mono ?_
  rintro e W' ⟨k1, k2⟩
  exact ⟨k1, N3.pl g h1 h2 h3 h4 h5 h6 k2 (k.put v)⟩
theorem kget (h : N3 w W p x vp Pl vg Gt) : Calls Try.prog 20 #[.pointer (some ⟨p, 0, none⟩)] W fun e W' => e = .returned (.tuple #[.int .i64 (firstG x.inn).1, .int .i64 (firstG x.inn).2]) ∧ N3 w W' p (getP x) vp Pl vg Gt := by
  obtain ⟨g, k, T, h1, h2, h3, h4, h5, h6⟩ := h
  refine (get_any h1 k).mono ?_
  rintro e W' ⟨k1, k2⟩
  exact ⟨k1, N3.pl g h1 h2 h3 h4 h5 h6 k2 k.get⟩
theorem kdeliver (h : N3 w W p x vp Pl vg Gt) : Calls Try.prog 21 #[.pointer (some ⟨p, 0, none⟩)] W fun e W' => e = .returned (.tuple #[]) ∧ N3 w W' p (dlvP x) vp Pl vg Gt := by
  obtain ⟨g, k, T, h1, h2, h3, h4, h5, h6⟩ := h
  refine (deliver_any h1 k).mono ?_
  rintro e W' ⟨k1, k2⟩
  exact ⟨k1, N3.pl g h1 h2 h3 h4 h5 h6 k2 k.dlv⟩
theorem kstate (h : N3 w W p x vp Pl vg Gt) : Calls Try.prog 14 #[.pointer (some ⟨p, 0, none⟩)] W fun e W' => ∃ v1 v2, e = .returned (.agg #[.bool x.q, .int .i64 (x.cap : Nat), v1, v2, .int .i64 (x.lost : Nat)]) ∧ Ow eI 1 2 W.heap.size W' v1 x.out ∧ Ow eG 2 59 W.heap.size W' v2 x.inn ∧ Gr W W' := by
  obtain ⟨g, k, T, h1, _⟩ := h
  exact state_any h1 k
end
/-- a queueing port: what was got, can be got, waits and was lost is what was put -/
structure KI (x : Pt) (Pl Gt : List Int) : Prop where
  q : x.q = true
  s : (Gt ++ x.inn.map (·.v) ++ x.out).Sublist Pl
  n : Gt.length + x.inn.length + x.out.length + x.lost = Pl.length
/-- a sampling port: what waits, and what can be got -/
structure SI (x : Pt) (l : Int) (h : Bool) (nw : Int) (sm : Bool) : Prop where
  q : x.q = false
  o : if h = true then x.out = [l] else x.out = []
  i : if sm = true then ∃ a, 0 ≤ a ∧ x.inn = [⟨nw, a⟩] else x.inn = []
section
variable {x : Pt} {Pl Gt : List Int}
theorem KI.new (c : Nat) : KI (newP true c) [] [] := ⟨rfl, List.Sublist.refl _, rfl⟩
theorem KI.put (h : KI x Pl Gt) (v : Int) : if (putP x v).2 = true then KI (putP x v).1 (Pl ++ [v]) Gt else KI (putP x v).1 Pl Gt := by
  have hs := h.s
  have hn := h.n
  unfold putP
  rw [if_pos h.q]
  by_cases hf : x.out.length = x.cap
  · rw [if_pos hf, if_neg Bool.false_ne_true]
    exact h
  · rw [if_neg hf, if_pos rfl]
    refine ⟨h.q, ?_, ?_⟩
    · show (Gt ++ x.inn.map (·.v) ++ (x.out ++ [v])).Sublist (Pl ++ [v])
      rw [← List.append_assoc]
      exact hs.append (List.Sublist.refl _)
    · show Gt.length + x.inn.length + (x.out ++ [v]).length + x.lost = (Pl ++ [v]).length
      simp
      omega
theorem KI.get0 (h : KI x Pl Gt) (hi : x.inn = []) : KI (getP x) Pl Gt := by
  unfold getP
  rw [if_pos h.q]
  refine ⟨h.q, ?_, ?_⟩
  · have := h.s
    rw [hi] at this
    show (Gt ++ x.inn.tail.map (·.v) ++ x.out).Sublist Pl
    rw [hi]
    exact this
  · have := h.n
    rw [hi] at this
    show Gt.length + x.inn.tail.length + x.out.length + x.lost = Pl.length
    rw [hi]
    exact this
theorem KI.get1 (h : KI x Pl Gt) {g : Ag} {r : List Ag} (hi : x.inn = g :: r) : KI (getP x) Pl (Gt ++ [g.v]) := by
  unfold getP
  rw [if_pos h.q]
  refine ⟨h.q, ?_, ?_⟩
  · have := h.s
    rw [hi] at this
    show (Gt ++ [g.v] ++ x.inn.tail.map (·.v) ++ x.out).Sublist Pl
    rw [hi]
    simpa using this
  · have := h.n
    rw [hi] at this
    show (Gt ++ [g.v]).length + x.inn.tail.length + x.out.length + x.lost = Pl.length
    rw [hi]
    simp at this ⊢
    omega
theorem older_v (g : Ag) : (older g).v = g.v := by
  unfold older
  split <;> rfl
theorem KI.dlv (h : KI x Pl Gt) (hl : Pl.length ≤ 2147483647) : KI (dlvP x) Pl Gt := by
  have hs := h.s
  have hn := h.n
  unfold dlvP
  rw [if_pos h.q]
  have hc : comeN x ≤ x.out.length := Nat.min_le_left _ _
  refine ⟨h.q, ?_, ?_⟩
  · show (Gt ++ (x.inn.map older ++ (x.out.take (comeN x)).map fresh).map (fun g : Ag => g.v) ++ []).Sublist Pl
    have e1 : (x.inn.map older).map (fun g : Ag => g.v) = x.inn.map (fun g : Ag => g.v) := by
      rw [List.map_map]
      exact List.map_congr_left (fun g _ => older_v g)
    have e2 : ((x.out.take (comeN x)).map fresh).map (fun g : Ag => g.v) = x.out.take (comeN x) := by
      rw [List.map_map]
      exact (List.map_congr_left (fun g _ => rfl)).trans (List.map_id _)
    rw [List.map_append, e1, e2, List.append_nil, ← List.append_assoc]
    exact ((List.Sublist.refl _).append (List.take_sublist _ _)).trans hs
  · show Gt.length + (x.inn.map older ++ (x.out.take (comeN x)).map fresh).length + 0 + (x.lost + min (x.out.length - comeN x) (2147483647 - x.lost)) = Pl.length
    simp
    omega
end
section
variable {x : Pt} {l nw : Int} {h sm : Bool}
theorem SI.new : SI (newP false 1) 0 false 0 false := ⟨rfl, rfl, rfl⟩
theorem SI.shp (c : Int) : SI (shp false c) 0 false 0 false := by
  unfold Lt.shp
  rw [if_pos (.inr rfl)]
  exact SI.new
theorem SI.put (s : SI x l h nw sm) (v : Int) : (putP x v).2 = true ∧ SI (putP x v).1 v true nw sm := by
  have hq : ¬ x.q = true := by rw [s.q]; exact Bool.false_ne_true
  unfold putP
  rw [if_neg hq]
  exact ⟨rfl, s.q, rfl, s.i⟩
theorem SI.get (s : SI x l h nw sm) : SI (getP x) l h nw sm := by
  have hq : ¬ x.q = true := by rw [s.q]; exact Bool.false_ne_true
  unfold getP
  rw [if_neg hq]
  exact s
theorem SI.dlv1 (s : SI x l true nw sm) : SI (dlvP x) l false l true := by
  have hq : ¬ x.q = true := by rw [s.q]; exact Bool.false_ne_true
  have ho : x.out = [l] := s.o
  unfold dlvP
  rw [if_neg hq]
  refine ⟨s.q, rfl, ⟨0, by omega, ?_⟩⟩
  show (match x.out with | [] => x.inn.map older | v :: _ => [fresh v]) = _
  rw [ho]
  rfl
theorem SI.dlv0 (s : SI x l false nw sm) : SI (dlvP x) l false nw sm := by
  have hq : ¬ x.q = true := by rw [s.q]; exact Bool.false_ne_true
  have ho : x.out = [] := s.o
  have hi := s.i
  unfold dlvP
  rw [if_neg hq]
  refine ⟨s.q, rfl, ?_⟩
  cases sm
  · have hi' : x.inn = [] := hi
    show (match x.out with | [] => x.inn.map older | v :: _ => [fresh v]) = []
    rw [ho, hi']
    rfl
  · obtain ⟨a, ha, hi'⟩ := hi
    refine ⟨(older ⟨nw, a⟩).a, ?_, ?_⟩
    · unfold older
      split
      · show 0 ≤ a + 1
        omega
      · exact ha
    · show (match x.out with | [] => x.inn.map older | v :: _ => [fresh v]) = _
      rw [ho, hi']
      have e := older_v ⟨nw, a⟩
      show [older ⟨nw, a⟩] = [⟨nw, (older ⟨nw, a⟩).a⟩]
      generalize older ⟨nw, a⟩ = z at e ⊢
      obtain ⟨z1, z2⟩ := z
      have e' : z1 = nw := e
      rw [e']
end
/-- a list's rest is in another's rest -/
theorem sub_skip {a : Int} {G P : List Int} {i k : Nat} {b : Int} (h : (G.drop i).Sublist (P.drop k)) (hg : G[i]? = some a) (hp : P[k]? = some b) (hn : b ≠ a) : (G.drop i).Sublist (P.drop (k + 1)) := by
  have h1 := List.getElem?_eq_some_iff.1 hg
  have h2 := List.getElem?_eq_some_iff.1 hp
  obtain ⟨l1, e1⟩ := h1
  obtain ⟨l2, e2⟩ := h2
  rw [List.drop_eq_getElem_cons l1, List.drop_eq_getElem_cons l2, e1, e2] at h
  rw [List.drop_eq_getElem_cons l1, e1]
  cases h with
  | cons _ h => exact h
  | cons_cons _ h => exact (hn rfl).elim
theorem sub_step {a : Int} {G P : List Int} {i k : Nat} (h : (G.drop i).Sublist (P.drop k)) (hg : G[i]? = some a) (hp : P[k]? = some a) : (G.drop (i + 1)).Sublist (P.drop (k + 1)) := by
  obtain ⟨l1, e1⟩ := List.getElem?_eq_some_iff.1 hg
  obtain ⟨l2, e2⟩ := List.getElem?_eq_some_iff.1 hp
  rw [List.drop_eq_getElem_cons l1, List.drop_eq_getElem_cons l2, e1, e2] at h
  exact List.cons_sublist_cons.1 h
theorem sub_lt {G P : List Int} {i k : Nat} (h : (G.drop i).Sublist (P.drop k)) (hi : i < G.length) : k < P.length := by
  have := h.length_le
  simp at this
  omega
end Go.Proofs.Ytnpbehcfbceclaa.Lt
