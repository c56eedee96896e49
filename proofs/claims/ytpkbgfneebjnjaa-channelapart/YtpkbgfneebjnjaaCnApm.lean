/-
  ChannelApart walked: it answers true. Conditions: the scripts are not too long, goroutines' numbers are ints.
  ChannelApart walked: it answers true. Conditions: the scripts are not too long, goroutines' numbers are ints.
-/
import Derived.Test.YtpkbgfneebjnjaaCnMe
import Derived.Deep.Cut
namespace Go.Proofs.Ytpkbgfneebjnjaa.Lt
open Go.RowKit Wd
attribute [local go_sem ↓] Go.wp_at_zero Go.wp_at_succ

/-- the channels behind acts -/
def runG (cs : List Cn) (l : List Ac) : List Cn := l.foldl actF cs
theorem runG_snoc (cs : List Cn) (l : List Ac) (a : Ac) : runG cs (l ++ [a]) = actF (runG cs l) a := by unfold runG; rw [List.foldl_append]; rfl
theorem ge_nil : Gd 0 [] := ⟨Nat.zero_le _, fun c hc => (by cases hc), fun c hc => (by cases hc), Nat.le_refl _, fun c hc => (by cases hc)⟩
theorem ge_run {N : Nat} {cs : List Cn} (h : Gd N cs) : ∀ l : List Ac, (∀ a ∈ l, Gok a.s a.g) → Gd (N + l.length) (runG cs l) := by
  intro l
  induction l generalizing N cs with
  | nil => intro _; exact h
  | cons a r ih =>
    intro hk
    have := ih (h.act a (hk a List.mem_cons_self)) (fun b hb => hk b (List.mem_cons_of_mem _ hb))
    refine (show Gd (N + (a :: r).length) (runG (actF cs a) r) from ?_)
    rw [List.length_cons, show N + (r.length + 1) = N + 1 + r.length by omega]
    exact this
theorem take_end {α : Type} {l : List α} {j : Nat} (h : ¬ j < l.length) : l.take (j + 1) = l.take j := by rw [List.take_of_length_le (by omega), List.take_of_length_le (by omega)]
theorem rdg_empty (w : World) (T : TypeId) (P : Nat → Prop) : Rds P (w.alloc (.cells #[] T)) (.slice (some ⟨w.heap.size, 0, none⟩) 0 0) [] :=
  ⟨[], ⟨_, _, rfl, ⟨Nat.le_refl _, fun e => (by cases e)⟩, .inl rfl⟩, rfl, fun i x c hx => (by simp at hx)⟩
/-- two Chans apart, with their lists -/
structure Tw (w : World) (b d : Nat) (t u : Nat → Tg) (l m : Value) (cs ds : List Cn) (W : World) : Prop where
  c : Cs t W b cs
  e : Cs u W d ds
  l : Rds (fun q => t q = .no ∧ u q = .no) W l cs
  m : Rds (fun q => t q = .no ∧ u q = .no) W m ds
  o : ∀ q, t q = .no ∨ u q = .no
  z : ∀ q, q < w.heap.size → t q = .no ∧ u q = .no
  g : Gr w W
theorem Tw.swap {w W : World} {b d : Nat} {t u : Nat → Tg} {l m : Value} {cs ds : List Cn} (h : Tw w b d t u l m cs ds W) : Tw w d b u t m l ds cs W :=
  ⟨h.e, h.c, h.m.mono (fun _ _ p => ⟨p.2, p.1⟩), h.l.mono (fun _ _ p => ⟨p.2, p.1⟩), fun q => (h.o q).symm, fun q hq => ⟨(h.z q hq).2, (h.z q hq).1⟩, h.g⟩
/-- one of them acts -/
theorem Tw.act {w W W' : World} {b d : Nat} {t u : Nat → Tg} {l m l' : Value} {cs ds cs' : List Cn} {t' : Nat → Tg} (h : Tw w b d t u l m cs ds W) (c' : Cs t' W' b cs') (r' : Rds (fun q => ((t q = .no ∧ u q = .no) ∨ W.heap.size ≤ q) ∧ t' q = .no) W' l' cs') (n : Tn t t' W W') : Tw w b d t' u l' m cs' ds W' := by
  have hu : ∀ q, W.heap.size ≤ q → u q = .no := cs_hi h.e
  refine ⟨c', h.e.ch n.c (fun q hq => (h.o q).elim (fun e => (hq e).elim) id), r'.mono (fun q _ p => ⟨p.2, p.1.elim (fun x => x.2) (fun x => hu q x)⟩), ?_, fun q => ?_, fun q hq => ⟨n.o q (Nat.lt_of_lt_of_le hq h.g.size) (h.z q hq).1, (h.z q hq).2⟩, (Tn.base (fun q hq => (h.z q hq).1) h.g n).1⟩
  · refine ((h.m.mono (Q := fun q => (t q = .no ∧ u q = .no) ∧ q < W.heap.size) (fun q hq p => ⟨p, hq⟩)).ch n.c (fun q _ p hs => hs p.1.1)).mono (fun q _ p => ⟨n.o q p.2 p.1.1, p.1.2⟩)
  · by_cases hq : q < W.heap.size
    · rcases h.o q with e | e
      · exact .inl (n.o q hq e)
      · exact .inr e
    · exact .inr (hu q (by omega))
theorem Tw.gr {w W W' : World} {b d : Nat} {t u : Nat → Tg} {l m : Value} {cs ds : List Cn} (h : Tw w b d t u l m cs ds W) (g : Gr W W') : Tw w b d t u l m cs ds W' := ⟨h.c.gr g, h.e.gr g, h.l.gr g, h.m.gr g, h.o, h.z, Gr.trans h.g g⟩
end Go.Proofs.Ytpkbgfneebjnjaa.Lt

namespace Go.Proofs.Ytpkbgfneebjnjaa.Lt
open Go.RowKit Wd
attribute [local go_sem ↓] Go.wp_at_zero Go.wp_at_succ

set_option maxRecDepth 20000 in
set_option maxHeartbeats 8000000 in
theorem apart_walk (P Q : Nat → Prop) (w : World) (ao bo : Option Addr) (n m ca cb : Nat) (one two : List Ac) (h1 : Ls eA P w (.slice ao n ca) one) (h2 : Ls eA Q w (.slice bo m cb) two) (k1 : ∀ a ∈ one, Gok a.s a.g) (k2 : ∀ a ∈ two, Gok a.s a.g) (hn : n ≤ 2513169434843) (hm : m ≤ 2513169434843) :
    Calls Try.prog 8 #[.slice ao n ca, .slice bo m cb] w fun e w' => e = .returned (.bool true) ∧ Gr w w' := by
  have L1 := hid h1
  have L2 := hid h2
  have L1L := hid h1.len.1
  have L2L := hid h2.len.1
  have HK1 := hid k1
  have HK2 := hid k2
  have HNW := hid new_any
  have HLV := hid lives_any
  clear h1 h2 k1 k2
  go_enter Try.func8, Try.ntmps8
  go_wp2_with (first
    | (go_at_call 9; refine (HNW.out _).mono ?_; rintro e w2 ⟨d, u2, rfl, c2, g2, z2⟩; have C2 := hid c2; have D1 := hid (C1.out.gr g2); have G2 := hid (Gr.trans G1.out g2); have Z2 := hid z2; clear c2 g2 z2)
    | (go_at_call 9; refine (HNW.out _).mono ?_; rintro e w1 ⟨b, t1, rfl, c1, g1, z1⟩; have C1 := hid c1; have G1 := hid g1; have Z1 := hid z1; clear c1 g1 z1)
    | (go_at_call 10; refine (HLV.out _).mono ?_; rintro e w3 ⟨rfl, g3⟩; have G23 := hid g3; clear g3))
  have GE := hid (show Gr w3 ((w3.alloc (.cells #[] 64)).alloc (.cells #[] 64)) from Ch.alloc (Ch.alloc (Gr.refl _) _) _)
  have RE1 := hid ((rdg_empty w3 64 (fun q => t1 q = .no ∧ u2 q = .no)).gr (show Gr _ ((w3.alloc (.cells #[] 64)).alloc (.cells #[] 64)) from Ch.alloc (Gr.refl _) _))
  have RE2 := hid (show Rds (fun q => t1 q = .no ∧ u2 q = .no) ((w3.alloc (.cells #[] 64)).alloc (.cells #[] 64)) (.slice (some ⟨w3.heap.size + 1, 0, none⟩) 0 0) [] from by have := rdg_empty (w3.alloc (.cells #[] 64)) 64 (fun q => t1 q = .no ∧ u2 q = .no); simpa using this)
  have GG := hid (Gr.trans G23.out GE.out)
  have T0 := hid (show Tw w b d t1 u2 (.slice (some ⟨w3.heap.size, 0, none⟩) 0 0) (.slice (some ⟨w3.heap.size + 1, 0, none⟩) 0 0) [] [] _ from ⟨D1.out.gr GG.out, C2.out.gr GG.out, RE1.out, RE2.out, fun q => by
    by_cases hq : q < w1.heap.size
    · exact .inr (Z2.out q hq)
    · exact .inl (cs_hi C1.out q (by omega)), fun q hq => ⟨Z1.out q hq, Z2.out q (Nat.lt_of_lt_of_le hq G1.out.size)⟩, Gr.trans G2.out GG.out⟩)
  go_loopg [7, 8, 10] (max n m) (fun q v7 v8 v10 wr => ∃ (j : Nat) (t u : Nat → Tg), j + q = max n m ∧ v10 = .int .i64 (j : Int) ∧ Tw w b d t u v7 v8 (runG [] (one.take j)) (runG [] (two.take j)) wr)
  case atStart => exact ⟨0, t1, u2, by omega, rfl, T0.out⟩
  case round =>
    obtain ⟨j, t, u, hjq, rfl, hT⟩ := hrel
    have TJ := hid hT
    clear hT T0 RE1 RE2 GE GG
    have HG1 := hid (show Gd (max n m) (runG [] (one.take j)) from by
      have := ge_run ge_nil (one.take j) (fun a ha => HK1.out a (List.mem_of_mem_take ha))
      rw [List.length_take] at this
      exact this.up (by omega))
    have HG2 := hid (show Gd (max n m) (runG [] (two.take j)) from by
      have := ge_run ge_nil (two.take j) (fun a ha => HK2.out a (List.mem_of_mem_take ha))
      rw [List.length_take] at this
      exact this.up (by omega))
    have hmx : max n m ≤ 2513169434843 := by omega
    have j0 : (0 : Int) ≤ (j : Int) := by omega
    by_cases h1 : j < n
    · have i1 : (j : Int) < (n : Int) := by omega
      by_cases h2 : j < m
      · have i2 : (j : Int) < (m : Int) := by omega
        obtain ⟨⟨ka, cha, sa, ga, va, ca, sda⟩, hxa⟩ : ∃ x, one[j]? = some x := ⟨_, List.getElem?_eq_getElem (by rw [← L1L.out]; exact h1)⟩
        obtain ⟨gga, ooa, capa, hva, _, hgla, _, hcsa⟩ := (L1.out.gr TJ.out.g).get eA_len hxa
        injection hva with hv1 hv2 hv3
        subst hv1
        clear hv2 hv3
        have pa0 := hcsa 0 _ rfl
        have pa1 := hcsa 1 _ rfl
        have pa2 := hcsa 2 _ rfl
        have pa3 := hcsa 3 _ rfl
        have pa4 := hcsa 4 _ rfl
        have pa5 := hcsa 5 _ rfl
        have pa6 := hcsa 6 _ rfl
        simp only [Nat.add_zero] at pa0
        have HD1 := hid (does_any TJ.out.c TJ.out.l (fun q p => p.1) HG1.out (by omega) ⟨ka, cha, sa, ga, va, ca, sda⟩ (HK1.out _ (List.mem_of_getElem? hxa)))
        dsimp only [Ac.row] at HD1
        rw [← runG_snoc, ← take_one hxa] at HD1
        clear hcsa hxa hgla
        go_upto_region 13 with (go_at_call 11; refine HD1.out.mono ?_; rintro e w3 ⟨l3, rfl, t3, c3, r3, n3⟩; have T3 := hid (TJ.out.act c3 r3 n3); clear c3 r3 n3)
        clear pa0 pa1 pa2 pa3 pa4 pa5 pa6
        obtain ⟨⟨kb, chb, sb, gb, vb, cb, sdb⟩, hxb⟩ : ∃ x, two[j]? = some x := ⟨_, List.getElem?_eq_getElem (by rw [← L2L.out]; exact h2)⟩
        obtain ⟨ggb, oob, capb, hvb, _, hglb, _, hcsb⟩ := (L2.out.gr T3.out.g).get eA_len hxb
        injection hvb with hv1 hv2 hv3
        subst hv1
        clear hv2 hv3
        have pb0 := hcsb 0 _ rfl
        have pb1 := hcsb 1 _ rfl
        have pb2 := hcsb 2 _ rfl
        have pb3 := hcsb 3 _ rfl
        have pb4 := hcsb 4 _ rfl
        have pb5 := hcsb 5 _ rfl
        have pb6 := hcsb 6 _ rfl
        simp only [Nat.add_zero] at pb0
        have HD2 := hid (does_any T3.out.e T3.out.m (fun q p => p.2) HG2.out (by omega) ⟨kb, chb, sb, gb, vb, cb, sdb⟩ (HK2.out _ (List.mem_of_getElem? hxb)))
        dsimp only [Ac.row] at HD2
        rw [← runG_snoc, ← take_one hxb] at HD2
        clear hcsb hxb hglb
        go_wp2_with (go_at_call 11; refine HD2.out.mono ?_; rintro e w4 ⟨l4, rfl, u4, c4, r4, n4⟩; have T4 := hid ((T3.out.swap.act c4 (r4.mono (fun q _ p => ⟨p.1.imp (fun x => ⟨x.2, x.1⟩) id, p.2⟩)) n4).swap); clear c4 r4 n4)
        go_roundg (gk - 1)
        case measure => omega
        case rel =>
          refine ⟨j + 1, t3, u4, ?_, ?_, T4.out⟩
          · omega
          · first | with_reducible rfl | simp
      · have i2 : ¬ (j : Int) < (m : Int) := by omega
        obtain ⟨⟨ka, cha, sa, ga, va, ca, sda⟩, hxa⟩ : ∃ x, one[j]? = some x := ⟨_, List.getElem?_eq_getElem (by rw [← L1L.out]; exact h1)⟩
        obtain ⟨gga, ooa, capa, hva, _, hgla, _, hcsa⟩ := (L1.out.gr TJ.out.g).get eA_len hxa
        injection hva with hv1 hv2 hv3
        subst hv1
        clear hv2 hv3
        have pa0 := hcsa 0 _ rfl
        have pa1 := hcsa 1 _ rfl
        have pa2 := hcsa 2 _ rfl
        have pa3 := hcsa 3 _ rfl
        have pa4 := hcsa 4 _ rfl
        have pa5 := hcsa 5 _ rfl
        have pa6 := hcsa 6 _ rfl
        simp only [Nat.add_zero] at pa0
        have HD1 := hid (does_any TJ.out.c TJ.out.l (fun q p => p.1) HG1.out (by omega) ⟨ka, cha, sa, ga, va, ca, sda⟩ (HK1.out _ (List.mem_of_getElem? hxa)))
        dsimp only [Ac.row] at HD1
        rw [← runG_snoc, ← take_one hxa] at HD1
        clear hcsa hxa hgla
        go_wp2_with (go_at_call 11; refine HD1.out.mono ?_; rintro e w3 ⟨l3, rfl, t3, c3, r3, n3⟩; have T3 := hid (TJ.out.act c3 r3 n3); clear c3 r3 n3)
        go_roundg (gk - 1)
        case measure => omega
        case rel =>
          refine ⟨j + 1, t3, u, ?_, ?_, by rw [take_end (l := two) (by rw [← L2L.out]; exact h2)]; exact T3.out⟩
          · omega
          · first | with_reducible rfl | simp
    · have i1 : ¬ (j : Int) < (n : Int) := by omega
      by_cases h2 : j < m
      · have i2 : (j : Int) < (m : Int) := by omega
        obtain ⟨⟨kb, chb, sb, gb, vb, cb, sdb⟩, hxb⟩ : ∃ x, two[j]? = some x := ⟨_, List.getElem?_eq_getElem (by rw [← L2L.out]; exact h2)⟩
        obtain ⟨ggb, oob, capb, hvb, _, hglb, _, hcsb⟩ := (L2.out.gr TJ.out.g).get eA_len hxb
        injection hvb with hv1 hv2 hv3
        subst hv1
        clear hv2 hv3
        have pb0 := hcsb 0 _ rfl
        have pb1 := hcsb 1 _ rfl
        have pb2 := hcsb 2 _ rfl
        have pb3 := hcsb 3 _ rfl
        have pb4 := hcsb 4 _ rfl
        have pb5 := hcsb 5 _ rfl
        have pb6 := hcsb 6 _ rfl
        simp only [Nat.add_zero] at pb0
        have HD2 := hid (does_any TJ.out.e TJ.out.m (fun q p => p.2) HG2.out (by omega) ⟨kb, chb, sb, gb, vb, cb, sdb⟩ (HK2.out _ (List.mem_of_getElem? hxb)))
        dsimp only [Ac.row] at HD2
        rw [← runG_snoc, ← take_one hxb] at HD2
        clear hcsb hxb hglb
        go_wp2_with (go_at_call 11; refine HD2.out.mono ?_; rintro e w4 ⟨l4, rfl, u4, c4, r4, n4⟩; have T4 := hid ((TJ.out.swap.act c4 (r4.mono (fun q _ p => ⟨p.1.imp (fun x => ⟨x.2, x.1⟩) id, p.2⟩)) n4).swap); clear c4 r4 n4)
        go_roundg (gk - 1)
        case measure => omega
        case rel =>
          refine ⟨j + 1, t, u4, ?_, ?_, by rw [take_end (l := one) (by rw [← L1L.out]; exact h1)]; exact T4.out⟩
          · omega
          · first | with_reducible rfl | simp
      · have i2 : ¬ (j : Int) < (m : Int) := by omega
        have HT1 := hid (fun (W : World) (p : Gr wr W) => told_any (TJ.out.c.gr p) (TJ.out.l.gr p) HG1.out (by omega) ⟨0, 1, 0, 0, 0, 0, false⟩ (by unfold Gok; dsimp only; omega))
        have HT2 := hid (fun (W : World) (p : Gr wr W) => told_any (TJ.out.e.gr p) (TJ.out.m.gr p) HG2.out (by omega) ⟨0, 1, 0, 0, 0, 0, false⟩ (by unfold Gok; dsimp only; omega))
        dsimp only [Ac.row] at HT1 HT2
        go_wp2_with (first
          | (go_at_call 12; refine (HT2.out _ G3.out).mono ?_; rintro e w4 ⟨rfl, g4⟩; have G4 := hid (Gr.trans G3.out g4); clear g4)
          | (go_at_call 12; refine (HT1.out _ (Gr.refl _)).mono ?_; rintro e w3 ⟨rfl, g3⟩; have G3 := hid g3; clear g3))
        go_ret
        exact ⟨rfl, Gr.trans TJ.out.g G4.out⟩
theorem apart_any (P : Nat → Prop) (v0 : Value) (one : List Ac) (Q : Nat → Prop) (v1 : Value) (two : List Ac) (w : World) (h1 : Ls eA P w v0 one) (b1 : one.length * 56 ≤ 140737488351232) (k1 : ∀ a ∈ one, Gok a.s a.g) (h2 : Ls eA Q w v1 two) (b2 : two.length * 56 ≤ 140737488351232) (k2 : ∀ a ∈ two, Gok a.s a.g) :
    Calls Try.prog 8 #[v0, v1] w fun e w' => e = .returned (.bool true) ∧ Gr w w' := by
  obtain ⟨a0, c0, rfl⟩ := h1.form
  obtain ⟨a1, c1, rfl⟩ := h2.form
  exact apart_walk P Q w a0 a1 one.length two.length c0 c1 one two h1 h2 k1 k2 (by omega) (by omega)
end Go.Proofs.Ytpkbgfneebjnjaa.Lt
