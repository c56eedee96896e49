/-
  A port that was made since, and two that are apart; what the calls leave of them; the program's port delivers. No conditions but that ports may be.
-/
import Derived.Test.YtnpbehcfbceclaaPoPort
namespace Go.Proofs.Ytnpbehcfbceclaa.Lt
open Go.RowKit Wd
attribute [local go_sem ↓] Go.wp_at_zero Go.wp_at_succ
set_option maxRecDepth 20000

section
variable {S T : Nat → Prop} {w W W' : World} {p q : Nat} {x y x' : Pt}
theorem Pm.mono (h : Pm T W p x) (hs : ∀ g, T g → S g) (hl : ∀ g, S g → g < W.heap.size) : Pm S W p x := by
  obtain ⟨_, h2, k, vo, vi, h3, h4⟩ := h
  exact ⟨hl, hs _ h2, k, vo, vi, h3, h4.mono hs⟩
theorem Made.lower (g : Gr w W) (h : Made W p x W') : Made w p x W' :=
  ⟨h.1.mono (fun _ e => ⟨Nat.le_trans g.size e.1, e.2⟩) (fun _ e => e.2), Gr.trans g h.2⟩
/-- a port that may be, made since w -/
def Nw (w W : World) (p : Nat) (x : Pt) : Prop := Gr w W ∧ x.ok ∧ ∃ T, Pm T W p x ∧ ∀ g, T g → w.heap.size ≤ g
theorem Made.nw (h : Made w p x W) (hok : x.ok) : Nw w W p x := ⟨h.2, hok, _, h.1, fun _ e => e.1⟩
theorem Nw.pl (g : Gr w W) (h2 : ∀ g, T g → w.heap.size ≤ g) (hp : PL T W W' p x') (hok : x'.ok) : Nw w W' p x' := by
  obtain ⟨c, T', h3, h4⟩ := hp
  exact ⟨Ch.trans g c (fun q e => .inr (h2 q e)), hok, T', h3, fun q e => (h4 q e).elim (h2 q) (fun e => Nat.le_trans g.size e)⟩
theorem Nw.gr (h : Nw w W p x) (g : Gr W W') : Nw w W' p x := by
  obtain ⟨c, k, T, h1, h2⟩ := h
  exact ⟨Gr.trans c g, k, T, h1.gr g, h2⟩
/-- two ports that may be, made since w, apart -/
def N2 (w W : World) (p : Nat) (x : Pt) (q : Nat) (y : Pt) : Prop := Gr w W ∧ x.ok ∧ y.ok ∧ ∃ T U, Pm T W p x ∧ Pm U W q y ∧ (∀ g, T g → w.heap.size ≤ g) ∧ (∀ g, U g → w.heap.size ≤ g) ∧ ∀ g, T g → ¬ U g
theorem N2.of (h : Nw w W p x) (k : Made W q y W') (hok : y.ok) : N2 w W' p x q y := by
  obtain ⟨g, hx, T, h1, h2⟩ := h
  exact ⟨Gr.trans g k.2, hx, hok, T, _, h1.gr k.2, k.1, h2, fun _ e => Nat.le_trans g.size e.1, fun r e e' => by have := h1.1 r e; have := e'.1; omega⟩
theorem N2.gr (h : N2 w W p x q y) (g : Gr W W') : N2 w W' p x q y := by
  obtain ⟨c, a, b, T, U, h1, h2, h3⟩ := h
  exact ⟨Gr.trans c g, a, b, T, U, h1.gr g, h2.gr g, h3⟩
theorem N2.symm (h : N2 w W p x q y) : N2 w W q y p x := by
  obtain ⟨c, a, b, T, U, h1, h2, h3, h4, h5⟩ := h
  exact ⟨c, b, a, U, T, h2, h1, h4, h3, fun g e e' => h5 g e' e⟩
theorem N2.pl {U : Nat → Prop} (g : Gr w W) (b : y.ok) (h1 : Pm T W p x) (h2 : Pm U W q y) (h3 : ∀ g, T g → w.heap.size ≤ g) (h4 : ∀ g, U g → w.heap.size ≤ g) (h5 : ∀ g, T g → ¬ U g) (hp : PL T W W' p x') (hok : x'.ok) : N2 w W' p x' q y := by
  have _ := h1
  obtain ⟨c, T', k1, k2⟩ := hp
  refine ⟨Ch.trans g c (fun r e => .inr (h3 r e)), hok, b, T', U, k1, h2.ch c (fun r e e' => h5 r e' e), fun r e => (k2 r e).elim (h3 r) (fun e => Nat.le_trans g.size e), h4, fun r e e' => ?_⟩
  rcases k2 r e with e | e
  · exact h5 r e e'
  · have := h2.1 r e'
    omega
end
section
variable {w W : World} {p q : Nat} {x y : Pt}
theorem nput (v : Int) (h : Nw w W p x) : Calls Try.prog 19 #[.pointer (some ⟨p, 0, none⟩), .int .i64 v] W fun e W' => e = .returned (.bool (putP x v).2) ∧ Nw w W' p (putP x v).1 := by
  obtain ⟨g, k, T, h1, h2⟩ := h
  refine (put_any v h1 k).mono ?_
  rintro e W' ⟨h3, h4⟩
  exact ⟨h3, Nw.pl g h2 h4 (k.put v)⟩
theorem tput (v : Int) (h : N2 w W p x q y) : Calls Try.prog 19 #[.pointer (some ⟨p, 0, none⟩), .int .i64 v] W fun e W' => e = .returned (.bool (putP x v).2) ∧ N2 w W' p (putP x v).1 q y := by
  obtain ⟨g, k, b, T, U, h1, h2, h3, h4, h5⟩ := h
  refine (put_any v h1 k).mono ?_
  rintro e W' ⟨k1, k2⟩
  exact ⟨k1, N2.pl g b h1 h2 h3 h4 h5 k2 (k.put v)⟩
theorem nget (h : Nw w W p x) : Calls Try.prog 20 #[.pointer (some ⟨p, 0, none⟩)] W fun e W' => e = .returned (.tuple #[.int .i64 (firstG x.inn).1, .int .i64 (firstG x.inn).2]) ∧ Nw w W' p (getP x) := by
  obtain ⟨g, k, T, h1, h2⟩ := h
  refine (get_any h1 k).mono ?_
  rintro e W' ⟨h3, h4⟩
  exact ⟨h3, Nw.pl g h2 h4 k.get⟩
theorem tget (h : N2 w W p x q y) : Calls Try.prog 20 #[.pointer (some ⟨p, 0, none⟩)] W fun e W' => e = .returned (.tuple #[.int .i64 (firstG x.inn).1, .int .i64 (firstG x.inn).2]) ∧ N2 w W' p (getP x) q y := by
  obtain ⟨g, k, b, T, U, h1, h2, h3, h4, h5⟩ := h
  refine (get_any h1 k).mono ?_
  rintro e W' ⟨k1, k2⟩
  exact ⟨k1, N2.pl g b h1 h2 h3 h4 h5 k2 k.get⟩
theorem ndeliver (h : Nw w W p x) : Calls Try.prog 21 #[.pointer (some ⟨p, 0, none⟩)] W fun e W' => e = .returned (.tuple #[]) ∧ Nw w W' p (dlvP x) := by
  obtain ⟨g, k, T, h1, h2⟩ := h
  refine (deliver_any h1 k).mono ?_
  rintro e W' ⟨h3, h4⟩
  exact ⟨h3, Nw.pl g h2 h4 k.dlv⟩
theorem tdeliver (h : N2 w W p x q y) : Calls Try.prog 21 #[.pointer (some ⟨p, 0, none⟩)] W fun e W' => e = .returned (.tuple #[]) ∧ N2 w W' p (dlvP x) q y := by
  obtain ⟨g, k, b, T, U, h1, h2, h3, h4, h5⟩ := h
  refine (deliver_any h1 k).mono ?_
  rintro e W' ⟨k1, k2⟩
  exact ⟨k1, N2.pl g b h1 h2 h3 h4 h5 k2 k.dlv⟩
end
theorem lives_any (w : World) : Calls Try.prog 11 #[] w fun e w' => e = .returned (.bool true) ∧ Gr w w' := by
  have HN := hid (fun W => new_good true 2 W (by decide))
  have hok : (newP true 2).ok := .new (by omega) (by omega) (fun e => by cases e)
  have HP := hid (fun (W : World) p (h : Nw w W p (newP true 2)) => nput 6 h)
  have HD := hid (fun (W : World) p (h : Nw w W p (putP (newP true 2) 6).1) => ndeliver h)
  have HT := hid (fun (W : World) p (h : Nw w W p (dlvP (putP (newP true 2) 6).1)) => nget h)
  rw [show (putP (newP true 2) 6).2 = true by decide] at HP
  rw [show firstG (dlvP (putP (newP true 2) 6).1).inn = (6, 0) by rfl] at HT
  have HOK := hid hok
  clear hok
  go_enter Try.func11, Try.ntmps11
  go_wp2_with (first
    | (go_at_call 9; refine (HN.out _).mono ?_; rintro e w1 ⟨p1, rfl, m1⟩; have N1 := hid (m1.nw HOK.out); clear m1)
    | (go_at_call 20; refine (HT.out _ _ N3.out).mono ?_; rintro e w4 ⟨rfl, m4⟩; have N4 := hid m4; clear m4)
    | (go_at_call 21; refine (HD.out _ _ N2.out).mono ?_; rintro e w3 ⟨rfl, m3⟩; have N3 := hid m3; clear m3)
    | (go_at_call 19; refine (HP.out _ _ N1.out).mono ?_; rintro e w2 ⟨rfl, m2⟩; have N2 := hid m2; clear m2))
  go_ret
  exact ⟨rfl, N4.out.1⟩
/-- what made makes of a shape -/
def shp (q : Bool) (c : Int) : Pt := newP q (if c < 1 ∨ q = false then 1 else if 1024 < c then 1024 else c.toNat)
theorem shp_ok (q : Bool) (c : Int) : (shp q c).ok := by
  unfold shp
  split
  · exact .new (by omega) (by omega) (fun _ => rfl)
  · rename_i h
    split
    · exact .new (by omega) (by omega) (fun e => (h (.inr e)).elim)
    · exact .new (by omega) (by omega) (fun e => (h (.inr e)).elim)
theorem made_any (q : Bool) (c : Int) (w : World) : Calls Try.prog 18 #[.agg #[.bool q, .int .i64 c]] w fun e w' => ∃ p, e = .returned (.pointer (some ⟨p, 0, none⟩)) ∧ Made w p (shp q c) w' := by
  obtain ⟨n, hn⟩ : ∃ n, n = (if c < 1 ∨ q = false then 1 else if 1024 < c then 1024 else c.toNat) := ⟨_, rfl⟩
  have hs : shp q c = newP q n := by rw [hn]; rfl
  have hc : capB q (n : Int) = true := by
    rw [hn]
    unfold capB
    cases q
    · rw [if_neg Bool.false_ne_true, if_pos (.inr rfl)]; decide
    · rw [if_pos rfl]
      by_cases h1 : c < 1
      · rw [if_pos (.inl h1)]; decide
      · rw [if_neg (fun e => e.elim h1 (fun e => by cases e))]
        by_cases h2 : 1024 < c
        · rw [if_pos h2]; decide
        · rw [if_neg h2, Bool.and_eq_true]
          exact ⟨decide_eq_true (by omega), decide_eq_true (by omega)⟩
  rw [hs]
  have HN := hid (fun W => new_good q n W hc)
  clear hs hc
  have go : ∀ (W : World), Gr w W → Calls Try.prog 9 #[.bool q, .int .i64 (n : Int)] W fun e w' => ∃ p, e = .returned (.tuple #[.pointer (some ⟨p, 0, none⟩), .int .i64 0]) ∧ Made w p (newP q n) w' := fun W g => (HN.out W).mono (by
    rintro e w' ⟨p, h1, h2⟩
    exact ⟨p, h1, h2.lower g⟩)
  have HG := hid go
  clear go
  cases q
  · rw [if_pos (.inr rfl)] at hn
    subst hn
    by_cases h1 : c < 1
    · go_enter Try.func18, Try.ntmps18
      go_wp2_with (go_at_call 9; refine (HG.out _ (Ch.alloc (Gr.refl w) _)).mono ?_; rintro e w1 ⟨p1, rfl, m1⟩; have M1 := hid m1; clear m1)
      all_goals
        go_ret
        exact ⟨p1, rfl, M1.out⟩
    · go_enter Try.func18, Try.ntmps18
      go_wp2_with (go_at_call 9; refine (HG.out _ (Ch.alloc (Gr.refl w) _)).mono ?_; rintro e w1 ⟨p1, rfl, m1⟩; have M1 := hid m1; clear m1)
      all_goals
        go_ret
        exact ⟨p1, rfl, M1.out⟩
  · by_cases h1 : c < 1
    · rw [if_pos (.inl h1)] at hn
      subst hn
      go_enter Try.func18, Try.ntmps18
      go_wp2_with (go_at_call 9; refine (HG.out _ (Ch.alloc (Gr.refl w) _)).mono ?_; rintro e w1 ⟨p1, rfl, m1⟩; have M1 := hid m1; clear m1)
      all_goals
        go_ret
        exact ⟨p1, rfl, M1.out⟩
    · rw [if_neg (fun e => e.elim h1 (fun e => by cases e))] at hn
      by_cases h2 : 1024 < c
      · rw [if_pos h2] at hn
        subst hn
        go_enter Try.func18, Try.ntmps18
        go_wp2_with (go_at_call 9; refine (HG.out _ (Ch.alloc (Gr.refl w) _)).mono ?_; rintro e w1 ⟨p1, rfl, m1⟩; have M1 := hid m1; clear m1)
        all_goals
          go_ret
          exact ⟨p1, rfl, M1.out⟩
      · rw [if_neg h2] at hn
        obtain rfl : c = (n : Int) := by omega
        clear hn
        go_enter Try.func18, Try.ntmps18
        go_wp2_with (go_at_call 9; refine (HG.out _ (Ch.alloc (Gr.refl w) _)).mono ?_; rintro e w1 ⟨p1, rfl, m1⟩; have M1 := hid m1; clear m1)
        all_goals
          go_ret
          exact ⟨p1, rfl, M1.out⟩
end Go.Proofs.Ytnpbehcfbceclaa.Lt
