/-
  What told of the statements of layer 11 answers: true, where the program's channels are the document's. Conditions: the channels are good.
  What does of the statements of layer 11 answers and leaves, act by act. Conditions: the channels are good, goroutines' numbers are ints.
  What does of the statements of layer 11 answers and leaves at Close, and at any act. Conditions: the channels are good, goroutines' numbers are ints.
-/
import Derived.Test.YtalmiphddgmfbabCnMf
import Derived.Test.YtalmiphddgmfbabCnGoes
import Derived.Test.YtalmiphddgmfbabCpStm
import Derived.Test.YtalmiphddgmfbabCpLives
import Derived.Deep.Cut
import Derived.Test.YtalmiphddgmfbabCnMoved
import Derived.Test.YtalmiphddgmfbabGnGrd
namespace Go.Proofs.Ytalmiphddgmfbab.Lt
open Go.RowKit Wd
attribute [local go_sem ↓] Go.wp_at_zero Go.wp_at_succ

def lnF (cs : List Cn) (ch : Int) : Int × Int := match cAt cs ch with | some (_, c) => ((c.vs.length : Nat), 0) | none => (0, if ch = 0 then 0 else 4)
def cpF (cs : List Cn) (ch : Int) : Int × Int := match cAt cs ch with | some (_, c) => (c.cap, 0) | none => (0, if ch = 0 then 0 else 4)
def gsF (cs : List Cn) (ch : Int) (sd : Bool) : Bool × Int := match cAt cs ch with | some (_, c) => (goes c sd, 0) | none => (false, if ch = 0 then 0 else 4)
theorem tC_no {n : Nat} {ch : Int} (h : ¬ (1 ≤ ch ∧ ch ≤ (n : Int))) : tC n ch = if ch = 0 then 0 else 4 := by
  unfold tC
  by_cases e : ch = 0
  · rw [if_pos (.inl e), if_pos e]
  · rw [if_neg (fun q => q.elim e h), if_neg e]
section
variable {t : Nat → Tg} {w : World} {b : Nat} {cs : List Cn} {P : Nat → Prop} {v : Value}
theorem len_any (h : Cs t w b cs) (hn : cs.length ≤ 1024) (ch : Int) : Calls Try.prog 25 #[.pointer (some ⟨b, 0, none⟩), .int .i64 ch] w fun e w' => e = .returned (.tuple #[.int .i64 (lnF cs ch).1, .int .i64 (lnF cs ch).2]) ∧ w' = w := by
  unfold lnF
  rcases cAt_cases cs ch with ⟨i, c, rfl, hc, e⟩ | ⟨hq, e⟩ <;> rw [e]
  · exact len_yes h hc hn
  · exact len_no h ch hq
theorem goes_any (h : Cs t w b cs) (hn : cs.length ≤ 1024) (ch : Int) (sd : Bool) : Calls Try.prog 9 #[.pointer (some ⟨b, 0, none⟩), .int .i64 ch, .bool sd] w fun e w' => e = .returned (.tuple #[.bool (gsF cs ch sd).1, .int .i64 (gsF cs ch sd).2]) ∧ Gr w w' := by
  unfold gsF
  rcases cAt_cases cs ch with ⟨i, c, rfl, hc, e⟩ | ⟨hq, e⟩ <;> rw [e]
  · exact goes_yes h hc hn sd
  · exact goes_no h ch sd hq
theorem rgoes_any (h : Rds P w v cs) (hn : cs.length ≤ 1024) (ch : Int) (sd : Bool) : Calls Try.prog 39 #[v, .int .i64 ch, .bool sd] w fun e w' => e = .returned (.tuple #[.bool (gsF cs ch sd).1, .int .i64 (gsF cs ch sd).2]) ∧ Gr w w' := by
  obtain ⟨ao, cap, rfl⟩ := h.form
  unfold gsF
  rcases cAt_cases cs ch with ⟨i, c, rfl, hc, e⟩ | ⟨hq, e⟩ <;> rw [e]
  · exact rgoes_yes P ao _ cap cs i c sd w h hc (by omega)
  · rw [← tC_no hq]
    exact (rgoes_no ao _ cap ch sd w hq).mono (fun e w' q => ⟨q.1, by rw [q.2]; exact Gr.refl _⟩)
end
/-- an act -/
structure Ac where
  k : Int
  ch : Int
  s : Int
  g : Int
  v : Int
  c : Int
  sd : Bool
def eA (a : Ac) : List Value := [.int .i64 a.k, .int .i64 a.ch, .int .i64 a.s, .int .i64 a.g, .int .i64 a.v, .int .i64 a.c, .bool a.sd]
theorem eA_len (a : Ac) : (eA a).length = 7 := rfl
abbrev Ac.row (a : Ac) : Array Value := #[.int .i64 a.k, .int .i64 a.ch, .int .i64 a.s, .int .i64 a.g, .int .i64 a.v, .int .i64 a.c, .bool a.sd]
end Go.Proofs.Ytalmiphddgmfbab.Lt

namespace Go.Proofs.Ytalmiphddgmfbab.Lt
open Go.RowKit Wd
attribute [local go_sem ↓] Go.wp_at_zero Go.wp_at_succ

/-- a guarded load of a struct -/
theorem ld_rowM {P : Program} {ops : Array Oper} {rest : List Oper} {o : Oper} {a : Act} {w : World} {Q : Exit → Act → World → Prop} (hgd : Region.wanted o (yielded ops a.tmps) = true) (ty : TypeId) (x : Operand) (ho : o.op = .load ty x)
    (g : Nat) (hx : a.eval x = .pointer (some ⟨g, 0, none⟩)) (t : TypeId) (cs : Array Value) (fr : Nat × Nat) (d : TypeDesc) (hg : w.heap[g]? = some (.cells cs t fr))
    (hu : P.underlying ty = some d) (hd : (match d with | .struct _ | .array _ _ => true | _ => false) = true) (hi : (P.info? ty).map (·.size) = some cs.size)
    (h : wpList P ops Q rest (a.put o.dst (.agg cs)) w) : wpList P ops Q (o :: rest) a w :=
  wpList_step fun K hK => by
    rw [if_pos hgd]
    exact wp_load_row ty x ho g hx t cs fr d hg hu hd hi (hK _ _ h)
/-- what does answers and leaves -/
def DoR (R : Nat → Prop) (t : Nat → Tg) (w : World) (b : Nat) (cs : List Cn) (e : Ending) (w' : World) : Prop := ∃ l, e = .returned (.tuple #[l, .bool true]) ∧ ∃ t', Cs t' w' b cs ∧ Rds (fun q => (R q ∨ w.heap.size ≤ q) ∧ t' q = .no) w' l cs ∧ Tn t t' w w'
theorem snd_ks (cs : List Cn) (ch s g v : Int) : (sndF cs ch s g v).ks.length ≤ 1 := by
  unfold sndF
  split
  · exact Nat.zero_le _
  · rcases cAt_cases cs ch with ⟨i, c, rfl, hc, e⟩ | ⟨_, e⟩ <;> rw [e]
    · dsimp only
      unfold sndI
      split
      · exact Nat.zero_le _
      · split
        · exact Nat.le_refl _
        · split <;> exact Nat.zero_le _
    · exact Nat.zero_le _
theorem rcv_ks (cs : List Cn) (ch s g : Int) : (rcvF cs ch s g).ks.length ≤ 1 := by
  unfold rcvF
  split
  · exact Nat.zero_le _
  · rcases cAt_cases cs ch with ⟨i, c, rfl, hc, e⟩ | ⟨_, e⟩ <;> rw [e]
    · dsimp only
      unfold rcvI
      split
      · split <;> exact Nat.le_refl _
      · split
        · exact Nat.zero_le _
        · split <;> exact Nat.zero_le _
    · exact Nat.zero_le _
/-- Make: the channels, the handle and the trap -/
def mkF (cs : List Cn) (x : Int) : List Cn := if 0 ≤ x ∧ x ≤ 1024 ∧ cs.length < 1024 then cs ++ [⟨x, [], [], [], false⟩] else cs
def mkN (cs : List Cn) (x : Int) : Int := if 0 ≤ x ∧ x ≤ 1024 ∧ cs.length < 1024 then ((cs.length + 1 : Nat) : Int) else 0
def mkT (cs : List Cn) (x : Int) : Int := if 0 ≤ x ∧ x ≤ 1024 ∧ cs.length < 1024 then 0 else 5
def RmO (P : Nat → Prop) (w : World) (cs : List Cn) (x y : Int) (e : Ending) (w' : World) : Prop := ∃ v, e = .returned (.tuple #[v, .int .i64 x, .int .i64 y]) ∧ Rds (fun q => P q ∨ w.heap.size ≤ q) w' v cs ∧ Gr w w'
def PmO (t : Nat → Tg) (w : World) (b : Nat) (cs : List Cn) (x y : Int) (e : Ending) (w' : World) : Prop := e = .returned (.tuple #[.int .i64 x, .int .i64 y]) ∧ ∃ t', Cs t' w' b cs ∧ Tn t t' w w'
theorem make_any {t : Nat → Tg} {w : World} {b : Nat} {cs : List Cn} (h : Cs t w b cs) (x : Int) : Calls Try.prog 13 #[.pointer (some ⟨b, 0, none⟩), .int .i64 x] w (PmO t w b (mkF cs x) (mkN cs x) (mkT cs x)) := by
  unfold mkF mkN mkT
  by_cases hm : 0 ≤ x ∧ x ≤ 1024 ∧ cs.length < 1024
  · rw [if_pos hm, if_pos hm, if_pos hm]
    exact make_yes h x hm
  · rw [if_neg hm, if_neg hm, if_neg hm]
    refine (make_no h x hm).mono ?_
    rintro e w' ⟨h1, h2⟩
    subst h2
    exact ⟨h1, t, h, Tn.refl _ _⟩
def RlO (P : Nat → Prop) (w : World) (cs : List Cn) (x : Int) (e : Ending) (w' : World) : Prop := ∃ v, e = .returned (.tuple #[v, .int .i64 x]) ∧ Rds (fun q => P q ∨ w.heap.size ≤ q) w' v cs ∧ Gr w w'
theorem rleaveO (P : Nat → Prop) (w : World) (l : Value) (cs : List Cn) (s g : Int) (h : Rds P w l cs) (hb : Bd cs) (hn : cs.length ≤ 1024) : Calls Try.prog 56 #[l, .agg #[.int .i64 s, .int .i64 g]] w (RlO P w (lvs cs s g) ((pls cs s g : Nat) : Int)) := by
  refine (rleave_any P w l cs s g h hb hn).mono ?_
  rintro e w' ⟨v, h1, h2, h3⟩
  exact ⟨v, h1, h2.rds.mono (fun _ _ p => .inr p), h3⟩
/-- Wait: the channels -/
def wtF (cs : List Cn) (ch s g c v : Int) (sd : Bool) : List Cn := match cAt cs ch with
  | none => cs
  | some (i, d) => if sd = true then cs.set i ⟨d.cap, d.vs, d.ss ++ [⟨s, g, c, v⟩], d.rs, d.cl⟩ else cs.set i ⟨d.cap, d.vs, d.ss, d.rs ++ [⟨s, g, c, 0⟩], d.cl⟩
def wtT (cs : List Cn) (ch : Int) : Int := match cAt cs ch with | none => if ch = 0 then 0 else 4 | some _ => 0
theorem rwait_no (w : World) (ao : Option Addr) (n cap : Nat) (ch s g c v : Int) (sd : Bool) (h : ¬ (1 ≤ ch ∧ ch ≤ (n : Int))) : Calls Try.prog 42 #[.slice ao n cap, .int .i64 ch, .agg #[.int .i64 s, .int .i64 g, .int .i64 c, .int .i64 v], .bool sd] w fun e w' => e = .returned (.tuple #[.slice ao n cap, .int .i64 (tC n ch)]) ∧ Gr w w' := by
  have HI := hid ris_any
  have HT := hid rtrap_any
  have hd : decide (1 ≤ ch ∧ ch ≤ (n : Int)) = false := decide_eq_false h
  have G1 := hid (show Gr w (w.alloc (.cells #[.int .i64 s, .int .i64 g, .int .i64 c, .int .i64 v] 95)) from Ch.alloc (Gr.refl w) _)
  clear h
  go_enter Try.func42, Try.ntmps42
  go_wp2_with (first
    | (go_at_call 57; refine (HI.out _ _ _ _ _).mono ?_; rw [hd]; rintro e w9 ⟨rfl, hw⟩; have hw := hw.symm; subst hw)
    | (go_at_call 58; refine (HT.out _ _ _ _ _).mono ?_; rintro e w9 ⟨rfl, hw⟩; have hw := hw.symm; subst hw))
  exact bodyPost_ret (results_tmp2 rfl _ _ _) rfl ⟨rfl, G1.out⟩
theorem wait_not {t : Nat → Tg} {w : World} {b : Nat} {cs : List Cn} (h : Cs t w b cs) (ch s g c v : Int) (sd : Bool) (hc : ¬ (1 ≤ ch ∧ ch ≤ (cs.length : Int))) : Calls Try.prog 52 #[.pointer (some ⟨b, 0, none⟩), .int .i64 ch, .agg #[.int .i64 s, .int .i64 g, .int .i64 c, .int .i64 v], .bool sd] w fun e w' => e = .returned (.int .i64 (if ch = 0 then 0 else 4)) ∧ Gr w w' := by
  have G1 := hid (show Gr w (w.alloc (.cells #[.int .i64 s, .int .i64 g, .int .i64 c, .int .i64 v] 95)) from Ch.alloc (Gr.refl w) _)
  have HF := hid (find_not (h.gr G1.out) ch hc)
  generalize (if ch = 0 then (0 : Int) else 4) = tr at HF ⊢
  clear h hc
  go_enter Try.func52, Try.ntmps52
  go_wp2_with (go_at_call 26; refine HF.out.mono ?_; rintro e w2 ⟨rfl, hw⟩; obtain rfl := hw.symm; clear hw)
  go_ret
  exact ⟨rfl, G1.out⟩
def RwO (P : Nat → Prop) (w : World) (cs : List Cn) (x : Int) (e : Ending) (w' : World) : Prop := ∃ v, e = .returned (.tuple #[v, .int .i64 x]) ∧ Rds (fun q => P q ∨ w.heap.size ≤ q) w' v cs ∧ Gr w w'
def PwO (t : Nat → Tg) (w : World) (b : Nat) (cs : List Cn) (x : Int) (e : Ending) (w' : World) : Prop := e = .returned (.int .i64 x) ∧ ∃ t', Cs t' w' b cs ∧ Tn t t' w w'
theorem rwait_any (P : Nat → Prop) (w : World) (l : Value) (cs : List Cn) (N : Nat) (ch s g c v : Int) (sd : Bool) (h : Rds P w l cs) (hG : Gd N cs) (hN : N < 4398046511104) : Calls Try.prog 42 #[l, .int .i64 ch, .agg #[.int .i64 s, .int .i64 g, .int .i64 c, .int .i64 v], .bool sd] w (RwO P w (wtF cs ch s g c v sd) (wtT cs ch)) := by
  obtain ⟨ao, cap, rfl⟩ := h.form
  unfold wtF wtT
  rcases cAt_cases cs ch with ⟨i, d, rfl, hc, e⟩ | ⟨hn, e⟩ <;> rw [e]
  · have mem := List.mem_of_getElem? hc
    have hw := hG.wl_le mem
    dsimp only
    cases sd with
    | true =>
      rw [if_pos rfl]
      refine (rwait_send P w ao _ cap cs i d s g c v h (hG.bd (by omega)) rfl hc (by omega)).mono ?_
      rintro e w' ⟨v', h1, h2, h3⟩
      exact ⟨v', h1, h2.rds.mono (fun _ _ p => .inr p), h3⟩
    | false =>
      rw [if_neg (by simp)]
      refine (rwait_recv P w ao _ cap cs i d s g c v h (hG.bd (by omega)) rfl hc (by omega)).mono ?_
      rintro e w' ⟨v', h1, h2, h3⟩
      exact ⟨v', h1, h2.rds.mono (fun _ _ p => .inr p), h3⟩
  · dsimp only
    rw [← tC_no hn]
    refine (rwait_no w ao _ cap ch s g c v sd hn).mono ?_
    rintro e w' ⟨h1, h2⟩
    exact ⟨_, h1, (h.gr h2).mono (fun _ _ p => .inl p), h2⟩
theorem wait_any {t : Nat → Tg} {w : World} {b N : Nat} {cs : List Cn} (h : Cs t w b cs) (hG : Gd N cs) (hN : N < 4398046511104) (ch s g c v : Int) (sd : Bool) (hk : Gok s g) : Calls Try.prog 52 #[.pointer (some ⟨b, 0, none⟩), .int .i64 ch, .agg #[.int .i64 s, .int .i64 g, .int .i64 c, .int .i64 v], .bool sd] w (PwO t w b (wtF cs ch s g c v sd) (wtT cs ch)) := by
  unfold wtF wtT
  rcases cAt_cases cs ch with ⟨i, d, rfl, hc, e⟩ | ⟨hn, e⟩ <;> rw [e]
  · have mem := List.mem_of_getElem? hc
    have hw := hG.wl_le mem
    dsimp only
    cases sd with
    | true =>
      rw [if_pos rfl]
      exact wait_send h hk hc hG.n (by omega) (hG.pls (by omega) _ _)
    | false =>
      rw [if_neg (by simp)]
      exact wait_recv h hk hc hG.n (by omega) (hG.pls (by omega) _ _)
  · dsimp only
    refine (wait_not h ch s g c v sd hn).mono ?_
    rintro e w' ⟨h1, h2⟩
    exact ⟨h1, t, h.gr h2, Tn.gr h2⟩
end Go.Proofs.Ytalmiphddgmfbab.Lt

namespace Go.Proofs.Ytalmiphddgmfbab.Lt
open Go.RowKit Wd
attribute [local go_sem ↓] Go.wp_at_zero Go.wp_at_succ

theorem cls_ks {N : Nat} {cs : List Cn} (h : Gd N cs) (ch : Int) : (clsF cs ch).ks.length ≤ N := by
  unfold clsF
  rcases cAt_cases cs ch with ⟨i, c, rfl, hc, e⟩ | ⟨_, e⟩ <;> rw [e]
  · dsimp only
    split
    · exact Nat.zero_le _
    · have h1 := h.wl_le (List.mem_of_getElem? hc)
      have h2 := wkF_len c.rs (sh2 cs i c)
      have h3 := wkF_len c.ss (lvl (cw1 cs i c) (sh2 cs i c))
      show (cwK cs i c).length ≤ N
      unfold cwK cw2
      unfold cw1 at h3 ⊢
      rw [List.length_append, List.length_map, List.length_map]
      omega
  · exact Nat.zero_le _
/-- the channels behind an act -/
def actF (cs : List Cn) (a : Ac) : List Cn :=
  if a.k = 0 then mkF cs a.v else if a.k = 1 then (sndF cs a.ch a.s a.g a.v).cs else if a.k = 2 then (rcvF cs a.ch a.s a.g).cs else if a.k = 3 then (clsF cs a.ch).cs else
  if a.k = 4 then (if fitB cs a.ch a.s a.g a.c a.v a.sd = true then wtF cs a.ch a.s a.g a.c a.v a.sd else cs) else if a.k = 5 then lvs cs a.s a.g else cs
theorem Gd.act {N : Nat} {cs : List Cn} (h : Gd N cs) (a : Ac) (hk : Gok a.s a.g) : Gd (N + 1) (actF cs a) := by
  unfold actF
  split
  · unfold mkF
    split
    · rename_i h1
      refine ⟨by rw [List.length_append]; simp; omega, ?_, ?_, ?_, ?_⟩
      · intro c hc
        rcases List.mem_append.1 hc with q | q
        · exact h.cap c q
        · rw [List.mem_singleton] at q; subst q; exact ⟨h1.1, h1.2.1⟩
      · intro c hc
        rcases List.mem_append.1 hc with q | q
        · exact h.v c q
        · rw [List.mem_singleton] at q; subst q; exact h1.1
      · have := h.w
        unfold tot at *
        rw [List.map_append, List.sum_append]
        simp [wl]
        omega
      · intro c hc x hx
        rcases List.mem_append.1 hc with q | q
        · exact h.g c q x hx
        · rw [List.mem_singleton] at q; subst q; simp at hx
    · exact h.up (by omega)
  · split
    · exact h.snd _ _ _ _ hk
    · split
      · exact h.rcv _ _ _ hk
      · split
        · exact (h.cls _).up (by omega)
        · split
          · split
            · unfold wtF
              rcases cAt_cases cs a.ch with ⟨i, d, e1, hc, e⟩ | ⟨_, e⟩ <;> rw [e]
              · have mem := List.mem_of_getElem? hc
                dsimp only
                split
                · refine h.set hc (h.cap d mem) (h.v d mem) (by unfold wl; dsimp only; rw [List.length_append, List.length_singleton]; omega) ?_
                  intro x hx
                  dsimp only at hx
                  rcases hx with hx | hx
                  · rcases List.mem_append.1 hx with hx | hx
                    · exact h.g d mem x (.inl hx)
                    · rw [List.mem_singleton] at hx; subst hx; exact hk
                  · exact h.g d mem x (.inr hx)
                · refine h.set hc (h.cap d mem) (h.v d mem) (by unfold wl; dsimp only; rw [List.length_append, List.length_singleton]; omega) ?_
                  intro x hx
                  dsimp only at hx
                  rcases hx with hx | hx
                  · exact h.g d mem x (.inl hx)
                  · rcases List.mem_append.1 hx with hx | hx
                    · exact h.g d mem x (.inr hx)
                    · rw [List.mem_singleton] at hx; subst hx; exact hk
              · exact h.up (by omega)
            · exact h.up (by omega)
          · split
            · exact (h.lvs _ _).up (by omega)
            · exact h.up (by omega)
end Go.Proofs.Ytalmiphddgmfbab.Lt
