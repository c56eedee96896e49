/-
  A channel is shut: what is left of the channels in memory, and whom a close wakes. No conditions.
  What the program's Close of layer 11 answers and leaves. Conditions: goroutines' numbers are ints, lists are not too long.
-/
import Derived.Test.YtalmiphddgmfbabCpWlm
import Derived.Deep.Cut
import Derived.Deep.QuietTactic
import Derived.BigQuiet
namespace Go.Proofs.Ytalmiphddgmfbab.Lt
open Go.RowKit Wd

/-- a channel's mark 'closed' is another -/
theorem NL.setc {t : Nat → Tg} {base : Nat} {w : World} {v : Value} {xs : List Rw} {cs : List Cn} {i : Nat} {x : Rw} {c : Cn} (h : NL t base w v xs cs) (hx : xs[i]? = some x) (hc : cs[i]? = some c) (bb : Bool) :
    ∃ g ca, v = .slice (some ⟨g, 0, none⟩) xs.length ca ∧ g < w.heap.size ∧ t g = .out ∧ w.cell? ⟨g, i * 5 + 4, none⟩ = some (.bool x.cl) ∧ w.frozen? ⟨g, i * 5 + 4, none⟩ = false ∧ NL t base (w.setCell ⟨g, i * 5 + 4, none⟩ (.bool bb)) v (xs.set i ⟨x.cap, x.v, x.s, x.r, bb⟩) (cs.set i ⟨c.cap, c.vs, c.ss, c.rs, bb⟩) := by
  have hx1 := h.f i x c hx hc
  obtain ⟨g, ca, e, hb, hg, hl, hcs, hfz, hst⟩ := h.o.get eR_len hx
  have tg : t g = .out := h.to g (by rw [e]; rfl)
  have kk : Ch (Only g) w (w.setCell ⟨g, i * 5 + 4, none⟩ (.bool bb)) := (Ch.refl _ _).own _ _
  refine ⟨g, ca, e, hg, tg, hcs 4 _ rfl, hfz _, hst 4 (.bool bb) ⟨x.cap, x.v, x.s, x.r, bb⟩ (by omega) rfl, h.to, by rw [List.length_set, List.length_set]; exact h.n, ?_⟩
  have key : ∀ (j : Nat) (y : Rw) (d : Cn), One t base w j y d → One t base (w.setCell ⟨g, i * 5 + 4, none⟩ (.bool bb)) j y d := fun j y d y1 =>
    ⟨y1.cap, y1.cl, y1.v.ch kk (fun q hq hb => by have e1 := y1.tv q hq; have e2 : q = g := hb; rw [e2, tg] at e1; cases e1), y1.tv, y1.s.ch kk (fun q hq hb => by have e1 := y1.ts q hq; have e2 : q = g := hb; rw [e2, tg] at e1; cases e1), y1.ts, y1.r.ch kk (fun q hq hb => by have e1 := y1.tr q hq; have e2 : q = g := hb; rw [e2, tg] at e1; cases e1), y1.tr⟩
  intro j y d hy hd
  by_cases hj : i = j
  · subst hj
    rw [List.getElem?_set_self (List.getElem?_eq_some_iff.1 hx).1] at hy
    rw [List.getElem?_set_self (List.getElem?_eq_some_iff.1 hc).1] at hd
    injection hy with hy
    injection hd with hd
    subst hy hd
    have y1 := key i x c hx1
    exact ⟨y1.cap, rfl, y1.v, y1.tv, y1.s, y1.ts, y1.r, y1.tr⟩
  · rw [List.getElem?_set_ne hj] at hy hd
    exact key j y d (h.f j y d hy hd)
/-- the channels, one of them shut: its lists are told no more -/
def sh1 (cs : List Cn) (i : Nat) (c : Cn) : List Cn := cs.set i ⟨c.cap, c.vs, [], [], true⟩
/-- the channels, one of them closed -/
def sh2 (cs : List Cn) (i : Nat) (c : Cn) : List Cn := cs.set i ⟨c.cap, c.vs, c.ss, c.rs, true⟩
theorem plA_sh2 {cs : List Cn} {i : Nat} {c : Cn} (hc : cs[i]? = some c) (s g : Int) : plA s g 0 (sh2 cs i c) = plA s g 0 cs := plA_set (c := c) (d := ⟨c.cap, c.vs, c.ss, c.rs, true⟩) rfl _ _ _ hc
theorem pls_sh2 {cs : List Cn} {i : Nat} {c : Cn} (hc : cs[i]? = some c) (s g : Int) : pls (sh2 cs i c) s g = pls cs s g := by rw [← plA_len s g 0, plA_sh2 hc, plA_len]
theorem sh_cov {cs : List Cn} {i : Nat} {c : Cn} : Cov (sh1 cs i c) (sh2 cs i c) := by
  refine ⟨by simp [sh1, sh2], fun j d f hd hf => ?_⟩
  unfold sh1 at hd
  unfold sh2 at hf
  rw [List.getElem?_set] at hd hf
  by_cases e : i = j
  · rw [if_pos e] at hd
    split at hd
    · injection hd with hd
      subst hd
      exact .inr ⟨rfl, rfl⟩
    · cases hd
  · rw [if_neg e] at hd hf
    rw [hd] at hf
    injection hf with hf
    exact .inl hf
set_option maxHeartbeats 1000000 in
open Classical in
/-- a channel is shut -/
theorem Ca.shut {t : Nat → Tg} {w : World} {b k : Nat} {v : Value} {xs : List Rw} {M : List Me} {clock : Nat} {cs : List Cn} {i : Nat} {x : Rw} {c : Cn} (h : Ca t w b k v xs M clock cs) (hx : xs[i]? = some x) (hc : cs[i]? = some c) :
    ∃ gO ca t', v = .slice (some ⟨gO, 0, none⟩) xs.length ca ∧ gO < w.heap.size ∧ (∀ j, w.frozen? ⟨gO, j, none⟩ = false) ∧
      Ct t' (((w.setCell ⟨gO, i * 5 + 4, none⟩ (.bool true)).setCell ⟨gO, i * 5 + 3, none⟩ (.slice none 0 0)).setCell ⟨gO, i * 5 + 2, none⟩ (.slice none 0 0)) b v (sh1 cs i c) (sh2 cs i c) ∧
      Tn t t' w (((w.setCell ⟨gO, i * 5 + 4, none⟩ (.bool true)).setCell ⟨gO, i * 5 + 3, none⟩ (.slice none 0 0)).setCell ⟨gO, i * 5 + 2, none⟩ (.slice none 0 0)) ∧
      (∀ q, Blk x.s q ∨ Blk x.r q → t' q = .no) ∧ t gO = .out := by
  have hx1 := h.nl.f i x c hx hc
  obtain ⟨gO, ca, ev, hgO, tO, hc4, hf4, hnl⟩ := h.nl.setc hx hc true
  obtain ⟨_, _, e9, _, _, _, _, hfz, _⟩ := h.nl.o.get eR_len hx
  rw [ev] at e9
  injection e9 with e9 _ _
  injection e9 with e9
  injection e9 with e9 _ _
  subst e9
  have K1 : Ch (Only gO) w (w.setCell ⟨gO, i * 5 + 4, none⟩ (.bool true)) := (Ch.refl _ _).own _ _
  have hiL := (List.getElem?_eq_some_iff.1 hx).1
  have hiC := (List.getElem?_eq_some_iff.1 hc).1
  have B1 : Cb t (w.setCell ⟨gO, i * 5 + 4, none⟩ (.bool true)) b k v (xs.set i ⟨x.cap, x.v, x.s, x.r, true⟩) M clock (sh2 cs i c) (sh2 cs i c) :=
    ⟨(K1.block b (lt_of_block h.me) (fun e => by have e1 : b = gO := e; have := h.tb; rw [e1, tO] at this; cases this)).trans h.me, h.tb, h.tk, hnl,
      h.mp.to h.tk K1 (fun q _ hq => by have e1 : q = gO := hq; rw [e1, tO]; exact ⟨by simp, by simp⟩) (fun q _ _ => rfl) (plA_sh2 hc), fun q hq => Nat.lt_of_lt_of_le (h.hi q hq) K1.size⟩
  have T1 : Tn t t w (w.setCell ⟨gO, i * 5 + 4, none⟩ (.bool true)) := ⟨K1.mono (fun q e => .inl (by have e1 : q = gO := e; rw [e1, tO]; exact fun e => by cases e)), fun _ _ e => e⟩
  obtain ⟨g2, ca2, t2, e2, l2, p2, f2, B2, T2, -, h2⟩ := B1.setr (i := i) (x := ⟨x.cap, x.v, x.s, x.r, true⟩) (c := ⟨c.cap, c.vs, c.ss, c.rs, true⟩) (List.getElem?_set_self hiL) (List.getElem?_set_self hiC) (Ch.refl _ _) (Ow.nil _ _ _ _ _) (fun q hq => by cases hq)
  rw [ev] at e2
  injection e2 with e2 _ _
  injection e2 with e2
  injection e2 with e2 _ _
  subst e2
  obtain ⟨g3, ca3, t3, e3, l3, p3, f3, B3, T3, -, h3⟩ := B2.sets (i := i) (x := ⟨x.cap, x.v, x.s, .slice none 0 0, true⟩) (c := ⟨c.cap, c.vs, c.ss, [], true⟩) (by simp [hiL]) (by unfold sh2; simp [hiC]) (Ch.refl _ _) (Ow.nil _ _ _ _ _) (fun q hq => by cases hq)
  rw [ev] at e3
  injection e3 with e3 _ _
  injection e3 with e3
  injection e3 with e3 _ _
  subst e3
  have sz1 : (w.setCell ⟨gO, i * 5 + 4, none⟩ (.bool true)).heap.size = w.heap.size := by simp [World.setCell]
  have sz2 : ((w.setCell ⟨gO, i * 5 + 4, none⟩ (.bool true)).setCell ⟨gO, i * 5 + 3, none⟩ (.slice none 0 0)).heap.size = w.heap.size := by simp [World.setCell]
  have ht : ∀ q, q < w.heap.size → t3 q = t q := fun q hq => (h3 q (by omega)).trans (h2 q (by omega))
  have hs3 : ((sh2 cs i c).set i ⟨c.cap, c.vs, c.ss, [], true⟩).set i ⟨c.cap, c.vs, [], [], true⟩ = sh1 cs i c := by simp [sh1, sh2]
  rw [hs3] at B3
  have TT := (T1.trans T2).trans T3
  refine ⟨gO, ca, fun q => if t3 q = .ss i ∨ t3 q = .rs i then .no else t3 q, ev, hgO, hfz, ⟨k, ((xs.set i ⟨x.cap, x.v, x.s, x.r, true⟩).set i ⟨x.cap, x.v, x.s, .slice none 0 0, true⟩).set i ⟨x.cap, x.v, .slice none 0 0, .slice none 0 0, true⟩, M, clock, B3.me, ?_, ?_, ?_, ?_, ?_⟩, ⟨TT.c, fun q hq e => ?_⟩, fun q hq => ?_, tO⟩
  · show (if t3 b = .ss i ∨ t3 b = .rs i then Tg.no else t3 b) = .me
    rw [B3.tb, if_neg (by rintro (e | e) <;> cases e)]
  · show (if t3 k = .ss i ∨ t3 k = .rs i then Tg.no else t3 k) = .mp
    rw [B3.tk, if_neg (by rintro (e | e) <;> cases e)]
  · refine B3.nl.retag (fun q hq => ?_)
    show (if t3 q = .ss i ∨ t3 q = .rs i then Tg.no else t3 q) = t3 q
    refine if_neg ?_
    rcases hq with hq | ⟨j, y, hy, hq⟩
    · rw [B3.nl.to q hq]
      rintro (e | e) <;> cases e
    · obtain ⟨d, hd⟩ : ∃ d, (sh1 cs i c)[j]? = some d := ⟨_, List.getElem?_eq_getElem (by rw [← B3.nl.n]; exact (List.getElem?_eq_some_iff.1 hy).1)⟩
      have o := B3.nl.f j y d hy hd
      by_cases ej : i = j
      · subst ej
        simp [hiL] at hy
        subst hy
        rcases hq with hq | hq | hq
        · rw [o.tv q hq]
          rintro (e | e) <;> cases e
        · cases hq
        · cases hq
      · rcases hq with hq | hq | hq
        · rw [o.tv q hq]
          rintro (e | e) <;> cases e
        · rw [o.ts q hq]
          rintro (e | e)
          · injection e with _ e; exact ej e.symm
          · cases e
        · rw [o.tr q hq]
          rintro (e | e)
          · cases e
          · injection e with _ e; exact ej e.symm
  · refine B3.mp.to B3.tk (Ch.refl NoB _) (fun q _ hq => hq.elim) (fun q _ hq => if_neg ?_) (fun _ _ => rfl)
    rintro (e | e) <;> rw [e] at hq <;> cases hq
  · intro q hq
    refine B3.hi q (fun e => hq ?_)
    show (if t3 q = .ss i ∨ t3 q = .rs i then Tg.no else t3 q) = .no
    rw [e, if_neg (by rintro (e | e) <;> cases e)]
  · show (if t3 q = .ss i ∨ t3 q = .rs i then Tg.no else t3 q) = .no
    rw [TT.o q hq e, if_neg (by rintro (e | e) <;> cases e)]
  · show (if t3 q = .ss i ∨ t3 q = .rs i then Tg.no else t3 q) = .no
    refine if_pos ?_
    rcases hq with hq | hq
    · exact .inl ((ht q (hx1.s.blk hq).2).trans (hx1.ts q hq))
    · exact .inr ((ht q (hx1.r.blk hq).2).trans (hx1.tr q hq))
/-- whoever was told of waits no more -/
theorem wkF_all : ∀ (ws : List Wt) (fs : List Cn) (x : Wt), x ∈ ws → pls (lvl (wkF fs ws) fs) x.s x.g = 0 := by
  intro ws
  induction ws with
  | nil => intro fs x hx; cases hx
  | cons y r ih =>
    intro fs x hx
    unfold wkF
    by_cases e : 0 < pls fs y.s y.g
    · rw [if_pos e, lvl_cons]
      rcases List.mem_cons.1 hx with hx | hx
      · subst hx
        have := pls_lvl_le (wkF (lvs fs x.s x.g) r) x.s x.g (lvs fs x.s x.g)
        rw [pls_lvs] at this
        omega
      · exact ih _ x hx
    · rw [if_neg e]
      rcases List.mem_cons.1 hx with hx | hx
      · subst hx
        have := pls_lvl_le (wkF fs r) x.s x.g fs
        omega
      · exact ih _ x hx
theorem lvl_get (l : List Wt) : ∀ (cs : List Cn) (i : Nat) (c : Cn), cs[i]? = some c → ∃ d, (lvl l cs)[i]? = some d ∧ d.cap = c.cap ∧ d.vs = c.vs ∧ d.cl = c.cl ∧ d.ss.Sublist c.ss ∧ d.rs.Sublist c.rs := by
  induction l with
  | nil => intro cs i c hc; exact ⟨c, hc, rfl, rfl, rfl, List.Sublist.refl _, List.Sublist.refl _⟩
  | cons x r ih =>
    intro cs i c hc
    rw [lvl_cons]
    obtain ⟨d, h1, h2, h3, h4, h5, h6⟩ := ih (lvs cs x.s x.g) i (c.wo x.s x.g) (by unfold lvs; rw [List.getElem?_map, hc]; rfl)
    exact ⟨d, h1, h2, h3, h4, h5.trans List.filter_sublist, h6.trans List.filter_sublist⟩
theorem pl_pos_ss {d : Cn} {x : Wt} (h : x ∈ d.ss) : 0 < d.pl x.s x.g := by
  have h2 : (wo d.ss x.s x.g).length < d.ss.length := by
    refine Nat.lt_of_le_of_ne (wo_le _ _ _) (fun e => ?_)
    have := List.length_filter_eq_length_iff.1 e x h
    simp at this
  unfold Cn.pl
  omega
theorem pl_pos_rs {d : Cn} {x : Wt} (h : x ∈ d.rs) : 0 < d.pl x.s x.g := by
  have h2 : (wo d.rs x.s x.g).length < d.rs.length := by
    refine Nat.lt_of_le_of_ne (wo_le _ _ _) (fun e => ?_)
    have := List.length_filter_eq_length_iff.1 e x h
    simp at this
  unfold Cn.pl
  omega
theorem pls_pos {cs : List Cn} {i : Nat} {d : Cn} {s g : Int} (h : cs[i]? = some d) (hp : 0 < d.pl s g) : 0 < pls cs s g := by
  rw [← plA_len s g 0]
  exact List.length_pos_of_mem (plA_mem.2 ⟨i, d, h, hp, rfl⟩)
/-- of a channel that is closed nobody is left: with its lists or without them it is the same -/
theorem sh_same {cs : List Cn} {i : Nat} {c : Cn} (hc : cs[i]? = some c) (l : List Wt) (hs : ∀ x ∈ c.ss, pls (lvl l (sh2 cs i c)) x.s x.g = 0) (hr : ∀ x ∈ c.rs, pls (lvl l (sh2 cs i c)) x.s x.g = 0) : lvl l (sh1 cs i c) = lvl l (sh2 cs i c) := by
  have hiC := (List.getElem?_eq_some_iff.1 hc).1
  have cov := (sh_cov (cs := cs) (i := i) (c := c)).lvl l
  apply List.ext_getElem?
  intro j
  by_cases hj : j < cs.length
  · obtain ⟨d, hd⟩ : ∃ d, (lvl l (sh1 cs i c))[j]? = some d := ⟨_, List.getElem?_eq_getElem (by rw [lvl_len]; simp [sh1, hj])⟩
    obtain ⟨f, hf⟩ : ∃ f, (lvl l (sh2 cs i c))[j]? = some f := ⟨_, List.getElem?_eq_getElem (by rw [lvl_len]; simp [sh2, hj])⟩
    rw [hd, hf]
    by_cases e : j = i
    · subst e
      obtain ⟨d', h1, h2, h3, h4, h5, h6⟩ := lvl_get l (sh1 cs j c) j ⟨c.cap, c.vs, [], [], true⟩ (by simp [sh1, hiC])
      obtain ⟨f', k1, k2, k3, k4, k5, k6⟩ := lvl_get l (sh2 cs j c) j ⟨c.cap, c.vs, c.ss, c.rs, true⟩ (by simp [sh2, hiC])
      rw [hd] at h1
      rw [hf] at k1
      injection h1 with h1
      injection k1 with k1
      subst h1 k1
      have e1 : d.ss = [] := List.sublist_nil.1 h5
      have e2 : d.rs = [] := List.sublist_nil.1 h6
      have e3 : f.ss = [] := by
        rcases List.eq_nil_or_concat f.ss with e | ⟨r, x, e⟩
        · exact e
        · have hm : x ∈ f.ss := by rw [e]; simp
          have := pls_pos hf (pl_pos_ss hm)
          rw [hs x (k5.subset hm)] at this
          omega
      have e4 : f.rs = [] := by
        rcases List.eq_nil_or_concat f.rs with e | ⟨r, x, e⟩
        · exact e
        · have hm : x ∈ f.rs := by rw [e]; simp
          have := pls_pos hf (pl_pos_rs hm)
          rw [hr x (k6.subset hm)] at this
          omega
      congr 1
      obtain ⟨a1, a2, a3, a4, a5⟩ := d
      obtain ⟨b1, b2, b3, b4, b5⟩ := f
      dsimp only at *
      subst h2 h3 h4 e1 e2 e3 e4 k2 k3 k4
      rfl
    · have g1 : ∃ y, (sh1 cs i c)[j]? = some y ∧ (sh2 cs i c)[j]? = some y := by
        refine ⟨cs[j], ?_, ?_⟩
        · unfold sh1; rw [List.getElem?_set_ne (fun q => e q.symm)]; exact List.getElem?_eq_getElem hj
        · unfold sh2; rw [List.getElem?_set_ne (fun q => e q.symm)]; exact List.getElem?_eq_getElem hj
      obtain ⟨y, y1, y2⟩ := g1
      have : ∀ (m : List Wt) (ps qs : List Cn) (y : Cn), ps[j]? = some y → qs[j]? = some y → (lvl m ps)[j]? = (lvl m qs)[j]? := by
        intro m
        induction m with
        | nil => intro ps qs y h1 h2; rw [lvl_nil, lvl_nil, h1, h2]
        | cons z r ih =>
          intro ps qs y h1 h2
          rw [lvl_cons, lvl_cons]
          exact ih _ _ (y.wo z.s z.g) (by unfold lvs; rw [List.getElem?_map, h1]; rfl) (by unfold lvs; rw [List.getElem?_map, h2]; rfl)
      rw [← hd, ← hf]
      exact this l _ _ y y1 y2
  · rw [List.getElem?_eq_none (by rw [lvl_len]; simp [sh1]; omega), List.getElem?_eq_none (by rw [lvl_len]; simp [sh2]; omega)]
end Go.Proofs.Ytalmiphddgmfbab.Lt

namespace Go.Proofs.Ytalmiphddgmfbab.Lt
open Go.RowKit Wd
attribute [local go_sem ↓] Go.wp_at_zero Go.wp_at_succ

/-- what Close tells and leaves -/
def ClR (t : Nat → Tg) (w : World) (b : Nat) (cs : List Cn) (tr : Int) (ks : List Wk) (e : Ending) (w' : World) : Prop := ∃ mo mn mc, e = .returned (.agg #[.bool false, .int .i64 0, .bool false, .int .i64 tr, .slice mo mn mc]) ∧ Ow eK 6 114 w.heap.size w' (.slice mo mn mc) ks ∧ ∃ t', Cs t' w' b cs ∧ Tn t t' w w' ∧ ∀ q, Blk (.slice mo mn mc) q → t' q = .no
/-- whom a close wakes: those that wait to receive, then those that wait to send -/
def cw1 (cs : List Cn) (i : Nat) (c : Cn) : List Wt := wkF (sh2 cs i c) c.rs
def cw2 (cs : List Cn) (i : Nat) (c : Cn) : List Wt := wkF (lvl (cw1 cs i c) (sh2 cs i c)) c.ss
/-- what a close tells -/
def cwK (cs : List Cn) (i : Nat) (c : Cn) : List Wk := (cw1 cs i c).map (toK 0) ++ (cw2 cs i c).map (toK 6)
/-- the channels behind a close -/
def cwC (cs : List Cn) (i : Nat) (c : Cn) : List Cn := lvl (cw1 cs i c ++ cw2 cs i c) (sh2 cs i c)
theorem cw_same {cs : List Cn} {i : Nat} {c : Cn} (hc : cs[i]? = some c) : lvl (cw1 cs i c ++ cw2 cs i c) (sh1 cs i c) = cwC cs i c := by
  refine sh_same hc _ (fun x hx => ?_) (fun x hx => ?_)
  · rw [lvl_app]
    exact wkF_all _ _ x hx
  · rw [lvl_app]
    have h1 := wkF_all _ (sh2 cs i c) x hx
    have h2 := pls_lvl_le (cw2 cs i c) x.s x.g (lvl (cw1 cs i c) (sh2 cs i c))
    unfold cw1 at h2 ⊢
    omega
theorem Bw.sh1 {cs : List Cn} {i : Nat} {c : Cn} (h : Bw cs) : Bw (sh1 cs i c) := by
  intro d hd
  rcases List.mem_or_eq_of_mem_set hd with e | e
  · exact h d e
  · subst e
    exact ⟨Nat.zero_le _, Nat.zero_le _⟩
end Go.Proofs.Ytalmiphddgmfbab.Lt
