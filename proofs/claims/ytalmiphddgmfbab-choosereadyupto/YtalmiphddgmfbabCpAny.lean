/-
  What the program's Send, Recv and Close of layer 11 answer and leave, as plain functions of the channels. Conditions: the channels are good (Gd), goroutines' numbers are ints.
-/
import Derived.Test.YtalmiphddgmfbabCpClm
import Derived.Test.YtalmiphddgmfbabCnCopy
namespace Go.Proofs.Ytalmiphddgmfbab.Lt
open Go.RowKit Wd

/-- what a call tells, and the channels behind it -/
structure Ot where
  cs : List Cn
  wa : Bool
  va : Int
  ok : Bool
  tr : Int
  ks : List Wk
  er : Int
/-- the channel of a handle, and its place -/
def cAt (cs : List Cn) (ch : Int) : Option (Nat × Cn) := if 1 ≤ ch then (cs[(ch - 1).toNat]?).map (fun c => ((ch - 1).toNat, c)) else none
theorem cAt_cases (cs : List Cn) (ch : Int) : (∃ (i : Nat) (c : Cn), ch = (i : Int) + 1 ∧ cs[i]? = some c ∧ cAt cs ch = some (i, c)) ∨ (¬ (1 ≤ ch ∧ ch ≤ (cs.length : Int)) ∧ cAt cs ch = none) := by
  unfold cAt
  by_cases h : 1 ≤ ch
  · rw [if_pos h]
    cases hc : cs[(ch - 1).toNat]? with
    | some c => exact .inl ⟨(ch - 1).toNat, c, by omega, hc, rfl⟩
    | none =>
      have := List.getElem?_eq_none_iff.1 hc
      exact .inr ⟨by omega, rfl⟩
  · rw [if_neg h]
    exact .inr ⟨fun q => h q.1, rfl⟩
/-- without a channel -/
def noF (cs : List Cn) (ch : Int) : Ot := ⟨cs, decide (ch = 0), 0, false, if ch = 0 then 0 else 4, [], 0⟩
def sndI (cs : List Cn) (i : Nat) (c : Cn) (s g v : Int) : Ot :=
  if c.cl = true then ⟨cs, false, 0, false, 6, [], 0⟩ else
  match c.rs with
  | r :: _ => ⟨lvs cs r.s r.g, false, 0, true, 0, [⟨r.s, r.g, r.c, v, true, 0⟩], 0⟩
  | [] => if (c.vs.length : Int) < c.cap then ⟨cs.set i ⟨c.cap, c.vs ++ [v], c.ss, c.rs, c.cl⟩, false, 0, true, 0, [], 0⟩ else ⟨cs.set i ⟨c.cap, c.vs, c.ss ++ [⟨s, g, 0, v⟩], c.rs, c.cl⟩, true, 0, false, 0, [], 0⟩
/-- Send -/
def sndF (cs : List Cn) (ch s g v : Int) : Ot := if 0 < pls cs s g then ⟨cs, false, 0, false, 0, [], 111⟩ else
  match cAt cs ch with
  | none => noF cs ch
  | some (i, c) => sndI cs i c s g v
def rcvI (cs : List Cn) (i : Nat) (c : Cn) (s g : Int) : Ot :=
  match c.ss with
  | x :: _ => (match c.vs with
    | u :: us => ⟨(lvs cs x.s x.g).set i ⟨c.cap, us ++ [x.v], wo c.ss x.s x.g, wo c.rs x.s x.g, c.cl⟩, false, u, true, 0, [⟨x.s, x.g, x.c, 0, true, 0⟩], 0⟩
    | [] => ⟨lvs cs x.s x.g, false, x.v, true, 0, [⟨x.s, x.g, x.c, 0, true, 0⟩], 0⟩)
  | [] => (match c.vs with
    | u :: us => ⟨cs.set i ⟨c.cap, us, c.ss, c.rs, c.cl⟩, false, u, true, 0, [], 0⟩
    | [] => if c.cl = true then ⟨cs, false, 0, false, 0, [], 0⟩ else ⟨cs.set i ⟨c.cap, c.vs, c.ss, c.rs ++ [⟨s, g, 0, 0⟩], c.cl⟩, true, 0, false, 0, [], 0⟩)
/-- Recv -/
def rcvF (cs : List Cn) (ch s g : Int) : Ot := if 0 < pls cs s g then ⟨cs, false, 0, false, 0, [], 111⟩ else
  match cAt cs ch with
  | none => noF cs ch
  | some (i, c) => rcvI cs i c s g
/-- Close -/
def clsF (cs : List Cn) (ch : Int) : Ot :=
  match cAt cs ch with
  | none => ⟨cs, false, 0, false, if ch = 0 then 8 else 4, [], 0⟩
  | some (i, c) => if c.cl = true then ⟨cs, false, 0, false, 7, [], 0⟩ else ⟨cwC cs i c, false, 0, false, 0, cwK cs i c, 0⟩
/-- how many wait -/
def wl (c : Cn) : Nat := c.ss.length + c.rs.length
def tot (cs : List Cn) : Nat := (cs.map wl).sum
/-- channels as the laws meet them -/
structure Gd (N : Nat) (cs : List Cn) : Prop where
  n : cs.length ≤ 1024
  cap : ∀ c ∈ cs, 0 ≤ c.cap ∧ c.cap ≤ 1024
  v : ∀ c ∈ cs, (c.vs.length : Int) ≤ c.cap
  w : tot cs ≤ N
  g : ∀ c ∈ cs, ∀ x, x ∈ c.ss ∨ x ∈ c.rs → Gok x.s x.g
theorem sum_mem {f : Cn → Nat} {cs : List Cn} {c : Cn} (h : c ∈ cs) : f c ≤ (cs.map f).sum := by
  induction cs with
  | nil => cases h
  | cons d r ih =>
    rw [List.map_cons, List.sum_cons]
    rcases List.mem_cons.1 h with e | e
    · subst e; omega
    · have := ih e; omega
theorem sum_le {f k : Cn → Nat} {cs : List Cn} (h : ∀ c ∈ cs, f c ≤ k c) : (cs.map f).sum ≤ (cs.map k).sum := by
  induction cs with
  | nil => exact Nat.le_refl _
  | cons d r ih =>
    rw [List.map_cons, List.map_cons, List.sum_cons, List.sum_cons]
    have := h d List.mem_cons_self
    have := ih (fun c hc => h c (List.mem_cons_of_mem _ hc))
    omega
theorem sum_set {f : Cn → Nat} {c d : Cn} : ∀ {cs : List Cn} {i : Nat}, cs[i]? = some c → ((cs.set i d).map f).sum + f c = (cs.map f).sum + f d := by
  intro cs
  induction cs with
  | nil => intro i h; simp at h
  | cons e r ih =>
    intro i h
    cases i with
    | zero =>
      simp at h
      subst h
      rw [List.set_cons_zero, List.map_cons, List.map_cons, List.sum_cons, List.sum_cons]
      omega
    | succ i =>
      rw [List.getElem?_cons_succ] at h
      have := ih h
      rw [List.set_cons_succ, List.map_cons, List.map_cons, List.sum_cons, List.sum_cons]
      omega
theorem pls_tot (cs : List Cn) (s g : Int) : pls cs s g ≤ tot cs := by
  unfold pls tot
  refine sum_le (fun c _ => ?_)
  unfold Cn.pl wl
  omega
section
variable {N : Nat} {cs : List Cn}
theorem Gd.wl_le (h : Gd N cs) {c : Cn} (hc : c ∈ cs) : c.ss.length + c.rs.length ≤ N := Nat.le_trans (sum_mem (f := wl) hc) h.w
theorem Gd.bd (h : Gd N cs) (hN : N ≤ 4398046511104) : Bd cs :=
  ⟨by have := h.n; omega, fun c hc => by have := h.v c hc; have := (h.cap c hc).2; omega, fun c hc => by have := h.wl_le hc; omega, fun c hc => by have := h.wl_le hc; omega⟩
theorem Gd.bw (h : Gd N cs) (hN : N ≤ 4398046511104) : Bw cs := fun c hc => by have := h.wl_le hc; omega
theorem Gd.pls (h : Gd N cs) (hN : N ≤ 4398046511104) (s g : Int) : pls cs s g ≤ 4398046511104 := Nat.le_trans (pls_tot cs s g) (Nat.le_trans h.w hN)
theorem Gd.up (h : Gd N cs) {M : Nat} (hM : N ≤ M) : Gd M cs := ⟨h.n, h.cap, h.v, Nat.le_trans h.w hM, h.g⟩
theorem Gd.lvs (h : Gd N cs) (s g : Int) : Gd N (lvs cs s g) := by
  refine ⟨by rw [lvs_len]; exact h.n, ?_, ?_, ?_, ?_⟩
  · intro d hd
    obtain ⟨c, hc, rfl⟩ := List.mem_map.1 hd
    exact h.cap c hc
  · intro d hd
    obtain ⟨c, hc, rfl⟩ := List.mem_map.1 hd
    exact h.v c hc
  · refine Nat.le_trans ?_ h.w
    unfold tot Lt.lvs
    rw [List.map_map]
    refine sum_le (fun c _ => ?_)
    have h1 := wo_le c.ss s g
    have h2 := wo_le c.rs s g
    unfold wl
    show (wo c.ss s g).length + (wo c.rs s g).length ≤ _
    omega
  · intro d hd x hx
    obtain ⟨c, hc, rfl⟩ := List.mem_map.1 hd
    refine h.g c hc x ?_
    rcases hx with hx | hx
    · exact .inl ((List.mem_filter.1 hx).1)
    · exact .inr ((List.mem_filter.1 hx).1)
theorem Gd.lvl (h : Gd N cs) (l : List Wt) : Gd N (lvl l cs) := by
  induction l generalizing cs with
  | nil => exact h
  | cons x r ih => rw [lvl_cons]; exact ih (h.lvs _ _)
theorem Gd.set (h : Gd N cs) {i : Nat} {c d : Cn} (hc : cs[i]? = some c) {M : Nat} (h1 : 0 ≤ d.cap ∧ d.cap ≤ 1024) (h2 : (d.vs.length : Int) ≤ d.cap) (h3 : wl d + N ≤ wl c + M) (h4 : ∀ x, x ∈ d.ss ∨ x ∈ d.rs → Gok x.s x.g) : Gd M (cs.set i d) := by
  refine ⟨by rw [List.length_set]; exact h.n, ?_, ?_, ?_, ?_⟩
  · intro e he
    rcases List.mem_or_eq_of_mem_set he with q | q
    · exact h.cap e q
    · subst q; exact h1
  · intro e he
    rcases List.mem_or_eq_of_mem_set he with q | q
    · exact h.v e q
    · subst q; exact h2
  · have := sum_set (f := wl) (d := d) hc
    have := h.w
    unfold tot at *
    omega
  · intro e he
    rcases List.mem_or_eq_of_mem_set he with q | q
    · exact h.g e q
    · subst q; exact h4
end
theorem Gd.snd {N : Nat} {cs : List Cn} (h : Gd N cs) (ch s g v : Int) (hk : Gok s g) : Gd (N + 1) (sndF cs ch s g v).cs := by
  unfold sndF
  split
  · exact h.up (by omega)
  · rcases cAt_cases cs ch with ⟨i, c, rfl, hc, e⟩ | ⟨_, e⟩ <;> rw [e]
    · have mem := List.mem_of_getElem? hc
      dsimp only
      unfold sndI
      split
      · exact h.up (by omega)
      · split
        · exact (h.lvs _ _).up (by omega)
        · split
          · refine h.set hc (h.cap c mem) ?_ (by unfold wl; dsimp only; omega) (h.g c mem)
            dsimp only
            rw [List.length_append, List.length_singleton]
            omega
          · refine h.set hc (h.cap c mem) (h.v c mem) (by unfold wl; dsimp only; rw [List.length_append, List.length_singleton]; omega) ?_
            intro x hx
            dsimp only at hx
            rcases hx with hx | hx
            · rcases List.mem_append.1 hx with hx | hx
              · exact h.g c mem x (.inl hx)
              · rw [List.mem_singleton] at hx; subst hx; exact hk
            · exact h.g c mem x (.inr hx)
    · exact h.up (by omega)
theorem lvs_get {cs : List Cn} {i : Nat} {c : Cn} (hc : cs[i]? = some c) (s g : Int) : (lvs cs s g)[i]? = some (c.wo s g) := by unfold lvs; rw [List.getElem?_map, hc]; rfl
theorem Gd.rcv {N : Nat} {cs : List Cn} (h : Gd N cs) (ch s g : Int) (hk : Gok s g) : Gd (N + 1) (rcvF cs ch s g).cs := by
  unfold rcvF
  split
  · exact h.up (by omega)
  · rcases cAt_cases cs ch with ⟨i, c, rfl, hc, e⟩ | ⟨_, e⟩ <;> rw [e]
    · have mem := List.mem_of_getElem? hc
      have hv := h.v c mem
      dsimp only
      unfold rcvI
      split
      · rename_i x r e1
        split
        · rename_i u us e2
          have m2 := List.mem_of_getElem? (lvs_get hc x.s x.g)
          refine (h.lvs x.s x.g).set (lvs_get hc x.s x.g) (h.cap c mem) ?_ (by unfold wl Cn.wo; dsimp only; omega) (fun y hy => (h.lvs x.s x.g).g _ m2 y hy)
          rw [e2] at hv
          dsimp only
          rw [List.length_append, List.length_singleton]
          rw [List.length_cons] at hv
          omega
        · exact (h.lvs _ _).up (by omega)
      · rename_i e1
        split
        · rename_i u us e2
          refine h.set hc (h.cap c mem) ?_ (by unfold wl; dsimp only; omega) (h.g c mem)
          rw [e2, List.length_cons] at hv
          dsimp only
          omega
        · split
          · exact h.up (by omega)
          · refine h.set hc (h.cap c mem) (h.v c mem) (by unfold wl; dsimp only; rw [List.length_append, List.length_singleton]; omega) ?_
            intro x hx
            dsimp only at hx
            rcases hx with hx | hx
            · exact h.g c mem x (.inl hx)
            · rcases List.mem_append.1 hx with hx | hx
              · exact h.g c mem x (.inr hx)
              · rw [List.mem_singleton] at hx; subst hx; exact hk
    · exact h.up (by omega)
theorem Gd.cls {N : Nat} {cs : List Cn} (h : Gd N cs) (ch : Int) : Gd N (clsF cs ch).cs := by
  unfold clsF
  rcases cAt_cases cs ch with ⟨i, c, rfl, hc, e⟩ | ⟨_, e⟩ <;> rw [e]
  · have mem := List.mem_of_getElem? hc
    dsimp only
    split
    · exact h
    · unfold cwC
      refine Gd.lvl ?_ _
      exact h.set hc (h.cap c mem) (h.v c mem) (Nat.le_refl _) (h.g c mem)
  · exact h
/-- what Send and Recv tell and leave -/
def MvO (t : Nat → Tg) (w : World) (b : Nat) (o : Ot) (e : Ending) (w' : World) : Prop := MvR t w b o.cs o.wa o.va o.ok o.tr o.ks o.er e w'
def GID (s g : Int) : Value := .agg #[.int .i64 s, .int .i64 g]
theorem send_any {t : Nat → Tg} {w : World} {b N : Nat} {cs : List Cn} {s g : Int} (h : Cs t w b cs) (hG : Gd N cs) (hN : N < 4398046511104) (hk : Gok s g) (ch v : Int) :
    Calls Try.prog 50 #[.pointer (some ⟨b, 0, none⟩), .int .i64 ch, .agg #[.int .i64 s, .int .i64 g], .int .i64 v] w (MvO t w b (sndF cs ch s g v)) := by
  unfold sndF
  by_cases hp : 0 < pls cs s g
  · rw [if_pos hp]
    exact (send_refused h hk ch v hp).mono (fun e w' q => SnR.mv q)
  · rw [if_neg hp]
    have hp0 : pls cs s g = 0 := by omega
    rcases cAt_cases cs ch with ⟨i, c, rfl, hc, e⟩ | ⟨hn, e⟩ <;> rw [e]
    · dsimp only
      have mem := List.mem_of_getElem? hc
      have hw := hG.wl_le mem
      unfold sndI
      by_cases h1 : c.cl = true
      · rw [if_pos h1]
        exact (send_closed h hk hc hG.n v hp0 h1).mono (fun e w' q => SnR.mv q)
      · rw [if_neg h1]
        have h1' : c.cl = false := by simpa using h1
        cases hr : c.rs with
        | cons r rr =>
          dsimp only
          exact send_wake h hk hc hG.n v h1' r rr hr hp0 (hG.bw (by omega)) (hG.g c mem r (.inr (by rw [hr]; exact List.mem_cons_self))) (hG.pls (by omega) _ _)
        | nil =>
          dsimp only
          by_cases h2 : (c.vs.length : Int) < c.cap
          · rw [if_pos h2]
            have := (send_room h hk hc hG.n v h1' hr h2 (hG.cap c mem).2 hp0)
            rw [hr] at this
            exact this.mono (fun e w' q => SnR.mv q)
          · rw [if_neg h2]
            have := (send_wait h hk hc hG.n v hp0 h1' hr h2 (by omega))
            rw [hr] at this
            exact this.mono (fun e w' q => SnR.mv q)
    · exact (send_not h hk ch v hp0 hn).mono (fun e w' q => SnR.mv q)
theorem lvs_set (cs : List Cn) (i : Nat) (d : Cn) (s g : Int) : lvs (cs.set i d) s g = (lvs cs s g).set i (d.wo s g) := by unfold lvs; rw [List.map_set]
theorem recv_any {t : Nat → Tg} {w : World} {b N : Nat} {cs : List Cn} {s g : Int} (h : Cs t w b cs) (hG : Gd N cs) (hN : N < 4398046511104) (hk : Gok s g) (ch : Int) :
    Calls Try.prog 51 #[.pointer (some ⟨b, 0, none⟩), .int .i64 ch, .agg #[.int .i64 s, .int .i64 g]] w (MvO t w b (rcvF cs ch s g)) := by
  unfold rcvF
  by_cases hp : 0 < pls cs s g
  · rw [if_pos hp]
    exact (recv_refused h hk ch hp).mono (fun e w' q => SnR.mv q)
  · rw [if_neg hp]
    have hp0 : pls cs s g = 0 := by omega
    rcases cAt_cases cs ch with ⟨i, c, rfl, hc, e⟩ | ⟨hn, e⟩ <;> rw [e]
    · dsimp only
      have mem := List.mem_of_getElem? hc
      have hw := hG.wl_le mem
      have hv := hG.v c mem
      have hcap := hG.cap c mem
      have hi := (List.getElem?_eq_some_iff.1 hc).1
      unfold rcvI
      cases hs : c.ss with
      | cons x r =>
        dsimp only
        have hkx := hG.g c mem x (.inl (by rw [hs]; exact List.mem_cons_self))
        obtain ⟨x0, x1, x2, x3⟩ := x
        dsimp only at hkx ⊢
        have had := fun (W : World) (gO n ca k : Nat) (xs : List Rw) (M : List Me) (clock : Nat) (H : Ca t W b k (.slice (some ⟨gO, 0, none⟩) n ca) xs M clock cs) => admit_yes H hc hG.n (hG.bw (by omega)) x0 x1 x2 x3 r hs hkx (by omega) (hG.pls (by omega) _ _)
        have hd : (lvs (cs.set i ⟨c.cap, c.vs ++ [x3], c.ss, c.rs, c.cl⟩) x0 x1)[i]? = some ((⟨c.cap, c.vs ++ [x3], c.ss, c.rs, c.cl⟩ : Cn).wo x0 x1) := lvs_get (List.getElem?_set_self hi) _ _
        cases hvs : c.vs with
        | cons u us =>
          dsimp only
          have := recv_value h hk hc hG.n hp0 _ _ _ u (us ++ [x3]) had hd (by show c.vs ++ [x3] = _; rw [hvs]; rfl) (by rw [hvs] at hv; simp only [List.length_cons, List.length_append, List.length_nil] at hv ⊢; omega)
          rw [lvs_set, List.set_set] at this
          rw [← hs]
          exact this
        | nil =>
          dsimp only
          have := recv_value h hk hc hG.n hp0 _ _ _ x3 [] had hd (by show c.vs ++ [x3] = _; rw [hvs]; rfl) (by simp)
          rw [lvs_set, List.set_set] at this
          have e2 : (lvs cs x0 x1).set i ⟨((⟨c.cap, c.vs ++ [x3], c.ss, c.rs, c.cl⟩ : Cn).wo x0 x1).cap, [], ((⟨c.cap, c.vs ++ [x3], c.ss, c.rs, c.cl⟩ : Cn).wo x0 x1).ss, ((⟨c.cap, c.vs ++ [x3], c.ss, c.rs, c.cl⟩ : Cn).wo x0 x1).rs, ((⟨c.cap, c.vs ++ [x3], c.ss, c.rs, c.cl⟩ : Cn).wo x0 x1).cl⟩ = lvs cs x0 x1 := by
            have q := lvs_get hc x0 x1
            apply List.ext_getElem?
            intro j
            by_cases ej : i = j
            · subst ej
              rw [List.getElem?_set_self (by rw [lvs_len]; exact hi), q]
              unfold Cn.wo
              dsimp only
              rw [hvs]
            · rw [List.getElem?_set_ne ej]
          rw [e2] at this
          exact this
      | nil =>
        dsimp only
        have had := fun (W : World) (gO n ca k : Nat) (xs : List Rw) (M : List Me) (clock : Nat) (H : Ca t W b k (.slice (some ⟨gO, 0, none⟩) n ca) xs M clock cs) => show Calls Try.prog 64 #[.pointer (some ⟨b, 0, none⟩), .pointer (some ⟨gO, i * 5, none⟩)] W (AdR t W b (.slice (some ⟨gO, 0, none⟩) n ca) cs []) from (admit_none H hc hs).mono (fun e w' q => ⟨none, 0, 0, q.1, by rw [q.2]; exact Ow.nil _ _ _ _ _, t, by rw [q.2]; exact ⟨_, _, _, _, H.b⟩, by rw [q.2]; exact Tn.refl _ _, fun q hq => by cases hq⟩)
        cases hvs : c.vs with
        | cons u us =>
          dsimp only
          have := recv_value h hk hc hG.n hp0 _ _ _ u us had hc hvs (by rw [hvs] at hv; simp only [List.length_cons] at hv ⊢; omega)
          rw [hs] at this
          exact this
        | nil =>
          dsimp only
          by_cases h1 : c.cl = true
          · rw [if_pos h1]
            exact (recv_closed h hk hc hG.n hp0 h1 hvs hs).mono (fun e w' q => SnR.mv q)
          · rw [if_neg h1]
            have := (recv_wait h hk hc hG.n hp0 (by simpa using h1) hvs hs (by omega))
            rw [hvs, hs] at this
            exact this.mono (fun e w' q => SnR.mv q)
    · exact (recv_not h hk ch hp0 hn).mono (fun e w' q => SnR.mv q)
end Go.Proofs.Ytalmiphddgmfbab.Lt
