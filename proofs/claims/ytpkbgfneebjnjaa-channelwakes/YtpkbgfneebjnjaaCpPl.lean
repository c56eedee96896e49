/-
  Whom a call wakes waits nowhere behind it, and whoever else waited waits still, in the same order; behind every act channels may be as they are: nobody waits for what is there; all in plain words. Conditions: the channels are good (Gd).
-/
import Derived.Test.YtpkbgfneebjnjaaCnMe
namespace Go.Proofs.Ytpkbgfneebjnjaa.Lt
open Go.RowKit Wd

/-- each of them leaves -/
def lvK (l : List Wk) (cs : List Cn) : List Cn := l.foldl (fun cs x => lvs cs x.s x.g) cs
theorem lvK_snoc (l : List Wk) (x : Wk) (cs : List Cn) : lvK (l ++ [x]) cs = lvs (lvK l cs) x.s x.g := by unfold lvK; rw [List.foldl_append]; rfl
theorem lvK_app (l m : List Wk) (cs : List Cn) : lvK (l ++ m) cs = lvK m (lvK l cs) := by unfold lvK; rw [List.foldl_append]
theorem lvK_map (tr : Int) (l : List Wt) (cs : List Cn) : lvK (l.map (toK tr)) cs = lvl l cs := by unfold lvK lvl; rw [List.foldl_map]; rfl
theorem lvK_len (l : List Wk) : ∀ cs : List Cn, (lvK l cs).length = cs.length := by
  induction l with
  | nil => intro cs; rfl
  | cons x r ih => intro cs; exact (ih (lvs cs x.s x.g)).trans (lvs_len _ _ _)
/-- a list begins with another one, and has one more at most -/
def Bg (l m : List Wt) : Prop := ∃ r : List Wt, l = m ++ r ∧ r.length ≤ 1
theorem Bg.refl (l : List Wt) : Bg l l := ⟨[], by simp, by simp⟩
theorem Bg.one (l : List Wt) (x : Wt) : Bg (l ++ [x]) l := ⟨[x], rfl, Nat.le_refl _⟩
/-- whom a call wakes waits nowhere, whoever else waited waits still -/
structure WkOk (cs : List Cn) (o : Ot) : Prop where
  n : o.cs.length = cs.length
  g : ∀ k ∈ o.ks, Gok k.s k.g
  w : ∀ k ∈ o.ks, pls o.cs k.s k.g = 0
  b : ∀ (i : Nat) (c d : Cn), o.cs[i]? = some c → (lvK o.ks cs)[i]? = some d → Bg c.ss d.ss ∧ Bg c.rs d.rs
theorem wk_same {cs : List Cn} {o : Ot} (h1 : o.cs = cs) (h2 : o.ks = []) : WkOk cs o := by
  refine ⟨by rw [h1], ?_, ?_, ?_⟩
  · rw [h2]; intro k hk; cases hk
  · rw [h2]; intro k hk; cases hk
  · intro i c d hc hd
    rw [h2] at hd
    rw [h1] at hc
    have hd' : cs[i]? = some d := hd
    rw [hc] at hd'
    injection hd' with e
    subst e
    exact ⟨Bg.refl _, Bg.refl _⟩
theorem wk_set {cs : List Cn} {o : Ot} {i : Nat} {c d : Cn} (hc : cs[i]? = some c) (h1 : o.cs = cs.set i d) (h2 : o.ks = []) (hs : Bg d.ss c.ss) (hr : Bg d.rs c.rs) : WkOk cs o := by
  have hi := (List.getElem?_eq_some_iff.1 hc).1
  refine ⟨by rw [h1, List.length_set], ?_, ?_, ?_⟩
  · rw [h2]; intro k hk; cases hk
  · rw [h2]; intro k hk; cases hk
  · intro j x y hx hy
    rw [h2] at hy
    have hy' : cs[j]? = some y := hy
    rw [h1] at hx
    by_cases e : i = j
    · subst e
      rw [List.getElem?_set_self hi] at hx
      injection hx with hx
      subst hx
      rw [hc] at hy'
      injection hy' with hy'
      subst hy'
      exact ⟨hs, hr⟩
    · rw [List.getElem?_set_ne e, hy'] at hx
      injection hx with hx
      subst hx
      exact ⟨Bg.refl _, Bg.refl _⟩
theorem pl_wo {d c : Cn} {s g : Int} (h1 : d.ss = wo c.ss s g) (h2 : d.rs = wo c.rs s g) : d.pl s g = 0 := by
  unfold Cn.pl
  rw [h1, h2, wo_same, wo_same]
  omega
theorem pls_nil {cs : List Cn} {s g : Int} (h : ∀ c ∈ cs, c.pl s g = 0) : pls cs s g = 0 := by
  rw [← plA_len s g 0, plA_zero h]; rfl
theorem wk_leave {cs : List Cn} {o : Ot} {k : Wk} (h2 : o.ks = [k]) (hk : Gok k.s k.g) (hn : o.cs.length = cs.length) (h1 : ∀ (i : Nat) (c d : Cn), o.cs[i]? = some c → cs[i]? = some d → c.ss = wo d.ss k.s k.g ∧ c.rs = wo d.rs k.s k.g) : WkOk cs o := by
  have hall : ∀ c ∈ o.cs, c.pl k.s k.g = 0 := by
    intro c hc
    obtain ⟨i, hi⟩ := List.mem_iff_getElem?.1 hc
    have hl := (List.getElem?_eq_some_iff.1 hi).1
    have hd : cs[i]? = some (cs[i]'(by omega)) := List.getElem?_eq_getElem (by omega)
    obtain ⟨q1, q2⟩ := h1 i c _ hi hd
    exact pl_wo q1 q2
  refine ⟨hn, ?_, ?_, ?_⟩
  · rw [h2]; intro x hx; rw [List.mem_singleton] at hx; subst hx; exact hk
  · rw [h2]; intro x hx; rw [List.mem_singleton] at hx; subst hx; exact pls_nil hall
  · intro i c d hc hd
    rw [h2] at hd
    have hd' : (lvs cs k.s k.g)[i]? = some d := hd
    have hl := (List.getElem?_eq_some_iff.1 hc).1
    have he : cs[i]? = some (cs[i]'(by omega)) := List.getElem?_eq_getElem (by omega)
    rw [lvs_get he] at hd'
    injection hd' with e
    subst e
    obtain ⟨q1, q2⟩ := h1 i c _ hc he
    rw [q1, q2]
    exact ⟨Bg.refl _, Bg.refl _⟩
theorem lvs_at {cs : List Cn} {s g : Int} {i : Nat} {c d : Cn} (hc : (lvs cs s g)[i]? = some c) (hd : cs[i]? = some d) : c.ss = wo d.ss s g ∧ c.rs = wo d.rs s g := by
  rw [lvs_get hd] at hc
  injection hc with e
  subst e
  exact ⟨rfl, rfl⟩
theorem wk_snd {N : Nat} {cs : List Cn} (h : Gd N cs) (ch s g v : Int) : WkOk cs (sndF cs ch s g v) := by
  unfold sndF
  split
  · exact wk_same rfl rfl
  · rcases cAt_cases cs ch with ⟨i, c, rfl, hc, e⟩ | ⟨_, e⟩ <;> rw [e]
    · have mem := List.mem_of_getElem? hc
      dsimp only
      unfold sndI
      split
      · exact wk_same rfl rfl
      · split
        · rename_i r rr er
          exact wk_leave rfl (h.g c mem r (.inr (by rw [er]; exact List.mem_cons_self))) (lvs_len _ _ _) (fun j a b ha hb => lvs_at ha hb)
        · split
          · exact wk_set hc rfl rfl (Bg.refl _) (Bg.refl _)
          · exact wk_set hc rfl rfl (Bg.one _ _) (Bg.refl _)
    · exact wk_same rfl rfl
theorem wk_rcv {N : Nat} {cs : List Cn} (h : Gd N cs) (ch s g : Int) : WkOk cs (rcvF cs ch s g) := by
  unfold rcvF
  split
  · exact wk_same rfl rfl
  · rcases cAt_cases cs ch with ⟨i, c, rfl, hc, e⟩ | ⟨_, e⟩ <;> rw [e]
    · have mem := List.mem_of_getElem? hc
      have hi := (List.getElem?_eq_some_iff.1 hc).1
      dsimp only
      unfold rcvI
      split
      · rename_i x r ex
        have hx := h.g c mem x (.inl (by rw [ex]; exact List.mem_cons_self))
        split
        · refine wk_leave rfl hx (by dsimp only; rw [List.length_set]; exact lvs_len _ _ _) (fun j a b ha hb => ?_)
          dsimp only at ha ⊢
          by_cases ej : i = j
          · subst ej
            rw [List.getElem?_set_self (by rw [lvs_len]; exact hi)] at ha
            injection ha with ha
            subst ha
            rw [hc] at hb
            injection hb with hb
            subst hb
            exact ⟨rfl, rfl⟩
          · rw [List.getElem?_set_ne ej] at ha
            exact lvs_at ha hb
        · exact wk_leave rfl hx (lvs_len _ _ _) (fun j a b ha hb => lvs_at ha hb)
      · split
        · exact wk_set hc rfl rfl (Bg.refl _) (Bg.refl _)
        · split
          · exact wk_same rfl rfl
          · exact wk_set hc rfl rfl (Bg.refl _) (Bg.one _ _)
    · exact wk_same rfl rfl
theorem lvl_in : ∀ (l : List Wt) (fs : List Cn) (x : Wt), x ∈ l → pls (lvl l fs) x.s x.g = 0 := by
  intro l
  induction l with
  | nil => intro fs x hx; cases hx
  | cons y r ih =>
    intro fs x hx
    rw [lvl_cons]
    rcases List.mem_cons.1 hx with hx | hx
    · subst hx
      have := pls_lvl_le r x.s x.g (lvs fs x.s x.g)
      rw [pls_lvs] at this
      omega
    · exact ih _ x hx
theorem wkF_mem : ∀ (l : List Wt) (fs : List Cn) (x : Wt), x ∈ wkF fs l → x ∈ l := by
  intro l
  induction l with
  | nil => intro fs x hx; cases hx
  | cons y r ih =>
    intro fs x hx
    unfold wkF at hx
    split at hx
    · rcases List.mem_cons.1 hx with hx | hx
      · subst hx; exact List.mem_cons_self
      · exact List.mem_cons_of_mem _ (ih _ _ hx)
    · exact List.mem_cons_of_mem _ (ih _ _ hx)
theorem lvl_alike : ∀ (l : List Wt) (ps qs : List Cn) (j : Nat) (y z a b : Cn), ps[j]? = some y → qs[j]? = some z → y.ss = z.ss → y.rs = z.rs → (lvl l ps)[j]? = some a → (lvl l qs)[j]? = some b → a.ss = b.ss ∧ a.rs = b.rs := by
  intro l
  induction l with
  | nil =>
    intro ps qs j y z a b h1 h2 h3 h4 h5 h6
    rw [lvl_nil, h1] at h5
    rw [lvl_nil, h2] at h6
    injection h5 with h5
    injection h6 with h6
    subst h5 h6
    exact ⟨h3, h4⟩
  | cons x r ih =>
    intro ps qs j y z a b h1 h2 h3 h4 h5 h6
    rw [lvl_cons] at h5 h6
    exact ih _ _ j _ _ a b (lvs_get h1 _ _) (lvs_get h2 _ _) (by show wo y.ss _ _ = wo z.ss _ _; rw [h3]) (by show wo y.rs _ _ = wo z.rs _ _; rw [h4]) h5 h6
theorem wk_cls {N : Nat} {cs : List Cn} (h : Gd N cs) (ch : Int) : WkOk cs (clsF cs ch) := by
  unfold clsF
  rcases cAt_cases cs ch with ⟨i, c, rfl, hc, e⟩ | ⟨_, e⟩ <;> rw [e]
  · have mem := List.mem_of_getElem? hc
    have hi := (List.getElem?_eq_some_iff.1 hc).1
    dsimp only
    split
    · exact wk_same rfl rfl
    · have hks : ∀ k ∈ cwK cs i c, ∃ x, x ∈ cw1 cs i c ++ cw2 cs i c ∧ x.s = k.s ∧ x.g = k.g := by
        intro k hk
        unfold cwK at hk
        rcases List.mem_append.1 hk with q | q
        · obtain ⟨x, hx, rfl⟩ := List.mem_map.1 q
          exact ⟨x, List.mem_append.2 (.inl hx), rfl, rfl⟩
        · obtain ⟨x, hx, rfl⟩ := List.mem_map.1 q
          exact ⟨x, List.mem_append.2 (.inr hx), rfl, rfl⟩
      refine ⟨by dsimp only; unfold cwC; rw [lvl_len]; unfold sh2; rw [List.length_set], ?_, ?_, ?_⟩
      · intro k hk
        obtain ⟨x, hx, e1, e2⟩ := hks k hk
        rw [← e1, ← e2]
        rcases List.mem_append.1 hx with q | q
        · exact h.g c mem x (.inr (wkF_mem _ _ _ q))
        · exact h.g c mem x (.inl (wkF_mem _ _ _ q))
      · intro k hk
        obtain ⟨x, hx, e1, e2⟩ := hks k hk
        rw [← e1, ← e2]
        exact lvl_in _ _ _ hx
      · intro j a b ha hb
        dsimp only at ha hb
        unfold cwC at ha
        unfold cwK at hb
        rw [lvK_app, lvK_map, lvK_map, ← lvl_app] at hb
        have hj : j < cs.length := by
          have := (List.getElem?_eq_some_iff.1 hb).1
          rw [lvl_len] at this
          exact this
        have hq : cs[j]? = some cs[j] := List.getElem?_eq_getElem hj
        obtain ⟨y, hy, e3, e4⟩ : ∃ y, (sh2 cs i c)[j]? = some y ∧ y.ss = cs[j].ss ∧ y.rs = cs[j].rs := by
          unfold sh2
          by_cases ej : i = j
          · subst ej
            rw [List.getElem?_set_self hi]
            rw [hc] at hq
            injection hq with hq
            rw [← hq]
            exact ⟨_, rfl, rfl, rfl⟩
          · rw [List.getElem?_set_ne ej, hq]
            exact ⟨_, rfl, rfl, rfl⟩
        obtain ⟨r1, r2⟩ := lvl_alike _ _ _ j y _ a b hy hq e3 e4 ha hb
        rw [r1, r2]
        exact ⟨Bg.refl _, Bg.refl _⟩
  · exact wk_same rfl rfl
theorem alB_iff (ss rs : List Wt) : alB ss rs = true ↔ (ss = [] ∨ rs = [] ∨ ∃ s g, (∀ x ∈ ss, isG s g x = true) ∧ ∀ x ∈ rs, isG s g x = true) := by
  unfold alB
  cases ss with
  | nil => simp
  | cons x r =>
    cases rs with
    | nil => simp
    | cons y q =>
      dsimp only
      rw [Bool.and_eq_true, List.all_eq_true, List.all_eq_true]
      constructor
      · intro h; exact .inr (.inr ⟨x.s, x.g, h.1, h.2⟩)
      · rintro (h | h | ⟨s, g, h1, h2⟩)
        · cases h
        · cases h
        · have hx := h1 x List.mem_cons_self
          unfold isG at hx
          simp at hx
          rw [hx.1, hx.2]
          exact ⟨h1, h2⟩
theorem mayB_iff (cp : Int) (vs : List Int) (ss rs : List Wt) (cl : Bool) : mayB cp vs ss rs cl = true ↔ ((ss = [] ∨ rs = [] ∨ ∃ s g, (∀ x ∈ ss, isG s g x = true) ∧ ∀ x ∈ rs, isG s g x = true) ∧ (ss = [] ∨ cp ≤ (vs.length : Int)) ∧ (rs = [] ∨ vs = []) ∧ (∀ y ∈ rs, y.v = 0) ∧ (cl = true → ss = [] ∧ rs = [])) := by
  unfold mayB
  rw [Bool.and_eq_true, alB_iff]
  refine and_congr Iff.rfl ?_
  rw [Bool.and_eq_true, Bool.and_eq_true, List.all_eq_true]
  have e1 : (!((decide (0 < ss.length) && decide ((vs.length : Int) < cp)) || (decide (0 < rs.length) && decide (0 < vs.length)))) = true ↔ (ss = [] ∨ cp ≤ (vs.length : Int)) ∧ (rs = [] ∨ vs = []) := by
    rw [Bool.not_eq_true', Bool.or_eq_false_iff, Bool.and_eq_false_iff, Bool.and_eq_false_iff]
    simp only [decide_eq_false_iff_not]
    rw [show (¬ 0 < ss.length ↔ ss = []) by rw [← List.length_eq_zero_iff]; omega, show (¬ 0 < rs.length ↔ rs = []) by rw [← List.length_eq_zero_iff]; omega, show (¬ 0 < vs.length ↔ vs = []) by rw [← List.length_eq_zero_iff]; omega, Int.not_lt]
  have e2 : (!cl || (decide (ss.length = 0) && decide (rs.length = 0))) = true ↔ (cl = true → ss = [] ∧ rs = []) := by
    cases cl <;> simp
  rw [e1, e2, and_assoc]
  simp
theorem wo_mem {x : Wt} {l : List Wt} {s g : Int} (h : x ∈ wo l s g) : x ∈ l := (List.mem_filter.1 h).1
/-- a channel may be so -/
def MayC (c : Cn) : Prop := mayB c.cap c.vs c.ss c.rs c.cl = true
theorem MayC.wo {c : Cn} (h : MayC c) (s g : Int) : MayC (c.wo s g) := by
  unfold MayC at *
  rw [mayB_iff] at *
  obtain ⟨h1, h2, h3, h4, h5⟩ := h
  unfold Cn.wo
  dsimp only
  refine ⟨?_, ?_, ?_, fun y hy => h4 y (wo_mem hy), fun e => ?_⟩
  · rcases h1 with e | e | ⟨a, b, e1, e2⟩
    · left; rw [e]; rfl
    · right; left; rw [e]; rfl
    · right; right; exact ⟨a, b, fun x hx => e1 x (wo_mem hx), fun x hx => e2 x (wo_mem hx)⟩
  · rcases h2 with e | e
    · left; rw [e]; rfl
    · exact .inr e
  · rcases h3 with e | e
    · left; rw [e]; rfl
    · exact .inr e
  · obtain ⟨e1, e2⟩ := h5 e
    rw [e1, e2]
    exact ⟨rfl, rfl⟩
/-- channels may be so -/
def MayL (cs : List Cn) : Prop := ∀ c ∈ cs, MayC c
theorem MayL.lvs {cs : List Cn} (h : MayL cs) (s g : Int) : MayL (lvs cs s g) := by
  intro d hd
  obtain ⟨c, hc, rfl⟩ := List.mem_map.1 hd
  exact (h c hc).wo s g
theorem MayL.lvl (l : List Wt) : ∀ {cs : List Cn}, MayL cs → MayL (lvl l cs) := by
  induction l with
  | nil => intro cs h; exact h
  | cons x r ih => intro cs h; exact ih (h.lvs _ _)
theorem MayL.set {cs : List Cn} (h : MayL cs) (i : Nat) {d : Cn} (hd : MayC d) : MayL (cs.set i d) := by
  intro e he
  rcases List.mem_or_eq_of_mem_set he with q | q
  · exact h e q
  · subst q; exact hd
theorem MayL.snd {cs : List Cn} (h : MayL cs) (ch s g v : Int) : MayL (sndF cs ch s g v).cs := by
  unfold sndF
  split
  · exact h
  · rcases cAt_cases cs ch with ⟨i, c, rfl, hc, e⟩ | ⟨_, e⟩ <;> rw [e]
    · have hm := h c (List.mem_of_getElem? hc)
      dsimp only
      unfold sndI
      split
      · exact h
      · rename_i hcl
        split
        · exact h.lvs _ _
        · rename_i hr
          unfold MayC at hm
          rw [mayB_iff] at hm
          obtain ⟨h1, h2, h3, h4, h5⟩ := hm
          split
          · rename_i hl
            refine h.set i ?_
            unfold MayC
            rw [mayB_iff]
            dsimp only
            have hs : c.ss = [] := by rcases h2 with e | e; exact e; omega
            exact ⟨.inl hs, .inl hs, .inl hr, h4, h5⟩
          · rename_i hl
            refine h.set i ?_
            unfold MayC
            rw [mayB_iff]
            dsimp only
            exact ⟨.inr (.inl hr), .inr (by omega), .inl hr, h4, fun e => absurd e hcl⟩
    · exact h
theorem MayL.rcv {cs : List Cn} (h : MayL cs) (ch s g : Int) : MayL (rcvF cs ch s g).cs := by
  unfold rcvF
  split
  · exact h
  · rcases cAt_cases cs ch with ⟨i, c, rfl, hc, e⟩ | ⟨_, e⟩ <;> rw [e]
    · have hm := h c (List.mem_of_getElem? hc)
      have hm0 := hm
      unfold MayC at hm
      rw [mayB_iff] at hm
      obtain ⟨h1, h2, h3, h4, h5⟩ := hm
      dsimp only
      unfold rcvI
      split
      · rename_i x r ex
        have hne : c.ss ≠ [] := by rw [ex]; simp
        have hcl : ¬ c.cl = true := fun e => hne (h5 e).1
        split
        · rename_i u us ev
          refine (h.lvs _ _).set i ?_
          have hvn : c.vs ≠ [] := by rw [ev]; simp
          have hr : c.rs = [] := by rcases h3 with e | e; exact e; exact absurd e hvn
          unfold MayC
          rw [mayB_iff]
          dsimp only
          rw [hr]
          refine ⟨.inr (.inl rfl), .inr ?_, .inl rfl, fun y hy => (by cases hy), fun e => absurd e hcl⟩
          rcases h2 with e | e
          · exact absurd e hne
          · rw [ev] at e
            simp only [List.length_cons, List.length_append, List.length_nil] at e ⊢
            omega
        · exact h.lvs _ _
      · rename_i ex
        split
        · rename_i u us ev
          refine h.set i ?_
          have hvn : c.vs ≠ [] := by rw [ev]; simp
          have hr : c.rs = [] := by rcases h3 with e | e; exact e; exact absurd e hvn
          unfold MayC
          rw [mayB_iff]
          dsimp only
          exact ⟨.inl ex, .inl ex, .inl hr, h4, h5⟩
        · rename_i ev
          split
          · exact h
          · rename_i hcl
            refine h.set i ?_
            unfold MayC
            rw [mayB_iff]
            dsimp only
            refine ⟨.inl ex, .inl ex, .inr ev, ?_, fun e => absurd e hcl⟩
            intro y hy
            rcases List.mem_append.1 hy with q | q
            · exact h4 y q
            · rw [List.mem_singleton] at q; subst q; rfl
    · exact h
theorem MayL.cls {cs : List Cn} (h : MayL cs) (ch : Int) : MayL (clsF cs ch).cs := by
  unfold clsF
  rcases cAt_cases cs ch with ⟨i, c, rfl, hc, e⟩ | ⟨_, e⟩ <;> rw [e]
  · dsimp only
    split
    · exact h
    · dsimp only
      rw [← cw_same hc]
      refine MayL.lvl _ ?_
      refine h.set i ?_
      unfold MayC
      rw [mayB_iff]
      exact ⟨.inl rfl, .inl rfl, .inl rfl, fun y hy => (by cases hy), fun _ => ⟨rfl, rfl⟩⟩
  · exact h
theorem MayL.act {cs : List Cn} (h : MayL cs) (a : Ac) : MayL (actF cs a) := by
  unfold actF
  split
  · unfold mkF
    split
    · intro d hd
      rcases List.mem_append.1 hd with q | q
      · exact h d q
      · rw [List.mem_singleton] at q
        subst q
        unfold MayC
        rw [mayB_iff]
        exact ⟨.inl rfl, .inl rfl, .inl rfl, fun y hy => (by cases hy), fun _ => ⟨rfl, rfl⟩⟩
    · exact h
  · split
    · exact h.snd _ _ _ _
    · split
      · exact h.rcv _ _ _
      · split
        · exact h.cls _
        · split
          · split
            · rename_i hf
              unfold wtF
              unfold fitB at hf
              rcases cAt_cases cs a.ch with ⟨i, c, e1, hc, e⟩ | ⟨_, e⟩
              · rw [e] at hf ⊢
                dsimp only at hf ⊢
                split
                · rename_i hsd
                  rw [if_pos hsd] at hf
                  exact h.set i hf
                · rename_i hsd
                  rw [if_neg hsd] at hf
                  exact h.set i hf
              · rw [e]; exact h
            · exact h
          · split
            · exact h.lvs _ _
            · exact h
/-- the channels behind acts -/
def runR (cs : List Cn) (l : List Ac) : List Cn := l.foldl actF cs
theorem runR_snoc (cs : List Cn) (l : List Ac) (a : Ac) : runR cs (l ++ [a]) = actF (runR cs l) a := by unfold runR; rw [List.foldl_append]; rfl
theorem gr_nil : Gd 0 [] := ⟨Nat.zero_le _, fun c hc => (by cases hc), fun c hc => (by cases hc), Nat.le_refl _, fun c hc => (by cases hc)⟩
theorem gr_run {N : Nat} {cs : List Cn} (h : Gd N cs) : ∀ l : List Ac, (∀ a ∈ l, Gok a.s a.g) → Gd (N + l.length) (runR cs l) := by
  intro l
  induction l generalizing N cs with
  | nil => intro _; exact h
  | cons a r ih =>
    intro hk
    have := ih (h.act a (hk a List.mem_cons_self)) (fun b hb => hk b (List.mem_cons_of_mem _ hb))
    refine (show Gd (N + (a :: r).length) (runR (actF cs a) r) from ?_)
    rw [List.length_cons, show N + (r.length + 1) = N + 1 + r.length by omega]
    exact this
theorem may_run {cs : List Cn} (h : MayL cs) (l : List Ac) : MayL (runR cs l) := by
  induction l generalizing cs with
  | nil => exact h
  | cons a r ih => exact ih (h.act a)
theorem rdr_empty (w : World) (T : TypeId) (P : Nat → Prop) : Rds P (w.alloc (.cells #[] T)) (.slice (some ⟨w.heap.size, 0, none⟩) 0 0) [] :=
  ⟨[], ⟨_, _, rfl, ⟨Nat.le_refl _, fun e => (by cases e)⟩, .inl rfl⟩, rfl, fun i x c hx => (by simp at hx)⟩
theorem Gd.lvK {N : Nat} (l : List Wk) : ∀ {cs : List Cn}, Gd N cs → Gd N (lvK l cs) := by
  induction l with
  | nil => intro cs h; exact h
  | cons x r ih => intro cs h; exact ih (h.lvs x.s x.g)
/-- what a call that may wake answers -/
def wakO (cs : List Cn) (a : Ac) : Ot := if a.k = 1 then sndF cs a.ch a.s a.g a.v else if a.k = 2 then rcvF cs a.ch a.s a.g else clsF cs a.ch
theorem wakO_ok {N : Nat} {cs : List Cn} (h : Gd N cs) (a : Ac) (ha : Gok a.s a.g) : WkOk cs (wakO cs a) ∧ Gd (N + 1) (wakO cs a).cs ∧ (wakO cs a).ks.length ≤ N + 1 := by
  unfold wakO
  split
  · exact ⟨wk_snd h _ _ _ _, h.snd _ _ _ _ ha, Nat.le_trans (snd_ks _ _ _ _ _) (by omega)⟩
  · split
    · exact ⟨wk_rcv h _ _ _, h.rcv _ _ _ ha, Nat.le_trans (rcv_ks _ _ _ _) (by omega)⟩
    · exact ⟨wk_cls h _, (h.cls _).up (by omega), Nat.le_trans (cls_ks h _) (by omega)⟩
end Go.Proofs.Ytpkbgfneebjnjaa.Lt
