/-
  Timers as plain lists: the order, one more, those that are due. No conditions.
-/
import Derived.Test.YtgkapopkjgljjaaGnWorld
namespace Go.Proofs.Ytgkapopkjgljjaa.Lt

/-- a timer: its name, its kind, its goroutine, its channel, when it is due, or never, its period -/
structure Tk where
  id : Int
  kind : Int
  s : Int
  g : Int
  ch : Int
  wh : Int
  nv : Bool
  pd : Int
/-- does one that is armed now stand behind another one? -/
def behind (t u : Tk) : Bool := if u.nv || t.nv then t.nv else decide (u.wh ≤ t.wh)
/-- the timers with one more, armed now -/
def putL : List Tk → Tk → List Tk
  | [], t => [t]
  | u :: r, t => if behind t u then u :: putL r t else t :: u :: r
/-- a timer with its number -/
abbrev Tn := Tk × Int
def ltN (x y : Tn) : Prop := x.1.wh < y.1.wh ∨ (x.1.wh = y.1.wh ∧ x.2 < y.2)
def SrtN (P : List Tn) : Prop := P.Pairwise ltN
def insN : List Tn → Tn → List Tn
  | [], x => [x]
  | u :: r, x => if u.1.wh ≤ x.1.wh then u :: insN r x else x :: u :: r
/-- those that are ever due, the others, and all of them in their order -/
structure Ord (P Q : List Tn) (L : List Tk) : Prop where
  eq : L = P.map (·.1) ++ Q.map (·.1)
  sp : SrtN P
  sq : SrtN Q
  np : ∀ x ∈ P, x.1.nv = false
  nq : ∀ x ∈ Q, x.1.nv = true ∧ x.1.wh = 0
theorem putL_perm : ∀ (L : List Tk) (t : Tk), (putL L t).Perm (t :: L)
  | [], t => List.Perm.refl _
  | u :: r, t => by
    unfold putL
    split
    · exact ((putL_perm r t).cons u).trans (List.Perm.swap t u r)
    · exact List.Perm.refl _
theorem insN_perm : ∀ (P : List Tn) (x : Tn), (insN P x).Perm (x :: P)
  | [], x => List.Perm.refl _
  | u :: r, x => by
    unfold insN
    split
    · exact ((insN_perm r x).cons u).trans (List.Perm.swap x u r)
    · exact List.Perm.refl _
theorem insN_srt : ∀ {P : List Tn} {x : Tn}, SrtN P → (∀ y ∈ P, y.2 < x.2) → SrtN (insN P x)
  | [], x, _, _ => by simp [insN, SrtN]
  | u :: r, x, h, hn => by
    have h' := List.pairwise_cons.1 h
    unfold insN
    split
    · rename_i hu
      refine List.pairwise_cons.2 ⟨fun y hy => ?_, insN_srt h'.2 (fun y hy => hn y (List.mem_cons_of_mem _ hy))⟩
      rcases List.mem_cons.1 ((insN_perm r x).mem_iff.1 hy) with rfl | hy
      · have := hn u List.mem_cons_self
        unfold ltN
        omega
      · exact h'.1 y hy
    · rename_i hu
      refine List.pairwise_cons.2 ⟨fun y hy => ?_, h⟩
      rcases List.mem_cons.1 hy with rfl | hy
      · unfold ltN; omega
      · have := h'.1 y hy
        unfold ltN at *
        omega
theorem putL_ever : ∀ (P Q : List Tn) (x : Tn), (∀ y ∈ P, y.1.nv = false) → (∀ y ∈ Q, y.1.nv = true) → x.1.nv = false → putL (P.map (·.1) ++ Q.map (·.1)) x.1 = (insN P x).map (·.1) ++ Q.map (·.1)
  | [], [], x, _, _, _ => rfl
  | [], q :: Q, x, _, hq, hx => by
    have h1 := hq q List.mem_cons_self
    simp [putL, insN, behind, h1, hx]
  | u :: P, Q, x, hp, hq, hx => by
    have h1 := hp u List.mem_cons_self
    have ih := putL_ever P Q x (fun y hy => hp y (List.mem_cons_of_mem _ hy)) hq hx
    simp only [List.map_cons, List.cons_append, putL, insN, behind, h1, hx, Bool.or_self]
    by_cases hu : u.1.wh ≤ x.1.wh
    · simp [hu, ih]
    · simp [hu]
theorem putL_never : ∀ (L : List Tk) (t : Tk), t.nv = true → putL L t = L ++ [t]
  | [], t, _ => rfl
  | u :: r, t, h => by simp [putL, behind, h, putL_never r t h]
theorem Ord.put {P Q : List Tn} {L : List Tk} (h : Ord P Q L) (x : Tn) (hx : x.1.nv = false) (hn : ∀ y ∈ P, y.2 < x.2) : Ord (insN P x) Q (putL L x.1) where
  eq := by rw [h.eq]; exact putL_ever P Q x h.np (fun y hy => (h.nq y hy).1) hx
  sp := insN_srt h.sp hn
  sq := h.sq
  np := fun y hy => by
    rcases List.mem_cons.1 ((insN_perm P x).mem_iff.1 hy) with rfl | hy
    · exact hx
    · exact h.np y hy
  nq := h.nq
theorem Ord.putN {P Q : List Tn} {L : List Tk} (h : Ord P Q L) (x : Tn) (hx : x.1.nv = true) (h0 : x.1.wh = 0) (hn : ∀ y ∈ Q, y.2 < x.2) : Ord P (Q ++ [x]) (putL L x.1) where
  eq := by rw [h.eq, putL_never _ _ hx]; simp
  sp := h.sp
  sq := by
    refine List.pairwise_append.2 ⟨h.sq, by simp, fun y hy z hz => ?_⟩
    simp only [List.mem_singleton] at hz
    subst hz
    have := hn y hy
    have := (h.nq y hy).2
    unfold ltN
    omega
  np := h.np
  nq := fun y hy => by
    rcases List.mem_append.1 hy with hy | hy
    · exact h.nq y hy
    · simp only [List.mem_singleton] at hy
      subst hy
      exact ⟨hx, h0⟩
theorem Ord.filter {P Q : List Tn} {L : List Tk} (h : Ord P Q L) (p : Tk → Bool) : Ord (P.filter (fun x => p x.1)) (Q.filter (fun x => p x.1)) (L.filter p) where
  eq := by
    rw [h.eq, List.filter_append, List.filter_map, List.filter_map]
    rfl
  sp := List.Pairwise.filter _ h.sp
  sq := List.Pairwise.filter _ h.sq
  np := fun y hy => h.np y (List.mem_filter.1 hy).1
  nq := fun y hy => h.nq y (List.mem_filter.1 hy).1
theorem Ord.head {P Q : List Tn} {r : List Tk} {t : Tk} (h : Ord P Q (t :: r)) (ht : t.nv = false) : ∃ n P', P = (t, n) :: P' ∧ Ord P' Q r := by
  cases P with
  | nil =>
    cases Q with
    | nil => have := h.eq; simp at this
    | cons q Q =>
      have e := h.eq
      simp only [List.map_nil, List.nil_append, List.map_cons, List.cons.injEq] at e
      have := (h.nq q List.mem_cons_self).1
      rw [← e.1, ht] at this
      cases this
  | cons p P =>
    have e := h.eq
    simp only [List.map_cons, List.cons_append, List.cons.injEq] at e
    refine ⟨p.2, P, ?_, e.2, (List.pairwise_cons.1 h.sp).2, h.sq, fun y hy => h.np y (List.mem_cons_of_mem _ hy), h.nq⟩
    rw [e.1]
theorem Ord.none {P Q : List Tn} {L : List Tk} (h : Ord P Q L) (hL : ∀ t r, L = t :: r → t.nv = true) : P = [] := by
  cases P with
  | nil => rfl
  | cons p P =>
    have e := h.eq
    simp only [List.map_cons, List.cons_append] at e
    have := hL _ _ e
    rw [h.np p List.mem_cons_self] at this
    cases this
/-- in order -/
def SrtL (L : List Tk) : Prop := L.Pairwise (fun a b => b.nv = true ∨ (a.nv = false ∧ a.wh ≤ b.wh))
theorem Ord.srt {P Q : List Tn} {L : List Tk} (h : Ord P Q L) : SrtL L := by
  unfold SrtL
  rw [h.eq]
  refine List.pairwise_append.2 ⟨?_, ?_, fun a ha b hb => ?_⟩
  · rw [List.pairwise_map]
    refine List.Pairwise.imp_of_mem (fun {a b} ha hb hl => ?_) h.sp
    right
    refine ⟨h.np a ha, ?_⟩
    unfold ltN at hl
    omega
  · rw [List.pairwise_map]
    exact List.Pairwise.imp_of_mem (fun {a b} ha hb _ => .inl (h.nq b hb).1) h.sq
  · obtain ⟨y, hy, rfl⟩ := List.mem_map.1 hb
    exact .inl (h.nq y hy).1
theorem Ord.nil : Ord [] [] [] := ⟨rfl, List.Pairwise.nil, List.Pairwise.nil, fun _ h => by simp at h, fun _ h => by simp at h⟩
/-- every name once -/
def Uid (L : List Tk) : Prop := (L.map (·.id)).Nodup
/-- those that sleep -/
def slp (t : Tk) : Bool := t.kind == 1
def gid (t : Tk) : Int × Int := (t.s, t.g)
/-- every goroutine sleeps once -/
def Ugs (L : List Tk) : Prop := ((L.filter slp).map gid).Nodup
def isId (i : Int) (t : Tk) : Bool := !(t.id == i)
theorem Uid.head {t : Tk} {r : List Tk} (h : Uid (t :: r)) : (t :: r).filter (isId t.id) = r := by
  have h' := List.nodup_cons.1 (show (t.id :: r.map (·.id)).Nodup from h)
  have e1 : isId t.id t = false := by simp [isId]
  rw [List.filter_cons_of_neg (by rw [e1]; simp)]
  refine List.filter_eq_self.2 (fun u hu => ?_)
  simp only [isId, Bool.not_eq_true', beq_eq_false_iff_ne]
  intro e
  exact h'.1 (List.mem_map.2 ⟨u, hu, e⟩)
theorem Uid.filter {L : List Tk} (h : Uid L) (p : Tk → Bool) : Uid (L.filter p) := List.Nodup.sublist (List.Sublist.map _ List.filter_sublist) h
theorem Ugs.filter {L : List Tk} (h : Ugs L) (p : Tk → Bool) : Ugs (L.filter p) := by
  unfold Ugs at *
  rw [List.filter_filter]
  rw [show (fun a => slp a && p a) = (fun a => p a && slp a) from funext fun a => Bool.and_comm _ _, ← List.filter_filter]
  exact List.Nodup.sublist (List.Sublist.map _ List.filter_sublist) h
theorem Uid.put {L : List Tk} (h : Uid L) {t : Tk} (ht : ∀ u ∈ L, u.id ≠ t.id) : Uid (putL L t) := by
  unfold Uid
  refine ((putL_perm L t).map _).nodup_iff.2 ?_
  rw [List.map_cons]
  refine List.nodup_cons.2 ⟨fun hm => ?_, h⟩
  obtain ⟨u, hu, e⟩ := List.mem_map.1 hm
  exact ht u hu e
theorem Ugs.put {L : List Tk} (h : Ugs L) {t : Tk} (ht : slp t = true → ∀ u ∈ L, slp u = true → gid u ≠ gid t) : Ugs (putL L t) := by
  unfold Ugs
  refine (((putL_perm L t).filter _).map _).nodup_iff.2 ?_
  by_cases hs : slp t = true
  · rw [List.filter_cons_of_pos hs, List.map_cons]
    refine List.nodup_cons.2 ⟨fun hm => ?_, h⟩
    obtain ⟨u, hu, e⟩ := List.mem_map.1 hm
    exact ht hs u (List.mem_filter.1 hu).1 (List.mem_filter.1 hu).2 e
  · rw [List.filter_cons_of_neg hs]
    exact h
/-- by its name one can be found -/
theorem Uid.one {L : List Tk} (h : Uid L) {t u : Tk} (ht : t ∈ L) (hu : u ∈ L) (e : t.id = u.id) : t = u := by
  obtain ⟨i, hi⟩ := List.mem_iff_getElem?.1 ht
  obtain ⟨j, hj⟩ := List.mem_iff_getElem?.1 hu
  have h1 : (L.map (·.id))[i]? = some t.id := by rw [List.getElem?_map, hi]; rfl
  have h2 : (L.map (·.id))[j]? = some t.id := by rw [List.getElem?_map, hj, e]; rfl
  have := (List.getElem?_inj (List.getElem?_eq_some_iff.1 h1).1 h).1 (h1.trans h2.symm)
  subst this
  rw [hi] at hj
  injection hj
/-- what is due some ticks from a tick on -/
def laterT (t : Tk) (a k : Int) : Tk := if a + k < 18446744073709551616 then { t with wh := a + k, nv := false } else { t with wh := 0, nv := true }
theorem laterT_id (t : Tk) (a k : Int) : (laterT t a k).id = t.id := by unfold laterT; split <;> rfl
theorem laterT_kind (t : Tk) (a k : Int) : (laterT t a k).kind = t.kind := by unfold laterT; split <;> rfl
theorem laterT_pd (t : Tk) (a k : Int) : (laterT t a k).pd = t.pd := by unfold laterT; split <;> rfl
theorem laterT_gid (t : Tk) (a k : Int) : gid (laterT t a k) = gid t := by unfold laterT; split <;> rfl
theorem laterT_nv (t : Tk) (a k : Int) : (laterT t a k).nv = true → (laterT t a k).wh = 0 := by
  unfold laterT; split
  · intro h; cases h
  · intro _; rfl
/-- a timer's numbers are numbers of their kinds -/
structure Tok (t : Tk) : Prop where
  w0 : 0 ≤ t.wh
  w1 : t.wh < 18446744073709551616
  wn : t.nv = true → t.wh = 0
  p0 : 0 ≤ t.pd
  p1 : t.pd < 18446744073709551616
  kp : t.kind = 3 → 0 < t.pd
  s0 : -9223372036854775808 ≤ t.s
  s1 : t.s ≤ 9223372036854775807
  g0 : -9223372036854775808 ≤ t.g
  g1 : t.g ≤ 9223372036854775807
theorem Tok.later {t : Tk} (h : Tok t) (a k : Int) (h0 : 0 ≤ a + k) : Tok (laterT t a k) := by
  unfold laterT
  split
  · rename_i hl
    exact { h with w0 := h0, w1 := hl, wn := fun e => by cases e }
  · exact { h with w0 := Int.le_refl 0, w1 := by simp, wn := fun _ => rfl }
/-- one is due -/
def isDue (now : Int) (t : Tk) : Bool := !t.nv && decide (t.wh ≤ now)
/-- as it runs on -/
def rearm (now : Int) (t : Tk) : Tk := laterT t (now - (now - t.wh) % t.pd) t.pd
/-- behind one of those that were due -/
def onL (now : Int) (R : List Tk) (t : Tk) : List Tk := if t.kind == 3 then putL R (rearm now t) else R
def duesL (now : Int) (L : List Tk) : List Tk := L.takeWhile (isDue now)
def leftL (now : Int) (L : List Tk) : List Tk := L.dropWhile (isDue now)
def dueL (now : Int) (L : List Tk) : List Tk := (duesL now L).foldl (onL now) (leftL now L)
theorem putL_due {now : Int} : ∀ (D R : List Tk) (x : Tk), (∀ t ∈ D, isDue now t = true) → isDue now x = false → putL (D ++ R) x = D ++ putL R x
  | [], _, _, _, _ => rfl
  | d :: D, R, x, hD, hx => by
    have hd := hD d List.mem_cons_self
    have ih := putL_due D R x (fun t ht => hD t (List.mem_cons_of_mem _ ht)) hx
    have hb : behind x d = true := by
      simp only [isDue, Bool.and_eq_true, Bool.not_eq_true', decide_eq_true_eq, Bool.and_eq_false_iff, Bool.not_eq_false', decide_eq_false_iff_not] at hd hx
      unfold behind
      rw [hd.1, Bool.false_or]
      rcases hx with hx | hx
      · simp [hx]
      · split
        · assumption
        · simp; omega
    show (if behind x d then d :: putL (D ++ R) x else x :: d :: (D ++ R)) = _
    rw [if_pos hb, ih]
    rfl
theorem rearm_not {now : Int} {t : Tk} (hp : 0 < t.pd) : isDue now (rearm now t) = false := by
  have hm := Int.emod_lt_of_pos (now - t.wh) hp
  have hm0 := Int.emod_nonneg (now - t.wh) (by omega : t.pd ≠ 0)
  unfold rearm laterT
  split
  · simp [isDue]; omega
  · simp [isDue]
theorem left_all {now : Int} {L : List Tk} (h : SrtL L) : ∀ t ∈ leftL now L, isDue now t = false := by
  induction L with
  | nil => intro t ht; simp [leftL] at ht
  | cons u r ih =>
    have h' := List.pairwise_cons.1 h
    intro t ht
    unfold leftL at ht
    by_cases hu : isDue now u = true
    · rw [List.dropWhile_cons_of_pos hu] at ht
      exact ih h'.2 t ht
    · rw [List.dropWhile_cons_of_neg hu] at ht
      rcases List.mem_cons.1 ht with rfl | ht
      · simpa using hu
      · have := h'.1 t ht
        simp only [isDue, Bool.and_eq_true, Bool.not_eq_true', decide_eq_true_eq, not_and, Bool.and_eq_false_iff, Bool.not_eq_false', decide_eq_false_iff_not] at hu ⊢
        rcases this with h2 | ⟨h2, h3⟩
        · exact .inl h2
        · right
          have := hu h2
          omega
theorem dues_all {now : Int} {L : List Tk} : ∀ t ∈ duesL now L, isDue now t = true := by
  intro t ht
  unfold duesL at ht
  induction L with
  | nil => simp at ht
  | cons u r ih =>
    by_cases hu : isDue now u = true
    · rw [List.takeWhile_cons_of_pos hu] at ht
      rcases List.mem_cons.1 ht with rfl | ht
      · exact hu
      · exact ih ht
    · rw [List.takeWhile_cons_of_neg hu] at ht
      simp at ht
theorem dues_left (now : Int) (L : List Tk) : duesL now L ++ leftL now L = L := List.takeWhile_append_dropWhile
theorem onL_not {now : Int} {R : List Tk} {t : Tk} (h : Tok t) (hR : ∀ u ∈ R, isDue now u = false) : ∀ u ∈ onL now R t, isDue now u = false := by
  intro u hu
  unfold onL at hu
  split at hu
  · rename_i hk
    rcases List.mem_cons.1 ((putL_perm _ _).mem_iff.1 hu) with rfl | hu
    · exact rearm_not (h.kp (by simpa using hk))
    · exact hR u hu
  · exact hR u hu
end Go.Proofs.Ytgkapopkjgljjaa.Lt
