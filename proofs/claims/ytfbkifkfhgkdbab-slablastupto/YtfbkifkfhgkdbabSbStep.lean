/-
  Steps for what writes in layer 4: an append at a step of a drawn region, a delete of any span, what a state is behind a store; a slab whose blocks lie in a set. No conditions.
-/
import Derived.Test.YtfbkifkfhgkdbabSbDelete0
import Derived.Deep.RegionHeld3
namespace Go.Proofs.Ytfbkifkfhgkdbab.Sb
open Go.RowKit

theorem wp_append_ow {w : World} {o : Oper} {a : Act} {K : Act → World → Prop} {Q : Exit → Act → World → Prop} (s x : Operand) (t e B : Nat) (z : Value) (ht : Try.prog.underlying t = some (.slice e))
    (hinf : (Try.prog.info? e).map (fun i => (i.zero, i.size, i.bytes)) = some (some z, 1, B)) (hzc : z.cells.size = 1)
    (ho : o.op = .call { callee := .builtin .append, args := #[s, x], argTypes := #[t, t] })
    (base : Nat) (v : Value) (xs : List Value) (hs : a.eval s = v) (hown : Ow e base w v xs) (P : Nat → Prop) (sv : Value) (ys : List Value) (hx : a.eval x = sv) (hl : Ls P w sv ys) (hone : ∀ u ∈ ys, u.oneCell' = true)
    (k : Nat) (hk : k = xs.length + ys.length) (hb : k * B ≤ 140737488355328) (hk63 : k ≤ maxLen) (hbase : base ≤ w.heap.size) (zs : List Value) (hz : xs ++ ys = zs)
    (h : ∀ ao cap w', Ow e base w' (.slice ao k cap) zs → Ch (Blk v) w w' → (∀ q, Blk (.slice ao k cap) q → Blk v q ∨ w.heap.size ≤ q) → K (a.put o.dst (.slice ao k cap)) w') : Oper.wp Try.prog o a w K Q := by
  subst hz
  obtain ⟨i0, hi, hz0, hz1, hz2⟩ := info_parts1 hinf
  have hl' := hl
  obtain ⟨ao, cap, rfl, ⟨hcap, hnone⟩, hcase⟩ := hl'
  cases ao with
  | none =>
    have hys : ys = [] := by
      rcases hcase with h0 | ⟨g, o, h1, _⟩
      · exact h0
      · cases h1
    subst hys
    have hc := hnone rfl
    subst hc
    have hrun := run_append_owned_none (P := Try.prog) (w := w) base t o.type e i0 1 ht hi v xs.length _ hown
    unfold Oper.wp
    simp [execOp, ho, resolve, invoke, builtin, hs, hx, hrun, Result.andThen]
    obtain ⟨ao', cap', rfl⟩ := hown.form
    have hkn : k = xs.length := by simpa using hk
    subst hkn
    rw [List.append_nil] at h
    exact h ao' cap' w hown (Ch.refl _ _) (fun _ q => .inl q)
  | some ad =>
    subst hk
    obtain ⟨v', w', hrun, h2, h3, _, h5⟩ := run_append_own_at (P := Try.prog) w base t o.type e i0 _ 1 B ht hi hz0 hz1 hz2 hzc (by omega) v xs.length _ hown ad ys.length cap ys (by omega) hl.news hone hk63 hb hbase
    unfold Oper.wp execOp
    simp only [ho, resolve, invoke, builtin, Sem.run_bind, Sem.run_pure, Result.andThen_ok, List.map_toArray, List.map_cons, List.map_nil, hs, hx, hrun]
    obtain ⟨ao', cap', rfl⟩ := own_form h2
    refine h ao' cap' w' ?_ ((Ch.refl _ _).grown h3 (fun k hk => .inl hk)) ?_
    · show World.ownsRow _ _ _ _ _ _ _
      rw [List.length_append]
      exact h2
    · intro q hq
      rcases h5 with h5 | h5
      · exact .inl (h5.symm.trans hq)
      · right
        have : some q = some w.heap.size := hq.symm.trans h5
        injection this with this
        omega
/-- the same, at a step of a region that draws -/
theorem step_append_ow {w : World} {ops : Array Oper} {o : Oper} {a : Act} {K : Act → World → Prop} {Q : Exit → Act → World → Prop} {E : Prop} (hgd : o.guard = none) (s x : Operand) (t e B : Nat) (z : Value) (ht : Try.prog.underlying t = some (.slice e))
    (hinf : (Try.prog.info? e).map (fun i => (i.zero, i.size, i.bytes)) = some (some z, 1, B)) (hzc : z.cells.size = 1)
    (ho : o.op = .call { callee := .builtin .append, args := #[s, x], argTypes := #[t, t] })
    (base : Nat) (v : Value) (xs : List Value) (hs : a.eval s = v) (hown : Ow e base w v xs) (P : Nat → Prop) (sv : Value) (ys : List Value) (hx : a.eval x = sv) (hl : Ls P w sv ys) (hone : ∀ u ∈ ys, u.oneCell' = true)
    (k : Nat) (hk : k = xs.length + ys.length) (hb : k * B ≤ 140737488355328) (hk63 : k ≤ maxLen) (hbase : base ≤ w.heap.size) (zs : List Value) (hz : xs ++ ys = zs)
    (h : ∀ ao cap w', Ow e base w' (.slice ao k cap) zs → Ch (Blk v) w w' → (∀ q, Blk (.slice ao k cap) q → Blk v q ∨ w.heap.size ≤ q) → K (a.put o.dst (.slice ao k cap)) w') :
    if Region.wanted o (yielded ops a.tmps) = true then Oper.wp Try.prog o a w K Q else E := by
  have hw : Region.wanted o (yielded ops a.tmps) = true := by simp [Region.wanted, hgd]
  rw [if_pos hw]
  exact wp_append_ow s x t e B z ht hinf hzc ho base v xs hs hown P sv ys hx hl hone k hk hb hk63 hbase zs hz h

theorem takeS_on {P : Program} {md : Region.Mode} {ops : Array Oper} {Q : Exit → Act → World → Prop} {S : World → Prop} {i : Nat} (k : Nat) {oi : Oper} {v : Value} {fuel : Nat} {listed : Array Bool} {a : Act} {w : World} (hi : ops[i]? = some oi) (hd : oi.dst = some k)
    (hs : Region.noSelect ops = true) (hf : Region.free md ops listed i = true) (hr : (Region.ready md ops listed).contains i = true)
    (hQ : ∀ c a w, Q (.panic c) (a.put (some k) v) w → Q (.panic c) a w) (hw : Region.wanted oi (yielded ops a.tmps) = true) (hy : ∀ w', S w' → (execOp a.eval oi).run P w' = .ok (.value v) w') (hS : S w)
    (h : wpAnyH P md ops Q S fuel (listed.setIfInBounds i true) (a.put (some k) v) w) : wpAnyH P md ops Q S (fuel + 1) listed a w :=
  wpAnyH_take hi hs hf hr (by rw [hd]; exact hQ) (Or.inl ⟨hw, hy⟩) hS (by rw [hd]; exact h)

theorem Blk.len {ao : Option Addr} {n cap q : Nat} (h : Blk (.slice ao n cap) q) (m : Nat) : Blk (.slice ao m cap) q := by
  cases ao
  · cases h
  · exact h
/-- a list's head part is owned where the list is -/
theorem Ow.take {e base m cap n : Nat} {w : World} {ao : Option Addr} {us : List Value} (h : Ow e base w (.slice ao m cap) us) (hn : n ≤ m) : Ow e base w (.slice ao n cap) (us.take n) := by
  rcases h.2 with ⟨h1, h0⟩ | ⟨g, cap', cur, h1, hb, hg, hc, hm, hs, ht⟩
  · cases h1
    have e1 : us = [] := List.eq_nil_of_length_eq_zero h0
    subst e1
    simp at hn
    subst hn
    exact Ow.nil _ _ _
  · injection h1 with a1 a2 a3
    subst a1 a3
    subst a2
    have hl : (us.take n).length = n := by rw [List.length_take]; omega
    refine ⟨by simp, .inr ⟨g, cap, cur, by rw [hl], hb, hg, by omega, hm, hs, ?_⟩⟩
    rw [Nat.mul_one] at ht ⊢
    rw [hl, ← ht, List.take_take, Nat.min_eq_left hn]
/-- the length of a value -/
theorem Ow.len {e base m cap : Nat} {w : World} {ao : Option Addr} {us : List Value} (h : Ow e base w (.slice ao m cap) us) : m = us.length ∧ m ≤ cap := by
  rcases h.2 with ⟨h1, h0⟩ | ⟨g, cap', cur, h1, hb, hg, hc, hm, hs, ht⟩
  · cases h1
    exact ⟨h0.symm, Nat.le_refl _⟩
  · injection h1 with a1 a2 a3
    subst a3
    exact ⟨a2, by omega⟩
theorem Ls.len {P : Nat → Prop} {m cap : Nat} {w : World} {ao : Option Addr} {us : List Value} (h : Ls P w (.slice ao m cap) us) : m = us.length ∧ m ≤ cap ∧ (ao = none → cap = 0) := by
  obtain ⟨ao', cap', e, hc, _⟩ := h
  injection e with a1 a2 a3
  subst a1 a3
  exact ⟨a2, by omega, hc.2⟩

theorem iv_take (n : Nat) (xs : List Int) : (iv xs).take n = iv (xs.take n) := by simp [iv, List.map_take]
theorem iv_drop (n : Nat) (xs : List Int) : (iv xs).drop n = iv (xs.drop n) := by simp [iv, List.map_drop]
theorem cutOut_iv (i j : Nat) (xs : List Int) : cutOut i j (iv xs) = iv (xs.take i ++ xs.drop j) := by unfold cutOut; rw [iv_take, iv_drop, iv_append]

/-- slices.Delete of any span -/
theorem delete_ow (base n cap i j : Nat) (ao : Option Addr) (xs : List Int) (w : World) (ho : Ow 3 base w (.slice ao n cap) (iv xs)) (hij : i ≤ j) (hj : j ≤ n) (hl : n ≤ 4294967296) :
    Calls Try.prog 43 #[.slice ao n cap, .int .i64 (i : Int), .int .i64 (j : Int)] w fun e w' => e = .returned (.slice ao (i + (n - j)) cap) ∧ Ow 3 base w' (.slice ao (i + (n - j)) cap) (iv (xs.take i ++ xs.drop j)) ∧ Ch (Blk (.slice ao n cap)) w w' := by
  by_cases h : i = j
  · subst h
    refine (delete_none ao n cap i w hj ho.len.2).mono ?_
    rintro e w' ⟨rfl, g⟩
    have e1 : i + (n - i) = n := by omega
    rw [e1, List.take_append_drop]
    exact ⟨rfl, ho.ch g (fun _ _ => noB _), g.any⟩
  · have hp : 0 < n := by omega
    obtain ⟨g, rfl⟩ : ∃ g, ao = some ⟨g, 0, none⟩ := by
      rcases ho.2 with ⟨h1, h0⟩ | ⟨g, cap', cur, h1, _⟩
      · cases h1
        omega
      · injection h1 with a1 a2 a3
        exact ⟨g, a1⟩
    refine (delete_any base g n cap i j (iv xs) w ho (by omega) hj hl (iv_one _)).mono ?_
    rintro e w' ⟨rfl, h1, h2⟩
    rw [cutOut_iv] at h1
    exact ⟨rfl, h1, h2.mono (fun q e => .inl (by have e1 : q = g := e; subst e1; rfl))⟩

section
variable {base : Nat} {w w1 : World} {vg va vc vf : Value} {cv : List Value} {x : Sl}
theorem St.cache {g n cap i : Nat} {u u' : Value} {c' : List Int} (h : St base w vg va (.slice (some ⟨g, 0, none⟩) n cap) vf cv x) (hu : cv[i]? = some u) (k : Ch (Blk u) w w1) (o : Ow 3 base w1 u' (iv c')) (hb : ∀ q, Blk u' q → Blk u q ∨ w.heap.size ≤ q) :
    St base (w1.setCell ⟨g, i, none⟩ u') vg va (.slice (some ⟨g, 0, none⟩) n cap) vf (cv.set i u') { x with C := x.C.set i c' } := by
  have hi : i < cv.length := (List.getElem?_eq_some_iff.1 hu).1
  have C2 : Ch (Only g) w1 (w1.setCell ⟨g, i, none⟩ u') := (Ch.refl _ _).own _ _
  have hgB : Blk (.slice (some ⟨g, 0, none⟩) n cap) g := rfl
  have hgl := (h.c.blk hgB).2
  have far : ∀ v : Value, (∀ q, Blk v q → q < w.heap.size) → Dj u v → Dj u' v := fun v hv d q a b => (hb q a).elim (fun e => d q e b) (fun e => by have := hv q b; omega)
  have lg : ∀ q, Blk vg q → q < w.heap.size := fun q a => (h.g.blk a).2
  have la : ∀ q, Blk va q → q < w.heap.size := fun q a => (h.a.blk a).2
  have lc : ∀ q, Blk (.slice (some ⟨g, 0, none⟩) n cap) q → q < w.heap.size := fun q a => (h.c.blk a).2
  have lf : ∀ q, Blk vf q → q < w.heap.size := fun q a => (h.f.blk a).2
  have le : ∀ (j : Nat) v, cv[j]? = some v → ∀ q, Blk v q → q < w.heap.size := fun j v hv q a => by
    obtain ⟨c, _, ho⟩ := h.get hv
    exact (ho.blk a).2
  have at_ : ∀ (j : Nat) v, (cv.set i u')[j]? = some v → (j = i ∧ v = u') ∨ (j ≠ i ∧ cv[j]? = some v) := fun j v hv => by
    by_cases e : j = i
    · subst e
      rw [List.getElem?_set_self hi] at hv
      injection hv with hv
      exact .inl ⟨rfl, hv.symm⟩
    · rw [List.getElem?_set_ne (fun e' => e e'.symm)] at hv
      exact .inr ⟨e, hv⟩
  have far2 : ∀ v : Value, (∀ q, Blk v q → q < w.heap.size) → Dj u v → ∀ (j : Nat) z, (cv.set i u')[j]? = some z → (∀ (j : Nat) z, cv[j]? = some z → Dj z v) → Dj z v := fun v hv d j z hz hd => by
    rcases at_ j z hz with ⟨_, e⟩ | ⟨_, e⟩
    · subst e
      exact far v hv d
    · exact hd j z e
  obtain ⟨g', e1, -, -, -, -, -, hset⟩ := (h.c.ch k (fun q a b => h.ec i u hu q b a)).get1 hu
  cases e1
  exact {
    g := (h.g.ch k (fun q a b => h.eg i u hu q b a)).ch C2 (fun q a b => by have e : q = g := b; subst e; exact h.gc _ a hgB)
    a := (h.a.ch k (fun q a b => h.ea i u hu q b a)).ch C2 (fun q a b => by have e : q = g := b; subst e; exact h.ac _ a hgB)
    c := hset u'
    f := (h.f.ch k (fun q a b => h.ef i u hu q b a)).ch C2 (fun q a b => by have e : q = g := b; subst e; exact h.cf _ hgB a)
    cl := by simp [h.cl]
    e := fun j v c hv hc => by
      rcases at_ j v hv with ⟨e, e2⟩ | ⟨e, e2⟩
      · subst e e2
        have hj : j < x.C.length := by rw [← h.cl]; exact hi
        have hc2 : (x.C.set j c')[j]? = some c := hc
        rw [List.getElem?_set_self hj] at hc2
        injection hc2 with hc2
        subst hc2
        exact o.ch C2 (fun q a b => by
          have e : q = g := b
          subst e
          exact (hb _ a).elim (fun e => h.ec _ u hu _ e hgB) (fun e => by omega))
      · have hc2 : (x.C.set i c')[j]? = some c := hc
        rw [List.getElem?_set_ne (fun e' => e e'.symm)] at hc2
        exact ((h.e j v c e2 hc2).ch k (fun q a b => h.ee j i v u e e2 hu q a b)).ch C2 (fun q a b => by have e : q = g := b; subst e; exact h.ec _ v e2 _ a hgB)
    ga := h.ga
    gc := h.gc
    gf := h.gf
    ac := h.ac
    af := h.af
    cf := h.cf
    eg := fun j z hz => far2 _ lg (h.eg i u hu) j z hz h.eg
    ea := fun j z hz => far2 _ la (h.ea i u hu) j z hz h.ea
    ec := fun j z hz => far2 _ lc (h.ec i u hu) j z hz h.ec
    ef := fun j z hz => far2 _ lf (h.ef i u hu) j z hz h.ef
    ee := fun j j' v v' hn hv hv' => by
      rcases at_ j v hv with ⟨e, e2⟩ | ⟨e, e2⟩
      · rcases at_ j' v' hv' with ⟨e', e2'⟩ | ⟨e', e2'⟩
        · omega
        · subst e e2
          exact far _ (le j' v' e2') (h.ee _ _ _ _ hn hu e2')
      · rcases at_ j' v' hv' with ⟨e', e2'⟩ | ⟨e', e2'⟩
        · subst e' e2'
          exact (far _ (le j v e2) (h.ee _ _ _ _ (fun e => hn e.symm) hu e2)).symm
        · exact h.ee j j' v v' hn e2 e2' }
theorem St.free {vf' : Value} {F' : List Int} (h : St base w vg va vc vf cv x) (k : Ch (Blk vf) w w1) (o : Ow 3 base w1 vf' (iv F')) (hb : ∀ q, Blk vf' q → Blk vf q ∨ w.heap.size ≤ q) : St base w1 vg va vc vf' cv { x with F := F' } :=
  have far : ∀ v : Value, (∀ q, Blk v q → q < w.heap.size) → Dj v vf → Dj v vf' := fun v hv d q a b => (hb q b).elim (fun e => d q a e) (fun e => by have := hv q a; omega)
  { h with
    g := h.g.ch k (fun q a b => h.gf q a b)
    a := h.a.ch k (fun q a b => h.af q a b)
    c := h.c.ch k (fun q a b => h.cf q a b)
    f := o
    e := fun i u c hu hc => (h.e i u c hu hc).ch k (fun q a b => h.ef i u hu q a b)
    gf := far _ (fun q a => (h.g.blk a).2) h.gf
    af := far _ (fun q a => (h.a.blk a).2) h.af
    cf := far _ (fun q a => (h.c.blk a).2) h.cf
    ef := fun i u hu => far _ (fun q a => by obtain ⟨c, _, ho⟩ := h.get hu; exact (ho.blk a).2) (h.ef i u hu) }
theorem St.gens {vg' : Value} {G' : List Int} (h : St base w vg va vc vf cv x) (k : Ch (Blk vg) w w1) (o : Ow 3 base w1 vg' (iv G')) (hb : ∀ q, Blk vg' q → Blk vg q ∨ w.heap.size ≤ q) : St base w1 vg' va vc vf cv { x with G := G' } :=
  have far : ∀ v : Value, (∀ q, Blk v q → q < w.heap.size) → Dj v vg → Dj v vg' := fun v hv d q a b => (hb q b).elim (fun e => d q a e) (fun e => by have := hv q a; omega)
  { h with
    g := o
    a := h.a.ch k (fun q a b => h.ga q b a)
    c := h.c.ch k (fun q a b => h.gc q b a)
    f := h.f.ch k (fun q a b => h.gf q b a)
    e := fun i u c hu hc => (h.e i u c hu hc).ch k (fun q a b => h.eg i u hu q a b)
    ga := (far _ (fun q a => (h.a.blk a).2) h.ga.symm).symm
    gc := (far _ (fun q a => (h.c.blk a).2) h.gc.symm).symm
    gf := (far _ (fun q a => (h.f.blk a).2) h.gf.symm).symm
    eg := fun i u hu => far _ (fun q a => by obtain ⟨c, _, ho⟩ := h.get hu; exact (ho.blk a).2) (h.eg i u hu) }
theorem St.alive {va' : Value} {A' : List Bool} (h : St base w vg va vc vf cv x) (k : Ch (Blk va) w w1) (o : Ow 4 base w1 va' (bv A')) (hb : ∀ q, Blk va' q → Blk va q ∨ w.heap.size ≤ q) : St base w1 vg va' vc vf cv { x with A := A' } :=
  have far : ∀ v : Value, (∀ q, Blk v q → q < w.heap.size) → Dj v va → Dj v va' := fun v hv d q a b => (hb q b).elim (fun e => d q a e) (fun e => by have := hv q a; omega)
  { h with
    g := h.g.ch k (fun q a b => h.ga q a b)
    a := o
    c := h.c.ch k (fun q a b => h.ac q b a)
    f := h.f.ch k (fun q a b => h.af q b a)
    e := fun i u c hu hc => (h.e i u c hu hc).ch k (fun q a b => h.ea i u hu q a b)
    ga := far _ (fun q a => (h.g.blk a).2) h.ga
    ac := (far _ (fun q a => (h.c.blk a).2) h.ac.symm).symm
    af := (far _ (fun q a => (h.f.blk a).2) h.af.symm).symm
    ea := fun i u hu => far _ (fun q a => by obtain ⟨c, _, ho⟩ := h.get hu; exact (ho.blk a).2) (h.ea i u hu) }
end

section
variable {vg va vc vf vf' : Value} {cv : List Value} {q i : Nat} {u u' : Value}
theorem SB.cache (h : SB vg va vc vf (cv.set i u') q) : SB vg va vc vf cv q ∨ Blk u' q := by
  rcases h with e | e | e | e | ⟨z, hz, e⟩
  · exact .inl (.inl e)
  · exact .inl (.inr (.inl e))
  · exact .inl (.inr (.inr (.inl e)))
  · exact .inl (.inr (.inr (.inr (.inl e))))
  · rcases List.mem_or_eq_of_mem_set hz with hz | rfl
    · exact .inl (.inr (.inr (.inr (.inr ⟨z, hz, e⟩))))
    · exact .inr e
theorem SB.free (h : SB vg va vc vf' cv q) : SB vg va vc vf cv q ∨ Blk vf' q := by
  rcases h with e | e | e | e | e
  · exact .inl (.inl e)
  · exact .inl (.inr (.inl e))
  · exact .inl (.inr (.inr (.inl e)))
  · exact .inr e
  · exact .inl (.inr (.inr (.inr (.inr e))))
theorem SB.gens (h : SB vf' va vc vf cv q) : SB vg va vc vf cv q ∨ Blk vf' q := by
  rcases h with e | e
  · exact .inr e
  · exact .inl (.inr e)
theorem SB.alive (h : SB vg vf' vc vf cv q) : SB vg va vc vf cv q ∨ Blk vf' q := by
  rcases h with e | e | e
  · exact .inl (.inl e)
  · exact .inr e
  · exact .inl (.inr (.inr e))
theorem SB.at_ (hu : cv[i]? = some u) (h : Blk u q) : SB vg va vc vf cv q := .inr (.inr (.inr (.inr ⟨u, List.mem_iff_getElem?.2 ⟨i, hu⟩, h⟩)))
theorem SB.g (h : Blk vg q) : SB vg va vc vf cv q := .inl h
theorem SB.a (h : Blk va q) : SB vg va vc vf cv q := .inr (.inl h)
theorem SB.c (h : Blk vc q) : SB vg va vc vf cv q := .inr (.inr (.inl h))
theorem SB.f (h : Blk vf q) : SB vg va vc vf cv q := .inr (.inr (.inr (.inl h)))
end
theorem blk_self (g n cap : Nat) : Blk (.slice (some ⟨g, 0, none⟩) n cap) g := rfl
/-- slices.Delete of one -/
theorem delete_at (base n cap i : Nat) (ao : Option Addr) (xs : List Int) (w : World) (ho : Ow 3 base w (.slice ao n cap) (iv xs)) (hi : i < n) (hl : n ≤ 4294967296) :
    Calls Try.prog 43 #[.slice ao n cap, .int .i64 (i : Int), .int .i64 ((i : Int) + 1)] w fun e w' => e = .returned (.slice ao (n - 1) cap) ∧ Ow 3 base w' (.slice ao (n - 1) cap) (iv (xs.take i ++ xs.drop (i + 1))) ∧ Ch (Blk (.slice ao n cap)) w w' := by
  have h := delete_ow base n cap i (i + 1) ao xs w ho (by omega) (by omega) hl
  have e1 : ((i + 1 : Nat) : Int) = (i : Int) + 1 := by omega
  have e2 : i + (n - (i + 1)) = n - 1 := by omega
  rw [e1, e2] at h
  exact h

/-- a slab whose blocks, its own and those of its lists, lie in a set -/
def SlabIn (S : Nat → Prop) (base : Nat) (w : World) (b : Nat) (L : Int) (x : Sl) : Prop :=
  ∃ vg va vc vf cv, Fv 51 w b (.int .i64 L) vg va vc vf ∧ St base w vg va vc vf cv x ∧ ¬ SB vg va vc vf cv b ∧ S b ∧ (∀ q, SB vg va vc vf cv q → S q) ∧ (∀ q, S q → q < w.heap.size)
theorem SlabIn.at {S : Nat → Prop} {base : Nat} {w : World} {b : Nat} {L : Int} {x : Sl} (h : SlabIn S base w b L x) : SlabAt base w b L x := by
  obtain ⟨vg, va, vc, vf, cv, h1, h2, h3, -⟩ := h
  exact ⟨vg, va, vc, vf, cv, h1, h2, h3⟩
theorem SlabIn.ch {S T : Nat → Prop} {base : Nat} {w w' : World} {b : Nat} {L : Int} {x : Sl} (h : SlabIn S base w b L x) (g : Ch T w w') (hT : ∀ q, S q → ¬ T q) : SlabIn S base w' b L x := by
  obtain ⟨vg, va, vc, vf, cv, h1, h2, h3, h4, h5, h6⟩ := h
  exact ⟨vg, va, vc, vf, cv, h1.ch g (hT _ h4), h2.ch g (fun q a => hT q (h5 q a)), h3, h4, h5, fun q a => Nat.lt_of_lt_of_le (h6 q a) g.size⟩
theorem SlabIn.lt {S : Nat → Prop} {base : Nat} {w : World} {b : Nat} {L : Int} {x : Sl} (h : SlabIn S base w b L x) : ∀ q, S q → q < w.heap.size := by
  obtain ⟨vg, va, vc, vf, cv, h1, h2, h3, h4, h5, h6⟩ := h
  exact h6
/-- what a call that writes leaves of a slab -/
def Left (S : Nat → Prop) (base : Nat) (w w' : World) (b : Nat) (L : Int) (x' : Sl) : Prop :=
  ∃ S' : Nat → Prop, SlabIn S' base w' b L x' ∧ Ch S w w' ∧ ∀ q, S' q → S q ∨ w.heap.size ≤ q
theorem Left.refl {S : Nat → Prop} {base : Nat} {w : World} {b : Nat} {L : Int} {x : Sl} (h : SlabIn S base w b L x) : Left S base w w b L x := ⟨S, h, Ch.refl _ _, fun _ a => .inl a⟩
theorem Left.bind {S S' : Nat → Prop} {base : Nat} {w w1 w2 : World} {b : Nat} {L : Int} {x2 : Sl} (g : Ch S w w1) (hS : ∀ q, S' q → S q ∨ w.heap.size ≤ q) (k : Left S' base w1 w2 b L x2) : Left S base w w2 b L x2 := by
  obtain ⟨S2, k1, k2, k3⟩ := k
  exact ⟨S2, k1, g.trans k2 hS, fun q a => (k3 q a).elim (hS q) (fun e => .inr (Nat.le_trans g.size e))⟩
/-- and then a call that writes nothing of it -/
theorem Left.still {S : Nat → Prop} {base : Nat} {w w1 w2 : World} {b : Nat} {L : Int} {x : Sl} (h : Left S base w w1 b L x) (g : Ch NoB w1 w2) : Left S base w w2 b L x := by
  obtain ⟨S2, k1, k2, k3⟩ := h
  exact ⟨S2, k1.ch g (fun _ _ => noB _), k2.trans g (fun _ e => e.elim), k3⟩
/-- a slab of a state behind some stores -/
theorem Left.of {S : Nat → Prop} {base : Nat} {w w' : World} {b : Nat} {L : Int} {x' : Sl} {vg va vc vf : Value} {cv : List Value} (h1 : Fv 51 w' b (.int .i64 L) vg va vc vf) (h2 : St base w' vg va vc vf cv x') (h3 : ¬ SB vg va vc vf cv b) (h4 : S b) (h5 : ∀ q, SB vg va vc vf cv q → S q ∨ w.heap.size ≤ q) (g : Ch S w w') : Left S base w w' b L x' :=
  ⟨fun q => q = b ∨ SB vg va vc vf cv q, ⟨vg, va, vc, vf, cv, h1, h2, h3, .inl rfl, fun _ a => .inr a, fun q a => a.elim (fun e => by rw [e]; exact h1.lt) (fun e => (h2.blk e).2)⟩, g, fun q a => a.elim (fun e => .inl (by rw [e]; exact h4)) (h5 q)⟩
end Go.Proofs.Ytfbkifkfhgkdbab.Sb
