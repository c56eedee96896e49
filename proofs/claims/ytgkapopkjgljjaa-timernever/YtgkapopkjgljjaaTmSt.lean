/-
  Timers in memory: two heaps, a map, a set; what a writer leaves of them. No conditions.
-/
import Derived.Test.YtgkapopkjgljjaaTmMap
import Derived.Test.YtgkapopkjgljjaaThPush
import Derived.Test.YtgkapopkjgljjaaGnHeld
namespace Go.Proofs.Ytgkapopkjgljjaa.Lt
open Go.RowKit Wd
attribute [local go_sem ↓] Go.wp_at_zero Go.wp_at_succ

/-- a timer's node in its heap -/
def nd (x : Tn) : Hp.W3 := ⟨x.1.wh, x.2, x.1.id⟩
/-- what timers have in memory -/
structure Dt where
  bd : Nat
  bv : Nat
  mr : Nat
  ms : Nat
  xs : List Hp.W3
  ys : List Hp.W3
  dn : Int
  vn : Int
  M : List Me
  mc : Nat
  G : List Ge
  gc : Nat
/-- all blocks of timers -/
def Ta (b : Nat) (T1 T2 : Nat → Prop) (d : Dt) : Nat → Prop := fun q => q = b ∨ T1 q ∨ T2 q ∨ q = d.mr ∨ q = d.ms
/-- timers at a block -/
structure Tw (T1 T2 : Nat → Prop) (w : World) (b : Nat) (last : Int) (d : Dt) : Prop where
  hb : w.heap[b]? = some (.cells #[.int .i64 last, .pointer (some ⟨d.bd, 0, none⟩), .pointer (some ⟨d.bv, 0, none⟩), .map (some d.mr), .map (some d.ms)] 69 (0, 0))
  h1 : Hp.Hh T1 w d.bd d.xs d.dn
  h2 : Hp.Hh T2 w d.bv d.ys d.vn
  m : MAt w d.mr d.M d.mc
  g : GAt w d.ms d.G d.gc
  b1 : ¬ T1 b
  b2 : ¬ T2 b
  t12 : ∀ q, T1 q → ¬ T2 q
  m1 : ¬ T1 d.mr
  m2 : ¬ T2 d.mr
  s1 : ¬ T1 d.ms
  s2 : ¬ T2 d.ms
  rs : d.mr ≠ d.ms
  br : b ≠ d.mr
  bs : b ≠ d.ms
theorem Tw.lt {T1 T2 : Nat → Prop} {w : World} {b : Nat} {last : Int} {d : Dt} (h : Tw T1 T2 w b last d) : ∀ q, Ta b T1 T2 d q → q < w.heap.size := by
  rintro q (rfl | e | e | rfl | rfl)
  · exact lt_of_block h.hb
  · exact h.h1.tl q e
  · exact h.h2.tl q e
  · exact h.m.lt
  · exact h.g.lt
theorem Tw.gr {T1 T2 : Nat → Prop} {w w' : World} {b : Nat} {last : Int} {d : Dt} (h : Tw T1 T2 w b last d) (k : Gr w w') : Tw T1 T2 w' b last d :=
  { h with hb := (k.block _ (lt_of_block h.hb) (noB _)).trans h.hb, h1 := h.h1.still k, h2 := h.h2.still k, m := h.m.ch k (noB _), g := h.g.ch k (noB _) }
theorem Tw.ch {S T1 T2 : Nat → Prop} {w w' : World} {b : Nat} {last : Int} {d : Dt} (h : Tw T1 T2 w b last d) (k : Ch S w w') (hs : ∀ q, Ta b T1 T2 d q → ¬ S q) : Tw T1 T2 w' b last d :=
  { h with hb := (k.block _ (lt_of_block h.hb) (hs _ (.inl rfl))).trans h.hb, h1 := h.h1.ch k (fun q e => hs q (.inr (.inl e))), h2 := h.h2.ch k (fun q e => hs q (.inr (.inr (.inl e)))), m := h.m.ch k (hs _ (.inr (.inr (.inr (.inl rfl))))), g := h.g.ch k (hs _ (.inr (.inr (.inr (.inr rfl))))) }
/-- what a writer into the first heap leaves -/
theorem Tw.due {T1 T2 : Nat → Prop} {w w' : World} {b : Nat} {last : Int} {d : Dt} {xs : List Hp.W3} {nx : Int} (h : Tw T1 T2 w b last d) (k : Hp.HLeft T1 w w' d.bd xs nx) : ∃ T1', Tw T1' T2 w' b last { d with xs := xs, dn := nx } ∧ Ch T1 w w' ∧ ∀ q, Ta b T1' T2 { d with xs := xs, dn := nx } q → Ta b T1 T2 d q ∨ w.heap.size ≤ q := by
  obtain ⟨T', h1, c1, t1⟩ := k
  have nt : ∀ q, q < w.heap.size → ¬ T1 q → ¬ T' q := fun q hq hn e => (t1 q e).elim hn (fun x => by omega)
  refine ⟨T', ⟨(c1.block _ (lt_of_block h.hb) h.b1).trans h.hb, h1, h.h2.ch c1 (fun q e e' => h.t12 q e' e), h.m.ch c1 h.m1, h.g.ch c1 h.s1, nt _ (lt_of_block h.hb) h.b1, h.b2, fun q e e2 => ?_, nt _ h.m.lt h.m1, h.m2, nt _ h.g.lt h.s1, h.s2, h.rs, h.br, h.bs⟩, c1, ?_⟩
  · have hq := h.h2.tl q e2
    exact nt q hq (fun e1 => h.t12 q e1 e2) e
  · rintro q (e | e | e | e | e)
    · exact .inl (.inl e)
    · exact (t1 q e).imp (fun x => .inr (.inl x)) id
    · exact .inl (.inr (.inr (.inl e)))
    · exact .inl (.inr (.inr (.inr (.inl e))))
    · exact .inl (.inr (.inr (.inr (.inr e))))
/-- what a writer into the second heap leaves -/
theorem Tw.never {T1 T2 : Nat → Prop} {w w' : World} {b : Nat} {last : Int} {d : Dt} {ys : List Hp.W3} {nx : Int} (h : Tw T1 T2 w b last d) (k : Hp.HLeft T2 w w' d.bv ys nx) : ∃ T2', Tw T1 T2' w' b last { d with ys := ys, vn := nx } ∧ Ch T2 w w' ∧ ∀ q, Ta b T1 T2' { d with ys := ys, vn := nx } q → Ta b T1 T2 d q ∨ w.heap.size ≤ q := by
  obtain ⟨T', h1, c1, t1⟩ := k
  have nt : ∀ q, q < w.heap.size → ¬ T2 q → ¬ T' q := fun q hq hn e => (t1 q e).elim hn (fun x => by omega)
  refine ⟨T', ⟨(c1.block _ (lt_of_block h.hb) h.b2).trans h.hb, h.h1.ch c1 (fun q e e' => h.t12 q e e'), h1, h.m.ch c1 h.m2, h.g.ch c1 h.s2, h.b1, nt _ (lt_of_block h.hb) h.b2, fun q e e2 => ?_, h.m1, nt _ h.m.lt h.m2, h.s1, nt _ h.g.lt h.s2, h.rs, h.br, h.bs⟩, c1, ?_⟩
  · exact nt q (h.h1.tl q e) (h.t12 q e) e2
  · rintro q (e | e | e | e | e)
    · exact .inl (.inl e)
    · exact .inl (.inr (.inl e))
    · exact (t1 q e).imp (fun x => .inr (.inr (.inl x))) id
    · exact .inl (.inr (.inr (.inr (.inl e))))
    · exact .inl (.inr (.inr (.inr (.inr e))))
theorem Tw.setM {T1 T2 : Nat → Prop} {w : World} {b : Nat} {last : Int} {d : Dt} (h : Tw T1 T2 w b last d) (M : List Me) (c : Nat) : Tw T1 T2 (putM w d.mr M c) b last { d with M := M, mc := c } :=
  have k := putM_ch w d.mr M c
  { h with hb := (k.block _ (lt_of_block h.hb) (fun e => h.br e)).trans h.hb, h1 := h.h1.ch k (fun q e e' => h.m1 (by have e1 : q = d.mr := e'; rw [← e1]; exact e)), h2 := h.h2.ch k (fun q e e' => h.m2 (by have e1 : q = d.mr := e'; rw [← e1]; exact e)), m := putM_at h.m.lt M c, g := h.g.ch k (fun e => h.rs e.symm) }
theorem Tw.setG {T1 T2 : Nat → Prop} {w : World} {b : Nat} {last : Int} {d : Dt} (h : Tw T1 T2 w b last d) (G : List Ge) (c : Nat) : Tw T1 T2 (putG w d.ms G c) b last { d with G := G, gc := c } :=
  have k := putG_ch w d.ms G c
  { h with hb := (k.block _ (lt_of_block h.hb) (fun e => h.bs e)).trans h.hb, h1 := h.h1.ch k (fun q e e' => h.s1 (by have e1 : q = d.ms := e'; rw [← e1]; exact e)), h2 := h.h2.ch k (fun q e e' => h.s2 (by have e1 : q = d.ms := e'; rw [← e1]; exact e)), m := h.m.ch k (fun e => h.rs e), g := putG_at h.g.lt G c }
theorem Tw.setLast {T1 T2 : Nat → Prop} {w : World} {b : Nat} {last : Int} {d : Dt} (h : Tw T1 T2 w b last d) (l : Int) : Tw T1 T2 (w.setCell ⟨b, 0, none⟩ (.int .i64 l)) b l d :=
  have k : Ch (Only b) w (w.setCell ⟨b, 0, none⟩ (.int .i64 l)) := (Ch.refl _ _).own 0 _
  { h with hb := by rw [setCell_block h.hb]; rfl, h1 := h.h1.ch k (fun q e e' => h.b1 (by have e1 : q = b := e'; rw [← e1]; exact e)), h2 := h.h2.ch k (fun q e e' => h.b2 (by have e1 : q = b := e'; rw [← e1]; exact e)), m := h.m.ch k (fun e => h.br e.symm), g := h.g.ch k (fun e => h.bs e.symm) }
/-- what is in memory is the list -/
structure Lk (d : Dt) (L : List Tk) : Prop where
  ex : ∃ P Q, Ord P Q L ∧ d.xs.Perm (P.map nd) ∧ d.ys.Perm (Q.map nd) ∧ (d.M.map (fun e => (e.t, e.n))).Perm (P ++ Q)
  gs : (d.G.map (fun e => (e.s, e.g))).Perm ((L.filter slp).map gid)
  ui : Uid L
  ug : Ugs L
  ok : ∀ t ∈ L, Tok t
  st : ∀ e ∈ d.M, e.b < d.mc
  sn : (d.M.map (·.b)).Nodup
theorem Lk.mem {d : Dt} {L : List Tk} (h : Lk d L) : (d.M.map (·.t)).Perm L := by
  obtain ⟨P, Q, ho, _, _, hm⟩ := h.ex
  have := hm.map Prod.fst
  rw [List.map_map, List.map_append] at this
  rw [ho.eq]
  exact this
theorem Lk.ids {d : Dt} {L : List Tk} (h : Lk d L) : (d.M.map (·.t.id)).Nodup := by
  have := (h.mem.map Tk.id).nodup_iff.2 h.ui
  rwa [List.map_map] at this
theorem Lk.has {d : Dt} {L : List Tk} (h : Lk d L) {t : Tk} (ht : t ∈ L) : ∃ e ∈ d.M, e.t = t := by
  obtain ⟨e, he, h2⟩ := List.mem_map.1 (h.mem.mem_iff.2 ht)
  exact ⟨e, he, h2⟩
theorem Lk.len {d : Dt} {L : List Tk} (h : Lk d L) : d.M.length = L.length := by
  have := h.mem.length_eq
  rwa [List.length_map] at this
theorem Lk.xl {d : Dt} {L : List Tk} (h : Lk d L) : d.xs.length ≤ L.length ∧ d.ys.length ≤ L.length := by
  obtain ⟨P, Q, ho, h1, h2, _⟩ := h.ex
  have e1 := h1.length_eq
  have e2 := h2.length_eq
  have e3 : L.length = P.length + Q.length := by rw [ho.eq]; simp
  rw [List.length_map] at e1 e2
  omega
theorem Lk.no {d : Dt} {L : List Tk} (h : Lk d L) {a : Int} (ha : ∀ t ∈ L, t.id ≠ a) : ∀ e ∈ d.M, e.t.id ≠ a := fun e he => ha e.t (h.mem.mem_iff.1 (List.mem_map.2 ⟨e, he, rfl⟩))
theorem Lk.gok {d : Dt} {L : List Tk} (h : Lk d L) : ∀ e ∈ d.G, Gok e.s e.g := fun e he => by
  obtain ⟨t, ht, e2⟩ := List.mem_map.1 (h.gs.mem_iff.1 (List.mem_map.2 ⟨e, he, rfl⟩))
  have ok := h.ok t (List.mem_filter.1 ht).1
  unfold gid at e2
  injection e2 with e3 e4
  exact ⟨⟨by rw [← e3]; exact ok.s0, by rw [← e3]; exact ok.s1⟩, by rw [← e4]; exact ok.g0, by rw [← e4]; exact ok.g1⟩
theorem Lk.gnd {d : Dt} {L : List Tk} (h : Lk d L) : (d.G.map (fun e => (e.s, e.g))).Nodup := h.gs.nodup_iff.2 h.ug
/-- does a goroutine sleep? -/
def sleepsL (L : List Tk) (s g : Int) : Bool := L.any (fun t => t.kind == 1 && (t.s == s && t.g == g))
theorem Lk.sl {d : Dt} {L : List Tk} (h : Lk d L) (s g : Int) : (sleepsL L s g = false → NoG d.G s g) ∧ (∀ e ∈ d.G, e.s = s → e.g = g → sleepsL L s g = true) := by
  constructor
  · intro hs e he e1
    obtain ⟨t, ht, e2⟩ := List.mem_map.1 (h.gs.mem_iff.1 (List.mem_map.2 ⟨e, he, rfl⟩))
    have h1 := List.mem_filter.1 ht
    unfold sleepsL at hs
    have := List.any_eq_false.1 hs t h1.1
    unfold gid at e2
    injection e2 with e3 e4
    have h2 : (t.kind == 1) = true := h1.2
    simp only [h2, e3, e4, e1.1, e1.2, beq_self_eq_true, Bool.and_self, not_true_eq_false] at this
  · intro e he e1 e2
    obtain ⟨t, ht, e3⟩ := List.mem_map.1 (h.gs.mem_iff.1 (List.mem_map.2 ⟨e, he, rfl⟩))
    have h1 := List.mem_filter.1 ht
    unfold gid at e3
    injection e3 with e4 e5
    have h2 : (t.kind == 1) = true := h1.2
    exact List.any_eq_true.2 ⟨t, h1.1, by simp [h2, e4, e5, e1, e2]⟩
theorem Lk.nn {T1 : Nat → Prop} {w : World} {bd : Nat} {xs : List Hp.W3} {nx : Int} (h : Hp.Hh T1 w bd xs nx) {P : List Tn} (hp : xs.Perm (P.map nd)) : ∀ y ∈ P, y.2 < nx := fun y hy => h.lt (nd y) (hp.mem_iff.2 (List.mem_map.2 ⟨y, hy, rfl⟩))
/-- one more, that is due some time -/
theorem Lk.put {d : Dt} {L : List Tk} (h : Lk d L) {x : Tk} {n : Int} (hx : x.nv = false) (hn : ∀ y ∈ d.xs, y.n < n) (hi : ∀ t ∈ L, t.id ≠ x.id) (ok : Tok x) {xs : List Hp.W3} (hxs : xs.Perm (⟨x.wh, n, x.id⟩ :: d.xs)) {gc : Nat} {nx : Int} {G : List Ge} (hg : (G.map (fun e => (e.s, e.g))).Perm (((x :: L).filter slp).map gid)) (hs : slp x = true → ∀ u ∈ L, slp u = true → gid u ≠ gid x) : Lk { d with xs := xs, dn := nx, M := d.M ++ [⟨x, n, d.mc⟩], mc := d.mc + 1, G := G, gc := gc } (putL L x) where
  ex := by
    obtain ⟨P, Q, ho, h1, h2, h3⟩ := h.ex
    refine ⟨insN P (x, n), Q, ho.put (x, n) hx (fun y hy => hn (nd y) (h1.mem_iff.2 (List.mem_map.2 ⟨y, hy, rfl⟩))), hxs.trans ((h1.cons _).trans ((insN_perm P (x, n)).map nd).symm), h2, ?_⟩
    simp only [List.map_append, List.map_cons, List.map_nil]
    refine (List.perm_append_comm.trans ?_)
    exact (h3.cons (x, n)).trans ((insN_perm P (x, n)).append_right Q).symm
  gs := hg.trans ((((putL_perm L x).filter _).map _).symm)
  ui := h.ui.put hi
  ug := h.ug.put hs
  ok := fun t ht => by
    rcases List.mem_cons.1 ((putL_perm L x).mem_iff.1 ht) with rfl | ht
    · exact ok
    · exact h.ok t ht
  st := fun e he => by
    show e.b < d.mc + 1
    rcases List.mem_append.1 he with he | he
    · have := h.st e he; omega
    · simp only [List.mem_singleton] at he
      subst he
      exact Nat.lt_succ_self _
  sn := by
    show (List.map (fun e : Me => e.b) (d.M ++ [_])).Nodup
    rw [List.map_append]
    refine List.nodup_append.2 ⟨h.sn, by simp, fun a ha b hb => ?_⟩
    obtain ⟨e, he, rfl⟩ := List.mem_map.1 ha
    simp only [List.map_cons, List.map_nil, List.mem_singleton] at hb
    have := h.st e he
    omega
theorem Lk.putN {d : Dt} {L : List Tk} (h : Lk d L) {x : Tk} {n : Int} (hx : x.nv = true) (hn : ∀ y ∈ d.ys, y.n < n) (hi : ∀ t ∈ L, t.id ≠ x.id) (ok : Tok x) {ys : List Hp.W3} (hys : ys.Perm (⟨x.wh, n, x.id⟩ :: d.ys)) {gc : Nat} {nx : Int} {G : List Ge} (hg : (G.map (fun e => (e.s, e.g))).Perm (((x :: L).filter slp).map gid)) (hs : slp x = true → ∀ u ∈ L, slp u = true → gid u ≠ gid x) : Lk { d with ys := ys, vn := nx, M := d.M ++ [⟨x, n, d.mc⟩], mc := d.mc + 1, G := G, gc := gc } (putL L x) where
  ex := by
    obtain ⟨P, Q, ho, h1, h2, h3⟩ := h.ex
    refine ⟨P, Q ++ [(x, n)], ho.putN (x, n) hx (ok.wn hx) (fun y hy => hn (nd y) (h2.mem_iff.2 (List.mem_map.2 ⟨y, hy, rfl⟩))), h1, ?_, ?_⟩
    · rw [List.map_append]
      exact hys.trans ((h2.cons _).trans (List.perm_append_comm (l₁ := [nd (x, n)])))
    · simp only [List.map_append, List.map_cons, List.map_nil]
      rw [← List.append_assoc]
      exact h3.append_right _
  gs := hg.trans ((((putL_perm L x).filter _).map _).symm)
  ui := h.ui.put hi
  ug := h.ug.put hs
  ok := fun t ht => by
    rcases List.mem_cons.1 ((putL_perm L x).mem_iff.1 ht) with rfl | ht
    · exact ok
    · exact h.ok t ht
  st := fun e he => by
    show e.b < d.mc + 1
    rcases List.mem_append.1 he with he | he
    · have := h.st e he; omega
    · simp only [List.mem_singleton] at he
      subst he
      exact Nat.lt_succ_self _
  sn := by
    show (List.map (fun e : Me => e.b) (d.M ++ [_])).Nodup
    rw [List.map_append]
    refine List.nodup_append.2 ⟨h.sn, by simp, fun a ha b hb => ?_⟩
    obtain ⟨e, he, rfl⟩ := List.mem_map.1 ha
    simp only [List.map_cons, List.map_nil, List.mem_singleton] at hb
    have := h.st e he
    omega
theorem uid_perm {P : List Tn} {x : Tn} (hu : (P.map (·.1.id)).Nodup) (hx : x ∈ P) : P.Perm (x :: P.filter (fun y => isId x.1.id y.1)) := by
  induction P with
  | nil => simp at hx
  | cons p P ih =>
    have h' := List.nodup_cons.1 (show (p.1.id :: P.map (·.1.id)).Nodup from hu)
    rcases List.mem_cons.1 hx with rfl | hx
    · rw [List.filter_cons_of_neg (by simp [isId]), List.filter_eq_self.2 (fun u hu => by
        simp only [isId, Bool.not_eq_true', beq_eq_false_iff_ne]
        exact fun e => h'.1 (List.mem_map.2 ⟨u, hu, e⟩))]
    · have hne : isId x.1.id p.1 = true := by
        simp only [isId, Bool.not_eq_true', beq_eq_false_iff_ne]
        exact fun e => h'.1 (List.mem_map.2 ⟨x, hx, e.symm⟩)
      rw [List.filter_cons_of_pos (by exact hne)]
      exact ((ih h'.2 hx).cons p).trans (List.Perm.swap x p _)
theorem gid_perm {L : List Tk} {x : Tk} (hu : Uid L) (hx : x ∈ L) (hs : slp x = true) : ((L.filter slp).map gid).Perm (gid x :: ((L.filter (isId x.id)).filter slp).map gid) := by
  have h1 : L.Perm (x :: L.filter (isId x.id)) := by
    have := (uid_perm (P := L.map (fun t => (t, (0 : Int)))) (x := (x, 0)) (by rw [List.map_map]; exact hu) (List.mem_map.2 ⟨x, hx, rfl⟩)).map Prod.fst
    rw [List.map_map, List.map_cons, List.filter_map, List.map_map] at this
    simpa [Function.comp_def] using this
  have h2 := (h1.filter slp).map gid
  rwa [List.filter_cons_of_pos hs, List.map_cons] at h2
/-- one fewer -/
theorem Lk.del {d : Dt} {L : List Tk} (h : Lk d L) {x : Tk} {xs ys : List Hp.W3} {G : List Ge} (hd : ∃ n, (⟨x, n⟩ : Tn) ∈ d.M.map (fun e => (e.t, e.n)) ∧ (x.nv = false → d.xs.Perm (⟨x.wh, n, x.id⟩ :: xs) ∧ ys = d.ys) ∧ (x.nv = true → d.ys.Perm (⟨x.wh, n, x.id⟩ :: ys) ∧ xs = d.xs)) (hg : (G.map (fun e => (e.s, e.g))).Perm (((L.filter (isId x.id)).filter slp).map gid)) {gc : Nat} : Lk { d with xs := xs, ys := ys, M := delM d.M x.id, G := G, gc := gc } (L.filter (isId x.id)) where
  ex := by
    obtain ⟨P, Q, ho, h1, h2, h3⟩ := h.ex
    obtain ⟨n, hn, hf, ht⟩ := hd
    have hu : ((P ++ Q).map (·.1.id)).Nodup := by
      have := h.ui
      unfold Uid at this
      rw [ho.eq, ← List.map_append, List.map_map] at this
      exact this
    have hmem := h3.mem_iff.1 hn
    rw [List.map_append] at hu
    have huP := (List.nodup_append.1 hu).1
    have huQ := (List.nodup_append.1 hu).2.1
    have hPQ := (List.nodup_append.1 hu).2.2
    refine ⟨_, _, ho.filter (isId x.id), ?_, ?_, ?_⟩
    · by_cases hv : x.nv = true
      · have hxQ : (⟨x, n⟩ : Tn) ∈ Q := by
          rcases List.mem_append.1 hmem with e | e
          · have := ho.np _ e; rw [hv] at this; cases this
          · exact e
        obtain ⟨_, rfl⟩ := ht hv
        rw [List.filter_eq_self.2 (fun y hy => by
          simp only [isId, Bool.not_eq_true', beq_eq_false_iff_ne]
          exact fun e => hPQ y.1.id (List.mem_map.2 ⟨y, hy, rfl⟩) x.id (List.mem_map.2 ⟨_, hxQ, rfl⟩) e)]
        exact h1
      · have hv : x.nv = false := by simpa using hv
        have hxP : (⟨x, n⟩ : Tn) ∈ P := by
          rcases List.mem_append.1 hmem with e | e
          · exact e
          · have := (ho.nq _ e).1; rw [hv] at this; cases this
        have e1 := (hf hv).1
        have e2 := (uid_perm huP hxP).map nd
        rw [List.map_cons] at e2
        exact (List.perm_cons _).1 (e1.symm.trans (h1.trans e2))
    · by_cases hv : x.nv = true
      · have hxQ : (⟨x, n⟩ : Tn) ∈ Q := by
          rcases List.mem_append.1 hmem with e | e
          · have := ho.np _ e; rw [hv] at this; cases this
          · exact e
        have e1 := (ht hv).1
        have e2 := (uid_perm huQ hxQ).map nd
        rw [List.map_cons] at e2
        exact (List.perm_cons _).1 (e1.symm.trans (h2.trans e2))
      · have hv : x.nv = false := by simpa using hv
        have hxP : (⟨x, n⟩ : Tn) ∈ P := by
          rcases List.mem_append.1 hmem with e | e
          · exact e
          · have := (ho.nq _ e).1; rw [hv] at this; cases this
        obtain ⟨_, rfl⟩ := hf hv
        rw [List.filter_eq_self.2 (fun y hy => by
          simp only [isId, Bool.not_eq_true', beq_eq_false_iff_ne]
          exact fun e => hPQ x.id (List.mem_map.2 ⟨_, hxP, rfl⟩) y.1.id (List.mem_map.2 ⟨y, hy, rfl⟩) e.symm)]
        exact h2
    · have := h3.filter (fun y => isId x.id y.1)
      rw [List.filter_append, List.filter_map] at this
      exact this
  gs := hg
  ui := h.ui.filter _
  ug := h.ug.filter _
  ok := fun t ht => h.ok t (List.mem_filter.1 ht).1
  st := fun e he => h.st e (List.mem_filter.1 he).1
  sn := List.Nodup.sublist (List.Sublist.map _ List.filter_sublist) h.sn
/-- timers at a block, as a list in their order; how many numbers they have given -/
def Tm (T : Nat → Prop) (w : World) (b : Nat) (last : Int) (L : List Tk) (B : Int) : Prop := ∃ T1 T2 d, Tw T1 T2 w b last d ∧ Lk d L ∧ (∀ q, T q ↔ Ta b T1 T2 d q) ∧ (0 ≤ d.dn ∧ d.dn ≤ B) ∧ (0 ≤ d.vn ∧ d.vn ≤ B)
theorem Tm.gr {T : Nat → Prop} {w w' : World} {b : Nat} {last : Int} {L : List Tk} {B : Int} (h : Tm T w b last L B) (k : Gr w w') : Tm T w' b last L B := by
  obtain ⟨T1, T2, d, h1, h2, h3⟩ := h
  exact ⟨T1, T2, d, h1.gr k, h2, h3⟩
theorem Tm.ch {S T : Nat → Prop} {w w' : World} {b : Nat} {last : Int} {L : List Tk} {B : Int} (h : Tm T w b last L B) (k : Ch S w w') (hs : ∀ q, T q → ¬ S q) : Tm T w' b last L B := by
  obtain ⟨T1, T2, d, h1, h2, h3, h4⟩ := h
  exact ⟨T1, T2, d, h1.ch k (fun q e => hs q ((h3 q).2 e)), h2, h3, h4⟩
theorem Tm.lt {T : Nat → Prop} {w : World} {b : Nat} {last : Int} {L : List Tk} {B : Int} (h : Tm T w b last L B) : ∀ q, T q → q < w.heap.size := by
  obtain ⟨T1, T2, d, h1, h2, h3, h4⟩ := h
  exact fun q e => h1.lt q ((h3 q).1 e)
theorem Tm.ok {T : Nat → Prop} {w : World} {b : Nat} {last : Int} {L : List Tk} {B : Int} (h : Tm T w b last L B) : ∀ t ∈ L, Tok t := by
  obtain ⟨T1, T2, d, h1, h2, h3, h4⟩ := h
  exact h2.ok
theorem Tm.srt {T : Nat → Prop} {w : World} {b : Nat} {last : Int} {L : List Tk} {B : Int} (h : Tm T w b last L B) : SrtL L := by
  obtain ⟨T1, T2, d, h1, h2, h3, h4⟩ := h
  obtain ⟨P, Q, ho, _⟩ := h2.ex
  exact ho.srt
theorem Tm.ui {T : Nat → Prop} {w : World} {b : Nat} {last : Int} {L : List Tk} {B : Int} (h : Tm T w b last L B) : Uid L := by
  obtain ⟨T1, T2, d, h1, h2, h3, h4⟩ := h
  exact h2.ui
theorem Tm.ug {T : Nat → Prop} {w : World} {b : Nat} {last : Int} {L : List Tk} {B : Int} (h : Tm T w b last L B) : Ugs L := by
  obtain ⟨T1, T2, d, h1, h2, h3, h4⟩ := h
  exact h2.ug
/-- what a call that writes leaves of timers -/
def TL (T : Nat → Prop) (w w' : World) (b : Nat) (last : Int) (L : List Tk) (B : Int) : Prop := ∃ T', Tm T' w' b last L B ∧ Ch T w w' ∧ ∀ q, T' q → T q ∨ w.heap.size ≤ q
theorem TL.gr {T : Nat → Prop} {w w1 w2 : World} {b : Nat} {last : Int} {L : List Tk} {B : Int} (h : TL T w w1 b last L B) (g : Gr w1 w2) : TL T w w2 b last L B := by
  obtain ⟨T', h1, h2, h3⟩ := h
  exact ⟨T', h1.gr g, h2.trans g (fun _ e => e.elim), h3⟩
theorem TL.trans {T : Nat → Prop} {w w1 w2 : World} {b : Nat} {l1 l2 : Int} {L1 L2 : List Tk} {B1 B2 : Int} (h : TL T w w1 b l1 L1 B1) (k : ∀ T', Tm T' w1 b l1 L1 B1 → TL T' w1 w2 b l2 L2 B2) : TL T w w2 b l2 L2 B2 := by
  obtain ⟨T', h1, h2, h3⟩ := h
  obtain ⟨T2, k1, k2, k3⟩ := k T' h1
  exact ⟨T2, k1, h2.trans k2 h3, fun q e => (k3 q e).elim (h3 q) (fun x => .inr (Nat.le_trans h2.size x))⟩
theorem TL.of {T : Nat → Prop} {w w' : World} {b : Nat} {last : Int} {L : List Tk} {B : Int} (h : Tm T w' b last L B) (g : Gr w w') : TL T w w' b last L B := ⟨T, h, g.any, fun _ e => .inl e⟩
theorem Tm.more {T : Nat → Prop} {w : World} {b : Nat} {last : Int} {L : List Tk} {B B' : Int} (h : Tm T w b last L B) (hB : B ≤ B') : Tm T w b last L B' := by
  obtain ⟨T1, T2, d, h1, h2, h3, h4, h5⟩ := h
  exact ⟨T1, T2, d, h1, h2, h3, ⟨h4.1, by omega⟩, h5.1, by omega⟩
end Go.Proofs.Ytgkapopkjgljjaa.Lt
