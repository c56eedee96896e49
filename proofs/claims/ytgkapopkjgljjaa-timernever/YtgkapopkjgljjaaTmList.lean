/-
  What the program's listed answers. Condition: the timers are there, not more than 4294967296 run.
-/
import Derived.Test.YtgkapopkjgljjaaTmCalls2
import Derived.Test.YtgkapopkjgljjaaTmDue
import Derived.Maps.RangeRun
import Derived.Deep.Cut
namespace Go.Proofs.Ytgkapopkjgljjaa.Lt
open Go.RowKit Wd Go.MapKept Go.ChangeMaps
attribute [local go_sem ↓] Go.wp_at_zero Go.wp_at_succ
set_option maxRecDepth 20000

def entB (e : Me) : MapEntry := ⟨.int .i64 e.n, tV e.t, e.b⟩
/-- the map of the timers at a block -/
def BAt (w : World) (k : Nat) (M : List Me) (clock : Nat) : Prop := w.heap[k]? = some (.map (M.map entB).toArray clock)
theorem BAt.lt {w : World} {k : Nat} {M : List Me} {clock : Nat} (h : BAt w k M clock) : k < w.heap.size := lt_of_block h
theorem BAt.ch {S : Nat → Prop} {w w' : World} {k : Nat} {M : List Me} {clock : Nat} (h : BAt w k M clock) (g : Ch S w w') (hn : ¬ S k) : BAt w' k M clock := (g.block k (lt_of_block h) hn).trans h
/-- the world with another map in a block -/
def putB (w : World) (k : Nat) (M : List Me) (clock : Nat) : World := { w with heap := w.heap.setIfInBounds k (.map (M.map entB).toArray clock) }
theorem putB_ch (w : World) (k : Nat) (M : List Me) (clock : Nat) : Ch (Only k) w (putB w k M clock) :=
  ⟨rfl, rfl, rfl, by simp [putB], fun i _ hi => by
    unfold putB
    exact Array.getElem?_setIfInBounds_ne (fun e => hi e.symm)⟩
theorem putB_at {w : World} {k : Nat} (hk : k < w.heap.size) (M : List Me) (clock : Nat) : BAt (putB w k M clock) k M clock := by
  unfold BAt putB
  exact Array.getElem?_setIfInBounds_self_of_lt hk
section
variable {w : World} {k : Nat} {M : List Me} {clock : Nat}
theorem find_B (M : List Me) (a : Int) (w : World) : ((Instr.findKey 3 (.int .i64 a) (M.map entB)).run Try.prog w = .ok none w ∧ ∀ e ∈ M, e.n ≠ a) ∨ ∃ (j : Nat) (e : Me), M[j]? = some e ∧ e.n = a ∧ (Instr.findKey 3 (.int .i64 a) (M.map entB)).run Try.prog w = .ok (some (j, tV e.t)) w := by
  have hks : ∀ x ∈ M.map entB, IsKey (.int .i64) x.key := fun x hx => by
    obtain ⟨e, _, rfl⟩ := List.mem_map.1 hx
    exact isk _
  rcases findNow_spec (isk a) (M.map entB) 0 hks with ⟨h1, h2⟩ | ⟨j, e0, h1, h2, h3⟩
  · exact .inl ⟨run_findKey Try.underlying3 h1, fun e he h => h2 (entB e) (List.mem_map.2 ⟨e, he, rfl⟩) (by simp [entB, h])⟩
  · rw [List.getElem?_map] at h2
    cases hm : M[j]? with
    | none => rw [hm] at h2; cases h2
    | some e =>
      rw [hm] at h2
      injection h2 with h2
      subst h2
      refine .inr ⟨j, e, hm, by simpa [entB] using h3, ?_⟩
      have := run_findKey (P := Try.prog) (w := w) Try.underlying3 h1
      simpa [entB] using this
theorem one_keyB (ho : (M.map (·.n)).Nodup) {i j : Nat} {e f : Me} (hi : M[i]? = some e) (hj : M[j]? = some f) (h : e.n = f.n) : i = j := by
  have h1 : (M.map (·.n))[i]? = some e.n := by rw [List.getElem?_map, hi]; rfl
  have h2 : (M.map (·.n))[j]? = some e.n := by rw [List.getElem?_map, hj, h]; rfl
  exact (List.getElem?_inj (List.getElem?_eq_some_iff.1 h1).1 ho).1 (h1.trans h2.symm)
theorem find_oneB (ho : (M.map (·.n)).Nodup) {e : Me} (he : e ∈ M) (w : World) : ∃ j, M[j]? = some e ∧ (Instr.findKey 3 (.int .i64 e.n) (M.map entB)).run Try.prog w = .ok (some (j, tV e.t)) w := by
  obtain ⟨j, hj⟩ := List.mem_iff_getElem?.1 he
  rcases find_B M e.n w with ⟨_, h2⟩ | ⟨i, f, h1, h2, h3⟩
  · exact (h2 e he rfl).elim
  · have e1 := one_keyB ho h1 hj h2
    subst e1
    rw [hj] at h1
    injection h1 with h1
    subst h1
    exact ⟨_, hj, h3⟩
theorem find_noneB {a : Int} (hn : ∀ e ∈ M, e.n ≠ a) (w : World) : (Instr.findKey 3 (.int .i64 a) (M.map entB)).run Try.prog w = .ok none w := by
  rcases find_B M a w with ⟨h1, _⟩ | ⟨j, e, h1, h2, _⟩
  · exact h1
  · exact (hn e (List.mem_of_getElem? h1) h2).elim
theorem timer_zero (w : World) : (zeroValue 46).run Try.prog w = .ok (tV Tk.zero) w := by kernel_rfl
theorem look_someB (h : BAt w k M clock) (ho : (M.map (·.n)).Nodup) {e : Me} (he : e ∈ M) (c : Bool) : (Instr.lookup 112 (.map (some k)) (.int .i64 e.n) c).run Try.prog w = .ok (if c then .tuple #[tV e.t, .bool true] else tV e.t) w := by
  obtain ⟨j, _, hz⟩ := find_oneB ho he w
  simp [Instr.lookup, run_underlying Try.underlying112, MapKept.run_getObj_map h, run_checkKey (P := Try.prog) (w := w) Try.underlying3 (isk e.n) _ 9999, hz, Result.andThen]
theorem update_newB (h : BAt w k M clock) {n : Int} (hn : ∀ e ∈ M, e.n ≠ n) (t : Tk) : (Instr.mapUpdate 112 (.map (some k)) (.int .i64 n) (tV t)).run Try.prog w = .ok () (putB w k (M ++ [⟨t, n, clock⟩]) (clock + 1)) := by
  have hf := find_noneB hn w
  simp [Instr.mapUpdate, run_underlying Try.underlying112, MapKept.run_getObj_map h, run_checkKey (P := Try.prog) (w := w) Try.underlying3 (isk n) _ 9999, hf, MapKept.run_setObj_map _ h, Result.andThen, putB, entB]
end
theorem setBlock_at {w : World} {r : Nat} (hr : r < w.heap.size) (o : Obj) : (setBlock w r o).heap[r]? = some o := by
  unfold setBlock
  exact Array.getElem?_setIfInBounds_self_of_lt hr
theorem setBlock_ch (w : World) (r : Nat) (o : Obj) : Ch (Only r) w (setBlock w r o) :=
  ⟨rfl, rfl, rfl, by simp [setBlock], fun i _ hi => by
    unfold setBlock
    exact Array.getElem?_setIfInBounds_ne (fun e => hi e.symm)⟩
/-- one side of the timers: its nodes, in their order, and where they stand in the map -/
structure Sd1 (M : List Me) (S : List Tn) (nv : Bool) : Prop where
  tt : ∀ e ∈ M, e.t.nv = nv → (⟨e.t, e.n⟩ : Tn) ∈ S
  from' : ∀ x ∈ S, ∃ e ∈ M, e.t = x.1 ∧ e.n = x.2 ∧ e.t.nv = nv
  nn : (S.map (·.2)).Nodup
  uid : (M.map (·.t.id)).Nodup
theorem Sd1.one {M : List Me} {S : List Tn} {nv : Bool} (h : Sd1 M S nv) {e f : Me} (he : e ∈ M) (hf : f ∈ M) (ee : e.t.nv = nv) (ef : f.t.nv = nv) (hn : e.n = f.n) : e = f := by
  have h1 := h.tt e he ee
  have h2 := h.tt f hf ef
  obtain ⟨i, hi⟩ := List.mem_iff_getElem?.1 h1
  obtain ⟨j, hj⟩ := List.mem_iff_getElem?.1 h2
  have k1 : (S.map (·.2))[i]? = some e.n := by rw [List.getElem?_map, hi]; rfl
  have k2 : (S.map (·.2))[j]? = some e.n := by rw [List.getElem?_map, hj, hn]; rfl
  have e1 := (List.getElem?_inj (List.getElem?_eq_some_iff.1 k1).1 h.nn).1 (k1.trans k2.symm)
  subst e1
  rw [hi] at hj
  injection hj with hj
  injection hj with hj1 hj2
  obtain ⟨a, ha⟩ := List.mem_iff_getElem?.1 he
  obtain ⟨b, hb⟩ := List.mem_iff_getElem?.1 hf
  have := one_key h.uid ha hb (by rw [hj1])
  subst this
  rw [ha] at hb
  injection hb
/-- what has been gathered of one side -/
structure Gt (M : List Me) (nv : Bool) (seen : Array Nat) (B : List Me) : Prop where
  all : ∀ e ∈ M, seen.contains e.b = true → e.t.nv = nv → ∃ f ∈ B, f.n = e.n ∧ f.t = e.t
  old : ∀ f ∈ B, ∃ e ∈ M, seen.contains e.b = true ∧ e.t.nv = nv ∧ f.n = e.n
  nd : (B.map (·.n)).Nodup
theorem Gt.nil (M : List Me) (nv : Bool) : Gt M nv #[] [] := ⟨fun e _ h => by simp at h, fun f h => by simp at h, by simp⟩
theorem contains_pushed (seen : Array Nat) (x y : Nat) : (seen.push x).contains y = (seen.contains y || (y == x)) := by
  by_cases h : y = x
  · subst h; simp
  · simp [h]
theorem Gt.skip {M : List Me} {nv : Bool} {seen : Array Nat} {B : List Me} (h : Gt M nv seen B) {e : Me} (he : e ∈ M) (hs : (M.map (·.b)).Nodup) (hv : e.t.nv ≠ nv) : Gt M nv (seen.push e.b) B where
  all := fun f hf hc hn => by
    rw [contains_pushed, Bool.or_eq_true] at hc
    rcases hc with hc | hc
    · exact h.all f hf hc hn
    · have e1 : f.b = e.b := by simpa using hc
      obtain ⟨i, hi⟩ := List.mem_iff_getElem?.1 hf
      obtain ⟨j, hj⟩ := List.mem_iff_getElem?.1 he
      have k1 : (M.map (·.b))[i]? = some f.b := by rw [List.getElem?_map, hi]; rfl
      have k2 : (M.map (·.b))[j]? = some f.b := by rw [List.getElem?_map, hj, e1]; rfl
      have := (List.getElem?_inj (List.getElem?_eq_some_iff.1 k1).1 hs).1 (k1.trans k2.symm)
      subst this
      rw [hi] at hj
      injection hj with hj
      subst hj
      exact (hv hn).elim
  old := fun f hf => by
    obtain ⟨e0, h1, h2, h3⟩ := h.old f hf
    exact ⟨e0, h1, by rw [contains_pushed, h2]; rfl, h3⟩
  nd := h.nd
theorem Gt.add {M : List Me} {S : List Tn} {nv : Bool} {seen : Array Nat} {B : List Me} (h : Gt M nv seen B) (hS : Sd1 M S nv) {e : Me} (he : e ∈ M) (hs : (M.map (·.b)).Nodup) (hc0 : seen.contains e.b = false) (hv : e.t.nv = nv) (c : Nat) : (∀ f ∈ B, f.n ≠ e.n) ∧ Gt M nv (seen.push e.b) (B ++ [⟨e.t, e.n, c⟩]) := by
  have hno : ∀ f ∈ B, f.n ≠ e.n := fun f hf hn => by
    obtain ⟨e0, h1, h2, h3, h4⟩ := h.old f hf
    have := hS.one h1 he h3 hv (h4.symm.trans hn)
    subst this
    rw [h2] at hc0
    cases hc0
  refine ⟨hno, fun f hf hc hn => ?_, fun f hf => ?_, ?_⟩
  · rw [contains_pushed, Bool.or_eq_true] at hc
    rcases hc with hc | hc
    · obtain ⟨g, hg, h2⟩ := h.all f hf hc hn
      exact ⟨g, List.mem_append_left _ hg, h2⟩
    · have e1 : f.b = e.b := by simpa using hc
      obtain ⟨i, hi⟩ := List.mem_iff_getElem?.1 hf
      obtain ⟨j, hj⟩ := List.mem_iff_getElem?.1 he
      have k1 : (M.map (·.b))[i]? = some f.b := by rw [List.getElem?_map, hi]; rfl
      have k2 : (M.map (·.b))[j]? = some f.b := by rw [List.getElem?_map, hj, e1]; rfl
      have := (List.getElem?_inj (List.getElem?_eq_some_iff.1 k1).1 hs).1 (k1.trans k2.symm)
      subst this
      rw [hi] at hj
      injection hj with hj
      subst hj
      exact ⟨⟨f.t, f.n, c⟩, List.mem_append_right _ (by simp), rfl, rfl⟩
  · rcases List.mem_append.1 hf with hf | hf
    · obtain ⟨e0, h1, h2, h3⟩ := h.old f hf
      exact ⟨e0, h1, by rw [contains_pushed, h2]; rfl, h3⟩
    · simp only [List.mem_singleton] at hf
      subst hf
      exact ⟨e, he, by rw [contains_pushed]; simp, hv, rfl⟩
  · rw [List.map_append]
    refine List.nodup_append.2 ⟨h.nd, by simp, fun a ha b hb => ?_⟩
    obtain ⟨f, hf, rfl⟩ := List.mem_map.1 ha
    simp only [List.map_cons, List.map_nil, List.mem_singleton] at hb
    rw [hb]
    exact hno f hf
/-- the timers' map while it is ranged over -/
structure Rg (w : World) (mr r kb : Nat) (M : List Me) (mc : Nat) (nv : Bool) (seen : Array Nat) (B : List Me) (cb : Nat) (W : World) : Prop where
  it : W.heap[r]? = some (.mapIter (some mr) mc seen mc)
  bt : BAt W kb B cb
  gt : Gt M nv seen B
  gr : Gr w W
theorem srt_nd {S : List Tn} (h : SrtN S) : Hp.Srt (S.map nd) := by
  unfold Hp.Srt
  rw [List.pairwise_map]
  exact List.Pairwise.imp (fun {a b} hl => decide_eq_true hl) h
set_option maxHeartbeats 16000000 in
theorem listed_core {T1 T2 Th : Nat → Prop} {w : World} {b : Nat} {last : Int} {d : Dt} (h : Tw T1 T2 w b last d) (nv : Bool) (bh : Nat) (xs : List Hp.W3) (nx : Int) (S : List Tn) (hh : Hp.Hh Th w bh xs nx) (hline : ∀ W, Gr w W → Calls Try.prog 52 #[.pointer (some ⟨b, 0, none⟩), .agg #[.int .i64 0, .int .i64 0, .int .i64 0, .int .i64 0, .int .i64 0, .int .u64 0, .bool nv, .int .u64 0]] W fun e w' => e = .returned (.pointer (some ⟨bh, 0, none⟩)) ∧ Gr W w') (hp : xs.Perm (S.map nd)) (hs : SrtN S) (hsd : Sd1 d.M S nv) (hst : ∀ e ∈ d.M, e.b < d.mc) (hsn : (d.M.map (·.b)).Nodup) (hmax : xs.length ≤ 1099511627776) (hmax2 : xs.length ≤ 4294967296) :
    Calls Try.prog 44 #[.pointer (some ⟨b, 0, none⟩), .bool nv] w fun e w' => ∃ v, e = .returned v ∧ Ow eT 8 46 w.heap.size w' v (S.map (·.1)) ∧ Gr w w' := by
  have hmm := @run_makeMap Try.prog
  obtain ⟨M, hM⟩ : ∃ x, x = d.M := ⟨_, rfl⟩
  obtain ⟨mr, hmr⟩ : ∃ x, x = d.mr := ⟨_, rfl⟩
  obtain ⟨mc, hmc⟩ : ∃ x, x = d.mc := ⟨_, rfl⟩
  have hma : MAt w mr M mc := by rw [hM, hmr, hmc]; exact h.m
  have c3 := cell_of h.hb 3
  simp at c3
  rw [← hmr] at c3
  have bl := lt_of_block h.hb
  rw [← hM, ← hmc] at hst
  rw [← hM] at hsd hsn
  obtain ⟨es, hes⟩ : ∃ es, es = (M.map ent).toArray := ⟨_, rfl⟩
  have hb0 : w.heap[mr]? = some (.map es mc) := by rw [hes]; exact hma
  have e1 : (w.alloc (.map #[] 0)).heap.size = w.heap.size + 1 := by simp
  have hrg := run_range_map (P := Try.prog) (w.alloc (.map #[] 0)) 66 2 94 mr es mc Try.underlying66 ((Below.heap_alloc _ _ _ (lt_of_block hb0)).trans hb0)
  rw [e1] at hrg
  have HMB := hid hb0
  have HML := hid (lt_of_block hb0)
  have HES := hid hes
  have HLN := hid hline
  have HHH := hid (fun W (k : Gr w W) => Hp.numbers_any Th bh xs nx W (hh.still k) hmax2)
  have HP := hid hp
  have HS := hid hs
  have HSD := hid hsd
  have HST := hid hst
  have HSN := hid hsn
  have HB := hid hmax
  have HXL := hid (show S.length = xs.length from by have := hp.length_eq; rw [List.length_map] at this; exact this.symm)
  have R0 := hid (show Rg w mr (w.heap.size + 1) w.heap.size M mc nv #[] [] 0 ((w.alloc (.map #[] 0)).alloc (.mapIter (some mr) mc #[] mc)) from ⟨al_at _ (by simp), al_blk (al_at _ rfl) _, Gt.nil _ _, Ch.alloc (Ch.alloc (Gr.refl w) _) _⟩)
  obtain ⟨rb, hrb⟩ : ∃ x, x = w.heap.size + 1 := ⟨_, rfl⟩
  obtain ⟨kb, hkb⟩ : ∃ x, x = w.heap.size := ⟨_, rfl⟩
  have HRB := hid (show w.heap.size ≤ rb ∧ w.heap.size ≤ kb ∧ rb ≠ kb from by omega)
  rw [← hrb, ← hkb] at R0
  rw [← hrb] at hrg
  have hrb2 := hid hrb
  have hkb2 := hid hkb
  clear h hM hmr hmc hma hes hb0 e1 hline hh hp hs hsd hst hsn hmax hmax2 hrb hkb
  go_enter Try.func44, Try.ntmps44
  go_wp2_with fail
  clear hrg hmm c3 bl
  rw [← hkb2.out]
  go_loopg [17] (leftOf es #[]).size (fun q _ wr => ∃ seen B cb, (leftOf es seen).size = q ∧ Rg w mr rb kb M mc nv seen B cb wr)
  case atStart => exact ⟨#[], [], 0, rfl, R0.out⟩
  case round =>
    obtain ⟨seen, B, cb, hq, hr⟩ := hrel
    obtain ⟨V, hV⟩ : ∃ W, W = wr := ⟨_, rfl⟩
    subst hV
    have RR := hid hr
    have HQ := hid hq
    have hmr1 : V.heap[mr]? = some (.map es mc) := (hr.gr.block _ HML.out (noB _)).trans HMB.out
    have law := run_next_at (P := Try.prog) V 0 rb mr mc mc seen es mc hr.it hmr1 (fun x hx => by
      rw [HES.out] at hx
      obtain ⟨e, he, rfl⟩ := List.mem_map.1 (by simpa using hx)
      exact HST.out e he) (Nat.le_refl _)
    rcases law with ⟨h0, hrun⟩ | ⟨e0, he0, w1, hal, hrun⟩
    · have hnx : ∀ ty, (Instr.next (.pointer (some ⟨rb, 0, none⟩)) false ty).run Try.prog V = _ := fun _ => hrun
      have HALL := hid (all_seen es seen h0)
      clear hrun h0 hr hq hmr1
      obtain ⟨m, hm⟩ : ∃ x, x = S.length := ⟨_, rfl⟩
      have HM := hid hm
      have HGA := hid (show ∀ x ∈ S, ∃ f ∈ B, f.n = x.2 ∧ f.t = x.1 from fun x hx => by
        obtain ⟨e, he, h1, h2, h3⟩ := HSD.out.from' x hx
        obtain ⟨f, hf, h4, h5⟩ := RR.out.gt.all e he (HALL.out (ent e) (by rw [HES.out]; simpa using ⟨e, he, rfl⟩)) h3
        exact ⟨f, hf, h4.trans h2, h5.trans h1⟩)
      have HND := hid RR.out.gt.nd
      clear hm
      go_wp2_with (first
        | (go_at_call 52; refine (HLN.out _ RR.out.gr).mono ?_; rintro e w2 ⟨rfl, g2⟩; have G2 := hid (Gr.trans RR.out.gr g2); have B2 := hid (RR.out.bt.ch g2 (noB _)); clear g2)
        | (go_at_call 58; refine (HHH.out _ G2.out).mono ?_; rintro e w3 ⟨v3, zs, rfl, hz, hsr, o3, g3⟩; obtain rfl : zs = S.map nd := Hp.srt_uniq (hz.trans HP.out) hsr (srt_nd HS.out); obtain ⟨a3, cc3, rfl⟩ : ∃ a c, v3 = .slice a m c := (by obtain ⟨a, c, e⟩ := o3.form; exact ⟨a, c, by rw [e, Hp.iv_length, List.length_map, List.length_map, HM.out]⟩); have G3 := hid (Gr.trans G2.out g3); have B3 := hid (B2.out.ch g3 (noB _)); have O3 := hid o3; have KB3 := hid (show kb < w2.heap.size from B2.out.lt); clear hz hsr o3 g3))
      go_loopg [8, 37] m (fun q v i wr => ∃ (j : Nat) (ao : Option Addr) (cp : Nat), j + q = m ∧ v = .slice ao j cp ∧ i = .int .i64 (j : Int) ∧ Ow eT 8 46 w.heap.size wr (.slice ao j cp) ((S.take j).map (·.1)) ∧ BAt wr kb B cb ∧ Hp.Ow 3 w2.heap.size wr (.slice a3 m cc3) (Hp.iv ((S.map nd).map (·.n))) ∧ Gr w wr ∧ ∀ q, Blk (.slice ao j cp) q → q ≠ kb ∧ ¬ Blk (.slice a3 m cc3) q)
      case atStart => exact ⟨0, none, 0, by omega, rfl, rfl, Ow.nil _ _ _ _ _, B3.out, O3.out, G3.out, fun q hq => by cases hq⟩
      case round =>
        obtain ⟨j, ao, cp, hjq, rfl, rfl, how, hbt, hon, hgr, hbl⟩ := hrel
        obtain ⟨V4, hV4⟩ : ∃ W, W = wr := ⟨_, rfl⟩
        subst hV4
        have OW := hid how
        have BT := hid hbt
        have ON := hid hon
        have GR := hid hgr
        have BL := hid hbl
        by_cases hj : j < m
        · obtain ⟨x, hx⟩ : ∃ x, S[j]? = some x := ⟨_, List.getElem?_eq_getElem (by rw [← HM.out]; exact hj)⟩
          obtain ⟨f, hf, hf1, hf2⟩ := HGA.out x (List.mem_of_getElem? hx)
          have hL := look_someB hbt HND.out hf false
          simp only [Bool.false_eq_true, if_false] at hL
          unfold tV at hL
          rw [hf1, hf2] at hL
          have hnx : ((S.map nd).map (·.n))[j]? = some x.2 := by rw [List.getElem?_map, List.getElem?_map, hx]; rfl
          obtain ⟨gn, hsn2, _, gnl, _, z0, _, _⟩ := hon.get1 (Hp.iv_get hnx)
          subst hsn2
          have jm : (j : Int) < (m : Int) := Int.ofNat_lt.2 hj
          have j0 : (0 : Int) ≤ (j : Int) := Int.natCast_nonneg _
          have hmb : m ≤ 1099511627776 := by rw [HM.out, HXL.out]; exact HB.out
          have HTK := hid (show (S.take j).map (·.1) ++ [x.1] = (S.take (j + 1)).map (·.1) from by rw [take_succ hx, List.map_append]; rfl)
          have HLN2 := hid (show ((S.take j).map (·.1)).length = j from by rw [List.length_map, List.length_take, ← HM.out]; omega)
          clear how hbt hon hgr hbl hx hf hf1 hf2 hnx
          go_wp2_with (at_builtin; refine wpList_append_ow eT_len rfl (.tmp 41) (.tmp 45) _ 46 64 _ Try.underlying25 tmr_info rfl (by omega) rfl w.heap.size _ ((S.take j).map (·.1)) rfl (OW.out.alloc _) _ _ [x.1] rfl (Ls.single (enc := eT) V4 x.1 46 #[.int .i64 x.1.id, .int .i64 x.1.kind, .int .i64 x.1.s, .int .i64 x.1.g, .int .i64 x.1.ch, .int .u64 x.1.wh, .bool x.1.nv, .int .u64 x.1.pd] rfl) (eT_one _) (j + 1) (by rw [HLN2.out]; rfl) (by omega) (by unfold maxLen; omega) (Nat.le_trans GR.out.size (Ch.alloc (Gr.refl V4) _).size) ((S.take (j + 1)).map (·.1)) HTK.out ?_; intro ao5 cap5 w6 ow6 cw6 bl6; have O6 := hid ow6; have C6 := hid cw6; have BL6 := hid bl6; clear ow6 cw6 bl6)
          go_roundg (gk - 1)
          case measure => omega
          case rel =>
            have hgv : Gr V4 (V4.alloc (.cells #[.int .i64 x.1.id, .int .i64 x.1.kind, .int .i64 x.1.s, .int .i64 x.1.g, .int .i64 x.1.ch, .int .u64 x.1.wh, .bool x.1.nv, .int .u64 x.1.pd] 46)) := Ch.alloc (Gr.refl _) _
            refine ⟨j + 1, ao5, cap5, by omega, rfl, by first | with_reducible rfl | simp, O6.out, (BT.out.ch hgv (noB _)).ch C6.out (fun e => (BL.out kb e).1 rfl), (ON.out.ch hgv (fun _ _ => noB _)).ch C6.out (fun g hg e => (BL.out g e).2 hg), Ch.trans (Gr.trans GR.out hgv) C6.out (fun q hq => .inr (OW.out.blk hq).1), fun q hq => ?_⟩
            rcases BL6.out q hq with h | h
            · exact BL.out q h
            · have h2 := hgv.size
              exact ⟨fun e => by have := BT.out.lt; omega, fun e => by have := (ON.out.blk e).2; omega⟩
        · have ej : j = m := by omega
          subst ej
          have jm : ¬ ((j : Int) < (j : Int)) := by omega
          have HTK := hid (show S.take j = S from List.take_of_length_le (by rw [← HM.out]; exact Nat.le_refl _))
          rw [HTK.out] at OW
          clear how hbt hon hgr hbl
          go_wp2
          go_ret
          exact ⟨_, rfl, OW.out, GR.out⟩
    · obtain ⟨hm0, hc0⟩ := mem_left he0
      have hsh := left_shrinks es seen e0 he0
      rw [HES.out] at hm0
      obtain ⟨e, he, rfl⟩ := List.mem_map.1 (show e0 ∈ M.map ent by simpa using hm0)
      have hc1 : seen.contains e.b = false := hc0
      obtain ⟨V1, hV1⟩ : ∃ V1, V1 = setBlock w1 rb (.mapIter (some mr) mc (seen.push e.b) mc) := ⟨_, rfl⟩
      have hg1 : Ch (Only rb) V V1 := by
        rw [hV1]
        rcases hal with rfl | rfl
        · exact setBlock_ch _ _ _
        · exact Ch.trans (Ch.drew (Ch.refl _ _)) (setBlock_ch _ _ _) (fun q e => .inl e)
      have hrl : rb < w1.heap.size := by rcases hal with rfl | rfl <;> exact lt_of_block hr.it
      have hit : V1.heap[rb]? = some (.mapIter (some mr) mc (seen.push e.b) mc) := by rw [hV1]; exact setBlock_at hrl _
      have hmr2 : V1.heap[mr]? = some (.map es mc) := (hg1.block _ (lt_of_block hmr1) (fun q => by have e1 : mr = rb := q; have := HML.out; have := HRB.out.1; omega)).trans hmr1
      have hen := run_entry_at (P := Try.prog) V1 rb mr mc seen es mc (ent e) hit hmr2 (by rw [HES.out]; simpa using ⟨e, he, rfl⟩) (by rw [HES.out]; simpa [List.map_map, Function.comp_def, ent] using HSN.out)
      have hnx : ∀ ty, (Instr.next (.pointer (some ⟨rb, 0, none⟩)) false ty).run Try.prog V = .ok (.tuple #[.bool true, .int .i64 e.t.id, .agg #[.int .i64 e.t.id, .int .i64 e.t.kind, .int .i64 e.t.s, .int .i64 e.t.g, .int .i64 e.t.ch, .int .u64 e.t.wh, .bool e.t.nv, .int .u64 e.t.pd, .int .i64 e.n]]) V1 := fun _ => by rw [hV1]; exact hrun
      have hen2 : (Instr.entry (.pointer (some ⟨rb, 0, none⟩))).run Try.prog V1 = .ok (.tuple #[.int .i64 e.t.id, .agg #[.int .i64 e.t.id, .int .i64 e.t.kind, .int .i64 e.t.s, .int .i64 e.t.g, .int .i64 e.t.ch, .int .u64 e.t.wh, .bool e.t.nv, .int .u64 e.t.pd, .int .i64 e.n]]) V1 := hen
      have HIT := hid hit
      have BT1 := hid (hr.bt.ch hg1 (fun q => HRB.out.2.2 (show rb = kb from (show kb = rb from q).symm)))
      have G1 := hid (show Gr w V1 from Ch.trans hr.gr hg1 (fun q e => .inr (by have e1 : q = rb := e; have := HRB.out.1; omega)))
      have GA1 := hid (show Gr V1 (V1.alloc (.cells #[.int .i64 e.t.id, .int .i64 e.t.kind, .int .i64 e.t.s, .int .i64 e.t.g, .int .i64 e.t.ch, .int .u64 e.t.wh, .bool e.t.nv, .int .u64 e.t.pd, .int .i64 e.n] 94)) from Ch.alloc (Gr.refl _) _)
      have HE := hid he
      have HSH := hid (show (leftOf es (seen.push e.b)).size < (leftOf es seen).size from hsh)
      by_cases hv : e.t.nv = nv
      · obtain ⟨hno, hgt⟩ := RR.out.gt.add HSD.out he HSN.out hc1 hv cb
        have hE := update_newB (BT1.out.ch GA1.out (noB _)) hno e.t
        unfold tV at hE
        have hB : (e.t.nv == nv) = true := by simpa using hv
        have HGT := hid hgt
        clear hrun hr hq hmr1 hm0 hc0 he0 hsh he hc1 hV1 hal hg1 hrl hit hmr2 hen hno hgt hv
        go_wp2
        go_roundg ((leftOf es (seen.push e.b)).size)
        case measure => have := HSH.out; have := HQ.out; omega
        case rel =>
          have k1 := putB_ch (V1.alloc (.cells #[.int .i64 e.t.id, .int .i64 e.t.kind, .int .i64 e.t.s, .int .i64 e.t.g, .int .i64 e.t.ch, .int .u64 e.t.wh, .bool e.t.nv, .int .u64 e.t.pd, .int .i64 e.n] 94)) kb (B ++ [⟨e.t, e.n, cb⟩]) (cb + 1)
          refine ⟨seen.push e.b, B ++ [⟨e.t, e.n, cb⟩], cb + 1, rfl, ⟨?_, putB_at (lt_of_block (BT1.out.ch GA1.out (noB _))) _ _, HGT.out, Ch.trans (Gr.trans G1.out GA1.out) k1 (fun q e => .inr (by have e1 : q = kb := e; have := HRB.out.2.1; omega))⟩⟩
          exact (k1.block _ (lt_of_block (gr_blk HIT.out GA1.out)) (fun q => HRB.out.2.2 q)).trans (gr_blk HIT.out GA1.out)
      · have HGT := hid (RR.out.gt.skip he HSN.out hv)
        have hB : (e.t.nv == nv) = false := by simpa using hv
        clear hrun hr hq hmr1 hm0 hc0 he0 hsh he hc1 hV1 hal hg1 hrl hit hmr2 hen hv
        go_wp2
        go_roundg ((leftOf es (seen.push e.b)).size)
        case measure => have := HSH.out; have := HQ.out; omega
        case rel => exact ⟨seen.push e.b, B, cb, rfl, ⟨gr_blk HIT.out GA1.out, BT1.out.ch GA1.out (noB _), HGT.out, Gr.trans G1.out GA1.out⟩⟩
end Go.Proofs.Ytgkapopkjgljjaa.Lt
