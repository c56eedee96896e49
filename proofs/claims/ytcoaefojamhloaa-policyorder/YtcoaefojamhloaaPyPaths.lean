/-
  The program's table of paths: paths. Conditions: at most 16 domains, and edges that may be.
-/
import Derived.Test.YtcoaefojamhloaaPyRel
namespace Go.Proofs.Ytcoaefojamhloaa.Lt
open Go.RowKit Wd
attribute [local go_sem ↓] Go.wp_at_zero Go.wp_at_succ
set_option maxRecDepth 20000

def zrel : Array Value := (List.replicate 256 (Value.bool false)).toArray
theorem zrel_run (w : World) : Sem.run Try.prog (zeroValue 55) w = .ok (.agg zrel) w := by kernel_rfl
theorem zrel_tbl : Tbl zrel (fun _ _ => false) := by
  refine ⟨by simp [zrel], fun i j hi hj => ?_⟩
  unfold zrel
  rw [List.getElem?_toArray, List.getElem?_replicate, if_pos (by omega)]
theorem rel_size : (Try.prog.info? 55).map (·.size) = some 256 := by kernel_rfl
theorem Tbl.one {c : Array Value} {r : Rl} (h : Tbl c r) : c.all (·.oneCell') = true := by
  rw [Array.all_eq_true]
  intro k hk
  have hk2 : k < 256 := by rw [← h.1]; exact hk
  have := h.2 (k / 16) (k % 16) (by omega) (by omega)
  rw [show k / 16 * 16 + k % 16 = k by omega] at this
  obtain ⟨_, e⟩ := Array.getElem?_eq_some_iff.1 this
  rw [e]
  rfl
theorem setRow_blk {w : World} {g : Nat} {t : TypeId} {old c : Array Value} (hg : w.heap[g]? = some (.cells old t (0, 0))) : (w.setRow g c).heap[g]? = some (.cells c t (0, 0)) := by
  simp [World.setRow, Array.getElem?_modify, hg]
theorem setRow_ch (w : World) (g : Nat) (c : Array Value) : Ch (Only g) w (w.setRow g c) := by
  refine ⟨rfl, rfl, rfl, by simp [World.setRow], fun k _ hk => ?_⟩
  have : g ≠ k := fun e => hk e.symm
  simp [World.setRow, Array.getElem?_modify, this]
/-- a struct stored whole: what lies there then, and nothing else has turned -/
theorem st_row {ops : Array Oper} {rest : List Oper} {o : Oper} {a : Act} {w : World} {Q : Exit → Act → World → Prop} (hgd : o.guard = none) (ty : TypeId) (x y : Operand) (ho : o.op = .store ty x y)
    (g : Nat) (cells : Array Value) (hx : a.eval x = .pointer (some ⟨g, 0, none⟩)) (hy : a.eval y = .agg cells)
    (t : TypeId) (old : Array Value) (hg : w.heap[g]? = some (.cells old t (0, 0))) (hi : (Try.prog.info? ty).map (·.size) = some cells.size)
    (hold : old.size = cells.size) (h1 : cells.all (·.oneCell') = true)
    (h : ∀ w', w'.heap[g]? = some (.cells cells t (0, 0)) → Ch (Only g) w w' → wpList Try.prog ops Q rest (a.put o.dst undef) w') : wpList Try.prog ops Q (o :: rest) a w :=
  wpList_store_row hgd ty x y ho g cells hx hy t old hg hi hold h1 (h _ (setRow_blk hg) (setRow_ch w g cells))
theorem dg_set {k : Nat} (a c : Nat) : dg (k + 1) a c = if a = k ∧ c = k then true else dg k a c := by
  unfold dg
  by_cases h : a = k ∧ c = k
  · rw [if_pos h]
    obtain ⟨rfl, rfl⟩ := h
    simp
  · rw [if_neg h]
    by_cases e : a = c
    · subst e
      have h3 : a ≠ k := fun q => h ⟨q, q⟩
      have : decide (a < k + 1) = decide (a < k) := by
        by_cases h4 : a < k
        · rw [decide_eq_true h4, decide_eq_true (by omega)]
        · rw [decide_eq_false h4, decide_eq_false (by omega)]
      rw [this]
    · simp [e]
theorem addE_set (r : Rl) (x : Eg) (a c : Nat) : addE r x a c = if a = x.f.toNat ∧ c = x.t.toNat then true else r a c := by
  unfold addE
  by_cases h : a = x.f.toNat ∧ c = x.t.toNat
  · rw [if_pos h]; simp [h.1, h.2]
  · rw [if_neg h]
    have : (decide (a = x.f.toNat) && decide (c = x.t.toNat)) = false := by
      rw [Bool.and_eq_false_iff]
      by_cases h1 : a = x.f.toNat
      · exact .inr (by simpa using fun q => h ⟨h1, q⟩)
      · exact .inl (by simpa using h1)
    rw [this]
    simp
set_option maxHeartbeats 8000000 in
theorem paths_any (w : World) (n : Nat) (hn : n ≤ 16) (a : Option Addr) (m c : Nat) (l : List Eg) (h : Le w (.slice a m c) l) (hm : m ≤ 8796093022208) (hl : Okl (n : Int) l) :
    Calls Try.prog 28 #[.int .i64 (n : Int), .slice a m c] w fun e w' => ∃ cs, e = .returned (.agg cs) ∧ Tbl cs (pthR n l) ∧ Gr w w' := by
  have hz := zrel_run
  obtain ⟨A, hA⟩ : ∃ A, A = (w.alloc (.cells zrel 55)).alloc (.cells zrel 55) := ⟨_, rfl⟩
  have GA := hide (show Gr w A by rw [hA]; exact Ch.alloc (Ch.alloc (Gr.refl w) _) _)
  have B4 := hide (show A.heap[w.heap.size]? = some (.cells zrel 55 (0, 0)) by rw [hA]; exact gr_blk (al_at _ rfl) (Ch.alloc (Gr.refl _) _))
  have HB := hide (show RAt A (w.heap.size + 1) (dg 0) by
    rw [hA]
    refine RAt.same (r := fun _ _ => false) ⟨zrel, al_at _ (by simp), zrel_tbl⟩ (fun i j _ _ => ?_)
    simp [dg])
  have HZ := hide (show A.heap.size = w.heap.size + 2 by rw [hA]; simp)
  have HL := hide h
  have HM := hide (show m = l.length from h.len.1)
  have HO := hide hl
  clear h hl
  go_enter Try.func28, Try.ntmps28
  go_wp2_with fail
  rw [← hA]
  clear hA
  go_loopg [11] n (fun k i wr => ∃ (j : Nat), j + k = n ∧ i = .int .i64 (j : Int) ∧ RAt wr (w.heap.size + 1) (dg j) ∧ Ch (Only (w.heap.size + 1)) A wr)
  case atStart => exact ⟨0, by omega, rfl, HB.out, Ch.refl _ _⟩
  case round =>
    obtain ⟨j, hjk, rfl, hr, hc⟩ := hrel
    have HR := hide hr
    have HC := hide hc
    by_cases hj : j < n
    · have hj' : (j : Int) < (n : Int) := by omega
      have hj2 : (j : Int) < 16 := by omega
      have hj0 : (0 : Int) ≤ (j : Int) := by omega
      have c2 := hr.cell (i := j) (j := j) (by omega) (by omega)
      generalize dg j j j = old at c2
      have pl := hr.lt
      have fz := hr.fr
      clear hr hc
      go_wp2
      go_roundg (n - (j + 1))
      case measure => omega
      case rel =>
        refine ⟨j + 1, by omega, ?_, HR.out.set true (by omega) (by omega) (fun i k _ _ => dg_set i k), HC.out.own _ _⟩
        first | with_reducible rfl | simp
    · have hj' : ¬ ((j : Int) < (n : Int)) := by omega
      have hje : j = n := by omega
      subst hje
      clear hr hc
      go_wp2_with fail
      go_loopg [21] m (fun k i wr => ∃ (q : Nat), q + k = m ∧ i = .int .i64 (q : Int) ∧ RAt wr (w.heap.size + 1) ((l.take q).foldl addE (dg j)) ∧ Ch (Only (w.heap.size + 1)) A wr)
      case atStart => exact ⟨0, by omega, rfl, by rw [List.take_zero]; exact HR.out, HC.out⟩
      case round =>
        obtain ⟨q, hqk, rfl, hr, hc⟩ := hrel
        have HR := hide hr
        have HC := hide hc
        have HG := hide (show Gr w wr from Ch.trans GA.out hc (fun x e => .inr (by have e1 : x = w.heap.size + 1 := e; omega)))
        by_cases hq : q < m
        · have hq' : (q : Int) < (m : Int) := by omega
          have hq0 : (0 : Int) ≤ (q : Int) := by omega
          have hqm : (q : Int) < 8796093022208 := by omega
          have hql : q < l.length := by rw [← HM.out]; exact hq
          have hqx : l[q]? = some l[q] := List.getElem?_eq_getElem hql
          have HT := hide (show (l.take (q + 1)).foldl addE (dg j) = addE ((l.take q).foldl addE (dg j)) l[q] by rw [List.take_add_one, hqx, List.foldl_append]; rfl)
          have ho := egB_iff.1 (HO.out l[q] (List.getElem_mem hql))
          obtain ⟨g, o, rfl, gl, gc, x0, x1⟩ := eg_at (HL.out.gr HG.out) hqx
          generalize l[q] = x at *
          obtain ⟨xf, xt⟩ := x
          simp only at ho x0 x1
          obtain ⟨f, rfl⟩ : ∃ f : Nat, xf = (f : Int) := ⟨xf.toNat, by omega⟩
          obtain ⟨t, rfl⟩ : ∃ t : Nat, xt = (t : Int) := ⟨xt.toNat, by omega⟩
          have hf16 : f < 16 := by omega
          have ht16 : t < 16 := by omega
          have hf2 : (f : Int) < 16 := by omega
          have hf0 : (0 : Int) ≤ (f : Int) := by omega
          have ht2 : (t : Int) < 16 := by omega
          have ht0 : (0 : Int) ≤ (t : Int) := by omega
          obtain ⟨V, hV⟩ : ∃ V, V = wr.alloc (.cells #[.int .i64 (f : Int), .int .i64 (t : Int)] 42) := ⟨_, rfl⟩
          have RV := hide (show RAt V (w.heap.size + 1) ((l.take q).foldl addE (dg j)) by rw [hV]; exact HR.out.gr (Ch.alloc (Gr.refl _) _))
          have CV := hide (show Ch (Only (w.heap.size + 1)) A V by rw [hV]; exact HC.out.alloc _)
          have HV := hide (show ∀ X, Ch (Only (w.heap.size + 1)) V X → X.cell? ⟨wr.heap.size, 0, none⟩ = some (.int .i64 (f : Int)) ∧ X.cell? ⟨wr.heap.size, 1, none⟩ = some (.int .i64 (t : Int)) ∧ wr.heap.size < X.heap.size from fun X k => by
            have hs := HR.out.lt
            have e := (k.block wr.heap.size (by rw [hV]; simp) (fun e => by have e1 : wr.heap.size = w.heap.size + 1 := e; omega)).trans (show V.heap[wr.heap.size]? = some (.cells #[.int .i64 (f : Int), .int .i64 (t : Int)] 42 (0, 0)) by rw [hV]; exact al_at _ rfl)
            exact ⟨cell_of e 0, cell_of e 1, lt_of_block e⟩)
          clear hr hc ho hqx hql
          go_wp2_with fail
          rw [← hV]
          clear hV
          have hS0 : Ch (Only (w.heap.size + 1)) V (World.drew V) := Ch.drew (Ch.refl _ _)
          have RV := hide (show RAt (World.drew V) (w.heap.size + 1) ((l.take q).foldl addE (dg j)) from RV.out)
          refine wp_region_held_drew (S := Ch (Only (w.heap.size + 1)) V) (by kernel_rfl) (by exact hS0) (fun _ => ?_)
          generalize World.drew V = V0 at hS0 RV ⊢
          refine takeS_on (i := 0) 25 (v := ?hv1) rfl rfl (by kernel_rfl) (by kernel_rfl) (by kernel_rfl) (fun _ _ _ h => h) (by kernel_rfl) ?hh1 (by exact hS0) ?_
          case hh1 => (intro w' hSw; go_simp; try (with_reducible rfl))
          simp only [Act.put, List.setIfInBounds_toArray, List.set_cons_zero, List.set_cons_succ]
          refine takeS_on (i := 1) 26 (v := ?hv2) rfl rfl (by kernel_rfl) (by kernel_rfl) (by kernel_rfl) (fun _ _ _ h => h) (by kernel_rfl) ?hh2 (by exact hS0) ?_
          case hh2 => (intro w' hSw; obtain ⟨v0, v1, vl⟩ := HV.out _ hSw; go_simp; try (with_reducible rfl))
          simp only [Act.put, List.setIfInBounds_toArray, List.set_cons_zero, List.set_cons_succ]
          refine takeS_on (i := 2) 27 (v := ?hv3) rfl rfl (by kernel_rfl) (by kernel_rfl) (by kernel_rfl) (fun _ _ _ h => h) (by kernel_rfl) ?hh3 (by exact hS0) ?_
          case hh3 => (intro w' hSw; go_simp; try (with_reducible rfl))
          simp only [Act.put, List.setIfInBounds_toArray, List.set_cons_zero, List.set_cons_succ]
          refine takeS_on (i := 3) 28 (v := ?hv4) rfl rfl (by kernel_rfl) (by kernel_rfl) (by kernel_rfl) (fun _ _ _ h => h) (by kernel_rfl) ?hh4 (by exact hS0) ?_
          case hh4 => (intro w' hSw; obtain ⟨v0, v1, vl⟩ := HV.out _ hSw; go_simp; try (with_reducible rfl))
          simp only [Act.put, List.setIfInBounds_toArray, List.set_cons_zero, List.set_cons_succ]
          refine takeS_on (i := 4) 29 (v := ?hv5) rfl rfl (by kernel_rfl) (by kernel_rfl) (by kernel_rfl) (fun _ _ _ h => h) (by kernel_rfl) ?hh5 (by exact hS0) ?_
          case hh5 => (intro w' hSw; go_simp; try (with_reducible rfl))
          simp only [Act.put, List.setIfInBounds_toArray, List.set_cons_zero, List.set_cons_succ]
          refine takeS_on (i := 5) 30 (v := ?hv6) rfl rfl (by kernel_rfl) (by kernel_rfl) (by kernel_rfl) (fun _ _ _ h => h) (by kernel_rfl) ?hh6 (by exact hS0) ?_
          case hh6 => (intro w' hSw; go_simp; try (with_reducible rfl))
          simp only [Act.put, List.setIfInBounds_toArray, List.set_cons_zero, List.set_cons_succ]
          refine wpAnyH_ready (rs := [6]) (by kernel_rfl) (by simp) (AllReadyH.cons rfl (fun K hK => ?_) AllReadyH.nil)
          have c2 := RV.out.cell (i := f) (j := t) hf16 ht16
          generalize (l.take q).foldl addE (dg j) f t = old at c2
          have pl := RV.out.lt
          have fz := RV.out.fr
          go_simp
          have hS1 := hS0.own (f * 16 + t) (.bool true)
          refine hK.out _ _ (by exact hS1) (fun _ => ?_)
          clear hK K
          refine wpAnyH_done (by kernel_rfl) ?_ _
          have RW := hide (RV.out.set (r' := addE ((l.take q).foldl addE (dg j)) ⟨(f : Int), (t : Int)⟩) true hf16 ht16 (fun i k _ _ => by rw [addE_set]; rfl))
          have CW := hide (Ch.trans' CV.out hS1)
          clear hS0 hS1
          go_wp2
          go_roundg (m - (q + 1))
          case measure => omega
          case rel =>
            refine ⟨q + 1, by omega, ?_, ?_, CW.out⟩
            · first | with_reducible rfl | simp
            · rw [HT.out]; exact RW.out
        · have hq' : ¬ ((q : Int) < (m : Int)) := by omega
          have hqe : q = m := by omega
          have HS := hide (show RAt wr (w.heap.size + 1) (wsh 0 (strt j l)) by
            have : l.take q = l := List.take_of_length_le (by rw [← HM.out]; omega)
            rw [this] at hr
            exact hr)
          have HW := hide (show ∀ k, Wn j (wsh k (strt j l)) from (Wn.strt HO.out).wsh)
          clear hr hc hqe HR
          go_wp2_with fail
          go_loopg [33] j (fun k i wr => ∃ (q : Nat), q + k = j ∧ i = .int .i64 (q : Int) ∧ RAt wr (w.heap.size + 1) (wsh q (strt j l)) ∧ Ch (Only (w.heap.size + 1)) A wr)
          case atStart => exact ⟨0, by omega, rfl, HS.out, HC.out⟩
          case round =>
            obtain ⟨u, huk, rfl, hr, hc⟩ := hrel
            have HR := hide hr
            have HC := hide hc
            by_cases hu : u < j
            · have hu' : (u : Int) < (j : Int) := by omega
              have CJ := hide (join_any wr (w.heap.size + 1) j u _ hn hu hr (HW.out u))
              clear hr hc
              go_wp2_with fail
              refine CJ.out.mono ?_
              rintro e w1 ⟨rfl, r1, c1⟩
              have R1 := hide r1
              have C1 := hide (Ch.trans' HC.out c1)
              clear r1 c1
              go_wp2
              go_roundg (j - (u + 1))
              case measure => omega
              case rel =>
                refine ⟨u + 1, by omega, ?_, R1.out, C1.out⟩
                first | with_reducible rfl | simp
            · have hu' : ¬ ((u : Int) < (j : Int)) := by omega
              have hue : u = j := by omega
              subst hue
              obtain ⟨cs, bs, ts⟩ := hr
              have hcs := ts.1
              have B5 := hide bs
              have TS := hide ts
              have B4' := hide (show wr.heap[w.heap.size]? = some (.cells zrel 55 (0, 0)) from (hc.block _ (by have := HZ.out; omega) (fun e => by have e1 : w.heap.size = w.heap.size + 1 := e; omega)).trans B4.out)
              have GW := hide (show Gr w wr from Ch.trans GA.out hc (fun x e => .inr (by have e1 : x = w.heap.size + 1 := e; omega)))
              clear hc bs ts
              go_wp2_with (first
                | (refine wpList_load_row rfl 55 (.tmp 5) rfl (w.heap.size + 1) rfl _ cs _ _ B5.out Try.underlying55 rfl (by rw [hcs]; exact rel_size) ?_)
                | (refine st_row rfl 55 (.tmp 4) (.tmp 40) rfl w.heap.size cs rfl rfl _ _ B4'.out (by rw [hcs]; exact rel_size) (by rw [hcs]; simp [zrel]) TS.out.one ?_; intro w9 b9 k9; have B9 := hide b9; have K9 := hide k9; clear b9 k9))
              refine bodyPost_ret (results_cell_row rfl _ _ w.heap.size 55 cs _ _ rfl B9.out Try.underlying55 rfl (by rw [hcs]; exact rel_size)) rfl ⟨cs, rfl, TS.out, ?_⟩
              exact Ch.trans GW.out K9.out (fun x e => .inr (by have e1 : x = w.heap.size := e; omega))
end Go.Proofs.Ytcoaefojamhloaa.Lt
