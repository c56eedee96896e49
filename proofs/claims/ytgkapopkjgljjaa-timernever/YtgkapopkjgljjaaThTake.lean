/-
  What takeAt leaves and tells. Condition: the heap is there and in order, the place is in it, and it has at most 4294967296 nodes.
-/
import Derived.Test.YtgkapopkjgljjaaThSink
import Derived.Handy
import Derived.Deep.DeepCutAuto
import Derived.Deep.CutBlock
namespace Go.Proofs.Ytgkapopkjgljjaa.Hp
open Go.RowKit Wd
attribute [local go_sem ↓] Go.wp_at_zero Go.wp_at_succ

theorem swp_self {xs : List W3} {l : Nat} {x : W3} (hx : xs[l]? = some x) : swp xs l l x x = xs := by
  apply List.ext_getElem?
  intro k
  by_cases e : k = l
  · subst e
    rw [swp_j hx, hx]
  · rw [swp_o e e]
/-- what takeAt tells and leaves -/
def TakenR (w : World) (b g km cap : Nat) (xs : List W3) (x : W3) (clock : Nat) (nx : Int) (e : Ending) (w' : World) : Prop := e = .returned (.agg #[.int .u64 x.w, .int .i64 x.n, .int .i64 x.v]) ∧ ∃ xs' M', HC w' b g km cap xs' M' clock nx ∧ xs.Perm (x :: xs') ∧ HP xs' ∧ Ch (Tri b g km) w w'

set_option maxRecDepth 20000 in
set_option maxHeartbeats 4000000 in
theorem takeAt_any (b g km cap a : Nat) (xs : List W3) (M : List (Int × Int × Nat)) (clock : Nat) (nx : Int) (x : W3) (w : World) (h : HC w b g km cap xs M clock nx) (hp : HP xs) (hx : xs[a]? = some x) (hn : xs.length ≤ 4294967296) :
    Calls Try.prog 65 #[.pointer (some ⟨b, 0, none⟩), .int .i64 (a : Int)] w fun e w' => TakenR w b g km cap xs x clock nx e w' := by
  have al : a < xs.length := (List.getElem?_eq_some_iff.1 hx).1
  obtain ⟨l, hl⟩ : ∃ l, l + 1 = xs.length := ⟨xs.length - 1, by omega⟩
  obtain ⟨y, hy⟩ : ∃ y, xs[l]? = some y := ⟨_, List.getElem?_eq_getElem (by omega)⟩
  obtain ⟨W0, hW0⟩ : ∃ W, W = w.alloc (.cells #[.int .u64 0, .int .i64 0, .int .i64 0] 119) := ⟨_, rfl⟩
  have g0 : Ch NoB w W0 := by rw [hW0]; exact (Ch.refl _ _).alloc _
  have t0 : Three W0 w.heap.size W3.zero := by rw [hW0]; exact Three.new w W3.zero
  have hlt := h.lt
  have h0 := h.still g0
  have c0 := h.cell.1
  rw [← hl] at c0
  have bl := lt_of_block h.hb
  have bl0 := lt_of_block h0.hb
  have hw1 : IntKind.i64.wrap ((l : Int) + 1 - 1) = (l : Int) := by rw [IntKind.wrap_i64]; omega
  have H := hid h
  have H0 := hid h0
  have HP0 := hid hp
  have HX1 := hid hx
  have HY1 := hid hy
  have HL := hid hl
  have HT0 := hid t0
  have HG0 := hid g0
  have HLT := hid hlt
  have al1 : a ≤ l := by omega
  have l32 : l < 4294967296 := by omega
  clear h h0 hp hx hy hl t0 g0 hlt al hn
  go_enter Try.func65, Try.ntmps65
  go_upto_region 2 with fail
  rw [← hW0]
  clear hW0 c0
  go_wp2_with fail
  refine (swap_any b g km cap a l xs M clock nx x y W0 H0.out HX1.out HY1.out).mono ?_
  rintro e w2 ⟨rfl, M2, h2, g2⟩
  have nr : ¬ Tri b g km w.heap.size := fun e => Nat.lt_irrefl _ (HLT.out _ e)
  have t2 := HT0.out.ch g2 nr
  have c2 := h2.cell.1
  rw [swp_len, ← HL.out] at c2
  have hx2 : (swp xs a l x y)[l]? = some x := swp_j HY1.out
  obtain ⟨p0, p1, p2⟩ := h2.own.get hx2
  have bl2 := lt_of_block h2.hb
  have gl2 := h2.gl
  have l0 : (0 : Int) ≤ (l : Int) := by omega
  have l1 : (l : Int) < (l : Int) + 1 := by omega
  obtain ⟨ko, hko⟩ : ∃ k, k = w2.heap.size := ⟨_, rfl⟩
  obtain ⟨Wo, hWo⟩ : ∃ W, W = w2.alloc (.cells #[.int .u64 x.w, .int .i64 x.n, .int .i64 x.v] 119) := ⟨_, rfl⟩
  have g3 : Ch NoB w2 Wo := by rw [hWo]; exact (Ch.refl _ _).alloc _
  have t3 : Three Wo ko x := by rw [hWo, hko]; exact Three.new w2 x
  have r3 := t2.ch g3 (noB _)
  have h3 := h2.still g3
  have c3 := h3.cell.1
  rw [swp_len, ← HL.out] at c3
  have bl3 := lt_of_block h3.hb
  have s2 := g2.size
  have s0 := HG0.out.size
  have lr3 := r3.lt
  have lo3 := t3.lt
  have HR3 := hid r3
  have HT3 := hid t3
  have H3 := hid h3
  have HG3 := hid ((((HG0.out.any (S := Tri b g km)).trans' g2)).trans g3 (fun q e => e.elim))
  have hko2 : w.heap.size < ko := by have := t2.lt; omega
  clear h2 g2 t2 r3 t3 h3 g3
  go_upto_region 4 with fail
  rw [← hWo, ← hko]
  clear hWo hko c2 p0 p1 p2 l1
  have hw2 : IntKind.i64.wrap ((l : Int) + 1) = (l : Int) + 1 := by rw [IntKind.wrap_i64]; omega
  go_wp2_with fail
  have hOw := H3.out.own
  rw [swp_len, ← HL.out] at hOw
  rw [show ((l : Int) + 1) = ((l + 1 : Nat) : Int) by omega]
  refine (delete_any 0 g (l + 1) cap l (l + 1) (swp xs a l x y) Wo hOw (by omega) (Nat.le_refl _) (by omega)).mono ?_
  rintro e w4 ⟨rfl, o4, g4⟩
  rw [show l + (l + 1 - (l + 1)) = l by omega] at o4 ⊢
  have ec : cutOut l (l + 1) (swp xs a l x y) = (swp xs a l x y).take l := by
    unfold cutOut
    rw [List.drop_of_length_le (by rw [swp_len]; have := HL.out; omega), List.append_nil]
  rw [ec] at o4
  have nbg : ¬ Only g b := fun e => H.out.d1 e
  have B4 := (g4.block b bl3 nbg).trans H3.out.hb
  have q0 : w4.cell? ⟨b, 0, none⟩ = some (.slice (some ⟨g, 0, none⟩) (swp xs a l x y).length cap) := (cell_of B4 0).trans rfl
  have qf := frozen_of B4 0
  have bl4 := lt_of_block B4
  obtain ⟨W5, hW5⟩ : ∃ W, W = w4.setCell ⟨b, 0, none⟩ (.slice (some ⟨g, 0, none⟩) l cap) := ⟨_, rfl⟩
  have C5 : Ch (Only b) w4 W5 := by rw [hW5]; exact (Ch.refl (Only b) w4).own 0 _
  have B5 : W5.heap[b]? = some (.cells #[.slice (some ⟨g, 0, none⟩) l cap, .map (some km), .int .i64 nx] 100 (0, 0)) := by rw [hW5]; exact setCell_block B4 0 _
  have O5 := o4.ch C5 (fun q e e2 => by
    have e1 : some g = some q := e
    injection e1 with e1
    have e3 : q = b := e2
    exact H.out.d1 (e3.symm.trans e1.symm))
  have ngr : ¬ Only g w.heap.size := fun e => nr (.inr (.inl e))
  have nbr : ¬ Only b w.heap.size := fun e => nr (.inl e)
  have hgw : g < w.heap.size := HLT.out g (.inr (.inl rfl))
  have hkw : km < w.heap.size := HLT.out km (.inr (.inr rfl))
  have ngo : ¬ Only g ko := fun e => by have e1 : ko = g := e; omega
  have nbo : ¬ Only b ko := fun e => by have e1 : ko = b := e; omega
  have M5 := (H3.out.m.ch g4 (fun e => H.out.d3 e.symm)).ch C5 (fun e => H.out.d2 e.symm)
  have R5 := (HR3.out.ch g4 ngr).ch C5 nbr
  have T5 := (HT3.out.ch g4 ngo).ch C5 nbo
  have G5 := (HG3.out.trans g4 (fun q e => .inl (.inr (.inl e)))).trans C5 (fun q e => .inl (.inl e))
  have HB5 := hid B5
  have HO5 := hid O5
  have HM5 := hid M5
  have HR5 := hid R5
  have HT5 := hid T5
  have HG5 := hid G5
  clear g4 o4 hOw B4 C5 B5 O5 M5 R5 T5 G5 ec
  go_wp2_with fail
  rw [← hW5]
  clear hW5 q0 qf bl4 bl3 c3
  obtain ⟨V5, hV5⟩ : ∃ V, V = W5.drew := ⟨_, rfl⟩
  have hSW : (W5.cell? ⟨b, 1, none⟩ = some (.map (some km)) ∧ W5.cell? ⟨ko, 1, none⟩ = some (.int .i64 x.n)) := ⟨(cell_of HB5.out 1).trans rfl, HT5.out.cells.2.1⟩
  have hSV : (V5.cell? ⟨b, 1, none⟩ = some (.map (some km)) ∧ V5.cell? ⟨ko, 1, none⟩ = some (.int .i64 x.n)) := by rw [hV5]; exact hSW
  have km5 : km < V5.heap.size := by rw [hV5]; exact HM5.out.lt
  have bl5 : b < V5.heap.size := by rw [hV5]; exact lt_of_block HB5.out
  have lo5 : ko < V5.heap.size := by rw [hV5]; exact HT5.out.lt
  have nbk : ¬ Only km b := fun e => H.out.d2 e
  have nok : ¬ Only km ko := fun e => by have e1 : ko = km := e; omega
  have nrk : ¬ Only km w.heap.size := fun e => nr (.inr (.inr e))
  obtain ⟨jx, tx, hjx⟩ := H3.out.pl.find hx2
  have hd := fun ty => drop_some (w := V5) (by rw [hV5]; exact HM5.out) H3.out.ok hjx ty
  have HJX := hid hjx
  have HX2 := hid hx2
  have HVV := hid hV5
  clear hjx hx2
  refine wp_region_held_drew (S := fun w' => w'.cell? ⟨b, 1, none⟩ = some (.map (some km)) ∧ w'.cell? ⟨ko, 1, none⟩ = some (.int .i64 x.n)) (by kernel_rfl) (by exact hSW) (fun _ => ?_)
  rw [← hV5]
  clear hV5
  refine takeS_on (i := 0) 35 (v := ?v74) rfl rfl (by kernel_rfl) (by kernel_rfl) (by kernel_rfl) (fun _ _ _ h => h) (by kernel_rfl) ?hy74 (by exact hSV) ?_
  case hy74 => (intro w' hSw; go_simp; try (with_reducible rfl))
  simp only [Act.put, List.setIfInBounds_toArray, List.set_cons_zero, List.set_cons_succ]
  refine takeS_on (i := 1) 36 (v := ?v75) rfl rfl (by kernel_rfl) (by kernel_rfl) (by kernel_rfl) (fun _ _ _ h => h) (by kernel_rfl) ?hy75 (by exact hSV) ?_
  case hy75 => (intro w' hSw; go_simp; try (with_reducible rfl))
  simp only [Act.put, List.setIfInBounds_toArray, List.set_cons_zero, List.set_cons_succ]
  refine takeS_on (i := 2) 37 (v := ?v76) rfl rfl (by kernel_rfl) (by kernel_rfl) (by kernel_rfl) (fun _ _ _ h => h) (by kernel_rfl) ?hy76 (by exact hSV) ?_
  case hy76 => (intro w' hSw; go_simp; try (with_reducible rfl))
  simp only [Act.put, List.setIfInBounds_toArray, List.set_cons_zero, List.set_cons_succ]
  refine takeS_on (i := 3) 38 (v := ?v77) rfl rfl (by kernel_rfl) (by kernel_rfl) (by kernel_rfl) (fun _ _ _ h => h) (by kernel_rfl) ?hy77 (by exact hSV) ?_
  case hy77 => (intro w' hSw; go_simp; try (with_reducible rfl))
  simp only [Act.put, List.setIfInBounds_toArray, List.set_cons_zero, List.set_cons_succ]
  refine takeS_on (i := 4) 39 (v := ?v78) rfl rfl (by kernel_rfl) (by kernel_rfl) (by kernel_rfl) (fun _ _ _ h => h) (by kernel_rfl) ?hy78 (by exact hSV) ?_
  case hy78 => (intro w' hSw; go_simp; try (with_reducible rfl))
  simp only [Act.put, List.setIfInBounds_toArray, List.set_cons_zero, List.set_cons_succ]
  refine takeS_on (i := 5) 40 (v := ?v79) rfl rfl (by kernel_rfl) (by kernel_rfl) (by kernel_rfl) (fun _ _ _ h => h) (by kernel_rfl) ?hy79 (by exact hSV) ?_
  case hy79 => (intro w' hSw; go_simp; try (with_reducible rfl))
  simp only [Act.put, List.setIfInBounds_toArray, List.set_cons_zero, List.set_cons_succ]
  refine takeS_on (i := 6) 41 (v := ?v80) rfl rfl (by kernel_rfl) (by kernel_rfl) (by kernel_rfl) (fun _ _ _ h => h) (by kernel_rfl) ?hy80 (by exact hSV) ?_
  case hy80 => (intro w' hSw; go_simp; try (with_reducible rfl))
  simp only [Act.put, List.setIfInBounds_toArray, List.set_cons_zero, List.set_cons_succ]
  refine wpAnyH_ready (rs := [7]) (by kernel_rfl) (by simp) (AllReadyH.cons rfl (fun K hK => ?_) AllReadyH.nil)
  go_simp
  obtain ⟨W6, hW6⟩ : ∃ W, W = putM V5 km (M2.eraseIdx jx) clock := ⟨_, rfl⟩
  rw [← hW6]
  have M6 : MAt W6 km (M2.eraseIdx jx) clock := by rw [hW6]; exact putM_at km5 _ _
  have C6 : Ch (Only km) V5 W6 := by rw [hW6]; exact putM_ch _ _ _ _
  have hS6 : (W6.cell? ⟨b, 1, none⟩ = some (.map (some km)) ∧ W6.cell? ⟨ko, 1, none⟩ = some (.int .i64 x.n)) := ⟨(C6.cell bl5 nbk).trans hSV.1, (C6.cell lo5 nok).trans hSV.2⟩
  have HM6 := hid M6
  have HC6 := hid C6
  clear hW6 M6 C6 hd
  refine hK.out _ _ (by exact hS6) (fun _ => ?_)
  clear hK K
  refine wpAnyH_done (by kernel_rfl) ?_ _
  have GV : Ch NoB W5 V5 := by rw [HVV.out]; exact (Ch.refl _ _).drew
  have G6 : Ch (Only km) W5 W6 := (GV.any (S := Only km)).trans' HC6.out
  have R6 := HR5.out.ch G6 nrk
  have T6 := HT5.out.ch G6 nok
  have O6 := HO5.out.ch G6 (fun q e e2 => by
    have e1 : some g = some q := e
    injection e1 with e1
    have e3 : q = km := e2
    exact H.out.d3 (e1.trans e3))
  have B6 := (G6.block b (lt_of_block HB5.out) nbk).trans HB5.out
  have hlen6 : ((swp xs a l x y).take l).length = l := by rw [List.length_take, swp_len]; have := HL.out; omega
  have HC6' : HC W6 b g km cap ((swp xs a l x y).take l) (M2.eraseIdx jx) clock nx :=
    { hb := by rw [hlen6]; exact B6, own := by rw [hlen6]; exact O6, m := HM6.out, ok := H3.out.ok.erase jx, pl := H3.out.pl.drop H3.out.nn (by rw [swp_len]; exact HL.out) HX2.out (H3.out.ok.mem_erase HJX.out), nn := H3.out.nn.sublist ((List.take_sublist _ _).map _), d1 := H.out.d1, d2 := H.out.d2, d3 := H.out.d3 }
  have HCC := hid HC6'
  have HR6 := hid R6
  have HT6 := hid T6
  have HG6 := hid (HG5.out.trans G6 (fun q e => .inl (.inr (.inr e))))
  have HPm := hid (take_perm HX1.out HY1.out HL.out)
  have HLn := hid hlen6
  clear R6 T6 O6 B6 hlen6 HC6' GV G6 hS6 hSV hSW
  have fin : ∀ (ys : List W3) (M' : List (Int × Int × Nat)) (wz : World), HC wz b g km cap ys M' clock nx → ((swp xs a l x y).take l).Perm ys → HP ys → Ch (Tri b g km) w wz → Three wz w.heap.size W3.zero → ∀ wf, Ch (Only w.heap.size) wz wf → TakenR w b g km cap xs x clock nx (.returned (.agg #[.int .u64 x.w, .int .i64 x.n, .int .i64 x.v])) wf := fun ys M' wz k1 k2 k3 k4 _ wf k5 =>
    ⟨rfl, ys, M', k1.ch k5 (fun q e e2 => nr (by have e3 : q = w.heap.size := e2; rw [← e3]; exact e)), HPm.out.trans (k2.cons x), k3, k4.trans k5 (fun q e => .inr (by have e1 : q = w.heap.size := e; omega))⟩
  have HFin := hid fin
  clear fin
  by_cases ha : a = l
  · subst ha
    have exy : y = x := by
      have h1 := HY1.out
      rw [HX1.out] at h1
      injection h1 with h1
      exact h1.symm
    subst exy
    have hcut := HP0.out.cut a
    rw [← swp_self HX1.out] at hcut
    have HCut := hid hcut
    clear hcut
    have dd : decide ((a : Int) < (a : Int)) = false := decide_eq_false (by omega)
    obtain ⟨r0, r1, r2⟩ := HR6.out.cells
    have rf0 := HR6.out.frozen 0
    have rf1 := HR6.out.frozen 1
    have rf2 := HR6.out.frozen 2
    obtain ⟨u0, u1, u2⟩ := HT6.out.cells
    have lr6 := HR6.out.lt
    go_wp2
    refine bodyPost_ret (v := .agg #[.int .u64 y.w, .int .i64 y.n, .int .i64 y.v]) (by simp [results, Try.results65, go_sem, r0, r1, r2]) rfl ?_
    exact HFin.out _ _ W6 HCC.out (List.Perm.refl _) HCut.out HG6.out HR6.out _ (Ch.own (Ch.own (Ch.own (Ch.refl _ _) _ _) _ _) _ _)
  · have dd : decide ((a : Int) < (l : Int)) = true := decide_eq_true (by omega)
    have hxx := HP0.out.take (x := x) (y := y) (show a < l by omega)
    have HXX := hid hxx
    clear hxx
    go_wp2_with fail
    refine (rise_any b g km cap a _ _ clock nx W6 HCC.out HXX.out (by rw [HLn.out]; omega) (by rw [HLn.out]; omega)).mono ?_
    rintro e w7 ⟨rfl, ys, M7, h7, pm7, hs7, g7⟩
    have HR7 := hid (HR6.out.ch g7 nr)
    have no7 : ¬ Tri b g km ko := fun e => by
      rcases e with e | e | e <;> omega
    have HT7 := hid (HT6.out.ch g7 no7)
    have H7 := hid h7
    have HS7 := hid hs7
    have HP7 := hid pm7
    have HG7 := hid (HG6.out.trans' g7)
    have ln7 : ys.length = l := by rw [pm7.length_eq]; exact HLn.out
    clear h7 pm7 hs7 g7
    go_wp2_with fail
    refine (sink_any b g km cap a ys M7 clock nx w7 H7.out HS7.out (by omega) (by omega)).mono ?_
    rintro e w8 ⟨rfl, zs, M8, h8, pm8, hp8, g8⟩
    have HR8 := hid (HR7.out.ch g8 nr)
    have T8 := HT7.out.ch g8 no7
    obtain ⟨u0, u1, u2⟩ := T8.cells
    obtain ⟨r0, r1, r2⟩ := HR8.out.cells
    have rf0 := HR8.out.frozen 0
    have rf1 := HR8.out.frozen 1
    have rf2 := HR8.out.frozen 2
    have lr8 := HR8.out.lt
    have H8 := hid h8
    have HP8 := hid ((pm8.trans HP7.out).symm)
    have HH8 := hid hp8
    have HG8 := hid (HG7.out.trans' g8)
    clear h8 pm8 hp8 g8 T8
    go_wp2
    refine bodyPost_ret (v := .agg #[.int .u64 x.w, .int .i64 x.n, .int .i64 x.v]) (by simp [results, Try.results65, go_sem, r0, r1, r2]) rfl ?_
    exact HFin.out _ _ w8 H8.out HP8.out HH8.out HG8.out HR8.out _ (Ch.own (Ch.own (Ch.own (Ch.refl _ _) _ _) _ _) _ _)
end Go.Proofs.Ytgkapopkjgljjaa.Hp
