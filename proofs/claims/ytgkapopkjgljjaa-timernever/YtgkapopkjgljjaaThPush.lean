/-
  What Push answers and leaves. Condition: the heap is there, and has fewer than 4294967296 nodes.
-/
import Derived.Test.YtgkapopkjgljjaaThOps
import Derived.Handy
import Derived.Deep.DeepCutAuto
import Derived.Deep.CutBlock
namespace Go.Proofs.Ytgkapopkjgljjaa.Hp
open Go.RowKit Wd
attribute [local go_sem ↓] Go.wp_at_zero Go.wp_at_succ

/-- what Push tells and leaves -/
def Pushed (T : Nat → Prop) (w : World) (b : Nat) (xs : List W3) (z : W3) (nx : Int) (e : Ending) (w' : World) : Prop := e = .returned (.int .i64 nx) ∧ ∃ ys, ys.Perm (z :: xs) ∧ HLeft T w w' b ys (nx + 1)

theorem eql_map_nil (w : World) : (binOp .eql 98 (.map none) (.map none)).run Try.prog w = .ok (.bool true) w := by kernel_rfl
theorem eql_map_some (k : Nat) (w : World) : (binOp .eql 98 (.map (some k)) (.map none)).run Try.prog w = .ok (.bool false) w := by kernel_rfl

set_option maxRecDepth 20000 in
set_option maxHeartbeats 4000000 in
theorem push_made (T : Nat → Prop) (b g km cap : Nat) (xs : List W3) (M : List (Int × Int × Nat)) (clock : Nat) (nx wh va : Int) (w : World) (h : Hh T w b xs nx) (hc : HC w b g km cap xs M clock nx) (hT : ∀ q, Tri b g km q → T q) (h0 : 0 ≤ nx) (hnx : nx < 4611686018427387904) (hn : xs.length < 4294967296) :
    Calls Try.prog 53 #[.pointer (some ⟨b, 0, none⟩), .int .u64 wh, .int .i64 va] w fun e w' => Pushed T w b xs ⟨wh, nx, va⟩ nx e w' := by
  have bl := lt_of_block hc.hb
  obtain ⟨Wm, hWm⟩ : ∃ W, W = w := ⟨_, rfl⟩
  obtain ⟨n, hnn⟩ : ∃ n, n = xs.length := ⟨_, rfl⟩
  have Bm : Wm.heap[b]? = some (.cells #[.slice (some ⟨g, 0, none⟩) n cap, .map (some km), .int .i64 nx] 100 (0, 0)) := by rw [hWm, hnn]; exact hc.hb
  have Mm : MAt Wm km M clock := by rw [hWm]; exact hc.m
  have Gm : Ch T w Wm := by rw [hWm]; exact Ch.refl _ _
  have Om : Own 0 Wm (.slice (some ⟨g, 0, none⟩) n cap) xs := by rw [hWm, hnn]; exact hc.own
  have hTm : ∀ q, (q = b ∨ Blk (.slice (some ⟨g, 0, none⟩) n cap) q ∨ q = km) → T q ∨ w.heap.size ≤ q := fun q e => by
    rcases e with rfl | e | rfl
    · exact .inl (hT _ (.inl rfl))
    · have e1 : some g = some q := e
      injection e1 with e1
      exact .inl (hT _ (.inr (.inl e1.symm)))
    · exact .inl (hT _ (.inr (.inr rfl)))
  have dbk : b ≠ km := hc.d2
  have dbv : ¬ Blk (.slice (some ⟨g, 0, none⟩) n cap) b := fun e => by
    have e1 : some g = some b := e
    injection e1 with e1
    exact hc.d1 e1.symm
  have dkv : ¬ Blk (.slice (some ⟨g, 0, none⟩) n cap) km := fun e => by
    have e1 : some g = some km := e
    injection e1 with e1
    exact hc.d3 e1
  have Om' := hc.ok
  have Pm := hc.pl
  have HPx := hid h.hp
  have HNx := hid hc.nn
  have HLx := hid h.lt
  have HNN := hid hnn
  have f1 : w.cell? ⟨b, 1, none⟩ = some (.map (some km)) := hc.cell.2.1
  rw [← hnn] at hn
  have hel := fun w => eql_map_some km w
  clear h hc hT hnn
  go_enter Try.func53, Try.ntmps53
  go_upto_region 5 with fail
  rw [← hWm]
  clear f1 hWm
  have c0 : Wm.cell? ⟨b, 0, none⟩ = some (.slice (some ⟨g, 0, none⟩) n cap) := (cell_of Bm 0).trans rfl
  have c2 : Wm.cell? ⟨b, 2, none⟩ = some (.int .i64 nx) := (cell_of Bm 2).trans rfl
  have blm := lt_of_block Bm
  have HB := hid Bm
  have HM := hid Mm
  have HG := hid Gm
  have HO := hid Om
  have HOk := hid Om'
  have HPl := hid Pm
  have HTm := hid hTm
  have hw2 : IntKind.i64.wrap (nx + 1) = nx + 1 := by rw [IntKind.wrap_i64]; omega
  clear Bm Mm Gm Om Om' Pm hTm
  go_quiet (fail)
  obtain ⟨V5, hV5⟩ : ∃ V, V = Wm.drewN nq := ⟨_, rfl⟩
  have gV : Ch NoB Wm V5 := by rw [hV5]; exact (Ch.refl _ _).drewN _
  have BV := (gV.block b blm (noB _)).trans HB.out
  have v2 : V5.cell? ⟨b, 2, none⟩ = some (.int .i64 nx) := (cell_of BV 2).trans rfl
  have vf2 := frozen_of BV 2
  have blV := lt_of_block BV
  obtain ⟨W6, hW6⟩ : ∃ W, W = V5.setCell ⟨b, 2, none⟩ (.int .i64 (nx + 1)) := ⟨_, rfl⟩
  have B6 : W6.heap[b]? = some (.cells #[.slice (some ⟨g, 0, none⟩) n cap, .map (some km), .int .i64 (nx + 1)] 100 (0, 0)) := by rw [hW6]; exact setCell_block BV 2 _
  have C6 : Ch (Only b) V5 W6 := by rw [hW6]; exact (Ch.refl (Only b) V5).own 2 _
  have M6 := (HM.out.ch gV (noB _)).ch C6 (fun e => dbk e.symm)
  have O6 := (HO.out.ch gV (fun _ _ => noB _)).ch C6 (fun q e e2 => dbv (by have e3 : q = b := e2; rw [← e3]; exact e))
  have g6 : Ch (Only b) Wm W6 := (gV.any (S := Only b)).trans' C6
  have bl6 := lt_of_block B6
  have y0 : W6.cell? ⟨b, 0, none⟩ = some (.slice (some ⟨g, 0, none⟩) n cap) := (cell_of B6 0).trans rfl
  have HB6 := hid B6
  have HM6 := hid M6
  have HO6 := hid O6
  have HG6 := hid g6
  rw [← hV5]
  clear gV BV B6 C6 M6 O6 g6 hV5 c0 c2
  go_upto_region 7 with fail
  rw [← hW6]
  clear hW6 v2 vf2 blV
  obtain ⟨ka, hka⟩ : ∃ k, k = W6.heap.size := ⟨_, rfl⟩
  have LA : Lst (fun _ => True) (W6.alloc (.cells #[.int .u64 wh, .int .i64 nx, .int .i64 va] 119)) (.slice (some ⟨ka, 0, none⟩) 1 1) [⟨wh, nx, va⟩] := by
    refine ⟨some ⟨ka, 0, none⟩, 1, rfl, ⟨Nat.le_refl _, fun e => by cases e⟩, .inr ⟨ka, 0, rfl, trivial, by rw [hka]; simp, fun i x hx => ?_⟩⟩
    have hi : i = 0 := by
      have := (List.getElem?_eq_some_iff.1 hx).1
      simp at this
      exact this
    subst hi
    have ex : (⟨wh, nx, va⟩ : W3) = x := by simpa using hx
    subst ex
    rw [hka]
    simp
  have HLA := hid LA
  clear LA
  go_upto_region 8 with (first | (at_builtin; rw [← hka] ; refine wpList_append_own2 rfl (.tmp 40) (.tmp 46) rfl 0 _ xs rfl (HO6.out.alloc _) _ _ [⟨wh, nx, va⟩] rfl HLA.out (n + 1) (by simp; rw [HNN.out]) (by omega) (Nat.zero_le _) (xs ++ [⟨wh, nx, va⟩]) rfl ?_; intro ao7 cap7 w7 o7 g7 b7; have G7 : Ch (Blk (.slice (some ⟨g, 0, none⟩) n cap)) W6 w7 := ((Ch.refl _ W6).alloc _).trans' g7; have B7 := (G7.block b bl6 dbv).trans HB6.out; have z0 : w7.cell? ⟨b, 0, none⟩ = some (.slice (some ⟨g, 0, none⟩) n cap) := (cell_of B7 0).trans rfl; have zf := frozen_of B7 0; have bl7 := lt_of_block B7; have HO7 := hid o7; have HG7 := hid G7; have HB7 := hid B7; have Hb7 := hid b7; clear o7 g7 b7 G7 B7))
  obtain ⟨g7, cap', hv7, -, gl7⟩ := World.ownsRow.form HO7.out (by simp)
  injection hv7 with e1 e2 e3
  subst e1 e3
  clear e2
  have b7g := Hb7.out g7 rfl
  have k6 := HM6.out.lt
  have s6 := HG6.out.size
  have sm := HG.out.size
  have d1 : b ≠ g7 := fun e => b7g.elim (fun a => dbv (by rw [e]; exact a)) (fun a => by simp at a; omega)
  have d3 : g7 ≠ km := fun e => b7g.elim (fun a => dkv (by rw [← e]; exact a)) (fun a => by simp at a; omega)
  have hTg : T g7 ∨ w.heap.size ≤ g7 := b7g.elim (fun a => HTm.out g7 (.inr (.inl a))) (fun a => .inr (by simp at a; omega))
  obtain ⟨W8, hW8⟩ : ∃ W, W = w7.setCell ⟨b, 0, none⟩ (.slice (some ⟨g7, 0, none⟩) (n + 1) cap7) := ⟨_, rfl⟩
  have B8 : W8.heap[b]? = some (.cells #[.slice (some ⟨g7, 0, none⟩) (n + 1) cap7, .map (some km), .int .i64 (nx + 1)] 100 (0, 0)) := by rw [hW8]; exact setCell_block HB7.out 0 _
  have C8 : Ch (Only b) w7 W8 := by rw [hW8]; exact (Ch.refl (Only b) w7).own 0 _
  have M8 := (HM6.out.ch HG7.out dkv).ch C8 (fun e => dbk e.symm)
  have O8 := HO7.out.ch C8 (fun q e e2 => d1 (by
    have e1 : some g7 = some q := e
    injection e1 with e1
    have e3 : q = b := e2
    rw [← e3, e1]))
  have hnew : ∀ e ∈ M, e.1 ≠ nx := fun e he ea => by
    obtain ⟨k, v, t⟩ := e
    obtain ⟨i, _, x, h3, h4⟩ := (HPl.out k v).1 ⟨t, he⟩
    have := HLx.out x (List.mem_of_getElem? h3)
    have h5 : k = nx := ea
    omega
  have hu := update_new (w := W8) M8 hnew ((n : Nat) : Int)
  have w1 : W8.cell? ⟨b, 1, none⟩ = some (.map (some km)) := (cell_of B8 1).trans rfl
  have bl8 := lt_of_block B8
  have HB8 := hid B8
  have HC8 := hid C8
  have HM8 := hid M8
  have HO8 := hid O8
  have HNew := hid hnew
  rw [← hW8]
  clear hW8 B8 C8 M8 O8 hnew z0 zf y0 HLA
  go_wp2_with fail
  have P9 := putM_ch W8 km (M ++ [(nx, ((n : Nat) : Int), clock)]) (clock + 1)
  have H9 : HC (putM W8 km (M ++ [(nx, ((n : Nat) : Int), clock)]) (clock + 1)) b g7 km cap7 (xs ++ [⟨wh, nx, va⟩]) (M ++ [(nx, ((n : Nat) : Int), clock)]) (clock + 1) (nx + 1) :=
    { hb := by rw [show (xs ++ [(⟨wh, nx, va⟩ : W3)]).length = n + 1 by simp; rw [HNN.out]]; exact (P9.block b bl8 dbk).trans HB8.out
      own := by
        rw [show (xs ++ [(⟨wh, nx, va⟩ : W3)]).length = n + 1 by simp; rw [HNN.out]]
        exact HO8.out.ch P9 (fun q e e2 => d3 (by
          have e1 : some g7 = some q := e
          injection e1 with e1
          have e3 : q = km := e2
          rw [e1, e3]))
      m := putM_at HM8.out.lt _ _, ok := HOk.out.push HNew.out _, pl := by rw [HNN.out]; exact HPl.out.push ⟨wh, nx, va⟩
      nn := by
        unfold Nn
        rw [List.map_append, List.nodup_append]
        refine ⟨HNx.out, by simp, fun c hc d hd e => ?_⟩
        obtain ⟨x, h1, h2⟩ := List.mem_map.1 hc
        simp at hd
        have := HLx.out x h1
        omega
      d1 := d1, d2 := dbk, d3 := d3 }
  refine (rise_any b g7 km cap7 n _ _ _ (nx + 1) _ H9 (by rw [HNN.out]; exact HPx.out.push _) (by simp; rw [HNN.out]; omega) (by simp; rw [← HNN.out]; omega)).mono ?_
  rintro e w10 ⟨rfl, ys, M10, h10, p10, hs10, g10⟩
  have hlen := p10.length_eq
  have hp10 : HP ys := hs10.last (by rw [hlen]; simp; rw [HNN.out]; omega)
  have pz : ys.Perm ((⟨wh, nx, va⟩ : W3) :: xs) := p10.trans (List.perm_append_singleton _ _)
  have G8 := (HG.out.trans HG6.out (fun q e => HTm.out q (.inl e))).trans HG7.out (fun q e => HTm.out q (.inr (.inl e)))
  have G9 := (G8.trans HC8.out (fun q e => HTm.out q (.inl e))).trans P9 (fun q e => HTm.out q (.inr (.inr e)))
  have tq : ∀ q, Tri b g7 km q → T q ∨ w.heap.size ≤ q := fun q e => by
    rcases e with rfl | rfl | rfl
    · exact HTm.out _ (.inl rfl)
    · exact hTg
    · exact HTm.out _ (.inr (.inr rfl))
  have G10 := G9.trans g10 tq
  have lt10 : ∀ x ∈ ys, x.n < nx + 1 := fun x hx => by
    have h1 := pz.mem_iff.1 hx
    rw [List.mem_cons] at h1
    rcases h1 with rfl | h1
    · show nx < nx + 1
      omega
    · have := HLx.out x h1
      omega
  have HF := hid (show Pushed T w b xs ⟨wh, nx, va⟩ nx (.returned (.int .i64 nx)) w10 from ⟨rfl, ys, pz, Tri b g7 km, { st := .inr ⟨g7, km, cap7, M10, _, h10, fun _ e => e⟩, hp := hp10, lt := lt10, nn := h10.nn, tl := h10.lt }, G10, tq⟩)
  clear h10 p10 hs10 g10 hp10 lt10 pz G8 G9 G10 tq P9 H9 hu w1
  go_wp2
  go_ret
  exact HF.out

set_option maxRecDepth 20000 in
set_option maxHeartbeats 4000000 in
theorem push_fresh (T : Nat → Prop) (b : Nat) (nx wh va : Int) (w : World) (h : Hh T w b [] nx) (hf : Fresh w b nx) (hTb : T b) (h0 : 0 ≤ nx) (hnx : nx < 4611686018427387904) :
    Calls Try.prog 53 #[.pointer (some ⟨b, 0, none⟩), .int .u64 wh, .int .i64 va] w fun e w' => Pushed T w b [] ⟨wh, nx, va⟩ nx e w' := by
  have bl := lt_of_block hf
  obtain ⟨km, hkm⟩ : ∃ k, k = w.heap.size := ⟨_, rfl⟩
  obtain ⟨Wm, hWm⟩ : ∃ W, W = (w.setCell ⟨b, 1, none⟩ (.map (some w.heap.size))).alloc (.map #[] 0) := ⟨_, rfl⟩
  have CA : Ch (Only b) w (w.setCell ⟨b, 1, none⟩ (.map (some w.heap.size))) := (Ch.refl (Only b) _).own 1 _
  have fA := setCell_block hf 1 (.map (some w.heap.size))
  have gA : Ch NoB (w.setCell ⟨b, 1, none⟩ (.map (some w.heap.size))) Wm := by rw [hWm]; exact (Ch.refl _ _).alloc _
  have Bm : Wm.heap[b]? = some (.cells #[.slice none 0 0, .map (some km), .int .i64 nx] 100 (0, 0)) := by rw [hkm]; exact (gA.block b (lt_of_block fA) (noB _)).trans fA
  have Mm : MAt Wm km [] 0 := by
    have e1 := (MapKept.heap_alloc (w.setCell ⟨b, 1, none⟩ (.map (some w.heap.size))) (.map #[] 0)).1
    have e2 : (w.setCell ⟨b, 1, none⟩ (.map (some w.heap.size))).heap.size = km := by rw [hkm]; simp [World.setCell]
    rw [e2] at e1
    rw [hWm]
    exact e1
  have Gm : Ch T w Wm := (CA.mono (T := T) (fun q e => .inl (by have e1 : q = b := e; rw [e1]; exact hTb))).trans gA (fun q e => e.elim)
  have f0 : w.cell? ⟨b, 0, none⟩ = some (.slice none 0 0) := (cell_of hf 0).trans rfl
  have f1 : w.cell? ⟨b, 1, none⟩ = some (.map none) := (cell_of hf 1).trans rfl
  have f2 : w.cell? ⟨b, 2, none⟩ = some (.int .i64 nx) := (cell_of hf 2).trans rfl
  have uf1 := frozen_of hf 1
  have hmm := @run_makeMap Try.prog
  have Om : Own 0 Wm (.slice none 0 0) [] := Own.nil _ _
  have hTm : ∀ q, (q = b ∨ Blk (.slice none 0 0) q ∨ q = km) → T q ∨ w.heap.size ≤ q := fun q e => by
    rcases e with rfl | e | rfl
    · exact .inl hTb
    · cases e
    · exact .inr (by omega)
  have dbk : b ≠ km := by omega
  have dbv : ¬ Blk (.slice none 0 0) b := fun e => by cases e
  have dkv : ¬ Blk (.slice none 0 0) km := fun e => by cases e
  have Om' := MOk.nil
  have Pm := Pl.nil
  have HPx := hid HP.nil
  have HNx := hid (show Nn [] by simp [Nn])
  have HLx := hid h.lt
  have hn : ([] : List W3).length < 4294967296 := by simp
  obtain ⟨ao, cap, hvv⟩ : ∃ (ao : Option Addr) (cap : Nat), ao = none ∧ cap = 0 := ⟨none, 0, rfl, rfl⟩
  have hel := eql_map_nil
  clear h hvv ao cap
  go_enter Try.func53, Try.ntmps53
  go_upto_region 5 with fail
  rw [← hWm]
  clear hWm hmm f0 f1 f2 uf1 fA CA gA hkm
  have c0 : Wm.cell? ⟨b, 0, none⟩ = some (.slice none 0 0) := (cell_of Bm 0).trans rfl
  have c2 : Wm.cell? ⟨b, 2, none⟩ = some (.int .i64 nx) := (cell_of Bm 2).trans rfl
  have blm := lt_of_block Bm
  have HB := hid Bm
  have HM := hid Mm
  have HG := hid Gm
  have HO := hid Om
  have HOk := hid Om'
  have HPl := hid Pm
  have HTm := hid hTm
  have hw2 : IntKind.i64.wrap (nx + 1) = nx + 1 := by rw [IntKind.wrap_i64]; omega
  clear Bm Mm Gm Om Om' Pm hTm
  go_quiet (fail)
  obtain ⟨V5, hV5⟩ : ∃ V, V = Wm.drewN nq := ⟨_, rfl⟩
  have gV : Ch NoB Wm V5 := by rw [hV5]; exact (Ch.refl _ _).drewN _
  have BV := (gV.block b blm (noB _)).trans HB.out
  have v2 : V5.cell? ⟨b, 2, none⟩ = some (.int .i64 nx) := (cell_of BV 2).trans rfl
  have vf2 := frozen_of BV 2
  have blV := lt_of_block BV
  obtain ⟨W6, hW6⟩ : ∃ W, W = V5.setCell ⟨b, 2, none⟩ (.int .i64 (nx + 1)) := ⟨_, rfl⟩
  have B6 : W6.heap[b]? = some (.cells #[.slice none 0 0, .map (some km), .int .i64 (nx + 1)] 100 (0, 0)) := by rw [hW6]; exact setCell_block BV 2 _
  have C6 : Ch (Only b) V5 W6 := by rw [hW6]; exact (Ch.refl (Only b) V5).own 2 _
  have M6 := (HM.out.ch gV (noB _)).ch C6 (fun e => dbk e.symm)
  have O6 := (HO.out.ch gV (fun _ _ => noB _)).ch C6 (fun q e e2 => dbv (by have e3 : q = b := e2; rw [← e3]; exact e))
  have g6 : Ch (Only b) Wm W6 := (gV.any (S := Only b)).trans' C6
  have bl6 := lt_of_block B6
  have y0 : W6.cell? ⟨b, 0, none⟩ = some (.slice none 0 0) := (cell_of B6 0).trans rfl
  have HB6 := hid B6
  have HM6 := hid M6
  have HO6 := hid O6
  have HG6 := hid g6
  rw [← hV5]
  clear gV BV B6 C6 M6 O6 g6 hV5 c0 c2
  go_upto_region 7 with fail
  rw [← hW6]
  clear hW6 v2 vf2 blV
  obtain ⟨ka, hka⟩ : ∃ k, k = W6.heap.size := ⟨_, rfl⟩
  have LA : Lst (fun _ => True) (W6.alloc (.cells #[.int .u64 wh, .int .i64 nx, .int .i64 va] 119)) (.slice (some ⟨ka, 0, none⟩) 1 1) [⟨wh, nx, va⟩] := by
    refine ⟨some ⟨ka, 0, none⟩, 1, rfl, ⟨Nat.le_refl _, fun e => by cases e⟩, .inr ⟨ka, 0, rfl, trivial, by rw [hka]; simp, fun i x hx => ?_⟩⟩
    have hi : i = 0 := by
      have := (List.getElem?_eq_some_iff.1 hx).1
      simp at this
      exact this
    subst hi
    have ex : (⟨wh, nx, va⟩ : W3) = x := by simpa using hx
    subst ex
    rw [hka]
    simp
  have HLA := hid LA
  clear LA
  go_upto_region 8 with (first | (at_builtin; rw [← hka] ; refine wpList_append_own2 rfl (.tmp 40) (.tmp 46) rfl 0 _ ([] : List W3) rfl (HO6.out.alloc _) _ _ [⟨wh, nx, va⟩] rfl HLA.out (0 + 1) (by simp) (by omega) (Nat.zero_le _) (([] : List W3) ++ [⟨wh, nx, va⟩]) rfl ?_; intro ao7 cap7 w7 o7 g7 b7; have G7 : Ch (Blk (.slice none 0 0)) W6 w7 := ((Ch.refl _ W6).alloc _).trans' g7; have B7 := (G7.block b bl6 dbv).trans HB6.out; have z0 : w7.cell? ⟨b, 0, none⟩ = some (.slice none 0 0) := (cell_of B7 0).trans rfl; have zf := frozen_of B7 0; have bl7 := lt_of_block B7; have HO7 := hid o7; have HG7 := hid G7; have HB7 := hid B7; have Hb7 := hid b7; clear o7 g7 b7 G7 B7))
  obtain ⟨g7, cap', hv7, -, gl7⟩ := World.ownsRow.form HO7.out (by simp)
  injection hv7 with e1 e2 e3
  subst e1 e3
  clear e2
  have b7g := Hb7.out g7 rfl
  have k6 := HM6.out.lt
  have s6 := HG6.out.size
  have sm := HG.out.size
  have d1 : b ≠ g7 := fun e => b7g.elim (fun a => dbv (by rw [e]; exact a)) (fun a => by simp at a; omega)
  have d3 : g7 ≠ km := fun e => b7g.elim (fun a => dkv (by rw [← e]; exact a)) (fun a => by simp at a; omega)
  have hTg : T g7 ∨ w.heap.size ≤ g7 := b7g.elim (fun a => HTm.out g7 (.inr (.inl a))) (fun a => .inr (by simp at a; omega))
  obtain ⟨W8, hW8⟩ : ∃ W, W = w7.setCell ⟨b, 0, none⟩ (.slice (some ⟨g7, 0, none⟩) (0 + 1) cap7) := ⟨_, rfl⟩
  have B8 : W8.heap[b]? = some (.cells #[.slice (some ⟨g7, 0, none⟩) (0 + 1) cap7, .map (some km), .int .i64 (nx + 1)] 100 (0, 0)) := by rw [hW8]; exact setCell_block HB7.out 0 _
  have C8 : Ch (Only b) w7 W8 := by rw [hW8]; exact (Ch.refl (Only b) w7).own 0 _
  have M8 := (HM6.out.ch HG7.out dkv).ch C8 (fun e => dbk e.symm)
  have O8 := HO7.out.ch C8 (fun q e e2 => d1 (by
    have e1 : some g7 = some q := e
    injection e1 with e1
    have e3 : q = b := e2
    rw [← e3, e1]))
  have hnew : ∀ e ∈ ([] : List (Int × Int × Nat)), e.1 ≠ nx := fun e he ea => by
    obtain ⟨k, v, t⟩ := e
    obtain ⟨i, _, x, h3, h4⟩ := (HPl.out k v).1 ⟨t, he⟩
    have := HLx.out x (List.mem_of_getElem? h3)
    have h5 : k = nx := ea
    omega
  have hu := update_new (w := W8) M8 hnew (0 : Int)
  have w1 : W8.cell? ⟨b, 1, none⟩ = some (.map (some km)) := (cell_of B8 1).trans rfl
  have bl8 := lt_of_block B8
  have HB8 := hid B8
  have HC8 := hid C8
  have HM8 := hid M8
  have HO8 := hid O8
  have HNew := hid hnew
  rw [← hW8]
  clear hW8 B8 C8 M8 O8 hnew z0 zf y0 HLA
  go_wp2_with fail
  have P9 := putM_ch W8 km (([] : List (Int × Int × Nat)) ++ [(nx, (0 : Int), 0)]) (0 + 1)
  have H9 : HC (putM W8 km (([] : List (Int × Int × Nat)) ++ [(nx, (0 : Int), 0)]) (0 + 1)) b g7 km cap7 (([] : List W3) ++ [⟨wh, nx, va⟩]) (([] : List (Int × Int × Nat)) ++ [(nx, (0 : Int), 0)]) (0 + 1) (nx + 1) :=
    { hb := by rw [show (([] : List W3) ++ [(⟨wh, nx, va⟩ : W3)]).length = 0 + 1 by simp]; exact (P9.block b bl8 dbk).trans HB8.out
      own := by
        rw [show (([] : List W3) ++ [(⟨wh, nx, va⟩ : W3)]).length = 0 + 1 by simp]
        exact HO8.out.ch P9 (fun q e e2 => d3 (by
          have e1 : some g7 = some q := e
          injection e1 with e1
          have e3 : q = km := e2
          rw [e1, e3]))
      m := putM_at HM8.out.lt _ _, ok := HOk.out.push HNew.out _, pl := by exact HPl.out.push ⟨wh, nx, va⟩
      nn := by
        unfold Nn
        rw [List.map_append, List.nodup_append]
        refine ⟨HNx.out, by simp, fun c hc d hd e => ?_⟩
        obtain ⟨x, h1, h2⟩ := List.mem_map.1 hc
        simp at hd
        have := HLx.out x h1
        omega
      d1 := d1, d2 := dbk, d3 := d3 }
  refine (rise_any b g7 km cap7 0 _ _ _ (nx + 1) _ H9 (by exact HPx.out.push _) (by simp) (by simp)).mono ?_
  rintro e w10 ⟨rfl, ys, M10, h10, p10, hs10, g10⟩
  have hlen := p10.length_eq
  have hp10 : HP ys := hs10.last (by rw [hlen]; simp)
  have pz : ys.Perm ((⟨wh, nx, va⟩ : W3) :: ([] : List W3)) := p10.trans (List.perm_append_singleton _ _)
  have G8 := (HG.out.trans HG6.out (fun q e => HTm.out q (.inl e))).trans HG7.out (fun q e => HTm.out q (.inr (.inl e)))
  have G9 := (G8.trans HC8.out (fun q e => HTm.out q (.inl e))).trans P9 (fun q e => HTm.out q (.inr (.inr e)))
  have tq : ∀ q, Tri b g7 km q → T q ∨ w.heap.size ≤ q := fun q e => by
    rcases e with rfl | rfl | rfl
    · exact HTm.out _ (.inl rfl)
    · exact hTg
    · exact HTm.out _ (.inr (.inr rfl))
  have G10 := G9.trans g10 tq
  have lt10 : ∀ x ∈ ys, x.n < nx + 1 := fun x hx => by
    have h1 := pz.mem_iff.1 hx
    rw [List.mem_cons] at h1
    rcases h1 with rfl | h1
    · show nx < nx + 1
      omega
    · have := HLx.out x h1
      omega
  have HF := hid (show Pushed T w b ([] : List W3) ⟨wh, nx, va⟩ nx (.returned (.int .i64 nx)) w10 from ⟨rfl, ys, pz, Tri b g7 km, { st := .inr ⟨g7, km, cap7, M10, _, h10, fun _ e => e⟩, hp := hp10, lt := lt10, nn := h10.nn, tl := h10.lt }, G10, tq⟩)
  clear h10 p10 hs10 g10 hp10 lt10 pz G8 G9 G10 tq P9 H9 hu w1
  go_wp2
  go_ret
  exact HF.out
theorem push_any (T : Nat → Prop) (b : Nat) (xs : List W3) (nx wh va : Int) (w : World) (h : Hh T w b xs nx) (h0 : 0 ≤ nx) (hnx : nx < 4611686018427387904) (hn : xs.length < 4294967296) :
    Calls Try.prog 53 #[.pointer (some ⟨b, 0, none⟩), .int .u64 wh, .int .i64 va] w fun e w' => Pushed T w b xs ⟨wh, nx, va⟩ nx e w' := by
  rcases h.st with ⟨rfl, h1, h2⟩ | ⟨g, km, cap, M, clock, h1, h2⟩
  · exact push_fresh T b nx wh va w h h1 h2 h0 hnx
  · exact push_made T b g km cap xs M clock nx wh va w h h1 h2 h0 hnx hn
end Go.Proofs.Ytgkapopkjgljjaa.Hp
