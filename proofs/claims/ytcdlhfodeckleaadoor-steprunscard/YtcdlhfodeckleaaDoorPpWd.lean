/-
  What each step from a walk to a statement of layer 6 takes: the listed tables, cell by cell; how instructions that are handed in read; and that what lay there before the call is as it was. No conditions.
-/
import Derived.Test.YtcdlhfodeckleaaDoorWdWorld
import Derived.Test.YtcdlhfodeckleaaDoorTie
import Derived.Test.YtcdlhfodeckleaaDoorCards
import Derived.ProofKit
import Derived.OpenShut
import Derived.Carry
import Derived.Lib.SmallJoins
import Derived.Lib.LaidTab
import Derived.Deep.Slices
import Derived.Deep.Strs
import Derived.SizedLaws
import Derived.LaidMore
import Derived.SevenTiedAt
import Derived.Stop.Joined
namespace Go.Proofs.YtcdlhfodeckleaaDoor.Wd
open Go.ChangeShapes Go.WideShapes Go.ChangeAt Go.RowKit Go.Deep Go.Joins
set_option maxRecDepth 100000

theorem own : ownKnob Tryd.prog.godebug = none := by kernel_rfl
theorem laid : laidOutB Tryd.prog = true := by kernel_rfl
theorem cellsI : Tryd.prog.cellsOf 3 = 1 := by kernel_rfl
theorem cellsN : Tryd.prog.cellsOf 46 = 5 := by kernel_rfl
theorem cellsF : Tryd.prog.cellsOf 112 = 5 := by kernel_rfl
theorem cellsS : Tryd.prog.cellsOf 9 = 1 := by kernel_rfl
theorem cellsU : Tryd.prog.cellsOf 98 = 1 := by kernel_rfl
/-- what a law leaves behind a call that turned nothing that was there -/
theorem post_law1 {H : Type} {enc : TypeId × Value → H} {f : Func} {s : ChangeSpec} {W W' : World} {v0 : Value} {d0 : DataW H} {p : List MemPlace} {t0 tb : TypeId}
    (hW : DataW.Whole enc Tryd.prog f.params.toList s.vars false W [v0] [d0] [] p) (hf : f.params.toList = [t0]) (hr : f.resultTypes = #[tb]) (hb : Tryd.prog.underlying tb = some .bool) (hs : s.vars = [])
    (hfn : s.fn H [d0] = { results := [.lit (.bool true)], args := [d0] }) (rd : Tryd.prog.readableRec t0 = true) (hl : t0 < Tryd.prog.types.size) (h0 : DataW.Trod enc Tryd.prog W 0 (fun _ => true) true t0 v0 d0 p)
    (k : Below W.heap.size W W') : s.post enc Tryd.prog f false true false false W #[v0] (.bool true) W' := by
  have hlt : ∀ x ∈ p, x.block < W.heap.size := fun x hx => hW.lt x hx
  refine ⟨[d0], [], p, [], p, [], hW, ?_, ?_, ?_, k.frame _, fun h => by cases h⟩
  · rw [hr, List.append_nil, hfn]
    exact trodAll_mk1 (shut_bool hb _)
  · rw [hf, List.append_nil, hfn]
    have := trodAll_mk1 (Below.trod laid rd hl h0 k hlt)
    simpa using this
  · rw [hs, List.append_nil, hfn]
    rfl

theorem post_law2 {H : Type} {enc : TypeId × Value → H} {f : Func} {s : ChangeSpec} {W W' : World} {v0 v1 : Value} {d0 d1 : DataW H} {p0 p1 : List MemPlace} {t0 t1 tb : TypeId}
    (hW : DataW.Whole enc Tryd.prog f.params.toList s.vars false W [v0, v1] [d0, d1] [] (p0 ++ p1)) (hf : f.params.toList = [t0, t1]) (hr : f.resultTypes = #[tb]) (hb : Tryd.prog.underlying tb = some .bool) (hs : s.vars = [])
    (hfn : s.fn H [d0, d1] = { results := [.lit (.bool true)], args := [d0, d1] }) (rd0 : Tryd.prog.readableRec t0 = true) (hl0 : t0 < Tryd.prog.types.size) (rd1 : Tryd.prog.readableRec t1 = true) (hl1 : t1 < Tryd.prog.types.size)
    (h0 : DataW.Trod enc Tryd.prog W 0 (fun _ => true) true t0 v0 d0 p0) (h1 : DataW.Trod enc Tryd.prog W 0 (fun _ => true) true t1 v1 d1 p1)
    (k : Below W.heap.size W W') : s.post enc Tryd.prog f false true false false W #[v0, v1] (.bool true) W' := by
  have hlt : ∀ x ∈ p0 ++ p1, x.block < W.heap.size := fun x hx => hW.lt x hx
  refine ⟨[d0, d1], [], p0 ++ p1, [], p0 ++ p1, [], hW, ?_, ?_, ?_, k.frame _, fun h => by cases h⟩
  · rw [hr, List.append_nil, hfn]
    exact trodAll_mk1 (shut_bool hb _)
  · rw [hf, List.append_nil, hfn]
    have := trodAll_mk2 (Below.trod laid rd0 hl0 h0 k (fun x hx => hlt x (List.mem_append_left _ hx))) (Below.trod laid rd1 hl1 h1 k (fun x hx => hlt x (List.mem_append_right _ hx)))
    simpa using this
  · rw [hs, List.append_nil, hfn]
    rfl


theorem array5 {α : Type} {a : Array α} (h : a.size = 5) : ∃ x y z u v, a = #[x, y, z, u, v] := by
  obtain ⟨l⟩ := a
  match l, h with
  | [x, y, z, u, v], _ => exact ⟨x, y, z, u, v, rfl⟩

/-- a struct of five whole numbers -/
theorem trod_five {H : Type} {enc : TypeId × Value → H} {w : World} {base : Nat} {spare : Nat → Bool} {held : Bool} {fuel : Nat} {t : TypeId} {f0 f1 f2 f3 f4 : Field} {c0 c1 c2 c3 c4 : Value} {y : DataW H × List MemPlace}
    (ht : Tryd.prog.underlying t = some (.struct #[f0, f1, f2, f3, f4])) (ty : f0.type = 3 ∧ f1.type = 3 ∧ f2.type = 3 ∧ f3.type = 3 ∧ f4.type = 3) (of : f0.offset = 0 ∧ f1.offset = 1 ∧ f2.offset = 2 ∧ f3.offset = 3 ∧ f4.offset = 4)
    (hf : DataW.trod enc Tryd.prog w base spare held fuel t [c0, c1, c2, c3, c4] = some y) :
    ∃ o a b c m : Int, c0 = .int .i64 o ∧ c1 = .int .i64 a ∧ c2 = .int .i64 b ∧ c3 = .int .i64 c ∧ c4 = .int .i64 m ∧ y.1 = .agg [.lit (.int .i64 o), .lit (.int .i64 a), .lit (.int .i64 b), .lit (.int .i64 c), .lit (.int .i64 m)] ∧
      ((Lit.int .i64 o).wf = true ∧ (Lit.int .i64 a).wf = true ∧ (Lit.int .i64 b).wf = true ∧ (Lit.int .i64 c).wf = true ∧ (Lit.int .i64 m).wf = true) := by
  obtain ⟨xs, n, _, rfl, hl, hlen, hh⟩ := DataW.trod_struct ht hf
  obtain ⟨t0, t1, t2, t3, t4⟩ := ty
  obtain ⟨o0, o1, o2, o3, o4⟩ := of
  match xs, hlen with
  | [y0, y1, y2, y3, y4], _ =>
    have h0 := hh 0 f0 rfl
    have h1 := hh 1 f1 rfl
    have h2 := hh 2 f2 rfl
    have h3 := hh 3 f3 rfl
    have h4 := hh 4 f4 rfl
    rw [t0, o0, cellsI] at h0
    rw [t1, o1, cellsI] at h1
    rw [t2, o2, cellsI] at h2
    rw [t3, o3, cellsI] at h3
    rw [t4, o4, cellsI] at h4
    obtain ⟨o, e0, r0, w0⟩ := DataW.trod_int Tryd.underlying3 (x := y0) (by simpa using h0)
    obtain ⟨a, e1, r1, w1⟩ := DataW.trod_int Tryd.underlying3 (x := y1) (by simpa using h1)
    obtain ⟨b, e2, r2, w2⟩ := DataW.trod_int Tryd.underlying3 (x := y2) (by simpa using h2)
    obtain ⟨c, e3, r3, w3⟩ := DataW.trod_int Tryd.underlying3 (x := y3) (by simpa using h3)
    obtain ⟨m, e4, r4, w4⟩ := DataW.trod_int Tryd.underlying3 (x := y4) (by simpa using h4)
    simp at e0 e1 e2 e3 e4
    exact ⟨o, a, b, c, m, e0, e1, e2, e3, e4, by simp [r0, r1, r2, r3, r4], w0, w1, w2, w3, w4⟩

theorem open_instr {H : Type} {enc : TypeId × Value → H} {w : World} {base : Nat} {spare : Nat → Bool} {held : Bool} {r : Reach} {b0 : Nat} {v : Value} {d : DataW H} {p : List MemPlace}
    (hv : Value.okWide Tryd.prog w r b0 46 v) (h : DataW.Trod enc Tryd.prog w base spare held 46 v d p) :
    ∃ o a b c m : Int, v = .agg #[.int .i64 o, .int .i64 a, .int .i64 b, .int .i64 c, .int .i64 m] := by
  obtain ⟨cs, rfl, hsz⟩ := okWide_struct Tryd.underlying46 hv
  obtain ⟨c0, c1, c2, c3, c4, rfl⟩ := array5 (hsz.trans cellsN)
  obtain ⟨fuel, hf⟩ := h
  obtain ⟨o, a, b, c, m, rfl, rfl, rfl, rfl, rfl, _⟩ := trod_five Tryd.underlying46 ⟨rfl, rfl, rfl, rfl, rfl⟩ ⟨rfl, rfl, rfl, rfl, rfl⟩ (by simpa [Value.cells] using hf)
  exact ⟨o, a, b, c, m, rfl⟩

theorem lt_of_cell {w : World} {b o : Nat} {v : Value} (h : w.cell? ⟨b, o, none⟩ = some v) : b < w.heap.size := by
  rcases Nat.lt_or_ge b w.heap.size with h1 | h1
  · exact h1
  · have : w.heap[b]? = none := Array.getElem?_eq_none h1
    simp [World.cell?, this] at h
/-- an element of an array that reads as it is listed -/
theorem arr_at {t e : TypeId} {n : Nat} {W : World} {sp : Nat → Bool} {held : Bool} {base fuel : Nat} {cs : List Value} {ds : List (DataW Unit)} {p : List MemPlace} {enc : TypeId × Value → Unit} (ht : Tryd.prog.underlying t = some (.array n e))
    (h : DataW.trod enc Tryd.prog W base sp held fuel t cs = some (.agg ds, p)) (i : Nat) (hi : i < n) :
    ∃ x m, DataW.trod enc Tryd.prog W base sp held m e ((cs.drop (i * Tryd.prog.cellsOf e)).take (Tryd.prog.cellsOf e)) = some x ∧ ds[i]? = some x.1 ∧ cs.length = Tryd.prog.cellsOf t := by
  obtain ⟨xs, m, rfl, hx, hlen, hn, hel⟩ := DataW.trod_array ht h
  simp only [Prod.mk.injEq, DataW.agg.injEq] at hx
  have h1 := hel i hi
  obtain ⟨x, hxi⟩ : ∃ x, xs[i]? = some x := ⟨_, List.getElem?_eq_getElem (by omega)⟩
  exact ⟨x, m, by rw [h1, hxi], by rw [hx.1]; simp [hxi], hlen⟩
theorem take_one {α : Type} {l : List α} {i : Nat} {c : α} (h : (l.drop (i * 1)).take 1 = [c]) : l[i]? = some c := by
  have := congrArg (·[0]?) h
  simpa [List.getElem?_take, List.getElem?_drop] using this
theorem arr_get {α : Type} {a : Array α} {i : Nat} {v : α} (h : a.toList[i]? = some v) : a[i]? = some v := by simpa using h

theorem gNum : Tryd.prog.globalNamed "rota/word.numbers" = some 0 := by kernel_rfl
theorem gFor : Tryd.prog.globalNamed "rota/word.forms" = some 1 := by kernel_rfl
theorem tNum : (Tryd.prog.globals[0]?).map (·.type) = some 99 := by kernel_rfl
theorem tFor : (Tryd.prog.globals[1]?).map (·.type) = some 117 := by kernel_rfl

theorem nums_of {W : World} {sp : Nat → Bool} {held : Bool} {base fuel g t : Nat} {cs : Array Value} {p : List MemPlace} {enc : TypeId × Value → Unit} (hg : Tryd.prog.globalNamed "rota/word.numbers" = some g) (ht : (Tryd.prog.globals[g]?).map (·.type) = some t) (hv : W.var? Tryd.prog "rota/word.numbers" = some cs)
    (hd : DataW.trod enc Tryd.prog W base sp held fuel t cs.toList = some (Rows.laid_rota_word_numbers, p)) : Nums W := by
  obtain rfl := Option.some.inj (gNum.symm.trans hg)
  obtain rfl := Option.some.inj (tNum.symm.trans ht)
  have at_ : ∀ k z, k < 59 → (match (Rows.laid_rota_word_numbers : DataW Unit) with | .agg ds => ds[k]? = some (.lit (.int .u16 z)) | _ => False) → W.cell? ⟨0, k, none⟩ = some (.int .u16 z) := by
    intro k z hk hz
    unfold Rows.laid_rota_word_numbers at hd hz
    obtain ⟨x, m, h1, h2, _⟩ := arr_at Tryd.underlying99 hd k hk
    rw [cellsU] at h1
    obtain ⟨n, e1, e2, _⟩ := DataW.trod_int Tryd.underlying98 h1
    rw [World.var?_cell hg hv k, arr_get (take_one e1)]
    rw [e2] at h2
    have hz' := hz.symm.trans h2
    simp only [Option.some.injEq, DataW.lit.injEq, Lit.int.injEq, true_and] at hz'
    rw [hz']
  exact ⟨lt_of_cell (at_ 0 0 (by omega) rfl), ops_all (P := fun k => W.cell? ⟨0, k, none⟩ = some (.int .u16 (nu k))) (at_ 1 _ (by omega) rfl) (at_ 2 _ (by omega) rfl) (at_ 3 _ (by omega) rfl) (at_ 4 _ (by omega) rfl) (at_ 5 _ (by omega) rfl) (at_ 6 _ (by omega) rfl) (at_ 7 _ (by omega) rfl) (at_ 8 _ (by omega) rfl) (at_ 9 _ (by omega) rfl) (at_ 10 _ (by omega) rfl) (at_ 11 _ (by omega) rfl) (at_ 12 _ (by omega) rfl) (at_ 13 _ (by omega) rfl) (at_ 14 _ (by omega) rfl) (at_ 15 _ (by omega) rfl) (at_ 16 _ (by omega) rfl) (at_ 17 _ (by omega) rfl) (at_ 18 _ (by omega) rfl) (at_ 19 _ (by omega) rfl) (at_ 20 _ (by omega) rfl) (at_ 21 _ (by omega) rfl) (at_ 22 _ (by omega) rfl) (at_ 23 _ (by omega) rfl) (at_ 24 _ (by omega) rfl) (at_ 25 _ (by omega) rfl) (at_ 26 _ (by omega) rfl) (at_ 27 _ (by omega) rfl) (at_ 28 _ (by omega) rfl) (at_ 29 _ (by omega) rfl) (at_ 30 _ (by omega) rfl) (at_ 31 _ (by omega) rfl) (at_ 32 _ (by omega) rfl) (at_ 33 _ (by omega) rfl) (at_ 34 _ (by omega) rfl) (at_ 35 _ (by omega) rfl) (at_ 36 _ (by omega) rfl) (at_ 37 _ (by omega) rfl) (at_ 38 _ (by omega) rfl) (at_ 39 _ (by omega) rfl) (at_ 40 _ (by omega) rfl) (at_ 41 _ (by omega) rfl) (at_ 42 _ (by omega) rfl) (at_ 43 _ (by omega) rfl) (at_ 44 _ (by omega) rfl) (at_ 45 _ (by omega) rfl) (at_ 46 _ (by omega) rfl) (at_ 47 _ (by omega) rfl) (at_ 48 _ (by omega) rfl) (at_ 49 _ (by omega) rfl) (at_ 50 _ (by omega) rfl) (at_ 51 _ (by omega) rfl) (at_ 52 _ (by omega) rfl) (at_ 53 _ (by omega) rfl) (at_ 54 _ (by omega) rfl) (at_ 55 _ (by omega) rfl) (at_ 56 _ (by omega) rfl) (at_ 57 _ (by omega) rfl) (at_ 58 _ (by omega) rfl)⟩

theorem take_five {α : Type} {l : List α} {i : Nat} {c0 c1 c2 c3 c4 : α} (h : (l.drop (i * 5)).take 5 = [c0, c1, c2, c3, c4]) : l[i * 5]? = some c0 ∧ l[i * 5 + 1]? = some c1 ∧ l[i * 5 + 2]? = some c2 ∧ l[i * 5 + 3]? = some c3 ∧ l[i * 5 + 4]? = some c4 := by
  have h0 := congrArg (·[0]?) h
  have h1 := congrArg (·[1]?) h
  have h2 := congrArg (·[2]?) h
  have h3 := congrArg (·[3]?) h
  have h4 := congrArg (·[4]?) h
  refine ⟨?_, ?_, ?_, ?_, ?_⟩
  · simpa [List.getElem?_take, List.getElem?_drop] using h0
  · simpa [List.getElem?_take, List.getElem?_drop] using h1
  · simpa [List.getElem?_take, List.getElem?_drop] using h2
  · simpa [List.getElem?_take, List.getElem?_drop] using h3
  · simpa [List.getElem?_take, List.getElem?_drop] using h4

theorem forms_of {W : World} {sp : Nat → Bool} {held : Bool} {base fuel g t : Nat} {cs : Array Value} {p : List MemPlace} {enc : TypeId × Value → Unit} (hg : Tryd.prog.globalNamed "rota/word.forms" = some g) (ht : (Tryd.prog.globals[g]?).map (·.type) = some t) (hv : W.var? Tryd.prog "rota/word.forms" = some cs)
    (hd : DataW.trod enc Tryd.prog W base sp held fuel t cs.toList = some (Rows.laid_rota_word_forms, p)) : Forms W := by
  obtain rfl := Option.some.inj (gFor.symm.trans hg)
  obtain rfl := Option.some.inj (tFor.symm.trans ht)
  have at_ : ∀ k z0 z1 z2 z3 z4, k < 7 → (match (Rows.laid_rota_word_forms : DataW Unit) with | .agg ds => ds[k]? = some (.agg [.lit (.int .i64 z0), .lit (.int .i64 z1), .lit (.int .i64 z2), .lit (.int .i64 z3), .lit (.int .i64 z4)]) | _ => False) →
      W.cell? ⟨1, k * 5, none⟩ = some (.int .i64 z0) ∧ W.cell? ⟨1, k * 5 + 1, none⟩ = some (.int .i64 z1) ∧ W.cell? ⟨1, k * 5 + 2, none⟩ = some (.int .i64 z2) ∧ W.cell? ⟨1, k * 5 + 3, none⟩ = some (.int .i64 z3) ∧ W.cell? ⟨1, k * 5 + 4, none⟩ = some (.int .i64 z4) := by
    intro k z0 z1 z2 z3 z4 hk hz
    unfold Rows.laid_rota_word_forms at hd hz
    obtain ⟨x, m, h1, h2, hl⟩ := arr_at Tryd.underlying117 hd k hk
    rw [cellsF] at h1
    have h35 : Tryd.prog.cellsOf 117 = 35 := by kernel_rfl
    obtain ⟨c0, c1, c2, c3, c4, e⟩ : ∃ c0 c1 c2 c3 c4, (cs.toList.drop (k * 5)).take 5 = [c0, c1, c2, c3, c4] := by
      have hlen : ((cs.toList.drop (k * 5)).take 5).length = 5 := by rw [List.length_take, List.length_drop, hl, h35]; omega
      match (cs.toList.drop (k * 5)).take 5, hlen with
      | [a, b, c, d, f], _ => exact ⟨a, b, c, d, f, rfl⟩
    rw [e] at h1
    obtain ⟨o, a, b, c, mm, rfl, rfl, rfl, rfl, rfl, e2, _⟩ := trod_five Tryd.underlying112 ⟨rfl, rfl, rfl, rfl, rfl⟩ ⟨rfl, rfl, rfl, rfl, rfl⟩ h1
    rw [e2] at h2
    have hz' := hz.symm.trans h2
    simp only [Option.some.injEq, DataW.agg.injEq, List.cons.injEq, DataW.lit.injEq, Lit.int.injEq, true_and, and_true] at hz'
    obtain ⟨rfl, rfl, rfl, rfl, rfl⟩ := hz'
    obtain ⟨k0, k1, k2, k3, k4⟩ := take_five e
    exact ⟨(World.var?_cell hg hv _).trans (arr_get k0), (World.var?_cell hg hv _).trans (arr_get k1), (World.var?_cell hg hv _).trans (arr_get k2), (World.var?_cell hg hv _).trans (arr_get k3), (World.var?_cell hg hv _).trans (arr_get k4)⟩
  have all := shapes_all (P := fun s => W.cell? ⟨1, s * 5, none⟩ = some (.int .i64 (fa s)) ∧ W.cell? ⟨1, s * 5 + 1, none⟩ = some (.int .i64 (fb s)) ∧ W.cell? ⟨1, s * 5 + 2, none⟩ = some (.int .i64 (fc s)) ∧ W.cell? ⟨1, s * 5 + 3, none⟩ = some (.int .i64 (fl s)) ∧ W.cell? ⟨1, s * 5 + 4, none⟩ = some (.int .i64 (fm s))) (at_ 0 _ _ _ _ _ (by omega) rfl) (at_ 1 _ _ _ _ _ (by omega) rfl) (at_ 2 _ _ _ _ _ (by omega) rfl) (at_ 3 _ _ _ _ _ (by omega) rfl) (at_ 4 _ _ _ _ _ (by omega) rfl) (at_ 5 _ _ _ _ _ (by omega) rfl) (at_ 6 _ _ _ _ _ (by omega) rfl)
  exact ⟨lt_of_cell (all 0 (by omega)).1, fun s h => (all s h).1, fun s h => (all s h).2.1, fun s h => (all s h).2.2.1, fun s h => (all s h).2.2.2.1, fun s h => (all s h).2.2.2.2⟩

/-- the condition on two tables, and on three -/
theorem of_laid2 {W : World} (h : laidMetH Tryd.prog [("rota/word.forms", Rows.laid_rota_word_forms), ("rota/word.numbers", Rows.laid_rota_word_numbers)] W) : Nums W ∧ Forms W := by
  rw [MakeChecks.laidMetH_plain _ _ _ (by kernel_rfl)] at h
  obtain ⟨ps, ⟨g0, t0, cs0, f0, p0, q0, hg0, ht0, hv0, hd0, ⟨g1, t1, cs1, f1, p1, q1, hg1, ht1, hv1, hd1, _, _⟩, _⟩, _, _⟩ := h
  exact ⟨nums_of hg1 ht1 hv1 hd1, forms_of hg0 ht0 hv0 hd0⟩
end Go.Proofs.YtcdlhfodeckleaaDoor.Wd
