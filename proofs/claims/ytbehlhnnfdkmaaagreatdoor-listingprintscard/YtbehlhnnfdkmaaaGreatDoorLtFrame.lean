/-
  What each step from a walk to a statement of layer 7 takes: the listed tables, cell by cell; and what the library's own number is. No conditions.
-/
import Derived.Test.YtbehlhnnfdkmaaaGreatDoorLtOpen
import Derived.Test.YtbehlhnnfdkmaaaGreatDoorLtKind
import Derived.Lay
import Derived.LaidSub
import Derived.Shelf.Vars
import Derived.MakeChecks
namespace Go.Proofs.YtbehlhnnfdkmaaaGreatDoor.Lt
open Go.ChangeShapes Go.WideShapes Go.ChangeAt Go.RowKit Go.Deep Go.Joins Wd
set_option maxRecDepth 100000

/-- the listed variables -/
def L10 : List (String × DataW Unit) := [("math/bits.deBruijn32tab", Rows.laid_math_bits_deBruijn32tab), ("math/bits.deBruijn64tab", Rows.laid_math_bits_deBruijn64tab), ("internal/strconv.uint64pow10", Rows.laid_internal_strconv_uint64pow10), ("rota/word.forms", Rows.laid_rota_word_forms), ("rota/word.numbers", Rows.laid_rota_word_numbers), ("rota/word.names", Rows.laid_rota_word_names), ("unicode/utf8.acceptRanges", Rows.laid_unicode_utf8_acceptRanges), ("strconv.ErrRange", Rows.laid_strconv_ErrRange), ("strconv.ErrSyntax", Rows.laid_strconv_ErrSyntax), ("unicode/utf8.first", Rows.laid_unicode_utf8_first)]

theorem gPow : Tryz.prog.globalNamed "internal/strconv.uint64pow10" = some 4 := by kernel_rfl
theorem tPow : (Tryz.prog.globals[4]?).map (·.type) = some 175 := by kernel_rfl
theorem cPow : Tryz.prog.cellsOf 163 = 1 := by kernel_rfl
theorem nPow : Tryz.prog.cellsOf 175 = 20 := by kernel_rfl
theorem laid_pow : (Rows.laid_internal_strconv_uint64pow10 : DataW Unit) = .agg (Lib.pow10Tab.map fun z => .lit (.int .u64 z)) := by kernel_rfl
theorem pow_len : Lib.pow10Tab.length = 20 := by kernel_rfl

theorem pow_of {W : World} {sp : Nat → Bool} {held : Bool} {base fuel g t : Nat} {cs : Array Value} {p : List MemPlace} {enc : TypeId × Value → Unit} (hg : Tryz.prog.globalNamed "internal/strconv.uint64pow10" = some g) (ht : (Tryz.prog.globals[g]?).map (·.type) = some t) (hv : W.var? Tryz.prog "internal/strconv.uint64pow10" = some cs)
    (hd : DataW.trod enc Tryz.prog W base sp held fuel t cs.toList = some (Rows.laid_internal_strconv_uint64pow10, p)) : Pow W := by
  obtain rfl := Option.some.inj (gPow.symm.trans hg)
  obtain rfl := Option.some.inj (tPow.symm.trans ht)
  rw [laid_pow] at hd
  have hcs : cs.toList = Lib.pow10Tab.map fun z => Value.int .u64 z := by
    apply List.ext_getElem?
    intro i
    rcases Nat.lt_or_ge i 20 with hi | hi
    · obtain ⟨x, m, h1, h2, _⟩ := arr_at Tryz.underlying175 hd i hi
      rw [cPow] at h1
      obtain ⟨n, e1, e2, _⟩ := DataW.trod_int Tryz.underlying163 h1
      rw [Wd.take_one e1, List.getElem?_map]
      rw [List.getElem?_map, e2] at h2
      cases hz : Lib.pow10Tab[i]? with
      | none => rw [hz] at h2; cases h2
      | some z =>
        rw [hz] at h2
        simp only [Option.map_some, Option.some.injEq, DataW.lit.injEq, Lit.int.injEq, true_and] at h2
        rw [h2]
        rfl
    · obtain ⟨_, _, _, _, hlen⟩ := arr_at Tryz.underlying175 hd 0 (by omega)
      rw [nPow] at hlen
      rw [List.getElem?_eq_none (by omega), List.getElem?_eq_none (by rw [List.length_map, pow_len]; omega)]
  simp only [World.var?, gPow, Option.bind_some] at hv
  split at hv
  · rename_i c T fr hb
    injection hv with hv
    refine ⟨T, fr, ?_⟩
    rw [hb, hv, ← hcs]
  · cases hv

theorem glb_of {W : World} (h : laidMetH Tryz.prog L10 W) (hs : W.ShapedOpen Tryz.prog) : Glb W := by
  unfold L10 at h
  rw [MakeChecks.laidMetH_plain _ _ _ (by kernel_rfl)] at h
  obtain ⟨ps, ⟨_, _, _, _, _, _, _, _, _, _, ⟨_, _, _, _, _, _, _, _, _, _, ⟨g2, t2, cs2, f2, p2, q2, hg2, ht2, hv2, hd2, ⟨g3, t3, cs3, f3, p3, q3, hg3, ht3, hv3, hd3, ⟨g4, t4, cs4, f4, p4, q4, hg4, ht4, hv4, hd4, ⟨g5, t5, cs5, f5, p5, q5, hg5, ht5, hv5, hd5, _, _⟩, _⟩, _⟩, _⟩, _⟩, _⟩, _, _⟩ := h
  have hm : ∃ m, W.cell? ⟨3, 0, none⟩ = some (.int .i64 m) := cell_of_shapedOpen_int (zero := #[.int .i64 0]) (t := 3) hs (of_decide_eq_true (by kernel_rfl)) (by kernel_rfl) rfl (by kernel_rfl) (by kernel_rfl) Tryz.underlying3
  exact ⟨nums_of hg4 ht4 hv4 hd4, names_of hg5 ht5 hv5 hd5, forms_of hg3 ht3 hv3 hd3, by obtain ⟨m, hm⟩ := hm; exact lt_of_cell hm, hm, pow_of hg2 ht2 hv2 hd2⟩

/-- as the library's wrap, the world's shape kept beside what is listed -/
theorem lift {H : Type} {enc : TypeId × Value → H} {C : Checked} {os : Os} {f : FuncId} {fn : Func} {s : ChangeSpec} {conds : List PathCond} {X : World → Array Value → Prop}
    (hX : ∀ (w w' : World) (args : Array Value), w.heap = w'.heap → X w args → X w' args)
    (own : ownKnob C.prog.godebug = none) (started : os.Started) (noInit : C.prog.inits.idxOf? f = none) (hfn : C.prog.funcs[f]? = some fn)
    (witness : ∃ (w : World) (tape : Tape) (i : Input), w.os = os ∧ (w.forCall tape i).Shaped C.prog ∧ i.vars = [] ∧ Input.okWide C.prog (w.forCall tape i) .any w.heap.size f i ∧
      ((s.pre enc C.prog fn conds false (w.forCall tape i).memory i.args ∧ X (w.forCall tape i).memory i.args) ∧ sizedMet enc C.prog fn (OpenSpec.ofChange s) false (w.forCall tape i).memory i.args) ∧ ({} : Assume).holds C.prog (lone (Frame.enter C.prog f i.args .normal) [] (w.forCall tape i)))
    (contract : ∀ (W : World) (base : Nat) (args : Array Value) (ds gs : List (DataW H)) (before : List MemPlace),
      (∀ (j : Nat) t v, fn.params[j]? = some t → args[j]? = some v → Value.okWide C.prog W .any base t v) →
      DataW.Whole enc C.prog fn.params.toList s.vars false W args.toList ds gs before →
      (DataW.weightsEach C.prog (fn.params.toList ++ s.plain.varTypes C.prog) (ds ++ gs)).all (· ≤ reachBytes) = true → X W args → W.ShapedOpen C.prog →
      Calls C.prog f args W fun e W' => ∃ v, e = .returned v ∧ s.post enc C.prog fn false true false false W args v W') :
    ReturnsInHanded {} C os f .any (fun w args => (s.pre enc C.prog fn conds false w args ∧ X w args) ∧ sizedMet enc C.prog fn (OpenSpec.ofChange s) false w args) (s.post enc C.prog fn false true false false) := by
  refine returnsInHanded_of_calls own started noInit witness ?_
  intro w tape i _ hsh _ hok hpre _
  obtain ⟨_, _, _, fn', hfn', _, _, _, _, hval⟩ := hok
  have e : fn' = fn := Option.some.inj (hfn'.symm.trans hfn)
  subst e
  obtain ⟨⟨⟨ds, gs, before, hw, _⟩, hx⟩, hz⟩ := hpre
  have hw' := DataW.Whole.of_heap (w' := w.forCall tape i) (by rfl) hw
  refine (contract (w.forCall tape i) w.heap.size i.args ds gs before hval hw' (hz.weights hw) (hX _ _ _ (by rfl) hx) hsh).mono fun e W' ⟨v, he, hp⟩ => ?_
  subst he
  exact ChangeSpec.post_blind hp
theorem door (os : Os) (args : Array Value) : laidMetH Tryz.prog L10 ((World.laidAll Tryz.prog os L10).forCall (fun _ _ => 0) ⟨#[], args, []⟩).memory := by
  rw [MakeChecks.laidMetH_plain _ _ _ (by kernel_rfl)]
  exact laidMet_laidAll _ (by kernel_rfl) (by kernel_rfl)
theorem shaped (os : Os) (args : Array Value) : ((World.laidAll Tryz.prog os L10).forCall (fun _ _ => 0) ⟨#[], args, []⟩).Shaped Tryz.prog := World.shaped_of_ZipB (by kernel_rfl) (by kernel_rfl)
end Go.Proofs.YtbehlhnnfdkmaaaGreatDoor.Lt
