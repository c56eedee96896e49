/-
  How a program that is handed in reads, and what each step from a walk to a statement of layer 8 takes. No conditions.
-/
import Derived.Test.YtcdlhfodeckleaaDoorPpBase
import Derived.Test.YtcdlhfodeckleaaDoorPpWd
import Derived.Lay
import Derived.LaidSub
import Derived.MakeChecks
namespace Go.Proofs.YtcdlhfodeckleaaDoor.Lt
open Go.ChangeShapes Go.WideShapes Go.ChangeAt Go.RowKit Go.Deep Go.Joins Wd
set_option maxRecDepth 100000

theorem flat_inv {α : Type} {E : α → List Value} {K : Nat} (hK : ∀ x, (E x).length = K) : ∀ (xs : List α) (j : Nat) (x : Value), (xs.flatMap E)[j]? = some x → ∃ i k a, j = i * K + k ∧ xs[i]? = some a ∧ (E a)[k]? = some x := by
  intro xs
  induction xs with
  | nil => intro j x h; simp at h
  | cons a r ih =>
    intro j x h
    rw [List.flatMap_cons] at h
    rcases Nat.lt_or_ge j K with hj | hj
    · rw [List.getElem?_append_left (by rw [hK]; exact hj)] at h
      exact ⟨0, j, a, by omega, rfl, h⟩
    · rw [List.getElem?_append_right (by rw [hK]; exact hj), hK] at h
      obtain ⟨i, k, b, h1, h2, h3⟩ := ih _ _ h
      refine ⟨i + 1, k, b, ?_, h2, h3⟩
      rw [Nat.succ_mul]
      omega
theorem spot_none {w : World} {a : Addr} {v : Value} (h : w.cell? a = some v) : a.spot = none := by
  obtain ⟨g, o, sp⟩ := a
  cases sp with
  | none => rfl
  | some k => simp [World.cell?] at h; split at h <;> simp at h
theorem weights_in {H : Type} {P : Program} {e : TypeId} : ∀ {l : List (DataW H)} {d : DataW H}, d ∈ l → ∀ n ∈ d.weights P e, n ∈ DataW.weightsAll P e l
  | d0 :: l, d, h, n, hn => by
    simp only [DataW.weightsAll, List.mem_append]
    rcases List.mem_cons.1 h with rfl | h
    · exact .inl hn
    · exact .inr (weights_in h n hn)

theorem cU : Tryd.prog.cellsOf 65 = 1 := by kernel_rfl
theorem cB : Tryd.prog.cellsOf 4 = 1 := by kernel_rfl
theorem cG : Tryd.prog.cellsOf 64 = 2 := by kernel_rfl
theorem cCa : Tryd.prog.cellsOf 106 = 4 := by kernel_rfl
theorem cT : Tryd.prog.cellsOf 93 = 2 := by kernel_rfl
theorem cP : Tryd.prog.cellsOf 26 = 3 := by kernel_rfl
theorem cLU : Tryd.prog.cellsOf 22 = 1 := by kernel_rfl
theorem cLG : Tryd.prog.cellsOf 23 = 1 := by kernel_rfl
theorem cLC : Tryd.prog.cellsOf 91 = 1 := by kernel_rfl
theorem cLT : Tryd.prog.cellsOf 24 = 1 := by kernel_rfl
theorem bU : Tryd.prog.bytesOf 65 = 4 := by kernel_rfl
theorem bG : Tryd.prog.bytesOf 64 = 16 := by kernel_rfl
theorem bC : Tryd.prog.bytesOf 106 = 32 := by kernel_rfl
theorem bT : Tryd.prog.bytesOf 93 = 32 := by kernel_rfl

section
variable {H : Type} {enc : TypeId × Value → H} {w : World} {base : Nat} {spare : Nat → Bool} {held : Bool}
/-- a slice of elements of K cells -/
theorem open_gen {α : Type} [Inhabited α] (E : α → List Value) {K : Nat} {t e : TypeId} {fuel : Nat} {c : Value} {y : DataW H × List MemPlace} (ht : Tryd.prog.underlying t = some (.slice e)) (hc : Tryd.prog.cellsOf e = K) (hK : ∀ x, (E x).length = K) (hK0 : 0 < K) (Q : α → DataW H → Prop)
    (he : ∀ n cs z, cs.length = K → DataW.trod enc Tryd.prog w base spare held n e cs = some z → ∃ x, cs = E x ∧ Q x z.1)
    (hf : DataW.trod enc Tryd.prog w base spare held fuel t [c] = some y) :
    ∃ xs : List α, Ls E (· < w.heap.size) w c xs ∧ ((xs = [] ∧ y.1 = .nil) ∨ ∃ el sp, y.1 = .slice el sp ∧ el.length = xs.length ∧ ∀ (i : Nat) (x : α), xs[i]? = some x → ∃ d, el[i]? = some d ∧ Q x d) := by
  rcases open_slice ht hf with ⟨h1, h2⟩ | ⟨a, len, cap, m, n, D, Pl, h1, hb, hl, hm, hmm, hd, hx⟩
  · injection h1 with h1
    subst h1
    exact ⟨[], Ls.nil _ _ _, .inl ⟨rfl, by rw [h2]⟩⟩
  · injection h1 with h1
    subst h1
    rw [hc] at hx
    have hlm : len ≤ m := by rw [hmm]; split <;> omega
    obtain ⟨X, hX⟩ := choose_lt (α := α) (n := len) (p := fun i x => (∀ j v, (E x)[j]? = some v → w.cell? ((a.add (i * K)).add j) = some v) ∧ Q x (D i)) (fun i hi => by
      obtain ⟨cs', h2, h3⟩ := hx i (by omega)
      obtain ⟨_, hlen, hcl⟩ := World.cells?_some h2
      obtain ⟨x, hcs, hq⟩ := he _ _ _ hlen h3
      subst hcs
      exact ⟨x, fun j v hv => (hcl j (by have := (List.getElem?_eq_some_iff.1 hv).1; omega)).trans hv, hq⟩)
    have gt : ∀ (i : Nat) (x : α), ((List.range len).map X)[i]? = some x → i < len ∧ x = X i := fun i x h => by
      rw [List.getElem?_map] at h
      rcases Nat.lt_or_ge i len with hi | hi
      · rw [List.getElem?_range hi] at h
        simp only [Option.map_some, Option.some.injEq] at h
        exact ⟨hi, h.symm⟩
      · rw [List.getElem?_eq_none (by simpa using hi)] at h
        cases h
    refine ⟨(List.range len).map X, ⟨some a, cap, by simp, ⟨by simpa using hl, fun e => by cases e⟩, ?_⟩, .inr ⟨_, _, by rw [hd], by simp, fun i x hi => ?_⟩⟩
    · rcases Nat.eq_zero_or_pos len with h0 | h0
      · left
        rw [h0]
        rfl
      · right
        obtain ⟨v0, hv0⟩ : ∃ v, (E (X 0))[0]? = some v := ⟨_, List.getElem?_eq_getElem (by rw [hK]; exact hK0)⟩
        have hz := (hX 0 h0).1 0 v0 hv0
        obtain ⟨g, o, sp⟩ := a
        have hsp : sp = none := by
          have e : ((⟨g, o, sp⟩ : Addr).add (0 * K)).add 0 = ⟨g, o, sp⟩ := by simp [Addr.add]
          rw [e] at hz
          exact spot_none hz
        subst hsp
        have hg : g < w.heap.size := by
          rw [add_none, add_none] at hz
          exact lt_of_cell hz
        refine ⟨g, o, rfl, hg, hg, fun j x hj => ?_⟩
        obtain ⟨i, k, b, rfl, h2, h3⟩ := flat_inv hK _ _ _ hj
        obtain ⟨hi, rfl⟩ := gt i b h2
        have := (hX i hi).1 k x h3
        rw [add_none, add_none] at this
        rwa [← Nat.add_assoc]
    · obtain ⟨h1, rfl⟩ := gt i x hi
      exact ⟨D i, by rw [List.getElem?_map, List.getElem?_range h1]; rfl, (hX i h1).2⟩
theorem two_cells {cs : List Value} (h : cs.length = 2) : ∃ a b, cs = [a, b] := by
  match cs, h with
  | [a, b], _ => exact ⟨a, b, rfl⟩
theorem four_cells {cs : List Value} (h : cs.length = 4) : ∃ a b c d, cs = [a, b, c, d] := by
  match cs, h with
  | [a, b, c, d], _ => exact ⟨a, b, c, d, rfl⟩
theorem el_word (n : Nat) (cs : List Value) (z : DataW H × List MemPlace) (_hl : cs.length = 1) (h : DataW.trod enc Tryd.prog w base spare held n 65 cs = some z) : ∃ x : Int, cs = eU x ∧ 0 ≤ x ∧ x < 4294967296 := by
  obtain ⟨x, e1, _, hw⟩ := DataW.trod_int Tryd.underlying65 h
  simp [Lit.wf, IntKind.min, IntKind.max, IntKind.signed, IntKind.bits] at hw
  exact ⟨x, by rw [e1]; rfl, by omega, by omega⟩
theorem el_func (n : Nat) (cs : List Value) (z : DataW H × List MemPlace) (hl : cs.length = 2) (h : DataW.trod enc Tryd.prog w base spare held n 64 cs = some z) : ∃ x : Int × Int, cs = eG x ∧ True := by
  obtain ⟨c0, c1, rfl⟩ := two_cells hl
  obtain ⟨xs, n, _, _, _, hlen, hfs⟩ := DataW.trod_struct Tryd.underlying64 h
  match xs, hlen with
  | [y0, y1], _ =>
    have h0 := hfs 0 _ rfl
    have h1 := hfs 1 _ rfl
    have h0' : DataW.trod enc Tryd.prog w base spare held n 3 [c0] = some y0 := by simpa [Value.cells, cellsI] using h0
    have h1' : DataW.trod enc Tryd.prog w base spare held n 3 [c1] = some y1 := by simpa [Value.cells, cellsI] using h1
    obtain ⟨a, e0, _, _⟩ := DataW.trod_int Tryd.underlying3 h0'
    obtain ⟨b, e1, _, _⟩ := DataW.trod_int Tryd.underlying3 h1'
    simp at e0 e1
    exact ⟨(a, b), by rw [e0, e1]; rfl, trivial⟩
theorem el_case (n : Nat) (cs : List Value) (z : DataW H × List MemPlace) (hl : cs.length = 4) (h : DataW.trod enc Tryd.prog w base spare held n 106 cs = some z) : ∃ x : Cs, cs = eC x ∧ True := by
  obtain ⟨c0, c1, c2, c3, rfl⟩ := four_cells hl
  obtain ⟨xs, n, _, _, _, hlen, hfs⟩ := DataW.trod_struct Tryd.underlying106 h
  match xs, hlen with
  | [y0, y1, y2, y3], _ =>
    have h0 := hfs 0 _ rfl
    have h1 := hfs 1 _ rfl
    have h2 := hfs 2 _ rfl
    have h3 := hfs 3 _ rfl
    have h0' : DataW.trod enc Tryd.prog w base spare held n 4 [c0] = some y0 := by simpa [Value.cells, cB] using h0
    have h1' : DataW.trod enc Tryd.prog w base spare held n 3 [c1] = some y1 := by simpa [Value.cells, cellsI] using h1
    have h2' : DataW.trod enc Tryd.prog w base spare held n 3 [c2] = some y2 := by simpa [Value.cells, cellsI] using h2
    have h3' : DataW.trod enc Tryd.prog w base spare held n 3 [c3] = some y3 := by simpa [Value.cells, cellsI] using h3
    obtain ⟨b, e0, _⟩ := DataW.trod_bool Tryd.underlying4 h0'
    obtain ⟨x1, e1, _, _⟩ := DataW.trod_int Tryd.underlying3 h1'
    obtain ⟨x2, e2, _, _⟩ := DataW.trod_int Tryd.underlying3 h2'
    obtain ⟨x3, e3, _, _⟩ := DataW.trod_int Tryd.underlying3 h3'
    simp at e0 e1 e2 e3
    exact ⟨⟨b, x1, x2, x3⟩, by rw [e0, e1, e2, e3]; rfl, trivial⟩
/-- a table: its cases read, and they are no more than its weight lets be -/
def TbQ (w : World) (t : Tb) (d : DataW H) : Prop := Ls eC (· < w.heap.size) w t.cv t.cs ∧ ((∀ k ∈ d.weights Tryd.prog 93, k ≤ 140737488351232) → t.cs.length ≤ 4398046511104)
theorem el_table (n : Nat) (cs : List Value) (z : DataW H × List MemPlace) (hl : cs.length = 2) (h : DataW.trod enc Tryd.prog w base spare held n 93 cs = some z) : ∃ x : Tb, cs = eT x ∧ TbQ w x z.1 := by
  obtain ⟨c0, c1, rfl⟩ := two_cells hl
  obtain ⟨xs, n, _, hx, _, hlen, hfs⟩ := DataW.trod_struct Tryd.underlying93 h
  match xs, hlen with
  | [y0, y1], _ =>
    have h0 := hfs 0 _ rfl
    have h1 := hfs 1 _ rfl
    have h0' : DataW.trod enc Tryd.prog w base spare held n 91 [c0] = some y0 := by simpa [Value.cells, cLC] using h0
    have h1' : DataW.trod enc Tryd.prog w base spare held n 4 [c1] = some y1 := by simpa [Value.cells, cB] using h1
    obtain ⟨b, e1, _⟩ := DataW.trod_bool Tryd.underlying4 h1'
    simp at e1
    have : Inhabited Cs := ⟨⟨false, 0, 0, 0⟩⟩
    obtain ⟨C, lC, sC⟩ := open_gen eC Tryd.underlying91 cCa eC_len (by omega) (fun _ _ => True) (fun n cs z hl h => el_case n cs z hl h) h0'
    refine ⟨⟨C, c0, b⟩, by rw [e1]; rfl, lC, fun hk => ?_⟩
    have hdx : z.1 = .agg [y0.1, y1.1] := by
      have := congrArg Prod.fst hx
      simpa using this
    rcases sC with ⟨rfl, _⟩ | ⟨el, sp, e, hle, _⟩
    · simp
    · have := hk ((el.length + sp.length) * 32) (by
        rw [hdx]
        simp only [DataW.weights, Tryd.underlying93, e]
        simp [DataW.weights, DataW.weightsEach, Tryd.underlying91, bC])
      show C.length ≤ _
      omega
end
theorem open_prog {H : Type} {enc : TypeId × Value → H} {w : World} {base : Nat} {spare : Nat → Bool} {held : Bool} {r : Reach} {b0 : Nat} {v : Value} {d : DataW H} {p : List MemPlace} {ts : List TypeId} {ds : List (DataW H)} {j : Nat}
    (hv : Value.okWide Tryd.prog w r b0 26 v) (h : DataW.Trod enc Tryd.prog w base spare held 26 v d p) (hz : (DataW.weightsEach Tryd.prog ts ds).all (· ≤ reachBytes) = true) (ht : ts[j]? = some 26) (hd : ds[j]? = some d) :
    ∃ (ia ib ic : Value) (cs : List Int) (fs : List (Int × Int)) (tb : List Tb), v = .agg #[ia, ib, ic] ∧ Pin (· < w.heap.size) w ia ib ic cs fs tb ∧ cs.length ≤ 35184372088832 ∧ fs.length ≤ 8796093022208 ∧ tb.length ≤ 4398046511104 ∧ (∀ t ∈ tb, t.cs.length ≤ 4398046511104) ∧ U32s cs := by
  obtain ⟨vs, rfl, hsz⟩ := okWide_struct Tryd.underlying26 hv
  obtain ⟨c0, c1, c2, rfl⟩ : ∃ a b c, vs = #[a, b, c] := by
    have hs := hsz.trans cP
    obtain ⟨l⟩ := vs
    match l, hs with
    | [x, y, z], _ => exact ⟨x, y, z, rfl⟩
  obtain ⟨fuel, hf⟩ := h
  obtain ⟨xs, n, _, hx, hl, hlen, hfs⟩ := DataW.trod_struct Tryd.underlying26 hf
  have hb : ∀ k ∈ d.weights Tryd.prog 26, k ≤ 140737488351232 := fun k hk => by
    have e' : reachBytes = 140737488351232 := by decide
    have := List.all_eq_true.1 hz _ (DataW.weights_mem_each ht hd k hk)
    simp only [decide_eq_true_eq] at this
    omega
  match xs, hlen with
  | [y0, y1, y2], _ =>
    have h0 := hfs 0 _ rfl
    have h1 := hfs 1 _ rfl
    have h2 := hfs 2 _ rfl
    have h0' : DataW.trod enc Tryd.prog w base spare held n 22 [c0] = some y0 := by simpa [Value.cells, cLU] using h0
    have h1' : DataW.trod enc Tryd.prog w base spare held n 23 [c1] = some y1 := by simpa [Value.cells, cLG] using h1
    have h2' : DataW.trod enc Tryd.prog w base spare held n 24 [c2] = some y2 := by simpa [Value.cells, cLT] using h2
    have hdx : d = .agg [y0.1, y1.1, y2.1] := by
      have := congrArg Prod.fst hx
      simpa using this
    have hw : d.weights Tryd.prog 26 = y0.1.weights Tryd.prog 22 ++ (y1.1.weights Tryd.prog 23 ++ (y2.1.weights Tryd.prog 24 ++ [])) := by
      rw [hdx]
      simp [DataW.weights, DataW.weightsEach, Tryd.underlying26]
    rw [hw] at hb
    have : Inhabited Tb := ⟨⟨[], .bool false, false⟩⟩
    obtain ⟨cs, lc, sc⟩ := open_gen eU Tryd.underlying22 cU eU_len (by omega) (fun x _ => 0 ≤ x ∧ x < 4294967296) (fun n cs z hl h => el_word n cs z hl h) h0'
    obtain ⟨fs, lf, sf⟩ := open_gen eG Tryd.underlying23 cG eG_len (by omega) (fun _ _ => True) (fun n cs z hl h => el_func n cs z hl h) h1'
    obtain ⟨tb, lt, st⟩ := open_gen eT Tryd.underlying24 cT eT_len (by omega) (fun t d => TbQ w t d) (fun n cs z hl h => el_table n cs z hl h) h2'
    have tq : ∀ t ∈ tb, Ls eC (· < w.heap.size) w t.cv t.cs ∧ t.cs.length ≤ 4398046511104 := fun t hm => by
      obtain ⟨i, hi⟩ := List.getElem?_of_mem hm
      rcases st with ⟨e, _⟩ | ⟨el, sp, e, _, hq⟩
      · rw [e] at hm
        cases hm
      · obtain ⟨dd, h1, h2, h3⟩ := hq i t hi
        refine ⟨h2, h3 (fun k hk => hb k ?_)⟩
        simp only [List.mem_append]
        refine .inr (.inr (.inl ?_))
        rw [e]
        simp only [DataW.weights, Tryd.underlying24]
        exact List.mem_cons_of_mem _ (List.mem_append_left _ (weights_in (List.mem_of_getElem? h1) _ hk))
    refine ⟨c0, c1, c2, cs, fs, tb, rfl, ⟨lc, lf, lt, fun t hm => (tq t hm).1⟩, ?_, ?_, ?_, fun t hm => (tq t hm).2, fun x hm => ?_⟩
    · rcases sc with ⟨e, _⟩ | ⟨el, sp, e, hle, _⟩
      · rw [e]
        simp
      · have := hb ((el.length + sp.length) * 4) (by
          simp only [List.mem_append]
          refine .inl ?_
          rw [e]
          simp only [DataW.weights, Tryd.underlying22, bU]
          exact List.mem_cons_self)
        omega
    · rcases sf with ⟨e, _⟩ | ⟨el, sp, e, hle, _⟩
      · rw [e]
        simp
      · have := hb ((el.length + sp.length) * 16) (by
          simp only [List.mem_append]
          refine .inr (.inl ?_)
          rw [e]
          simp only [DataW.weights, Tryd.underlying23, bG]
          exact List.mem_cons_self)
        omega
    · rcases st with ⟨e, _⟩ | ⟨el, sp, e, hle, _⟩
      · rw [e]
        simp
      · have := hb ((el.length + sp.length) * 32) (by
          simp only [List.mem_append]
          refine .inr (.inr (.inl ?_))
          rw [e]
          simp only [DataW.weights, Tryd.underlying24, bT]
          exact List.mem_cons_self)
        omega
    · obtain ⟨i, hi⟩ := List.getElem?_of_mem hm
      rcases sc with ⟨e, _⟩ | ⟨el, sp, e, _, hq⟩
      · rw [e] at hm
        cases hm
      · obtain ⟨_, _, h2⟩ := hq i x hi
        exact h2

/-- the listed variables -/
def L2 : List (String × DataW Unit) := [("rota/word.forms", Rows.laid_rota_word_forms), ("rota/word.numbers", Rows.laid_rota_word_numbers)]
theorem glb_of {W : World} (h : laidMetH Tryd.prog L2 W) : Glb W := by
  unfold L2 at h
  rw [MakeChecks.laidMetH_plain _ _ _ (by kernel_rfl)] at h
  obtain ⟨ps, ⟨g3, t3, cs3, f3, p3, q3, hg3, ht3, hv3, hd3, ⟨g4, t4, cs4, f4, p4, q4, hg4, ht4, hv4, hd4, _, _⟩, _⟩, _, _⟩ := h
  exact ⟨nums_of hg4 ht4 hv4 hd4, forms_of hg3 ht3 hv3 hd3⟩

/-- as the library's wrap, the world's shape kept beside what is listed -/
theorem lift {H : Type} {enc : TypeId × Value → H} {C : Checked} {os : Os} {f : FuncId} {fn : Func} {s : ChangeSpec} {conds : List PathCond} {X : World → Array Value → Prop}
    (hX : ∀ (w w' : World) (args : Array Value), w.heap = w'.heap → X w args → X w' args)
    (own : ownKnob C.prog.godebug = none) (started : os.Started) (noInit : C.prog.inits.idxOf? f = none) (hfn : C.prog.funcs[f]? = some fn)
    (witness : ∃ (w : World) (tape : Tape) (i : Input), w.os = os ∧ (w.forCall tape i).Shaped C.prog ∧ i.vars = [] ∧ Input.okWide C.prog (w.forCall tape i) .any w.heap.size f i ∧
      ((s.pre enc C.prog fn conds false (w.forCall tape i).memory i.args ∧ X (w.forCall tape i).memory i.args) ∧ sizedMet enc C.prog fn (OpenSpec.ofChange s) false (w.forCall tape i).memory i.args) ∧ ({} : Assume).holds C.prog (lone (Frame.enter C.prog f i.args .normal) [] (w.forCall tape i)))
    (contract : ∀ (W : World) (base : Nat) (args : Array Value) (ds gs : List (DataW H)) (before : List MemPlace),
      (∀ (j : Nat) t v, fn.params[j]? = some t → args[j]? = some v → Value.okWide C.prog W .any base t v) →
      DataW.Whole enc C.prog fn.params.toList s.vars false W args.toList ds gs before →
      (DataW.weightsEach C.prog (fn.params.toList ++ s.plain.varTypes C.prog) (ds ++ gs)).all (· ≤ reachBytes) = true → X W args → W.ShapedOpen C.prog →
      Calls C.prog f args W fun e W' => ∃ v, e = .returned v ∧ s.post enc C.prog fn false true false false W args v W') :
    ReturnsInHanded {} C os f .any (fun w args => (s.pre enc C.prog fn conds false w args ∧ X w args) ∧ sizedMet enc C.prog fn (OpenSpec.ofChange s) false w args) (s.post enc C.prog fn false true false false) := by
  refine returnsInHanded_of_calls own started noInit witness ?_
  intro w tape i _ hsh _ hok hpre _
  obtain ⟨_, _, _, fn', hfn', _, _, _, _, hval⟩ := hok
  have e : fn' = fn := Option.some.inj (hfn'.symm.trans hfn)
  subst e
  obtain ⟨⟨⟨ds, gs, before, hw, _⟩, hx⟩, hz⟩ := hpre
  have hw' := DataW.Whole.of_heap (w' := w.forCall tape i) (by rfl) hw
  refine (contract (w.forCall tape i) w.heap.size i.args ds gs before hval hw' (hz.weights hw) (hX _ _ _ (by rfl) hx) hsh).mono fun e W' ⟨v, he, hp⟩ => ?_
  subst he
  exact ChangeSpec.post_blind hp
theorem door (os : Os) (args : Array Value) : laidMetH Tryd.prog L2 ((World.laidAll Tryd.prog os L2).forCall (fun _ _ => 0) ⟨#[], args, []⟩).memory := by
  rw [MakeChecks.laidMetH_plain _ _ _ (by kernel_rfl)]
  exact laidMet_laidAll _ (by kernel_rfl) (by kernel_rfl)
theorem shaped (os : Os) (args : Array Value) : ((World.laidAll Tryd.prog os L2).forCall (fun _ _ => 0) ⟨#[], args, []⟩).Shaped Tryd.prog := World.shaped_of_ZipB (by kernel_rfl) (by kernel_rfl)
end Go.Proofs.YtcdlhfodeckleaaDoor.Lt
