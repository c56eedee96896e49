/-
  The reader in memory: what was read so far. What give and inside answer and leave. Conditions: names are such as can be.
  What is left of a reader in memory where one of its lists grows, or its marks turn. No conditions.
  What the program's readFunc and readTable answer and leave. Conditions: words are no longer than a text may be and lie apart from the reader; as many lines as a text may have.
  What the program's readTable answers and leaves. Conditions: words are no longer than a text may be and lie apart from the reader; as many lines as a text may have.
  What the program's lookAhead leaves: of each line whether an instruction of the same function comes behind it. Condition: the list is the caller's own.
  What the program's cut answers: the lines of a text that count. Condition: the text is no longer than a text may be; the tables lie where they lie.
  What the program's readLabel answers and leaves. Conditions: words are no longer than a text may be and lie apart from the reader; as many lines as a text may have.
  What is left of a reader in memory where its last function grows by a word, or its last table by a case. No conditions.
-/
import Derived.Test.YtbehlhnnfdkmaaaGreatDoorLtMap
import Derived.Test.YtbehlhnnfdkmaaaGreatDoorLtFields
import Derived.Test.YtbehlhnnfdkmaaaGreatDoorLtKind
namespace Go.Proofs.YtbehlhnnfdkmaaaGreatDoor.Lt
open Go.RowKit Wd

theorem takeS_on {P : Program} {md : Region.Mode} {ops : Array Oper} {Q : Exit → Act → World → Prop} {S : World → Prop} {i : Nat} (k : Nat) {oi : Oper} {v : Value} {fuel : Nat} {listed : Array Bool} {a : Act} {w : World} (hi : ops[i]? = some oi) (hd : oi.dst = some k)
    (hs : Region.noSelect ops = true) (hf : Region.free md ops listed i = true) (hr : (Region.ready md ops listed).contains i = true)
    (hQ : ∀ c a w, Q (.panic c) (a.put (some k) v) w → Q (.panic c) a w) (hw : Region.wanted oi (yielded ops a.tmps) = true) (hy : ∀ w', S w' → (execOp a.eval oi).run P w' = .ok (.value v) w') (hS : S w)
    (h : wpAnyH P md ops Q S fuel (listed.setIfInBounds i true) (a.put (some k) v) w) : wpAnyH P md ops Q S (fuel + 1) listed a w :=
  wpAnyH_take hi hs hf hr (by rw [hd]; exact hQ) (Or.inl ⟨hw, hy⟩) hS (by rw [hd]; exact h)

/-- an instruction that was read: its line, its fields, the name that it waits for -/
structure Ask where
  ln : Nat
  i : Int × Int × Int × Int × Int
  nm : Nm
def eA (a : Ask) : List Value := [.int .i64 (a.ln : Nat), .int .i64 a.i.1, .int .i64 a.i.2.1, .int .i64 a.i.2.2.1, .int .i64 a.i.2.2.2.1, .int .i64 a.i.2.2.2.2, .int .i64 a.nm.1, .int .i64 a.nm.2.1, .string a.nm.2.2]
theorem eA_len (a : Ask) : (eA a).length = 9 := rfl
def eF (f : Nat × Nat) : List Value := [.int .i64 (f.1 : Nat), .int .i64 (f.2 : Nat)]
theorem eF_len (f : Nat × Nat) : (eF f).length = 2 := rfl
/-- a case -/
structure Cs where
  send : Bool
  ch : Int
  val : Int
  ok : Int
def eC (c : Cs) : List Value := [.bool c.send, .int .i64 c.ch, .int .i64 c.val, .int .i64 c.ok]
theorem eC_len (c : Cs) : (eC c).length = 4 := rfl
/-- a table in memory: its cases, their value, its default -/
structure Tb where
  cs : List Cs
  cv : Value
  df : Bool
def eT (t : Tb) : List Value := [t.cv, .bool t.df]
theorem eT_len (t : Tb) : (eT t).length = 2 := rfl
/-- what was read so far -/
structure Rs where
  ask : List Ask
  fn : List (Nat × Nat)
  tb : List (List Cs × Bool)
  nms : List (Nm × Int × Nat)
  inF : Bool
  inT : Bool
/-- two values have no block in common -/
def Dj (v u : Value) : Prop := ∀ q, Blk v q → ¬ Blk u q
theorem Dj.symm {v u : Value} (h : Dj v u) : Dj u v := fun q a b => h q b a
theorem Dj.nil (v : Value) : Dj v (.slice none 0 0) := fun q _ b => by cases b
theorem Dj.nil' (v : Value) : Dj (.slice none 0 0) v := fun q a _ => by cases a
/-- the reader in memory -/
structure Rd (base R M : Nat) (w : World) (va vf vt : Value) (ts : List Tb) (x : Rs) : Prop where
  blk : w.heap[R]? = some (.cells #[va, vf, vt, .map (some M), .bool x.inF, .bool x.inT] 51 (0, 0))
  a : Ow eA 9 102 base w va x.ask
  f : Ow eF 2 41 base w vf x.fn
  t : Ow eT 2 44 base w vt ts
  tsq : ts.map (fun t => (t.cs, t.df)) = x.tb
  cs : ∀ t ∈ ts, Ow eC 4 46 base w t.cv t.cs
  m : MAt w M x.nms x.nms.length
  mo : MOk x.nms x.nms.length
  dj : (va :: vf :: vt :: ts.map (·.cv)).Pairwise Dj
  ltR : R < base
  ltM : M < base
  ne : R ≠ M
  ltB : base ≤ w.heap.size
/-- what a reader's calls may turn -/
def SR (base R M : Nat) : Nat → Prop := fun q => q = R ∨ q = M ∨ base ≤ q
def Red (base R M : Nat) (w : World) (x : Rs) : Prop := ∃ va vf vt ts, Rd base R M w va vf vt ts x
section
variable {base R M : Nat} {w w' : World} {va vf vt : Value} {ts : List Tb} {x : Rs}
theorem Rd.red (h : Rd base R M w va vf vt ts x) : Red base R M w x := ⟨va, vf, vt, ts, h⟩
/-- where none of the reader's blocks turns -/
theorem Rd.ch {S : Nat → Prop} (h : Rd base R M w va vf vt ts x) (k : Ch S w w') (hs : ∀ q, q < w.heap.size → SR base R M q → ¬ S q) : Rd base R M w' va vf vt ts x :=
  { blk := (k.block R (lt_of_block h.blk) (hs R (lt_of_block h.blk) (.inl rfl))).trans h.blk
    a := h.a.ch k (fun g hg => hs g (h.a.blk hg).2 (.inr (.inr (h.a.blk hg).1)))
    f := h.f.ch k (fun g hg => hs g (h.f.blk hg).2 (.inr (.inr (h.f.blk hg).1)))
    t := h.t.ch k (fun g hg => hs g (h.t.blk hg).2 (.inr (.inr (h.t.blk hg).1)))
    tsq := h.tsq
    cs := fun t ht => (h.cs t ht).ch k (fun g hg => hs g ((h.cs t ht).blk hg).2 (.inr (.inr ((h.cs t ht).blk hg).1)))
    m := (k.block M (lt_of_block h.m) (hs M (lt_of_block h.m) (.inr (.inl rfl)))).trans h.m
    mo := h.mo, dj := h.dj, ltR := h.ltR, ltM := h.ltM, ne := h.ne, ltB := Nat.le_trans h.ltB k.size }
theorem Rd.gr (h : Rd base R M w va vf vt ts x) (k : Gr w w') : Rd base R M w' va vf vt ts x := h.ch k (fun _ _ _ => noB _)
/-- the map alone turns -/
theorem Rd.put (h : Rd base R M w va vf vt ts x) {k : Nm} (hk : Nok k) (hn : look x.nms k = none) (v : Int) : Rd base R M (putM w M (x.nms ++ [(k, v, x.nms.length)]) (x.nms.length + 1)) va vf vt ts { x with nms := x.nms ++ [(k, v, x.nms.length)] } := by
  have P := putM_ch w M (x.nms ++ [(k, v, x.nms.length)]) (x.nms.length + 1)
  have hm := h.ltM
  have far : ∀ {α : Type} {enc : α → List Value} {K e : Nat} {u : Value} {xs : List α}, Ow enc K e base w u xs → Ow enc K e base (putM w M (x.nms ++ [(k, v, x.nms.length)]) (x.nms.length + 1)) u xs := fun ho => ho.ch P (fun g hg e => by
    have := (ho.blk hg).1
    have e1 : g = M := e
    omega)
  exact
    { blk := (P.block R (lt_of_block h.blk) (fun e => h.ne e)).trans h.blk
      a := far h.a, f := far h.f, t := far h.t, tsq := h.tsq, cs := fun t ht => far (h.cs t ht)
      m := by rw [List.length_append]; exact putM_at (lt_of_block h.m) _ _
      mo := by rw [List.length_append]; exact h.mo.snoc hk hn v
      dj := h.dj, ltR := h.ltR, ltM := h.ltM, ne := h.ne, ltB := Nat.le_trans h.ltB P.size }
end

/-- what give leaves -/
def giveE (x : Rs) (k : Nm) : Int := if (look x.nms k).isSome = true then 72 else 0
def giveS (x : Rs) (k : Nm) (v : Int) : Rs := if (look x.nms k).isSome = true then x else { x with nms := x.nms ++ [(k, v, x.nms.length)] }
def Gvn (base R M : Nat) (w : World) (va vf vt : Value) (ts : List Tb) (x : Rs) (k : Nm) (v : Int) (e : Ending) (w' : World) : Prop := e = .returned (.int .i64 (giveE x k)) ∧ Rd base R M w' va vf vt ts (giveS x k v) ∧ Ch (SR base R M) w w' ∧ (giveE x k ≠ 0 → Gr w w')
set_option maxHeartbeats 1000000 in
theorem give_any (base R M : Nat) (w : World) (va vf vt : Value) (ts : List Tb) (x : Rs) (k : Nm) (v : Int) (hk : Nok k) (h : Rd base R M w va vf vt ts x) :
    Calls Tryz.prog 94 #[.pointer (some ⟨R, 0, none⟩), kV k, .int .i64 v] w (Gvn base R M w va vf vt ts x k v) := by
  have HR := hid h
  have hA := Gr.alloc (Gr.refl w) #[.int .i64 k.1, .int .i64 k.2.1, .string k.2.2] 100
  have h1 := h.gr hA
  have HR1 := hid h1
  have HLK := hid (lookup_any h1.m h1.mo hk)
  have hbx := (MapKept.heap_alloc w (.cells #[.int .i64 k.1, .int .i64 k.2.1, .string k.2.2] 100)).1
  obtain ⟨W, hW⟩ : ∃ W, W = w.alloc (.cells #[.int .i64 k.1, .int .i64 k.2.1, .string k.2.2] 100) := ⟨_, rfl⟩
  rw [← hW] at HR1 HLK hA h1 hbx
  have HA := hid hA
  have n3 : W.cell? ⟨R, 3, none⟩ = some (.map (some M)) := (cell_of h1.blk 3).trans rfl
  have b0 : W.cell? ⟨w.heap.size, 0, none⟩ = some (.int .i64 k.1) := (cell_of hbx 0).trans rfl
  have b1 : W.cell? ⟨w.heap.size, 1, none⟩ = some (.int .i64 k.2.1) := (cell_of hbx 1).trans rfl
  have b2 : W.cell? ⟨w.heap.size, 2, none⟩ = some (.string k.2.2) := (cell_of hbx 2).trans rfl
  have HWW := hid hW
  clear h hA h1 hbx hW
  obtain ⟨L, hL⟩ : ∃ L, L = (look x.nms k).getD 0 := ⟨_, rfl⟩
  obtain ⟨B, hB⟩ : ∃ B, B = (look x.nms k).isSome := ⟨_, rfl⟩
  rw [← hL, ← hB] at HLK
  have HB := hid hB
  have hS0 : (fun w' => w'.cell? ⟨R, 3, none⟩ = some (.map (some M)) ∧ w'.cell? ⟨w.heap.size, 0, none⟩ = some (.int .i64 k.1) ∧ w'.cell? ⟨w.heap.size, 1, none⟩ = some (.int .i64 k.2.1) ∧ w'.cell? ⟨w.heap.size, 2, none⟩ = some (.string k.2.2) ∧ (Instr.lookup 48 (.map (some M)) (.agg #[.int .i64 k.1, .int .i64 k.2.1, .string k.2.2]) true).run Tryz.prog w' = .ok (.tuple #[.int .i64 L, .bool B]) w') W.drew := by
    refine ⟨n3, b0, b1, b2, ?_⟩
    have := lookup_any (w := W.drew) HR1.out.m HR1.out.mo hk
    rw [← hL, ← hB] at this
    exact this
  unfold kV
  clear hL hB
  go_enter Tryz.func94, Tryz.ntmps94
  go_wp2_with fail
  rw [← HWW.out]
  refine wp_region_held_drew (S := fun w' => w'.cell? ⟨R, 3, none⟩ = some (.map (some M)) ∧ w'.cell? ⟨w.heap.size, 0, none⟩ = some (.int .i64 k.1) ∧ w'.cell? ⟨w.heap.size, 1, none⟩ = some (.int .i64 k.2.1) ∧ w'.cell? ⟨w.heap.size, 2, none⟩ = some (.string k.2.2) ∧ (Instr.lookup 48 (.map (some M)) (.agg #[.int .i64 k.1, .int .i64 k.2.1, .string k.2.2]) true).run Tryz.prog w' = .ok (.tuple #[.int .i64 L, .bool B]) w') (by kernel_rfl) (by exact hS0) (fun hSx => ?_)
  clear hSx
  refine takeS_on (i := 0) 10 (v := ?v1) rfl rfl (by kernel_rfl) (by kernel_rfl) (by kernel_rfl) (fun _ _ _ h => h) (by kernel_rfl) ?hy1 (by exact hS0) ?_
  case hy1 => (intro w' hSw; go_simp; try (with_reducible rfl))
  simp only [Act.put, List.setIfInBounds_toArray, List.set_cons_zero, List.set_cons_succ]
  refine takeS_on (i := 1) 11 (v := ?v2) rfl rfl (by kernel_rfl) (by kernel_rfl) (by kernel_rfl) (fun _ _ _ h => h) (by kernel_rfl) ?hy2 (by exact hS0) ?_
  case hy2 => (intro w' hSw; go_simp; try (with_reducible rfl))
  simp only [Act.put, List.setIfInBounds_toArray, List.set_cons_zero, List.set_cons_succ]
  refine takeS_on (i := 2) 12 (v := ?v3) rfl rfl (by kernel_rfl) (by kernel_rfl) (by kernel_rfl) (fun _ _ _ h => h) (by kernel_rfl) ?hy3 (by exact hS0) ?_
  case hy3 => (intro w' hSw; go_simp; try (with_reducible rfl))
  simp only [Act.put, List.setIfInBounds_toArray, List.set_cons_zero, List.set_cons_succ]
  refine takeS_on (i := 3) 13 (v := ?v4) rfl rfl (by kernel_rfl) (by kernel_rfl) (by kernel_rfl) (fun _ _ _ h => h) (by kernel_rfl) ?hy4 (by exact hS0) ?_
  case hy4 => (intro w' hSw; go_simp; try (with_reducible rfl))
  simp only [Act.put, List.setIfInBounds_toArray, List.set_cons_zero, List.set_cons_succ]
  refine takeS_on (i := 4) 14 (v := ?v5) rfl rfl (by kernel_rfl) (by kernel_rfl) (by kernel_rfl) (fun _ _ _ h => h) (by kernel_rfl) ?hy5 (by exact hS0) ?_
  case hy5 => (intro w' hSw; go_simp; try (with_reducible rfl))
  simp only [Act.put, List.setIfInBounds_toArray, List.set_cons_zero, List.set_cons_succ]
  refine takeS_on (i := 5) 15 (v := ?v6) rfl rfl (by kernel_rfl) (by kernel_rfl) (by kernel_rfl) (fun _ _ _ h => h) (by kernel_rfl) ?hy6 (by exact hS0) ?_
  case hy6 => (intro w' hSw; go_simp; try (with_reducible rfl))
  simp only [Act.put, List.setIfInBounds_toArray, List.set_cons_zero, List.set_cons_succ]
  refine takeS_on (i := 6) 9 (v := ?v7) rfl rfl (by kernel_rfl) (by kernel_rfl) (by kernel_rfl) (fun _ _ _ h => h) (by kernel_rfl) ?hy7 (by exact hS0) ?_
  case hy7 => (intro w' hSw; go_simp; try (with_reducible rfl))
  simp only [Act.put, List.setIfInBounds_toArray, List.set_cons_zero, List.set_cons_succ]
  refine takeS_on (i := 7) 16 (v := ?v8) rfl rfl (by kernel_rfl) (by kernel_rfl) (by kernel_rfl) (fun _ _ _ h => h) (by kernel_rfl) ?hy8 (by exact hS0) ?_
  case hy8 => (intro w' hSw; go_simp; try (with_reducible rfl))
  simp only [Act.put, List.setIfInBounds_toArray, List.set_cons_zero, List.set_cons_succ]
  refine takeS_on (i := 8) 17 (v := ?v9) rfl rfl (by kernel_rfl) (by kernel_rfl) (by kernel_rfl) (fun _ _ _ h => h) (by kernel_rfl) ?hy9 (by exact hS0) ?_
  case hy9 => (intro w' hSw; go_simp; try (with_reducible rfl))
  simp only [Act.put, List.setIfInBounds_toArray, List.set_cons_zero, List.set_cons_succ]
  refine takeS_on (i := 9) 7 (v := ?v10) rfl rfl (by kernel_rfl) (by kernel_rfl) (by kernel_rfl) (fun _ _ _ h => h) (by kernel_rfl) ?hy10 (by exact hS0) ?_
  case hy10 => (intro w' hSw; go_simp; try (with_reducible rfl))
  simp only [Act.put, List.setIfInBounds_toArray, List.set_cons_zero, List.set_cons_succ]
  refine takeS_on (i := 10) 8 (v := ?v11) rfl rfl (by kernel_rfl) (by kernel_rfl) (by kernel_rfl) (fun _ _ _ h => h) (by kernel_rfl) ?hy11 (by exact hS0) ?_
  case hy11 => (intro w' hSw; go_simp; try (with_reducible rfl))
  simp only [Act.put, List.setIfInBounds_toArray, List.set_cons_zero, List.set_cons_succ]
  refine wpAnyH_done (by kernel_rfl) ?_ _
  cases B with
  | true =>
    go_wp2
    go_ret
    exact ⟨by unfold giveE; rw [← HB.out]; rfl, by unfold giveS; rw [← HB.out]; exact HR1.out.gr ((Gr.refl W).drew), HA.out.any.drew, fun _ => Ch.drew HA.out⟩
  | false =>
    have hn : look x.nms k = none := by
      have := HB.out
      cases hx : look x.nms k with
      | none => rfl
      | some y => rw [hx] at this; cases this
    have HN := hid hn
    clear hn
    have hS4 : (fun w' => w'.cell? ⟨R, 3, none⟩ = some (.map (some M)) ∧ w'.cell? ⟨w.heap.size, 0, none⟩ = some (.int .i64 k.1) ∧ w'.cell? ⟨w.heap.size, 1, none⟩ = some (.int .i64 k.2.1) ∧ w'.cell? ⟨w.heap.size, 2, none⟩ = some (.string k.2.2)) W.drew.drew := ⟨n3, b0, b1, b2⟩
    have UPD := hid (update_new (w := W.drew.drew) HR1.out.m HR1.out.mo.ok hk HN.out v)
    have hS5 : (fun w' => w'.cell? ⟨R, 3, none⟩ = some (.map (some M)) ∧ w'.cell? ⟨w.heap.size, 0, none⟩ = some (.int .i64 k.1) ∧ w'.cell? ⟨w.heap.size, 1, none⟩ = some (.int .i64 k.2.1) ∧ w'.cell? ⟨w.heap.size, 2, none⟩ = some (.string k.2.2)) (putM W.drew.drew M (x.nms ++ [(k, v, x.nms.length)]) (x.nms.length + 1)) := by
      have P := putM_ch W.drew.drew M (x.nms ++ [(k, v, x.nms.length)]) (x.nms.length + 1)
      have lR := lt_of_block HR1.out.blk
      have lM := HR.out.ltM
      have lB := HR.out.ltB
      have lW : w.heap.size < W.heap.size := by rw [HWW.out]; simp
      have nB : ¬ Only M w.heap.size := fun e => by have e1 : w.heap.size = M := e; omega
      exact ⟨(P.cell lR (fun e => HR.out.ne e)).trans n3, (P.cell lW nB).trans b0, (P.cell lW nB).trans b1, (P.cell lW nB).trans b2⟩
    have UP2 := UPD.out
    unfold kV at UP2
    go_wp2_with fail
    refine wp_region_held_drew (S := fun w' => w'.cell? ⟨R, 3, none⟩ = some (.map (some M)) ∧ w'.cell? ⟨w.heap.size, 0, none⟩ = some (.int .i64 k.1) ∧ w'.cell? ⟨w.heap.size, 1, none⟩ = some (.int .i64 k.2.1) ∧ w'.cell? ⟨w.heap.size, 2, none⟩ = some (.string k.2.2)) (by kernel_rfl) (by exact hS4) (fun hSx => ?_)
    clear hSx
    refine takeS_on (i := 0) 19 (v := ?v12) rfl rfl (by kernel_rfl) (by kernel_rfl) (by kernel_rfl) (fun _ _ _ h => h) (by kernel_rfl) ?hy12 (by exact hS4) ?_
    case hy12 => (intro w' hSw; go_simp; try (with_reducible rfl))
    simp only [Act.put, List.setIfInBounds_toArray, List.set_cons_zero, List.set_cons_succ]
    refine takeS_on (i := 1) 20 (v := ?v13) rfl rfl (by kernel_rfl) (by kernel_rfl) (by kernel_rfl) (fun _ _ _ h => h) (by kernel_rfl) ?hy13 (by exact hS4) ?_
    case hy13 => (intro w' hSw; go_simp; try (with_reducible rfl))
    simp only [Act.put, List.setIfInBounds_toArray, List.set_cons_zero, List.set_cons_succ]
    refine takeS_on (i := 2) 21 (v := ?v14) rfl rfl (by kernel_rfl) (by kernel_rfl) (by kernel_rfl) (fun _ _ _ h => h) (by kernel_rfl) ?hy14 (by exact hS4) ?_
    case hy14 => (intro w' hSw; go_simp; try (with_reducible rfl))
    simp only [Act.put, List.setIfInBounds_toArray, List.set_cons_zero, List.set_cons_succ]
    refine takeS_on (i := 3) 22 (v := ?v15) rfl rfl (by kernel_rfl) (by kernel_rfl) (by kernel_rfl) (fun _ _ _ h => h) (by kernel_rfl) ?hy15 (by exact hS4) ?_
    case hy15 => (intro w' hSw; go_simp; try (with_reducible rfl))
    simp only [Act.put, List.setIfInBounds_toArray, List.set_cons_zero, List.set_cons_succ]
    refine takeS_on (i := 4) 23 (v := ?v16) rfl rfl (by kernel_rfl) (by kernel_rfl) (by kernel_rfl) (fun _ _ _ h => h) (by kernel_rfl) ?hy16 (by exact hS4) ?_
    case hy16 => (intro w' hSw; go_simp; try (with_reducible rfl))
    simp only [Act.put, List.setIfInBounds_toArray, List.set_cons_zero, List.set_cons_succ]
    refine takeS_on (i := 5) 24 (v := ?v17) rfl rfl (by kernel_rfl) (by kernel_rfl) (by kernel_rfl) (fun _ _ _ h => h) (by kernel_rfl) ?hy17 (by exact hS4) ?_
    case hy17 => (intro w' hSw; go_simp; try (with_reducible rfl))
    simp only [Act.put, List.setIfInBounds_toArray, List.set_cons_zero, List.set_cons_succ]
    refine wpAnyH_ready (rs := [6]) (by kernel_rfl) (by simp) (AllReadyH.cons rfl (fun K hK => ?_) AllReadyH.nil)
    go_simp
    refine hK.out _ _ (by exact hS5) (fun hSx => ?_)
    clear hSx hK K
    refine wpAnyH_done (by kernel_rfl) ?_ _
    clear hS0 hS4 hS5 UP2
    have F1 := (HR1.out.gr (Ch.drew (Ch.drew (Gr.refl W)))).put hk HN.out v
    have F2 := Ch.trans (T := Only M) (HA.out.any.drew.drew) (putM_ch W.drew.drew M (x.nms ++ [(k, v, x.nms.length)]) (x.nms.length + 1)) (S := SR base R M) (fun q e => .inl (.inr (.inl e)))
    generalize putM W.drew.drew M (x.nms ++ [(k, v, x.nms.length)]) (x.nms.length + 1) = W2 at F1 F2 ⊢
    have H1 := hid F1
    have H2 := hid F2
    clear F1 F2 n3 b0 b1 b2 hk
    clear HLK HB UPD HWW HA HR1 HR
    go_wp2
    go_ret
    have e0 : giveE x k = 0 := by unfold giveE; rw [HN.out]; rfl
    exact ⟨by rw [e0]; rfl, by unfold giveS; rw [HN.out]; exact H1.out, H2.out, fun h => (h e0).elim⟩

/-- a name as it is meant within the function that is being read -/
def insN (x : Rs) (k : Int) (s : ByteArray) : Nm := (k, if k = 1 then (x.fn.length : Int) - 1 else 0, s)
theorem inside_any (base R M : Nat) (w : World) (va vf vt : Value) (ts : List Tb) (x : Rs) (k : Int) (s : ByteArray) (hb : x.fn.length ≤ 4294967296) (h : Rd base R M w va vf vt ts x) :
    Calls Tryz.prog 95 #[.pointer (some ⟨R, 0, none⟩), .int .i64 k, .string s] w fun e w' => e = .returned (kV (insN x k s)) ∧ Gr w w' := by
  obtain ⟨ao, cap, rfl⟩ := h.f.form
  have c1 : w.cell? ⟨R, 1, none⟩ = some (.slice ao x.fn.length cap) := (cell_of h.blk 1).trans rfl
  have lR := lt_of_block h.blk
  have l1 : R < w.heap.size + 1 := by omega
  clear h
  unfold kV insN
  generalize x.fn.length = n at hb c1 ⊢
  by_cases hk : k = 1
  · subst hk
    go_enter Tryz.func95, Tryz.ntmps95
    go_wp2
    refine bodyPost_ret (v := .agg #[.int .i64 1, .int .i64 ((n : Int) - 1), .string s]) (by simp [results, Tryz.results95, go_sem]) rfl ?_
    exact ⟨rfl, ((Gr.refl _).alloc _ _).alloc _ _⟩
  · rw [if_neg hk]
    go_enter Tryz.func95, Tryz.ntmps95
    go_wp2
    refine bodyPost_ret (v := .agg #[.int .i64 k, .int .i64 0, .string s]) (by simp [results, Tryz.results95, go_sem]) rfl ?_
    exact ⟨rfl, ((Gr.refl _).alloc _ _).alloc _ _⟩
end Go.Proofs.YtbehlhnnfdkmaaaGreatDoor.Lt

namespace Go.Proofs.YtbehlhnnfdkmaaaGreatDoor.Lt
open Go.RowKit Wd

/-- six cells of a block, which may be written -/
structure Six (w : World) (x : Nat) (a b c d e f : Value) : Prop where
  c0 : w.cell? ⟨x, 0, none⟩ = some a
  c1 : w.cell? ⟨x, 1, none⟩ = some b
  c2 : w.cell? ⟨x, 2, none⟩ = some c
  c3 : w.cell? ⟨x, 3, none⟩ = some d
  c4 : w.cell? ⟨x, 4, none⟩ = some e
  c5 : w.cell? ⟨x, 5, none⟩ = some f
  fz : ∀ i, w.frozen? ⟨x, i, none⟩ = false
  lt : x < w.heap.size
theorem Six.of {w : World} {x : Nat} {T : TypeId} {a b c d e f : Value} (h : w.heap[x]? = some (.cells #[a, b, c, d, e, f] T (0, 0))) : Six w x a b c d e f :=
  ⟨(cell_of h 0).trans rfl, (cell_of h 1).trans rfl, (cell_of h 2).trans rfl, (cell_of h 3).trans rfl, (cell_of h 4).trans rfl, (cell_of h 5).trans rfl, frozen_of h, lt_of_block h⟩

theorem Dj.new {v v' u : Value} {n : Nat} (hb : ∀ q, Blk v' q → Blk v q ∨ n ≤ q) (hu : ∀ q, Blk u q → q < n) (d : Dj v u) : Dj v' u := fun q a b => (hb q a).elim (fun e => d q e b) (fun e => by have := hu q b; omega)

section
variable {base R M : Nat} {w w1 w2 : World} {va vf vt : Value} {ts : List Tb} {x : Rs}
/-- an owned list where another one's block turns, and the reader's own -/
theorem Ow.past {α : Type} {enc : α → List Value} {K e : Nat} {u v : Value} {xs : List α} {o : Nat} {z : Value} (ho : Ow enc K e base w u xs) (hR : R < base) (k1 : Gr w w1) (k : Ch (Blk v) w1 w2) (d : Dj u v) : Ow enc K e base (w2.setCell ⟨R, o, none⟩ z) u xs :=
  ((ho.gr k1).ch k (fun g hg hv => d g hg hv)).ch (S := Only R) ((Ch.refl _ _).own _ _) (fun g hg e => by
    have := (ho.blk hg).1
    have e1 : g = R := e
    omega)
theorem Rd.parts (h : Rd base R M w va vf vt ts x) : (Dj va vf ∧ Dj va vt ∧ Dj vf vt) ∧ (∀ t ∈ ts, Dj va t.cv ∧ Dj vf t.cv ∧ Dj vt t.cv) ∧ (ts.map (·.cv)).Pairwise Dj := by
  have d := h.dj
  simp only [List.pairwise_cons, List.mem_cons, List.mem_map] at d
  obtain ⟨d1, d2, d3, d4⟩ := d
  refine ⟨⟨d1 _ (.inl rfl), d1 _ (.inr (.inl rfl)), d2 _ (.inl rfl)⟩, fun t ht => ⟨d1 _ (.inr (.inr ⟨t, ht, rfl⟩)), d2 _ (.inr ⟨t, ht, rfl⟩), d3 _ ⟨t, ht, rfl⟩⟩, d4⟩
theorem dj_of {va vf vt : Value} {ts : List Tb} (a : Dj va vf ∧ Dj va vt ∧ Dj vf vt) (b : ∀ t ∈ ts, Dj va t.cv ∧ Dj vf t.cv ∧ Dj vt t.cv) (c : (ts.map (·.cv)).Pairwise Dj) : (va :: vf :: vt :: ts.map (·.cv)).Pairwise Dj := by
  simp only [List.pairwise_cons, List.mem_cons, List.mem_map]
  refine ⟨?_, ?_, ?_, c⟩
  · rintro u (rfl | rfl | ⟨t, ht, rfl⟩)
    · exact a.1
    · exact a.2.1
    · exact (b t ht).1
  · rintro u (rfl | ⟨t, ht, rfl⟩)
    · exact a.2.2
    · exact (b t ht).2.1
  · rintro u ⟨t, ht, rfl⟩
    exact (b t ht).2.2
theorem Rd.newF (h : Rd base R M w va vf vt ts x) {vf' : Value} {fs : List (Nat × Nat)} (k1 : Gr w w1) (ho : Ow eF 2 41 base w2 vf' fs) (k : Ch (Blk vf) w1 w2) (hb : ∀ q, Blk vf' q → Blk vf q ∨ w1.heap.size ≤ q) :
    Rd base R M (w2.setCell ⟨R, 1, none⟩ vf') va vf' vt ts { x with fn := fs } := by
  obtain ⟨⟨d1, d2, d3⟩, d4, d5⟩ := h.parts
  have lo : ∀ {α : Type} {enc : α → List Value} {K e : Nat} {u : Value} {xs : List α}, Ow enc K e base w u xs → ∀ q, Blk u q → q < w1.heap.size := fun o q hq => by
    have := (o.blk hq).2
    have := k1.size
    omega
  have nR : ¬ Blk vf R := fun e => by have := (h.f.blk e).1; have := h.ltR; omega
  have nM : ¬ Blk vf M := fun e => by have := (h.f.blk e).1; have := h.ltM; omega
  have C := (Ch.refl (Only R) w2).own 1 vf'
  have bR : w2.heap[R]? = some (.cells #[va, vf, vt, .map (some M), .bool x.inF, .bool x.inT] 51 (0, 0)) := (k.block R (Nat.lt_of_lt_of_le (lt_of_block h.blk) k1.size) nR).trans (gr_blk h.blk k1)
  exact
    { blk := by simpa using setCell_block bR 1 vf'
      a := h.a.past h.ltR k1 k d1
      f := ho.ch C (fun g hg e => by have := (ho.blk hg).1; have e1 : g = R := e; have := h.ltR; omega)
      t := h.t.past h.ltR k1 k d3.symm
      tsq := h.tsq
      cs := fun t ht => (h.cs t ht).past h.ltR k1 k (d4 t ht).2.1.symm
      m := (C.block M (Nat.lt_of_lt_of_le (lt_of_block h.m) (Nat.le_trans k1.size k.size)) (fun e => h.ne e.symm)).trans ((k.block M (Nat.lt_of_lt_of_le (lt_of_block h.m) k1.size) nM).trans (gr_blk h.m k1))
      mo := h.mo
      dj := dj_of ⟨(Dj.new hb (lo h.a) d1.symm).symm, d2, Dj.new hb (lo h.t) d3⟩ (fun t ht => ⟨(d4 t ht).1, Dj.new hb (lo (h.cs t ht)) (d4 t ht).2.1, (d4 t ht).2.2⟩) d5
      ltR := h.ltR, ltM := h.ltM, ne := h.ne, ltB := Nat.le_trans h.ltB (Nat.le_trans k1.size (Nat.le_trans k.size C.size)) }
theorem Rd.newA (h : Rd base R M w va vf vt ts x) {va' : Value} {xs : List Ask} (k1 : Gr w w1) (ho : Ow eA 9 102 base w2 va' xs) (k : Ch (Blk va) w1 w2) (hb : ∀ q, Blk va' q → Blk va q ∨ w1.heap.size ≤ q) :
    Rd base R M (w2.setCell ⟨R, 0, none⟩ va') va' vf vt ts { x with ask := xs } := by
  obtain ⟨⟨d1, d2, d3⟩, d4, d5⟩ := h.parts
  have lo : ∀ {α : Type} {enc : α → List Value} {K e : Nat} {u : Value} {xs : List α}, Ow enc K e base w u xs → ∀ q, Blk u q → q < w1.heap.size := fun o q hq => by
    have := (o.blk hq).2
    have := k1.size
    omega
  have nR : ¬ Blk va R := fun e => by have := (h.a.blk e).1; have := h.ltR; omega
  have nM : ¬ Blk va M := fun e => by have := (h.a.blk e).1; have := h.ltM; omega
  have C := (Ch.refl (Only R) w2).own 0 va'
  have bR : w2.heap[R]? = some (.cells #[va, vf, vt, .map (some M), .bool x.inF, .bool x.inT] 51 (0, 0)) := (k.block R (Nat.lt_of_lt_of_le (lt_of_block h.blk) k1.size) nR).trans (gr_blk h.blk k1)
  exact
    { blk := by simpa using setCell_block bR 0 va'
      a := ho.ch C (fun g hg e => by have := (ho.blk hg).1; have e1 : g = R := e; have := h.ltR; omega)
      f := h.f.past h.ltR k1 k d1.symm
      t := h.t.past h.ltR k1 k d2.symm
      tsq := h.tsq
      cs := fun t ht => (h.cs t ht).past h.ltR k1 k (d4 t ht).1.symm
      m := (C.block M (Nat.lt_of_lt_of_le (lt_of_block h.m) (Nat.le_trans k1.size k.size)) (fun e => h.ne e.symm)).trans ((k.block M (Nat.lt_of_lt_of_le (lt_of_block h.m) k1.size) nM).trans (gr_blk h.m k1))
      mo := h.mo
      dj := dj_of ⟨Dj.new hb (lo h.f) d1, Dj.new hb (lo h.t) d2, d3⟩ (fun t ht => ⟨Dj.new hb (lo (h.cs t ht)) (d4 t ht).1, (d4 t ht).2.1, (d4 t ht).2.2⟩) d5
      ltR := h.ltR, ltM := h.ltM, ne := h.ne, ltB := Nat.le_trans h.ltB (Nat.le_trans k1.size (Nat.le_trans k.size C.size)) }
theorem Rd.newT (h : Rd base R M w va vf vt ts x) {vt' : Value} {df : Bool} (k1 : Gr w w1) (ho : Ow eT 2 44 base w2 vt' (ts ++ [⟨[], .slice none 0 0, df⟩])) (k : Ch (Blk vt) w1 w2) (hb : ∀ q, Blk vt' q → Blk vt q ∨ w1.heap.size ≤ q) :
    Rd base R M (w2.setCell ⟨R, 2, none⟩ vt') va vf vt' (ts ++ [⟨[], .slice none 0 0, df⟩]) { x with tb := x.tb ++ [([], df)] } := by
  obtain ⟨⟨d1, d2, d3⟩, d4, d5⟩ := h.parts
  have lo : ∀ {α : Type} {enc : α → List Value} {K e : Nat} {u : Value} {xs : List α}, Ow enc K e base w u xs → ∀ q, Blk u q → q < w1.heap.size := fun o q hq => by
    have := (o.blk hq).2
    have := k1.size
    omega
  have nR : ¬ Blk vt R := fun e => by have := (h.t.blk e).1; have := h.ltR; omega
  have nM : ¬ Blk vt M := fun e => by have := (h.t.blk e).1; have := h.ltM; omega
  have C := (Ch.refl (Only R) w2).own 2 vt'
  have bR : w2.heap[R]? = some (.cells #[va, vf, vt, .map (some M), .bool x.inF, .bool x.inT] 51 (0, 0)) := (k.block R (Nat.lt_of_lt_of_le (lt_of_block h.blk) k1.size) nR).trans (gr_blk h.blk k1)
  exact
    { blk := by simpa using setCell_block bR 2 vt'
      a := h.a.past h.ltR k1 k d2
      f := h.f.past h.ltR k1 k d3
      t := ho.ch C (fun g hg e => by have := (ho.blk hg).1; have e1 : g = R := e; have := h.ltR; omega)
      tsq := by rw [List.map_append, h.tsq]; rfl
      cs := fun t ht => by
        rcases List.mem_append.1 ht with ht | ht
        · exact (h.cs t ht).past h.ltR k1 k (d4 t ht).2.2.symm
        · have e : t = ⟨[], .slice none 0 0, df⟩ := by simpa using ht
          rw [e]
          exact Ow.nil _ _ _ _ _
      m := (C.block M (Nat.lt_of_lt_of_le (lt_of_block h.m) (Nat.le_trans k1.size k.size)) (fun e => h.ne e.symm)).trans ((k.block M (Nat.lt_of_lt_of_le (lt_of_block h.m) k1.size) nM).trans (gr_blk h.m k1))
      mo := h.mo
      dj := dj_of ⟨d1, (Dj.new hb (lo h.a) d2.symm).symm, (Dj.new hb (lo h.f) d3.symm).symm⟩ (fun t ht => by
          rcases List.mem_append.1 ht with ht | ht
          · exact ⟨(d4 t ht).1, (d4 t ht).2.1, Dj.new hb (lo (h.cs t ht)) (d4 t ht).2.2⟩
          · have e : t = ⟨[], .slice none 0 0, df⟩ := by simpa using ht
            rw [e]
            exact ⟨Dj.nil _, Dj.nil _, Dj.nil _⟩) (by
          rw [List.map_append, List.pairwise_append]
          refine ⟨d5, by simp, fun a _ b hb => ?_⟩
          have e : b = .slice none 0 0 := by simpa using hb
          rw [e]
          exact Dj.nil _)
      ltR := h.ltR, ltM := h.ltM, ne := h.ne, ltB := Nat.le_trans h.ltB (Nat.le_trans k1.size (Nat.le_trans k.size C.size)) }
theorem Rd.flags (h : Rd base R M w va vf vt ts x) (a b : Bool) : Rd base R M ((w.setCell ⟨R, 4, none⟩ (.bool a)).setCell ⟨R, 5, none⟩ (.bool b)) va vf vt ts { x with inF := a, inT := b } := by
  have C := ((Ch.refl (Only R) w).own 4 (.bool a)).own 5 (.bool b)
  have far : ∀ {α : Type} {enc : α → List Value} {K e : Nat} {u : Value} {xs : List α}, Ow enc K e base w u xs → Ow enc K e base ((w.setCell ⟨R, 4, none⟩ (.bool a)).setCell ⟨R, 5, none⟩ (.bool b)) u xs := fun ho => ho.ch C (fun g hg e => by
    have := (ho.blk hg).1
    have e1 : g = R := e
    have := h.ltR
    omega)
  exact
    { blk := by simpa using setCell_block (setCell_block h.blk 4 (.bool a)) 5 (.bool b)
      a := far h.a, f := far h.f, t := far h.t, tsq := h.tsq, cs := fun t ht => far (h.cs t ht)
      m := (C.block M (lt_of_block h.m) (fun e => h.ne e.symm)).trans h.m
      mo := h.mo, dj := h.dj, ltR := h.ltR, ltM := h.ltM, ne := h.ne, ltB := Nat.le_trans h.ltB C.size }
end
end Go.Proofs.YtbehlhnnfdkmaaaGreatDoor.Lt

namespace Go.Proofs.YtbehlhnnfdkmaaaGreatDoor.Lt
open Go.RowKit Wd

/-- what one of the reader's calls answers and leaves -/
def Dn (base R M : Nat) (w : World) (E : Int) (X : Rs) (e : Ending) (w' : World) : Prop := e = .returned (.int .i64 E) ∧ (E = 0 → Red base R M w' X) ∧ Ch (SR base R M) w w' ∧ (E ≠ 0 → Gr w w')
theorem Dn.bad {base R M : Nat} {w w' : World} {E : Int} {X : Rs} (h : E ≠ 0) (g : Gr w w') : Dn base R M w E X (.returned (.int .i64 E)) w' := ⟨rfl, fun e => (h e).elim, Ch.any g, fun _ => g⟩
/-- as many as there may be -/
structure Few (x : Rs) : Prop where
  a : x.ask.length ≤ 4294967296
  f : x.fn.length ≤ 4294967296
  t : x.tb.length ≤ 4294967296
theorem func_info : (Tryz.prog.info? 41).map (fun i => (i.zero, i.size, i.bytes)) = some (some (.agg #[.int .i64 0, .int .i64 0]), 2, 16) := by kernel_rfl
theorem table_info : (Tryz.prog.info? 44).map (fun i => (i.zero, i.size, i.bytes)) = some (some (.agg #[.slice none 0 0, .bool false]), 2, 32) := by kernel_rfl
theorem hd_len {ws : List ByteArray} (h : ws.length = 1) : ∃ s, ws = [s] := by
  match ws, h with
  | [s], _ => exact ⟨s, rfl⟩

def rfN (ws : List ByteArray) : Nm := (2, 0, ws.headD ⟨#[]⟩)
def rfE (x : Rs) (ws : List ByteArray) : Int := if decide (ws.length = 1) && nameOk (ws.headD ⟨#[]⟩) then giveE x (rfN ws) else 70
def rfS (x : Rs) (ws : List ByteArray) : Rs := { giveS x (rfN ws) (x.fn.length : Nat) with fn := x.fn ++ [(x.ask.length, x.ask.length)], inF := true, inT := false }
theorem giveS_no {x : Rs} {k : Nm} {v : Int} (h : giveE x k = 0) : giveS x k v = { x with nms := x.nms ++ [(k, v, x.nms.length)] } ∧ look x.nms k = none := by
  unfold giveE at h
  unfold giveS
  cases hl : look x.nms k with
  | none => exact ⟨rfl, rfl⟩
  | some y => rw [hl] at h; simp at h

set_option maxHeartbeats 1000000 in
set_option maxRecDepth 20000 in
theorem readFunc_any (base R M : Nat) (w : World) (x : Rs) (v : Value) (ws : List ByteArray) (hl : Ls eS (fun g => ¬ SR base R M g) w v ws) (hz : Sml ws) (hf : Few x) (h : Red base R M w x) :
    Calls Tryz.prog 50 #[.pointer (some ⟨R, 0, none⟩), v] w (Dn base R M w (rfE x ws) (rfS x ws)) := by
  obtain ⟨va, vf, vt, ts, h⟩ := h
  obtain ⟨ao, cap, rfl⟩ := hl.form
  by_cases hn : ws.length = 1
  · obtain ⟨s, rfl⟩ := hd_len hn
    clear hn
    obtain ⟨g, o, cap', hv, hP, hgl, hcap, hc⟩ := hl.get eS_len (i := 0) (a := s) rfl
    injection hv with hv1 hv2 hv3
    subst hv1 hv3
    have c0 := hc 0 _ rfl
    simp only [Nat.zero_mul, Nat.add_zero] at c0
    have hss := hz s (by simp)
    have HM := hid (isName_any s)
    clear hc hv2 hl hz
    simp only [List.length_cons, List.length_nil, Nat.zero_add] at hcap ⊢
    cases hq : nameOk s with
    | false =>
      have eE : rfE x [s] = 70 := by unfold rfE; simp [hq]
      rw [eE]
      rw [hq] at HM
      clear eE h hf hP
      go_enter Tryz.func50, Tryz.ntmps50
      go_wp2_with (go_at_call 93; refine (HM.out _ (by omega)).mono ?_; rintro e w2 ⟨rfl, hw⟩; have hw := hw.symm; subst hw)
      go_ret
      exact Dn.bad (by omega) (Ch.refl _ _)
    | true =>
      have eE : rfE x [s] = giveE x (rfN [s]) := by unfold rfE; simp [hq]
      rw [eE]
      rw [hq] at HM
      have hk : Nok (rfN [s]) := ⟨⟨by show (0 : Int) ≤ 2; omega, by show (2 : Int) ≤ 3; omega⟩, ⟨by show (-1 : Int) ≤ 0; omega, by show (0 : Int) ≤ 4294967296; omega⟩, hss⟩
      obtain ⟨aof, cf, rfl⟩ := h.f.form
      obtain ⟨aoa, ca, rfl⟩ := h.a.form
      have r1 : w.cell? ⟨R, 1, none⟩ = some (.slice aof x.fn.length cf) := (cell_of h.blk 1).trans rfl
      have HH := hid h
      have hfl := hf.f
      have hal := hf.a
      have HGV := hid (fun (W : World) (q : Rd base R M W (.slice aoa x.ask.length ca) (.slice aof x.fn.length cf) vt ts x) => give_any base R M W _ _ _ ts x (rfN [s]) (x.fn.length : Nat) hk q)
      unfold Gvn at HGV
      obtain ⟨E, hE⟩ : ∃ E, E = giveE x (rfN [s]) := ⟨_, rfl⟩
      rw [← hE] at HGV ⊢
      have HE := hid hE
      obtain ⟨X, hX⟩ : ∃ X, X = giveS x (rfN [s]) (x.fn.length : Nat) := ⟨_, rfl⟩
      rw [← hX] at HGV
      have HX := hid hX
      obtain ⟨nf, hnf⟩ : ∃ n, n = x.fn.length := ⟨_, rfl⟩
      obtain ⟨na, hna⟩ : ∃ n, n = x.ask.length := ⟨_, rfl⟩
      rw [← hnf] at HGV r1 HH hfl
      rw [← hna] at HGV HH hal
      have HNF := hid hnf
      have HNA := hid hna
      unfold kV rfN at HGV
      clear h hf hE hX hk eE hnf hna
      go_enter Tryz.func50, Tryz.ntmps50
      go_wp2_with (go_at_call 93; refine (HM.out _ (by omega)).mono ?_; rintro e w2 ⟨rfl, hw⟩; have hw := hw.symm; subst hw)
      have hS0 : (fun w' => w'.cell? ⟨g, o, none⟩ = some (.string s) ∧ w'.cell? ⟨R, 1, none⟩ = some (.slice aof nf cf)) w.drew := ⟨c0, r1⟩
      refine wp_region_held_drew (S := fun w' => w'.cell? ⟨g, o, none⟩ = some (.string s) ∧ w'.cell? ⟨R, 1, none⟩ = some (.slice aof nf cf)) (by kernel_rfl) (by exact hS0) (fun hSx => ?_)
      clear hSx
      refine takeS_on (i := 0) 17 (v := ?v18) rfl rfl (by kernel_rfl) (by kernel_rfl) (by kernel_rfl) (fun _ _ _ h => h) (by kernel_rfl) ?hy18 (by exact hS0) ?_
      case hy18 => (intro w' hSw; go_simp; try (with_reducible rfl))
      simp only [Act.put, List.setIfInBounds_toArray, List.set_cons_zero, List.set_cons_succ]
      refine takeS_on (i := 1) 18 (v := ?v19) rfl rfl (by kernel_rfl) (by kernel_rfl) (by kernel_rfl) (fun _ _ _ h => h) (by kernel_rfl) ?hy19 (by exact hS0) ?_
      case hy19 => (intro w' hSw; go_simp; try (with_reducible rfl))
      simp only [Act.put, List.setIfInBounds_toArray, List.set_cons_zero, List.set_cons_succ]
      refine takeS_on (i := 2) 19 (v := ?v20) rfl rfl (by kernel_rfl) (by kernel_rfl) (by kernel_rfl) (fun _ _ _ h => h) (by kernel_rfl) ?hy20 (by exact hS0) ?_
      case hy20 => (intro w' hSw; go_simp; try (with_reducible rfl))
      simp only [Act.put, List.setIfInBounds_toArray, List.set_cons_zero, List.set_cons_succ]
      refine takeS_on (i := 3) 20 (v := ?v21) rfl rfl (by kernel_rfl) (by kernel_rfl) (by kernel_rfl) (fun _ _ _ h => h) (by kernel_rfl) ?hy21 (by exact hS0) ?_
      case hy21 => (intro w' hSw; go_simp; try (with_reducible rfl))
      simp only [Act.put, List.setIfInBounds_toArray, List.set_cons_zero, List.set_cons_succ]
      refine takeS_on (i := 4) 21 (v := ?v22) rfl rfl (by kernel_rfl) (by kernel_rfl) (by kernel_rfl) (fun _ _ _ h => h) (by kernel_rfl) ?hy22 (by exact hS0) ?_
      case hy22 => (intro w' hSw; go_simp; try (with_reducible rfl))
      simp only [Act.put, List.setIfInBounds_toArray, List.set_cons_zero, List.set_cons_succ]
      refine takeS_on (i := 5) 22 (v := ?v23) rfl rfl (by kernel_rfl) (by kernel_rfl) (by kernel_rfl) (fun _ _ _ h => h) (by kernel_rfl) ?hy23 (by exact hS0) ?_
      case hy23 => (intro w' hSw; go_simp; try (with_reducible rfl))
      simp only [Act.put, List.setIfInBounds_toArray, List.set_cons_zero, List.set_cons_succ]
      refine takeS_on (i := 6) 23 (v := ?v24) rfl rfl (by kernel_rfl) (by kernel_rfl) (by kernel_rfl) (fun _ _ _ h => h) (by kernel_rfl) ?hy24 (by exact hS0) ?_
      case hy24 => (intro w' hSw; go_simp; try (with_reducible rfl))
      simp only [Act.put, List.setIfInBounds_toArray, List.set_cons_zero, List.set_cons_succ]
      refine takeS_on (i := 7) 24 (v := ?v25) rfl rfl (by kernel_rfl) (by kernel_rfl) (by kernel_rfl) (fun _ _ _ h => h) (by kernel_rfl) ?hy25 (by exact hS0) ?_
      case hy25 => (intro w' hSw; go_simp; try (with_reducible rfl))
      simp only [Act.put, List.setIfInBounds_toArray, List.set_cons_zero, List.set_cons_succ]
      refine takeS_on (i := 8) 25 (v := ?v26) rfl rfl (by kernel_rfl) (by kernel_rfl) (by kernel_rfl) (fun _ _ _ h => h) (by kernel_rfl) ?hy26 (by exact hS0) ?_
      case hy26 => (intro w' hSw; go_simp; try (with_reducible rfl))
      simp only [Act.put, List.setIfInBounds_toArray, List.set_cons_zero, List.set_cons_succ]
      refine takeS_on (i := 9) 26 (v := ?v27) rfl rfl (by kernel_rfl) (by kernel_rfl) (by kernel_rfl) (fun _ _ _ h => h) (by kernel_rfl) ?hy27 (by exact hS0) ?_
      case hy27 => (intro w' hSw; go_simp; try (with_reducible rfl))
      simp only [Act.put, List.setIfInBounds_toArray, List.set_cons_zero, List.set_cons_succ]
      refine wpAnyH_ready (rs := [10]) (by kernel_rfl) (by simp) (AllReadyH.cons rfl (fun K hK => ?_) AllReadyH.nil)
      go_simp
      refine (HGV.out _ (HH.out.gr (Ch.drew (Gr.refl w)))).mono ?_
      rintro e w3 ⟨rfl, rd3, ch3, gg3⟩
      have hS3 : (fun w' => w'.cell? ⟨g, o, none⟩ = some (.string s) ∧ w'.cell? ⟨R, 1, none⟩ = some (.slice aof nf cf)) w3 := ⟨(Ch.cell ch3 hgl hP).trans c0, (cell_of rd3.blk 1).trans rfl⟩
      have RD3 := hid rd3
      have CH3 := hid (Ch.trans' ((Ch.refl (SR base R M) w).drew) ch3)
      have GG3 := hid (fun (h : E ≠ 0) => Gr.trans (Ch.drew (Gr.refl w)) (gg3 h))
      clear rd3 ch3 gg3
      refine hK.out _ _ (by exact hS3) (fun hSx => ?_)
      clear hSx hK K
      refine takeS_on (i := 11) 5 (v := ?v28) rfl rfl (by kernel_rfl) (by kernel_rfl) (by kernel_rfl) (fun _ _ _ h => h) (by kernel_rfl) ?hy28 (by exact hS3) ?_
      case hy28 => (intro w' hSw; go_simp; try (with_reducible rfl))
      simp only [Act.put, List.setIfInBounds_toArray, List.set_cons_zero, List.set_cons_succ]
      refine wpAnyH_done (by kernel_rfl) ?_ _
      clear hS0 hS3
      have XF := hid (show X.fn = x.fn by rw [HX.out]; unfold giveS; split <;> rfl)
      have XA := hid (show X.ask = x.ask by rw [HX.out]; unfold giveS; split <;> rfl)
      by_cases he : E = 0
      · have hbR := RD3.out.blk
        obtain ⟨p0, -, -, -, -, -, -, pl⟩ := Six.of hbR
        clear hbR
        have c1w : w3.cell? ⟨R, 1, none⟩ = some (.slice aof nf cf) := (cell_of RD3.out.blk 1).trans rfl
        go_wp2_with (at_builtin; refine wpList_append_ow eF_len rfl (.tmp 40) (.tmp 44) _ 41 16 _ Tryz.underlying23 func_info rfl (by omega) rfl base _ _ rfl (RD3.out.f.alloc _) _ _ [(na, na)] rfl (Ls.single w3 _ _ _ rfl) (by intro u hu; simp [eF] at hu; rw [hu]; rfl) (nf + 1) (by rw [XF.out, HNF.out]; rfl) (by omega) (by unfold maxLen; omega) (by have := RD3.out.ltB; simp; omega) _ rfl ?_; intro ao4 cap4 w4 ow4 cw4 bl4; have hbR := (cw4.block R (by simp; have := lt_of_block RD3.out.blk; omega) (fun e => by have := (RD3.out.f.blk e).1; have := RD3.out.ltR; omega)).trans (al_blk RD3.out.blk _); obtain ⟨r0, r1, r2, r3, r4, r5, rz, rl⟩ := Six.of hbR; have y0 := rz 0; have y1 := rz 1; have y2 := rz 2; have y4 := rz 4; have y5 := rz 5; clear rz hbR; have HO4 := hid ow4; have HC4 := hid cw4; have HB4 := hid bl4; clear ow4 cw4 bl4)
        go_ret
        have Q1 := (RD3.out.newF (Ch.alloc (Gr.refl w3) _) HO4.out HC4.out HB4.out).flags true false
        refine ⟨by rw [he]; rfl, fun _ => ?_, ?_, fun h => (h he).elim⟩
        · have e1 : rfS x [s] = { X with fn := X.fn ++ [(na, na)], inF := true, inT := false } := by
            unfold rfS
            rw [← HX.out, XF.out, HNA.out]
          rw [e1]
          exact Q1.red
        · exact ((((Ch.trans CH3.out ((Ch.alloc (Gr.refl w3) _)) (fun _ e => e.elim)).trans HC4.out (fun q e => .inl (.inr (.inr (RD3.out.f.blk e).1)))).setCell (p := ⟨R, 1, none⟩) (.inl (.inl rfl)) _).setCell (p := ⟨R, 4, none⟩) (.inl (.inl rfl)) _).setCell (p := ⟨R, 5, none⟩) (.inl (.inl rfl)) _
      · go_wp2
        go_ret
        exact Dn.bad he (GG3.out he)
  · have eE : rfE x ws = 70 := by unfold rfE; simp [hn]
    rw [eE]
    generalize ws.length = n at hn ⊢
    have hn' : ¬ ((n : Nat) : Int) = 1 := by omega
    clear h hf eE hl hz hn
    go_enter Tryz.func50, Tryz.ntmps50
    go_wp2
    go_ret
    exact Dn.bad (by omega) (Ch.refl _ _)
end Go.Proofs.YtbehlhnnfdkmaaaGreatDoor.Lt

namespace Go.Proofs.YtbehlhnnfdkmaaaGreatDoor.Lt
open Go.RowKit Wd

def sDef : ByteArray := { data := #[100, 101, 102, 97, 117, 108, 116] }
/-- has a table's line a default? -/
def tdf (ws : List ByteArray) : Bool := decide (ws.length = 2) && decide (ws[1]? = some sDef)
def rtN (ws : List ByteArray) : Nm := (3, 0, ws.headD ⟨#[]⟩)
def rtE (x : Rs) (ws : List ByteArray) : Int := if (decide (ws.length = 1) || tdf ws) && nameOk (ws.headD ⟨#[]⟩) then giveE x (rtN ws) else 70
def rtS (x : Rs) (ws : List ByteArray) : Rs := { giveS x (rtN ws) (x.tb.length : Nat) with tb := x.tb ++ [([], tdf ws)], inF := false, inT := true }

set_option maxHeartbeats 1000000 in
set_option maxRecDepth 20000 in
theorem readTable_1 (base R M : Nat) (w : World) (x : Rs) (v : Value) (s : ByteArray) (hl : Ls eS (fun g => ¬ SR base R M g) w v [s]) (hz : Sml [s]) (hf : Few x) (h : Red base R M w x) :
    Calls Tryz.prog 51 #[.pointer (some ⟨R, 0, none⟩), v] w (Dn base R M w (rtE x [s]) (rtS x [s])) := by
  obtain ⟨va, vf, vt, ts, h⟩ := h
  obtain ⟨ao, cap, rfl⟩ := hl.form
  obtain ⟨g, o, cap', hv, hP, hgl, hcap, hc⟩ := hl.get eS_len (i := 0) (a := s) rfl
  injection hv with hv1 hv2 hv3
  subst hv1 hv3
  have c0 := hc 0 _ rfl
  simp only [Nat.zero_mul, Nat.add_zero] at c0
  have hss := hz s (by simp)
  have HM := hid (isName_any s)
  clear hc hv2 hl hz
  simp only [List.length_cons, List.length_nil, Nat.zero_add] at hcap ⊢
  have hdf : tdf [s] = false := by unfold tdf; simp
  cases hq : nameOk s with
  | false =>
    have eE : rtE x [s] = 70 := by unfold rtE; rw [hdf]; simp [hq]
    rw [eE]
    rw [hq] at HM
    clear eE h hf hP hdf
    go_enter Tryz.func51, Tryz.ntmps51
    go_wp2_with (go_at_call 93; refine (HM.out _ (by omega)).mono ?_; rintro e w2 ⟨rfl, hw⟩; have hw := hw.symm; subst hw)
    go_ret
    exact Dn.bad (by omega) (Ch.refl _ _)
  | true =>
    have eE : rtE x [s] = giveE x (rtN [s]) := by unfold rtE; rw [hdf]; simp [hq]
    rw [eE]
    rw [hq] at HM
    have hk : Nok (rtN [s]) := ⟨⟨by show (0 : Int) ≤ 3; omega, by show (3 : Int) ≤ 3; omega⟩, ⟨by show (-1 : Int) ≤ 0; omega, by show (0 : Int) ≤ 4294967296; omega⟩, hss⟩
    obtain ⟨aot, ct, rfl⟩ := h.t.form
    have htl : ts.length = x.tb.length := by rw [← h.tsq, List.length_map]
    have r1 : w.cell? ⟨R, 2, none⟩ = some (.slice aot ts.length ct) := (cell_of h.blk 2).trans rfl
    have HH := hid h
    have hfl := hf.t
    have HGV := hid (fun (W : World) (q : Rd base R M W va vf (.slice aot ts.length ct) ts x) => give_any base R M W _ _ _ ts x (rtN [s]) (x.tb.length : Nat) hk q)
    unfold Gvn at HGV
    obtain ⟨E, hE⟩ : ∃ E, E = giveE x (rtN [s]) := ⟨_, rfl⟩
    rw [← hE] at HGV ⊢
    have HE := hid hE
    obtain ⟨X, hX⟩ : ∃ X, X = giveS x (rtN [s]) (x.tb.length : Nat) := ⟨_, rfl⟩
    rw [← hX] at HGV
    have HX := hid hX
    rw [← htl] at HGV hfl
    obtain ⟨nt, hnt⟩ : ∃ n, n = ts.length := ⟨_, rfl⟩
    rw [← hnt] at HGV r1 HH hfl
    have HNT := hid hnt
    have HDF := hid hdf
    unfold kV rtN at HGV
    simp only [List.headD_cons] at HGV
    clear h hf hE hX hk eE hnt htl hdf
    go_enter Tryz.func51, Tryz.ntmps51
    go_wp2_with (go_at_call 93; refine (HM.out _ (by omega)).mono ?_; rintro e w2 ⟨rfl, hw⟩; have hw := hw.symm; subst hw)
    have hS0 : (fun w' => w'.cell? ⟨g, o, none⟩ = some (.string s) ∧ w'.cell? ⟨R, 2, none⟩ = some (.slice aot nt ct)) w.drew := ⟨c0, r1⟩
    refine wp_region_held_drew (S := fun w' => w'.cell? ⟨g, o, none⟩ = some (.string s) ∧ w'.cell? ⟨R, 2, none⟩ = some (.slice aot nt ct)) (by kernel_rfl) (by exact hS0) (fun hSx => ?_)
    clear hSx
    refine takeS_on (i := 0) 30 (v := ?v29) rfl rfl (by kernel_rfl) (by kernel_rfl) (by kernel_rfl) (fun _ _ _ h => h) (by kernel_rfl) ?hy29 (by exact hS0) ?_
    case hy29 => (intro w' hSw; go_simp; try (with_reducible rfl))
    simp only [Act.put, List.setIfInBounds_toArray, List.set_cons_zero, List.set_cons_succ]
    refine takeS_on (i := 1) 31 (v := ?v30) rfl rfl (by kernel_rfl) (by kernel_rfl) (by kernel_rfl) (fun _ _ _ h => h) (by kernel_rfl) ?hy30 (by exact hS0) ?_
    case hy30 => (intro w' hSw; go_simp; try (with_reducible rfl))
    simp only [Act.put, List.setIfInBounds_toArray, List.set_cons_zero, List.set_cons_succ]
    refine takeS_on (i := 2) 32 (v := ?v31) rfl rfl (by kernel_rfl) (by kernel_rfl) (by kernel_rfl) (fun _ _ _ h => h) (by kernel_rfl) ?hy31 (by exact hS0) ?_
    case hy31 => (intro w' hSw; go_simp; try (with_reducible rfl))
    simp only [Act.put, List.setIfInBounds_toArray, List.set_cons_zero, List.set_cons_succ]
    refine takeS_on (i := 3) 33 (v := ?v32) rfl rfl (by kernel_rfl) (by kernel_rfl) (by kernel_rfl) (fun _ _ _ h => h) (by kernel_rfl) ?hy32 (by exact hS0) ?_
    case hy32 => (intro w' hSw; go_simp; try (with_reducible rfl))
    simp only [Act.put, List.setIfInBounds_toArray, List.set_cons_zero, List.set_cons_succ]
    refine takeS_on (i := 4) 34 (v := ?v33) rfl rfl (by kernel_rfl) (by kernel_rfl) (by kernel_rfl) (fun _ _ _ h => h) (by kernel_rfl) ?hy33 (by exact hS0) ?_
    case hy33 => (intro w' hSw; go_simp; try (with_reducible rfl))
    simp only [Act.put, List.setIfInBounds_toArray, List.set_cons_zero, List.set_cons_succ]
    refine takeS_on (i := 5) 35 (v := ?v34) rfl rfl (by kernel_rfl) (by kernel_rfl) (by kernel_rfl) (fun _ _ _ h => h) (by kernel_rfl) ?hy34 (by exact hS0) ?_
    case hy34 => (intro w' hSw; go_simp; try (with_reducible rfl))
    simp only [Act.put, List.setIfInBounds_toArray, List.set_cons_zero, List.set_cons_succ]
    refine takeS_on (i := 6) 36 (v := ?v35) rfl rfl (by kernel_rfl) (by kernel_rfl) (by kernel_rfl) (fun _ _ _ h => h) (by kernel_rfl) ?hy35 (by exact hS0) ?_
    case hy35 => (intro w' hSw; go_simp; try (with_reducible rfl))
    simp only [Act.put, List.setIfInBounds_toArray, List.set_cons_zero, List.set_cons_succ]
    refine takeS_on (i := 7) 37 (v := ?v36) rfl rfl (by kernel_rfl) (by kernel_rfl) (by kernel_rfl) (fun _ _ _ h => h) (by kernel_rfl) ?hy36 (by exact hS0) ?_
    case hy36 => (intro w' hSw; go_simp; try (with_reducible rfl))
    simp only [Act.put, List.setIfInBounds_toArray, List.set_cons_zero, List.set_cons_succ]
    refine takeS_on (i := 8) 38 (v := ?v37) rfl rfl (by kernel_rfl) (by kernel_rfl) (by kernel_rfl) (fun _ _ _ h => h) (by kernel_rfl) ?hy37 (by exact hS0) ?_
    case hy37 => (intro w' hSw; go_simp; try (with_reducible rfl))
    simp only [Act.put, List.setIfInBounds_toArray, List.set_cons_zero, List.set_cons_succ]
    refine takeS_on (i := 9) 39 (v := ?v38) rfl rfl (by kernel_rfl) (by kernel_rfl) (by kernel_rfl) (fun _ _ _ h => h) (by kernel_rfl) ?hy38 (by exact hS0) ?_
    case hy38 => (intro w' hSw; go_simp; try (with_reducible rfl))
    simp only [Act.put, List.setIfInBounds_toArray, List.set_cons_zero, List.set_cons_succ]
    refine wpAnyH_ready (rs := [10]) (by kernel_rfl) (by simp) (AllReadyH.cons rfl (fun K hK => ?_) AllReadyH.nil)
    go_simp
    refine (HGV.out _ (HH.out.gr (Ch.drew (Gr.refl w)))).mono ?_
    rintro e w3 ⟨rfl, rd3, ch3, gg3⟩
    have hS3 : (fun w' => w'.cell? ⟨g, o, none⟩ = some (.string s) ∧ w'.cell? ⟨R, 2, none⟩ = some (.slice aot nt ct)) w3 := ⟨(Ch.cell ch3 hgl hP).trans c0, (cell_of rd3.blk 2).trans rfl⟩
    have RD3 := hid rd3
    have CH3 := hid (Ch.trans' ((Ch.refl (SR base R M) w).drew) ch3)
    have GG3 := hid (fun (h : E ≠ 0) => Gr.trans (Ch.drew (Gr.refl w)) (gg3 h))
    clear rd3 ch3 gg3
    refine hK.out _ _ (by exact hS3) (fun hSx => ?_)
    clear hSx hK K
    refine takeS_on (i := 11) 6 (v := ?v39) rfl rfl (by kernel_rfl) (by kernel_rfl) (by kernel_rfl) (fun _ _ _ h => h) (by kernel_rfl) ?hy39 (by exact hS3) ?_
    case hy39 => (intro w' hSw; go_simp; try (with_reducible rfl))
    simp only [Act.put, List.setIfInBounds_toArray, List.set_cons_zero, List.set_cons_succ]
    refine wpAnyH_done (by kernel_rfl) ?_ _
    clear hS0 hS3
    have XT := hid (show X.tb = x.tb by rw [HX.out]; unfold giveS; split <;> rfl)
    by_cases he : E = 0
    · have c1w : w3.cell? ⟨R, 2, none⟩ = some (.slice aot nt ct) := (cell_of RD3.out.blk 2).trans rfl
      go_wp2_with (at_builtin; refine wpList_append_ow eT_len rfl (.tmp 48) (.tmp 51) _ 44 32 _ Tryz.underlying24 table_info rfl (by omega) rfl base _ _ rfl (RD3.out.t.alloc _) _ _ [⟨[], .slice none 0 0, false⟩] rfl (Ls.single w3 _ _ _ rfl) (by intro u hu; simp [eT] at hu; rcases hu with rfl | rfl <;> rfl) (nt + 1) (by rw [HNT.out]; rfl) (by omega) (by unfold maxLen; omega) (by have := RD3.out.ltB; simp; omega) _ rfl ?_; intro ao4 cap4 w4 ow4 cw4 bl4; have hbR := (cw4.block R (by simp; have := lt_of_block RD3.out.blk; omega) (fun e => by have := (RD3.out.t.blk e).1; have := RD3.out.ltR; omega)).trans (al_blk RD3.out.blk _); obtain ⟨r0, r1, r2, r3, r4, r5, rz, rl⟩ := Six.of hbR; have y0 := rz 0; have y1 := rz 1; have y2 := rz 2; have y4 := rz 4; have y5 := rz 5; clear rz hbR; have HO4 := hid ow4; have HC4 := hid cw4; have HB4 := hid bl4; clear ow4 cw4 bl4)
      go_ret
      have Q1 := (RD3.out.newT (Ch.alloc (Gr.refl w3) _) HO4.out HC4.out HB4.out).flags false true
      refine ⟨by rw [he]; rfl, fun _ => ?_, ?_, fun h => (h he).elim⟩
      · have e1 : rtS x [s] = { X with tb := X.tb ++ [([], false)], inF := false, inT := true } := by
          unfold rtS
          rw [← HX.out, XT.out, HDF.out]
        rw [e1]
        exact Q1.red
      · exact ((((Ch.trans CH3.out ((Ch.alloc (Gr.refl w3) _)) (fun _ e => e.elim)).trans HC4.out (fun q e => .inl (.inr (.inr (RD3.out.t.blk e).1)))).setCell (p := ⟨R, 2, none⟩) (.inl (.inl rfl)) _).setCell (p := ⟨R, 4, none⟩) (.inl (.inl rfl)) _).setCell (p := ⟨R, 5, none⟩) (.inl (.inl rfl)) _
    · go_wp2
      go_ret
      exact Dn.bad he (GG3.out he)

set_option maxHeartbeats 1000000 in
set_option maxRecDepth 20000 in
theorem readTable_2 (base R M : Nat) (w : World) (x : Rs) (v : Value) (s : ByteArray) (hl : Ls eS (fun g => ¬ SR base R M g) w v [s, sDef]) (hz : Sml [s, sDef]) (hf : Few x) (h : Red base R M w x) :
    Calls Tryz.prog 51 #[.pointer (some ⟨R, 0, none⟩), v] w (Dn base R M w (rtE x [s, sDef]) (rtS x [s, sDef])) := by
  obtain ⟨va, vf, vt, ts, h⟩ := h
  obtain ⟨ao, cap, rfl⟩ := hl.form
  obtain ⟨g, o, cap', hv, hP, hgl, hcap, hc⟩ := hl.get eS_len (i := 0) (a := s) rfl
  injection hv with hv1 hv2 hv3
  subst hv1 hv3
  have c0 := hc 0 _ rfl
  simp only [Nat.zero_mul, Nat.add_zero] at c0
  have c1 := hl.news 1 _ (show ([s, sDef].flatMap eS)[1]? = some (.string { data := #[100, 101, 102, 97, 117, 108, 116] }) from rfl)
  rw [add_none] at c1
  have hss := hz s (by simp)
  have HM := hid (isName_any s)
  clear hc hv2 hl hz
  simp only [List.length_cons, List.length_nil, Nat.zero_add, Nat.reduceAdd] at hcap ⊢
  have hdf : tdf [s, sDef] = true := by unfold tdf; simp
  cases hq : nameOk s with
  | false =>
    have eE : rtE x [s, sDef] = 70 := by unfold rtE; rw [hdf]; simp [hq]
    rw [eE]
    rw [hq] at HM
    clear eE h hf hP hdf
    go_enter Tryz.func51, Tryz.ntmps51
    go_wp2_with (go_at_call 93; refine (HM.out _ (by omega)).mono ?_; rintro e w2 ⟨rfl, hw⟩; have hw := hw.symm; subst hw)
    go_ret
    exact Dn.bad (by omega) (Ch.refl _ _)
  | true =>
    have eE : rtE x [s, sDef] = giveE x (rtN [s, sDef]) := by unfold rtE; rw [hdf]; simp [hq]
    rw [eE]
    rw [hq] at HM
    have hk : Nok (rtN [s, sDef]) := ⟨⟨by show (0 : Int) ≤ 3; omega, by show (3 : Int) ≤ 3; omega⟩, ⟨by show (-1 : Int) ≤ 0; omega, by show (0 : Int) ≤ 4294967296; omega⟩, hss⟩
    obtain ⟨aot, ct, rfl⟩ := h.t.form
    have htl : ts.length = x.tb.length := by rw [← h.tsq, List.length_map]
    have r1 : w.cell? ⟨R, 2, none⟩ = some (.slice aot ts.length ct) := (cell_of h.blk 2).trans rfl
    have HH := hid h
    have hfl := hf.t
    have HGV := hid (fun (W : World) (q : Rd base R M W va vf (.slice aot ts.length ct) ts x) => give_any base R M W _ _ _ ts x (rtN [s, sDef]) (x.tb.length : Nat) hk q)
    unfold Gvn at HGV
    obtain ⟨E, hE⟩ : ∃ E, E = giveE x (rtN [s, sDef]) := ⟨_, rfl⟩
    rw [← hE] at HGV ⊢
    have HE := hid hE
    obtain ⟨X, hX⟩ : ∃ X, X = giveS x (rtN [s, sDef]) (x.tb.length : Nat) := ⟨_, rfl⟩
    rw [← hX] at HGV
    have HX := hid hX
    rw [← htl] at HGV hfl
    obtain ⟨nt, hnt⟩ : ∃ n, n = ts.length := ⟨_, rfl⟩
    rw [← hnt] at HGV r1 HH hfl
    have HNT := hid hnt
    have HDF := hid hdf
    unfold kV rtN at HGV
    simp only [List.headD_cons] at HGV
    clear h hf hE hX hk eE hnt htl hdf
    go_enter Tryz.func51, Tryz.ntmps51
    go_wp2_with (go_at_call 93; refine (HM.out _ (by omega)).mono ?_; rintro e w2 ⟨rfl, hw⟩; have hw := hw.symm; subst hw)
    have hS0 : (fun w' => w'.cell? ⟨g, o, none⟩ = some (.string s) ∧ w'.cell? ⟨R, 2, none⟩ = some (.slice aot nt ct)) w.drew := ⟨c0, r1⟩
    refine wp_region_held_drew (S := fun w' => w'.cell? ⟨g, o, none⟩ = some (.string s) ∧ w'.cell? ⟨R, 2, none⟩ = some (.slice aot nt ct)) (by kernel_rfl) (by exact hS0) (fun hSx => ?_)
    clear hSx
    refine takeS_on (i := 0) 30 (v := ?v40) rfl rfl (by kernel_rfl) (by kernel_rfl) (by kernel_rfl) (fun _ _ _ h => h) (by kernel_rfl) ?hy40 (by exact hS0) ?_
    case hy40 => (intro w' hSw; go_simp; try (with_reducible rfl))
    simp only [Act.put, List.setIfInBounds_toArray, List.set_cons_zero, List.set_cons_succ]
    refine takeS_on (i := 1) 31 (v := ?v41) rfl rfl (by kernel_rfl) (by kernel_rfl) (by kernel_rfl) (fun _ _ _ h => h) (by kernel_rfl) ?hy41 (by exact hS0) ?_
    case hy41 => (intro w' hSw; go_simp; try (with_reducible rfl))
    simp only [Act.put, List.setIfInBounds_toArray, List.set_cons_zero, List.set_cons_succ]
    refine takeS_on (i := 2) 32 (v := ?v42) rfl rfl (by kernel_rfl) (by kernel_rfl) (by kernel_rfl) (fun _ _ _ h => h) (by kernel_rfl) ?hy42 (by exact hS0) ?_
    case hy42 => (intro w' hSw; go_simp; try (with_reducible rfl))
    simp only [Act.put, List.setIfInBounds_toArray, List.set_cons_zero, List.set_cons_succ]
    refine takeS_on (i := 3) 33 (v := ?v43) rfl rfl (by kernel_rfl) (by kernel_rfl) (by kernel_rfl) (fun _ _ _ h => h) (by kernel_rfl) ?hy43 (by exact hS0) ?_
    case hy43 => (intro w' hSw; go_simp; try (with_reducible rfl))
    simp only [Act.put, List.setIfInBounds_toArray, List.set_cons_zero, List.set_cons_succ]
    refine takeS_on (i := 4) 34 (v := ?v44) rfl rfl (by kernel_rfl) (by kernel_rfl) (by kernel_rfl) (fun _ _ _ h => h) (by kernel_rfl) ?hy44 (by exact hS0) ?_
    case hy44 => (intro w' hSw; go_simp; try (with_reducible rfl))
    simp only [Act.put, List.setIfInBounds_toArray, List.set_cons_zero, List.set_cons_succ]
    refine takeS_on (i := 5) 35 (v := ?v45) rfl rfl (by kernel_rfl) (by kernel_rfl) (by kernel_rfl) (fun _ _ _ h => h) (by kernel_rfl) ?hy45 (by exact hS0) ?_
    case hy45 => (intro w' hSw; go_simp; try (with_reducible rfl))
    simp only [Act.put, List.setIfInBounds_toArray, List.set_cons_zero, List.set_cons_succ]
    refine takeS_on (i := 6) 36 (v := ?v46) rfl rfl (by kernel_rfl) (by kernel_rfl) (by kernel_rfl) (fun _ _ _ h => h) (by kernel_rfl) ?hy46 (by exact hS0) ?_
    case hy46 => (intro w' hSw; go_simp; try (with_reducible rfl))
    simp only [Act.put, List.setIfInBounds_toArray, List.set_cons_zero, List.set_cons_succ]
    refine takeS_on (i := 7) 37 (v := ?v47) rfl rfl (by kernel_rfl) (by kernel_rfl) (by kernel_rfl) (fun _ _ _ h => h) (by kernel_rfl) ?hy47 (by exact hS0) ?_
    case hy47 => (intro w' hSw; go_simp; try (with_reducible rfl))
    simp only [Act.put, List.setIfInBounds_toArray, List.set_cons_zero, List.set_cons_succ]
    refine takeS_on (i := 8) 38 (v := ?v48) rfl rfl (by kernel_rfl) (by kernel_rfl) (by kernel_rfl) (fun _ _ _ h => h) (by kernel_rfl) ?hy48 (by exact hS0) ?_
    case hy48 => (intro w' hSw; go_simp; try (with_reducible rfl))
    simp only [Act.put, List.setIfInBounds_toArray, List.set_cons_zero, List.set_cons_succ]
    refine takeS_on (i := 9) 39 (v := ?v49) rfl rfl (by kernel_rfl) (by kernel_rfl) (by kernel_rfl) (fun _ _ _ h => h) (by kernel_rfl) ?hy49 (by exact hS0) ?_
    case hy49 => (intro w' hSw; go_simp; try (with_reducible rfl))
    simp only [Act.put, List.setIfInBounds_toArray, List.set_cons_zero, List.set_cons_succ]
    refine wpAnyH_ready (rs := [10]) (by kernel_rfl) (by simp) (AllReadyH.cons rfl (fun K hK => ?_) AllReadyH.nil)
    go_simp
    refine (HGV.out _ (HH.out.gr (Ch.drew (Gr.refl w)))).mono ?_
    rintro e w3 ⟨rfl, rd3, ch3, gg3⟩
    have hS3 : (fun w' => w'.cell? ⟨g, o, none⟩ = some (.string s) ∧ w'.cell? ⟨R, 2, none⟩ = some (.slice aot nt ct)) w3 := ⟨(Ch.cell ch3 hgl hP).trans c0, (cell_of rd3.blk 2).trans rfl⟩
    have RD3 := hid rd3
    have CH3 := hid (Ch.trans' ((Ch.refl (SR base R M) w).drew) ch3)
    have GG3 := hid (fun (h : E ≠ 0) => Gr.trans (Ch.drew (Gr.refl w)) (gg3 h))
    clear rd3 ch3 gg3
    refine hK.out _ _ (by exact hS3) (fun hSx => ?_)
    clear hSx hK K
    refine takeS_on (i := 11) 6 (v := ?v50) rfl rfl (by kernel_rfl) (by kernel_rfl) (by kernel_rfl) (fun _ _ _ h => h) (by kernel_rfl) ?hy50 (by exact hS3) ?_
    case hy50 => (intro w' hSw; go_simp; try (with_reducible rfl))
    simp only [Act.put, List.setIfInBounds_toArray, List.set_cons_zero, List.set_cons_succ]
    refine wpAnyH_done (by kernel_rfl) ?_ _
    clear hS0 hS3
    have XT := hid (show X.tb = x.tb by rw [HX.out]; unfold giveS; split <;> rfl)
    by_cases he : E = 0
    · have c1w : w3.cell? ⟨R, 2, none⟩ = some (.slice aot nt ct) := (cell_of RD3.out.blk 2).trans rfl
      go_wp2_with (at_builtin; refine wpList_append_ow eT_len rfl (.tmp 48) (.tmp 51) _ 44 32 _ Tryz.underlying24 table_info rfl (by omega) rfl base _ _ rfl (RD3.out.t.alloc _) _ _ [⟨[], .slice none 0 0, true⟩] rfl (Ls.single w3 _ _ _ rfl) (by intro u hu; simp [eT] at hu; rcases hu with rfl | rfl <;> rfl) (nt + 1) (by rw [HNT.out]; rfl) (by omega) (by unfold maxLen; omega) (by have := RD3.out.ltB; simp; omega) _ rfl ?_; intro ao4 cap4 w4 ow4 cw4 bl4; have hbR := (cw4.block R (by simp; have := lt_of_block RD3.out.blk; omega) (fun e => by have := (RD3.out.t.blk e).1; have := RD3.out.ltR; omega)).trans (al_blk RD3.out.blk _); obtain ⟨r0, r1, r2, r3, r4, r5, rz, rl⟩ := Six.of hbR; have y0 := rz 0; have y1 := rz 1; have y2 := rz 2; have y4 := rz 4; have y5 := rz 5; clear rz hbR; have HO4 := hid ow4; have HC4 := hid cw4; have HB4 := hid bl4; clear ow4 cw4 bl4)
      go_ret
      have Q1 := (RD3.out.newT (Ch.alloc (Gr.refl w3) _) HO4.out HC4.out HB4.out).flags false true
      refine ⟨by rw [he]; rfl, fun _ => ?_, ?_, fun h => (h he).elim⟩
      · have e1 : rtS x [s, sDef] = { X with tb := X.tb ++ [([], true)], inF := false, inT := true } := by
          unfold rtS
          rw [← HX.out, XT.out, HDF.out]
        rw [e1]
        exact Q1.red
      · exact ((((Ch.trans CH3.out ((Ch.alloc (Gr.refl w3) _)) (fun _ e => e.elim)).trans HC4.out (fun q e => .inl (.inr (.inr (RD3.out.t.blk e).1)))).setCell (p := ⟨R, 2, none⟩) (.inl (.inl rfl)) _).setCell (p := ⟨R, 4, none⟩) (.inl (.inl rfl)) _).setCell (p := ⟨R, 5, none⟩) (.inl (.inl rfl)) _
    · go_wp2
      go_ret
      exact Dn.bad he (GG3.out he)

theorem readTable_any (base R M : Nat) (w : World) (x : Rs) (v : Value) (ws : List ByteArray) (hl : Ls eS (fun g => ¬ SR base R M g) w v ws) (hz : Sml ws) (hf : Few x) (h : Red base R M w x) :
    Calls Tryz.prog 51 #[.pointer (some ⟨R, 0, none⟩), v] w (Dn base R M w (rtE x ws) (rtS x ws)) := by
  match ws, hl, hz with
  | [s], hl, hz => exact readTable_1 base R M w x v s hl hz hf h
  | [s, d], hl, hz =>
    by_cases e : d = sDef
    · subst e
      exact readTable_2 base R M w x v s hl hz hf h
    · have hdf : tdf [s, d] = false := by unfold tdf; simp [e]
      have eE : rtE x [s, d] = 70 := by unfold rtE; rw [hdf]; simp
      rw [eE]
      obtain ⟨ao, cap, rfl⟩ := hl.form
      obtain ⟨g, o, cap', hv, hP, hgl, hcap, hc⟩ := hl.get eS_len (i := 1) (a := d) rfl
      injection hv with hv1 hv2 hv3
      subst hv1 hv3
      have c0 := hc 0 _ rfl
      simp only [Nat.one_mul, Nat.add_zero] at c0
      have hne : (d.toList == [100, 101, 102, 97, 117, 108, 116]) = false := by
        have e2 : sDef.toList = [100, 101, 102, 97, 117, 108, 116] := by rw [ByteArray.toList_eq]; rfl
        rw [← e2]
        cases hb : (d.toList == sDef.toList) with
        | false => rfl
        | true => exact (e (str_eq hb)).elim
      clear hc hv2 hl hz h hf hdf eE e hP
      simp only [List.length_cons, List.length_nil, Nat.zero_add, Nat.reduceAdd] at hcap ⊢
      go_enter Tryz.func51, Tryz.ntmps51
      go_wp2
      go_ret
      exact Dn.bad (by omega) (Ch.refl _ _)
  | [], hl, hz =>
    have eE : rtE x [] = 70 := by unfold rtE tdf; simp
    rw [eE]
    obtain ⟨ao, cap, rfl⟩ := hl.form
    clear hl hz h hf eE
    simp only [List.length_nil]
    go_enter Tryz.func51, Tryz.ntmps51
    go_wp2
    go_ret
    exact Dn.bad (by omega) (Ch.refl _ _)
  | a :: b :: c :: r, hl, hz =>
    have eE : rtE x (a :: b :: c :: r) = 70 := by unfold rtE tdf; simp
    rw [eE]
    obtain ⟨ao, cap, rfl⟩ := hl.form
    have hn : 3 ≤ (a :: b :: c :: r).length := by simp
    generalize (a :: b :: c :: r).length = n at hn ⊢
    have n1 : ¬ ((n : Nat) : Int) = 1 := by omega
    have n2 : ¬ ((n : Nat) : Int) = 2 := by omega
    clear hl hz h hf eE
    go_enter Tryz.func51, Tryz.ntmps51
    go_wp2
    go_ret
    exact Dn.bad (by omega) (Ch.refl _ _)
end Go.Proofs.YtbehlhnnfdkmaaaGreatDoor.Lt

namespace Go.Proofs.YtbehlhnnfdkmaaaGreatDoor.Lt
open Go.RowKit Wd

/-- a line that counts, as it lies in memory: its number, its words and their value, its kind, its operation, whether an instruction comes -/
structure Ln where
  num : Nat
  ws : List ByteArray
  wv : Value
  kind : Int
  op : Nat
  leads : Bool
def eL (l : Ln) : List Value := [.int .i64 (l.num : Nat), l.wv, .int .i64 l.kind, .int .i64 (l.op : Nat), .bool l.leads]
theorem eL_len (l : Ln) : (eL l).length = 5 := rfl
/-- does an instruction come? -/
def cm : List Int → Bool
  | [] => false
  | k :: r => if k = 4 then true else if k = 1 ∨ k = 3 then false else cm r
/-- the lines with what lookAhead finds of those from m on -/
def laF (ls : List Ln) (m : Nat) : List Ln := ls.mapIdx (fun i l => if m ≤ i then { l with leads := cm ((ls.drop (i + 1)).map (·.kind)) } else l)
theorem laF_len (ls : List Ln) (m : Nat) : (laF ls m).length = ls.length := by unfold laF; simp
theorem laF_get (ls : List Ln) (m i : Nat) : (laF ls m)[i]? = (ls[i]?).map (fun l => if m ≤ i then { l with leads := cm ((ls.drop (i + 1)).map (·.kind)) } else l) := by unfold laF; rw [List.getElem?_mapIdx]
theorem laF_step (ls : List Ln) (m : Nat) (l : Ln) (h : ls[m]? = some l) : (laF ls (m + 1)).set m { l with leads := cm ((ls.drop (m + 1)).map (·.kind)) } = laF ls m := by
  apply List.ext_getElem?
  intro i
  rw [List.getElem?_set, laF_get, laF_get, laF_len]
  have hm : m < ls.length := (List.getElem?_eq_some_iff.1 h).1
  by_cases e : m = i
  · subst e
    rw [if_pos rfl, if_pos hm, h]
    simp
  · rw [if_neg e]
    cases hi : ls[i]? with
    | none => rfl
    | some x =>
      simp only [Option.map_some]
      by_cases hx : m ≤ i
      · rw [if_pos hx, if_pos (by omega)]
      · rw [if_neg hx, if_neg (by omega)]
theorem cm_step (ls : List Ln) (m : Nat) (l : Ln) (h : ls[m]? = some l) : cm ((ls.drop m).map (·.kind)) = if l.kind = 4 then true else if l.kind = 1 ∨ l.kind = 3 then false else cm ((ls.drop (m + 1)).map (·.kind)) := by
  have hm : m < ls.length := (List.getElem?_eq_some_iff.1 h).1
  rw [List.drop_eq_getElem_cons hm]
  have e : ls[m] = l := by rw [List.getElem?_eq_getElem hm] at h; injection h
  rw [e]
  rfl

set_option maxHeartbeats 1000000 in
theorem lookAhead_any (base : Nat) (v : Value) (ls : List Ln) (hb : ls.length ≤ 4294967296) (w : World) (ho : Ow eL 5 56 base w v ls) :
    Calls Tryz.prog 49 #[v] w fun e w' => e = .returned (.tuple #[]) ∧ Ow eL 5 56 base w' v (laF ls 0) ∧ Ch (Blk v) w w' := by
  obtain ⟨ao, cap, rfl⟩ := ho.form
  have hcap := ho.len.2
  have HO := hid ho
  clear ho
  obtain ⟨n, hn⟩ : ∃ n, n = ls.length := ⟨_, rfl⟩
  have HN := hid hn
  rw [← hn] at hb hcap HO ⊢
  clear hn
  go_enter Tryz.func49, Tryz.ntmps49
  go_wp2_with fail
  go_loopg [2, 3] n (fun k c i wr => k ≤ n ∧ c = .bool (cm ((ls.drop k).map (·.kind))) ∧ i = .int .i64 ((k : Int) - 1) ∧ Ow eL 5 56 base wr (.slice ao n cap) (laF ls k) ∧ Ch (Blk (.slice ao n cap)) w wr)
  case atStart =>
    refine ⟨Nat.le_refl _, ?_, ?_, ?_, Ch.refl _ _⟩
    · rw [HN.out, List.drop_length]; rfl
    · simp
    · have e : laF ls n = ls := by
        apply List.ext_getElem?
        intro i
        rw [laF_get]
        cases hi : ls[i]? with
        | none => rfl
        | some x =>
          have : i < n := by rw [HN.out]; exact (List.getElem?_eq_some_iff.1 hi).1
          simp
          intro h
          omega
      rw [e]
      exact HO.out
  case round =>
    obtain ⟨hk, rfl, rfl, ho, hc⟩ := hrel
    have HOR := hid ho
    have HC := hid hc
    clear ho hc
    by_cases h0 : gk = 0
    · subst h0
      go_wp2
      go_returns
      exact ⟨rfl, HOR.out, HC.out⟩
    · obtain ⟨m, rfl⟩ : ∃ m, gk = m + 1 := ⟨gk - 1, by omega⟩
      obtain ⟨l, hl⟩ : ∃ l, ls[m]? = some l := ⟨_, List.getElem?_eq_getElem (by rw [← HN.out]; omega)⟩
      have hl' : (laF ls (m + 1))[m]? = some l := by
        rw [laF_get, hl]
        simp only [Option.map_some]
        rw [if_neg (by omega)]
      obtain ⟨g, cap', hv, _, hgl, _, hcs, hfz, hst⟩ := HOR.out.get eL_len hl'
      injection hv with hv1 hv2 hv3
      subst hv1
      clear hv2 hv3
      have c2 := hcs 2 _ rfl
      have c4 := hcs 4 _ rfl
      have f4 := hfz (m * 5 + 4)
      obtain ⟨C, hC⟩ : ∃ C, C = cm ((ls.drop (m + 1)).map (·.kind)) := ⟨_, rfl⟩
      rw [← hC]
      have HCM := hid hC
      have HL := hid hl
      have HST := hid hst
      clear hC hl hl' hst hcs hfz
      obtain ⟨K, hK⟩ : ∃ K, K = l.kind := ⟨_, rfl⟩
      rw [← hK] at c2
      have HK := hid hK
      clear hK
      have m0 : (0 : Int) ≤ (m : Int) := by omega
      have m1 : (m : Int) < (n : Int) := by omega
      rcases (by omega : K = 4 ∨ K = 1 ∨ K = 3 ∨ (¬ K = 4 ∧ ¬ K = 1 ∧ ¬ K = 3)) with k1 | k1 | k1 | ⟨k1, k2, k3⟩
      · subst k1
        go_wp2
        go_roundg m
        case measure => omega
        case rel =>
          refine ⟨by omega, ?_, ?_, ?_, ?_⟩
          · rw [cm_step ls m l HL.out, ← HK.out]; first | rfl | simp [*]
          · first | rfl | simp
          · have := HST.out 4 (.bool C) { l with leads := C } (by omega) rfl
            rw [HCM.out, laF_step ls m l HL.out, ← HCM.out] at this
            exact this
          · exact HC.out.setCell (p := ⟨g, m * 5 + 4, none⟩) (.inl rfl) _
      · subst k1
        go_wp2
        go_roundg m
        case measure => omega
        case rel =>
          refine ⟨by omega, ?_, ?_, ?_, ?_⟩
          · rw [cm_step ls m l HL.out, ← HK.out]; first | rfl | simp [*]
          · first | rfl | simp
          · have := HST.out 4 (.bool C) { l with leads := C } (by omega) rfl
            rw [HCM.out, laF_step ls m l HL.out, ← HCM.out] at this
            exact this
          · exact HC.out.setCell (p := ⟨g, m * 5 + 4, none⟩) (.inl rfl) _
      · subst k1
        go_wp2
        go_roundg m
        case measure => omega
        case rel =>
          refine ⟨by omega, ?_, ?_, ?_, ?_⟩
          · rw [cm_step ls m l HL.out, ← HK.out]; first | rfl | simp [*]
          · first | rfl | simp
          · have := HST.out 4 (.bool C) { l with leads := C } (by omega) rfl
            rw [HCM.out, laF_step ls m l HL.out, ← HCM.out] at this
            exact this
          · exact HC.out.setCell (p := ⟨g, m * 5 + 4, none⟩) (.inl rfl) _
      · go_wp2
        go_roundg m
        case measure => omega
        case rel =>
          refine ⟨by omega, ?_, ?_, ?_, ?_⟩
          · rw [cm_step ls m l HL.out, ← HK.out]; rw [if_neg k1, if_neg (by omega), ← HCM.out]
          · first | rfl | simp
          · have := HST.out 4 (.bool C) { l with leads := C } (by omega) rfl
            rw [HCM.out, laF_step ls m l HL.out, ← HCM.out] at this
            exact this
          · exact HC.out.setCell (p := ⟨g, m * 5 + 4, none⟩) (.inl rfl) _
end Go.Proofs.YtbehlhnnfdkmaaaGreatDoor.Lt

namespace Go.Proofs.YtbehlhnnfdkmaaaGreatDoor.Lt
open Go.RowKit Wd

theorem splitB_le (sep : ByteArray) (h1 : 1 ≤ sep.size) : ∀ (k : Nat) (s p : ByteArray), p ∈ Lib.splitB sep 0 k s → p.size ≤ s.size := by
  intro k
  induction k with
  | zero =>
    intro s p hp
    simp [Lib.splitB_zero] at hp
    rw [hp]
    exact Nat.le_refl _
  | succ k ih =>
    intro s p hp
    unfold Lib.splitB at hp
    split at hp
    · simp at hp
      rw [hp]
      exact Nat.le_refl _
    · rcases List.mem_cons.1 hp with h | h
      · rw [h, ByteArray.size_extract]
        omega
      · have := ih _ _ h
        rw [ByteArray.size_extract] at this
        omega
theorem SP_le {s p : ByteArray} (h : p ∈ SP s) : p.size ≤ s.size := splitB_le _ (by decide) _ _ _ h
theorem SP_len (s : ByteArray) : (SP s).length ≤ s.size + 1 := by
  have h1 := Lib.countB_le ⟨#[10]⟩ (by decide) s.size s (Nat.le_refl _)
  have h2 := Lib.splitB_all ⟨#[10]⟩ (by decide) 0 _ s rfl
  unfold SP
  omega
theorem told_le (s : ByteArray) : (told s).size ≤ s.size := by
  have e : (told s).size = (Lib.cut s.data.toList [59]).1.length := by
    unfold told
    show (Lib.cut s.data.toList [59]).1.toArray.size = _
    simp
  rw [e]
  have e2 : s.size = s.data.toList.length := rfl
  rw [e2]
  unfold Lib.cut
  split
  · rw [List.length_take]; omega
  · exact Nat.le_refl _
theorem goFields_le (p : Nat → Bool) (s x : ByteArray) (h : x ∈ Lib.goFieldsP p s) : x.size ≤ s.size := by
  unfold Lib.goFieldsP at h
  obtain ⟨y, _, rfl⟩ := List.mem_map.1 h
  rw [ByteArray.size_extract]
  omega
theorem wd_le {s x : ByteArray} (h : x ∈ wd s) : x.size ≤ s.size := Nat.le_trans (goFields_le _ _ _ h) (told_le s)

/-- the lines that count, with their numbers -/
def cutS : List (List ByteArray) → Nat → List (Nat × List ByteArray)
  | [], _ => []
  | ws :: r, i => if ws = [] then cutS r (i + 1) else (i + 1, ws) :: cutS r (i + 1)
theorem cutS_snoc : ∀ (a : List (List ByteArray)) (x : List ByteArray) (i : Nat), cutS (a ++ [x]) i = cutS a i ++ (if x = [] then [] else [(i + a.length + 1, x)]) := by
  intro a
  induction a with
  | nil => intro x i; simp [cutS]
  | cons y ys ih =>
    intro x i
    rw [List.cons_append]
    unfold cutS
    rw [ih, List.length_cons]
    have e : i + 1 + ys.length + 1 = i + (ys.length + 1) + 1 := by omega
    rw [e]
    split <;> simp
theorem cutS_len : ∀ (a : List (List ByteArray)) (i : Nat), (cutS a i).length ≤ a.length := by
  intro a
  induction a with
  | nil => intro i; simp [cutS]
  | cons y ys ih =>
    intro i
    unfold cutS
    have := ih (i + 1)
    split <;> simp <;> omega
/-- the words of a text, line by line -/
def WS (s : ByteArray) : List (List ByteArray) := (SP s).map wd
/-- a line in memory is what it is -/
structure LnOk (P : Nat → Prop) (w : World) (l : Ln) : Prop where
  kind : l.kind = (kd (l.ws.headD ⟨#[]⟩)).1
  op : l.op = (kd (l.ws.headD ⟨#[]⟩)).2
  ne : l.ws ≠ []
  small : Sml l.ws
  lst : Ls eS P w l.wv l.ws
/-- the lines of a text in memory -/
structure CutR (base : Nat) (t : ByteArray) (w : World) (v : Value) (ls : List Ln) : Prop where
  own : Ow eL 5 56 base w v ls
  says : ls.map (fun l => (l.num, l.ws)) = cutS (WS t) 0
  ok : ∀ l ∈ ls, LnOk (fun g => base ≤ g ∧ ¬ Blk v g) w l
  leads : ∀ i l, ls[i]? = some l → l.leads = cm ((ls.drop (i + 1)).map (·.kind))
/-- lines in memory, those up to the j-th of a text -/
structure Cut0 (base : Nat) (t : ByteArray) (j : Nat) (w : World) (v : Value) (ls : List Ln) : Prop where
  own : Ow eL 5 56 base w v ls
  says : ls.map (fun l => (l.num, l.ws)) = cutS ((WS t).take j) 0
  ok : ∀ l ∈ ls, LnOk (fun g => base ≤ g ∧ ¬ Blk v g) w l ∧ l.leads = false
theorem LnOk.ch {P Q S : Nat → Prop} {w w' : World} {l : Ln} (h : LnOk P w l) (k : Ch S w w') (hs : ∀ g, g < w.heap.size → P g → ¬ S g) (hq : ∀ g, g < w.heap.size → P g → Q g) : LnOk Q w' l :=
  ⟨h.kind, h.op, h.ne, h.small, ((h.lst.mono (Q := fun g => P g ∧ Q g) (fun g a b => ⟨b, hq g a b⟩)).ch k (fun g a b => hs g a b.1)).mono (fun _ _ b => b.2)⟩
theorem Cut0.gr {base : Nat} {t : ByteArray} {j : Nat} {w w' : World} {v : Value} {ls : List Ln} (h : Cut0 base t j w v ls) (k : Gr w w') : Cut0 base t j w' v ls :=
  ⟨h.own.gr k, h.says, fun l hl => ⟨(h.ok l hl).1.ch k (fun _ _ _ => noB _) (fun _ _ x => x), (h.ok l hl).2⟩⟩
theorem line_info : (Tryz.prog.info? 56).map (fun i => (i.zero, i.size, i.bytes)) = some (some (.agg #[.int .i64 0, .slice none 0 0, .int .i64 0, .int .i64 0, .bool false]), 5, 56) := by kernel_rfl
theorem eL_one (l : Ln) (h : l.wv.oneCell' = true) : ∀ u ∈ [l].flatMap eL, u.oneCell' = true := by
  intro u hu
  simp [eL] at hu
  rcases hu with rfl | rfl | rfl | rfl | rfl
  · rfl
  · exact h
  all_goals rfl
/-- one line more -/
theorem Cut0.snoc {base : Nat} {t : ByteArray} {j : Nat} {w w1 w' : World} {v v' : Value} {ls : List Ln} {l : Ln} {s : ByteArray} (h : Cut0 base t j w v ls) (hs : (SP t)[j]? = some s) (hw : wd s = l.ws) (hnum : l.num = j + 1) (k1 : Gr w w1)
    (hl : LnOk (fun g => w.heap.size ≤ g) w1 l) (hlead : l.leads = false) (hb : base ≤ w.heap.size) (ho : Ow eL 5 56 base w' v' (ls ++ [l])) (k : Ch (Blk v) w1 w') (hv : ∀ q, Blk v' q → Blk v q ∨ w1.heap.size ≤ q) : Cut0 base t (j + 1) w' v' (ls ++ [l]) := by
  have hlt : ∀ q, Blk v q → q < w.heap.size := fun q hq => (h.own.blk hq).2
  refine ⟨ho, ?_, fun x hx => ?_⟩
  · have e : (WS t).take (j + 1) = (WS t).take j ++ [wd s] := by
      have hj : (WS t)[j]? = some (wd s) := by unfold WS; rw [List.getElem?_map, hs]; rfl
      rw [List.take_add_one, hj]
      rfl
    have hlen : ((WS t).take j).length = j := by
      rw [List.length_take]
      have : j < (WS t).length := by unfold WS; rw [List.length_map]; exact (List.getElem?_eq_some_iff.1 hs).1
      omega
    rw [e, cutS_snoc, List.map_append, h.says, hw, if_neg hl.ne, hlen]
    simp [hnum]
  · rcases List.mem_append.1 hx with hx | hx
    · obtain ⟨a, b⟩ := h.ok x hx
      refine ⟨((a.ch k1 (fun _ _ _ => noB _) (Q := fun g => (base ≤ g ∧ ¬ Blk v g) ∧ g < w.heap.size) (fun g hg p => ⟨p, hg⟩)).ch k (fun g _ p => p.1.2) (fun g _ p => ⟨p.1.1, fun hq => ?_⟩)), b⟩
      rcases hv g hq with e | e
      · exact p.1.2 e
      · have := k1.size
        have := p.2
        omega
    · have e : x = l := by simpa using hx
      subst e
      refine ⟨(hl.ch (Q := fun g => w.heap.size ≤ g ∧ g < w1.heap.size) (Ch.refl (fun _ => False) w1) (fun _ _ _ x => x) (fun g a b => ⟨b, a⟩)).ch k (fun g _ p hq => ?_) (fun g _ p => ⟨by have := p.1; omega, fun hq => ?_⟩), hlead⟩
      · have := hlt g hq
        have := p.1
        omega
      · rcases hv g hq with e | e
        · have := hlt g e
          have := p.1
          omega
        · have := p.2
          omega
theorem Cut0.skip {base : Nat} {t : ByteArray} {j : Nat} {w : World} {v : Value} {ls : List Ln} {s : ByteArray} (h : Cut0 base t j w v ls) (hs : (SP t)[j]? = some s) (hw : wd s = []) : Cut0 base t (j + 1) w v ls := by
  refine ⟨h.own, ?_, h.ok⟩
  have e : (WS t).take (j + 1) = (WS t).take j ++ [wd s] := by
    have hj : (WS t)[j]? = some (wd s) := by unfold WS; rw [List.getElem?_map, hs]; rfl
    rw [List.take_add_one, hj]
    rfl
  rw [e, cutS_snoc, h.says, hw]
  simp

set_option maxHeartbeats 2000000 in
set_option maxRecDepth 20000 in
theorem cut_lines (t : ByteArray) (ht : t.size ≤ 262144) (w : World) (hg : Glb w) :
    Calls Tryz.prog 20 #[.string t] w fun e w' => ∃ v ls, e = .returned v ∧ CutR (w.heap.size + 1) t w' v ls ∧ Gr w w' := by
  have HG := hid hg
  clear hg
  have hn := SP_len t
  obtain ⟨n, hn'⟩ : ∃ n, n = (SP t).length := ⟨_, rfl⟩
  have HN := hid hn'
  rw [← hn'] at hn
  clear hn'
  have HSP := hid (split_any t w (by omega) HG.out)
  go_enter Tryz.func20, Tryz.ntmps20
  go_wp2_with (go_at_call 44; refine HSP.out.mono ?_; rintro e w0 ⟨k, rfl, hk, hw0⟩; rw [← HN.out] at hk; subst hk; subst hw0)
  have HW0 := hid (MapKept.heap_alloc w (.cells ((SP t).map Value.string).toArray 9)).1
  have HG0 := hid (Gr.alloc (Gr.refl w) ((SP t).map Value.string).toArray 9)
  obtain ⟨W0, hW0⟩ : ∃ W, W = w.alloc (.cells ((SP t).map Value.string).toArray 9) := ⟨_, rfl⟩
  rw [← hW0] at HW0 HG0 ⊢
  have HS0 := hid (show W0.heap.size = w.heap.size + 1 by rw [hW0]; simp)
  clear hW0
  go_loopg [3, 15] k (fun m v i wr => ∃ j ao nl cl ls, j + m = k ∧ i = .int .i64 ((j : Nat) : Int) ∧ v = .slice ao nl cl ∧ nl = ls.length ∧ Cut0 (w.heap.size + 1) t j wr (.slice ao nl cl) ls ∧ Gr W0 wr)
  case atStart => exact ⟨0, none, 0, 0, [], by omega, rfl, rfl, rfl, ⟨Ow.nil _ _ _ _ _, rfl, fun l hl => by simp at hl⟩, Gr.refl _⟩
  case round =>
    obtain ⟨j, ao, nl, cl, ls, hjk, rfl, rfl, hnl, hcut, hgr⟩ := hrel
    have HC := hid hcut
    have HR := hid hgr
    have HNL := hid hnl
    have hls : nl ≤ j := by
      have e1 := congrArg List.length hcut.says
      rw [List.length_map] at e1
      have e2 := cutS_len ((WS t).take j) 0
      rw [List.length_take] at e2
      rw [hnl]
      omega
    clear hcut hgr hnl
    by_cases hj : j < k
    · obtain ⟨s, hs⟩ : ∃ s, (SP t)[j]? = some s := ⟨_, List.getElem?_eq_getElem (by rw [← HN.out]; exact hj)⟩
      have hcj : wr.cell? ⟨w.heap.size, j, none⟩ = some (.string s) := by
        rw [HR.out.cell (lt_of_block HW0.out), cell_of HW0.out]
        simp [hs]
      have hss : s.size ≤ 262144 := Nat.le_trans (SP_le (List.mem_of_getElem? hs)) ht
      have hts := told_le s
      have HS := hid hs
      have j0 : (0 : Int) ≤ (j : Int) := by omega
      have j1 : (j : Int) < (k : Int) := by omega
      have HCU := hid (cut_any s wr (by omega) (HG.out.gr (HG0.out.trans HR.out)))
      have HFF := hid (fun (W : World) => fieldsF_any (told s) W (by omega))
      have HWS := hid (show Sml (wd s) from fun x hx => by have := wd_le hx; omega)
      obtain ⟨wl, hwl⟩ : ∃ wl, wl = wd s := ⟨_, rfl⟩
      have hwl' : Lib.goFieldsP blR (told s) = wl := by rw [hwl]; rfl
      rw [hwl'] at HFF
      have HWL := hid hwl
      clear hs hwl hwl' hts
      cases hlw : wl with
      | nil =>
        rw [hlw] at HFF HWL
        have HJ := hid (show j + gk = k ∧ nl ≤ j from ⟨hjk, hls⟩)
        clear hlw hjk hls
        go_wp2_with (first | (go_at_call 45; refine HCU.out.mono ?_; rintro e w1 ⟨⟨b, c, rfl⟩, q, hw1⟩; subst hw1) | (go_at_call 46; refine (HFF.out _).mono ?_; rintro e w2 ⟨A, kk, rfl, hkk, hA, ho2, hg2⟩; have hkk0 : kk = 0 := hkk; clear hkk; subst hkk0; have HG2 := hid (Ch.trans' ((Gr.refl wr).drewN q) hg2); clear ho2 hg2))
        go_roundg (gk - 1)
        case measure => have := HJ.out; omega
        case rel => exact ⟨j + 1, ao, nl, cl, ls, by have := HJ.out; omega, by simp, rfl, HNL.out, (HC.out.gr HG2.out).skip HS.out HWL.out.symm, HR.out.trans HG2.out⟩
      | cons w0 wt =>
        rw [hlw] at HFF HWL
        have HJ := hid (show j + gk = k ∧ nl ≤ j from ⟨hjk, hls⟩)
        have hw0 : w0.size ≤ 262144 := by
          have h1 : w0 ∈ wd s := by rw [← HWL.out]; simp
          have := wd_le h1
          omega
        have HKO := hid (fun (W : World) (q : Names W) => kindOf_any w0 W (by omega) q)
        obtain ⟨K1, hK1⟩ : ∃ K, K = (kd w0).1 := ⟨_, rfl⟩
        obtain ⟨K2, hK2⟩ : ∃ K, K = (kd w0).2 := ⟨_, rfl⟩
        rw [← hK1, ← hK2] at HKO
        have HK1 := hid hK1
        have HK2 := hid hK2
        clear hlw hjk hK1 hK2
        go_wp2_with (first | (go_at_call 45; refine HCU.out.mono ?_; rintro e w1 ⟨⟨b, c, rfl⟩, q, hw1⟩; subst hw1) | (go_at_call 46; refine (HFF.out _).mono ?_; rintro e w2 ⟨A, kk, rfl, hkk, hA, ho2, hg2⟩; have HKK := hid hkk; have hkp : 0 < kk := (by rw [hkk]; simp); have hg2' := Ch.trans' ((Gr.refl wr).drewN q) hg2; have HG2 := hid hg2'; have HO2 := hid ho2; have HA := hid (show wr.heap.size ≤ A from hA); obtain ⟨gA, cA, hvA, _, hlA, hcA, hca, hfa, _⟩ := ho2.get eS_len (i := 0) (a := w0) rfl; injection hvA with hv1 hv2 hv3; injection hv1 with hv1; injection hv1 with hv1; subst hv1; have ca0 := hca 0 _ rfl; rw [Nat.zero_mul, Nat.add_zero] at ca0; clear ho2 hg2 hg2' hkk hv2 hv3 hcA hca hfa hA) | (go_at_call 48; refine (HKO.out _ (HG.out.gr (HG0.out.trans (HR.out.trans HG2.out))).nm).mono ?_; rintro e w3 ⟨rfl, hw3⟩; have hw3 := hw3.symm; subst hw3) | (at_builtin; refine wpList_append_ow eL_len rfl (.tmp 38) (.tmp 45) _ 56 56 _ Tryz.underlying52 line_info rfl (by omega) rfl (w.heap.size + 1) _ ls rfl ((HC.out.gr HG2.out).own.alloc _) _ _ [⟨j + 1, w0 :: wt, .slice (some ⟨A, 0, none⟩) kk kk, K1, K2, false⟩] rfl (Ls.single w2 _ _ _ rfl) (eL_one _ rfl) (nl + 1) (by rw [HNL.out]; rfl) (by omega) (by unfold maxLen; omega) (by simp; have := HG2.out.size; have := HR.out.size; have := HS0.out; omega) _ rfl ?_; intro ao4 cap4 w4 ow4 cw4 bl4; have HO4 := hid ow4; have HC4 := hid cw4; have HB4 := hid bl4; clear ow4 cw4 bl4))
        go_roundg (gk - 1)
        case measure => have := HJ.out; omega
        case rel =>
          have hsm : Sml (w0 :: wt) := fun x hx => HWS.out x (by rw [← HWL.out]; exact hx)
          have hln : LnOk (fun g => wr.heap.size ≤ g) (w2.alloc (.cells #[.int .i64 ((j : Int) + 1), .slice (some ⟨A, 0, none⟩) kk kk, .int .i64 K1, .int .i64 (K2 : Nat), .bool false] 56)) ⟨j + 1, w0 :: wt, .slice (some ⟨A, 0, none⟩) kk kk, K1, K2, false⟩ :=
            ⟨HK1.out, HK2.out, by simp, hsm, HO2.out.lst.alloc _⟩
          exact ⟨j + 1, ao4, nl + 1, cap4, _, by have := HJ.out; omega, by simp, rfl, by rw [HNL.out]; simp, HC.out.snoc HS.out HWL.out.symm rfl (Ch.alloc HG2.out _) hln rfl (by have := HR.out.size; have := HS0.out; omega) HO4.out HC4.out HB4.out,
            Ch.trans (Ch.alloc (Gr.trans HR.out HG2.out) _) HC4.out (fun q hq => .inr (by have := (HC.out.own.blk hq).1; have := HS0.out; omega))⟩
    · have hjk' : j = k := by omega
      subst hjk'
      have hlen : ls.length ≤ 4294967296 := by rw [← HNL.out]; omega
      have HLA := hid (lookAhead_any (w.heap.size + 1) (.slice ao nl cl) ls hlen wr HC.out.own)
      go_wp2_with (go_at_call 49; refine HLA.out.mono ?_; rintro e w1 ⟨rfl, ho1, hc1⟩; have HO1 := hid ho1; have HC1 := hid hc1; clear ho1 hc1)
      go_ret
      refine ⟨_, laF ls 0, rfl, ⟨HO1.out, ?_, fun l hl => ?_, fun i l hi => ?_⟩, Gr.trans HG0.out (Ch.trans HR.out HC1.out (fun q hq => .inr (by have := (HC.out.own.blk hq).1; have := HS0.out; omega)))⟩
      · have e1 : (laF ls 0).map (fun l => (l.num, l.ws)) = ls.map (fun l => (l.num, l.ws)) := by
          apply List.ext_getElem?
          intro i
          rw [List.getElem?_map, List.getElem?_map, laF_get]
          cases ls[i]? <;> rfl
        rw [e1, HC.out.says]
        have e2 : (WS t).length = j := by unfold WS; rw [List.length_map]; exact HN.out.symm
        rw [← e2, List.take_length]
      · obtain ⟨i, hi⟩ := List.getElem?_of_mem hl
        rw [laF_get] at hi
        cases hx : ls[i]? with
        | none => rw [hx] at hi; cases hi
        | some x =>
          rw [hx] at hi
          simp only [Option.map_some, Nat.zero_le, if_true, Option.some.injEq] at hi
          subst hi
          have a := (HC.out.ok x (List.mem_of_getElem? hx)).1
          have b := a.ch HC1.out (fun g _ p => p.2) (Q := fun g => w.heap.size + 1 ≤ g ∧ ¬ Blk (.slice ao nl cl) g) (fun _ _ p => p)
          exact ⟨b.kind, b.op, b.ne, b.small, b.lst⟩
      · have e3 : (laF ls 0).map (·.kind) = ls.map (·.kind) := by
          apply List.ext_getElem?
          intro i
          rw [List.getElem?_map, List.getElem?_map, laF_get]
          cases ls[i]? <;> rfl
        rw [laF_get] at hi
        cases hx : ls[i]? with
        | none => rw [hx] at hi; cases hi
        | some x =>
          rw [hx] at hi
          simp only [Option.map_some, Nat.zero_le, if_true, Option.some.injEq] at hi
          subst hi
          show cm _ = cm _
          rw [List.map_drop, List.map_drop, e3]
end Go.Proofs.YtbehlhnnfdkmaaaGreatDoor.Lt

namespace Go.Proofs.YtbehlhnnfdkmaaaGreatDoor.Lt
open Go.RowKit Wd

/-- a line's value -/
def lV (l : Ln) : Value := .agg #[.int .i64 (l.num : Nat), l.wv, .int .i64 l.kind, .int .i64 (l.op : Nat), .bool l.leads]
/-- a label's name -/
def lbl (s : ByteArray) : ByteArray := s.extract 0 (s.size - 1)
theorem lbl_le (s : ByteArray) : (lbl s).size ≤ s.size := by unfold lbl; rw [ByteArray.size_extract]; omega
def rlN (x : Rs) (s : ByteArray) : Nm := insN x 1 (lbl s)
def rlE (x : Rs) (ws : List ByteArray) (ld : Bool) : Int := if decide (ws.length = 1) && nameOk (lbl (ws.headD ⟨#[]⟩)) then (if x.inF && ld then giveE x (rlN x (ws.headD ⟨#[]⟩)) else 74) else 70
def rlS (x : Rs) (ws : List ByteArray) : Rs := giveS x (rlN x (ws.headD ⟨#[]⟩)) (x.ask.length : Nat)

set_option maxHeartbeats 1000000 in
set_option maxRecDepth 20000 in
theorem readLabel_any (base R M : Nat) (w : World) (x : Rs) (l : Ln) (s : ByteArray) (wt : List ByteArray) (hws : l.ws = s :: wt) (hs1 : 1 ≤ s.size) (hl : Ls eS (fun g => ¬ SR base R M g) w l.wv l.ws) (hz : Sml l.ws) (hf : Few x) (h : Red base R M w x) :
    Calls Tryz.prog 52 #[.pointer (some ⟨R, 0, none⟩), lV l] w (Dn base R M w (rlE x l.ws l.leads) (rlS x l.ws)) := by
  obtain ⟨va, vf, vt, ts, h⟩ := h
  obtain ⟨num, ws, wv, kind, op, leads⟩ := l
  simp only at hws hl hz ⊢
  subst hws
  unfold lV
  simp only
  obtain ⟨g, o, cap, rfl, hP, hgl, hcap, hc⟩ := hl.get eS_len (i := 0) (a := s) rfl
  have c0 := hc 0 _ rfl
  simp only [Nat.zero_mul, Nat.add_zero] at c0
  have hss := hz s (by simp)
  have hlb := lbl_le s
  have HM := hid (fun (W : World) => isName_any (lbl s) W (by omega))
  clear hc hl hz
  have hbR := h.blk
  obtain ⟨p0, p1, p2, p3, p4, p5, -, pl⟩ := Six.of hbR
  clear hbR
  obtain ⟨aoa, ca, rfl⟩ := h.a.form
  have hal := hf.a
  have hfl := hf.f
  have HX := hid h
  have Hf := hid hf
  obtain ⟨iF, hiF⟩ : ∃ b, b = x.inF := ⟨_, rfl⟩
  rw [← hiF] at p4
  have HiF := hid hiF
  obtain ⟨n, hn⟩ : ∃ n, n = (s :: wt).length := ⟨_, rfl⟩
  have hn1 : 1 ≤ n := by rw [hn]; simp
  rw [← hn] at hcap ⊢
  have HN := hid hn
  have hlt0 : w.heap.size < w.heap.size + 1 := by omega
  have gne : ¬ g = w.heap.size := by omega
  have Rne : ¬ R = w.heap.size := by omega
  have ex : s.extract 0 (s.size - 1) = lbl s := rfl
  obtain ⟨L, hL⟩ : ∃ L, L = lbl s := ⟨_, rfl⟩
  rw [← hL] at HM ex
  have HL := hid hL
  have hsz : ((s.size : Nat) : Int) - 1 = ((s.size - 1 : Nat) : Int) := by omega
  clear hL h hf hiF hn hlb
  have sz0 : (0 : Int) ≤ ((s.size - 1 : Nat) : Int) := by omega
  have sz1 : ((s.size - 1 : Nat) : Int) ≤ (s.size : Int) := by omega
  by_cases hn2 : n = 1
  · have hn3 : (s :: wt).length = 1 := by rw [← HN.out]; exact hn2
    have hwt : wt = [] := by simpa using hn3
    subst hwt
    subst hn2
    cases hq : nameOk L with
    | false =>
      have eE : rlE x [s] leads = 70 := by unfold rlE; simp [← HL.out, hq]
      rw [eE]
      rw [hq] at HM
      clear eE
      go_enter Tryz.func52, Tryz.ntmps52
      go_wp2_with fail
      go_quiet (fail)
      go_wp2_with (go_at_call 93; refine (HM.out _).mono ?_; rintro e w2 ⟨rfl, hw⟩; have hw := hw.symm; subst hw)
      go_ret
      exact Dn.bad (by omega) (Ch.any (((Gr.refl w).alloc _ _).drewN _))
    | true =>
      rw [hq] at HM
      have eE : rlE x [s] leads = (if iF && leads then giveE x (rlN x s) else 74) := by unfold rlE; simp [← HL.out, hq, HiF.out]
      rw [eE]
      clear eE
      cases iF with
      | false =>
        simp only [Bool.false_and, Bool.false_eq_true, if_false]
        go_enter Tryz.func52, Tryz.ntmps52
        go_wp2_with fail
        go_quiet (fail)
        go_wp2_with (go_at_call 93; refine (HM.out _).mono ?_; rintro e w2 ⟨rfl, hw⟩; have hw := hw.symm; subst hw)
        go_ret
        exact Dn.bad (by omega) (Ch.any (((Gr.refl w).alloc _ _).drewN _))
      | true =>
        cases leads with
        | false =>
          simp only [Bool.and_false, Bool.false_eq_true, if_false]
          go_enter Tryz.func52, Tryz.ntmps52
          go_wp2_with fail
          go_quiet (fail)
          go_wp2_with (go_at_call 93; refine (HM.out _).mono ?_; rintro e w2 ⟨rfl, hw⟩; have hw := hw.symm; subst hw)
          go_ret
          exact Dn.bad (by omega) (Ch.any (((Gr.refl w).alloc _ _).drewN _))
        | true =>
          simp only [Bool.and_self, if_true]
          have hk : Nok (rlN x s) := ⟨⟨by show (0 : Int) ≤ 1; omega, by show (1 : Int) ≤ 3; omega⟩, ⟨by show (-1 : Int) ≤ (if (1 : Int) = 1 then (x.fn.length : Int) - 1 else 0); rw [if_pos rfl]; omega, by show (if (1 : Int) = 1 then (x.fn.length : Int) - 1 else 0) ≤ (4294967296 : Int); rw [if_pos rfl]; omega⟩, by show (lbl s).size ≤ _; have := lbl_le s; omega⟩
          have HIN := hid (fun (W : World) (q : Rd base R M W (.slice aoa x.ask.length ca) vf vt ts x) => inside_any base R M W _ _ _ ts x 1 L Hf.out.f q)
          have HGI := hid (fun (W : World) (q : Rd base R M W (.slice aoa x.ask.length ca) vf vt ts x) => give_any base R M W _ _ _ ts x (rlN x s) (x.ask.length : Nat) hk q)
          unfold Gvn at HGI
          have hnm : insN x 1 L = rlN x s := by unfold rlN; rw [← HL.out]
          rw [hnm] at HIN
          obtain ⟨E, hE⟩ : ∃ E, E = giveE x (rlN x s) := ⟨_, rfl⟩
          rw [← hE] at HGI ⊢
          have HE := hid hE
          have HXS := hid (show rlS x [s] = giveS x (rlN x s) (x.ask.length : Nat) from rfl)
          obtain ⟨NX, hNX⟩ : ∃ NX, NX = rlN x s := ⟨_, rfl⟩
          rw [← hNX] at HIN HGI HXS
          obtain ⟨na, hna⟩ : ∃ n, n = x.ask.length := ⟨_, rfl⟩
          rw [← hna] at HIN HGI HXS HX p0 hal
          unfold kV at HIN HGI
          clear hE hnm hk hna hNX HL
          go_enter Tryz.func52, Tryz.ntmps52
          go_wp2_with fail
          go_quiet (fail)
          go_wp2_with (go_at_call 93; refine (HM.out _).mono ?_; rintro e w2 ⟨rfl, hw⟩; have hw := hw.symm; subst hw)
          have HGV := hid (show Gr w ((w.alloc (.cells #[.int .i64 (num : Nat), .slice (some ⟨g, o, none⟩) 1 cap, .int .i64 kind, .int .i64 (op : Nat), .bool true] 56)).drewN nq) from ((Gr.refl w).alloc _ _).drewN _)
          generalize (w.alloc (.cells #[.int .i64 (num : Nat), .slice (some ⟨g, o, none⟩) 1 cap, .int .i64 kind, .int .i64 (op : Nat), .bool true] 56)).drewN nq = V at HGV ⊢
          have HV := hid (HX.out.gr HGV.out)
          clear c0 p0 p1 p2 p3 p4 p5 pl hgl gne Rne hlt0
          have hS0 : (fun w' => w'.cell? ⟨R, 0, none⟩ = some (.slice aoa na ca)) V.drew := (cell_of HV.out.blk 0).trans rfl
          refine wp_region_held_drew (S := fun w' => w'.cell? ⟨R, 0, none⟩ = some (.slice aoa na ca)) (by kernel_rfl) (by exact hS0) (fun hSx => ?_)
          clear hSx
          refine takeS_on (i := 0) 36 (v := ?v18) rfl rfl (by kernel_rfl) (by kernel_rfl) (by kernel_rfl) (fun _ _ _ h => h) (by kernel_rfl) ?hy18 (by exact hS0) ?_
          case hy18 => (intro w' hSw; go_simp; try (with_reducible rfl))
          simp only [Act.put, List.setIfInBounds_toArray, List.set_cons_zero, List.set_cons_succ]
          refine takeS_on (i := 1) 37 (v := ?v19) rfl rfl (by kernel_rfl) (by kernel_rfl) (by kernel_rfl) (fun _ _ _ h => h) (by kernel_rfl) ?hy19 (by exact hS0) ?_
          case hy19 => (intro w' hSw; go_simp; try (with_reducible rfl))
          simp only [Act.put, List.setIfInBounds_toArray, List.set_cons_zero, List.set_cons_succ]
          refine takeS_on (i := 2) 38 (v := ?v20) rfl rfl (by kernel_rfl) (by kernel_rfl) (by kernel_rfl) (fun _ _ _ h => h) (by kernel_rfl) ?hy20 (by exact hS0) ?_
          case hy20 => (intro w' hSw; go_simp; try (with_reducible rfl))
          simp only [Act.put, List.setIfInBounds_toArray, List.set_cons_zero, List.set_cons_succ]
          refine takeS_on (i := 4) 40 (v := ?v21) rfl rfl (by kernel_rfl) (by kernel_rfl) (by kernel_rfl) (fun _ _ _ h => h) (by kernel_rfl) ?hy21 (by exact hS0) ?_
          case hy21 => (intro w' hSw; go_simp; try (with_reducible rfl))
          simp only [Act.put, List.setIfInBounds_toArray, List.set_cons_zero, List.set_cons_succ]
          refine takeS_on (i := 5) 41 (v := ?v22) rfl rfl (by kernel_rfl) (by kernel_rfl) (by kernel_rfl) (fun _ _ _ h => h) (by kernel_rfl) ?hy22 (by exact hS0) ?_
          case hy22 => (intro w' hSw; go_simp; try (with_reducible rfl))
          simp only [Act.put, List.setIfInBounds_toArray, List.set_cons_zero, List.set_cons_succ]
          refine takeS_on (i := 6) 42 (v := ?v23) rfl rfl (by kernel_rfl) (by kernel_rfl) (by kernel_rfl) (fun _ _ _ h => h) (by kernel_rfl) ?hy23 (by exact hS0) ?_
          case hy23 => (intro w' hSw; go_simp; try (with_reducible rfl))
          simp only [Act.put, List.setIfInBounds_toArray, List.set_cons_zero, List.set_cons_succ]
          refine takeS_on (i := 7) 43 (v := ?v24) rfl rfl (by kernel_rfl) (by kernel_rfl) (by kernel_rfl) (fun _ _ _ h => h) (by kernel_rfl) ?hy24 (by exact hS0) ?_
          case hy24 => (intro w' hSw; go_simp; try (with_reducible rfl))
          simp only [Act.put, List.setIfInBounds_toArray, List.set_cons_zero, List.set_cons_succ]
          refine takeS_on (i := 8) 44 (v := ?v25) rfl rfl (by kernel_rfl) (by kernel_rfl) (by kernel_rfl) (fun _ _ _ h => h) (by kernel_rfl) ?hy25 (by exact hS0) ?_
          case hy25 => (intro w' hSw; go_simp; try (with_reducible rfl))
          simp only [Act.put, List.setIfInBounds_toArray, List.set_cons_zero, List.set_cons_succ]
          refine wpAnyH_ready (rs := [3]) (by kernel_rfl) (by simp) (AllReadyH.cons rfl (fun K hK => ?_) AllReadyH.nil)
          go_simp
          refine (HIN.out _ (HV.out.gr (Ch.drew (Gr.refl V)))).mono ?_
          rintro e w3 ⟨rfl, gr3⟩
          have rd3 := (HV.out.gr (Ch.drew (Gr.refl V))).gr gr3
          have hS3 : (fun w' => w'.cell? ⟨R, 0, none⟩ = some (.slice aoa na ca)) w3 := (cell_of rd3.blk 0).trans rfl
          have RD3 := hid rd3
          have GR3 := hid (Gr.trans HGV.out (Gr.trans (Ch.drew (Gr.refl V)) gr3))
          clear rd3 gr3
          refine hK.out _ _ (by exact hS3) (fun hSx => ?_)
          clear hSx hK K
          refine wpAnyH_ready (rs := [9]) (by kernel_rfl) (by simp) (AllReadyH.cons rfl (fun K hK => ?_) AllReadyH.nil)
          go_simp
          refine (HGI.out _ RD3.out).mono ?_
          rintro e w4 ⟨rfl, rd4, ch4, gg4⟩
          have hS4 : (fun w' => w'.cell? ⟨R, 0, none⟩ = some (.slice aoa na ca)) w4 := (cell_of rd4.blk 0).trans rfl
          have RD4 := hid rd4
          have CH4 := hid (Ch.trans (GR3.out.any (S := SR base R M)) ch4 (fun _ e => .inl e))
          have GG4 := hid (fun (h : E ≠ 0) => Gr.trans GR3.out (gg4 h))
          clear rd4 ch4 gg4
          refine hK.out _ _ (by exact hS4) (fun hSx => ?_)
          clear hSx hK K
          refine takeS_on (i := 10) 4 (v := ?v26) rfl rfl (by kernel_rfl) (by kernel_rfl) (by kernel_rfl) (fun _ _ _ h => h) (by kernel_rfl) ?hy26 (by exact hS4) ?_
          case hy26 => (intro w' hSw; go_simp; try (with_reducible rfl))
          simp only [Act.put, List.setIfInBounds_toArray, List.set_cons_zero, List.set_cons_succ]
          refine wpAnyH_done (by kernel_rfl) ?_ _
          clear hS0 hS3 hS4
          go_wp2
          go_ret
          refine ⟨rfl, fun _ => ?_, CH4.out, GG4.out⟩
          rw [HXS.out]
          exact RD4.out.red
  · have eE : rlE x (s :: wt) leads = 70 := by unfold rlE; rw [← HN.out]; simp [hn2]
    rw [eE]
    have hn3 : ¬ ((n : Nat) : Int) = 1 := by omega
    clear eE hn2
    go_enter Tryz.func52, Tryz.ntmps52
    go_wp2_with fail
    go_quiet (fail)
    go_wp2
    go_ret
    exact Dn.bad (by omega) (Ch.any (((Gr.refl w).alloc _ _).drewN _))
end Go.Proofs.YtbehlhnnfdkmaaaGreatDoor.Lt

namespace Go.Proofs.YtbehlhnnfdkmaaaGreatDoor.Lt
open Go.RowKit Wd

theorem modify_last' {α : Type} (l : List α) (m : Nat) (a : α) (f : α → α) (hl : l.length = m + 1) (ha : l[m]? = some a) : l.modify (l.length - 1) f = l.set m (f a) := by
  have e : l.length - 1 = m := by omega
  rw [e]
  apply List.ext_getElem?
  intro i
  rw [List.getElem?_modify, List.getElem?_set]
  by_cases h : m = i
  · subst h
    rw [ha]
    simp [hl]
  · simp [h]
section
variable {base R M : Nat} {w w1 w2 : World} {va vf vt : Value} {ts : List Tb} {x : Rs}
theorem Rd.bumpF (h : Rd base R M w va vf vt ts x) {m : Nat} {f : Nat × Nat} (hm : x.fn[m]? = some f) : ∃ g cap, vf = .slice (some ⟨g, 0, none⟩) x.fn.length cap ∧ base ≤ g ∧ g < w.heap.size ∧ x.fn.length ≤ cap ∧ w.cell? ⟨g, m * 2 + 1, none⟩ = some (.int .i64 (f.2 : Nat)) ∧ w.frozen? ⟨g, m * 2 + 1, none⟩ = false ∧
    Rd base R M (w.setCell ⟨g, m * 2 + 1, none⟩ (.int .i64 ((f.2 + 1 : Nat) : Int))) va vf vt ts { x with fn := x.fn.set m (f.1, f.2 + 1) } := by
  obtain ⟨g, cap, hv, hb, hl, hc, hcs, hfz, hst⟩ := h.f.get eF_len hm
  refine ⟨g, cap, hv, hb, hl, hc, hcs 1 _ rfl, hfz _, ?_⟩
  obtain ⟨⟨d1, d2, d3⟩, d4, d5⟩ := h.parts
  have C : Ch (Only g) w (w.setCell ⟨g, m * 2 + 1, none⟩ (.int .i64 ((f.2 + 1 : Nat) : Int))) := (Ch.refl _ _).own _ _
  have gB : Blk vf g := by rw [hv]; rfl
  have nR : ¬ Only g R := fun e => by have e1 : R = g := e; have := h.ltR; omega
  have nM : ¬ Only g M := fun e => by have e1 : M = g := e; have := h.ltM; omega
  have far : ∀ {u : Value}, Dj vf u → ∀ q, Blk u q → ¬ Only g q := fun d q hq e => by
    have e1 : q = g := e
    subst e1
    exact d q gB hq
  exact
    { blk := (C.block R (lt_of_block h.blk) nR).trans h.blk
      a := h.a.ch C (far d1.symm)
      f := by
        have := hst 1 (.int .i64 ((f.2 + 1 : Nat) : Int)) (f.1, f.2 + 1) (by omega) rfl
        exact this
      t := h.t.ch C (far d3), tsq := h.tsq
      cs := fun t ht => (h.cs t ht).ch C (far (d4 t ht).2.1)
      m := (C.block M (lt_of_block h.m) nM).trans h.m
      mo := h.mo, dj := h.dj, ltR := h.ltR, ltM := h.ltM, ne := h.ne, ltB := Nat.le_trans h.ltB C.size }
theorem Rd.tableAt (h : Rd base R M w va vf vt ts x) {m : Nat} {t : Tb} (hm : ts[m]? = some t) : ∃ g cap, vt = .slice (some ⟨g, 0, none⟩) ts.length cap ∧ base ≤ g ∧ g < w.heap.size ∧ ts.length ≤ cap ∧ w.cell? ⟨g, m * 2, none⟩ = some t.cv ∧ ∀ o, w.frozen? ⟨g, o, none⟩ = false := by
  obtain ⟨g, cap, hv, hb, hl, hc, hcs, hfz, _⟩ := h.t.get eT_len hm
  exact ⟨g, cap, hv, hb, hl, hc, hcs 0 _ rfl, hfz⟩
theorem Rd.newC (h : Rd base R M w va vf vt ts x) {m g n cap : Nat} {t : Tb} (hm : ts[m]? = some t) (hv : vt = .slice (some ⟨g, 0, none⟩) n cap) {cv' : Value} {cs' : List Cs} (k1 : Gr w w1) (ho : Ow eC 4 46 base w2 cv' cs') (k : Ch (Blk t.cv) w1 w2) (hb : ∀ q, Blk cv' q → Blk t.cv q ∨ w1.heap.size ≤ q) :
    Rd base R M (w2.setCell ⟨g, m * 2, none⟩ cv') va vf vt (ts.set m ⟨cs', cv', t.df⟩) { x with tb := x.tb.set m (cs', t.df) } := by
  have tm := List.mem_of_getElem? hm
  obtain ⟨⟨d1, d2, d3⟩, d4, d5⟩ := h.parts
  obtain ⟨e1, e2, e3⟩ := d4 t tm
  have lo : ∀ {α : Type} {enc : α → List Value} {K e : Nat} {u : Value} {xs : List α}, Ow enc K e base w u xs → ∀ q, Blk u q → q < w1.heap.size := fun o q hq => by
    have := (o.blk hq).2
    have := k1.size
    omega
  have ht2 : Ow eT 2 44 base w2 vt ts := (h.t.gr k1).ch k (fun g hg e => e3 g hg e)
  obtain ⟨g', cap', hv', hb', hl', _, _, _, hst⟩ := ht2.get eT_len hm
  have gg : g' = g := by
    rw [hv] at hv'
    injection hv' with q1 q2 q3
    injection q1 with q1
    injection q1 with q1
    exact q1.symm
  subst gg
  have C : Ch (Only g') w2 (w2.setCell ⟨g', m * 2, none⟩ cv') := (Ch.refl _ _).own _ _
  have gB : Blk vt g' := by rw [hv]; rfl
  have nR : ¬ Only g' R := fun e => by have q1 : R = g' := e; have := h.ltR; omega
  have nM : ¬ Only g' M := fun e => by have q1 : M = g' := e; have := h.ltM; omega
  have far : ∀ {u : Value}, Dj vt u → ∀ q, Blk u q → ¬ Only g' q := fun d q hq e => by
    have e1 : q = g' := e
    subst e1
    exact d q gB hq
  have nR2 : ¬ Blk t.cv R := fun e => by have := ((h.cs t tm).blk e).1; have := h.ltR; omega
  have nM2 : ¬ Blk t.cv M := fun e => by have := ((h.cs t tm).blk e).1; have := h.ltM; omega
  have pw := List.pairwise_iff_getElem.1 d5
  have other : ∀ i u, ts[i]? = some u → i ≠ m → Dj u.cv t.cv := fun i u hu hi => by
    have li : i < (ts.map (·.cv)).length := by rw [List.length_map]; exact (List.getElem?_eq_some_iff.1 hu).1
    have lm : m < (ts.map (·.cv)).length := by rw [List.length_map]; exact (List.getElem?_eq_some_iff.1 hm).1
    have gi : (ts.map (·.cv))[i] = u.cv := by rw [List.getElem_map]; rw [(List.getElem?_eq_some_iff.1 hu).2]
    have gm : (ts.map (·.cv))[m] = t.cv := by rw [List.getElem_map]; rw [(List.getElem?_eq_some_iff.1 hm).2]
    rcases Nat.lt_or_gt_of_ne hi with hlt | hgt
    · have := pw i m li lm hlt
      rwa [gi, gm] at this
    · have := pw m i lm li hgt
      rw [gi, gm] at this
      exact this.symm
  have mem : ∀ u ∈ ts.set m ⟨cs', cv', t.df⟩, u = ⟨cs', cv', t.df⟩ ∨ ∃ i, i ≠ m ∧ ts[i]? = some u := fun u hu => by
    obtain ⟨i, hi⟩ := List.getElem?_of_mem hu
    rw [List.getElem?_set] at hi
    by_cases e : m = i
    · subst e
      rw [if_pos rfl, if_pos (List.getElem?_eq_some_iff.1 hm).1] at hi
      injection hi with hi
      exact .inl hi.symm
    · rw [if_neg e] at hi
      exact .inr ⟨i, fun q => e q.symm, hi⟩
  have hall : ∀ u ∈ ts.set m ⟨cs', cv', t.df⟩, Ow eC 4 46 base (w2.setCell ⟨g', m * 2, none⟩ cv') u.cv u.cs := fun u hu => by
    rcases mem u hu with rfl | ⟨i, hi, hu'⟩
    · refine ho.ch C (fun q hq e => ?_)
      have e1 : q = g' := e
      subst e1
      rcases hb q hq with a | a
      · exact e3 q gB a
      · have := lo h.t q gB
        omega
    · have um := List.mem_of_getElem? hu'
      exact (((h.cs u um).gr k1).ch k (fun q hq e => other i u hu' hi q hq e)).ch C (far (d4 u um).2.2)
  exact
    { blk := (C.block R (Nat.lt_of_lt_of_le (lt_of_block h.blk) (Nat.le_trans k1.size k.size)) nR).trans ((k.block R (Nat.lt_of_lt_of_le (lt_of_block h.blk) k1.size) nR2).trans (gr_blk h.blk k1))
      a := ((h.a.gr k1).ch k (fun q hq e => e1 q hq e)).ch C (far d2.symm)
      f := ((h.f.gr k1).ch k (fun q hq e => e2 q hq e)).ch C (far d3.symm)
      t := by
        have := hst 0 cv' ⟨cs', cv', t.df⟩ (by omega) rfl
        exact this
      tsq := by rw [List.map_set, h.tsq]
      cs := hall
      m := (C.block M (Nat.lt_of_lt_of_le (lt_of_block h.m) (Nat.le_trans k1.size k.size)) nM).trans ((k.block M (Nat.lt_of_lt_of_le (lt_of_block h.m) k1.size) nM2).trans (gr_blk h.m k1))
      mo := h.mo
      dj := dj_of ⟨d1, d2, d3⟩ (fun u hu => by
          rcases mem u hu with rfl | ⟨i, hi, hu'⟩
          · exact ⟨(Dj.new hb (lo h.a) e1.symm).symm, (Dj.new hb (lo h.f) e2.symm).symm, (Dj.new hb (lo h.t) e3.symm).symm⟩
          · exact d4 u (List.mem_of_getElem? hu')) (by
          rw [List.map_set]
          refine List.pairwise_iff_getElem.2 (fun i j hi hj hij => ?_)
          rw [List.length_set, List.length_map] at hi hj
          rw [List.getElem_set, List.getElem_set]
          by_cases ei : m = i
          · subst ei
            rw [if_pos rfl, if_neg (by omega), List.getElem_map]
            have hu : ts[j]? = some ts[j] := List.getElem?_eq_getElem hj
            exact Dj.new hb (lo (h.cs _ (List.mem_of_getElem? hu))) (other j _ hu (by omega)).symm
          · rw [if_neg ei, List.getElem_map]
            have hu : ts[i]? = some ts[i] := List.getElem?_eq_getElem hi
            by_cases ej : m = j
            · subst ej
              rw [if_pos rfl]
              exact (Dj.new hb (lo (h.cs _ (List.mem_of_getElem? hu))) (other i _ hu (by omega)).symm).symm
            · rw [if_neg ej, List.getElem_map]
              have := pw i j (by rw [List.length_map]; exact hi) (by rw [List.length_map]; exact hj) hij
              rwa [List.getElem_map, List.getElem_map] at this)
      ltR := h.ltR, ltM := h.ltM, ne := h.ne, ltB := Nat.le_trans h.ltB (Nat.le_trans k1.size (Nat.le_trans k.size C.size)) }
end
end Go.Proofs.YtbehlhnnfdkmaaaGreatDoor.Lt
