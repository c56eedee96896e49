/-
  The reader in memory: what was read so far. What give and inside answer and leave. Conditions: names are such as can be.
-/
import Derived.Test.YtbehlhnnfdkmaaaGreatDoorLtMap
import Derived.Test.YtbehlhnnfdkmaaaGreatDoorLtFields
namespace Go.Proofs.YtbehlhnnfdkmaaaGreatDoor.Lt
open Go.RowKit Wd

theorem takeS_on {P : Program} {md : Region.Mode} {ops : Array Oper} {Q : Exit → Act → World → Prop} {S : World → Prop} {i : Nat} (k : Nat) {oi : Oper} {v : Value} {fuel : Nat} {listed : Array Bool} {a : Act} {w : World} (hi : ops[i]? = some oi) (hd : oi.dst = some k)
    (hs : Region.noSelect ops = true) (hf : Region.free md ops listed i = true) (hr : (Region.ready md ops listed).contains i = true)
    (hQ : ∀ c a w, Q (.panic c) (a.put (some k) v) w → Q (.panic c) a w) (hw : Region.wanted oi (yielded ops a.tmps) = true) (hy : ∀ w', S w' → (execOp a.eval oi).run P w' = .ok (.value v) w') (hS : S w)
    (h : wpAnyH P md ops Q S fuel (listed.setIfInBounds i true) (a.put (some k) v) w) : wpAnyH P md ops Q S (fuel + 1) listed a w :=
  wpAnyH_take hi hs hf hr (by rw [hd]; exact hQ) (Or.inl ⟨hw, hy⟩) hS (by rw [hd]; exact h)

/-- an instruction that was read: its line, its fields, the name that it waits for -/
structure Ask where
  ln : Nat
  i : Int × Int × Int × Int × Int
  nm : Nm
def eA (a : Ask) : List Value := [.int .i64 (a.ln : Nat), .int .i64 a.i.1, .int .i64 a.i.2.1, .int .i64 a.i.2.2.1, .int .i64 a.i.2.2.2.1, .int .i64 a.i.2.2.2.2, .int .i64 a.nm.1, .int .i64 a.nm.2.1, .string a.nm.2.2]
theorem eA_len (a : Ask) : (eA a).length = 9 := rfl
def eF (f : Nat × Nat) : List Value := [.int .i64 (f.1 : Nat), .int .i64 (f.2 : Nat)]
theorem eF_len (f : Nat × Nat) : (eF f).length = 2 := rfl
/-- a case -/
structure Cs where
  send : Bool
  ch : Int
  val : Int
  ok : Int
def eC (c : Cs) : List Value := [.bool c.send, .int .i64 c.ch, .int .i64 c.val, .int .i64 c.ok]
theorem eC_len (c : Cs) : (eC c).length = 4 := rfl
/-- a table in memory: its cases, their value, its default -/
structure Tb where
  cs : List Cs
  cv : Value
  df : Bool
def eT (t : Tb) : List Value := [t.cv, .bool t.df]
theorem eT_len (t : Tb) : (eT t).length = 2 := rfl
/-- what was read so far -/
structure Rs where
  ask : List Ask
  fn : List (Nat × Nat)
  tb : List (List Cs × Bool)
  nms : List (Nm × Int × Nat)
  inF : Bool
  inT : Bool
/-- two values have no block in common -/
def Dj (v u : Value) : Prop := ∀ q, Blk v q → ¬ Blk u q
theorem Dj.symm {v u : Value} (h : Dj v u) : Dj u v := fun q a b => h q b a
theorem Dj.nil (v : Value) : Dj v (.slice none 0 0) := fun q _ b => by cases b
theorem Dj.nil' (v : Value) : Dj (.slice none 0 0) v := fun q a _ => by cases a
/-- the reader in memory -/
structure Rd (base R M : Nat) (w : World) (va vf vt : Value) (ts : List Tb) (x : Rs) : Prop where
  blk : w.heap[R]? = some (.cells #[va, vf, vt, .map (some M), .bool x.inF, .bool x.inT] 51 (0, 0))
  a : Ow eA 9 102 base w va x.ask
  f : Ow eF 2 41 base w vf x.fn
  t : Ow eT 2 44 base w vt ts
  tsq : ts.map (fun t => (t.cs, t.df)) = x.tb
  cs : ∀ t ∈ ts, Ow eC 4 46 base w t.cv t.cs
  m : MAt w M x.nms x.nms.length
  mo : MOk x.nms x.nms.length
  dj : (va :: vf :: vt :: ts.map (·.cv)).Pairwise Dj
  ltR : R < base
  ltM : M < base
  ne : R ≠ M
  ltB : base ≤ w.heap.size
/-- what a reader's calls may turn -/
def SR (base R M : Nat) : Nat → Prop := fun q => q = R ∨ q = M ∨ base ≤ q
def Red (base R M : Nat) (w : World) (x : Rs) : Prop := ∃ va vf vt ts, Rd base R M w va vf vt ts x
section
variable {base R M : Nat} {w w' : World} {va vf vt : Value} {ts : List Tb} {x : Rs}
theorem Rd.red (h : Rd base R M w va vf vt ts x) : Red base R M w x := ⟨va, vf, vt, ts, h⟩
/-- where none of the reader's blocks turns -/
theorem Rd.ch {S : Nat → Prop} (h : Rd base R M w va vf vt ts x) (k : Ch S w w') (hs : ∀ q, q < w.heap.size → SR base R M q → ¬ S q) : Rd base R M w' va vf vt ts x :=
  { blk := (k.block R (lt_of_block h.blk) (hs R (lt_of_block h.blk) (.inl rfl))).trans h.blk
    a := h.a.ch k (fun g hg => hs g (h.a.blk hg).2 (.inr (.inr (h.a.blk hg).1)))
    f := h.f.ch k (fun g hg => hs g (h.f.blk hg).2 (.inr (.inr (h.f.blk hg).1)))
    t := h.t.ch k (fun g hg => hs g (h.t.blk hg).2 (.inr (.inr (h.t.blk hg).1)))
    tsq := h.tsq
    cs := fun t ht => (h.cs t ht).ch k (fun g hg => hs g ((h.cs t ht).blk hg).2 (.inr (.inr ((h.cs t ht).blk hg).1)))
    m := (k.block M (lt_of_block h.m) (hs M (lt_of_block h.m) (.inr (.inl rfl)))).trans h.m
    mo := h.mo, dj := h.dj, ltR := h.ltR, ltM := h.ltM, ne := h.ne, ltB := Nat.le_trans h.ltB k.size }
theorem Rd.gr (h : Rd base R M w va vf vt ts x) (k : Gr w w') : Rd base R M w' va vf vt ts x := h.ch k (fun _ _ _ => noB _)
/-- the map alone turns -/
theorem Rd.put (h : Rd base R M w va vf vt ts x) {k : Nm} (hk : Nok k) (hn : look x.nms k = none) (v : Int) : Rd base R M (putM w M (x.nms ++ [(k, v, x.nms.length)]) (x.nms.length + 1)) va vf vt ts { x with nms := x.nms ++ [(k, v, x.nms.length)] } := by
  have P := putM_ch w M (x.nms ++ [(k, v, x.nms.length)]) (x.nms.length + 1)
  have hm := h.ltM
  have far : ∀ {α : Type} {enc : α → List Value} {K e : Nat} {u : Value} {xs : List α}, Ow enc K e base w u xs → Ow enc K e base (putM w M (x.nms ++ [(k, v, x.nms.length)]) (x.nms.length + 1)) u xs := fun ho => ho.ch P (fun g hg e => by
    have := (ho.blk hg).1
    have e1 : g = M := e
    omega)
  exact
    { blk := (P.block R (lt_of_block h.blk) (fun e => h.ne e)).trans h.blk
      a := far h.a, f := far h.f, t := far h.t, tsq := h.tsq, cs := fun t ht => far (h.cs t ht)
      m := by rw [List.length_append]; exact putM_at (lt_of_block h.m) _ _
      mo := by rw [List.length_append]; exact h.mo.snoc hk hn v
      dj := h.dj, ltR := h.ltR, ltM := h.ltM, ne := h.ne, ltB := Nat.le_trans h.ltB P.size }
end

/-- what give leaves -/
def giveE (x : Rs) (k : Nm) : Int := if (look x.nms k).isSome = true then 72 else 0
def giveS (x : Rs) (k : Nm) (v : Int) : Rs := if (look x.nms k).isSome = true then x else { x with nms := x.nms ++ [(k, v, x.nms.length)] }
def Gvn (base R M : Nat) (w : World) (va vf vt : Value) (ts : List Tb) (x : Rs) (k : Nm) (v : Int) (e : Ending) (w' : World) : Prop := e = .returned (.int .i64 (giveE x k)) ∧ Rd base R M w' va vf vt ts (giveS x k v) ∧ Ch (SR base R M) w w' ∧ (giveE x k ≠ 0 → Gr w w')
set_option maxHeartbeats 1000000 in
theorem give_any (base R M : Nat) (w : World) (va vf vt : Value) (ts : List Tb) (x : Rs) (k : Nm) (v : Int) (hk : Nok k) (h : Rd base R M w va vf vt ts x) :
    Calls Tryz.prog 94 #[.pointer (some ⟨R, 0, none⟩), kV k, .int .i64 v] w (Gvn base R M w va vf vt ts x k v) := by
  have HR := hid h
  have hA := Gr.alloc (Gr.refl w) #[.int .i64 k.1, .int .i64 k.2.1, .string k.2.2] 100
  have h1 := h.gr hA
  have HR1 := hid h1
  have HLK := hid (lookup_any h1.m h1.mo hk)
  have hbx := (MapKept.heap_alloc w (.cells #[.int .i64 k.1, .int .i64 k.2.1, .string k.2.2] 100)).1
  obtain ⟨W, hW⟩ : ∃ W, W = w.alloc (.cells #[.int .i64 k.1, .int .i64 k.2.1, .string k.2.2] 100) := ⟨_, rfl⟩
  rw [← hW] at HR1 HLK hA h1 hbx
  have HA := hid hA
  have n3 : W.cell? ⟨R, 3, none⟩ = some (.map (some M)) := (cell_of h1.blk 3).trans rfl
  have b0 : W.cell? ⟨w.heap.size, 0, none⟩ = some (.int .i64 k.1) := (cell_of hbx 0).trans rfl
  have b1 : W.cell? ⟨w.heap.size, 1, none⟩ = some (.int .i64 k.2.1) := (cell_of hbx 1).trans rfl
  have b2 : W.cell? ⟨w.heap.size, 2, none⟩ = some (.string k.2.2) := (cell_of hbx 2).trans rfl
  have HWW := hid hW
  clear h hA h1 hbx hW
  obtain ⟨L, hL⟩ : ∃ L, L = (look x.nms k).getD 0 := ⟨_, rfl⟩
  obtain ⟨B, hB⟩ : ∃ B, B = (look x.nms k).isSome := ⟨_, rfl⟩
  rw [← hL, ← hB] at HLK
  have HB := hid hB
  have hS0 : (fun w' => w'.cell? ⟨R, 3, none⟩ = some (.map (some M)) ∧ w'.cell? ⟨w.heap.size, 0, none⟩ = some (.int .i64 k.1) ∧ w'.cell? ⟨w.heap.size, 1, none⟩ = some (.int .i64 k.2.1) ∧ w'.cell? ⟨w.heap.size, 2, none⟩ = some (.string k.2.2) ∧ (Instr.lookup 48 (.map (some M)) (.agg #[.int .i64 k.1, .int .i64 k.2.1, .string k.2.2]) true).run Tryz.prog w' = .ok (.tuple #[.int .i64 L, .bool B]) w') W.drew := by
    refine ⟨n3, b0, b1, b2, ?_⟩
    have := lookup_any (w := W.drew) HR1.out.m HR1.out.mo hk
    rw [← hL, ← hB] at this
    exact this
  unfold kV
  clear hL hB
  go_enter Tryz.func94, Tryz.ntmps94
  go_wp2_with fail
  rw [← HWW.out]
  refine wp_region_held_drew (S := fun w' => w'.cell? ⟨R, 3, none⟩ = some (.map (some M)) ∧ w'.cell? ⟨w.heap.size, 0, none⟩ = some (.int .i64 k.1) ∧ w'.cell? ⟨w.heap.size, 1, none⟩ = some (.int .i64 k.2.1) ∧ w'.cell? ⟨w.heap.size, 2, none⟩ = some (.string k.2.2) ∧ (Instr.lookup 48 (.map (some M)) (.agg #[.int .i64 k.1, .int .i64 k.2.1, .string k.2.2]) true).run Tryz.prog w' = .ok (.tuple #[.int .i64 L, .bool B]) w') (by kernel_rfl) (by exact hS0) (fun hSx => ?_)
  clear hSx
  refine takeS_on (i := 0) 10 (v := ?v1) rfl rfl (by kernel_rfl) (by kernel_rfl) (by kernel_rfl) (fun _ _ _ h => h) (by kernel_rfl) ?hy1 (by exact hS0) ?_
  case hy1 => (intro w' hSw; go_simp; try (with_reducible rfl))
  simp only [Act.put, List.setIfInBounds_toArray, List.set_cons_zero, List.set_cons_succ]
  refine takeS_on (i := 1) 11 (v := ?v2) rfl rfl (by kernel_rfl) (by kernel_rfl) (by kernel_rfl) (fun _ _ _ h => h) (by kernel_rfl) ?hy2 (by exact hS0) ?_
  case hy2 => (intro w' hSw; go_simp; try (with_reducible rfl))
  simp only [Act.put, List.setIfInBounds_toArray, List.set_cons_zero, List.set_cons_succ]
  refine takeS_on (i := 2) 12 (v := ?v3) rfl rfl (by kernel_rfl) (by kernel_rfl) (by kernel_rfl) (fun _ _ _ h => h) (by kernel_rfl) ?hy3 (by exact hS0) ?_
  case hy3 => (intro w' hSw; go_simp; try (with_reducible rfl))
  simp only [Act.put, List.setIfInBounds_toArray, List.set_cons_zero, List.set_cons_succ]
  refine takeS_on (i := 3) 13 (v := ?v4) rfl rfl (by kernel_rfl) (by kernel_rfl) (by kernel_rfl) (fun _ _ _ h => h) (by kernel_rfl) ?hy4 (by exact hS0) ?_
  case hy4 => (intro w' hSw; go_simp; try (with_reducible rfl))
  simp only [Act.put, List.setIfInBounds_toArray, List.set_cons_zero, List.set_cons_succ]
  refine takeS_on (i := 4) 14 (v := ?v5) rfl rfl (by kernel_rfl) (by kernel_rfl) (by kernel_rfl) (fun _ _ _ h => h) (by kernel_rfl) ?hy5 (by exact hS0) ?_
  case hy5 => (intro w' hSw; go_simp; try (with_reducible rfl))
  simp only [Act.put, List.setIfInBounds_toArray, List.set_cons_zero, List.set_cons_succ]
  refine takeS_on (i := 5) 15 (v := ?v6) rfl rfl (by kernel_rfl) (by kernel_rfl) (by kernel_rfl) (fun _ _ _ h => h) (by kernel_rfl) ?hy6 (by exact hS0) ?_
  case hy6 => (intro w' hSw; go_simp; try (with_reducible rfl))
  simp only [Act.put, List.setIfInBounds_toArray, List.set_cons_zero, List.set_cons_succ]
  refine takeS_on (i := 6) 9 (v := ?v7) rfl rfl (by kernel_rfl) (by kernel_rfl) (by kernel_rfl) (fun _ _ _ h => h) (by kernel_rfl) ?hy7 (by exact hS0) ?_
  case hy7 => (intro w' hSw; go_simp; try (with_reducible rfl))
  simp only [Act.put, List.setIfInBounds_toArray, List.set_cons_zero, List.set_cons_succ]
  refine takeS_on (i := 7) 16 (v := ?v8) rfl rfl (by kernel_rfl) (by kernel_rfl) (by kernel_rfl) (fun _ _ _ h => h) (by kernel_rfl) ?hy8 (by exact hS0) ?_
  case hy8 => (intro w' hSw; go_simp; try (with_reducible rfl))
  simp only [Act.put, List.setIfInBounds_toArray, List.set_cons_zero, List.set_cons_succ]
  refine takeS_on (i := 8) 17 (v := ?v9) rfl rfl (by kernel_rfl) (by kernel_rfl) (by kernel_rfl) (fun _ _ _ h => h) (by kernel_rfl) ?hy9 (by exact hS0) ?_
  case hy9 => (intro w' hSw; go_simp; try (with_reducible rfl))
  simp only [Act.put, List.setIfInBounds_toArray, List.set_cons_zero, List.set_cons_succ]
  refine takeS_on (i := 9) 7 (v := ?v10) rfl rfl (by kernel_rfl) (by kernel_rfl) (by kernel_rfl) (fun _ _ _ h => h) (by kernel_rfl) ?hy10 (by exact hS0) ?_
  case hy10 => (intro w' hSw; go_simp; try (with_reducible rfl))
  simp only [Act.put, List.setIfInBounds_toArray, List.set_cons_zero, List.set_cons_succ]
  refine takeS_on (i := 10) 8 (v := ?v11) rfl rfl (by kernel_rfl) (by kernel_rfl) (by kernel_rfl) (fun _ _ _ h => h) (by kernel_rfl) ?hy11 (by exact hS0) ?_
  case hy11 => (intro w' hSw; go_simp; try (with_reducible rfl))
  simp only [Act.put, List.setIfInBounds_toArray, List.set_cons_zero, List.set_cons_succ]
  refine wpAnyH_done (by kernel_rfl) ?_ _
  cases B with
  | true =>
    go_wp2
    go_ret
    exact ⟨by unfold giveE; rw [← HB.out]; rfl, by unfold giveS; rw [← HB.out]; exact HR1.out.gr ((Gr.refl W).drew), HA.out.any.drew, fun _ => Ch.drew HA.out⟩
  | false =>
    have hn : look x.nms k = none := by
      have := HB.out
      cases hx : look x.nms k with
      | none => rfl
      | some y => rw [hx] at this; cases this
    have HN := hid hn
    clear hn
    have hS4 : (fun w' => w'.cell? ⟨R, 3, none⟩ = some (.map (some M)) ∧ w'.cell? ⟨w.heap.size, 0, none⟩ = some (.int .i64 k.1) ∧ w'.cell? ⟨w.heap.size, 1, none⟩ = some (.int .i64 k.2.1) ∧ w'.cell? ⟨w.heap.size, 2, none⟩ = some (.string k.2.2)) W.drew.drew := ⟨n3, b0, b1, b2⟩
    have UPD := hid (update_new (w := W.drew.drew) HR1.out.m HR1.out.mo.ok hk HN.out v)
    have hS5 : (fun w' => w'.cell? ⟨R, 3, none⟩ = some (.map (some M)) ∧ w'.cell? ⟨w.heap.size, 0, none⟩ = some (.int .i64 k.1) ∧ w'.cell? ⟨w.heap.size, 1, none⟩ = some (.int .i64 k.2.1) ∧ w'.cell? ⟨w.heap.size, 2, none⟩ = some (.string k.2.2)) (putM W.drew.drew M (x.nms ++ [(k, v, x.nms.length)]) (x.nms.length + 1)) := by
      have P := putM_ch W.drew.drew M (x.nms ++ [(k, v, x.nms.length)]) (x.nms.length + 1)
      have lR := lt_of_block HR1.out.blk
      have lM := HR.out.ltM
      have lB := HR.out.ltB
      have lW : w.heap.size < W.heap.size := by rw [HWW.out]; simp
      have nB : ¬ Only M w.heap.size := fun e => by have e1 : w.heap.size = M := e; omega
      exact ⟨(P.cell lR (fun e => HR.out.ne e)).trans n3, (P.cell lW nB).trans b0, (P.cell lW nB).trans b1, (P.cell lW nB).trans b2⟩
    have UP2 := UPD.out
    unfold kV at UP2
    go_wp2_with fail
    refine wp_region_held_drew (S := fun w' => w'.cell? ⟨R, 3, none⟩ = some (.map (some M)) ∧ w'.cell? ⟨w.heap.size, 0, none⟩ = some (.int .i64 k.1) ∧ w'.cell? ⟨w.heap.size, 1, none⟩ = some (.int .i64 k.2.1) ∧ w'.cell? ⟨w.heap.size, 2, none⟩ = some (.string k.2.2)) (by kernel_rfl) (by exact hS4) (fun hSx => ?_)
    clear hSx
    refine takeS_on (i := 0) 19 (v := ?v12) rfl rfl (by kernel_rfl) (by kernel_rfl) (by kernel_rfl) (fun _ _ _ h => h) (by kernel_rfl) ?hy12 (by exact hS4) ?_
    case hy12 => (intro w' hSw; go_simp; try (with_reducible rfl))
    simp only [Act.put, List.setIfInBounds_toArray, List.set_cons_zero, List.set_cons_succ]
    refine takeS_on (i := 1) 20 (v := ?v13) rfl rfl (by kernel_rfl) (by kernel_rfl) (by kernel_rfl) (fun _ _ _ h => h) (by kernel_rfl) ?hy13 (by exact hS4) ?_
    case hy13 => (intro w' hSw; go_simp; try (with_reducible rfl))
    simp only [Act.put, List.setIfInBounds_toArray, List.set_cons_zero, List.set_cons_succ]
    refine takeS_on (i := 2) 21 (v := ?v14) rfl rfl (by kernel_rfl) (by kernel_rfl) (by kernel_rfl) (fun _ _ _ h => h) (by kernel_rfl) ?hy14 (by exact hS4) ?_
    case hy14 => (intro w' hSw; go_simp; try (with_reducible rfl))
    simp only [Act.put, List.setIfInBounds_toArray, List.set_cons_zero, List.set_cons_succ]
    refine takeS_on (i := 3) 22 (v := ?v15) rfl rfl (by kernel_rfl) (by kernel_rfl) (by kernel_rfl) (fun _ _ _ h => h) (by kernel_rfl) ?hy15 (by exact hS4) ?_
    case hy15 => (intro w' hSw; go_simp; try (with_reducible rfl))
    simp only [Act.put, List.setIfInBounds_toArray, List.set_cons_zero, List.set_cons_succ]
    refine takeS_on (i := 4) 23 (v := ?v16) rfl rfl (by kernel_rfl) (by kernel_rfl) (by kernel_rfl) (fun _ _ _ h => h) (by kernel_rfl) ?hy16 (by exact hS4) ?_
    case hy16 => (intro w' hSw; go_simp; try (with_reducible rfl))
    simp only [Act.put, List.setIfInBounds_toArray, List.set_cons_zero, List.set_cons_succ]
    refine takeS_on (i := 5) 24 (v := ?v17) rfl rfl (by kernel_rfl) (by kernel_rfl) (by kernel_rfl) (fun _ _ _ h => h) (by kernel_rfl) ?hy17 (by exact hS4) ?_
    case hy17 => (intro w' hSw; go_simp; try (with_reducible rfl))
    simp only [Act.put, List.setIfInBounds_toArray, List.set_cons_zero, List.set_cons_succ]
    refine wpAnyH_ready (rs := [6]) (by kernel_rfl) (by simp) (AllReadyH.cons rfl (fun K hK => ?_) AllReadyH.nil)
    go_simp
    refine hK.out _ _ (by exact hS5) (fun hSx => ?_)
    clear hSx hK K
    refine wpAnyH_done (by kernel_rfl) ?_ _
    clear hS0 hS4 hS5 UP2
    have F1 := (HR1.out.gr (Ch.drew (Ch.drew (Gr.refl W)))).put hk HN.out v
    have F2 := Ch.trans (T := Only M) (HA.out.any.drew.drew) (putM_ch W.drew.drew M (x.nms ++ [(k, v, x.nms.length)]) (x.nms.length + 1)) (S := SR base R M) (fun q e => .inl (.inr (.inl e)))
    generalize putM W.drew.drew M (x.nms ++ [(k, v, x.nms.length)]) (x.nms.length + 1) = W2 at F1 F2 ⊢
    have H1 := hid F1
    have H2 := hid F2
    clear F1 F2 n3 b0 b1 b2 hk
    clear HLK HB UPD HWW HA HR1 HR
    go_wp2
    go_ret
    have e0 : giveE x k = 0 := by unfold giveE; rw [HN.out]; rfl
    exact ⟨by rw [e0]; rfl, by unfold giveS; rw [HN.out]; exact H1.out, H2.out, fun h => (h e0).elim⟩

/-- a name as it is meant within the function that is being read -/
def insN (x : Rs) (k : Int) (s : ByteArray) : Nm := (k, if k = 1 then (x.fn.length : Int) - 1 else 0, s)
theorem inside_any (base R M : Nat) (w : World) (va vf vt : Value) (ts : List Tb) (x : Rs) (k : Int) (s : ByteArray) (hb : x.fn.length ≤ 4294967296) (h : Rd base R M w va vf vt ts x) :
    Calls Tryz.prog 95 #[.pointer (some ⟨R, 0, none⟩), .int .i64 k, .string s] w fun e w' => e = .returned (kV (insN x k s)) ∧ Gr w w' := by
  obtain ⟨ao, cap, rfl⟩ := h.f.form
  have c1 : w.cell? ⟨R, 1, none⟩ = some (.slice ao x.fn.length cap) := (cell_of h.blk 1).trans rfl
  have lR := lt_of_block h.blk
  have l1 : R < w.heap.size + 1 := by omega
  clear h
  unfold kV insN
  generalize x.fn.length = n at hb c1 ⊢
  by_cases hk : k = 1
  · subst hk
    go_enter Tryz.func95, Tryz.ntmps95
    go_wp2
    refine bodyPost_ret (v := .agg #[.int .i64 1, .int .i64 ((n : Int) - 1), .string s]) (by simp [results, Tryz.results95, go_sem]) rfl ?_
    exact ⟨rfl, ((Gr.refl _).alloc _ _).alloc _ _⟩
  · rw [if_neg hk]
    go_enter Tryz.func95, Tryz.ntmps95
    go_wp2
    refine bodyPost_ret (v := .agg #[.int .i64 k, .int .i64 0, .string s]) (by simp [results, Tryz.results95, go_sem]) rfl ?_
    exact ⟨rfl, ((Gr.refl _).alloc _ _).alloc _ _⟩
end Go.Proofs.YtbehlhnnfdkmaaaGreatDoor.Lt
