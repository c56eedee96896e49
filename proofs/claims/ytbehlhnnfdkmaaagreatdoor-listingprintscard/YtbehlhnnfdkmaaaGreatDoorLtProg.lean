/-
  What the reader's program answers: the program that was read, or the first name that is not there. Condition: what was read can be.
-/
import Derived.Test.YtbehlhnnfdkmaaaGreatDoorLtRead
namespace Go.Proofs.YtbehlhnnfdkmaaaGreatDoor.Lt
open Go.RowKit Wd

/-- an instruction with its name's number -/
def pgI (x : Rs) (a : Ask) : Option (Int × Int × Int × Int × Int) := if a.nm.1 = 0 then some a.i else (look x.nms a.nm).map (fun v => (a.i.1, a.i.2.1, a.i.2.2.1, a.i.2.2.2.1, v))
/-- its word -/
def wI (i : Int × Int × Int × Int × Int) : Int := eW i.1.toNat i.2.1 i.2.2.1 i.2.2.2.1 i.2.2.2.2
def cw (x : Rs) (a : Ask) : Int := wI ((pgI x a).getD (0, 0, 0, 0, 0))
/-- the first name that is not there -/
def pgX (x : Rs) : Option Nat := (x.ask.find? (fun a => (pgI x a).isNone)).map (·.ln)
def eU (n : Int) : List Value := [.int .u32 n]
theorem eU_len (n : Int) : (eU n).length = 1 := rfl
theorem u32_info : (Tryz.prog.info? 39).map (fun i => (i.zero, i.size, i.bytes)) = some (some (.int .u32 0), 1, 4) := by kernel_rfl
theorem eU_one {n : Int} : ∀ u ∈ [n].flatMap eU, u.oneCell' = true := by
  intro u hu
  simp [eU] at hu
  rw [hu]
  rfl
/-- what was read can be -/
structure Aok (a : Ask) : Prop where
  k : ∃ k : Nat, 1 ≤ k ∧ k < 59 ∧ a.i.1 = (k : Nat)
  nm : Nok a.nm
/-- what program answers -/
def Pgm (w : World) (vf vt : Value) (x : Rs) (e : Ending) (w' : World) : Prop :=
  (match pgX x with
   | some ln => e = .returned (.tuple #[.agg #[.slice none 0 0, .slice none 0 0, .slice none 0 0], .int .i64 71, .int .i64 (ln : Nat)])
   | none => ∃ vc, e = .returned (.tuple #[.agg #[vc, vf, vt], .int .i64 0, .int .i64 0]) ∧ Ow eU 1 39 (w.heap.size + 1) w' vc (x.ask.map (cw x))) ∧ Gr w w'
theorem Pgm.bad {w w' : World} {vf vt : Value} {x : Rs} {ln : Nat} (h : pgX x = some ln) (g : Gr w w') : Pgm w vf vt x (.returned (.tuple #[.agg #[.slice none 0 0, .slice none 0 0, .slice none 0 0], .int .i64 71, .int .i64 (ln : Nat)])) w' := by
  unfold Pgm
  rw [h]
  exact ⟨rfl, g⟩
theorem Pgm.good {w w' : World} {vc vf vt : Value} {x : Rs} (h : pgX x = none) (ho : Ow eU 1 39 (w.heap.size + 1) w' vc (x.ask.map (cw x))) (g : Gr w w') : Pgm w vf vt x (.returned (.tuple #[.agg #[vc, vf, vt], .int .i64 0, .int .i64 0])) w' := by
  unfold Pgm
  rw [h]
  exact ⟨⟨vc, rfl, ho⟩, g⟩
theorem three_of {w : World} {b : Nat} {x y z x' y' z' : Value} {t : TypeId} (h : w.heap[b]? = some (.cells #[x, y, z] t (0, 0))) : (((w.setCell ⟨b, 0, none⟩ x').setCell ⟨b, 1, none⟩ y').setCell ⟨b, 2, none⟩ z').heap[b]? = some (.cells #[x', y', z'] t (0, 0)) := by
  simpa using setCell_block (setCell_block (setCell_block h 0 x') 1 y') 2 z'
theorem pgX_hit {x : Rs} {j : Nat} {a : Ask} (h : ∀ l b, l < j → x.ask[l]? = some b → (pgI x b).isSome = true) (ha : x.ask[j]? = some a) (hn : pgI x a = none) : pgX x = some a.ln := by
  unfold pgX
  have : x.ask.find? (fun a => (pgI x a).isNone) = some a := by
    rw [List.find?_eq_some_iff_getElem]
    refine ⟨by simp [hn], j, (List.getElem?_eq_some_iff.1 ha).1, (List.getElem?_eq_some_iff.1 ha).2, fun i hi => ?_⟩
    have hlt : i < x.ask.length := Nat.lt_trans hi (List.getElem?_eq_some_iff.1 ha).1
    have := h i _ hi (List.getElem?_eq_getElem hlt)
    cases hp : pgI x x.ask[i] with
    | none => rw [hp] at this; cases this
    | some y => rfl
  rw [this]
  rfl
theorem pgX_none {x : Rs} (h : ∀ l b, l < x.ask.length → x.ask[l]? = some b → (pgI x b).isSome = true) : pgX x = none := by
  unfold pgX
  rw [Option.map_eq_none_iff, List.find?_eq_none]
  intro b hb
  obtain ⟨l, hl⟩ := List.getElem?_of_mem hb
  have := h l b (List.getElem?_eq_some_iff.1 hl).1 hl
  cases hp : pgI x b with
  | none => rw [hp] at this; cases this
  | some y => simp

theorem encode_i (i : Int × Int × Int × Int × Int) (k : Nat) (h1 : 1 ≤ k) (h2 : k < 59) (hi : i.1 = (k : Nat)) (w : World) (hn : Nums w) (hf : Forms w) :
    Calls Tryz.prog 54 #[.agg #[.int .i64 i.1, .int .i64 i.2.1, .int .i64 i.2.2.1, .int .i64 i.2.2.2.1, .int .i64 i.2.2.2.2]] w fun e w' => (∃ f, e = .returned (.tuple #[.int .u32 (wI i), .int .i64 f])) ∧ Gr w w' := by
  have e : wI i = eW k i.2.1 i.2.2.1 i.2.2.2.1 i.2.2.2.2 := by unfold wI; rw [hi]; rfl
  rw [e, hi]
  refine (encode_any k i.2.1 i.2.2.1 i.2.2.2.1 i.2.2.2.2 h1 h2 w hn hf).mono ?_
  rintro e w1 ⟨rfl, g⟩
  exact ⟨⟨_, rfl⟩, g⟩
theorem take_cw {x : Rs} {j : Nat} {a : Ask} (h : x.ask[j]? = some a) : (x.ask.take (j + 1)).map (cw x) = (x.ask.take j).map (cw x) ++ [cw x a] := by
  rw [List.take_add_one, h, List.map_append]
  rfl
theorem some_next {x : Rs} {j : Nat} {a : Ask} (h : ∀ l b, l < j → x.ask[l]? = some b → (pgI x b).isSome = true) (ha : x.ask[j]? = some a) (hs : (pgI x a).isSome = true) : ∀ l b, l < j + 1 → x.ask[l]? = some b → (pgI x b).isSome = true := fun l b q1 q2 => by
  by_cases e : l = j
  · subst e
    rw [ha] at q2
    injection q2 with q2
    rw [← q2]
    exact hs
  · exact h l b (by omega) q2

set_option maxHeartbeats 2000000 in
set_option maxRecDepth 20000 in
theorem program_any (base R M : Nat) (w : World) (va vf vt : Value) (ts : List Tb) (x : Rs) (hf : Few x) (ha : ∀ a ∈ x.ask, Aok a) (hg : Glb w) (h : Rd base R M w va vf vt ts x) :
    Calls Tryz.prog 22 #[.pointer (some ⟨R, 0, none⟩)] w (Pgm w vf vt x) := by
  obtain ⟨aoa, ca, rfl⟩ := h.a.form
  obtain ⟨aof, cf, hvf⟩ := h.f.form
  obtain ⟨aot, ct, hvt⟩ := h.t.form
  generalize x.fn.length = nf at hvf
  generalize ts.length = nt at hvt
  subst hvf hvt
  have hal := hf.a
  obtain ⟨n, hn⟩ : ∃ n, n = x.ask.length := ⟨_, rfl⟩
  have HN := hid hn
  rw [← hn] at h hal
  have HR := hid h
  have HA := hid ha
  have HG := hid hg
  have r0 : w.cell? ⟨R, 0, none⟩ = some (.slice aoa n ca) := (cell_of h.blk 0).trans rfl
  have lR0 := lt_of_block h.blk
  have hcap := h.a.len.2
  have HB0 := hid (MapKept.heap_alloc w (.cells #[.slice none 0 0, .slice none 0 0, .slice none 0 0] 26)).1
  have HG0 := hid (Gr.alloc (Gr.refl w) #[.slice none 0 0, .slice none 0 0, .slice none 0 0] 26)
  clear hn hf ha hg h
  go_enter Tryz.func22, Tryz.ntmps22
  go_wp2_with fail
  go_loopg [5, 17] n (fun m v i wq => ∃ j ao cl, j + m = n ∧ i = .int .i64 ((j : Nat) : Int) ∧ v = .slice ao j cl ∧ (∀ l b, l < j → x.ask[l]? = some b → (pgI x b).isSome = true) ∧ Ow eU 1 39 (w.heap.size + 1) wq (.slice ao j cl) ((x.ask.take j).map (cw x)) ∧ wq.heap[w.heap.size]? = some (.cells #[.slice none 0 0, .slice none 0 0, .slice none 0 0] 26 (0, 0)) ∧ Gr w wq)
  case atStart => exact ⟨0, none, 0, by omega, rfl, rfl, fun l b q => by omega, Ow.nil _ _ _ _ _, HB0.out, HG0.out⟩
  case round =>
    obtain ⟨j, ao, cl, hjk, rfl, rfl, hsome, hown, hbB, hgr⟩ := hrel
    have HSo := hid hsome
    have HOw := hid hown
    have HBB := hid hbB
    have HGr := hid hgr
    have HRr := hid (HR.out.gr hgr)
    clear hsome hown hbB hgr
    by_cases hj : j < n
    · obtain ⟨a, haj⟩ : ∃ a, x.ask[j]? = some a := ⟨_, List.getElem?_eq_getElem (by rw [← HN.out]; exact hj)⟩
      have HAj := hid haj
      have HAk := hid (HA.out a (List.mem_of_getElem? haj))
      obtain ⟨g, cap', hv, _, hgl, _, hcs, _, _⟩ := HRr.out.a.get eA_len haj
      injection hv with hv1 hv2 hv3
      subst hv1
      clear hv2 hv3 haj
      have q0 := hcs 0 _ rfl
      have q1 := hcs 1 _ rfl
      have q2 := hcs 2 _ rfl
      have q3 := hcs 3 _ rfl
      have q4 := hcs 4 _ rfl
      have q5 := hcs 5 _ rfl
      have q6 := hcs 6 _ rfl
      have q7 := hcs 7 _ rfl
      have q8 := hcs 8 _ rfl
      simp only [Nat.add_zero] at q0
      have j0 : (0 : Int) ≤ (j : Int) := by omega
      have j1 : (j : Int) < (n : Int) := by omega
      have KV := hid (Gr.alloc (Gr.refl wr) #[.int .i64 (a.ln : Nat), .int .i64 a.i.1, .int .i64 a.i.2.1, .int .i64 a.i.2.2.1, .int .i64 a.i.2.2.2.1, .int .i64 a.i.2.2.2.2, .int .i64 a.nm.1, .int .i64 a.nm.2.1, .string a.nm.2.2] 102)
      have BV := hid (MapKept.heap_alloc wr (.cells #[.int .i64 (a.ln : Nat), .int .i64 a.i.1, .int .i64 a.i.2.1, .int .i64 a.i.2.2.1, .int .i64 a.i.2.2.2.1, .int .i64 a.i.2.2.2.2, .int .i64 a.nm.1, .int .i64 a.nm.2.1, .string a.nm.2.2] 102)).1
      clear hcs
      by_cases hk0 : a.nm.1 = 0
      · have hpg : pgI x a = some a.i := by unfold pgI; rw [if_pos hk0]
        obtain ⟨k, hk1, hk2, hk3⟩ := HAk.out.k
        have HEN := hid (fun (W : World) (p : Nums W) (q : Forms W) => encode_i a.i k hk1 hk2 hk3 W p q)
        obtain ⟨CW, hCW⟩ : ∃ c, c = wI a.i := ⟨_, rfl⟩
        rw [← hCW] at HEN
        have HCW := hid (show CW = cw x a by rw [hCW]; unfold cw; rw [hpg]; rfl)
        have HPS := hid (show (pgI x a).isSome = true by rw [hpg]; rfl)
        rw [hk0] at KV
        clear hCW hpg hk3 hk1 hk2
        go_wp2_with (first | (go_at_call 54; refine (HEN.out _ (HG.out.gr (Gr.trans HGr.out KV.out)).n (HG.out.gr (Gr.trans HGr.out KV.out)).f).mono ?_; rintro e w2 ⟨⟨f, rfl⟩, g2⟩; have K2 := hid (Gr.trans KV.out g2); clear g2) | (at_builtin; refine wpList_append_ow eU_len rfl (.tmp 49) (.tmp 51) _ 39 4 _ Tryz.underlying22 u32_info rfl (by omega) rfl (w.heap.size + 1) _ ((x.ask.take j).map (cw x)) rfl ((HOw.out.gr K2.out).alloc _) _ _ [cw x a] rfl (Ls.single w2 _ _ _ (by rw [← HCW.out]; rfl)) eU_one (j + 1) (by rw [List.length_map, List.length_take, ← HN.out]; simp; omega) (by omega) (by unfold maxLen; omega) (by simp; have := HGr.out.size; have := K2.out.size; have := lt_of_block HBB.out; omega) _ rfl ?_; intro ao4 cap4 w4 ow4 cw4 bl4; have HO4 := hid ow4; have HC4 := hid cw4; clear ow4 cw4 bl4))
        go_roundg (gk - 1)
        case measure => omega
        case rel =>
          have kB : ¬ Blk (.slice ao j cl) w.heap.size := fun e => by have := (HOw.out.blk e).1; omega
          refine ⟨j + 1, ao4, cap4, by omega, by simp, rfl, some_next HSo.out HAj.out HPS.out, by rw [take_cw HAj.out]; exact HO4.out, ?_, ?_⟩
          · exact (HC4.out.block _ (by simp; have := lt_of_block (gr_blk HBB.out K2.out); omega) kB).trans (al_blk (gr_blk HBB.out K2.out) _)
          · exact Ch.trans (Ch.alloc (Gr.trans HGr.out K2.out) _) HC4.out (fun q e => .inr (by have := (HOw.out.blk e).1; omega))
      · have HLK := hid (fun (W : World) (p : MAt W M x.nms x.nms.length) => lookup_any p HR.out.mo HAk.out.nm)
        obtain ⟨L, hL⟩ : ∃ L, L = (look x.nms a.nm).getD 0 := ⟨_, rfl⟩
        obtain ⟨B, hB⟩ : ∃ B, B = (look x.nms a.nm).isSome := ⟨_, rfl⟩
        rw [← hL, ← hB] at HLK
        unfold kV at HLK
        have HL := hid hL
        have HB := hid hB
        clear hL hB
        go_wp2_with fail
        generalize wr.alloc (.cells #[.int .i64 (a.ln : Nat), .int .i64 a.i.1, .int .i64 a.i.2.1, .int .i64 a.i.2.2.1, .int .i64 a.i.2.2.2.1, .int .i64 a.i.2.2.2.2, .int .i64 a.nm.1, .int .i64 a.nm.2.1, .string a.nm.2.2] 102) = V at KV BV ⊢
        have RV := hid (HRr.out.gr KV.out)
        obtain ⟨a0, a1, a2, a3, a4, a5, a6, a7, a8⟩ : (V.cell? ⟨wr.heap.size, 0, none⟩ = some (.int .i64 (a.ln : Nat))) ∧ (V.cell? ⟨wr.heap.size, 1, none⟩ = some (.int .i64 a.i.1)) ∧ (V.cell? ⟨wr.heap.size, 2, none⟩ = some (.int .i64 a.i.2.1)) ∧ (V.cell? ⟨wr.heap.size, 3, none⟩ = some (.int .i64 a.i.2.2.1)) ∧ (V.cell? ⟨wr.heap.size, 4, none⟩ = some (.int .i64 a.i.2.2.2.1)) ∧ (V.cell? ⟨wr.heap.size, 5, none⟩ = some (.int .i64 a.i.2.2.2.2)) ∧ (V.cell? ⟨wr.heap.size, 6, none⟩ = some (.int .i64 a.nm.1)) ∧ (V.cell? ⟨wr.heap.size, 7, none⟩ = some (.int .i64 a.nm.2.1)) ∧ (V.cell? ⟨wr.heap.size, 8, none⟩ = some (.string a.nm.2.2)) := ⟨(cell_of BV.out 0).trans rfl, (cell_of BV.out 1).trans rfl, (cell_of BV.out 2).trans rfl, (cell_of BV.out 3).trans rfl, (cell_of BV.out 4).trans rfl, (cell_of BV.out 5).trans rfl, (cell_of BV.out 6).trans rfl, (cell_of BV.out 7).trans rfl, (cell_of BV.out 8).trans rfl⟩
        have n3 : V.cell? ⟨R, 3, none⟩ = some (.map (some M)) := (cell_of RV.out.blk 3).trans rfl
        have lA := lt_of_block BV.out
        have f5 := frozen_of BV.out 5
        clear q0 q1 q2 q3 q4 q5 q6 q7 q8
        have hS0 : (fun w' => w'.cell? ⟨R, 3, none⟩ = some (.map (some M)) ∧ w'.cell? ⟨wr.heap.size, 6, none⟩ = some (.int .i64 a.nm.1) ∧ w'.cell? ⟨wr.heap.size, 7, none⟩ = some (.int .i64 a.nm.2.1) ∧ w'.cell? ⟨wr.heap.size, 8, none⟩ = some (.string a.nm.2.2) ∧ (Instr.lookup 48 (.map (some M)) (.agg #[.int .i64 a.nm.1, .int .i64 a.nm.2.1, .string a.nm.2.2]) true).run Tryz.prog w' = .ok (.tuple #[.int .i64 L, .bool B]) w') V.drew := ⟨n3, a6, a7, a8, HLK.out V.drew RV.out.m⟩
        refine wp_region_held_drew (S := fun w' => w'.cell? ⟨R, 3, none⟩ = some (.map (some M)) ∧ w'.cell? ⟨wr.heap.size, 6, none⟩ = some (.int .i64 a.nm.1) ∧ w'.cell? ⟨wr.heap.size, 7, none⟩ = some (.int .i64 a.nm.2.1) ∧ w'.cell? ⟨wr.heap.size, 8, none⟩ = some (.string a.nm.2.2) ∧ (Instr.lookup 48 (.map (some M)) (.agg #[.int .i64 a.nm.1, .int .i64 a.nm.2.1, .string a.nm.2.2]) true).run Tryz.prog w' = .ok (.tuple #[.int .i64 L, .bool B]) w') (by kernel_rfl) (by exact hS0) (fun hSx => ?_)
        clear hSx
        refine takeS_on (i := 0) 26 (v := ?v18) rfl rfl (by kernel_rfl) (by kernel_rfl) (by kernel_rfl) (fun _ _ _ h => h) (by kernel_rfl) ?hy18 (by exact hS0) ?_
        case hy18 => (intro w' hSw; go_simp; try (with_reducible rfl))
        simp only [Act.put, List.setIfInBounds_toArray, List.set_cons_zero, List.set_cons_succ]
        refine takeS_on (i := 1) 27 (v := ?v19) rfl rfl (by kernel_rfl) (by kernel_rfl) (by kernel_rfl) (fun _ _ _ h => h) (by kernel_rfl) ?hy19 (by exact hS0) ?_
        case hy19 => (intro w' hSw; go_simp; try (with_reducible rfl))
        simp only [Act.put, List.setIfInBounds_toArray, List.set_cons_zero, List.set_cons_succ]
        refine takeS_on (i := 2) 28 (v := ?v20) rfl rfl (by kernel_rfl) (by kernel_rfl) (by kernel_rfl) (fun _ _ _ h => h) (by kernel_rfl) ?hy20 (by exact hS0) ?_
        case hy20 => (intro w' hSw; go_simp; try (with_reducible rfl))
        simp only [Act.put, List.setIfInBounds_toArray, List.set_cons_zero, List.set_cons_succ]
        refine takeS_on (i := 3) 29 (v := ?v21) rfl rfl (by kernel_rfl) (by kernel_rfl) (by kernel_rfl) (fun _ _ _ h => h) (by kernel_rfl) ?hy21 (by exact hS0) ?_
        case hy21 => (intro w' hSw; go_simp; try (with_reducible rfl))
        simp only [Act.put, List.setIfInBounds_toArray, List.set_cons_zero, List.set_cons_succ]
        refine takeS_on (i := 4) 30 (v := ?v22) rfl rfl (by kernel_rfl) (by kernel_rfl) (by kernel_rfl) (fun _ _ _ h => h) (by kernel_rfl) ?hy22 (by exact hS0) ?_
        case hy22 => (intro w' hSw; go_simp; try (with_reducible rfl))
        simp only [Act.put, List.setIfInBounds_toArray, List.set_cons_zero, List.set_cons_succ]
        refine takeS_on (i := 5) 31 (v := ?v23) rfl rfl (by kernel_rfl) (by kernel_rfl) (by kernel_rfl) (fun _ _ _ h => h) (by kernel_rfl) ?hy23 (by exact hS0) ?_
        case hy23 => (intro w' hSw; go_simp; try (with_reducible rfl))
        simp only [Act.put, List.setIfInBounds_toArray, List.set_cons_zero, List.set_cons_succ]
        refine takeS_on (i := 6) 32 (v := ?v24) rfl rfl (by kernel_rfl) (by kernel_rfl) (by kernel_rfl) (fun _ _ _ h => h) (by kernel_rfl) ?hy24 (by exact hS0) ?_
        case hy24 => (intro w' hSw; go_simp; try (with_reducible rfl))
        simp only [Act.put, List.setIfInBounds_toArray, List.set_cons_zero, List.set_cons_succ]
        refine takeS_on (i := 7) 25 (v := ?v25) rfl rfl (by kernel_rfl) (by kernel_rfl) (by kernel_rfl) (fun _ _ _ h => h) (by kernel_rfl) ?hy25 (by exact hS0) ?_
        case hy25 => (intro w' hSw; go_simp; try (with_reducible rfl))
        simp only [Act.put, List.setIfInBounds_toArray, List.set_cons_zero, List.set_cons_succ]
        refine takeS_on (i := 8) 33 (v := ?v26) rfl rfl (by kernel_rfl) (by kernel_rfl) (by kernel_rfl) (fun _ _ _ h => h) (by kernel_rfl) ?hy26 (by exact hS0) ?_
        case hy26 => (intro w' hSw; go_simp; try (with_reducible rfl))
        simp only [Act.put, List.setIfInBounds_toArray, List.set_cons_zero, List.set_cons_succ]
        refine takeS_on (i := 9) 34 (v := ?v27) rfl rfl (by kernel_rfl) (by kernel_rfl) (by kernel_rfl) (fun _ _ _ h => h) (by kernel_rfl) ?hy27 (by exact hS0) ?_
        case hy27 => (intro w' hSw; go_simp; try (with_reducible rfl))
        simp only [Act.put, List.setIfInBounds_toArray, List.set_cons_zero, List.set_cons_succ]
        refine takeS_on (i := 10) 8 (v := ?v28) rfl rfl (by kernel_rfl) (by kernel_rfl) (by kernel_rfl) (fun _ _ _ h => h) (by kernel_rfl) ?hy28 (by exact hS0) ?_
        case hy28 => (intro w' hSw; go_simp; try (with_reducible rfl))
        simp only [Act.put, List.setIfInBounds_toArray, List.set_cons_zero, List.set_cons_succ]
        refine takeS_on (i := 11) 9 (v := ?v29) rfl rfl (by kernel_rfl) (by kernel_rfl) (by kernel_rfl) (fun _ _ _ h => h) (by kernel_rfl) ?hy29 (by exact hS0) ?_
        case hy29 => (intro w' hSw; go_simp; try (with_reducible rfl))
        simp only [Act.put, List.setIfInBounds_toArray, List.set_cons_zero, List.set_cons_succ]
        refine wpAnyH_done (by kernel_rfl) ?_ _
        clear hS0
        cases B with
        | true =>
          have hls : look x.nms a.nm = some L := by
            have := HB.out
            cases hx : look x.nms a.nm with
            | none => rw [hx] at this; cases this
            | some y => rw [HL.out, hx]; rfl
          have hpg : pgI x a = some (a.i.1, a.i.2.1, a.i.2.2.1, a.i.2.2.2.1, L) := by unfold pgI; rw [if_neg hk0, hls]; rfl
          obtain ⟨k, hk1, hk2, hk3⟩ := HAk.out.k
          have HEN := hid (fun (W : World) (p : Nums W) (q : Forms W) => encode_i (a.i.1, a.i.2.1, a.i.2.2.1, a.i.2.2.2.1, L) k hk1 hk2 hk3 W p q)
          obtain ⟨CW, hCW⟩ : ∃ c, c = wI (a.i.1, a.i.2.1, a.i.2.2.1, a.i.2.2.2.1, L) := ⟨_, rfl⟩
          rw [← hCW] at HEN
          have HCW := hid (show CW = cw x a by rw [hCW]; unfold cw; rw [hpg]; rfl)
          have HPS := hid (show (pgI x a).isSome = true by rw [hpg]; rfl)
          have KV2 := hid (show Gr wr (V.setCell ⟨wr.heap.size, 5, none⟩ (.int .i64 L)).drew from Ch.drew (KV.out.fresh (Nat.le_refl _) _ _))
          clear hCW hpg hk3 hk1 hk2 hls
          go_wp2_with (first | (go_at_call 54; refine (HEN.out _ (HG.out.gr (Gr.trans HGr.out KV2.out)).n (HG.out.gr (Gr.trans HGr.out KV2.out)).f).mono ?_; rintro e w2 ⟨⟨f, rfl⟩, g2⟩; have K2 := hid (Gr.trans KV2.out g2); clear g2) | (at_builtin; refine wpList_append_ow eU_len rfl (.tmp 49) (.tmp 51) _ 39 4 _ Tryz.underlying22 u32_info rfl (by omega) rfl (w.heap.size + 1) _ ((x.ask.take j).map (cw x)) rfl ((HOw.out.gr K2.out).alloc _) _ _ [cw x a] rfl (Ls.single w2 _ _ _ (by rw [← HCW.out]; rfl)) eU_one (j + 1) (by rw [List.length_map, List.length_take, ← HN.out]; simp; omega) (by omega) (by unfold maxLen; omega) (by simp; have := HGr.out.size; have := K2.out.size; have := lt_of_block HBB.out; omega) _ rfl ?_; intro ao4 cap4 w4 ow4 cw4 bl4; have HO4 := hid ow4; have HC4 := hid cw4; clear ow4 cw4 bl4))
          go_roundg (gk - 1)
          case measure => omega
          case rel =>
            have kB : ¬ Blk (.slice ao j cl) w.heap.size := fun e => by have := (HOw.out.blk e).1; omega
            refine ⟨j + 1, ao4, cap4, by omega, by simp, rfl, some_next HSo.out HAj.out HPS.out, by rw [take_cw HAj.out]; exact HO4.out, ?_, ?_⟩
            · exact (HC4.out.block _ (by simp; have := lt_of_block (gr_blk HBB.out K2.out); omega) kB).trans (al_blk (gr_blk HBB.out K2.out) _)
            · exact Ch.trans (Ch.alloc (Gr.trans HGr.out K2.out) _) HC4.out (fun q e => .inr (by have := (HOw.out.blk e).1; omega))
        | false =>
          have hln : look x.nms a.nm = none := by
            have := HB.out
            cases hx : look x.nms a.nm with
            | none => rfl
            | some y => rw [hx] at this; cases this
          have hpg : pgI x a = none := by unfold pgI; rw [if_neg hk0, hln]; rfl
          have HPX := hid (pgX_hit HSo.out HAj.out hpg)
          clear hpg hln
          go_wp2_with fail
          generalize hV2 : V.drew = V2
          have BB2 := hid (show V2.heap[w.heap.size]? = some (.cells #[.slice none 0 0, .slice none 0 0, .slice none 0 0] 26 (0, 0)) by rw [← hV2]; exact gr_blk HBB.out (Ch.drew KV.out))
          have a02 : V2.cell? ⟨wr.heap.size, 0, none⟩ = some (.int .i64 (a.ln : Nat)) := by rw [← hV2]; exact a0
          have lA2 : wr.heap.size < V2.heap.size := by rw [← hV2]; exact lA
          have K22 := hid (show Gr wr V2 by rw [← hV2]; exact Ch.drew KV.out)
          have lww := lt_of_block HBB.out
          clear hV2
          obtain ⟨z0, z1, z2⟩ : (V2.cell? ⟨w.heap.size, 0, none⟩ = some (.slice none 0 0)) ∧ (V2.cell? ⟨w.heap.size, 1, none⟩ = some (.slice none 0 0)) ∧ (V2.cell? ⟨w.heap.size, 2, none⟩ = some (.slice none 0 0)) := ⟨(cell_of BB2.out 0).trans rfl, (cell_of BB2.out 1).trans rfl, (cell_of BB2.out 2).trans rfl⟩
          have f0 := frozen_of BB2.out 0
          have f1 := frozen_of BB2.out 1
          have f2 := frozen_of BB2.out 2
          have hS0 : (fun w' => w'.cell? ⟨wr.heap.size, 0, none⟩ = some (.int .i64 (a.ln : Nat))) V2.drew := a02
          refine wp_region_held_drew (S := fun w' => w'.cell? ⟨wr.heap.size, 0, none⟩ = some (.int .i64 (a.ln : Nat))) (by kernel_rfl) (by exact hS0) (fun hSx => ?_)
          clear hSx
          refine takeS_on (i := 0) 37 (v := ?v30) rfl rfl (by kernel_rfl) (by kernel_rfl) (by kernel_rfl) (fun _ _ _ h => h) (by kernel_rfl) ?hy30 (by exact hS0) ?_
          case hy30 => (intro w' hSw; go_simp; try (with_reducible rfl))
          simp only [Act.put, List.setIfInBounds_toArray, List.set_cons_zero, List.set_cons_succ]
          refine takeS_on (i := 1) 38 (v := ?v31) rfl rfl (by kernel_rfl) (by kernel_rfl) (by kernel_rfl) (fun _ _ _ h => h) (by kernel_rfl) ?hy31 (by exact hS0) ?_
          case hy31 => (intro w' hSw; go_simp; try (with_reducible rfl))
          simp only [Act.put, List.setIfInBounds_toArray, List.set_cons_zero, List.set_cons_succ]
          refine takeS_on (i := 2) 39 (v := ?v32) rfl rfl (by kernel_rfl) (by kernel_rfl) (by kernel_rfl) (fun _ _ _ h => h) (by kernel_rfl) ?hy32 (by exact hS0) ?_
          case hy32 => (intro w' hSw; go_simp; try (with_reducible rfl))
          simp only [Act.put, List.setIfInBounds_toArray, List.set_cons_zero, List.set_cons_succ]
          refine wpAnyH_ready (rs := [3]) (by kernel_rfl) (by simp) (AllReadyH.cons rfl (fun K hK => ?_) AllReadyH.nil)
          go_simp
          have hS9 : (fun w' => w'.cell? ⟨wr.heap.size, 0, none⟩ = some (.int .i64 (a.ln : Nat))) (((V2.setCell ⟨w.heap.size, 0, none⟩ (.slice none 0 0)).setCell ⟨w.heap.size, 1, none⟩ (.slice none 0 0)).setCell ⟨w.heap.size, 2, none⟩ (.slice none 0 0)).drew := by
                have e1 : Ch (Only w.heap.size) V2 (((V2.setCell ⟨w.heap.size, 0, none⟩ (.slice none 0 0)).setCell ⟨w.heap.size, 1, none⟩ (.slice none 0 0)).setCell ⟨w.heap.size, 2, none⟩ (.slice none 0 0)) := (((Ch.refl _ _).own _ _).own _ _).own _ _
                exact (e1.cell lA2 (fun e => by have e2 : wr.heap.size = w.heap.size := e; omega)).trans a02
          refine hK.out _ _ (by exact hS9) (fun hSx => ?_)
          clear hSx hK K
          refine takeS_on (i := 4) 3 (v := ?v33) rfl rfl (by kernel_rfl) (by kernel_rfl) (by kernel_rfl) (fun _ _ _ h => h) (by kernel_rfl) ?hy33 (by exact hS9) ?_
          case hy33 => (intro w' hSw; go_simp; try (with_reducible rfl))
          simp only [Act.put, List.setIfInBounds_toArray, List.set_cons_zero, List.set_cons_succ]
          refine takeS_on (i := 5) 4 (v := ?v34) rfl rfl (by kernel_rfl) (by kernel_rfl) (by kernel_rfl) (fun _ _ _ h => h) (by kernel_rfl) ?hy34 (by exact hS9) ?_
          case hy34 => (intro w' hSw; go_simp; try (with_reducible rfl))
          simp only [Act.put, List.setIfInBounds_toArray, List.set_cons_zero, List.set_cons_succ]
          refine wpAnyH_done (by kernel_rfl) ?_ _
          clear hS0 hS9
          go_wp2
          have hfin := three_of (x' := .slice none 0 0) (y' := .slice none 0 0) (z' := .slice none 0 0) BB2.out
          refine bodyPost_ret (v := .tuple #[.agg #[.slice none 0 0, .slice none 0 0, .slice none 0 0], .int .i64 71, .int .i64 (a.ln : Nat)]) (by simp [results, Tryz.results22, go_sem, cell_of hfin]) rfl ?_
          exact Pgm.bad HPX.out (Ch.drew (((Ch.fresh (Gr.trans HGr.out K22.out) (Nat.le_refl _) _ _).fresh (Nat.le_refl _) _ _).fresh (Nat.le_refl _) _ _))
    · have hjn : j = n := by omega
      subst hjn
      have hnone : pgX x = none := pgX_none (fun l b q1 q2 => HSo.out l b (by rw [HN.out]; exact q1) q2)
      have htk : x.ask.take j = x.ask := by rw [HN.out]; exact List.take_length
      rw [htk] at HOw
      have s1 : wr.cell? ⟨R, 1, none⟩ = some (.slice aof nf cf) := (cell_of HRr.out.blk 1).trans rfl
      have s2 : wr.cell? ⟨R, 2, none⟩ = some (.slice aot nt ct) := (cell_of HRr.out.blk 2).trans rfl
      have lR := lt_of_block HRr.out.blk
      have HNone := hid hnone
      obtain ⟨z0, z1, z2⟩ : (wr.cell? ⟨w.heap.size, 0, none⟩ = some (.slice none 0 0)) ∧ (wr.cell? ⟨w.heap.size, 1, none⟩ = some (.slice none 0 0)) ∧ (wr.cell? ⟨w.heap.size, 2, none⟩ = some (.slice none 0 0)) := ⟨(cell_of HBB.out 0).trans rfl, (cell_of HBB.out 1).trans rfl, (cell_of HBB.out 2).trans rfl⟩
      have f0 := frozen_of HBB.out 0
      have f1 := frozen_of HBB.out 1
      have f2 := frozen_of HBB.out 2
      clear hnone htk r0
      go_wp2_with fail
      have hS0 : (fun w' => w'.cell? ⟨R, 1, none⟩ = some (.slice aof nf cf) ∧ w'.cell? ⟨R, 2, none⟩ = some (.slice aot nt ct)) wr.drew := ⟨s1, s2⟩
      refine wp_region_held_drew (S := fun w' => w'.cell? ⟨R, 1, none⟩ = some (.slice aof nf cf) ∧ w'.cell? ⟨R, 2, none⟩ = some (.slice aot nt ct)) (by kernel_rfl) (by exact hS0) (fun hSx => ?_)
      clear hSx
      refine takeS_on (i := 0) 54 (v := ?v35) rfl rfl (by kernel_rfl) (by kernel_rfl) (by kernel_rfl) (fun _ _ _ h => h) (by kernel_rfl) ?hy35 (by exact hS0) ?_
      case hy35 => (intro w' hSw; go_simp; try (with_reducible rfl))
      simp only [Act.put, List.setIfInBounds_toArray, List.set_cons_zero, List.set_cons_succ]
      refine takeS_on (i := 1) 55 (v := ?v36) rfl rfl (by kernel_rfl) (by kernel_rfl) (by kernel_rfl) (fun _ _ _ h => h) (by kernel_rfl) ?hy36 (by exact hS0) ?_
      case hy36 => (intro w' hSw; go_simp; try (with_reducible rfl))
      simp only [Act.put, List.setIfInBounds_toArray, List.set_cons_zero, List.set_cons_succ]
      refine takeS_on (i := 2) 56 (v := ?v37) rfl rfl (by kernel_rfl) (by kernel_rfl) (by kernel_rfl) (fun _ _ _ h => h) (by kernel_rfl) ?hy37 (by exact hS0) ?_
      case hy37 => (intro w' hSw; go_simp; try (with_reducible rfl))
      simp only [Act.put, List.setIfInBounds_toArray, List.set_cons_zero, List.set_cons_succ]
      refine takeS_on (i := 3) 57 (v := ?v38) rfl rfl (by kernel_rfl) (by kernel_rfl) (by kernel_rfl) (fun _ _ _ h => h) (by kernel_rfl) ?hy38 (by exact hS0) ?_
      case hy38 => (intro w' hSw; go_simp; try (with_reducible rfl))
      simp only [Act.put, List.setIfInBounds_toArray, List.set_cons_zero, List.set_cons_succ]
      refine takeS_on (i := 4) 58 (v := ?v39) rfl rfl (by kernel_rfl) (by kernel_rfl) (by kernel_rfl) (fun _ _ _ h => h) (by kernel_rfl) ?hy39 (by exact hS0) ?_
      case hy39 => (intro w' hSw; go_simp; try (with_reducible rfl))
      simp only [Act.put, List.setIfInBounds_toArray, List.set_cons_zero, List.set_cons_succ]
      refine takeS_on (i := 5) 59 (v := ?v40) rfl rfl (by kernel_rfl) (by kernel_rfl) (by kernel_rfl) (fun _ _ _ h => h) (by kernel_rfl) ?hy40 (by exact hS0) ?_
      case hy40 => (intro w' hSw; go_simp; try (with_reducible rfl))
      simp only [Act.put, List.setIfInBounds_toArray, List.set_cons_zero, List.set_cons_succ]
      refine takeS_on (i := 6) 60 (v := ?v41) rfl rfl (by kernel_rfl) (by kernel_rfl) (by kernel_rfl) (fun _ _ _ h => h) (by kernel_rfl) ?hy41 (by exact hS0) ?_
      case hy41 => (intro w' hSw; go_simp; try (with_reducible rfl))
      simp only [Act.put, List.setIfInBounds_toArray, List.set_cons_zero, List.set_cons_succ]
      refine takeS_on (i := 7) 61 (v := ?v42) rfl rfl (by kernel_rfl) (by kernel_rfl) (by kernel_rfl) (fun _ _ _ h => h) (by kernel_rfl) ?hy42 (by exact hS0) ?_
      case hy42 => (intro w' hSw; go_simp; try (with_reducible rfl))
      simp only [Act.put, List.setIfInBounds_toArray, List.set_cons_zero, List.set_cons_succ]
      refine takeS_on (i := 8) 62 (v := ?v43) rfl rfl (by kernel_rfl) (by kernel_rfl) (by kernel_rfl) (fun _ _ _ h => h) (by kernel_rfl) ?hy43 (by exact hS0) ?_
      case hy43 => (intro w' hSw; go_simp; try (with_reducible rfl))
      simp only [Act.put, List.setIfInBounds_toArray, List.set_cons_zero, List.set_cons_succ]
      refine takeS_on (i := 9) 63 (v := ?v44) rfl rfl (by kernel_rfl) (by kernel_rfl) (by kernel_rfl) (fun _ _ _ h => h) (by kernel_rfl) ?hy44 (by exact hS0) ?_
      case hy44 => (intro w' hSw; go_simp; try (with_reducible rfl))
      simp only [Act.put, List.setIfInBounds_toArray, List.set_cons_zero, List.set_cons_succ]
      refine wpAnyH_ready (rs := [10]) (by kernel_rfl) (by simp) (AllReadyH.cons rfl (fun K hK => ?_) AllReadyH.nil)
      go_simp
      have hS9 : (fun w' => w'.cell? ⟨R, 1, none⟩ = some (.slice aof nf cf) ∧ w'.cell? ⟨R, 2, none⟩ = some (.slice aot nt ct)) (((wr.setCell ⟨w.heap.size, 0, none⟩ (.slice ao j cl)).setCell ⟨w.heap.size, 1, none⟩ (.slice aof nf cf)).setCell ⟨w.heap.size, 2, none⟩ (.slice aot nt ct)).drew := by
          have e1 : Ch (Only w.heap.size) wr (((wr.setCell ⟨w.heap.size, 0, none⟩ (.slice ao j cl)).setCell ⟨w.heap.size, 1, none⟩ (.slice aof nf cf)).setCell ⟨w.heap.size, 2, none⟩ (.slice aot nt ct)) := (((Ch.refl _ _).own _ _).own _ _).own _ _
          have nR : ¬ Only w.heap.size R := fun e => by have e2 : R = w.heap.size := e; have := HR.out.ltR; have := HR.out.ltB; omega
          exact ⟨(e1.cell lR nR).trans s1, (e1.cell lR nR).trans s2⟩
      refine hK.out _ _ (by exact hS9) (fun hSx => ?_)
      clear hSx hK K
      refine takeS_on (i := 11) 3 (v := ?v45) rfl rfl (by kernel_rfl) (by kernel_rfl) (by kernel_rfl) (fun _ _ _ h => h) (by kernel_rfl) ?hy45 (by exact hS9) ?_
      case hy45 => (intro w' hSw; go_simp; try (with_reducible rfl))
      simp only [Act.put, List.setIfInBounds_toArray, List.set_cons_zero, List.set_cons_succ]
      refine takeS_on (i := 12) 4 (v := ?v46) rfl rfl (by kernel_rfl) (by kernel_rfl) (by kernel_rfl) (fun _ _ _ h => h) (by kernel_rfl) ?hy46 (by exact hS9) ?_
      case hy46 => (intro w' hSw; go_simp; try (with_reducible rfl))
      simp only [Act.put, List.setIfInBounds_toArray, List.set_cons_zero, List.set_cons_succ]
      refine wpAnyH_done (by kernel_rfl) ?_ _
      clear hS0 hS9
      go_wp2
      have hfin := three_of (x' := .slice ao j cl) (y' := .slice aof nf cf) (z' := .slice aot nt ct) HBB.out
      refine bodyPost_ret (v := .tuple #[.agg #[.slice ao j cl, .slice aof nf cf, .slice aot nt ct], .int .i64 0, .int .i64 0]) (by simp [results, Tryz.results22, go_sem, cell_of hfin]) rfl ?_
      have C9 : Ch (Only w.heap.size) wr ((((wr.setCell ⟨w.heap.size, 0, none⟩ (.slice ao j cl)).setCell ⟨w.heap.size, 1, none⟩ (.slice aof nf cf)).setCell ⟨w.heap.size, 2, none⟩ (.slice aot nt ct))) := (((Ch.refl _ _).own _ _).own _ _).own _ _
      exact Pgm.good HNone.out ((HOw.out.ch C9 (fun q e e2 => by have := (HOw.out.blk e).1; have e3 : q = w.heap.size := e2; omega)).drew) (Ch.drew (Ch.trans HGr.out C9 (fun q e => .inr (by have e3 : q = w.heap.size := e; omega))))
end Go.Proofs.YtbehlhnnfdkmaaaGreatDoor.Lt
