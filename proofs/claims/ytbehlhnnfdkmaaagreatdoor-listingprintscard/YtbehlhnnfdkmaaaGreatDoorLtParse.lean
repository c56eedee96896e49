/-
  What the program's Parse answers. Condition: the tables lie where they lie.
-/
import Derived.Test.YtbehlhnnfdkmaaaGreatDoorLtInv
namespace Go.Proofs.YtbehlhnnfdkmaaaGreatDoor.Lt
open Go.RowKit Wd

/-- line by line: what was read, the error, its line -/
def runL : List Ln → Rs → Rs × Int × Nat
  | [], x => (x, 0, 0)
  | l :: r, x => if rdE x l = 0 then runL r (rdS x l) else (x, rdE x l, l.num)
/-- the lines of a text -/
def pl (t : ByteArray) : List Ln := laF ((cutS (WS t) 0).map (fun p => ⟨p.1, p.2, .slice none 0 0, (kd (p.2.headD ⟨#[]⟩)).1, (kd (p.2.headD ⟨#[]⟩)).2, false⟩)) 0
def strip (l : Ln) : Ln := { l with wv := .slice none 0 0 }
theorem rdE_strip (x : Rs) (l : Ln) : rdE x (strip l) = rdE x l := rfl
theorem rdS_strip (x : Rs) (l : Ln) : rdS x (strip l) = rdS x l := rfl
theorem runL_strip : ∀ (ls : List Ln) (x : Rs), runL (ls.map strip) x = runL ls x := by
  intro ls
  induction ls with
  | nil => intro x; rfl
  | cons l r ih =>
    intro x
    rw [List.map_cons]
    unfold runL
    rw [rdE_strip, rdS_strip, ih]
    rfl
theorem pl_eq {base : Nat} {t : ByteArray} {w : World} {v : Value} {ls : List Ln} (h : CutR base t w v ls) : ls.map strip = pl t := by
  unfold pl
  have hk : ∀ (i : Nat) (l : Ln), ls[i]? = some l → (cutS (WS t) 0)[i]? = some (l.num, l.ws) := fun i l hl => by
    rw [← h.says, List.getElem?_map, hl]
    rfl
  have hlen : (cutS (WS t) 0).length = ls.length := by rw [← h.says, List.length_map]
  have hks : ls.map (·.kind) = ((cutS (WS t) 0).map (fun p => (⟨p.1, p.2, .slice none 0 0, (kd (p.2.headD ⟨#[]⟩)).1, (kd (p.2.headD ⟨#[]⟩)).2, false⟩ : Ln))).map (·.kind) := by
    apply List.ext_getElem?
    intro i
    rw [List.getElem?_map, List.getElem?_map, List.getElem?_map]
    cases hl : ls[i]? with
    | none =>
      rw [List.getElem?_eq_none (by rw [hlen]; exact List.getElem?_eq_none_iff.1 hl)]
      rfl
    | some l =>
      rw [hk i l hl]
      have := (h.ok l (List.mem_of_getElem? hl)).kind
      simp [this]
  apply List.ext_getElem?
  intro i
  rw [List.getElem?_map, laF_get, List.getElem?_map]
  cases hl : ls[i]? with
  | none =>
    rw [List.getElem?_eq_none (by rw [hlen]; exact List.getElem?_eq_none_iff.1 hl)]
    rfl
  | some l =>
    rw [hk i l hl]
    have a1 := (h.ok l (List.mem_of_getElem? hl)).kind
    have a2 := (h.ok l (List.mem_of_getElem? hl)).op
    have a3 := h.leads i l hl
    simp only [Option.map_some, Nat.zero_le, if_true, Option.some.injEq]
    rw [List.map_drop] at a3 ⊢
    rw [hks] at a3
    unfold strip
    rw [← a1, ← a2, ← a3]
/-- a program in memory -/
structure PrA (base : Nat) (w : World) (vc vf vt : Value) (ts : List Tb) (cs : List Int) (fs : List (Nat × Nat)) (tb : List (List Cs × Bool)) : Prop where
  c : Ow eU 1 39 base w vc cs
  f : Ow eF 2 41 base w vf fs
  t : Ow eT 2 44 base w vt ts
  tsq : ts.map (fun t => (t.cs, t.df)) = tb
  cs : ∀ t ∈ ts, Ow eC 4 46 base w t.cv t.cs
  dj : (vc :: vf :: vt :: ts.map (·.cv)).Pairwise Dj
/-- what a text says -/
def prs (t : ByteArray) : Rs × Int × Nat := runL (pl t) x0
/-- what Parse answers of a text that is not too long -/
def Prsd (w : World) (r : Rs × Int × Nat) (e : Ending) (w' : World) : Prop :=
  (if r.2.1 = 0 then
    (match pgX r.1 with
     | some ln => e = .returned (.tuple #[.agg #[.slice none 0 0, .slice none 0 0, .slice none 0 0], .int .i64 71, .int .i64 (ln : Nat)])
     | none => ∃ vc vf vt ts, e = .returned (.tuple #[.agg #[vc, vf, vt], .int .i64 0, .int .i64 0]) ∧ PrA w.heap.size w' vc vf vt ts (r.1.ask.map (cw r.1)) r.1.fn r.1.tb)
   else e = .returned (.tuple #[.agg #[.slice none 0 0, .slice none 0 0, .slice none 0 0], .int .i64 r.2.1, .int .i64 (r.2.2 : Nat)])) ∧ Gr w w'
theorem Prsd.bad {w w' : World} {x : Rs} {E : Int} {ln : Nat} (hE : E ≠ 0) (g : Gr w w') : Prsd w (x, E, ln) (.returned (.tuple #[.agg #[.slice none 0 0, .slice none 0 0, .slice none 0 0], .int .i64 E, .int .i64 (ln : Nat)])) w' := by
  unfold Prsd
  rw [if_neg (by exact hE)]
  exact ⟨rfl, g⟩

theorem Prsd.miss {w w' : World} {x : Rs} {ln : Nat} (h : pgX x = some ln) (g : Gr w w') : Prsd w (x, 0, 0) (.returned (.tuple #[.agg #[.slice none 0 0, .slice none 0 0, .slice none 0 0], .int .i64 71, .int .i64 (ln : Nat)])) w' := by
  refine ⟨?_, g⟩
  rw [if_pos (by rfl)]
  show (match pgX x with | some _ => _ | none => _)
  rw [h]
theorem Prsd.good {w w' : World} {x : Rs} {vc vf vt : Value} {ts : List Tb} (h : pgX x = none) (hp : PrA w.heap.size w' vc vf vt ts (x.ask.map (cw x)) x.fn x.tb) (g : Gr w w') : Prsd w (x, 0, 0) (.returned (.tuple #[.agg #[vc, vf, vt], .int .i64 0, .int .i64 0])) w' := by
  refine ⟨?_, g⟩
  rw [if_pos (by rfl)]
  show (match pgX x with | some _ => _ | none => _)
  rw [h]
  exact ⟨vc, vf, vt, ts, rfl, hp⟩
theorem parse_long (t : ByteArray) (ht : 262144 < t.size) (ht2 : t.size ≤ 9223372036854775807) (w : World) :
    Calls Tryz.prog 9 #[.string t] w fun e w' => e = .returned (.tuple #[.agg #[.slice none 0 0, .slice none 0 0, .slice none 0 0], .int .i64 75, .int .i64 0]) ∧ Gr w w' := by
  have h1 : (262144 : Int) < (t.size : Int) := by omega
  go_enter Tryz.func9, Tryz.ntmps9
  go_wp2
  refine bodyPost_ret (v := .tuple #[.agg #[.slice none 0 0, .slice none 0 0, .slice none 0 0], .int .i64 75, .int .i64 0]) (by simp [results, Tryz.results9, go_sem]) rfl ?_
  exact ⟨rfl, Gr.alloc (Gr.refl _) _ _⟩

set_option maxHeartbeats 2000000 in
set_option maxRecDepth 20000 in
theorem parse_any (t : ByteArray) (ht : t.size ≤ 262144) (w : World) (hg : Glb w) :
    Calls Tryz.prog 9 #[.string t] w (Prsd w (prs t)) := by
  have HG := hid hg
  have HT := hid ht
  obtain ⟨RS, hRS⟩ : ∃ r, r = prs t := ⟨_, rfl⟩
  rw [← hRS]
  have HRS := hid hRS
  have h1 : ¬ (262144 : Int) < (t.size : Int) := by omega
  have KA := hid (Ch.alloc (Ch.alloc (Ch.alloc (Gr.refl w) (.cells #[.slice none 0 0, .slice none 0 0, .slice none 0 0] 26)) (.map #[] 0)) (.cells #[.slice none 0 0, .slice none 0 0, .slice none 0 0, .map (some (w.heap.size + 1)), .bool false, .bool false] 51))
  have B0 := hid (al_blk (al_blk (MapKept.heap_alloc w (.cells #[.slice none 0 0, .slice none 0 0, .slice none 0 0] 26)).1 (.map #[] 0)) (.cells #[.slice none 0 0, .slice none 0 0, .slice none 0 0, .map (some (w.heap.size + 1)), .bool false, .bool false] 51))
  have B1 := hid (al_blk (MapKept.heap_alloc (w.alloc (.cells #[.slice none 0 0, .slice none 0 0, .slice none 0 0] 26)) (.map #[] 0)).1 (.cells #[.slice none 0 0, .slice none 0 0, .slice none 0 0, .map (some (w.heap.size + 1)), .bool false, .bool false] 51))
  have B2 := hid (MapKept.heap_alloc ((w.alloc (.cells #[.slice none 0 0, .slice none 0 0, .slice none 0 0] 26)).alloc (.map #[] 0)) (.cells #[.slice none 0 0, .slice none 0 0, .slice none 0 0, .map (some (w.heap.size + 1)), .bool false, .bool false] 51)).1
  have hmm := @run_makeMap Tryz.prog
  have HCT := hid (fun (W : World) (q : Glb W) => cut_lines t HT.out W q)
  have SZ := hid (show (((w.alloc (.cells #[.slice none 0 0, .slice none 0 0, .slice none 0 0] 26)).alloc (.map #[] 0)).alloc (.cells #[.slice none 0 0, .slice none 0 0, .slice none 0 0, .map (some (w.heap.size + 1)), .bool false, .bool false] 51)).heap.size = w.heap.size + 3 by simp)
  simp only [World.size_alloc] at B1 B2
  clear hRS hg ht
  go_enter Tryz.func9, Tryz.ntmps9
  go_wp2_with (go_at_call 20; refine (HCT.out _ (HG.out.gr KA.out)).mono ?_; rintro e wC ⟨v, ls, rfl, hcr, hgc⟩; obtain ⟨ao, cl, hvv⟩ := hcr.own.form; obtain ⟨n, hn⟩ : ∃ n, n = ls.length := ⟨_, rfl⟩; rw [← hn] at hvv; subst hvv; have HNL := hid hn; have HCR := hid hcr; have HGC := hid hgc; clear hcr hgc hn)
  clear hmm
  have HCB := hid (gr_blk B0.out HGC.out)
  have HCM := hid (gr_blk B1.out HGC.out)
  have HCRd := hid (gr_blk B2.out HGC.out)
  have hGW := Gr.trans KA.out HGC.out
  have HGW := hid hGW
  have hszC := HGC.out.size
  rw [SZ.out] at hszC HCR
  have hlen : n ≤ 262145 := by
    have e1 := congrArg List.length HCR.out.says
    rw [List.length_map] at e1
    have e2 := cutS_len (WS t) 0
    have e3 := SP_len t
    have e4 := HT.out
    unfold WS at e1 e2
    rw [List.length_map] at e2
    rw [HNL.out]
    omega
  have hcln := HCR.out.own.len.2
  obtain ⟨base, hbase⟩ : ∃ b, b = wC.heap.size := ⟨_, rfl⟩
  have HBS := hid hbase
  have HRD0 := hid (show Rd base (w.heap.size + 2) (w.heap.size + 1) wC (.slice none 0 0) (.slice none 0 0) (.slice none 0 0) [] x0 from
    { blk := HCRd.out, a := Ow.nil _ _ _ _ _, f := Ow.nil _ _ _ _ _, t := Ow.nil _ _ _ _ _, tsq := rfl, cs := fun t ht => by simp at ht, m := HCM.out, mo := ⟨fun e he => by simp [x0] at he, by simp [x0]⟩
      dj := dj_of ⟨Dj.nil _, Dj.nil _, Dj.nil _⟩ (fun t ht => by simp at ht) (by simp), ltR := by omega, ltM := by omega, ne := by omega, ltB := by omega })
  have HLQ := hid (show ∀ q, Blk (.slice ao n cl) q → ¬ SR base (w.heap.size + 2) (w.heap.size + 1) q from fun q hq e => by
    have := HCR.out.own.blk hq
    rcases e with e | e | e <;> omega)
  have HOK0 := hid (show ∀ l ∈ ls, LnOk (fun g => ¬ SR base (w.heap.size + 2) (w.heap.size + 1) g) wC l from fun l hl => (HCR.out.ok l hl).ch (Ch.refl (fun _ => False) wC) (fun _ _ _ x => x) (fun g hg p e => by
    rcases e with e | e | e <;> omega))
  have HRUN := hid (show RS = runL ls x0 by rw [HRS.out]; unfold prs; rw [← pl_eq HCR.out, runL_strip])
  clear hGW hszC hbase
  go_loopg [18] n (fun m i wq => ∃ j x, j + m = n ∧ i = .int .i64 ((j : Nat) : Int) ∧ Inv j x ∧ RS = runL (ls.drop j) x ∧ Red base (w.heap.size + 2) (w.heap.size + 1) wq x ∧ Ow eL 5 56 (w.heap.size + 3 + 1) wq (.slice ao n cl) ls ∧ (∀ l ∈ ls, LnOk (fun g => ¬ SR base (w.heap.size + 2) (w.heap.size + 1) g) wq l) ∧ wq.heap[w.heap.size]? = some (.cells #[.slice none 0 0, .slice none 0 0, .slice none 0 0] 26 (0, 0)) ∧ Gr w wq)
  case atStart => exact ⟨0, x0, by omega, rfl, Inv.zero, HRUN.out, HRD0.out.red, HCR.out.own, HOK0.out, HCB.out, HGW.out⟩
  case round =>
    obtain ⟨j, x, hjk, rfl, hinv, hrun, hred, hown, hok, hbB, hgr⟩ := hrel
    have HIN := hid hinv
    have HRN := hid hrun
    have HRE := hid hred
    have HOW := hid hown
    have HOKs := hid hok
    have HBB := hid hbB
    have HGR := hid hgr
    clear hinv hrun hred hown hok hbB hgr
    by_cases hj : j < n
    · obtain ⟨l, hlj⟩ : ∃ l, ls[j]? = some l := ⟨_, List.getElem?_eq_getElem (by rw [← HNL.out]; exact hj)⟩
      obtain ⟨g, cap', hv, _, hgl, _, hcs, _, _⟩ := HOW.out.get eL_len hlj
      injection hv with hv1 hv2 hv3
      subst hv1
      clear hv2 hv3
      have q0 := hcs 0 _ rfl
      have q1 := hcs 1 _ rfl
      have q2 := hcs 2 _ rfl
      have q3 := hcs 3 _ rfl
      have q4 := hcs 4 _ rfl
      simp only [Nat.add_zero] at q0
      have hlok := HOKs.out l (List.mem_of_getElem? hlj)
      obtain ⟨aw, cwv, hwv⟩ := hlok.lst.form
      have HLJ := hid hlj
      have HLOK := hid hlok
      have j0 : (0 : Int) ≤ (j : Int) := by omega
      have j1 : (j : Int) < (n : Int) := by omega
      have KV := hid (Gr.alloc (Gr.refl wr) #[.int .i64 (l.num : Nat), l.wv, .int .i64 l.kind, .int .i64 (l.op : Nat), .bool l.leads] 56)
      have BV := hid (MapKept.heap_alloc wr (.cells #[.int .i64 (l.num : Nat), l.wv, .int .i64 l.kind, .int .i64 (l.op : Nat), .bool l.leads] 56)).1
      have HRD := hid (read_any base (w.heap.size + 2) (w.heap.size + 1) _ x l (hlok.ch KV.out (fun _ _ _ => noB _) (fun _ _ p => p)) (HIN.out.bnd (by omega)) (HG.out.gr (Gr.trans HGR.out KV.out)) (HRE.out.gr KV.out))
      obtain ⟨E, hE⟩ : ∃ E, E = rdE x l := ⟨_, rfl⟩
      rw [← hE] at HRD
      have HE := hid hE
      unfold lV at HRD
      obtain ⟨wlen, hwlen⟩ : ∃ q, q = l.ws.length := ⟨_, rfl⟩
      rw [← hwlen] at hwv
      rw [hwv] at KV BV HRD q1
      have HWV := hid hwv
      have lww := lt_of_block HBB.out
      have hdrop : ls.drop j = l :: ls.drop (j + 1) := by
        have hlt : j < ls.length := by rw [← HNL.out]; exact hj
        rw [List.drop_eq_getElem_cons hlt, (List.getElem?_eq_some_iff.1 hlj).2]
      have HDR := hid hdrop
      clear hcs hlok hlj hE hwlen hwv hdrop
      have hnB : ¬ SR base (w.heap.size + 2) (w.heap.size + 1) w.heap.size := fun e => by
        have := HGW.out.size
        have := HBS.out
        have := HRD0.out.ltR
        rcases e with e | e | e <;> omega
      have HNB := hid hnB
      have HSQ := hid (show ∀ q, SR base (w.heap.size + 2) (w.heap.size + 1) q → w.heap.size ≤ q from fun q e => by
        have := HRD0.out.ltR
        rcases e with e | e | e <;> omega)
      clear hnB
      by_cases hE0 : E = 0
      · go_wp2_with (go_at_call 21; refine HRD.out.mono ?_; rintro e w2 ⟨rfl, d1, d2, d3⟩; have D1 := hid d1; have D2 := hid d2; have D3 := hid d3; clear d1 d2 d3)
        go_roundg (gk - 1)
        case measure => omega
        case rel =>
          have hE1 : rdE x l = 0 := by rw [← HE.out]; exact hE0
          refine ⟨j + 1, rdS x l, by omega, by simp, HIN.out.next (by omega) HLOK.out hE1, ?_, D1.out hE0, (HOW.out.gr KV.out).ch D2.out HLQ.out, fun y hy => ((HOKs.out y hy).ch KV.out (fun _ _ _ => noB _) (fun _ _ p => p)).ch D2.out (fun _ _ p => p) (fun _ _ p => p), ?_, ?_⟩
          · rw [HRN.out, HDR.out]
            show (if rdE x l = 0 then _ else _) = _
            rw [if_pos hE1]
          · exact (D2.out.block _ (lt_of_block (al_blk HBB.out _)) HNB.out).trans (al_blk HBB.out _)
          · exact Ch.trans (Gr.trans HGR.out KV.out) D2.out (fun q e => .inr (HSQ.out q e))
      · go_wp2_with (go_at_call 21; refine HRD.out.mono ?_; rintro e w2 ⟨rfl, d1, d2, d3⟩; have D1 := hid d1; have D2 := hid d2; have D3 := hid d3; clear d1 d2 d3)
        have g3 := D3.out hE0
        have a02 : w2.cell? ⟨wr.heap.size, 0, none⟩ = some (.int .i64 (l.num : Nat)) := (cell_of (gr_blk BV.out g3) 0).trans rfl
        have lA2 : wr.heap.size < w2.heap.size := lt_of_block (gr_blk BV.out g3)
        have BB2 := hid (gr_blk (al_blk HBB.out _) g3)
        have K2 := hid (Gr.trans (Gr.trans HGR.out KV.out) g3)
        obtain ⟨z0, z1, z2⟩ : (w2.cell? ⟨w.heap.size, 0, none⟩ = some (.slice none 0 0)) ∧ (w2.cell? ⟨w.heap.size, 1, none⟩ = some (.slice none 0 0)) ∧ (w2.cell? ⟨w.heap.size, 2, none⟩ = some (.slice none 0 0)) := ⟨(cell_of BB2.out 0).trans rfl, (cell_of BB2.out 1).trans rfl, (cell_of BB2.out 2).trans rfl⟩
        have f0 := frozen_of BB2.out 0
        have f1 := frozen_of BB2.out 1
        have f2 := frozen_of BB2.out 2
        clear g3 q0 q1 q2 q3 q4
        have hS0 : (fun w' => w'.cell? ⟨wr.heap.size, 0, none⟩ = some (.int .i64 (l.num : Nat))) w2.drew := a02
        refine wp_region_held_drew (S := fun w' => w'.cell? ⟨wr.heap.size, 0, none⟩ = some (.int .i64 (l.num : Nat))) (by kernel_rfl) (by exact hS0) (fun hSx => ?_)
        clear hSx
        refine takeS_on (i := 0) 26 (v := ?v18) rfl rfl (by kernel_rfl) (by kernel_rfl) (by kernel_rfl) (fun _ _ _ h => h) (by kernel_rfl) ?hy18 (by exact hS0) ?_
        case hy18 => (intro w' hSw; go_simp; try (with_reducible rfl))
        simp only [Act.put, List.setIfInBounds_toArray, List.set_cons_zero, List.set_cons_succ]
        refine takeS_on (i := 1) 27 (v := ?v19) rfl rfl (by kernel_rfl) (by kernel_rfl) (by kernel_rfl) (fun _ _ _ h => h) (by kernel_rfl) ?hy19 (by exact hS0) ?_
        case hy19 => (intro w' hSw; go_simp; try (with_reducible rfl))
        simp only [Act.put, List.setIfInBounds_toArray, List.set_cons_zero, List.set_cons_succ]
        refine takeS_on (i := 2) 28 (v := ?v20) rfl rfl (by kernel_rfl) (by kernel_rfl) (by kernel_rfl) (fun _ _ _ h => h) (by kernel_rfl) ?hy20 (by exact hS0) ?_
        case hy20 => (intro w' hSw; go_simp; try (with_reducible rfl))
        simp only [Act.put, List.setIfInBounds_toArray, List.set_cons_zero, List.set_cons_succ]
        refine takeS_on (i := 3) 29 (v := ?v21) rfl rfl (by kernel_rfl) (by kernel_rfl) (by kernel_rfl) (fun _ _ _ h => h) (by kernel_rfl) ?hy21 (by exact hS0) ?_
        case hy21 => (intro w' hSw; go_simp; try (with_reducible rfl))
        simp only [Act.put, List.setIfInBounds_toArray, List.set_cons_zero, List.set_cons_succ]
        refine wpAnyH_ready (rs := [4]) (by kernel_rfl) (by simp) (AllReadyH.cons rfl (fun K hK => ?_) AllReadyH.nil)
        go_simp
        have hS9 : (fun w' => w'.cell? ⟨wr.heap.size, 0, none⟩ = some (.int .i64 (l.num : Nat))) (((w2.setCell ⟨w.heap.size, 0, none⟩ (.slice none 0 0)).setCell ⟨w.heap.size, 1, none⟩ (.slice none 0 0)).setCell ⟨w.heap.size, 2, none⟩ (.slice none 0 0)).drew := by
            have e1 : Ch (Only w.heap.size) w2 (((w2.setCell ⟨w.heap.size, 0, none⟩ (.slice none 0 0)).setCell ⟨w.heap.size, 1, none⟩ (.slice none 0 0)).setCell ⟨w.heap.size, 2, none⟩ (.slice none 0 0)) := (((Ch.refl _ _).own _ _).own _ _).own _ _
            exact (e1.cell lA2 (fun e => by have e2 : wr.heap.size = w.heap.size := e; omega)).trans a02
        refine hK.out _ _ (by exact hS9) (fun hSx => ?_)
        clear hSx hK K
        refine takeS_on (i := 5) 3 (v := ?v22) rfl rfl (by kernel_rfl) (by kernel_rfl) (by kernel_rfl) (fun _ _ _ h => h) (by kernel_rfl) ?hy22 (by exact hS9) ?_
        case hy22 => (intro w' hSw; go_simp; try (with_reducible rfl))
        simp only [Act.put, List.setIfInBounds_toArray, List.set_cons_zero, List.set_cons_succ]
        refine takeS_on (i := 6) 4 (v := ?v23) rfl rfl (by kernel_rfl) (by kernel_rfl) (by kernel_rfl) (fun _ _ _ h => h) (by kernel_rfl) ?hy23 (by exact hS9) ?_
        case hy23 => (intro w' hSw; go_simp; try (with_reducible rfl))
        simp only [Act.put, List.setIfInBounds_toArray, List.set_cons_zero, List.set_cons_succ]
        refine wpAnyH_done (by kernel_rfl) ?_ _
        clear hS0 hS9
        go_wp2
        have hfin := three_of (x' := .slice none 0 0) (y' := .slice none 0 0) (z' := .slice none 0 0) BB2.out
        refine bodyPost_ret (v := .tuple #[.agg #[.slice none 0 0, .slice none 0 0, .slice none 0 0], .int .i64 E, .int .i64 (l.num : Nat)]) (by simp [results, Tryz.results9, go_sem, cell_of hfin]) rfl ?_
        have hRS : RS = (x, E, l.num) := by
          rw [HRN.out, HDR.out]
          show (if rdE x l = 0 then _ else _) = _
          rw [if_neg (by rw [← HE.out]; exact hE0), ← HE.out]
        rw [hRS]
        exact Prsd.bad hE0 (Ch.drew (((Ch.fresh K2.out (Nat.le_refl _) _ _).fresh (Nat.le_refl _) _ _).fresh (Nat.le_refl _) _ _))
    · have hjn : j = n := by omega
      subst hjn
      have hRS : RS = (x, 0, 0) := by
        rw [HRN.out, HNL.out, List.drop_length]
        rfl
      have HR2 := hid hRS
      obtain ⟨va, vf, vt, ts, hrd⟩ := HRE.out
      have HPR := hid (program_any base (w.heap.size + 2) (w.heap.size + 1) wr va vf vt ts x (HIN.out.bnd (by omega)).few HIN.out.ak (HG.out.gr HGR.out) hrd)
      have HRDF := hid hrd
      have lww := lt_of_block HBB.out
      obtain ⟨aof, cf, hvf⟩ := hrd.f.form
      obtain ⟨aot, ct, hvt⟩ := hrd.t.form
      generalize x.fn.length = nf at hvf
      generalize ts.length = nt at hvt
      subst hvf hvt
      clear hrd hRS
      cases hpx : pgX x with
      | some ln =>
        have HP2 : Hid (Calls Tryz.prog 22 #[.pointer (some ⟨w.heap.size + 2, 0, none⟩)] wr fun e w' => e = .returned (.tuple #[.agg #[.slice none 0 0, .slice none 0 0, .slice none 0 0], .int .i64 71, .int .i64 (ln : Nat)]) ∧ Gr wr w') := hid (HPR.out.mono (fun e w' q => by
          unfold Pgm at q
          rw [hpx] at q
          exact q))
        have HPX := hid hpx
        clear hpx
        go_wp2_with (go_at_call 22; refine HP2.out.mono ?_; rintro e w2 ⟨rfl, g2⟩; have bb2 := gr_blk HBB.out g2; have z0 : w2.cell? ⟨w.heap.size, 0, none⟩ = some (.slice none 0 0) := (cell_of bb2 0).trans rfl; have z1 : w2.cell? ⟨w.heap.size, 1, none⟩ = some (.slice none 0 0) := (cell_of bb2 1).trans rfl; have z2 : w2.cell? ⟨w.heap.size, 2, none⟩ = some (.slice none 0 0) := (cell_of bb2 2).trans rfl; have f0 := frozen_of bb2 0; have f1 := frozen_of bb2 1; have f2 := frozen_of bb2 2; have BB2 := hid bb2; have K2 := hid (Gr.trans HGR.out g2); clear bb2 g2)
        have hfin := three_of (x' := .slice none 0 0) (y' := .slice none 0 0) (z' := .slice none 0 0) BB2.out
        refine bodyPost_ret (v := .tuple #[.agg #[.slice none 0 0, .slice none 0 0, .slice none 0 0], .int .i64 71, .int .i64 (ln : Nat)]) (by simp [results, Tryz.results9, go_sem, cell_of hfin]) rfl ?_
        rw [HR2.out]
        exact Prsd.miss HPX.out (((Ch.fresh K2.out (Nat.le_refl _) _ _).fresh (Nat.le_refl _) _ _).fresh (Nat.le_refl _) _ _)
      | none =>
        have HP2 : Hid (Calls Tryz.prog 22 #[.pointer (some ⟨w.heap.size + 2, 0, none⟩)] wr fun e w' => (∃ aoc nc cc, e = .returned (.tuple #[.agg #[.slice aoc nc cc, .slice aof nf cf, .slice aot nt ct], .int .i64 0, .int .i64 0]) ∧ Ow eU 1 39 (wr.heap.size + 1) w' (.slice aoc nc cc) (x.ask.map (cw x))) ∧ Gr wr w') := hid (HPR.out.mono (fun e w' q => by
          unfold Pgm at q
          rw [hpx] at q
          obtain ⟨⟨vc, q1, q2⟩, q3⟩ := q
          obtain ⟨aoc, cc, rfl⟩ := q2.form
          exact ⟨⟨aoc, _, cc, q1, q2⟩, q3⟩))
        have HPX := hid hpx
        clear hpx
        go_wp2_with (go_at_call 22; refine HP2.out.mono ?_; rintro e w2 ⟨⟨aoc, nc, cc, rfl, hoc⟩, g2⟩; have bb2 := gr_blk HBB.out g2; have z0 : w2.cell? ⟨w.heap.size, 0, none⟩ = some (.slice none 0 0) := (cell_of bb2 0).trans rfl; have z1 : w2.cell? ⟨w.heap.size, 1, none⟩ = some (.slice none 0 0) := (cell_of bb2 1).trans rfl; have z2 : w2.cell? ⟨w.heap.size, 2, none⟩ = some (.slice none 0 0) := (cell_of bb2 2).trans rfl; have f0 := frozen_of bb2 0; have f1 := frozen_of bb2 1; have f2 := frozen_of bb2 2; have BB2 := hid bb2; have G2 := hid g2; have HOC := hid hoc; clear bb2 g2 hoc)
        have hfin := three_of (x' := .slice aoc nc cc) (y' := .slice aof nf cf) (z' := .slice aot nt ct) BB2.out
        refine bodyPost_ret (v := .tuple #[.agg #[.slice aoc nc cc, .slice aof nf cf, .slice aot nt ct], .int .i64 0, .int .i64 0]) (by simp [results, Tryz.results9, go_sem, cell_of hfin]) rfl ?_
        have C : Ch (Only w.heap.size) w2 (((w2.setCell ⟨w.heap.size, 0, none⟩ (.slice aoc nc cc)).setCell ⟨w.heap.size, 1, none⟩ (.slice aof nf cf)).setCell ⟨w.heap.size, 2, none⟩ (.slice aot nt ct)) := (((Ch.refl _ _).own _ _).own _ _).own _ _
        have hr2 := HRDF.out.gr G2.out
        have lB := HRD0.out.ltR
        have lo : ∀ {α : Type} {enc : α → List Value} {K e : Nat} {u : Value} {xs : List α}, Ow enc K e base w2 u xs → Ow enc K e w.heap.size (((w2.setCell ⟨w.heap.size, 0, none⟩ (.slice aoc nc cc)).setCell ⟨w.heap.size, 1, none⟩ (.slice aof nf cf)).setCell ⟨w.heap.size, 2, none⟩ (.slice aot nt ct)) u xs := fun ho => (ho.ch C (fun q hq e => by have := (ho.blk hq).1; have e1 : q = w.heap.size := e; omega)).lower (by omega)
        have far : ∀ {α : Type} {enc : α → List Value} {K e : Nat} {u : Value} {xs : List α}, Ow enc K e base wr u xs → Dj (.slice aoc nc cc) u := fun ho q a b => by
          have := (HOC.out.blk a).1
          have := (ho.blk b).2
          omega
        obtain ⟨⟨d1, d2, d3⟩, d4, d5⟩ := HRDF.out.parts
        rw [HR2.out]
        refine Prsd.good (ts := ts) HPX.out ⟨(HOC.out.ch C (fun q hq e => by have := (HOC.out.blk hq).1; have e1 : q = w.heap.size := e; omega)).lower (by omega), lo hr2.f, lo hr2.t, hr2.tsq, fun t ht => lo (hr2.cs t ht), dj_of ⟨far HRDF.out.f, far HRDF.out.t, d3⟩ (fun t ht => ⟨far (HRDF.out.cs t ht), (d4 t ht).2.1, (d4 t ht).2.2⟩) d5⟩ ?_
        exact Ch.trans (Gr.trans HGR.out G2.out) C (fun q e => .inr (by have e1 : q = w.heap.size := e; omega))
end Go.Proofs.YtbehlhnnfdkmaaaGreatDoor.Lt
