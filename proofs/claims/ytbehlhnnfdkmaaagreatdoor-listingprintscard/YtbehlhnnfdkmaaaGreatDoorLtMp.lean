/-
  What the program's read answers and leaves. Conditions: words are no longer than a text may be and lie apart from the reader; as many lines as a text may have.
  What the reader's program answers: the program that was read, or the first name that is not there. Condition: what was read can be.
  What holds of a reader behind any lines. No conditions.
  What the program's Parse answers. Condition: the tables lie where they lie.
-/
import Derived.Test.YtbehlhnnfdkmaaaGreatDoorLtOp2
import Derived.Test.YtbehlhnnfdkmaaaGreatDoorLtOp3
namespace Go.Proofs.YtbehlhnnfdkmaaaGreatDoor.Lt
open Go.RowKit Wd

/-- what holds of a reader behind any lines -/
structure Bnd (x : Rs) : Prop where
  few : Few x
  ok : Rok x
  xor : x.inF = true → x.inT = false
  fb : ∀ f ∈ x.fn, f.2 ≤ 4294967296
  cb : ∀ cs, (∃ d, (cs, d) ∈ x.tb) → cs.length ≤ 4294967296
theorem readOp_any (base R M : Nat) (w : World) (x : Rs) (num : Nat) (ws : List ByteArray) (wv : Value) (kind : Int) (op : Nat) (leads : Bool) (s : ByteArray) (wt : List ByteArray) (hws : ws = s :: wt) (h1 : 1 ≤ op) (h2 : op < 59) (hl : Ls eS (fun g => ¬ SR base R M g) w wv ws) (hz : Sml ws) (hb : Bnd x) (hg : Glb w) (h : Red base R M w x) :
    Calls Tryz.prog 53 #[.pointer (some ⟨R, 0, none⟩), .agg #[.int .i64 (num : Nat), wv, .int .i64 kind, .int .i64 (op : Nat), .bool leads]] w (Dn base R M w (roE x op wt) (roS x num op wt)) := by
  by_cases hE : fE op wt = 0
  · cases hT : x.inT with
    | true =>
      by_cases h29 : op = 29
      · exact readOp_send base R M w x num ws wv kind op leads s wt hws h1 h2 hl hz hb.few hb.ok hg h hE hT h29 hb.cb
      · by_cases h30 : op = 30
        · exact readOp_recv base R M w x num ws wv kind op leads s wt hws h1 h2 hl hz hb.few hb.ok hg h hE hT h30 hb.cb
        · have hF : x.inF = false := by
            cases hF : x.inF with
            | false => rfl
            | true => have := hb.xor hF; rw [hT] at this; cases this
          exact readOp_place base R M w x num ws wv kind op leads s wt hws h1 h2 hl hz hb.few hb.ok hg h hE _ hT hF (.inr ⟨h29, h30⟩)
    | false =>
      cases hF : x.inF with
      | true => exact readOp_ask base R M w x num ws wv kind op leads s wt hws h1 h2 hl hz hb.few hb.ok hg h hE hT hF hb.fb
      | false => exact readOp_place base R M w x num ws wv kind op leads s wt hws h1 h2 hl hz hb.few hb.ok hg h hE _ hT hF (.inl rfl)
  · exact readOp_bad base R M w x num ws wv kind op leads s wt hws h1 h2 hl hz hb.few hb.ok hg h hE

/-- what reading a line answers -/
def rdE (x : Rs) (l : Ln) : Int := if l.kind = 1 then rfE x l.ws.tail else if l.kind = 3 then rtE x l.ws.tail else if l.kind = 2 then rlE x l.ws l.leads else if l.kind = 4 then roE x l.op l.ws.tail else 70
/-- and leaves -/
def rdS (x : Rs) (l : Ln) : Rs := if l.kind = 1 then rfS x l.ws.tail else if l.kind = 3 then rtS x l.ws.tail else if l.kind = 2 then rlS x l.ws else roS x l.num l.op l.ws.tail
theorem Dn.of_gr {base R M : Nat} {w V w' : World} {E : Int} {X : Rs} {e : Ending} (g : Gr w V) (h : Dn base R M V E X e w') : Dn base R M w E X e w' := ⟨h.1, h.2.1, Ch.trans (Ch.any g) h.2.2.1 (fun _ q => .inl q), fun e => Gr.trans g (h.2.2.2 e)⟩
theorem Red.gr {base R M : Nat} {w w' : World} {x : Rs} (h : Red base R M w x) (g : Gr w w') : Red base R M w' x := by
  obtain ⟨va, vf, vt, ts, h⟩ := h
  exact (h.gr g).red
theorem colon_size {s : ByteArray} (h : colon s = true) : 1 ≤ s.size := by
  unfold colon Lib.hasSuffix at h
  have h1 := List.isSuffixOf_iff_suffix.1 h
  have h2 := h1.length_le
  simpa using h2

set_option maxHeartbeats 1000000 in
set_option maxRecDepth 20000 in
theorem read_any (base R M : Nat) (w : World) (x : Rs) (l : Ln) (hk : LnOk (fun g => ¬ SR base R M g) w l) (hb : Bnd x) (hg : Glb w) (h : Red base R M w x) :
    Calls Tryz.prog 21 #[.pointer (some ⟨R, 0, none⟩), lV l] w (Dn base R M w (rdE x l) (rdS x l)) := by
  obtain ⟨num, ws, wv, kind, op, leads⟩ := l
  obtain ⟨k1, k2, k3, k4, k5⟩ := hk
  simp only at k1 k2 k3 k4 k5
  unfold rdE rdS lV
  simp only
  cases ws with
  | nil => exact (k3 rfl).elim
  | cons s wt =>
    simp only [List.headD_cons, List.tail_cons] at k1 k2 ⊢
    obtain ⟨g, o, cap, rfl, hP, hgl, hcap, hc⟩ := k5.get eS_len (i := 0) (a := s) rfl
    clear hc
    have HG := hid (Gr.alloc (Gr.refl w) #[.int .i64 (num : Nat), .slice (some ⟨g, o, none⟩) (s :: wt).length cap, .int .i64 kind, .int .i64 (op : Nat), .bool leads] 56)
    have HR := hid (h.gr HG.out)
    have HGl := hid (hg.gr HG.out)
    have HLs := hid (k5.gr HG.out)
    have HB := hid hb
    have HZ := hid (show Sml wt from fun y hy => k4 y (by simp [hy]))
    have HZ2 := hid k4
    obtain ⟨n, hn⟩ : ∃ n, n = (s :: wt).length := ⟨_, rfl⟩
    have hn1 : 1 ≤ n := by rw [hn]; simp
    rw [← hn] at hcap HG HR HGl HLs ⊢
    clear hn h hg k5 k4 k3 hb
    obtain ⟨o', hsl, hlt⟩ := slice_tail g o n cap hn1 hcap
    have HLT := hid (hlt _ _ _ _ HLs.out)
    clear hlt
    by_cases c1 : kind = 1
    · subst c1
      simp only [if_true]
      have HC := hid (readFunc_any base R M _ x _ wt HLT.out HZ.out HB.out.few HR.out)
      clear k1 k2
      go_enter Tryz.func21, Tryz.ntmps21
      go_wp2_with (go_at_call 50; refine HC.out.mono ?_; rintro e w1 ⟨rfl, d1, d2⟩; have D1 := hid d1; have D2 := hid d2; clear d1 d2)
      go_ret
      exact Dn.of_gr HG.out ⟨rfl, D1.out, D2.out⟩
    · by_cases c2 : kind = 3
      · subst c2
        simp only [if_true]
        rw [if_neg c1, if_neg c1]
        have HC := hid (readTable_any base R M _ x _ wt HLT.out HZ.out HB.out.few HR.out)
        clear k1 k2
        go_enter Tryz.func21, Tryz.ntmps21
        go_wp2_with (go_at_call 51; refine HC.out.mono ?_; rintro e w1 ⟨rfl, d1, d2⟩; have D1 := hid d1; have D2 := hid d2; clear d1 d2)
        go_ret
        exact Dn.of_gr HG.out ⟨rfl, D1.out, D2.out⟩
      · by_cases c3 : kind = 2
        · subst c3
          rw [if_neg c1, if_neg c2, if_pos rfl, if_neg c1, if_neg c2, if_pos rfl]
          have hcs : colon s = true := by
            unfold kd at k1
            split at k1
            · cases k1
            · split at k1
              · cases k1
              · split at k1
                · assumption
                · split at k1 <;> cases k1
          have HC := hid (readLabel_any base R M _ x ⟨num, s :: wt, .slice (some ⟨g, o, none⟩) n cap, 2, op, leads⟩ s wt rfl (colon_size hcs) HLs.out HZ2.out HB.out.few HR.out)
          unfold lV at HC
          simp only at HC
          clear k1 k2 hcs
          go_enter Tryz.func21, Tryz.ntmps21
          go_wp2_with (go_at_call 52; refine HC.out.mono ?_; rintro e w1 ⟨rfl, d1, d2⟩; have D1 := hid d1; have D2 := hid d2; clear d1 d2)
          go_ret
          exact Dn.of_gr HG.out ⟨rfl, D1.out, D2.out⟩
        · by_cases c4 : kind = 4
          · subst c4
            rw [if_neg c1, if_neg c2, if_neg c3, if_pos rfl, if_neg c1, if_neg c2, if_neg c3]
            have hop : 1 ≤ op ∧ op < 59 := by
              have hfl := fop_lt s
              unfold kd at k1 k2
              split at k1
              · cases k1
              · split at k1
                · cases k1
                · split at k1
                  · cases k1
                  · split at k1
                    · cases k1
                    · rename_i q1 q2 q3 q4
                      rw [if_neg q1, if_neg q2, if_neg q3, if_neg q4] at k2
                      have k3 : op = fop s := k2
                      omega
            have HC := hid (readOp_any base R M _ x num (s :: wt) (.slice (some ⟨g, o, none⟩) n cap) 4 op leads s wt rfl hop.1 hop.2 HLs.out HZ2.out HB.out HGl.out HR.out)
            clear k1 k2 hop
            go_enter Tryz.func21, Tryz.ntmps21
            go_wp2_with (go_at_call 53; refine HC.out.mono ?_; rintro e w1 ⟨rfl, d1, d2⟩; have D1 := hid d1; have D2 := hid d2; clear d1 d2)
            go_ret
            exact Dn.of_gr HG.out ⟨rfl, D1.out, D2.out⟩
          · rw [if_neg c1, if_neg c2, if_neg c3, if_neg c4]
            clear k1 k2
            go_enter Tryz.func21, Tryz.ntmps21
            go_wp2
            go_ret
            exact Dn.bad (by omega) (Ch.any HG.out)
end Go.Proofs.YtbehlhnnfdkmaaaGreatDoor.Lt

namespace Go.Proofs.YtbehlhnnfdkmaaaGreatDoor.Lt
open Go.RowKit Wd

/-- an instruction with its name's number -/
def pgI (x : Rs) (a : Ask) : Option (Int × Int × Int × Int × Int) := if a.nm.1 = 0 then some a.i else (look x.nms a.nm).map (fun v => (a.i.1, a.i.2.1, a.i.2.2.1, a.i.2.2.2.1, v))
/-- its word -/
def wI (i : Int × Int × Int × Int × Int) : Int := eW i.1.toNat i.2.1 i.2.2.1 i.2.2.2.1 i.2.2.2.2
def cw (x : Rs) (a : Ask) : Int := wI ((pgI x a).getD (0, 0, 0, 0, 0))
/-- the first name that is not there -/
def pgX (x : Rs) : Option Nat := (x.ask.find? (fun a => (pgI x a).isNone)).map (·.ln)
def eU (n : Int) : List Value := [.int .u32 n]
theorem eU_len (n : Int) : (eU n).length = 1 := rfl
theorem u32_info : (Tryz.prog.info? 39).map (fun i => (i.zero, i.size, i.bytes)) = some (some (.int .u32 0), 1, 4) := by kernel_rfl
theorem eU_one {n : Int} : ∀ u ∈ [n].flatMap eU, u.oneCell' = true := by
  intro u hu
  simp [eU] at hu
  rw [hu]
  rfl
/-- what was read can be -/
structure Aok (a : Ask) : Prop where
  k : ∃ k : Nat, 1 ≤ k ∧ k < 59 ∧ a.i.1 = (k : Nat)
  nm : Nok a.nm
/-- what program answers -/
def Pgm (w : World) (vf vt : Value) (x : Rs) (e : Ending) (w' : World) : Prop :=
  (match pgX x with
   | some ln => e = .returned (.tuple #[.agg #[.slice none 0 0, .slice none 0 0, .slice none 0 0], .int .i64 71, .int .i64 (ln : Nat)])
   | none => ∃ vc, e = .returned (.tuple #[.agg #[vc, vf, vt], .int .i64 0, .int .i64 0]) ∧ Ow eU 1 39 (w.heap.size + 1) w' vc (x.ask.map (cw x))) ∧ Gr w w'
theorem Pgm.bad {w w' : World} {vf vt : Value} {x : Rs} {ln : Nat} (h : pgX x = some ln) (g : Gr w w') : Pgm w vf vt x (.returned (.tuple #[.agg #[.slice none 0 0, .slice none 0 0, .slice none 0 0], .int .i64 71, .int .i64 (ln : Nat)])) w' := by
  unfold Pgm
  rw [h]
  exact ⟨rfl, g⟩
theorem Pgm.good {w w' : World} {vc vf vt : Value} {x : Rs} (h : pgX x = none) (ho : Ow eU 1 39 (w.heap.size + 1) w' vc (x.ask.map (cw x))) (g : Gr w w') : Pgm w vf vt x (.returned (.tuple #[.agg #[vc, vf, vt], .int .i64 0, .int .i64 0])) w' := by
  unfold Pgm
  rw [h]
  exact ⟨⟨vc, rfl, ho⟩, g⟩
theorem three_of {w : World} {b : Nat} {x y z x' y' z' : Value} {t : TypeId} (h : w.heap[b]? = some (.cells #[x, y, z] t (0, 0))) : (((w.setCell ⟨b, 0, none⟩ x').setCell ⟨b, 1, none⟩ y').setCell ⟨b, 2, none⟩ z').heap[b]? = some (.cells #[x', y', z'] t (0, 0)) := by
  simpa using setCell_block (setCell_block (setCell_block h 0 x') 1 y') 2 z'
theorem pgX_hit {x : Rs} {j : Nat} {a : Ask} (h : ∀ l b, l < j → x.ask[l]? = some b → (pgI x b).isSome = true) (ha : x.ask[j]? = some a) (hn : pgI x a = none) : pgX x = some a.ln := by
  unfold pgX
  have : x.ask.find? (fun a => (pgI x a).isNone) = some a := by
    rw [List.find?_eq_some_iff_getElem]
    refine ⟨by simp [hn], j, (List.getElem?_eq_some_iff.1 ha).1, (List.getElem?_eq_some_iff.1 ha).2, fun i hi => ?_⟩
    have hlt : i < x.ask.length := Nat.lt_trans hi (List.getElem?_eq_some_iff.1 ha).1
    have := h i _ hi (List.getElem?_eq_getElem hlt)
    cases hp : pgI x x.ask[i] with
    | none => rw [hp] at this; cases this
    | some y => rfl
  rw [this]
  rfl
theorem pgX_none {x : Rs} (h : ∀ l b, l < x.ask.length → x.ask[l]? = some b → (pgI x b).isSome = true) : pgX x = none := by
  unfold pgX
  rw [Option.map_eq_none_iff, List.find?_eq_none]
  intro b hb
  obtain ⟨l, hl⟩ := List.getElem?_of_mem hb
  have := h l b (List.getElem?_eq_some_iff.1 hl).1 hl
  cases hp : pgI x b with
  | none => rw [hp] at this; cases this
  | some y => simp

theorem encode_i (i : Int × Int × Int × Int × Int) (k : Nat) (h1 : 1 ≤ k) (h2 : k < 59) (hi : i.1 = (k : Nat)) (w : World) (hn : Nums w) (hf : Forms w) :
    Calls Tryz.prog 54 #[.agg #[.int .i64 i.1, .int .i64 i.2.1, .int .i64 i.2.2.1, .int .i64 i.2.2.2.1, .int .i64 i.2.2.2.2]] w fun e w' => (∃ f, e = .returned (.tuple #[.int .u32 (wI i), .int .i64 f])) ∧ Gr w w' := by
  have e : wI i = eW k i.2.1 i.2.2.1 i.2.2.2.1 i.2.2.2.2 := by unfold wI; rw [hi]; rfl
  rw [e, hi]
  refine (encode_any k i.2.1 i.2.2.1 i.2.2.2.1 i.2.2.2.2 h1 h2 w hn hf).mono ?_
  rintro e w1 ⟨rfl, g⟩
  exact ⟨⟨_, rfl⟩, g⟩
theorem take_cw {x : Rs} {j : Nat} {a : Ask} (h : x.ask[j]? = some a) : (x.ask.take (j + 1)).map (cw x) = (x.ask.take j).map (cw x) ++ [cw x a] := by
  rw [List.take_add_one, h, List.map_append]
  rfl
theorem some_next {x : Rs} {j : Nat} {a : Ask} (h : ∀ l b, l < j → x.ask[l]? = some b → (pgI x b).isSome = true) (ha : x.ask[j]? = some a) (hs : (pgI x a).isSome = true) : ∀ l b, l < j + 1 → x.ask[l]? = some b → (pgI x b).isSome = true := fun l b q1 q2 => by
  by_cases e : l = j
  · subst e
    rw [ha] at q2
    injection q2 with q2
    rw [← q2]
    exact hs
  · exact h l b (by omega) q2

set_option maxHeartbeats 2000000 in
set_option maxRecDepth 20000 in
theorem program_any (base R M : Nat) (w : World) (va vf vt : Value) (ts : List Tb) (x : Rs) (hf : Few x) (ha : ∀ a ∈ x.ask, Aok a) (hg : Glb w) (h : Rd base R M w va vf vt ts x) :
    Calls Tryz.prog 22 #[.pointer (some ⟨R, 0, none⟩)] w (Pgm w vf vt x) := by
  obtain ⟨aoa, ca, rfl⟩ := h.a.form
  obtain ⟨aof, cf, hvf⟩ := h.f.form
  obtain ⟨aot, ct, hvt⟩ := h.t.form
  generalize x.fn.length = nf at hvf
  generalize ts.length = nt at hvt
  subst hvf hvt
  have hal := hf.a
  obtain ⟨n, hn⟩ : ∃ n, n = x.ask.length := ⟨_, rfl⟩
  have HN := hid hn
  rw [← hn] at h hal
  have HR := hid h
  have HA := hid ha
  have HG := hid hg
  have r0 : w.cell? ⟨R, 0, none⟩ = some (.slice aoa n ca) := (cell_of h.blk 0).trans rfl
  have lR0 := lt_of_block h.blk
  have hcap := h.a.len.2
  have HB0 := hid (MapKept.heap_alloc w (.cells #[.slice none 0 0, .slice none 0 0, .slice none 0 0] 26)).1
  have HG0 := hid (Gr.alloc (Gr.refl w) #[.slice none 0 0, .slice none 0 0, .slice none 0 0] 26)
  clear hn hf ha hg h
  go_enter Tryz.func22, Tryz.ntmps22
  go_wp2_with fail
  go_loopg [5, 17] n (fun m v i wq => ∃ j ao cl, j + m = n ∧ i = .int .i64 ((j : Nat) : Int) ∧ v = .slice ao j cl ∧ (∀ l b, l < j → x.ask[l]? = some b → (pgI x b).isSome = true) ∧ Ow eU 1 39 (w.heap.size + 1) wq (.slice ao j cl) ((x.ask.take j).map (cw x)) ∧ wq.heap[w.heap.size]? = some (.cells #[.slice none 0 0, .slice none 0 0, .slice none 0 0] 26 (0, 0)) ∧ Gr w wq)
  case atStart => exact ⟨0, none, 0, by omega, rfl, rfl, fun l b q => by omega, Ow.nil _ _ _ _ _, HB0.out, HG0.out⟩
  case round =>
    obtain ⟨j, ao, cl, hjk, rfl, rfl, hsome, hown, hbB, hgr⟩ := hrel
    have HSo := hid hsome
    have HOw := hid hown
    have HBB := hid hbB
    have HGr := hid hgr
    have HRr := hid (HR.out.gr hgr)
    clear hsome hown hbB hgr
    by_cases hj : j < n
    · obtain ⟨a, haj⟩ : ∃ a, x.ask[j]? = some a := ⟨_, List.getElem?_eq_getElem (by rw [← HN.out]; exact hj)⟩
      have HAj := hid haj
      have HAk := hid (HA.out a (List.mem_of_getElem? haj))
      obtain ⟨g, cap', hv, _, hgl, _, hcs, _, _⟩ := HRr.out.a.get eA_len haj
      injection hv with hv1 hv2 hv3
      subst hv1
      clear hv2 hv3 haj
      have q0 := hcs 0 _ rfl
      have q1 := hcs 1 _ rfl
      have q2 := hcs 2 _ rfl
      have q3 := hcs 3 _ rfl
      have q4 := hcs 4 _ rfl
      have q5 := hcs 5 _ rfl
      have q6 := hcs 6 _ rfl
      have q7 := hcs 7 _ rfl
      have q8 := hcs 8 _ rfl
      simp only [Nat.add_zero] at q0
      have j0 : (0 : Int) ≤ (j : Int) := by omega
      have j1 : (j : Int) < (n : Int) := by omega
      have KV := hid (Gr.alloc (Gr.refl wr) #[.int .i64 (a.ln : Nat), .int .i64 a.i.1, .int .i64 a.i.2.1, .int .i64 a.i.2.2.1, .int .i64 a.i.2.2.2.1, .int .i64 a.i.2.2.2.2, .int .i64 a.nm.1, .int .i64 a.nm.2.1, .string a.nm.2.2] 102)
      have BV := hid (MapKept.heap_alloc wr (.cells #[.int .i64 (a.ln : Nat), .int .i64 a.i.1, .int .i64 a.i.2.1, .int .i64 a.i.2.2.1, .int .i64 a.i.2.2.2.1, .int .i64 a.i.2.2.2.2, .int .i64 a.nm.1, .int .i64 a.nm.2.1, .string a.nm.2.2] 102)).1
      clear hcs
      by_cases hk0 : a.nm.1 = 0
      · have hpg : pgI x a = some a.i := by unfold pgI; rw [if_pos hk0]
        obtain ⟨k, hk1, hk2, hk3⟩ := HAk.out.k
        have HEN := hid (fun (W : World) (p : Nums W) (q : Forms W) => encode_i a.i k hk1 hk2 hk3 W p q)
        obtain ⟨CW, hCW⟩ : ∃ c, c = wI a.i := ⟨_, rfl⟩
        rw [← hCW] at HEN
        have HCW := hid (show CW = cw x a by rw [hCW]; unfold cw; rw [hpg]; rfl)
        have HPS := hid (show (pgI x a).isSome = true by rw [hpg]; rfl)
        rw [hk0] at KV
        clear hCW hpg hk3 hk1 hk2
        go_wp2_with (first | (go_at_call 54; refine (HEN.out _ (HG.out.gr (Gr.trans HGr.out KV.out)).n (HG.out.gr (Gr.trans HGr.out KV.out)).f).mono ?_; rintro e w2 ⟨⟨f, rfl⟩, g2⟩; have K2 := hid (Gr.trans KV.out g2); clear g2) | (at_builtin; refine wpList_append_ow eU_len rfl (.tmp 49) (.tmp 51) _ 39 4 _ Tryz.underlying22 u32_info rfl (by omega) rfl (w.heap.size + 1) _ ((x.ask.take j).map (cw x)) rfl ((HOw.out.gr K2.out).alloc _) _ _ [cw x a] rfl (Ls.single w2 _ _ _ (by rw [← HCW.out]; rfl)) eU_one (j + 1) (by rw [List.length_map, List.length_take, ← HN.out]; simp; omega) (by omega) (by unfold maxLen; omega) (by simp; have := HGr.out.size; have := K2.out.size; have := lt_of_block HBB.out; omega) _ rfl ?_; intro ao4 cap4 w4 ow4 cw4 bl4; have HO4 := hid ow4; have HC4 := hid cw4; clear ow4 cw4 bl4))
        go_roundg (gk - 1)
        case measure => omega
        case rel =>
          have kB : ¬ Blk (.slice ao j cl) w.heap.size := fun e => by have := (HOw.out.blk e).1; omega
          refine ⟨j + 1, ao4, cap4, by omega, by simp, rfl, some_next HSo.out HAj.out HPS.out, by rw [take_cw HAj.out]; exact HO4.out, ?_, ?_⟩
          · exact (HC4.out.block _ (by simp; have := lt_of_block (gr_blk HBB.out K2.out); omega) kB).trans (al_blk (gr_blk HBB.out K2.out) _)
          · exact Ch.trans (Ch.alloc (Gr.trans HGr.out K2.out) _) HC4.out (fun q e => .inr (by have := (HOw.out.blk e).1; omega))
      · have HLK := hid (fun (W : World) (p : MAt W M x.nms x.nms.length) => lookup_any p HR.out.mo HAk.out.nm)
        obtain ⟨L, hL⟩ : ∃ L, L = (look x.nms a.nm).getD 0 := ⟨_, rfl⟩
        obtain ⟨B, hB⟩ : ∃ B, B = (look x.nms a.nm).isSome := ⟨_, rfl⟩
        rw [← hL, ← hB] at HLK
        unfold kV at HLK
        have HL := hid hL
        have HB := hid hB
        clear hL hB
        go_wp2_with fail
        generalize wr.alloc (.cells #[.int .i64 (a.ln : Nat), .int .i64 a.i.1, .int .i64 a.i.2.1, .int .i64 a.i.2.2.1, .int .i64 a.i.2.2.2.1, .int .i64 a.i.2.2.2.2, .int .i64 a.nm.1, .int .i64 a.nm.2.1, .string a.nm.2.2] 102) = V at KV BV ⊢
        have RV := hid (HRr.out.gr KV.out)
        obtain ⟨a0, a1, a2, a3, a4, a5, a6, a7, a8⟩ : (V.cell? ⟨wr.heap.size, 0, none⟩ = some (.int .i64 (a.ln : Nat))) ∧ (V.cell? ⟨wr.heap.size, 1, none⟩ = some (.int .i64 a.i.1)) ∧ (V.cell? ⟨wr.heap.size, 2, none⟩ = some (.int .i64 a.i.2.1)) ∧ (V.cell? ⟨wr.heap.size, 3, none⟩ = some (.int .i64 a.i.2.2.1)) ∧ (V.cell? ⟨wr.heap.size, 4, none⟩ = some (.int .i64 a.i.2.2.2.1)) ∧ (V.cell? ⟨wr.heap.size, 5, none⟩ = some (.int .i64 a.i.2.2.2.2)) ∧ (V.cell? ⟨wr.heap.size, 6, none⟩ = some (.int .i64 a.nm.1)) ∧ (V.cell? ⟨wr.heap.size, 7, none⟩ = some (.int .i64 a.nm.2.1)) ∧ (V.cell? ⟨wr.heap.size, 8, none⟩ = some (.string a.nm.2.2)) := ⟨(cell_of BV.out 0).trans rfl, (cell_of BV.out 1).trans rfl, (cell_of BV.out 2).trans rfl, (cell_of BV.out 3).trans rfl, (cell_of BV.out 4).trans rfl, (cell_of BV.out 5).trans rfl, (cell_of BV.out 6).trans rfl, (cell_of BV.out 7).trans rfl, (cell_of BV.out 8).trans rfl⟩
        have n3 : V.cell? ⟨R, 3, none⟩ = some (.map (some M)) := (cell_of RV.out.blk 3).trans rfl
        have lA := lt_of_block BV.out
        have f5 := frozen_of BV.out 5
        clear q0 q1 q2 q3 q4 q5 q6 q7 q8
        have hS0 : (fun w' => w'.cell? ⟨R, 3, none⟩ = some (.map (some M)) ∧ w'.cell? ⟨wr.heap.size, 6, none⟩ = some (.int .i64 a.nm.1) ∧ w'.cell? ⟨wr.heap.size, 7, none⟩ = some (.int .i64 a.nm.2.1) ∧ w'.cell? ⟨wr.heap.size, 8, none⟩ = some (.string a.nm.2.2) ∧ (Instr.lookup 48 (.map (some M)) (.agg #[.int .i64 a.nm.1, .int .i64 a.nm.2.1, .string a.nm.2.2]) true).run Tryz.prog w' = .ok (.tuple #[.int .i64 L, .bool B]) w') V.drew := ⟨n3, a6, a7, a8, HLK.out V.drew RV.out.m⟩
        refine wp_region_held_drew (S := fun w' => w'.cell? ⟨R, 3, none⟩ = some (.map (some M)) ∧ w'.cell? ⟨wr.heap.size, 6, none⟩ = some (.int .i64 a.nm.1) ∧ w'.cell? ⟨wr.heap.size, 7, none⟩ = some (.int .i64 a.nm.2.1) ∧ w'.cell? ⟨wr.heap.size, 8, none⟩ = some (.string a.nm.2.2) ∧ (Instr.lookup 48 (.map (some M)) (.agg #[.int .i64 a.nm.1, .int .i64 a.nm.2.1, .string a.nm.2.2]) true).run Tryz.prog w' = .ok (.tuple #[.int .i64 L, .bool B]) w') (by kernel_rfl) (by exact hS0) (fun hSx => ?_)
        clear hSx
        refine takeS_on (i := 0) 26 (v := ?v18) rfl rfl (by kernel_rfl) (by kernel_rfl) (by kernel_rfl) (fun _ _ _ h => h) (by kernel_rfl) ?hy18 (by exact hS0) ?_
        case hy18 => (intro w' hSw; go_simp; try (with_reducible rfl))
        simp only [Act.put, List.setIfInBounds_toArray, List.set_cons_zero, List.set_cons_succ]
        refine takeS_on (i := 1) 27 (v := ?v19) rfl rfl (by kernel_rfl) (by kernel_rfl) (by kernel_rfl) (fun _ _ _ h => h) (by kernel_rfl) ?hy19 (by exact hS0) ?_
        case hy19 => (intro w' hSw; go_simp; try (with_reducible rfl))
        simp only [Act.put, List.setIfInBounds_toArray, List.set_cons_zero, List.set_cons_succ]
        refine takeS_on (i := 2) 28 (v := ?v20) rfl rfl (by kernel_rfl) (by kernel_rfl) (by kernel_rfl) (fun _ _ _ h => h) (by kernel_rfl) ?hy20 (by exact hS0) ?_
        case hy20 => (intro w' hSw; go_simp; try (with_reducible rfl))
        simp only [Act.put, List.setIfInBounds_toArray, List.set_cons_zero, List.set_cons_succ]
        refine takeS_on (i := 3) 29 (v := ?v21) rfl rfl (by kernel_rfl) (by kernel_rfl) (by kernel_rfl) (fun _ _ _ h => h) (by kernel_rfl) ?hy21 (by exact hS0) ?_
        case hy21 => (intro w' hSw; go_simp; try (with_reducible rfl))
        simp only [Act.put, List.setIfInBounds_toArray, List.set_cons_zero, List.set_cons_succ]
        refine takeS_on (i := 4) 30 (v := ?v22) rfl rfl (by kernel_rfl) (by kernel_rfl) (by kernel_rfl) (fun _ _ _ h => h) (by kernel_rfl) ?hy22 (by exact hS0) ?_
        case hy22 => (intro w' hSw; go_simp; try (with_reducible rfl))
        simp only [Act.put, List.setIfInBounds_toArray, List.set_cons_zero, List.set_cons_succ]
        refine takeS_on (i := 5) 31 (v := ?v23) rfl rfl (by kernel_rfl) (by kernel_rfl) (by kernel_rfl) (fun _ _ _ h => h) (by kernel_rfl) ?hy23 (by exact hS0) ?_
        case hy23 => (intro w' hSw; go_simp; try (with_reducible rfl))
        simp only [Act.put, List.setIfInBounds_toArray, List.set_cons_zero, List.set_cons_succ]
        refine takeS_on (i := 6) 32 (v := ?v24) rfl rfl (by kernel_rfl) (by kernel_rfl) (by kernel_rfl) (fun _ _ _ h => h) (by kernel_rfl) ?hy24 (by exact hS0) ?_
        case hy24 => (intro w' hSw; go_simp; try (with_reducible rfl))
        simp only [Act.put, List.setIfInBounds_toArray, List.set_cons_zero, List.set_cons_succ]
        refine takeS_on (i := 7) 25 (v := ?v25) rfl rfl (by kernel_rfl) (by kernel_rfl) (by kernel_rfl) (fun _ _ _ h => h) (by kernel_rfl) ?hy25 (by exact hS0) ?_
        case hy25 => (intro w' hSw; go_simp; try (with_reducible rfl))
        simp only [Act.put, List.setIfInBounds_toArray, List.set_cons_zero, List.set_cons_succ]
        refine takeS_on (i := 8) 33 (v := ?v26) rfl rfl (by kernel_rfl) (by kernel_rfl) (by kernel_rfl) (fun _ _ _ h => h) (by kernel_rfl) ?hy26 (by exact hS0) ?_
        case hy26 => (intro w' hSw; go_simp; try (with_reducible rfl))
        simp only [Act.put, List.setIfInBounds_toArray, List.set_cons_zero, List.set_cons_succ]
        refine takeS_on (i := 9) 34 (v := ?v27) rfl rfl (by kernel_rfl) (by kernel_rfl) (by kernel_rfl) (fun _ _ _ h => h) (by kernel_rfl) ?hy27 (by exact hS0) ?_
        case hy27 => (intro w' hSw; go_simp; try (with_reducible rfl))
        simp only [Act.put, List.setIfInBounds_toArray, List.set_cons_zero, List.set_cons_succ]
        refine takeS_on (i := 10) 8 (v := ?v28) rfl rfl (by kernel_rfl) (by kernel_rfl) (by kernel_rfl) (fun _ _ _ h => h) (by kernel_rfl) ?hy28 (by exact hS0) ?_
        case hy28 => (intro w' hSw; go_simp; try (with_reducible rfl))
        simp only [Act.put, List.setIfInBounds_toArray, List.set_cons_zero, List.set_cons_succ]
        refine takeS_on (i := 11) 9 (v := ?v29) rfl rfl (by kernel_rfl) (by kernel_rfl) (by kernel_rfl) (fun _ _ _ h => h) (by kernel_rfl) ?hy29 (by exact hS0) ?_
        case hy29 => (intro w' hSw; go_simp; try (with_reducible rfl))
        simp only [Act.put, List.setIfInBounds_toArray, List.set_cons_zero, List.set_cons_succ]
        refine wpAnyH_done (by kernel_rfl) ?_ _
        clear hS0
        cases B with
        | true =>
          have hls : look x.nms a.nm = some L := by
            have := HB.out
            cases hx : look x.nms a.nm with
            | none => rw [hx] at this; cases this
            | some y => rw [HL.out, hx]; rfl
          have hpg : pgI x a = some (a.i.1, a.i.2.1, a.i.2.2.1, a.i.2.2.2.1, L) := by unfold pgI; rw [if_neg hk0, hls]; rfl
          obtain ⟨k, hk1, hk2, hk3⟩ := HAk.out.k
          have HEN := hid (fun (W : World) (p : Nums W) (q : Forms W) => encode_i (a.i.1, a.i.2.1, a.i.2.2.1, a.i.2.2.2.1, L) k hk1 hk2 hk3 W p q)
          obtain ⟨CW, hCW⟩ : ∃ c, c = wI (a.i.1, a.i.2.1, a.i.2.2.1, a.i.2.2.2.1, L) := ⟨_, rfl⟩
          rw [← hCW] at HEN
          have HCW := hid (show CW = cw x a by rw [hCW]; unfold cw; rw [hpg]; rfl)
          have HPS := hid (show (pgI x a).isSome = true by rw [hpg]; rfl)
          have KV2 := hid (show Gr wr (V.setCell ⟨wr.heap.size, 5, none⟩ (.int .i64 L)).drew from Ch.drew (KV.out.fresh (Nat.le_refl _) _ _))
          clear hCW hpg hk3 hk1 hk2 hls
          go_wp2_with (first | (go_at_call 54; refine (HEN.out _ (HG.out.gr (Gr.trans HGr.out KV2.out)).n (HG.out.gr (Gr.trans HGr.out KV2.out)).f).mono ?_; rintro e w2 ⟨⟨f, rfl⟩, g2⟩; have K2 := hid (Gr.trans KV2.out g2); clear g2) | (at_builtin; refine wpList_append_ow eU_len rfl (.tmp 49) (.tmp 51) _ 39 4 _ Tryz.underlying22 u32_info rfl (by omega) rfl (w.heap.size + 1) _ ((x.ask.take j).map (cw x)) rfl ((HOw.out.gr K2.out).alloc _) _ _ [cw x a] rfl (Ls.single w2 _ _ _ (by rw [← HCW.out]; rfl)) eU_one (j + 1) (by rw [List.length_map, List.length_take, ← HN.out]; simp; omega) (by omega) (by unfold maxLen; omega) (by simp; have := HGr.out.size; have := K2.out.size; have := lt_of_block HBB.out; omega) _ rfl ?_; intro ao4 cap4 w4 ow4 cw4 bl4; have HO4 := hid ow4; have HC4 := hid cw4; clear ow4 cw4 bl4))
          go_roundg (gk - 1)
          case measure => omega
          case rel =>
            have kB : ¬ Blk (.slice ao j cl) w.heap.size := fun e => by have := (HOw.out.blk e).1; omega
            refine ⟨j + 1, ao4, cap4, by omega, by simp, rfl, some_next HSo.out HAj.out HPS.out, by rw [take_cw HAj.out]; exact HO4.out, ?_, ?_⟩
            · exact (HC4.out.block _ (by simp; have := lt_of_block (gr_blk HBB.out K2.out); omega) kB).trans (al_blk (gr_blk HBB.out K2.out) _)
            · exact Ch.trans (Ch.alloc (Gr.trans HGr.out K2.out) _) HC4.out (fun q e => .inr (by have := (HOw.out.blk e).1; omega))
        | false =>
          have hln : look x.nms a.nm = none := by
            have := HB.out
            cases hx : look x.nms a.nm with
            | none => rfl
            | some y => rw [hx] at this; cases this
          have hpg : pgI x a = none := by unfold pgI; rw [if_neg hk0, hln]; rfl
          have HPX := hid (pgX_hit HSo.out HAj.out hpg)
          clear hpg hln
          go_wp2_with fail
          generalize hV2 : V.drew = V2
          have BB2 := hid (show V2.heap[w.heap.size]? = some (.cells #[.slice none 0 0, .slice none 0 0, .slice none 0 0] 26 (0, 0)) by rw [← hV2]; exact gr_blk HBB.out (Ch.drew KV.out))
          have a02 : V2.cell? ⟨wr.heap.size, 0, none⟩ = some (.int .i64 (a.ln : Nat)) := by rw [← hV2]; exact a0
          have lA2 : wr.heap.size < V2.heap.size := by rw [← hV2]; exact lA
          have K22 := hid (show Gr wr V2 by rw [← hV2]; exact Ch.drew KV.out)
          have lww := lt_of_block HBB.out
          clear hV2
          obtain ⟨z0, z1, z2⟩ : (V2.cell? ⟨w.heap.size, 0, none⟩ = some (.slice none 0 0)) ∧ (V2.cell? ⟨w.heap.size, 1, none⟩ = some (.slice none 0 0)) ∧ (V2.cell? ⟨w.heap.size, 2, none⟩ = some (.slice none 0 0)) := ⟨(cell_of BB2.out 0).trans rfl, (cell_of BB2.out 1).trans rfl, (cell_of BB2.out 2).trans rfl⟩
          have f0 := frozen_of BB2.out 0
          have f1 := frozen_of BB2.out 1
          have f2 := frozen_of BB2.out 2
          have hS0 : (fun w' => w'.cell? ⟨wr.heap.size, 0, none⟩ = some (.int .i64 (a.ln : Nat))) V2.drew := a02
          refine wp_region_held_drew (S := fun w' => w'.cell? ⟨wr.heap.size, 0, none⟩ = some (.int .i64 (a.ln : Nat))) (by kernel_rfl) (by exact hS0) (fun hSx => ?_)
          clear hSx
          refine takeS_on (i := 0) 37 (v := ?v30) rfl rfl (by kernel_rfl) (by kernel_rfl) (by kernel_rfl) (fun _ _ _ h => h) (by kernel_rfl) ?hy30 (by exact hS0) ?_
          case hy30 => (intro w' hSw; go_simp; try (with_reducible rfl))
          simp only [Act.put, List.setIfInBounds_toArray, List.set_cons_zero, List.set_cons_succ]
          refine takeS_on (i := 1) 38 (v := ?v31) rfl rfl (by kernel_rfl) (by kernel_rfl) (by kernel_rfl) (fun _ _ _ h => h) (by kernel_rfl) ?hy31 (by exact hS0) ?_
          case hy31 => (intro w' hSw; go_simp; try (with_reducible rfl))
          simp only [Act.put, List.setIfInBounds_toArray, List.set_cons_zero, List.set_cons_succ]
          refine takeS_on (i := 2) 39 (v := ?v32) rfl rfl (by kernel_rfl) (by kernel_rfl) (by kernel_rfl) (fun _ _ _ h => h) (by kernel_rfl) ?hy32 (by exact hS0) ?_
          case hy32 => (intro w' hSw; go_simp; try (with_reducible rfl))
          simp only [Act.put, List.setIfInBounds_toArray, List.set_cons_zero, List.set_cons_succ]
          refine wpAnyH_ready (rs := [3]) (by kernel_rfl) (by simp) (AllReadyH.cons rfl (fun K hK => ?_) AllReadyH.nil)
          go_simp
          have hS9 : (fun w' => w'.cell? ⟨wr.heap.size, 0, none⟩ = some (.int .i64 (a.ln : Nat))) (((V2.setCell ⟨w.heap.size, 0, none⟩ (.slice none 0 0)).setCell ⟨w.heap.size, 1, none⟩ (.slice none 0 0)).setCell ⟨w.heap.size, 2, none⟩ (.slice none 0 0)).drew := by
                have e1 : Ch (Only w.heap.size) V2 (((V2.setCell ⟨w.heap.size, 0, none⟩ (.slice none 0 0)).setCell ⟨w.heap.size, 1, none⟩ (.slice none 0 0)).setCell ⟨w.heap.size, 2, none⟩ (.slice none 0 0)) := (((Ch.refl _ _).own _ _).own _ _).own _ _
                exact (e1.cell lA2 (fun e => by have e2 : wr.heap.size = w.heap.size := e; omega)).trans a02
          refine hK.out _ _ (by exact hS9) (fun hSx => ?_)
          clear hSx hK K
          refine takeS_on (i := 4) 3 (v := ?v33) rfl rfl (by kernel_rfl) (by kernel_rfl) (by kernel_rfl) (fun _ _ _ h => h) (by kernel_rfl) ?hy33 (by exact hS9) ?_
          case hy33 => (intro w' hSw; go_simp; try (with_reducible rfl))
          simp only [Act.put, List.setIfInBounds_toArray, List.set_cons_zero, List.set_cons_succ]
          refine takeS_on (i := 5) 4 (v := ?v34) rfl rfl (by kernel_rfl) (by kernel_rfl) (by kernel_rfl) (fun _ _ _ h => h) (by kernel_rfl) ?hy34 (by exact hS9) ?_
          case hy34 => (intro w' hSw; go_simp; try (with_reducible rfl))
          simp only [Act.put, List.setIfInBounds_toArray, List.set_cons_zero, List.set_cons_succ]
          refine wpAnyH_done (by kernel_rfl) ?_ _
          clear hS0 hS9
          go_wp2
          have hfin := three_of (x' := .slice none 0 0) (y' := .slice none 0 0) (z' := .slice none 0 0) BB2.out
          refine bodyPost_ret (v := .tuple #[.agg #[.slice none 0 0, .slice none 0 0, .slice none 0 0], .int .i64 71, .int .i64 (a.ln : Nat)]) (by simp [results, Tryz.results22, go_sem, cell_of hfin]) rfl ?_
          exact Pgm.bad HPX.out (Ch.drew (((Ch.fresh (Gr.trans HGr.out K22.out) (Nat.le_refl _) _ _).fresh (Nat.le_refl _) _ _).fresh (Nat.le_refl _) _ _))
    · have hjn : j = n := by omega
      subst hjn
      have hnone : pgX x = none := pgX_none (fun l b q1 q2 => HSo.out l b (by rw [HN.out]; exact q1) q2)
      have htk : x.ask.take j = x.ask := by rw [HN.out]; exact List.take_length
      rw [htk] at HOw
      have s1 : wr.cell? ⟨R, 1, none⟩ = some (.slice aof nf cf) := (cell_of HRr.out.blk 1).trans rfl
      have s2 : wr.cell? ⟨R, 2, none⟩ = some (.slice aot nt ct) := (cell_of HRr.out.blk 2).trans rfl
      have lR := lt_of_block HRr.out.blk
      have HNone := hid hnone
      obtain ⟨z0, z1, z2⟩ : (wr.cell? ⟨w.heap.size, 0, none⟩ = some (.slice none 0 0)) ∧ (wr.cell? ⟨w.heap.size, 1, none⟩ = some (.slice none 0 0)) ∧ (wr.cell? ⟨w.heap.size, 2, none⟩ = some (.slice none 0 0)) := ⟨(cell_of HBB.out 0).trans rfl, (cell_of HBB.out 1).trans rfl, (cell_of HBB.out 2).trans rfl⟩
      have f0 := frozen_of HBB.out 0
      have f1 := frozen_of HBB.out 1
      have f2 := frozen_of HBB.out 2
      clear hnone htk r0
      go_wp2_with fail
      have hS0 : (fun w' => w'.cell? ⟨R, 1, none⟩ = some (.slice aof nf cf) ∧ w'.cell? ⟨R, 2, none⟩ = some (.slice aot nt ct)) wr.drew := ⟨s1, s2⟩
      refine wp_region_held_drew (S := fun w' => w'.cell? ⟨R, 1, none⟩ = some (.slice aof nf cf) ∧ w'.cell? ⟨R, 2, none⟩ = some (.slice aot nt ct)) (by kernel_rfl) (by exact hS0) (fun hSx => ?_)
      clear hSx
      refine takeS_on (i := 0) 54 (v := ?v35) rfl rfl (by kernel_rfl) (by kernel_rfl) (by kernel_rfl) (fun _ _ _ h => h) (by kernel_rfl) ?hy35 (by exact hS0) ?_
      case hy35 => (intro w' hSw; go_simp; try (with_reducible rfl))
      simp only [Act.put, List.setIfInBounds_toArray, List.set_cons_zero, List.set_cons_succ]
      refine takeS_on (i := 1) 55 (v := ?v36) rfl rfl (by kernel_rfl) (by kernel_rfl) (by kernel_rfl) (fun _ _ _ h => h) (by kernel_rfl) ?hy36 (by exact hS0) ?_
      case hy36 => (intro w' hSw; go_simp; try (with_reducible rfl))
      simp only [Act.put, List.setIfInBounds_toArray, List.set_cons_zero, List.set_cons_succ]
      refine takeS_on (i := 2) 56 (v := ?v37) rfl rfl (by kernel_rfl) (by kernel_rfl) (by kernel_rfl) (fun _ _ _ h => h) (by kernel_rfl) ?hy37 (by exact hS0) ?_
      case hy37 => (intro w' hSw; go_simp; try (with_reducible rfl))
      simp only [Act.put, List.setIfInBounds_toArray, List.set_cons_zero, List.set_cons_succ]
      refine takeS_on (i := 3) 57 (v := ?v38) rfl rfl (by kernel_rfl) (by kernel_rfl) (by kernel_rfl) (fun _ _ _ h => h) (by kernel_rfl) ?hy38 (by exact hS0) ?_
      case hy38 => (intro w' hSw; go_simp; try (with_reducible rfl))
      simp only [Act.put, List.setIfInBounds_toArray, List.set_cons_zero, List.set_cons_succ]
      refine takeS_on (i := 4) 58 (v := ?v39) rfl rfl (by kernel_rfl) (by kernel_rfl) (by kernel_rfl) (fun _ _ _ h => h) (by kernel_rfl) ?hy39 (by exact hS0) ?_
      case hy39 => (intro w' hSw; go_simp; try (with_reducible rfl))
      simp only [Act.put, List.setIfInBounds_toArray, List.set_cons_zero, List.set_cons_succ]
      refine takeS_on (i := 5) 59 (v := ?v40) rfl rfl (by kernel_rfl) (by kernel_rfl) (by kernel_rfl) (fun _ _ _ h => h) (by kernel_rfl) ?hy40 (by exact hS0) ?_
      case hy40 => (intro w' hSw; go_simp; try (with_reducible rfl))
      simp only [Act.put, List.setIfInBounds_toArray, List.set_cons_zero, List.set_cons_succ]
      refine takeS_on (i := 6) 60 (v := ?v41) rfl rfl (by kernel_rfl) (by kernel_rfl) (by kernel_rfl) (fun _ _ _ h => h) (by kernel_rfl) ?hy41 (by exact hS0) ?_
      case hy41 => (intro w' hSw; go_simp; try (with_reducible rfl))
      simp only [Act.put, List.setIfInBounds_toArray, List.set_cons_zero, List.set_cons_succ]
      refine takeS_on (i := 7) 61 (v := ?v42) rfl rfl (by kernel_rfl) (by kernel_rfl) (by kernel_rfl) (fun _ _ _ h => h) (by kernel_rfl) ?hy42 (by exact hS0) ?_
      case hy42 => (intro w' hSw; go_simp; try (with_reducible rfl))
      simp only [Act.put, List.setIfInBounds_toArray, List.set_cons_zero, List.set_cons_succ]
      refine takeS_on (i := 8) 62 (v := ?v43) rfl rfl (by kernel_rfl) (by kernel_rfl) (by kernel_rfl) (fun _ _ _ h => h) (by kernel_rfl) ?hy43 (by exact hS0) ?_
      case hy43 => (intro w' hSw; go_simp; try (with_reducible rfl))
      simp only [Act.put, List.setIfInBounds_toArray, List.set_cons_zero, List.set_cons_succ]
      refine takeS_on (i := 9) 63 (v := ?v44) rfl rfl (by kernel_rfl) (by kernel_rfl) (by kernel_rfl) (fun _ _ _ h => h) (by kernel_rfl) ?hy44 (by exact hS0) ?_
      case hy44 => (intro w' hSw; go_simp; try (with_reducible rfl))
      simp only [Act.put, List.setIfInBounds_toArray, List.set_cons_zero, List.set_cons_succ]
      refine wpAnyH_ready (rs := [10]) (by kernel_rfl) (by simp) (AllReadyH.cons rfl (fun K hK => ?_) AllReadyH.nil)
      go_simp
      have hS9 : (fun w' => w'.cell? ⟨R, 1, none⟩ = some (.slice aof nf cf) ∧ w'.cell? ⟨R, 2, none⟩ = some (.slice aot nt ct)) (((wr.setCell ⟨w.heap.size, 0, none⟩ (.slice ao j cl)).setCell ⟨w.heap.size, 1, none⟩ (.slice aof nf cf)).setCell ⟨w.heap.size, 2, none⟩ (.slice aot nt ct)).drew := by
          have e1 : Ch (Only w.heap.size) wr (((wr.setCell ⟨w.heap.size, 0, none⟩ (.slice ao j cl)).setCell ⟨w.heap.size, 1, none⟩ (.slice aof nf cf)).setCell ⟨w.heap.size, 2, none⟩ (.slice aot nt ct)) := (((Ch.refl _ _).own _ _).own _ _).own _ _
          have nR : ¬ Only w.heap.size R := fun e => by have e2 : R = w.heap.size := e; have := HR.out.ltR; have := HR.out.ltB; omega
          exact ⟨(e1.cell lR nR).trans s1, (e1.cell lR nR).trans s2⟩
      refine hK.out _ _ (by exact hS9) (fun hSx => ?_)
      clear hSx hK K
      refine takeS_on (i := 11) 3 (v := ?v45) rfl rfl (by kernel_rfl) (by kernel_rfl) (by kernel_rfl) (fun _ _ _ h => h) (by kernel_rfl) ?hy45 (by exact hS9) ?_
      case hy45 => (intro w' hSw; go_simp; try (with_reducible rfl))
      simp only [Act.put, List.setIfInBounds_toArray, List.set_cons_zero, List.set_cons_succ]
      refine takeS_on (i := 12) 4 (v := ?v46) rfl rfl (by kernel_rfl) (by kernel_rfl) (by kernel_rfl) (fun _ _ _ h => h) (by kernel_rfl) ?hy46 (by exact hS9) ?_
      case hy46 => (intro w' hSw; go_simp; try (with_reducible rfl))
      simp only [Act.put, List.setIfInBounds_toArray, List.set_cons_zero, List.set_cons_succ]
      refine wpAnyH_done (by kernel_rfl) ?_ _
      clear hS0 hS9
      go_wp2
      have hfin := three_of (x' := .slice ao j cl) (y' := .slice aof nf cf) (z' := .slice aot nt ct) HBB.out
      refine bodyPost_ret (v := .tuple #[.agg #[.slice ao j cl, .slice aof nf cf, .slice aot nt ct], .int .i64 0, .int .i64 0]) (by simp [results, Tryz.results22, go_sem, cell_of hfin]) rfl ?_
      have C9 : Ch (Only w.heap.size) wr ((((wr.setCell ⟨w.heap.size, 0, none⟩ (.slice ao j cl)).setCell ⟨w.heap.size, 1, none⟩ (.slice aof nf cf)).setCell ⟨w.heap.size, 2, none⟩ (.slice aot nt ct))) := (((Ch.refl _ _).own _ _).own _ _).own _ _
      exact Pgm.good HNone.out ((HOw.out.ch C9 (fun q e e2 => by have := (HOw.out.blk e).1; have e3 : q = w.heap.size := e2; omega)).drew) (Ch.drew (Ch.trans HGr.out C9 (fun q e => .inr (by have e3 : q = w.heap.size := e; omega))))
end Go.Proofs.YtbehlhnnfdkmaaaGreatDoor.Lt

namespace Go.Proofs.YtbehlhnnfdkmaaaGreatDoor.Lt
open Go.RowKit Wd

/-- as many of each as lines were read -/
structure Inv (j : Nat) (x : Rs) : Prop where
  a : x.ask.length ≤ j
  f : x.fn.length ≤ j
  t : x.tb.length ≤ j
  fb : ∀ f ∈ x.fn, f.2 ≤ j
  cb : ∀ cs, (∃ d, (cs, d) ∈ x.tb) → cs.length ≤ j
  ok : Rok x
  xor : x.inF = true → x.inT = false
  ak : ∀ a ∈ x.ask, Aok a
theorem Inv.bnd {j : Nat} {x : Rs} (h : Inv j x) (hj : j ≤ 4294967296) : Bnd x :=
  ⟨⟨by have := h.a; omega, by have := h.f; omega, by have := h.t; omega⟩, h.ok, h.xor, fun f hf => by have := h.fb f hf; omega, fun cs hc => by have := h.cb cs hc; omega⟩
def x0 : Rs := ⟨[], [], [], [], false, false⟩
theorem Inv.zero : Inv 0 x0 := ⟨by simp [x0], by simp [x0], by simp [x0], by simp [x0], by simp [x0], ⟨by simp [x0], by simp [x0]⟩, by simp [x0], by simp [x0]⟩
theorem Inv.up {j : Nat} {x : Rs} (h : Inv j x) : Inv (j + 1) x := ⟨by have := h.a; omega, by have := h.f; omega, by have := h.t; omega, fun f hf => by have := h.fb f hf; omega, fun cs hc => by have := h.cb cs hc; omega, h.ok, h.xor, h.ak⟩
theorem Inv.give {j : Nat} {x : Rs} (h : Inv j x) (k : Nm) (v : Int) : Inv j (giveS x k v) := by
  unfold giveS
  split
  · exact h
  · exact ⟨h.a, h.f, h.t, h.fb, h.cb, ⟨h.ok.f, h.ok.t⟩, h.xor, h.ak⟩
theorem giveS_same (x : Rs) (k : Nm) (v : Int) : (giveS x k v).ask = x.ask ∧ (giveS x k v).fn = x.fn ∧ (giveS x k v).tb = x.tb := by
  unfold giveS
  split <;> exact ⟨rfl, rfl, rfl⟩
theorem knd_bd (o : Int) : 0 ≤ knd o ∧ knd o ≤ 3 := by
  unfold knd
  repeat' split
  all_goals omega
theorem rnA_le (k : Int) (s : ByteArray) : (rnA k s).size ≤ s.size := by
  unfold rnA
  split
  · show (0 : Nat) ≤ _; omega
  · split
    · exact Nat.le_refl _
    · show (0 : Nat) ≤ _; omega
theorem fA_le (k : Nat) (ws : List ByteArray) (hz : Sml ws) : (fA k ws).size ≤ 4294967296 := by
  unfold fA
  split
  · unfold aN
    split
    · refine Nat.le_trans (rnA_le _ _) ?_
      unfold wN
      cases h : ws[fR (sh k)]? with
      | none => show (0 : Nat) ≤ _; omega
      | some s => exact hz s (List.mem_of_getElem? h)
    · show (0 : Nat) ≤ _; omega
  · show (0 : Nat) ≤ _; omega
theorem Inv.next {j : Nat} {x : Rs} {P : Nat → Prop} {w : World} {l : Ln} (h : Inv j x) (hj : j ≤ 4294967295) (hk : LnOk P w l) (hE : rdE x l = 0) : Inv (j + 1) (rdS x l) := by
  unfold rdE at hE
  unfold rdS
  split at hE
  · rename_i c
    rw [if_pos c]
    unfold rfS
    have g := (h.give (rfN l.ws.tail) (x.fn.length : Nat))
    obtain ⟨e1, e2, e3⟩ := giveS_same x (rfN l.ws.tail) (x.fn.length : Nat)
    refine ⟨by have := g.a; simpa using Nat.le_succ_of_le this, by have := h.f; simp; omega, by have := g.t; simpa using Nat.le_succ_of_le this, fun f hf => ?_, fun cs hc => Nat.le_succ_of_le (g.cb cs hc), ⟨fun _ => (by simp), fun e => (by cases e)⟩, fun _ => rfl, g.ak⟩
    rcases List.mem_append.1 hf with hf | hf
    · exact Nat.le_succ_of_le (h.fb f hf)
    · have e : f = (x.ask.length, x.ask.length) := by simpa using hf
      rw [e]
      exact Nat.le_succ_of_le h.a
  · rename_i c1
    split at hE
    · rename_i c
      rw [if_neg c1, if_pos c]
      unfold rtS
      have g := (h.give (rtN l.ws.tail) (x.tb.length : Nat))
      refine ⟨by have := g.a; simpa using Nat.le_succ_of_le this, by have := g.f; simpa using Nat.le_succ_of_le this, by have := h.t; simp; omega, fun f hf => Nat.le_succ_of_le (g.fb f hf), fun cs hc => ?_, ⟨fun e => (by cases e), fun _ => (by simp)⟩, fun e => (by cases e), g.ak⟩
      obtain ⟨d, hd⟩ := hc
      rcases List.mem_append.1 hd with hd | hd
      · exact Nat.le_succ_of_le (h.cb cs ⟨d, hd⟩)
      · have e : cs = [] := by
          have := List.mem_singleton.1 hd
          injection this
        rw [e]
        simp
    · rename_i c2
      split at hE
      · rename_i c
        rw [if_neg c1, if_neg c2, if_pos c]
        exact (h.give _ _).up
      · rename_i c3
        rw [if_neg c1, if_neg c2, if_neg c3]
        split at hE
        · rename_i c4
          have hop : 1 ≤ l.op ∧ l.op < 59 := by
            have k1 := hk.kind
            have k2 := hk.op
            have hfl := fop_lt (l.ws.headD ⟨#[]⟩)
            unfold kd at k1 k2
            rw [c4] at k1
            split at k1
            · cases k1
            · split at k1
              · cases k1
              · split at k1
                · cases k1
                · split at k1
                  · cases k1
                  · rename_i q1 q2 q3 q4
                    rw [if_neg q1, if_neg q2, if_neg q3, if_neg q4] at k2
                    have k3 : l.op = fop (l.ws.headD ⟨#[]⟩) := k2
                    omega
          unfold roE at hE
          split at hE
          · rename_i f0
            unfold roS
            by_cases hC : roC x l.op = true
            · rw [if_pos hC]
              refine ⟨Nat.le_succ_of_le h.a, Nat.le_succ_of_le h.f, by have := h.t; simp; omega, fun f hf => Nat.le_succ_of_le (h.fb f hf), fun cs hc => ?_, ⟨h.ok.f, fun e => ?_⟩, h.xor, h.ak⟩
              · obtain ⟨d, hd⟩ := hc
                obtain ⟨i, hi⟩ := List.getElem?_of_mem hd
                rw [List.getElem?_modify] at hi
                cases hx : x.tb[i]? with
                | none => rw [hx] at hi; cases hi
                | some y =>
                  rw [hx] at hi
                  have hy := h.cb y.1 ⟨y.2, List.mem_of_getElem? hx⟩
                  simp only [Option.map_eq_map, Option.map_some, Option.some.injEq] at hi
                  split at hi
                  · injection hi with e1 e2
                    rw [← e1]
                    simp
                    omega
                  · rw [hi] at hy
                    exact Nat.le_succ_of_le hy
              · have := h.ok.t e
                intro e2
                apply this
                have e3 := congrArg List.length e2
                simp at e3
                exact e3
            · rw [if_neg hC]
              rw [if_neg hC] at hE
              split at hE
              · rename_i iF
                refine ⟨by have := h.a; simp; omega, by have := h.f; simp; omega, Nat.le_succ_of_le h.t, fun f hf => ?_, fun cs hc => Nat.le_succ_of_le (h.cb cs hc), ⟨fun e => ?_, h.ok.t⟩, h.xor, fun a ha => ?_⟩
                · obtain ⟨i, hi⟩ := List.getElem?_of_mem hf
                  rw [List.getElem?_modify] at hi
                  cases hx : x.fn[i]? with
                  | none => rw [hx] at hi; cases hi
                  | some y =>
                    rw [hx] at hi
                    have hy := h.fb y (List.mem_of_getElem? hx)
                    simp only [Option.map_eq_map, Option.map_some, Option.some.injEq] at hi
                    split at hi
                    · rw [← hi]
                      simp
                      omega
                    · rw [← hi]
                      omega
                · have := h.ok.f e
                  intro e2
                  apply this
                  have e3 := congrArg List.length e2
                  simp at e3
                  exact e3
                · rcases List.mem_append.1 ha with ha | ha
                  · exact h.ak a ha
                  · have e : a = ⟨l.num, fI l.op l.ws.tail, roN x l.op l.ws.tail⟩ := by simpa using ha
                    subst e
                    refine ⟨⟨l.op, hop.1, hop.2, ?_⟩, ?_⟩
                    · show (fI l.op l.ws.tail).1 = _
                      unfold fI
                      rw [if_pos f0]
                    · show Nok (roN x l.op l.ws.tail)
                      unfold roN
                      split
                      · have kb := knd_bd (l.op : Nat)
                        have hfl := h.f
                        refine ⟨kb, ?_, fA_le _ _ (fun y hy => hk.small y (List.mem_of_mem_tail hy))⟩
                        unfold insN
                        simp only
                        split <;> omega
                      · exact ⟨⟨by show (0 : Int) ≤ 0; omega, by show (0 : Int) ≤ 3; omega⟩, ⟨by show (-1 : Int) ≤ 0; omega, by show (0 : Int) ≤ 4294967296; omega⟩, by show (0 : Nat) ≤ _; omega⟩
              · cases hE
          · exact absurd hE ‹_›
        · cases hE
end Go.Proofs.YtbehlhnnfdkmaaaGreatDoor.Lt

namespace Go.Proofs.YtbehlhnnfdkmaaaGreatDoor.Lt
open Go.RowKit Wd

/-- line by line: what was read, the error, its line -/
def runL : List Ln → Rs → Rs × Int × Nat
  | [], x => (x, 0, 0)
  | l :: r, x => if rdE x l = 0 then runL r (rdS x l) else (x, rdE x l, l.num)
/-- the lines of a text -/
def pl (t : ByteArray) : List Ln := laF ((cutS (WS t) 0).map (fun p => ⟨p.1, p.2, .slice none 0 0, (kd (p.2.headD ⟨#[]⟩)).1, (kd (p.2.headD ⟨#[]⟩)).2, false⟩)) 0
def strip (l : Ln) : Ln := { l with wv := .slice none 0 0 }
theorem rdE_strip (x : Rs) (l : Ln) : rdE x (strip l) = rdE x l := rfl
theorem rdS_strip (x : Rs) (l : Ln) : rdS x (strip l) = rdS x l := rfl
theorem runL_strip : ∀ (ls : List Ln) (x : Rs), runL (ls.map strip) x = runL ls x := by
  intro ls
  induction ls with
  | nil => intro x; rfl
  | cons l r ih =>
    intro x
    rw [List.map_cons]
    unfold runL
    rw [rdE_strip, rdS_strip, ih]
    rfl
theorem pl_eq {base : Nat} {t : ByteArray} {w : World} {v : Value} {ls : List Ln} (h : CutR base t w v ls) : ls.map strip = pl t := by
  unfold pl
  have hk : ∀ (i : Nat) (l : Ln), ls[i]? = some l → (cutS (WS t) 0)[i]? = some (l.num, l.ws) := fun i l hl => by
    rw [← h.says, List.getElem?_map, hl]
    rfl
  have hlen : (cutS (WS t) 0).length = ls.length := by rw [← h.says, List.length_map]
  have hks : ls.map (·.kind) = ((cutS (WS t) 0).map (fun p => (⟨p.1, p.2, .slice none 0 0, (kd (p.2.headD ⟨#[]⟩)).1, (kd (p.2.headD ⟨#[]⟩)).2, false⟩ : Ln))).map (·.kind) := by
    apply List.ext_getElem?
    intro i
    rw [List.getElem?_map, List.getElem?_map, List.getElem?_map]
    cases hl : ls[i]? with
    | none =>
      rw [List.getElem?_eq_none (by rw [hlen]; exact List.getElem?_eq_none_iff.1 hl)]
      rfl
    | some l =>
      rw [hk i l hl]
      have := (h.ok l (List.mem_of_getElem? hl)).kind
      simp [this]
  apply List.ext_getElem?
  intro i
  rw [List.getElem?_map, laF_get, List.getElem?_map]
  cases hl : ls[i]? with
  | none =>
    rw [List.getElem?_eq_none (by rw [hlen]; exact List.getElem?_eq_none_iff.1 hl)]
    rfl
  | some l =>
    rw [hk i l hl]
    have a1 := (h.ok l (List.mem_of_getElem? hl)).kind
    have a2 := (h.ok l (List.mem_of_getElem? hl)).op
    have a3 := h.leads i l hl
    simp only [Option.map_some, Nat.zero_le, if_true, Option.some.injEq]
    rw [List.map_drop] at a3 ⊢
    rw [hks] at a3
    unfold strip
    rw [← a1, ← a2, ← a3]
/-- a program in memory -/
structure PrA (base : Nat) (w : World) (vc vf vt : Value) (ts : List Tb) (cs : List Int) (fs : List (Nat × Nat)) (tb : List (List Cs × Bool)) : Prop where
  c : Ow eU 1 39 base w vc cs
  f : Ow eF 2 41 base w vf fs
  t : Ow eT 2 44 base w vt ts
  tsq : ts.map (fun t => (t.cs, t.df)) = tb
  cs : ∀ t ∈ ts, Ow eC 4 46 base w t.cv t.cs
  dj : (vc :: vf :: vt :: ts.map (·.cv)).Pairwise Dj
/-- what a text says -/
def prs (t : ByteArray) : Rs × Int × Nat := runL (pl t) x0
/-- what Parse answers of a text that is not too long -/
def Prsd (w : World) (r : Rs × Int × Nat) (e : Ending) (w' : World) : Prop :=
  (if r.2.1 = 0 then
    (match pgX r.1 with
     | some ln => e = .returned (.tuple #[.agg #[.slice none 0 0, .slice none 0 0, .slice none 0 0], .int .i64 71, .int .i64 (ln : Nat)])
     | none => ∃ vc vf vt ts, e = .returned (.tuple #[.agg #[vc, vf, vt], .int .i64 0, .int .i64 0]) ∧ PrA w.heap.size w' vc vf vt ts (r.1.ask.map (cw r.1)) r.1.fn r.1.tb)
   else e = .returned (.tuple #[.agg #[.slice none 0 0, .slice none 0 0, .slice none 0 0], .int .i64 r.2.1, .int .i64 (r.2.2 : Nat)])) ∧ Gr w w'
theorem Prsd.bad {w w' : World} {x : Rs} {E : Int} {ln : Nat} (hE : E ≠ 0) (g : Gr w w') : Prsd w (x, E, ln) (.returned (.tuple #[.agg #[.slice none 0 0, .slice none 0 0, .slice none 0 0], .int .i64 E, .int .i64 (ln : Nat)])) w' := by
  unfold Prsd
  rw [if_neg (by exact hE)]
  exact ⟨rfl, g⟩

theorem Prsd.miss {w w' : World} {x : Rs} {ln : Nat} (h : pgX x = some ln) (g : Gr w w') : Prsd w (x, 0, 0) (.returned (.tuple #[.agg #[.slice none 0 0, .slice none 0 0, .slice none 0 0], .int .i64 71, .int .i64 (ln : Nat)])) w' := by
  refine ⟨?_, g⟩
  rw [if_pos (by rfl)]
  show (match pgX x with | some _ => _ | none => _)
  rw [h]
theorem Prsd.good {w w' : World} {x : Rs} {vc vf vt : Value} {ts : List Tb} (h : pgX x = none) (hp : PrA w.heap.size w' vc vf vt ts (x.ask.map (cw x)) x.fn x.tb) (g : Gr w w') : Prsd w (x, 0, 0) (.returned (.tuple #[.agg #[vc, vf, vt], .int .i64 0, .int .i64 0])) w' := by
  refine ⟨?_, g⟩
  rw [if_pos (by rfl)]
  show (match pgX x with | some _ => _ | none => _)
  rw [h]
  exact ⟨vc, vf, vt, ts, rfl, hp⟩
theorem parse_long (t : ByteArray) (ht : 262144 < t.size) (ht2 : t.size ≤ 9223372036854775807) (w : World) :
    Calls Tryz.prog 9 #[.string t] w fun e w' => e = .returned (.tuple #[.agg #[.slice none 0 0, .slice none 0 0, .slice none 0 0], .int .i64 75, .int .i64 0]) ∧ Gr w w' := by
  have h1 : (262144 : Int) < (t.size : Int) := by omega
  go_enter Tryz.func9, Tryz.ntmps9
  go_wp2
  refine bodyPost_ret (v := .tuple #[.agg #[.slice none 0 0, .slice none 0 0, .slice none 0 0], .int .i64 75, .int .i64 0]) (by simp [results, Tryz.results9, go_sem]) rfl ?_
  exact ⟨rfl, Gr.alloc (Gr.refl _) _ _⟩

set_option maxHeartbeats 2000000 in
set_option maxRecDepth 20000 in
theorem parse_any (t : ByteArray) (ht : t.size ≤ 262144) (w : World) (hg : Glb w) :
    Calls Tryz.prog 9 #[.string t] w (Prsd w (prs t)) := by
  have HG := hid hg
  have HT := hid ht
  obtain ⟨RS, hRS⟩ : ∃ r, r = prs t := ⟨_, rfl⟩
  rw [← hRS]
  have HRS := hid hRS
  have h1 : ¬ (262144 : Int) < (t.size : Int) := by omega
  have KA := hid (Ch.alloc (Ch.alloc (Ch.alloc (Gr.refl w) (.cells #[.slice none 0 0, .slice none 0 0, .slice none 0 0] 26)) (.map #[] 0)) (.cells #[.slice none 0 0, .slice none 0 0, .slice none 0 0, .map (some (w.heap.size + 1)), .bool false, .bool false] 51))
  have B0 := hid (al_blk (al_blk (MapKept.heap_alloc w (.cells #[.slice none 0 0, .slice none 0 0, .slice none 0 0] 26)).1 (.map #[] 0)) (.cells #[.slice none 0 0, .slice none 0 0, .slice none 0 0, .map (some (w.heap.size + 1)), .bool false, .bool false] 51))
  have B1 := hid (al_blk (MapKept.heap_alloc (w.alloc (.cells #[.slice none 0 0, .slice none 0 0, .slice none 0 0] 26)) (.map #[] 0)).1 (.cells #[.slice none 0 0, .slice none 0 0, .slice none 0 0, .map (some (w.heap.size + 1)), .bool false, .bool false] 51))
  have B2 := hid (MapKept.heap_alloc ((w.alloc (.cells #[.slice none 0 0, .slice none 0 0, .slice none 0 0] 26)).alloc (.map #[] 0)) (.cells #[.slice none 0 0, .slice none 0 0, .slice none 0 0, .map (some (w.heap.size + 1)), .bool false, .bool false] 51)).1
  have hmm := @run_makeMap Tryz.prog
  have HCT := hid (fun (W : World) (q : Glb W) => cut_lines t HT.out W q)
  have SZ := hid (show (((w.alloc (.cells #[.slice none 0 0, .slice none 0 0, .slice none 0 0] 26)).alloc (.map #[] 0)).alloc (.cells #[.slice none 0 0, .slice none 0 0, .slice none 0 0, .map (some (w.heap.size + 1)), .bool false, .bool false] 51)).heap.size = w.heap.size + 3 by simp)
  simp only [World.size_alloc] at B1 B2
  clear hRS hg ht
  go_enter Tryz.func9, Tryz.ntmps9
  go_wp2_with (go_at_call 20; refine (HCT.out _ (HG.out.gr KA.out)).mono ?_; rintro e wC ⟨v, ls, rfl, hcr, hgc⟩; obtain ⟨ao, cl, hvv⟩ := hcr.own.form; obtain ⟨n, hn⟩ : ∃ n, n = ls.length := ⟨_, rfl⟩; rw [← hn] at hvv; subst hvv; have HNL := hid hn; have HCR := hid hcr; have HGC := hid hgc; clear hcr hgc hn)
  clear hmm
  have HCB := hid (gr_blk B0.out HGC.out)
  have HCM := hid (gr_blk B1.out HGC.out)
  have HCRd := hid (gr_blk B2.out HGC.out)
  have hGW := Gr.trans KA.out HGC.out
  have HGW := hid hGW
  have hszC := HGC.out.size
  rw [SZ.out] at hszC HCR
  have hlen : n ≤ 262145 := by
    have e1 := congrArg List.length HCR.out.says
    rw [List.length_map] at e1
    have e2 := cutS_len (WS t) 0
    have e3 := SP_len t
    have e4 := HT.out
    unfold WS at e1 e2
    rw [List.length_map] at e2
    rw [HNL.out]
    omega
  have hcln := HCR.out.own.len.2
  obtain ⟨base, hbase⟩ : ∃ b, b = wC.heap.size := ⟨_, rfl⟩
  have HBS := hid hbase
  have HRD0 := hid (show Rd base (w.heap.size + 2) (w.heap.size + 1) wC (.slice none 0 0) (.slice none 0 0) (.slice none 0 0) [] x0 from
    { blk := HCRd.out, a := Ow.nil _ _ _ _ _, f := Ow.nil _ _ _ _ _, t := Ow.nil _ _ _ _ _, tsq := rfl, cs := fun t ht => by simp at ht, m := HCM.out, mo := ⟨fun e he => by simp [x0] at he, by simp [x0]⟩
      dj := dj_of ⟨Dj.nil _, Dj.nil _, Dj.nil _⟩ (fun t ht => by simp at ht) (by simp), ltR := by omega, ltM := by omega, ne := by omega, ltB := by omega })
  have HLQ := hid (show ∀ q, Blk (.slice ao n cl) q → ¬ SR base (w.heap.size + 2) (w.heap.size + 1) q from fun q hq e => by
    have := HCR.out.own.blk hq
    rcases e with e | e | e <;> omega)
  have HOK0 := hid (show ∀ l ∈ ls, LnOk (fun g => ¬ SR base (w.heap.size + 2) (w.heap.size + 1) g) wC l from fun l hl => (HCR.out.ok l hl).ch (Ch.refl (fun _ => False) wC) (fun _ _ _ x => x) (fun g hg p e => by
    rcases e with e | e | e <;> omega))
  have HRUN := hid (show RS = runL ls x0 by rw [HRS.out]; unfold prs; rw [← pl_eq HCR.out, runL_strip])
  clear hGW hszC hbase
  go_loopg [18] n (fun m i wq => ∃ j x, j + m = n ∧ i = .int .i64 ((j : Nat) : Int) ∧ Inv j x ∧ RS = runL (ls.drop j) x ∧ Red base (w.heap.size + 2) (w.heap.size + 1) wq x ∧ Ow eL 5 56 (w.heap.size + 3 + 1) wq (.slice ao n cl) ls ∧ (∀ l ∈ ls, LnOk (fun g => ¬ SR base (w.heap.size + 2) (w.heap.size + 1) g) wq l) ∧ wq.heap[w.heap.size]? = some (.cells #[.slice none 0 0, .slice none 0 0, .slice none 0 0] 26 (0, 0)) ∧ Gr w wq)
  case atStart => exact ⟨0, x0, by omega, rfl, Inv.zero, HRUN.out, HRD0.out.red, HCR.out.own, HOK0.out, HCB.out, HGW.out⟩
  case round =>
    obtain ⟨j, x, hjk, rfl, hinv, hrun, hred, hown, hok, hbB, hgr⟩ := hrel
    have HIN := hid hinv
    have HRN := hid hrun
    have HRE := hid hred
    have HOW := hid hown
    have HOKs := hid hok
    have HBB := hid hbB
    have HGR := hid hgr
    clear hinv hrun hred hown hok hbB hgr
    by_cases hj : j < n
    · obtain ⟨l, hlj⟩ : ∃ l, ls[j]? = some l := ⟨_, List.getElem?_eq_getElem (by rw [← HNL.out]; exact hj)⟩
      obtain ⟨g, cap', hv, _, hgl, _, hcs, _, _⟩ := HOW.out.get eL_len hlj
      injection hv with hv1 hv2 hv3
      subst hv1
      clear hv2 hv3
      have q0 := hcs 0 _ rfl
      have q1 := hcs 1 _ rfl
      have q2 := hcs 2 _ rfl
      have q3 := hcs 3 _ rfl
      have q4 := hcs 4 _ rfl
      simp only [Nat.add_zero] at q0
      have hlok := HOKs.out l (List.mem_of_getElem? hlj)
      obtain ⟨aw, cwv, hwv⟩ := hlok.lst.form
      have HLJ := hid hlj
      have HLOK := hid hlok
      have j0 : (0 : Int) ≤ (j : Int) := by omega
      have j1 : (j : Int) < (n : Int) := by omega
      have KV := hid (Gr.alloc (Gr.refl wr) #[.int .i64 (l.num : Nat), l.wv, .int .i64 l.kind, .int .i64 (l.op : Nat), .bool l.leads] 56)
      have BV := hid (MapKept.heap_alloc wr (.cells #[.int .i64 (l.num : Nat), l.wv, .int .i64 l.kind, .int .i64 (l.op : Nat), .bool l.leads] 56)).1
      have HRD := hid (read_any base (w.heap.size + 2) (w.heap.size + 1) _ x l (hlok.ch KV.out (fun _ _ _ => noB _) (fun _ _ p => p)) (HIN.out.bnd (by omega)) (HG.out.gr (Gr.trans HGR.out KV.out)) (HRE.out.gr KV.out))
      obtain ⟨E, hE⟩ : ∃ E, E = rdE x l := ⟨_, rfl⟩
      rw [← hE] at HRD
      have HE := hid hE
      unfold lV at HRD
      obtain ⟨wlen, hwlen⟩ : ∃ q, q = l.ws.length := ⟨_, rfl⟩
      rw [← hwlen] at hwv
      rw [hwv] at KV BV HRD q1
      have HWV := hid hwv
      have lww := lt_of_block HBB.out
      have hdrop : ls.drop j = l :: ls.drop (j + 1) := by
        have hlt : j < ls.length := by rw [← HNL.out]; exact hj
        rw [List.drop_eq_getElem_cons hlt, (List.getElem?_eq_some_iff.1 hlj).2]
      have HDR := hid hdrop
      clear hcs hlok hlj hE hwlen hwv hdrop
      have hnB : ¬ SR base (w.heap.size + 2) (w.heap.size + 1) w.heap.size := fun e => by
        have := HGW.out.size
        have := HBS.out
        have := HRD0.out.ltR
        rcases e with e | e | e <;> omega
      have HNB := hid hnB
      have HSQ := hid (show ∀ q, SR base (w.heap.size + 2) (w.heap.size + 1) q → w.heap.size ≤ q from fun q e => by
        have := HRD0.out.ltR
        rcases e with e | e | e <;> omega)
      clear hnB
      by_cases hE0 : E = 0
      · go_wp2_with (go_at_call 21; refine HRD.out.mono ?_; rintro e w2 ⟨rfl, d1, d2, d3⟩; have D1 := hid d1; have D2 := hid d2; have D3 := hid d3; clear d1 d2 d3)
        go_roundg (gk - 1)
        case measure => omega
        case rel =>
          have hE1 : rdE x l = 0 := by rw [← HE.out]; exact hE0
          refine ⟨j + 1, rdS x l, by omega, by simp, HIN.out.next (by omega) HLOK.out hE1, ?_, D1.out hE0, (HOW.out.gr KV.out).ch D2.out HLQ.out, fun y hy => ((HOKs.out y hy).ch KV.out (fun _ _ _ => noB _) (fun _ _ p => p)).ch D2.out (fun _ _ p => p) (fun _ _ p => p), ?_, ?_⟩
          · rw [HRN.out, HDR.out]
            show (if rdE x l = 0 then _ else _) = _
            rw [if_pos hE1]
          · exact (D2.out.block _ (lt_of_block (al_blk HBB.out _)) HNB.out).trans (al_blk HBB.out _)
          · exact Ch.trans (Gr.trans HGR.out KV.out) D2.out (fun q e => .inr (HSQ.out q e))
      · go_wp2_with (go_at_call 21; refine HRD.out.mono ?_; rintro e w2 ⟨rfl, d1, d2, d3⟩; have D1 := hid d1; have D2 := hid d2; have D3 := hid d3; clear d1 d2 d3)
        have g3 := D3.out hE0
        have a02 : w2.cell? ⟨wr.heap.size, 0, none⟩ = some (.int .i64 (l.num : Nat)) := (cell_of (gr_blk BV.out g3) 0).trans rfl
        have lA2 : wr.heap.size < w2.heap.size := lt_of_block (gr_blk BV.out g3)
        have BB2 := hid (gr_blk (al_blk HBB.out _) g3)
        have K2 := hid (Gr.trans (Gr.trans HGR.out KV.out) g3)
        obtain ⟨z0, z1, z2⟩ : (w2.cell? ⟨w.heap.size, 0, none⟩ = some (.slice none 0 0)) ∧ (w2.cell? ⟨w.heap.size, 1, none⟩ = some (.slice none 0 0)) ∧ (w2.cell? ⟨w.heap.size, 2, none⟩ = some (.slice none 0 0)) := ⟨(cell_of BB2.out 0).trans rfl, (cell_of BB2.out 1).trans rfl, (cell_of BB2.out 2).trans rfl⟩
        have f0 := frozen_of BB2.out 0
        have f1 := frozen_of BB2.out 1
        have f2 := frozen_of BB2.out 2
        clear g3 q0 q1 q2 q3 q4
        have hS0 : (fun w' => w'.cell? ⟨wr.heap.size, 0, none⟩ = some (.int .i64 (l.num : Nat))) w2.drew := a02
        refine wp_region_held_drew (S := fun w' => w'.cell? ⟨wr.heap.size, 0, none⟩ = some (.int .i64 (l.num : Nat))) (by kernel_rfl) (by exact hS0) (fun hSx => ?_)
        clear hSx
        refine takeS_on (i := 0) 26 (v := ?v18) rfl rfl (by kernel_rfl) (by kernel_rfl) (by kernel_rfl) (fun _ _ _ h => h) (by kernel_rfl) ?hy18 (by exact hS0) ?_
        case hy18 => (intro w' hSw; go_simp; try (with_reducible rfl))
        simp only [Act.put, List.setIfInBounds_toArray, List.set_cons_zero, List.set_cons_succ]
        refine takeS_on (i := 1) 27 (v := ?v19) rfl rfl (by kernel_rfl) (by kernel_rfl) (by kernel_rfl) (fun _ _ _ h => h) (by kernel_rfl) ?hy19 (by exact hS0) ?_
        case hy19 => (intro w' hSw; go_simp; try (with_reducible rfl))
        simp only [Act.put, List.setIfInBounds_toArray, List.set_cons_zero, List.set_cons_succ]
        refine takeS_on (i := 2) 28 (v := ?v20) rfl rfl (by kernel_rfl) (by kernel_rfl) (by kernel_rfl) (fun _ _ _ h => h) (by kernel_rfl) ?hy20 (by exact hS0) ?_
        case hy20 => (intro w' hSw; go_simp; try (with_reducible rfl))
        simp only [Act.put, List.setIfInBounds_toArray, List.set_cons_zero, List.set_cons_succ]
        refine takeS_on (i := 3) 29 (v := ?v21) rfl rfl (by kernel_rfl) (by kernel_rfl) (by kernel_rfl) (fun _ _ _ h => h) (by kernel_rfl) ?hy21 (by exact hS0) ?_
        case hy21 => (intro w' hSw; go_simp; try (with_reducible rfl))
        simp only [Act.put, List.setIfInBounds_toArray, List.set_cons_zero, List.set_cons_succ]
        refine wpAnyH_ready (rs := [4]) (by kernel_rfl) (by simp) (AllReadyH.cons rfl (fun K hK => ?_) AllReadyH.nil)
        go_simp
        have hS9 : (fun w' => w'.cell? ⟨wr.heap.size, 0, none⟩ = some (.int .i64 (l.num : Nat))) (((w2.setCell ⟨w.heap.size, 0, none⟩ (.slice none 0 0)).setCell ⟨w.heap.size, 1, none⟩ (.slice none 0 0)).setCell ⟨w.heap.size, 2, none⟩ (.slice none 0 0)).drew := by
            have e1 : Ch (Only w.heap.size) w2 (((w2.setCell ⟨w.heap.size, 0, none⟩ (.slice none 0 0)).setCell ⟨w.heap.size, 1, none⟩ (.slice none 0 0)).setCell ⟨w.heap.size, 2, none⟩ (.slice none 0 0)) := (((Ch.refl _ _).own _ _).own _ _).own _ _
            exact (e1.cell lA2 (fun e => by have e2 : wr.heap.size = w.heap.size := e; omega)).trans a02
        refine hK.out _ _ (by exact hS9) (fun hSx => ?_)
        clear hSx hK K
        refine takeS_on (i := 5) 3 (v := ?v22) rfl rfl (by kernel_rfl) (by kernel_rfl) (by kernel_rfl) (fun _ _ _ h => h) (by kernel_rfl) ?hy22 (by exact hS9) ?_
        case hy22 => (intro w' hSw; go_simp; try (with_reducible rfl))
        simp only [Act.put, List.setIfInBounds_toArray, List.set_cons_zero, List.set_cons_succ]
        refine takeS_on (i := 6) 4 (v := ?v23) rfl rfl (by kernel_rfl) (by kernel_rfl) (by kernel_rfl) (fun _ _ _ h => h) (by kernel_rfl) ?hy23 (by exact hS9) ?_
        case hy23 => (intro w' hSw; go_simp; try (with_reducible rfl))
        simp only [Act.put, List.setIfInBounds_toArray, List.set_cons_zero, List.set_cons_succ]
        refine wpAnyH_done (by kernel_rfl) ?_ _
        clear hS0 hS9
        go_wp2
        have hfin := three_of (x' := .slice none 0 0) (y' := .slice none 0 0) (z' := .slice none 0 0) BB2.out
        refine bodyPost_ret (v := .tuple #[.agg #[.slice none 0 0, .slice none 0 0, .slice none 0 0], .int .i64 E, .int .i64 (l.num : Nat)]) (by simp [results, Tryz.results9, go_sem, cell_of hfin]) rfl ?_
        have hRS : RS = (x, E, l.num) := by
          rw [HRN.out, HDR.out]
          show (if rdE x l = 0 then _ else _) = _
          rw [if_neg (by rw [← HE.out]; exact hE0), ← HE.out]
        rw [hRS]
        exact Prsd.bad hE0 (Ch.drew (((Ch.fresh K2.out (Nat.le_refl _) _ _).fresh (Nat.le_refl _) _ _).fresh (Nat.le_refl _) _ _))
    · have hjn : j = n := by omega
      subst hjn
      have hRS : RS = (x, 0, 0) := by
        rw [HRN.out, HNL.out, List.drop_length]
        rfl
      have HR2 := hid hRS
      obtain ⟨va, vf, vt, ts, hrd⟩ := HRE.out
      have HPR := hid (program_any base (w.heap.size + 2) (w.heap.size + 1) wr va vf vt ts x (HIN.out.bnd (by omega)).few HIN.out.ak (HG.out.gr HGR.out) hrd)
      have HRDF := hid hrd
      have lww := lt_of_block HBB.out
      obtain ⟨aof, cf, hvf⟩ := hrd.f.form
      obtain ⟨aot, ct, hvt⟩ := hrd.t.form
      generalize x.fn.length = nf at hvf
      generalize ts.length = nt at hvt
      subst hvf hvt
      clear hrd hRS
      cases hpx : pgX x with
      | some ln =>
        have HP2 : Hid (Calls Tryz.prog 22 #[.pointer (some ⟨w.heap.size + 2, 0, none⟩)] wr fun e w' => e = .returned (.tuple #[.agg #[.slice none 0 0, .slice none 0 0, .slice none 0 0], .int .i64 71, .int .i64 (ln : Nat)]) ∧ Gr wr w') := hid (HPR.out.mono (fun e w' q => by
          unfold Pgm at q
          rw [hpx] at q
          exact q))
        have HPX := hid hpx
        clear hpx
        go_wp2_with (go_at_call 22; refine HP2.out.mono ?_; rintro e w2 ⟨rfl, g2⟩; have bb2 := gr_blk HBB.out g2; have z0 : w2.cell? ⟨w.heap.size, 0, none⟩ = some (.slice none 0 0) := (cell_of bb2 0).trans rfl; have z1 : w2.cell? ⟨w.heap.size, 1, none⟩ = some (.slice none 0 0) := (cell_of bb2 1).trans rfl; have z2 : w2.cell? ⟨w.heap.size, 2, none⟩ = some (.slice none 0 0) := (cell_of bb2 2).trans rfl; have f0 := frozen_of bb2 0; have f1 := frozen_of bb2 1; have f2 := frozen_of bb2 2; have BB2 := hid bb2; have K2 := hid (Gr.trans HGR.out g2); clear bb2 g2)
        have hfin := three_of (x' := .slice none 0 0) (y' := .slice none 0 0) (z' := .slice none 0 0) BB2.out
        refine bodyPost_ret (v := .tuple #[.agg #[.slice none 0 0, .slice none 0 0, .slice none 0 0], .int .i64 71, .int .i64 (ln : Nat)]) (by simp [results, Tryz.results9, go_sem, cell_of hfin]) rfl ?_
        rw [HR2.out]
        exact Prsd.miss HPX.out (((Ch.fresh K2.out (Nat.le_refl _) _ _).fresh (Nat.le_refl _) _ _).fresh (Nat.le_refl _) _ _)
      | none =>
        have HP2 : Hid (Calls Tryz.prog 22 #[.pointer (some ⟨w.heap.size + 2, 0, none⟩)] wr fun e w' => (∃ aoc nc cc, e = .returned (.tuple #[.agg #[.slice aoc nc cc, .slice aof nf cf, .slice aot nt ct], .int .i64 0, .int .i64 0]) ∧ Ow eU 1 39 (wr.heap.size + 1) w' (.slice aoc nc cc) (x.ask.map (cw x))) ∧ Gr wr w') := hid (HPR.out.mono (fun e w' q => by
          unfold Pgm at q
          rw [hpx] at q
          obtain ⟨⟨vc, q1, q2⟩, q3⟩ := q
          obtain ⟨aoc, cc, rfl⟩ := q2.form
          exact ⟨⟨aoc, _, cc, q1, q2⟩, q3⟩))
        have HPX := hid hpx
        clear hpx
        go_wp2_with (go_at_call 22; refine HP2.out.mono ?_; rintro e w2 ⟨⟨aoc, nc, cc, rfl, hoc⟩, g2⟩; have bb2 := gr_blk HBB.out g2; have z0 : w2.cell? ⟨w.heap.size, 0, none⟩ = some (.slice none 0 0) := (cell_of bb2 0).trans rfl; have z1 : w2.cell? ⟨w.heap.size, 1, none⟩ = some (.slice none 0 0) := (cell_of bb2 1).trans rfl; have z2 : w2.cell? ⟨w.heap.size, 2, none⟩ = some (.slice none 0 0) := (cell_of bb2 2).trans rfl; have f0 := frozen_of bb2 0; have f1 := frozen_of bb2 1; have f2 := frozen_of bb2 2; have BB2 := hid bb2; have G2 := hid g2; have HOC := hid hoc; clear bb2 g2 hoc)
        have hfin := three_of (x' := .slice aoc nc cc) (y' := .slice aof nf cf) (z' := .slice aot nt ct) BB2.out
        refine bodyPost_ret (v := .tuple #[.agg #[.slice aoc nc cc, .slice aof nf cf, .slice aot nt ct], .int .i64 0, .int .i64 0]) (by simp [results, Tryz.results9, go_sem, cell_of hfin]) rfl ?_
        have C : Ch (Only w.heap.size) w2 (((w2.setCell ⟨w.heap.size, 0, none⟩ (.slice aoc nc cc)).setCell ⟨w.heap.size, 1, none⟩ (.slice aof nf cf)).setCell ⟨w.heap.size, 2, none⟩ (.slice aot nt ct)) := (((Ch.refl _ _).own _ _).own _ _).own _ _
        have hr2 := HRDF.out.gr G2.out
        have lB := HRD0.out.ltR
        have lo : ∀ {α : Type} {enc : α → List Value} {K e : Nat} {u : Value} {xs : List α}, Ow enc K e base w2 u xs → Ow enc K e w.heap.size (((w2.setCell ⟨w.heap.size, 0, none⟩ (.slice aoc nc cc)).setCell ⟨w.heap.size, 1, none⟩ (.slice aof nf cf)).setCell ⟨w.heap.size, 2, none⟩ (.slice aot nt ct)) u xs := fun ho => (ho.ch C (fun q hq e => by have := (ho.blk hq).1; have e1 : q = w.heap.size := e; omega)).lower (by omega)
        have far : ∀ {α : Type} {enc : α → List Value} {K e : Nat} {u : Value} {xs : List α}, Ow enc K e base wr u xs → Dj (.slice aoc nc cc) u := fun ho q a b => by
          have := (HOC.out.blk a).1
          have := (ho.blk b).2
          omega
        obtain ⟨⟨d1, d2, d3⟩, d4, d5⟩ := HRDF.out.parts
        rw [HR2.out]
        refine Prsd.good (ts := ts) HPX.out ⟨(HOC.out.ch C (fun q hq e => by have := (HOC.out.blk hq).1; have e1 : q = w.heap.size := e; omega)).lower (by omega), lo hr2.f, lo hr2.t, hr2.tsq, fun t ht => lo (hr2.cs t ht), dj_of ⟨far HRDF.out.f, far HRDF.out.t, d3⟩ (fun t ht => ⟨far (HRDF.out.cs t ht), (d4 t ht).2.1, (d4 t ht).2.2⟩) d5⟩ ?_
        exact Ch.trans (Gr.trans HGR.out G2.out) C (fun q e => .inr (by have e1 : q = w.heap.size := e; omega))
end Go.Proofs.YtbehlhnnfdkmaaaGreatDoor.Lt
