/-
  What the program's read answers and leaves. Conditions: words are no longer than a text may be and lie apart from the reader; as many lines as a text may have.
-/
import Derived.Test.YtbehlhnnfdkmaaaGreatDoorLtOp2
import Derived.Test.YtbehlhnnfdkmaaaGreatDoorLtOp3
namespace Go.Proofs.YtbehlhnnfdkmaaaGreatDoor.Lt
open Go.RowKit Wd

/-- what holds of a reader behind any lines -/
structure Bnd (x : Rs) : Prop where
  few : Few x
  ok : Rok x
  xor : x.inF = true → x.inT = false
  fb : ∀ f ∈ x.fn, f.2 ≤ 4294967296
  cb : ∀ cs, (∃ d, (cs, d) ∈ x.tb) → cs.length ≤ 4294967296
theorem readOp_any (base R M : Nat) (w : World) (x : Rs) (num : Nat) (ws : List ByteArray) (wv : Value) (kind : Int) (op : Nat) (leads : Bool) (s : ByteArray) (wt : List ByteArray) (hws : ws = s :: wt) (h1 : 1 ≤ op) (h2 : op < 59) (hl : Ls eS (fun g => ¬ SR base R M g) w wv ws) (hz : Sml ws) (hb : Bnd x) (hg : Glb w) (h : Red base R M w x) :
    Calls Tryz.prog 53 #[.pointer (some ⟨R, 0, none⟩), .agg #[.int .i64 (num : Nat), wv, .int .i64 kind, .int .i64 (op : Nat), .bool leads]] w (Dn base R M w (roE x op wt) (roS x num op wt)) := by
  by_cases hE : fE op wt = 0
  · cases hT : x.inT with
    | true =>
      by_cases h29 : op = 29
      · exact readOp_send base R M w x num ws wv kind op leads s wt hws h1 h2 hl hz hb.few hb.ok hg h hE hT h29 hb.cb
      · by_cases h30 : op = 30
        · exact readOp_recv base R M w x num ws wv kind op leads s wt hws h1 h2 hl hz hb.few hb.ok hg h hE hT h30 hb.cb
        · have hF : x.inF = false := by
            cases hF : x.inF with
            | false => rfl
            | true => have := hb.xor hF; rw [hT] at this; cases this
          exact readOp_place base R M w x num ws wv kind op leads s wt hws h1 h2 hl hz hb.few hb.ok hg h hE _ hT hF (.inr ⟨h29, h30⟩)
    | false =>
      cases hF : x.inF with
      | true => exact readOp_ask base R M w x num ws wv kind op leads s wt hws h1 h2 hl hz hb.few hb.ok hg h hE hT hF hb.fb
      | false => exact readOp_place base R M w x num ws wv kind op leads s wt hws h1 h2 hl hz hb.few hb.ok hg h hE _ hT hF (.inl rfl)
  · exact readOp_bad base R M w x num ws wv kind op leads s wt hws h1 h2 hl hz hb.few hb.ok hg h hE

/-- what reading a line answers -/
def rdE (x : Rs) (l : Ln) : Int := if l.kind = 1 then rfE x l.ws.tail else if l.kind = 3 then rtE x l.ws.tail else if l.kind = 2 then rlE x l.ws l.leads else if l.kind = 4 then roE x l.op l.ws.tail else 70
/-- and leaves -/
def rdS (x : Rs) (l : Ln) : Rs := if l.kind = 1 then rfS x l.ws.tail else if l.kind = 3 then rtS x l.ws.tail else if l.kind = 2 then rlS x l.ws else roS x l.num l.op l.ws.tail
theorem Dn.of_gr {base R M : Nat} {w V w' : World} {E : Int} {X : Rs} {e : Ending} (g : Gr w V) (h : Dn base R M V E X e w') : Dn base R M w E X e w' := ⟨h.1, h.2.1, Ch.trans (Ch.any g) h.2.2.1 (fun _ q => .inl q), fun e => Gr.trans g (h.2.2.2 e)⟩
theorem Red.gr {base R M : Nat} {w w' : World} {x : Rs} (h : Red base R M w x) (g : Gr w w') : Red base R M w' x := by
  obtain ⟨va, vf, vt, ts, h⟩ := h
  exact (h.gr g).red
theorem colon_size {s : ByteArray} (h : colon s = true) : 1 ≤ s.size := by
  unfold colon Lib.hasSuffix at h
  have h1 := List.isSuffixOf_iff_suffix.1 h
  have h2 := h1.length_le
  simpa using h2

set_option maxHeartbeats 1000000 in
set_option maxRecDepth 20000 in
theorem read_any (base R M : Nat) (w : World) (x : Rs) (l : Ln) (hk : LnOk (fun g => ¬ SR base R M g) w l) (hb : Bnd x) (hg : Glb w) (h : Red base R M w x) :
    Calls Tryz.prog 21 #[.pointer (some ⟨R, 0, none⟩), lV l] w (Dn base R M w (rdE x l) (rdS x l)) := by
  obtain ⟨num, ws, wv, kind, op, leads⟩ := l
  obtain ⟨k1, k2, k3, k4, k5⟩ := hk
  simp only at k1 k2 k3 k4 k5
  unfold rdE rdS lV
  simp only
  cases ws with
  | nil => exact (k3 rfl).elim
  | cons s wt =>
    simp only [List.headD_cons, List.tail_cons] at k1 k2 ⊢
    obtain ⟨g, o, cap, rfl, hP, hgl, hcap, hc⟩ := k5.get eS_len (i := 0) (a := s) rfl
    clear hc
    have HG := hid (Gr.alloc (Gr.refl w) #[.int .i64 (num : Nat), .slice (some ⟨g, o, none⟩) (s :: wt).length cap, .int .i64 kind, .int .i64 (op : Nat), .bool leads] 56)
    have HR := hid (h.gr HG.out)
    have HGl := hid (hg.gr HG.out)
    have HLs := hid (k5.gr HG.out)
    have HB := hid hb
    have HZ := hid (show Sml wt from fun y hy => k4 y (by simp [hy]))
    have HZ2 := hid k4
    obtain ⟨n, hn⟩ : ∃ n, n = (s :: wt).length := ⟨_, rfl⟩
    have hn1 : 1 ≤ n := by rw [hn]; simp
    rw [← hn] at hcap HG HR HGl HLs ⊢
    clear hn h hg k5 k4 k3 hb
    obtain ⟨o', hsl, hlt⟩ := slice_tail g o n cap hn1 hcap
    have HLT := hid (hlt _ _ _ _ HLs.out)
    clear hlt
    by_cases c1 : kind = 1
    · subst c1
      simp only [if_true]
      have HC := hid (readFunc_any base R M _ x _ wt HLT.out HZ.out HB.out.few HR.out)
      clear k1 k2
      go_enter Tryz.func21, Tryz.ntmps21
      go_wp2_with (go_at_call 50; refine HC.out.mono ?_; rintro e w1 ⟨rfl, d1, d2⟩; have D1 := hid d1; have D2 := hid d2; clear d1 d2)
      go_ret
      exact Dn.of_gr HG.out ⟨rfl, D1.out, D2.out⟩
    · by_cases c2 : kind = 3
      · subst c2
        simp only [if_true]
        rw [if_neg c1, if_neg c1]
        have HC := hid (readTable_any base R M _ x _ wt HLT.out HZ.out HB.out.few HR.out)
        clear k1 k2
        go_enter Tryz.func21, Tryz.ntmps21
        go_wp2_with (go_at_call 51; refine HC.out.mono ?_; rintro e w1 ⟨rfl, d1, d2⟩; have D1 := hid d1; have D2 := hid d2; clear d1 d2)
        go_ret
        exact Dn.of_gr HG.out ⟨rfl, D1.out, D2.out⟩
      · by_cases c3 : kind = 2
        · subst c3
          rw [if_neg c1, if_neg c2, if_pos rfl, if_neg c1, if_neg c2, if_pos rfl]
          have hcs : colon s = true := by
            unfold kd at k1
            split at k1
            · cases k1
            · split at k1
              · cases k1
              · split at k1
                · assumption
                · split at k1 <;> cases k1
          have HC := hid (readLabel_any base R M _ x ⟨num, s :: wt, .slice (some ⟨g, o, none⟩) n cap, 2, op, leads⟩ s wt rfl (colon_size hcs) HLs.out HZ2.out HB.out.few HR.out)
          unfold lV at HC
          simp only at HC
          clear k1 k2 hcs
          go_enter Tryz.func21, Tryz.ntmps21
          go_wp2_with (go_at_call 52; refine HC.out.mono ?_; rintro e w1 ⟨rfl, d1, d2⟩; have D1 := hid d1; have D2 := hid d2; clear d1 d2)
          go_ret
          exact Dn.of_gr HG.out ⟨rfl, D1.out, D2.out⟩
        · by_cases c4 : kind = 4
          · subst c4
            rw [if_neg c1, if_neg c2, if_neg c3, if_pos rfl, if_neg c1, if_neg c2, if_neg c3]
            have hop : 1 ≤ op ∧ op < 59 := by
              have hfl := fop_lt s
              unfold kd at k1 k2
              split at k1
              · cases k1
              · split at k1
                · cases k1
                · split at k1
                  · cases k1
                  · split at k1
                    · cases k1
                    · rename_i q1 q2 q3 q4
                      rw [if_neg q1, if_neg q2, if_neg q3, if_neg q4] at k2
                      have k3 : op = fop s := k2
                      omega
            have HC := hid (readOp_any base R M _ x num (s :: wt) (.slice (some ⟨g, o, none⟩) n cap) 4 op leads s wt rfl hop.1 hop.2 HLs.out HZ2.out HB.out HGl.out HR.out)
            clear k1 k2 hop
            go_enter Tryz.func21, Tryz.ntmps21
            go_wp2_with (go_at_call 53; refine HC.out.mono ?_; rintro e w1 ⟨rfl, d1, d2⟩; have D1 := hid d1; have D2 := hid d2; clear d1 d2)
            go_ret
            exact Dn.of_gr HG.out ⟨rfl, D1.out, D2.out⟩
          · rw [if_neg c1, if_neg c2, if_neg c3, if_neg c4]
            clear k1 k2
            go_enter Tryz.func21, Tryz.ntmps21
            go_wp2
            go_ret
            exact Dn.bad (by omega) (Ch.any HG.out)
end Go.Proofs.YtbehlhnnfdkmaaaGreatDoor.Lt
