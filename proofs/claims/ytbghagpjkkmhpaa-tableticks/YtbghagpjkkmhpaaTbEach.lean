/-
  All slots of a domain are gone over by a function that is handed in: what holds behind each call of it holds at the end. Conditions: the function's call keeps what it is to keep.
-/
import Derived.Test.YtbghagpjkkmhpaaTbChk3
import Derived.Test.YtbghagpjkkmhpaaTbVis
import Derived.Shelf.Abstract
namespace Go.Proofs.Ytbghagpjkkmhpaa.Lt
open Go.RowKit Wd Go.Shelf
attribute [local go_sem ↓] Go.wp_at_zero Go.wp_at_succ
set_option maxRecDepth 20000

theorem ch_box2 {S : Nat → Prop} {w w1 : World} {T : TypeId} {a b : Value} (g : Ch S (w.alloc (.cells #[a, b] T)) w1) (hS : ¬ S w.heap.size) :
    w1.cell? ⟨w.heap.size, 0, none⟩ = some a ∧ w1.cell? ⟨w.heap.size, 1, none⟩ = some b ∧ w.heap.size < w1.heap.size := by
  have h0 := al_at (w := w) (.cells #[a, b] T) rfl
  have h := (g.block _ (lt_of_block h0) hS).trans h0
  exact ⟨cell_of h 0, cell_of h 1, lt_of_block h⟩
/-- what holds at the end -/
def Seen (E : Int) (L : List (List Sl)) (dm : Int) (I : List (Nat × Sl) → World → Prop) (w : World) : Prop := I (if E = 0 then vis L dm else []) w
theorem Seen.all {E : Int} {L : List (List Sl)} {dm : Int} {I : List (Nat × Sl) → World → Prop} {w : World} (h : I (vis L dm) w) (e : E = 0) : Seen E L dm I w := by
  unfold Seen
  rw [if_pos e]
  exact h
theorem Seen.no {E : Int} {L : List (List Sl)} {dm : Int} {I : List (Nat × Sl) → World → Prop} {w : World} (h : I [] w) (e : E ≠ 0) : Seen E L dm I w := by
  unfold Seen
  rw [if_neg e]
  exact h
set_option maxHeartbeats 8000000 in
theorem each_any (w0 w : World) (a : Option Addr) (n c : Nat) (L : List (List Sl)) (hx : Rgs L) (F dm : Int) (hF : Tk.U F) (g : Nat) (cb : Array Value) (eg : ∀ args w, (callFunc g args).run Try.prog w = .ok (.enter g args) w)
    (S : Nat → Prop) (hS : ∀ q, S q → w0.heap.size ≤ q ∧ q < w.heap.size) (g0 : Gr w0 w) (h : Rw w0 (.slice a n c) L)
    (I : List (Nat × Sl) → World → Prop) (hI : ∀ vs W W', I vs W → Gr W W' → I vs W') (h0 : I [] w)
    (HC : ∀ (vs : List (Nat × Sl)) (P : Nat) (x : Sl) (W : World), Good F L → x ∈ dsl L dm → (vs ++ [(P, x)]) <+: vis L dm → Ch S (w.alloc (.cells #[.int .u64 F, .slice a n c] 25)) W → I vs W →
      Calls Try.prog g (#[.int .i64 (P : Int), .agg #[.int .i64 x.d, .int .u64 x.s, .int .u64 x.l, .int .u64 x.p]] ++ cb) W fun e w' => e = .returned (.tuple #[]) ∧ Ch S (w.alloc (.cells #[.int .u64 F, .slice a n c] 25)) w' ∧ I (vs ++ [(P, x)]) w') :
    Calls Try.prog 37 #[.agg #[.int .u64 F, .slice a n c], .int .i64 dm, .func (.func g) #[] cb] w fun e w' => e = .returned (.int .i64 (lkE F L dm 16)) ∧ Ch S (w.alloc (.cells #[.int .u64 F, .slice a n c] 25)) w' ∧ Seen (lkE F L dm 16) L dm I w' := by
  obtain ⟨W1, hW1⟩ : ∃ W, W = w.alloc (.cells #[.int .u64 F, .slice a n c] 25) := ⟨_, rfl⟩
  have hSn : ¬ S w.heap.size := fun q => by have := (hS _ q).2; omega
  have G01 : Gr w W1 := by rw [hW1]; exact Ch.alloc (Gr.refl w) _
  have HX := hide (show ∀ W, Ch S W1 W → Gr w0 W from fun W k => Ch.trans (Gr.trans g0 G01) k (fun q hq => .inr (hS q hq).1))
  have HRW := hide h
  have HB := hide (show ∀ W, Ch S W1 W → _ from fun W k => ch_box2 (by rw [hW1] at k; exact k) hSn)
  have HI := hide hI
  have HIW := hide (hI _ _ _ h0 G01)
  have HCC := hide HC
  rw [← hW1] at HCC
  have HL := hide h.len
  have CW := wrong_any W1 a n c L (h.gr (Gr.trans g0 G01)) hx F hF
  rw [← hW1]
  obtain ⟨R, hR⟩ : ∃ R, R = (chk F L 16).2.2 := ⟨_, rfl⟩
  rw [← hR] at CW
  obtain ⟨E, hE⟩ : ∃ E, E = lkE F L dm 16 := ⟨_, rfl⟩
  have hE' := hE
  rw [← hE]
  unfold lkE at hE
  rw [← hR] at hE
  by_cases h00 : R = 0
  · rw [if_pos h00] at hE
    rw [h00] at CW
    have HG := hide (good_of hx (by rw [← hR]; exact h00))
    by_cases h1 : dm < 0
    · rw [if_pos (.inl h1)] at hE
      have HE := hide hE
      clear hE h hx hF h00 hR HC hI h0 hE' hS hSn G01 g0
      go_enter Try.func37, Try.ntmps37
      go_wp2_with fail
      rw [← hW1]
      clear hW1
      refine CW.mono ?_
      rintro e w1 ⟨rfl, g1⟩
      obtain ⟨c0, c1, cb2⟩ := HB.out _ g1.any
      have G1 := hide g1
      clear g1
      go_wp2
      go_ret
      exact ⟨by rw [HE.out]; rfl, G1.out.any, Seen.no (HI.out _ _ _ HIW.out G1.out) (by rw [HE.out]; decide)⟩
    · by_cases h2 : 16 ≤ dm
      · rw [if_pos (.inr h2)] at hE
        have HE := hide hE
        clear hE h hx hF h00 hR HC hI h0 hE' hS hSn G01 g0
        go_enter Try.func37, Try.ntmps37
        go_wp2_with fail
        rw [← hW1]
        clear hW1
        refine CW.mono ?_
        rintro e w1 ⟨rfl, g1⟩
        obtain ⟨c0, c1, cb2⟩ := HB.out _ g1.any
        have G1 := hide g1
        clear g1
        go_wp2
        go_ret
        exact ⟨by rw [HE.out]; rfl, G1.out.any, Seen.no (HI.out _ _ _ HIW.out G1.out) (by rw [HE.out]; decide)⟩
      · rw [if_neg (fun k => k.elim h1 h2)] at hE
        have HE := hide hE
        have hn64 : n ≤ 64 := by rw [HL.out]; exact HG.out.n2
        have q1 : decide (dm < 0) = false := decide_eq_false h1
        have q2 : decide (16 ≤ dm) = false := decide_eq_false h2
        clear hE h hx hF h00 hR HC hI h0 hE' hS hSn G01 g0 h1 h2
        go_enter Try.func37, Try.ntmps37
        go_wp2_with fail
        rw [← hW1]
        clear hW1
        refine CW.mono ?_
        rintro e w1 ⟨rfl, g1⟩
        obtain ⟨c0, c1, cb2⟩ := HB.out _ g1.any
        have G1 := hide g1
        clear g1
        go_wp2_with fail
        go_loopg [26] n (fun k i wr => ∃ (j : Nat) (vs : List (Nat × Sl)), j + k = n ∧ i = .int .i64 (j : Int) ∧ vs ++ visL dm j (L.drop j) = vis L dm ∧ I vs wr ∧ Ch S W1 wr)
        case atStart => exact ⟨0, [], by omega, rfl, rfl, HI.out _ _ _ HIW.out G1.out, G1.out.any⟩
        case round =>
          obtain ⟨j, vs, hjk, rfl, hr, hi, hg⟩ := hrel
          obtain ⟨V, hV⟩ : ∃ W, W = wr := ⟨_, rfl⟩
          subst hV
          have G := hide hg
          have HH := hide hr
          have HIV := hide hi
          obtain ⟨b0, b1, bb⟩ := HB.out _ hg
          clear hr hi
          by_cases hj : j < n
          · have hj' : (j : Int) < (n : Int) := by omega
            have hjl : j < L.length := by rw [← HL.out]; exact hj
            have hjx : L[j]? = some L[j] := List.getElem?_eq_getElem hjl
            have hd : L.drop j = L[j] :: L.drop (j + 1) := List.drop_eq_getElem_cons hjl
            have hlm : L[j] ∈ L := List.getElem_mem hjl
            generalize L[j] = l at hjx hd hlm
            have HD := hide (show vs ++ visR dm j l ++ visL dm (j + 1) (L.drop (j + 1)) = vis L dm by rw [List.append_assoc, ← HH.out, hd]; rfl)
            have HLM := hide hlm
            obtain ⟨gg, o, al, cl, e1, hgl, hcap, c0', hls⟩ := HRW.out.at hjx
            subst e1
            have c0 := ((HX.out _ hg).cell hgl).trans c0'
            have hgl2 : gg < V.heap.size := Nat.lt_of_lt_of_le hgl (HX.out _ hg).size
            obtain ⟨m, hm⟩ : ∃ m, m = l.length := ⟨_, rfl⟩
            have hm1 : m ≤ 1024 := by rw [hm]; exact HG.out.len l hlm
            have HM := hide hm
            rw [← hm] at c0 hls
            have HS := hide (show ∀ W, Ch S W1 W → Ls eS AnyB W (.slice al m cl) l from fun W k => hls.gr (HX.out _ k))
            obtain ⟨K1, hK1⟩ : ∃ K, K = gk - 1 := ⟨_, rfl⟩
            have HKK := hide (show j + 1 + K1 = n by omega)
            have HK2 := hide (show K1 < gk by omega)
            clear hjx hd hg hls hgl hlm hm hK1 c0'
            go_wp2_with fail
            go_loopg [33] m (fun k i wr => ∃ (q : Nat) (us : List (Nat × Sl)), q + k = m ∧ i = .int .i64 (q : Int) ∧ us ++ visR dm j (l.drop q) ++ visL dm (j + 1) (L.drop (j + 1)) = vis L dm ∧ I us wr ∧ Ch S W1 wr)
            case atStart => exact ⟨0, vs, by omega, rfl, HD.out, HIV.out, G.out⟩
            case round =>
              obtain ⟨q, us, hqk, rfl, hr, hi, hg⟩ := hrel
              obtain ⟨Z, hZ⟩ : ∃ W, W = wr := ⟨_, rfl⟩
              subst hZ
              have HHq := hide hr
              have Gq := hide hg
              have HIq := hide hi
              obtain ⟨b0, b1, bb⟩ := HB.out _ hg
              clear hr hi
              by_cases hq : q < m
              · have hq' : (q : Int) < (m : Int) := by omega
                have hql : q < l.length := by rw [← HM.out]; exact hq
                have hqx : l[q]? = some l[q] := List.getElem?_eq_getElem hql
                have hdq : l.drop q = l[q] :: l.drop (q + 1) := List.drop_eq_getElem_cons hql
                have hxm : l[q] ∈ l := List.getElem_mem hql
                generalize l[q] = x at hqx hdq hxm
                have HDq := hide hdq
                obtain ⟨g2, o2, e1, hgl2, hcap2, d0, d1, d2, d3⟩ := slot_at (HS.out _ hg) hqx
                subst e1
                clear hqx hdq hg
                by_cases hdm : x.d = dm
                · have hvis := HHq.out
                  rw [HDq.out, visR_in hdm] at hvis
                  have HV2 := hide (show us ++ [(j, x)] ++ visR dm j (l.drop (q + 1)) ++ visL dm (j + 1) (L.drop (j + 1)) = vis L dm by rw [← hvis]; simp)
                  have hmem : x ∈ dsl L dm := by
                    unfold dsl
                    rw [List.mem_filter, List.mem_flatten]
                    exact ⟨⟨l, HLM.out, hxm⟩, by simpa using hdm⟩
                  have hpre : (us ++ [(j, x)]) <+: vis L dm := ⟨visR dm j (l.drop (q + 1)) ++ visL dm (j + 1) (L.drop (j + 1)), by rw [← HV2.out]; simp⟩
                  have hcall := HCC.out us j x (Z.alloc (.cells #[.int .i64 x.d, .int .u64 x.s, .int .u64 x.l, .int .u64 x.p] 54)) HG.out hmem hpre (Ch.alloc Gq.out _) (HI.out _ _ _ HIq.out (Ch.alloc (Gr.refl _) _))
                  have hdb : (x.d == dm) = true := by simpa using hdm
                  clear hvis hmem hpre hxm hdm
                  go_wp2_with (go_at_fn g; refine hcall.mono ?_; rintro e w' ⟨rfl, gc, ic⟩; have GC := hide gc; have IC := hide ic; clear gc ic)
                  go_roundg (gk - 1)
                  case measure => omega
                  case rel =>
                    refine ⟨q + 1, us ++ [(j, x)], by omega, ?_, HV2.out, IC.out, GC.out⟩
                    first | with_reducible rfl | simp
                · have HV2 := hide (show us ++ visR dm j (l.drop (q + 1)) ++ visL dm (j + 1) (L.drop (j + 1)) = vis L dm by rw [← HHq.out, HDq.out, visR_out hdm])
                  have hdb : (x.d == dm) = false := by simpa using hdm
                  clear hxm hdm
                  go_wp2
                  go_roundg (gk - 1)
                  case measure => omega
                  case rel =>
                    refine ⟨q + 1, us, by omega, ?_, HV2.out, HI.out _ _ _ HIq.out (Ch.alloc (Gr.refl _) _), Ch.alloc Gq.out _⟩
                    first | with_reducible rfl | simp
              · have hq' : ¬ ((q : Int) < (m : Int)) := by omega
                have HF' := hide (show us ++ visL dm (j + 1) (L.drop (j + 1)) = vis L dm by have e : l.drop q = [] := List.drop_of_length_le (by rw [← HM.out]; omega)
                                                                                            rw [← HHq.out, e, visR_nil, List.append_nil])
                clear hg
                go_wp2
                go_roundg K1
                case measure => exact HK2.out
                case rel =>
                  refine ⟨j + 1, us, HKK.out, ?_, HF'.out, HIq.out, Gq.out⟩
                  first | with_reducible rfl | simp
          · have hj' : ¬ ((j : Int) < (n : Int)) := by omega
            have HF' := hide (show vs = vis L dm by rw [← HH.out, List.drop_of_length_le (by rw [← HL.out]; omega)]; exact (List.append_nil _).symm)
            clear hg
            go_wp2
            go_ret
            exact ⟨by rw [HE.out]; rfl, G.out, Seen.all (by rw [← HF'.out]; exact HIV.out) HE.out⟩
  · rw [if_neg h00] at hE
    have HE := hide hE
    have hne : (R != 0) = true := by simpa using h00
    have HN := hide h00
    clear hE h hx hF h00 hR HC hI h0 hE' hS hSn G01 g0
    go_enter Try.func37, Try.ntmps37
    go_wp2_with fail
    rw [← hW1]
    clear hW1
    refine CW.mono ?_
    rintro e w1 ⟨rfl, g1⟩
    obtain ⟨c0, c1, cb2⟩ := HB.out _ g1.any
    have G1 := hide g1
    clear g1
    go_wp2
    go_ret
    exact ⟨by rw [HE.out]; rfl, G1.out.any, Seen.no (HI.out _ _ _ HIW.out G1.out) (by rw [HE.out]; exact HN.out)⟩
end Go.Proofs.Ytbghagpjkkmhpaa.Lt
