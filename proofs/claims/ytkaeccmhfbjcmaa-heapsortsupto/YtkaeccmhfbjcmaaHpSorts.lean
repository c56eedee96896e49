/-
  HeapSorts' walk: whatever was pushed and dropped, Pop tells by rising (when, number). Conditions: both lists are there, and at most 1048576 long each.
-/
import Derived.Test.YtkaeccmhfbjcmaaHpLives
import Derived.Handy
import Derived.Deep.DeepCutAuto
import Derived.Deep.CutBlock
namespace Go.Proofs.Ytkaeccmhfbjcmaa.Hp
open Go.RowKit
attribute [local go_sem ↓] Go.wp_at_zero Go.wp_at_succ

/-- a heap beside the list of those that are gone -/
structure So (w : World) (b kg n : Nat) (ws : List Int) (L : Nat) (T : Nat → Prop) (xs : List W3) (gone : List Bool) (wr : World) : Prop where
  h : Hh T wr b xs (n : Int)
  p : PB ws gone xs
  l : xs.length = L
  t : ∀ q, T q → w.heap.size ≤ q ∧ q ≠ kg
  o : Ow 4 0 wr (.slice (some ⟨kg, 0, none⟩) n n) (bv gone)
  g : gone.length = n
  c : Ch NoB w wr
theorem So.still {w : World} {b kg n : Nat} {ws : List Int} {L : Nat} {T : Nat → Prop} {xs : List W3} {gone : List Bool} {wr w' : World} (h : So w b kg n ws L T xs gone wr) (k : Ch NoB wr w') : So w b kg n ws L T xs gone w' :=
  { h with h := h.h.still k, o := h.o.ch k (fun _ _ => noB _), c := h.c.trans' k }
theorem kgb {kg n q : Nat} (h : Blk (.slice (some ⟨kg, 0, none⟩) n n) q) : q = kg := by
  have e : some kg = some q := h
  injection e with e
  exact e.symm
/-- a node is gone, and its place is marked -/
theorem So.gone {w : World} {b kg n : Nat} {ws : List Int} {L : Nat} {T : Nat → Prop} {xs ys : List W3} {gone : List Bool} {V w1 : World} {i : Nat} {u : Int} (h : So w b kg n ws L T xs gone V) (hg : gone[i]? = some false) (p : xs.Perm (⟨u, (i : Int), (i : Int)⟩ :: ys)) (hl : HLeft T V w1 b ys (n : Int)) (hkg : w.heap.size ≤ kg) :
    ∃ T', So w b kg n ws (L - 1) T' ys (gone.set i true) (w1.setCell ⟨kg, i, none⟩ (.bool true)) ∧ (∀ q, T' q → T q ∨ V.heap.size ≤ q) ∧ Ow 4 0 w1 (.slice (some ⟨kg, 0, none⟩) n n) (bv gone) ∧ Ch NoB w w1 ∧ Ch T V w1 := by
  obtain ⟨T', h1, g1, t1⟩ := hl
  have O1 := h.o.ch g1 (fun q e a => (h.t q a).2 (kgb e))
  have kl : kg < V.heap.size := (h.o.blk (q := kg) rfl).2
  have G1 : Ch NoB w w1 := h.c.trans g1 (fun q e => .inr (h.t q e).1)
  have tt : ∀ q, T' q → w.heap.size ≤ q ∧ q ≠ kg := fun q a => (t1 q a).elim (h.t q) (fun a => ⟨by have := h.c.size; omega, by omega⟩)
  obtain ⟨g3, e3, -, -, -, -, -, st⟩ := O1.get1 (bv_get hg)
  injection e3 with e3
  injection e3 with e3
  subst e3
  have st1 := st (.bool true)
  rw [bv_set] at st1
  have C2 : Ch (Only kg) w1 (w1.setCell ⟨kg, i, none⟩ (.bool true)) := (Ch.refl (Only kg) w1).own i _
  refine ⟨T', { h := h1.ch C2 (fun q a e => (tt q a).2 e), p := h.p.del h.h.nn hg p, l := by have := p.length_eq; rw [List.length_cons] at this; have := h.l; omega, t := tt, o := st1, g := by rw [List.length_set]; exact h.g, c := G1.trans C2 (fun q e => .inr (by have e1 : q = kg := e; omega)) }, t1, O1, G1, g1⟩

set_option maxRecDepth 20000 in
set_option maxHeartbeats 8000000 in
theorem sorts_law (vw vd : Value) (ws ds : List Int) (w : World) (hw : Ls (· < w.heap.size) w vw (uv ws)) (hd : Ls (· < w.heap.size) w vd (iv ds)) (hwn : ws.length ≤ 1048576) (hdn : ds.length ≤ 1048576) : Calls Try.prog 4 #[vw, vd] w fun e w' => e = .returned (.bool true) ∧ Ch NoB w w' := by
  obtain ⟨aw, cw, rfl⟩ := hw.form
  obtain ⟨ad, cd, rfl⟩ := hd.form
  obtain ⟨n, hn⟩ : ∃ n, n = (uv ws).length := ⟨_, rfl⟩
  obtain ⟨nd, hnd⟩ : ∃ n, n = (iv ds).length := ⟨_, rfl⟩
  rw [← hn] at hw
  rw [← hnd] at hd
  rw [← hn, ← hnd]
  rw [uv_length] at hn
  rw [iv_length] at hnd
  have HW := hid hw
  have HD := hid hd
  have HN := hid hn
  have HND := hid hnd
  have nb1 : n ≤ 1048576 := by omega
  have nb2 : nd ≤ 1048576 := by omega
  obtain ⟨i0, hi, hz0, hz1, hz2⟩ := info_parts1 bool_info
  clear hw hd hn hnd hwn hdn
  go_enter Try.func4, Try.ntmps4
  go_wp2_with fail
  refine (new_any _).mono ?_
  rintro e w1 ⟨b, rfl, hb, h1, g1⟩
  have H1 := hid h1
  have HG1 := hid g1
  clear h1 g1
  go_wp2_with fail
  refine (lives_any _).mono ?_
  rintro e w2 ⟨rfl, g2⟩
  have H2 := hid (H1.out.still g2)
  have HG2 := hid (HG1.out.trans' g2)
  clear g2
  go_wp2_with fail
  go_loopg [6] n (fun k i wr => ∃ (j : Nat) (T : Nat → Prop) (xs : List W3), j + k = n ∧ i = .int .i64 ((j : Nat) : Int) ∧ Hh T wr b xs (j : Int) ∧ PA ws j xs ∧ (∀ q, T q → w.heap.size ≤ q) ∧ Ch NoB w wr)
  case atStart => exact ⟨0, Only b, [], by omega, rfl, H2.out, PA.nil ws, fun q e => by have e1 : q = b := e; omega, HG2.out⟩
  case round =>
    obtain ⟨j, T, xs, hjk, rfl, hH, hA, hT, hG⟩ := hrel
    obtain ⟨V, hV⟩ : ∃ W, W = wr := ⟨_, rfl⟩
    subst hV
    obtain ⟨K1, hK1⟩ : ∃ k, k = gk := ⟨_, rfl⟩
    have HH := hid hH
    have HA := hid hA
    have HT := hid hT
    have HG := hid hG
    have hxl := hA.l
    clear hH hA hT hG H2 HG2
    by_cases hj : j < n
    · obtain ⟨u, hu⟩ : ∃ u, ws[j]? = some u := ⟨_, List.getElem?_eq_getElem (by rw [← HN.out]; exact hj)⟩
      obtain ⟨gw, ow, rfl, hgw, -, -, c0⟩ := HW.out.get1 (uv_get hu)
      have c1 := (HG.out.cell hgw (noB _)).trans c0
      have j0 : (0 : Int) ≤ (j : Int) := by omega
      have j1 : (j : Int) < (n : Int) := by omega
      have HU := hid hu
      clear hu c0
      go_wp2_with fail
      refine (push_any T b xs (j : Int) u (j : Int) V HH.out (by omega) (by omega) (by omega)).mono ?_
      rintro e w3 ⟨rfl, ys, p3, T3, h3, g3, t3⟩
      have HA3 := hid (HA.out.push HU.out p3)
      have H3 := hid (show Hh T3 w3 b ys ((j + 1 : Nat) : Int) by rw [show ((j + 1 : Nat) : Int) = (j : Int) + 1 by omega]; exact h3)
      have HG3 := hid (HG.out.trans g3 (fun q e => .inr (HT.out q e)))
      have HT3 := hid (show ∀ q, T3 q → w.heap.size ≤ q from fun q e => (t3 q e).elim (HT.out q) (fun e => Nat.le_trans HG.out.size e))
      clear p3 h3 g3 t3
      go_wp2
      go_roundg (K1 - 1)
      case measure => omega
      case rel => exact ⟨j + 1, T3, ys, by omega, by simp, H3.out, HA3.out, HT3.out, HG3.out⟩
    · have ej : j = n := by omega
      subst ej
      obtain ⟨kg, hkg⟩ : ∃ k, k = V.heap.size := ⟨_, rfl⟩
      go_wp2_with (first | (at_make; refine wpList_make_full _ rfl _ _ 39 rfl V.heap.size 4 i0 _ 1 Try.underlying39 hi hz0 hz1 _ _ _ _ j rfl rfl (by omega) (by omega) (by rw [hz2]; omega) (by unfold maxLen; omega) (by simp) ?_; intro w4 hown hgrow; have g4 := (Ch.refl NoB V).grown hgrow (fun k hk => by cases hk)))
      have hl : ws.length = j := HN.out.symm
      have ho : Ow 4 0 w4 (.slice (some ⟨V.heap.size, 0, none⟩) j j) (bv (List.replicate j false)) := by
        have h2 := toList_madeCells_one (.bool false) j
        rw [Nat.mul_one] at hown
        have e1 : bv (List.replicate j false) = List.replicate j (.bool false) := by simp [bv]
        have h3 : Ow 4 V.heap.size w4 (.slice (some ⟨V.heap.size, 0, none⟩) j j) (bv (List.replicate j false)) := by
          unfold Ow
          rw [e1, List.length_replicate, ← h2]
          exact hown
        exact h3.lower (Nat.zero_le _)
      rw [← hkg] at ho ⊢
      have hkw : w.heap.size ≤ kg := by rw [hkg]; exact HG.out.size
      have S4 : So w b kg j ws j T xs (List.replicate j false) w4 :=
        { h := HH.out.still g4, p := by have := HA.out; rw [← hl] at this; have h5 := this.pb; rw [hl] at h5; exact h5, l := hxl, t := fun q e => ⟨HT.out q e, fun e2 => by have := HH.out.tl q e; omega⟩, o := ho, g := by simp, c := HG.out.trans' g4 }
      have HS4 := hid S4
      clear hown hgrow g4 ho S4 hkg hi hz0 hz1 hz2
      go_wp2_with fail
      go_loopg [8, 9] nd (fun k lf i wr => ∃ (m L : Nat) (T : Nat → Prop) (xs : List W3) (gone : List Bool), m + k = nd ∧ lf = .int .i64 ((L : Nat) : Int) ∧ i = .int .i64 ((m : Nat) : Int) ∧ L ≤ j ∧ So w b kg j ws L T xs gone wr)
      case atStart => exact ⟨0, j, T, xs, _, by omega, rfl, rfl, Nat.le_refl _, HS4.out⟩
      case round =>
        obtain ⟨m, L, T, xs, gone, hmk, rfl, rfl, hLj, hS⟩ := hrel
        obtain ⟨V2, hV2⟩ : ∃ W, W = wr := ⟨_, rfl⟩
        subst hV2
        obtain ⟨K2, hK2⟩ : ∃ k, k = gk := ⟨_, rfl⟩
        have HS := hid hS
        clear hS HS4
        by_cases hm : m < nd
        · obtain ⟨d, hdd⟩ : ∃ d, ds[m]? = some d := ⟨_, List.getElem?_eq_getElem (by rw [← HND.out]; exact hm)⟩
          obtain ⟨gd, od, rfl, hgd, -, -, c0⟩ := HD.out.get1 (iv_get hdd)
          have c1 := (HS.out.c.cell hgd (noB _)).trans c0
          have m0 : (0 : Int) ≤ (m : Int) := by omega
          have m1 : (m : Int) < (nd : Int) := by omega
          clear hdd
          by_cases hin : ∃ i : Nat, d = (i : Int) ∧ gone[i]? = some false
          · obtain ⟨i, rfl, hgi⟩ := hin
            have il : i < j := by rw [← HS.out.g]; exact (List.getElem?_eq_some_iff.1 hgi).1
            obtain ⟨u, hu⟩ : ∃ u, ws[i]? = some u := ⟨_, List.getElem?_eq_getElem (by rw [← HN.out]; exact il)⟩
            obtain ⟨r, hr⟩ := List.mem_iff_getElem?.1 ((HS.out.p ⟨u, (i : Int), (i : Int)⟩).2 ⟨i, u, hu, hgi, rfl⟩)
            have rl : r < L := by rw [← HS.out.l]; exact (List.getElem?_eq_some_iff.1 hr).1
            obtain ⟨gw, ow, rfl, hgw, -, -, e0⟩ := HW.out.get1 (uv_get hu)
            have HR := hid hr
            have HGI := hid hgi
            have i0 : (0 : Int) ≤ (i : Int) := by omega
            have i1 : (i : Int) < (j : Int) := by omega
            have q1 : decide ((0 : Int) ≤ (i : Int)) = true := decide_eq_true i0
            have q2 : decide ((i : Int) < (j : Int)) = true := decide_eq_true i1
            have lb : xs.length ≤ 4294967296 := by rw [HS.out.l]; omega
            clear hr hgi hu
            go_wp2_with fail
            refine (drop_yes T b xs (j : Int) r ⟨u, (i : Int), (i : Int)⟩ V2 HS.out.h HR.out lb).mono ?_
            rintro e w5 ⟨rfl, ys, p5, l5⟩
            obtain ⟨T5, S5, -, O5, G5, -⟩ := HS.out.gone HGI.out p5 l5 hkw
            have d1 := (G5.cell hgd (noB _)).trans c0
            have e1 := (G5.cell hgw (noB _)).trans e0
            obtain ⟨g3, e3, -, kg5, -, o1, o2, -⟩ := O5.get1 (bv_get HGI.out)
            injection e3 with e3
            injection e3 with e3
            subst e3
            have hwl : IntKind.i64.wrap ((L : Int) - 1) = (((L - 1 : Nat)) : Int) := by rw [IntKind.wrap_i64]; omega
            have HS5 := hid S5
            clear p5 l5 S5 O5 G5 c1
            go_wp2
            go_roundg (K2 - 1)
            case measure => omega
            case rel => exact ⟨m + 1, L - 1, T5, ys, _, by omega, rfl, by simp, by omega, HS5.out⟩
          · have hno := HS.out.p.out (d := d) (fun i e h => hin ⟨i, e, h⟩)
            have HNo := hid hno
            clear hno
            go_wp2_with fail
            refine (drop_no T b xs (j : Int) d V2 HS.out.h HNo.out).mono ?_
            rintro e w5 ⟨rfl, rfl⟩
            by_cases h0 : 0 ≤ d
            · have q1 : decide ((0 : Int) ≤ d) = true := decide_eq_true h0
              by_cases h1 : d < (j : Int)
              · have q2 : decide (d < (j : Int)) = true := decide_eq_true h1
                obtain ⟨i, rfl⟩ : ∃ i : Nat, d = (i : Int) := ⟨d.toNat, by omega⟩
                obtain ⟨gb, hgb⟩ : ∃ x, gone[i]? = some x := ⟨_, List.getElem?_eq_getElem (by rw [HS.out.g]; omega)⟩
                have egb : gb = true := by
                  cases gb with
                  | true => rfl
                  | false => exact absurd ⟨i, rfl, hgb⟩ hin
                subst egb
                obtain ⟨g3, e3, -, kg5, -, o1, -, -⟩ := HS.out.o.get1 (bv_get hgb)
                injection e3 with e3
                injection e3 with e3
                subst e3
                have i0 : (0 : Int) ≤ (i : Int) := by omega
                clear hgb hin
                go_wp2
                go_roundg (K2 - 1)
                case measure => omega
                case rel => exact ⟨m + 1, L, T, xs, gone, by omega, rfl, by simp, hLj, HS.out⟩
              · have q2 : decide (d < (j : Int)) = false := decide_eq_false h1
                clear hin
                go_wp2
                go_roundg (K2 - 1)
                case measure => omega
                case rel => exact ⟨m + 1, L, T, xs, gone, by omega, rfl, by simp, hLj, HS.out⟩
            · have q1 : decide ((0 : Int) ≤ d) = false := decide_eq_false h0
              clear hin
              go_wp2
              go_roundg (K2 - 1)
              case measure => omega
              case rel => exact ⟨m + 1, L, T, xs, gone, by omega, rfl, by simp, hLj, HS.out⟩
        · obtain ⟨kl, hkl⟩ : ∃ k, k = V2.heap.size := ⟨_, rfl⟩
          obtain ⟨W6, hW6⟩ : ∃ W, W = V2.alloc (.cells #[.int .u64 0, .int .i64 0, .int .i64 0] 44) := ⟨_, rfl⟩
          have g6 : Ch NoB V2 W6 := by rw [hW6]; exact (Ch.refl _ _).alloc _
          have k6 : W6.heap[kl]? = some (.cells #[.int .u64 0, .int .i64 0, .int .i64 0] 44 (0, 0)) := by rw [hW6, hkl]; exact (MapKept.heap_alloc V2 _).1
          have HS6 := hid (HS.out.still g6)
          have HK6 := hid k6
          have hk2 : w.heap.size ≤ kl := by rw [hkl]; exact HS.out.c.size
          have hkk : kg < kl := by rw [hkl]; exact (HS.out.o.blk (q := kg) rfl).2
          have HTL := hid (show ∀ q, T q → q ≠ kl from fun q e e2 => by have := HS.out.h.tl q e; omega)
          clear g6 k6
          go_wp2_with fail
          rw [← hW6, ← hkl]
          clear hW6 hkl
          go_loopg [15] L (fun k i wr => ∃ (m : Nat) (T : Nat → Prop) (xs : List W3) (gone : List Bool) (lw ln : Int), m + k = L ∧ i = .int .i64 ((m : Nat) : Int) ∧ So w b kg j ws k T xs gone wr ∧ wr.heap[kl]? = some (.cells #[.int .u64 lw, .int .i64 ln, .int .i64 0] 44 (0, 0)) ∧ (m = 0 ∨ Behind lw ln xs) ∧ (∀ q, T q → q ≠ kl))
          case atStart => exact ⟨0, T, xs, gone, 0, 0, by omega, rfl, HS6.out, HK6.out, .inl rfl, HTL.out⟩
          case round =>
            obtain ⟨m3, T, xs, gone, lw, ln, hmk3, rfl, hS, hK, hB, hTk⟩ := hrel
            obtain ⟨V3, hV3⟩ : ∃ W, W = wr := ⟨_, rfl⟩
            subst hV3
            obtain ⟨K3, hK3⟩ : ∃ k, k = gk := ⟨_, rfl⟩
            rw [← hK3] at hS hmk3
            have HS7 := hid hS
            have HKl := hid hK
            have HBh := hid hB
            have HTk := hid hTk
            clear hS hK hB hTk HS6 HK6 HTL
            by_cases hm3 : m3 < L
            · obtain ⟨x, hx⟩ : ∃ x, xs[0]? = some x := ⟨_, List.getElem?_eq_getElem (by rw [HS7.out.l]; omega)⟩
              obtain ⟨i, u, hu, hgi, hxe⟩ := (HS7.out.p x).1 (List.mem_of_getElem? hx)
              subst hxe
              have il : i < j := by rw [← HS7.out.g]; exact (List.getElem?_eq_some_iff.1 hgi).1
              obtain ⟨gw, ow, rfl, hgw, -, -, e0⟩ := HW.out.get1 (uv_get hu)
              have HX1 := hid hx
              have HGI := hid hgi
              have i0 : (0 : Int) ≤ (i : Int) := by omega
              have i1 : (i : Int) < (j : Int) := by omega
              have q1 : decide ((i : Int) < 0) = false := decide_eq_false (by omega)
              have q2 : decide ((j : Int) ≤ (i : Int)) = false := decide_eq_false (by omega)
              have lb : xs.length ≤ 4294967296 := by rw [HS7.out.l]; omega
              have hroot := HS7.out.h.hp.root hx
              have HRoot := hid hroot
              have hbe : m3 = 0 ∨ (lw < u ∨ (lw = u ∧ ln < (i : Int))) := HBh.out.imp id (fun h => of_decide_eq_true (h _ (List.mem_of_getElem? hx)))
              have HBe := hid hbe
              clear hx hgi hu hroot hbe
              go_wp2_with fail
              refine (pop_some T b xs (j : Int) ⟨u, (i : Int), (i : Int)⟩ V3 HS7.out.h HX1.out lb).mono ?_
              rintro e w8 ⟨rfl, ys, p8, l8⟩
              obtain ⟨T8, S8, t8, O8, G8, gT8⟩ := HS7.out.gone HGI.out p8 l8 hkw
              have K8 := (gT8.block kl (lt_of_block HKl.out) (fun a => HTk.out kl a rfl)).trans HKl.out
              have e1 := (G8.cell hgw (noB _)).trans e0
              obtain ⟨g3, e3, -, kg5, -, o1, o2, -⟩ := O8.get1 (bv_get HGI.out)
              injection e3 with e3
              injection e3 with e3
              subst e3
              have l0 : w8.cell? ⟨kl, 0, none⟩ = some (.int .u64 lw) := (cell_of K8 0).trans rfl
              have l1 : w8.cell? ⟨kl, 1, none⟩ = some (.int .i64 ln) := (cell_of K8 1).trans rfl
              have lk8 := lt_of_block K8
              have HS8 := hid S8
              have HK8 := hid K8
              have HB8 := hid (behind_next HRoot.out HS7.out.h.nn p8)
              have HT8 := hid (show ∀ q, T8 q → q ≠ kl from fun q e => (t8 q e).elim (HTk.out q) (fun e e2 => by have := lt_of_block HKl.out; omega))
              clear p8 l8 S8 t8 O8 G8 gT8 K8
              go_upto_region 28 with fail
              go_cut [189] (fun t wc => t = .bool false ∧ wc = w8)
              case first =>
                rcases HBe.out with h0 | h0 | ⟨h0, h1⟩
                · subst h0
                  go_wp2_with fail
                  go_meet
                  exact ⟨rfl, rfl⟩
                · by_cases hz : m3 = 0
                  · subst hz
                    go_wp2_with fail
                    go_meet
                    exact ⟨rfl, rfl⟩
                  · have z0 : decide ((0 : Int) < (m3 : Int)) = true := decide_eq_true (by omega)
                    have z1 : decide (u < lw) = false := decide_eq_false (by omega)
                    have z2 : (u == lw) = false := beq_eq_false_iff_ne.2 (by omega)
                    have z3 : ¬ (u = lw) := by omega
                    go_wp2_with fail
                    go_meet
                    exact ⟨rfl, rfl⟩
                · subst h0
                  by_cases hz : m3 = 0
                  · subst hz
                    go_wp2_with fail
                    go_meet
                    exact ⟨rfl, rfl⟩
                  · have z0 : decide ((0 : Int) < (m3 : Int)) = true := decide_eq_true (by omega)
                    have z1 : decide ((i : Int) ≤ ln) = false := decide_eq_false (by omega)
                    go_wp2_with fail
                    go_meet
                    exact ⟨rfl, rfl⟩
              case rest =>
                obtain ⟨rfl, hwc⟩ := hcut
                replace hwc := hwc.symm
                subst hwc
                obtain ⟨W9, hW9⟩ : ∃ W, W = w8.setCell ⟨kg, i, none⟩ (.bool true) := ⟨_, rfl⟩
                have C9 : Ch (Only kg) w8 W9 := by rw [hW9]; exact (Ch.refl (Only kg) w8).own i _
                have K9 := (C9.block kl lk8 (fun e => by have e1 : kl = kg := e; omega)).trans HK8.out
                have y0 : W9.cell? ⟨kl, 0, none⟩ = some (.int .u64 lw) := (cell_of K9 0).trans rfl
                have y1 : W9.cell? ⟨kl, 1, none⟩ = some (.int .i64 ln) := (cell_of K9 1).trans rfl
                have y2 : W9.cell? ⟨kl, 2, none⟩ = some (.int .i64 0) := (cell_of K9 2).trans rfl
                have yf0 := frozen_of K9 0
                have yf1 := frozen_of K9 1
                have yf2 := frozen_of K9 2
                have lk9 := lt_of_block K9
                rw [← hW9] at HS8
                obtain ⟨W10, hW10⟩ : ∃ W, W = ((W9.setCell ⟨kl, 0, none⟩ (.int .u64 u)).setCell ⟨kl, 1, none⟩ (.int .i64 (i : Int))).setCell ⟨kl, 2, none⟩ (.int .i64 0) := ⟨_, rfl⟩
                have C10 : Ch (Only kl) W9 W10 := by rw [hW10]; exact (((Ch.refl (Only kl) W9).own 0 _).own 1 _).own 2 _
                have K10 : W10.heap[kl]? = some (.cells #[.int .u64 u, .int .i64 (i : Int), .int .i64 0] 44 (0, 0)) := by rw [hW10]; exact setCell_block (setCell_block (setCell_block K9 0 _) 1 _) 2 _
                have S10 : So w b kg j ws (K3 - 1) T8 ys (gone.set i true) W10 :=
                  { HS8.out with h := HS8.out.h.ch C10 (fun q a e => HT8.out q a e), o := HS8.out.o.ch C10 (fun q a e => by have h1 := kgb a; have h2 : q = kl := e; omega), c := HS8.out.c.trans C10 (fun q e => .inr (by have e1 : q = kl := e; omega)) }
                have HS10 := hid S10
                have HK10 := hid K10
                clear C9 K9 C10 K10 S10 l0 l1 e1
                go_upto_region 31 with fail
                rw [← hW9]
                clear hW9
                go_wp2_with fail
                rw [← hW10]
                clear hW10
                go_roundg (K3 - 1)
                case measure => omega
                case rel => exact ⟨m3 + 1, T8, ys, _, u, (i : Int), by omega, by simp, HS10.out, HK10.out, .inr HB8.out, HT8.out⟩
            · have ex : xs = [] := List.eq_nil_of_length_eq_zero (by rw [HS7.out.l]; omega)
              subst ex
              go_wp2_with fail
              refine (pop_none T b (j : Int) V3 HS7.out.h).mono ?_
              rintro e w8 ⟨rfl, rfl⟩
              go_wp2_with fail
              refine (len_any T b [] (j : Int) _ HS7.out.h).mono ?_
              rintro e w9 ⟨rfl, rfl⟩
              go_wp2
              go_ret
              exact ⟨rfl, HS7.out.c⟩
end Go.Proofs.Ytkaeccmhfbjcmaa.Hp
