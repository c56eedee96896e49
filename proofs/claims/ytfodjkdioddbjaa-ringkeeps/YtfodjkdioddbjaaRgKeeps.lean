/-
  What RingKeeps of the statements answers: true, at any calls. Condition: the list of calls is there, and takes no more bytes than a slice may.
-/
import Derived.Test.YtfodjkdioddbjaaRgPlayed
import Derived.Test.YtfodjkdioddbjaaRgCounted
import Derived.Test.YtfodjkdioddbjaaRgAwake
import Derived.Deep.RegionWith
namespace Go.Proofs.Ytfodjkdioddbjaa.Rg
open Go.RowKit
attribute [local go_sem ↓] Go.wp_at_zero Go.wp_at_succ

theorem Own.mono {B B' : Nat} {w : World} {v : Value} {xs : List W3} (h : Own B w v xs) (hb : B' ≤ B) : Own B' w v xs :=
  ⟨h.1, h.2.imp id (fun ⟨g, cap, cur, hv, hg, r⟩ => ⟨g, cap, cur, hv, Nat.le_trans hb hg, r⟩)⟩

/-- where RingKeeps stands behind j drains -/
def Drained (b c pk j : Nat) (n : Int) (w : World) (IN OUT xs zs : List W3) (nx ny : Option W3) (iv tv : Value) (wr : World) : Prop :=
  Pair wr pk #[.pointer (some ⟨b, 0, none⟩), .pointer (some ⟨c, 0, none⟩), .slice none 0 0, .bool false, .int .i64 0, .int .i64 0, .int .u64 0, .slice none 0 0, .bool false, .int .i64 0, .int .i64 0, .int .u64 0, .int .i64 n] ∧ Own (c + 1) wr iv IN ∧ (∀ q, Blk iv q → ¬ Blk tv q) ∧ (∀ q, Blk iv q → q ≠ pk) ∧ (∀ q, Blk tv q → q ≠ pk) ∧ Ch NoB w wr ∧
    ((j = 0 ∧ Own (c + 1) wr tv OUT ∧ RingAt wr b xs nx ∧ RingAt wr c zs ny) ∨ (j = 1 ∧ Own (c + 1) wr tv (OUT ++ (xs ++ nx.toList)) ∧ RingAt wr b [] none ∧ RingAt wr c zs ny) ∨
      (j = 2 ∧ Own (c + 1) wr tv ((OUT ++ (xs ++ nx.toList)) ++ (zs ++ ny.toList)) ∧ RingAt wr b [] none ∧ RingAt wr c [] none))

set_option maxHeartbeats 2000000 in
theorem keeps_law (ov : Value) (os : List (Int × W3)) (w : World) (ho : Ops w.heap.size w ov os) (hl : os.length * 32 ≤ 140737488351232) :
    Calls Try.prog 5 #[ov] w fun e w' => e = .returned (.bool true) ∧ Ch NoB w w' := by
  obtain ⟨oa, oc, rfl⟩ := ho.form
  have HO := hid ho
  have HL := hid hl
  clear ho hl
  go_enter Try.func5, Try.ntmps5
  go_wp2_with fail
  refine (played_law _ os _ HO.out HL.out).mono ?_
  rintro e w1 ⟨b, c, n, B, iv, tv, IN, OUT, xs, zs, nx, ny, rfl, hb, hbc, hcB, r1, r2, o1, o2, hdj, hpm, hIN, _, _, g1⟩
  simp only [pairOf]
  obtain ⟨ia, ic, rfl⟩ := o1.form
  obtain ⟨ta, tc, rfl⟩ := o2.form
  have hb1 := r1.lt
  have hc1 := r2.lt
  have hs1 := g1.size
  have hlx := r1.len
  have hlz := r2.len
  have hcl : IN.length * 24 ≤ 140737488355328 := by have := HL.out; omega
  have hlen := hpm.length_eq
  simp only [allOf, List.length_append] at hlen
  have hk1 : ∀ q, Blk (.slice ia IN.length ic) q → q ≠ w1.heap.size := fun q h => by have := (o1.blk h).2; omega
  have hk2 : ∀ q, Blk (.slice ta OUT.length tc) q → q ≠ w1.heap.size := fun q h => by have := (o2.blk h).2; omega
  have HD := hid (show Drained b c w1.heap.size 0 n w IN OUT xs zs nx ny (.slice ia IN.length ic) (.slice ta OUT.length tc) (w1.alloc (.cells #[.pointer (some ⟨b, 0, none⟩), .pointer (some ⟨c, 0, none⟩), .slice none 0 0, .bool false, .int .i64 0, .int .i64 0, .int .u64 0, .slice none 0 0, .bool false, .int .i64 0, .int .i64 0, .int .u64 0, .int .i64 n] 35)) from
    ⟨Pair.new w1 _, (o1.mono (by omega)).alloc _, hdj, hk1, hk2, g1.alloc _, .inl ⟨rfl, (o2.mono (by omega)).alloc _, r1.alloc _, r2.alloc _⟩⟩)
  have HPM := hid hpm
  have HLEN := hid hlen
  clear r1 r2 o1 o2 hdj hpm g1 hk1 hk2 hlen
  go_wp2_with fail
  go_loopg [5, 6] 2 (fun k tv i wr => ∃ j, j + k = 2 ∧ i = .int .i64 ((j : Nat) : Int) ∧ Drained b c w1.heap.size j n w IN OUT xs zs nx ny (.slice ia IN.length ic) tv wr)
  case atStart => exact ⟨0, by omega, rfl, HD.out⟩
  case round =>
    obtain ⟨j, hjk, rfl, hp, hi, hdj, hk1, hk2, hg, hst⟩ := hrel
    obtain ⟨p0, p1, p2, p3, p4, p5, p6, p7, p8, p9, p10, p11, p12⟩ := hp.cells
    have hpl := hp.lt
    have hgl := hg.size
    have HP := hid hp
    have HI := hid hi
    have HDJ := hid hdj
    have HK1 := hid hk1
    have HK2 := hid hk2
    have HG := hid hg
    clear hp hi hdj hk1 hk2 hg p2 p3 p4 p5 p6 p7 p8 p9 p10 p11 p12
    rcases hst with ⟨rfl, ho, hr, hs⟩ | ⟨rfl, ho, hr, hs⟩ | ⟨rfl, ho, hr, hs⟩
    · obtain ⟨ta', tc', rfl⟩ := ho.form
      obtain ⟨XS, hXS⟩ : ∃ XS, XS = xs ++ nx.toList := ⟨_, rfl⟩
      obtain ⟨K, hK⟩ : ∃ K, K = OUT.length + XS.length := ⟨_, rfl⟩
      have hKb : K ≤ IN.length := by have := HLEN.out; rw [hK, hXS, List.length_append]; omega
      have HXS := hid hXS
      have HKK := hid hK
      have HT := hid ho
      have HR := hid hr
      have HS := hid hs
      clear ho hr hs hXS hK
      go_wp2_with fail
      refine (drain_any b xs nx _ HR.out).mono ?_
      rintro e w3 ⟨dv, rfl, l3, r3, g3⟩
      rw [← HXS.out] at l3
      have nbI : ∀ q, Blk (.slice ia IN.length ic) q → ¬ Only b q := fun q h e => by have := (HI.out.blk h).1; have : q = b := e; omega
      have nbT : ∀ q, Blk (.slice ta' OUT.length tc') q → ¬ Only b q := fun q h e => by have := (HT.out.blk h).1; have : q = b := e; omega
      have HT3 := hid (HT.out.ch g3 nbT)
      have HI3 := hid (HI.out.ch g3 nbI)
      have HP3 := hid (HP.out.ch g3 (fun e => by have : w1.heap.size = b := e; omega))
      have HS3 := hid (HS.out.ch g3 (fun e => by have : c = b := e; omega))
      have HR3 := hid r3
      have HL3 := hid l3
      have hs3 := g3.size
      have HG3 := hid (HG.out.trans g3 (fun q e => .inr (by have : q = b := e; omega)))
      clear l3 r3 g3 nbI nbT
      go_wp2_with (first | (at_builtin; refine wpList_append_own2 rfl (.tmp 28) (.tmp 33) rfl (c + 1) _ OUT rfl HT3.out _ _ XS rfl HL3.out K HKK.out (by omega) (by omega) (OUT ++ (xs ++ nx.toList)) (by rw [HXS.out]) ?_; intro ta4 tc4 w4 ow4 cw4 bl4))
      have nB : ∀ q, q < c + 1 → ¬ Blk (.slice ta' OUT.length tc') q := fun q hq e => by have := (HT.out.blk e).1; omega
      have HF := hid (show Drained b c w1.heap.size 1 n w IN OUT xs zs nx ny (.slice ia IN.length ic) (.slice ta4 K tc4) w4 from
        ⟨HP3.out.ch cw4 (fun e => HK2.out _ e rfl), HI3.out.ch cw4 (fun q h e => HDJ.out q h e), (fun q h e => by
          rcases bl4 q e with a | a
          · exact HDJ.out q h a
          · have := (HI3.out.blk h).2; omega), HK1.out, (fun q h => by
          rcases bl4 q h with a | a
          · exact HK2.out q a
          · omega), HG3.out.trans cw4 (fun q e => .inr (by have := (HT.out.blk e).1; omega)), .inr (.inl ⟨rfl, ow4, HR3.out.ch cw4 (nB b (by omega)), HS3.out.ch cw4 (nB c (by omega))⟩)⟩)
      clear ow4 cw4 bl4 nB
      go_wp2
      go_roundg 1
      case measure => omega
      case rel => exact ⟨1, by omega, by simp, HF.out⟩
    · obtain ⟨ta', tc', rfl⟩ := ho.form
      obtain ⟨O1, hO1⟩ : ∃ O1, O1 = OUT ++ (xs ++ nx.toList) := ⟨_, rfl⟩
      rw [← hO1] at ho HDJ HK2 ⊢
      have hOl : O1.length + (zs ++ ny.toList).length = IN.length := by have := HLEN.out; rw [hO1]; simp only [List.length_append]; omega
      have HOL := hid hOl
      have HO1 := hid hO1
      have HT := hid ho
      have HR := hid hr
      have HS := hid hs
      clear ho hr hs hO1 hOl
      go_wp2_with fail
      refine (drain_any c zs ny _ HS.out).mono ?_
      rintro e w3 ⟨dv, rfl, l3, r3, g3⟩
      have nbI : ∀ q, Blk (.slice ia IN.length ic) q → ¬ Only c q := fun q h e => by have := (HI.out.blk h).1; have : q = c := e; omega
      have nbT : ∀ q, Blk (.slice ta' O1.length tc') q → ¬ Only c q := fun q h e => by have := (HT.out.blk h).1; have : q = c := e; omega
      have HT3 := hid (HT.out.ch g3 nbT)
      have HI3 := hid (HI.out.ch g3 nbI)
      have HP3 := hid (HP.out.ch g3 (fun e => by have : w1.heap.size = c := e; omega))
      have HR3 := hid (HR.out.ch g3 (fun e => by have : b = c := e; omega))
      have HS3 := hid r3
      have HL3 := hid l3
      have hs3 := g3.size
      have HG3 := hid (HG.out.trans g3 (fun q e => .inr (by have : q = c := e; omega)))
      clear l3 r3 g3 nbI nbT
      go_wp2_with (first | (at_builtin; refine wpList_append_own2 rfl (.tmp 28) (.tmp 33) rfl (c + 1) _ O1 rfl HT3.out _ _ (zs ++ ny.toList) rfl HL3.out IN.length HOL.out.symm (by omega) (by omega) _ rfl ?_; intro ta4 tc4 w4 ow4 cw4 bl4))
      have nB : ∀ q, q < c + 1 → ¬ Blk (.slice ta' O1.length tc') q := fun q hq e => by have := (HT.out.blk e).1; omega
      rw [HO1.out] at ow4
      have HF := hid (show Drained b c w1.heap.size 2 n w IN OUT xs zs nx ny (.slice ia IN.length ic) (.slice ta4 IN.length tc4) w4 from
        ⟨HP3.out.ch cw4 (fun e => HK2.out _ e rfl), HI3.out.ch cw4 (fun q h e => HDJ.out q h e), (fun q h e => by
          rcases bl4 q e with a | a
          · exact HDJ.out q h a
          · have := (HI3.out.blk h).2; omega), HK1.out, (fun q h => by
          rcases bl4 q h with a | a
          · exact HK2.out q a
          · omega), HG3.out.trans cw4 (fun q e => .inr (by have := (HT.out.blk e).1; omega)), .inr (.inr ⟨rfl, ow4, HR3.out.ch cw4 (nB b (by omega)), HS3.out.ch cw4 (nB c (by omega))⟩)⟩)
      clear ow4 cw4 bl4 nB
      go_wp2
      go_roundg 0
      case measure => omega
      case rel => exact ⟨2, by omega, by simp, HF.out⟩
    · obtain ⟨O2, hO2⟩ : ∃ O2, O2 = (OUT ++ (xs ++ nx.toList)) ++ (zs ++ ny.toList) := ⟨_, rfl⟩
      rw [← hO2] at ho
      have hPM : IN.Perm O2 := by
        have := HPM.out
        unfold allOf at this
        rw [hO2, List.append_assoc]
        exact this
      obtain ⟨ta', tc', rfl⟩ := ho.form
      have hl2 := hPM.length_eq
      have hl62 : IN.length ≤ 4611686018427387903 := by omega
      have HT := hid ho
      have HR := hid hr
      have HS := hid hs
      have HPP := hid hPM
      have HL2 := hid hl2
      rw [← hl2]
      clear ho hr hs hPM hO2 hl2
      obtain ⟨m, hm⟩ : ∃ m, m = IN.length := ⟨_, rfl⟩
      rw [← hm] at hl62 ⊢
      have HM := hid hm
      have HLI := hid (show Lst (fun _ => True) wr (.slice ia m ic) IN from by rw [hm]; exact HI.out.lst.mono (fun _ _ _ => trivial))
      have HLT := hid (show Lst (fun _ => True) wr (.slice ta' m tc') O2 from by rw [hm, HL2.out]; exact HT.out.lst.mono (fun _ _ _ => trivial))
      clear hm hlx hlz hcl hIN
      go_wp2_with fail
      go_loopg [7] m (fun k i w5 => ∃ j, j + k = m ∧ i = .int .i64 ((j : Nat) : Int) ∧ Ch NoB wr w5)
      case atStart => exact ⟨0, by omega, rfl, Ch.refl _ _⟩
      case round =>
        obtain ⟨j, hjk', rfl, hg5⟩ := hrel
        by_cases hj : j < m
        · obtain ⟨z, hz⟩ : ∃ z, IN[j]? = some z := ⟨_, List.getElem?_eq_getElem (by rw [← HM.out]; exact hj)⟩
          obtain ⟨g, o, rfl, _, hgl5, a0, a1, a2⟩ := (HLI.out.ch hg5 (fun _ _ _ => noB _)).get hz
          have j0 : (0 : Int) ≤ (j : Int) := by omega
          have j1 : (j : Int) < (m : Int) := by omega
          have hcI := fun w2 (h2 : Lst (fun _ => True) w2 (.slice (some ⟨g, o, none⟩) m ic) IN) => counted_any _ _ IN z w2 h2 (by rw [← HM.out]; omega)
          have hcT := fun w2 (h2 : Lst (fun _ => True) w2 (.slice ta' m tc') O2) => counted_any _ _ O2 z w2 h2 (by rw [← HL2.out, ← HM.out]; omega)
          rw [HPP.out.countP_eq] at hcI
          obtain ⟨N, hN⟩ : ∃ N, N = O2.countP (fun y => eqW y z) := ⟨_, rfl⟩
          rw [← hN] at hcI hcT
          have hNm : N ≤ m := by rw [hN, HM.out, HL2.out]; exact List.countP_le_length
          have HCI := hid hcI
          have HCT := hid hcT
          have HI5 := hid (HLI.out.ch hg5 (fun _ _ _ => noB _))
          have HT5 := hid (HLT.out.ch hg5 (fun _ _ _ => noB _))
          have HG5 := hid hg5
          clear hcI hcT hN hg5 hz
          go_wp2
          go_region_held3 (fun w' => w'.cell? ⟨g, o + j * 3, none⟩ = some (.int .i64 z.s) ∧ w'.cell? ⟨g, o + j * 3 + 1, none⟩ = some (.int .i64 z.g) ∧ w'.cell? ⟨g, o + j * 3 + 2, none⟩ = some (.int .u64 z.t)) (first | (simp only [c0, c1, c2, and_self]; done) | (simp only [b0, b1, b2, and_self]; done) | (go_keep; done))
            (first
              | (go_at_call_of 17 (ic); refine (HCI.out _ HI5.out.drew).mono ?_; rintro e w6 ⟨rfl, g6⟩; obtain ⟨b0, b1, b2⟩ := (show w6.cell? ⟨g, o + j * 3, none⟩ = some (.int .i64 z.s) ∧ w6.cell? ⟨g, o + j * 3 + 1, none⟩ = some (.int .i64 z.g) ∧ w6.cell? ⟨g, o + j * 3 + 2, none⟩ = some (.int .u64 z.t) from ⟨(g6.cell (by simpa using hgl5) (noB _)).trans a0, (g6.cell (by simpa using hgl5) (noB _)).trans a1, (g6.cell (by simpa using hgl5) (noB _)).trans a2⟩); have HG6 := hid g6; clear g6)
              | (go_at_call_of 17 (tc'); refine (HCT.out _ (HT5.out.drew.ch HG6.out (fun _ _ _ => noB _))).mono ?_; rintro e w7 ⟨rfl, g7⟩; obtain ⟨c0, c1, c2⟩ := (show w7.cell? ⟨g, o + j * 3, none⟩ = some (.int .i64 z.s) ∧ w7.cell? ⟨g, o + j * 3 + 1, none⟩ = some (.int .i64 z.g) ∧ w7.cell? ⟨g, o + j * 3 + 2, none⟩ = some (.int .u64 z.t) from ⟨(g7.cell (Nat.lt_of_lt_of_le hgl5 HG6.out.size) (noB _)).trans b0, (g7.cell (Nat.lt_of_lt_of_le hgl5 HG6.out.size) (noB _)).trans b1, (g7.cell (Nat.lt_of_lt_of_le hgl5 HG6.out.size) (noB _)).trans b2⟩); have HG7 := hid g7; clear g7))
          all_goals go_wp2
          all_goals go_roundg (gk - 1)
          case measure => omega
          case rel => exact ⟨j + 1, by omega, by simp, (HG5.out.drew.trans' HG6.out).trans' HG7.out⟩
        · have HG5 := hid hg5
          obtain ⟨p0, p1, p2, p3, p4, p5, p6, p7, p8, p9, p10, p11, p12⟩ := (HP.out.ch hg5 (noB _)).cells
          have HR5 := hid (HR.out.ch hg5 (noB _))
          have HS5 := hid (HS.out.ch hg5 (noB _))
          clear hg5 p2 p3 p4 p5 p6 p7 p8 p9 p10 p11 p12
          go_wp2_with fail
          refine (len_any b [] none _ HR5.out).mono ?_
          rintro e w6 ⟨rfl, rfl⟩
          go_wp2_with fail
          refine (len_any c [] none _ HS5.out).mono ?_
          rintro e w6 ⟨rfl, rfl⟩
          go_wp2_with fail
          refine (awake_any _).mono ?_
          rintro e w7 ⟨rfl, g7⟩
          have HG7 := hid g7
          clear g7
          go_wp2
          go_ret
          exact ⟨rfl, (HG.out.trans' HG5.out).trans' HG7.out⟩
end Go.Proofs.Ytfodjkdioddbjaa.Rg
