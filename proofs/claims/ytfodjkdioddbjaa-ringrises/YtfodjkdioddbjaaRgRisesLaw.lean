/-
  What RingRises of the statements answers: true, at any calls. Condition: the list of calls is there, and takes no more bytes than a slice may.
-/
import Derived.Test.YtfodjkdioddbjaaRgPlayed
import Derived.Test.YtfodjkdioddbjaaRgCounted
import Derived.Test.YtfodjkdioddbjaaRgAwake
namespace Go.Proofs.Ytfodjkdioddbjaa.Rg
open Go.RowKit
attribute [local go_sem ↓] Go.wp_at_zero Go.wp_at_succ

/-- where RingRises stands behind j rings -/
def Risen (b c pk j : Nat) (n : Int) (w : World) (xs zs : List W3) (nx ny : Option W3) (wr : World) : Prop :=
  Pair wr pk #[.pointer (some ⟨b, 0, none⟩), .pointer (some ⟨c, 0, none⟩), .slice none 0 0, .bool false, .int .i64 0, .int .i64 0, .int .u64 0, .slice none 0 0, .bool false, .int .i64 0, .int .i64 0, .int .u64 0, .int .i64 n] ∧ Ch NoB w wr ∧
    ((j = 0 ∧ RingAt wr b xs nx ∧ RingAt wr c zs ny) ∨ (j = 1 ∧ RingAt wr c zs ny) ∨ j = 2)

set_option maxHeartbeats 2000000 in
theorem rises_law (ov : Value) (os : List (Int × W3)) (w : World) (ho : Ops w.heap.size w ov os) (hl : os.length * 32 ≤ 140737488351232) :
    Calls Try.prog 6 #[ov] w fun e w' => e = .returned (.bool true) ∧ Ch NoB w w' := by
  obtain ⟨oa, oc, rfl⟩ := ho.form
  have HO := hid ho
  have HL := hid hl
  clear ho hl
  go_enter Try.func6, Try.ntmps6
  go_wp2_with fail
  refine (played_law _ os _ HO.out HL.out).mono ?_
  rintro e w1 ⟨b, c, n, B, iv, tv, IN, OUT, xs, zs, nx, ny, rfl, hb, hbc, hcB, r1, r2, o1, o2, _, _, _, u1, u2, g1⟩
  simp only [pairOf]
  obtain ⟨ia, ic, rfl⟩ := o1.form
  obtain ⟨ta, tc, rfl⟩ := o2.form
  have hb1 := r1.lt
  have hc1 := r2.lt
  have hs1 := g1.size
  have HD := hid (show Risen b c w1.heap.size 0 n w xs zs nx ny (w1.alloc (.cells #[.pointer (some ⟨b, 0, none⟩), .pointer (some ⟨c, 0, none⟩), .slice none 0 0, .bool false, .int .i64 0, .int .i64 0, .int .u64 0, .slice none 0 0, .bool false, .int .i64 0, .int .i64 0, .int .u64 0, .int .i64 n] 35)) from
    ⟨Pair.new w1 _, g1.alloc _, .inl ⟨rfl, r1.alloc _, r2.alloc _⟩⟩)
  have HU1 := hid u1
  have HU2 := hid u2
  clear r1 r2 o1 o2 g1 u1 u2
  go_wp2_with fail
  go_loopg [6] 2 (fun k i wr => ∃ j, j + k = 2 ∧ i = .int .i64 ((j : Nat) : Int) ∧ Risen b c w1.heap.size j n w xs zs nx ny wr)
  case atStart => exact ⟨0, by omega, rfl, HD.out⟩
  case round =>
    obtain ⟨j, hjk, rfl, hp, hg, hst⟩ := hrel
    have hpl := hp.lt
    have hgl := hg.size
    obtain ⟨p0, p1, p2, p3, p4, p5, p6, p7, p8, p9, p10, p11, p12⟩ := hp.cells
    have HP := hid hp
    have HG := hid hg
    clear hp hg p2 p3 p4 p5 p6 p7 p8 p9 p10 p11 p12
    rcases hst with ⟨rfl, hr, hs⟩ | ⟨rfl, hs⟩ | rfl
    · have hlen := hr.len
      obtain ⟨YS, hYS⟩ : ∃ YS, YS = xs ++ nx.toList := ⟨_, rfl⟩
      have hY1 : YS.length ≤ 65 := by rw [hYS, List.length_append]; cases nx <;> simp <;> omega
      have hY2 : IntKind.i64.wrap ((xs.length : Int) + (if nx.isSome then 1 else 0)) = (YS.length : Int) := by
        rw [hYS, List.length_append, IntKind.wrap_i64]
        cases nx <;> simp <;> omega
      have hneq : ((YS.length : Int) != (YS.length : Int)) = false := by simp
      have h64 : decide ((64 : Int) < (xs.length : Int)) = false := by simp; omega
      have hBI := fun w2 => boolInt_any nx.isSome w2
      obtain ⟨BI, hB⟩ : ∃ BI : Int, BI = (if nx.isSome then 1 else 0) := ⟨_, rfl⟩
      rw [← hB] at hBI hY2
      have hY3 : (xs.length : Int) + BI = (YS.length : Int) := by
        rw [hB, hYS, List.length_append]
        cases nx <;> simp
      have HBI := hid hBI
      have HYS := hid hYS
      have HUY := hid (show upB YS = true by rw [hYS]; exact HU1.out)
      have HR := hid hr
      have HS := hid hs
      clear hr hs hYS hB hBI
      go_wp2_with fail
      refine (state_any b xs nx _ HR.out).mono ?_
      rintro e w3 ⟨sv, rfl, l3, g3⟩
      obtain ⟨sa, sc, rfl⟩ := l3.form
      have hs3 := g3.size
      have hq3 : w1.heap.size < w3.heap.size := by omega
      obtain ⟨q0, q1, q2, q3, q4, q5, q6, q7, q8, q9, q10, q11, q12⟩ := (HP.out.ch g3 (noB _)).cells
      have HP3 := hid (HP.out.ch g3 (noB _))
      have HR3 := hid (HR.out.ch g3 (noB _))
      have HG3 := hid (HG.out.trans' g3)
      have HS3 := hid (HS.out.ch g3 (noB _))
      clear l3 g3 q2 q3 q4 q5 q6 q7 q8 q9 q10 q11 q12
      go_wp2_with fail
      refine (drain_any b xs nx _ (HR3.out.alloc _)).mono ?_
      rintro e w4 ⟨dv, rfl, l4, r4, g4⟩
      rw [← HYS.out] at l4
      obtain ⟨da, dc, rfl⟩ := l4.form
      have hs4 := g4.size
      simp only [World.size_alloc] at hs4
      have F := (Five.new w3 (.slice sa xs.length sc) (.bool nx.isSome) (.int .i64 (nx.getD W3.zero).s) (.int .i64 (nx.getD W3.zero).g) (.int .u64 (nx.getD W3.zero).t)).ch g4 (fun e => by have : w3.heap.size = b := e; omega)
      obtain ⟨f0, f1, f2, f3, f4⟩ := F.cells
      have HP4 := hid ((HP3.out.alloc _).ch g4 (fun e => by have : w1.heap.size = b := e; omega))
      have HL4 := hid l4
      have HG4 := hid ((HG3.out.alloc _).trans g4 (fun q e => .inr (by have : q = b := e; omega)))
      have HS4 := hid ((HS3.out.alloc _).ch g4 (fun e => by have : c = b := e; omega))
      clear l4 r4 g4 F f2 f3 f4
      go_wp2
      go_quiet (first | (go_at_call 20; exact Calls.quiet_of (lrises_any _ _ YS _ (HL4.out.drewN _) (by omega) HUY.out)) | (go_at_call 21; exact Calls.quiet_of_same (HBI.out _)))
      go_wp2
      go_roundg 1
      case measure => omega
      case rel => exact ⟨1, by omega, by simp, HP4.out.drewN _, HG4.out.drewN _, .inr (.inl ⟨rfl, HS4.out.drewN _⟩)⟩
    · have hlen := hs.len
      obtain ⟨YS, hYS⟩ : ∃ YS, YS = zs ++ ny.toList := ⟨_, rfl⟩
      have hY1 : YS.length ≤ 65 := by rw [hYS, List.length_append]; cases ny <;> simp <;> omega
      have hY2 : IntKind.i64.wrap ((zs.length : Int) + (if ny.isSome then 1 else 0)) = (YS.length : Int) := by
        rw [hYS, List.length_append, IntKind.wrap_i64]
        cases ny <;> simp <;> omega
      have hneq : ((YS.length : Int) != (YS.length : Int)) = false := by simp
      have h64 : decide ((64 : Int) < (zs.length : Int)) = false := by simp; omega
      have hBI := fun w2 => boolInt_any ny.isSome w2
      obtain ⟨BI, hB⟩ : ∃ BI : Int, BI = (if ny.isSome then 1 else 0) := ⟨_, rfl⟩
      rw [← hB] at hBI hY2
      have hY3 : (zs.length : Int) + BI = (YS.length : Int) := by
        rw [hB, hYS, List.length_append]
        cases ny <;> simp
      have HBI := hid hBI
      have HYS := hid hYS
      have HUY := hid (show upB YS = true by rw [hYS]; exact HU2.out)
      have HR := hid hs
      clear hs hYS hB hBI
      go_wp2_with fail
      refine (state_any c zs ny _ HR.out).mono ?_
      rintro e w3 ⟨sv, rfl, l3, g3⟩
      obtain ⟨sa, sc, rfl⟩ := l3.form
      have hs3 := g3.size
      have hq3 : w1.heap.size < w3.heap.size := by omega
      obtain ⟨q0, q1, q2, q3, q4, q5, q6, q7, q8, q9, q10, q11, q12⟩ := (HP.out.ch g3 (noB _)).cells
      have HP3 := hid (HP.out.ch g3 (noB _))
      have HR3 := hid (HR.out.ch g3 (noB _))
      have HG3 := hid (HG.out.trans' g3)
      clear l3 g3 q2 q3 q4 q5 q6 q7 q8 q9 q10 q11 q12
      go_wp2_with fail
      refine (drain_any c zs ny _ (HR3.out.alloc _)).mono ?_
      rintro e w4 ⟨dv, rfl, l4, r4, g4⟩
      rw [← HYS.out] at l4
      obtain ⟨da, dc, rfl⟩ := l4.form
      have hs4 := g4.size
      simp only [World.size_alloc] at hs4
      have F := (Five.new w3 (.slice sa zs.length sc) (.bool ny.isSome) (.int .i64 (ny.getD W3.zero).s) (.int .i64 (ny.getD W3.zero).g) (.int .u64 (ny.getD W3.zero).t)).ch g4 (fun e => by have : w3.heap.size = c := e; omega)
      obtain ⟨f0, f1, f2, f3, f4⟩ := F.cells
      have HP4 := hid ((HP3.out.alloc _).ch g4 (fun e => by have : w1.heap.size = c := e; omega))
      have HL4 := hid l4
      have HG4 := hid ((HG3.out.alloc _).trans g4 (fun q e => .inr (by have : q = c := e; omega)))
      clear l4 r4 g4 F f2 f3 f4
      go_wp2
      go_quiet (first | (go_at_call 20; exact Calls.quiet_of (lrises_any _ _ YS _ (HL4.out.drewN _) (by omega) HUY.out)) | (go_at_call 21; exact Calls.quiet_of_same (HBI.out _)))
      go_wp2
      go_roundg 0
      case measure => omega
      case rel => exact ⟨2, by omega, by simp, HP4.out.drewN _, HG4.out.drewN _, .inr (.inr rfl)⟩
    · go_wp2_with fail
      refine (awake_any _).mono ?_
      rintro e w7 ⟨rfl, g7⟩
      have HG7 := hid g7
      clear g7
      go_wp2
      go_ret
      exact ⟨rfl, HG.out.trans' HG7.out⟩
end Go.Proofs.Ytfodjkdioddbjaa.Rg
