/-
  What the program's lookAhead leaves: of each line whether an instruction of the same function comes behind it. Condition: the list is the caller's own.
-/
import Derived.Test.YtbehlhnnfdkmaaaGreatDoorLtKind
namespace Go.Proofs.YtbehlhnnfdkmaaaGreatDoor.Lt
open Go.RowKit Wd

/-- a line that counts, as it lies in memory: its number, its words and their value, its kind, its operation, whether an instruction comes -/
structure Ln where
  num : Nat
  ws : List ByteArray
  wv : Value
  kind : Int
  op : Nat
  leads : Bool
def eL (l : Ln) : List Value := [.int .i64 (l.num : Nat), l.wv, .int .i64 l.kind, .int .i64 (l.op : Nat), .bool l.leads]
theorem eL_len (l : Ln) : (eL l).length = 5 := rfl
/-- does an instruction come? -/
def cm : List Int → Bool
  | [] => false
  | k :: r => if k = 4 then true else if k = 1 ∨ k = 3 then false else cm r
/-- the lines with what lookAhead finds of those from m on -/
def laF (ls : List Ln) (m : Nat) : List Ln := ls.mapIdx (fun i l => if m ≤ i then { l with leads := cm ((ls.drop (i + 1)).map (·.kind)) } else l)
theorem laF_len (ls : List Ln) (m : Nat) : (laF ls m).length = ls.length := by unfold laF; simp
theorem laF_get (ls : List Ln) (m i : Nat) : (laF ls m)[i]? = (ls[i]?).map (fun l => if m ≤ i then { l with leads := cm ((ls.drop (i + 1)).map (·.kind)) } else l) := by unfold laF; rw [List.getElem?_mapIdx]
theorem laF_step (ls : List Ln) (m : Nat) (l : Ln) (h : ls[m]? = some l) : (laF ls (m + 1)).set m { l with leads := cm ((ls.drop (m + 1)).map (·.kind)) } = laF ls m := by
  apply List.ext_getElem?
  intro i
  rw [List.getElem?_set, laF_get, laF_get, laF_len]
  have hm : m < ls.length := (List.getElem?_eq_some_iff.1 h).1
  by_cases e : m = i
  · subst e
    rw [if_pos rfl, if_pos hm, h]
    simp
  · rw [if_neg e]
    cases hi : ls[i]? with
    | none => rfl
    | some x =>
      simp only [Option.map_some]
      by_cases hx : m ≤ i
      · rw [if_pos hx, if_pos (by omega)]
      · rw [if_neg hx, if_neg (by omega)]
theorem cm_step (ls : List Ln) (m : Nat) (l : Ln) (h : ls[m]? = some l) : cm ((ls.drop m).map (·.kind)) = if l.kind = 4 then true else if l.kind = 1 ∨ l.kind = 3 then false else cm ((ls.drop (m + 1)).map (·.kind)) := by
  have hm : m < ls.length := (List.getElem?_eq_some_iff.1 h).1
  rw [List.drop_eq_getElem_cons hm]
  have e : ls[m] = l := by rw [List.getElem?_eq_getElem hm] at h; injection h
  rw [e]
  rfl

set_option maxHeartbeats 1000000 in
theorem lookAhead_any (base : Nat) (v : Value) (ls : List Ln) (hb : ls.length ≤ 4294967296) (w : World) (ho : Ow eL 5 56 base w v ls) :
    Calls Tryz.prog 49 #[v] w fun e w' => e = .returned (.tuple #[]) ∧ Ow eL 5 56 base w' v (laF ls 0) ∧ Ch (Blk v) w w' := by
  obtain ⟨ao, cap, rfl⟩ := ho.form
  have hcap := ho.len.2
  have HO := hid ho
  clear ho
  obtain ⟨n, hn⟩ : ∃ n, n = ls.length := ⟨_, rfl⟩
  have HN := hid hn
  rw [← hn] at hb hcap HO ⊢
  clear hn
  go_enter Tryz.func49, Tryz.ntmps49
  go_wp2_with fail
  go_loopg [2, 3] n (fun k c i wr => k ≤ n ∧ c = .bool (cm ((ls.drop k).map (·.kind))) ∧ i = .int .i64 ((k : Int) - 1) ∧ Ow eL 5 56 base wr (.slice ao n cap) (laF ls k) ∧ Ch (Blk (.slice ao n cap)) w wr)
  case atStart =>
    refine ⟨Nat.le_refl _, ?_, ?_, ?_, Ch.refl _ _⟩
    · rw [HN.out, List.drop_length]; rfl
    · simp
    · have e : laF ls n = ls := by
        apply List.ext_getElem?
        intro i
        rw [laF_get]
        cases hi : ls[i]? with
        | none => rfl
        | some x =>
          have : i < n := by rw [HN.out]; exact (List.getElem?_eq_some_iff.1 hi).1
          simp
          intro h
          omega
      rw [e]
      exact HO.out
  case round =>
    obtain ⟨hk, rfl, rfl, ho, hc⟩ := hrel
    have HOR := hid ho
    have HC := hid hc
    clear ho hc
    by_cases h0 : gk = 0
    · subst h0
      go_wp2
      go_returns
      exact ⟨rfl, HOR.out, HC.out⟩
    · obtain ⟨m, rfl⟩ : ∃ m, gk = m + 1 := ⟨gk - 1, by omega⟩
      obtain ⟨l, hl⟩ : ∃ l, ls[m]? = some l := ⟨_, List.getElem?_eq_getElem (by rw [← HN.out]; omega)⟩
      have hl' : (laF ls (m + 1))[m]? = some l := by
        rw [laF_get, hl]
        simp only [Option.map_some]
        rw [if_neg (by omega)]
      obtain ⟨g, cap', hv, _, hgl, _, hcs, hfz, hst⟩ := HOR.out.get eL_len hl'
      injection hv with hv1 hv2 hv3
      subst hv1
      clear hv2 hv3
      have c2 := hcs 2 _ rfl
      have c4 := hcs 4 _ rfl
      have f4 := hfz (m * 5 + 4)
      obtain ⟨C, hC⟩ : ∃ C, C = cm ((ls.drop (m + 1)).map (·.kind)) := ⟨_, rfl⟩
      rw [← hC]
      have HCM := hid hC
      have HL := hid hl
      have HST := hid hst
      clear hC hl hl' hst hcs hfz
      obtain ⟨K, hK⟩ : ∃ K, K = l.kind := ⟨_, rfl⟩
      rw [← hK] at c2
      have HK := hid hK
      clear hK
      have m0 : (0 : Int) ≤ (m : Int) := by omega
      have m1 : (m : Int) < (n : Int) := by omega
      rcases (by omega : K = 4 ∨ K = 1 ∨ K = 3 ∨ (¬ K = 4 ∧ ¬ K = 1 ∧ ¬ K = 3)) with k1 | k1 | k1 | ⟨k1, k2, k3⟩
      · subst k1
        go_wp2
        go_roundg m
        case measure => omega
        case rel =>
          refine ⟨by omega, ?_, ?_, ?_, ?_⟩
          · rw [cm_step ls m l HL.out, ← HK.out]; first | rfl | simp [*]
          · first | rfl | simp
          · have := HST.out 4 (.bool C) { l with leads := C } (by omega) rfl
            rw [HCM.out, laF_step ls m l HL.out, ← HCM.out] at this
            exact this
          · exact HC.out.setCell (p := ⟨g, m * 5 + 4, none⟩) (.inl rfl) _
      · subst k1
        go_wp2
        go_roundg m
        case measure => omega
        case rel =>
          refine ⟨by omega, ?_, ?_, ?_, ?_⟩
          · rw [cm_step ls m l HL.out, ← HK.out]; first | rfl | simp [*]
          · first | rfl | simp
          · have := HST.out 4 (.bool C) { l with leads := C } (by omega) rfl
            rw [HCM.out, laF_step ls m l HL.out, ← HCM.out] at this
            exact this
          · exact HC.out.setCell (p := ⟨g, m * 5 + 4, none⟩) (.inl rfl) _
      · subst k1
        go_wp2
        go_roundg m
        case measure => omega
        case rel =>
          refine ⟨by omega, ?_, ?_, ?_, ?_⟩
          · rw [cm_step ls m l HL.out, ← HK.out]; first | rfl | simp [*]
          · first | rfl | simp
          · have := HST.out 4 (.bool C) { l with leads := C } (by omega) rfl
            rw [HCM.out, laF_step ls m l HL.out, ← HCM.out] at this
            exact this
          · exact HC.out.setCell (p := ⟨g, m * 5 + 4, none⟩) (.inl rfl) _
      · go_wp2
        go_roundg m
        case measure => omega
        case rel =>
          refine ⟨by omega, ?_, ?_, ?_, ?_⟩
          · rw [cm_step ls m l HL.out, ← HK.out]; rw [if_neg k1, if_neg (by omega), ← HCM.out]
          · first | rfl | simp
          · have := HST.out 4 (.bool C) { l with leads := C } (by omega) rfl
            rw [HCM.out, laF_step ls m l HL.out, ← HCM.out] at this
            exact this
          · exact HC.out.setCell (p := ⟨g, m * 5 + 4, none⟩) (.inl rfl) _
end Go.Proofs.YtbehlhnnfdkmaaaGreatDoor.Lt
