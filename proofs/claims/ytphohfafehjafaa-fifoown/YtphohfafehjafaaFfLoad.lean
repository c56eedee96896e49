/-
  What Load answers and leaves, the program's and the document's. Condition: the list is there.
-/
import Derived.Test.YtphohfafehjafaaFfRef4
namespace Go.Proofs.Ytphohfafehjafaa.Ff
open Go.RowKit
attribute [local go_sem ↓] Go.wp_at_zero Go.wp_at_succ

theorem ins_get (xs : List W3) (x : W3) (b i : Nat) (hb : b ≤ xs.length) : (xs.take b ++ x :: xs.drop b)[i]? = if i < b then xs[i]? else if i = b then some x else xs[i - 1]? := by
  have hl : (xs.take b).length = b := by rw [List.length_take]; omega
  by_cases h : i < b
  · rw [if_pos h, List.getElem?_append_left (by omega), List.getElem?_take_of_lt h]
  · rw [if_neg h, List.getElem?_append_right (by omega), hl]
    by_cases h2 : i = b
    · rw [if_pos h2, h2, Nat.sub_self]; rfl
    · rw [if_neg h2]
      have : i - b = (i - b - 1) + 1 := by omega
      rw [this, List.getElem?_cons_succ, List.getElem?_drop]
      congr 1
      omega
theorem putE_zero {xs : List W3} {x : W3} (h : putE xs x = 0) : isThere xs x = false ∧ xs.length < 4096 := by
  unfold putE at h
  split at h
  · omega
  · rename_i h1
    split at h
    · omega
    · exact ⟨by simpa using h1, by omega⟩
theorem up_put {xs : List W3} (hu : Up xs) (x : W3) : Up (putL xs x) := by
  unfold putL
  split
  · rename_i h
    obtain ⟨ht, hl⟩ := putE_zero h
    have hb := below_le x.t xs
    intro i j a c hij ha hc
    rw [ins_get xs x _ i hb] at ha
    rw [ins_get xs x _ j hb] at hc
    have gt : ∀ m y, xs[m]? = some y → ¬ m < below x.t xs → x.t < y.t := fun m y hy hm => below_gt hu hy hm (fun e => by have := there_turn hu hy e; rw [ht] at this; cases this)
    split at ha
    · split at hc
      · exact hu i j a c hij ha hc
      · split at hc
        · injection hc with hc
          subst hc
          exact below_lt hu ha (by assumption)
        · exact hu i (j - 1) a c (by omega) ha hc
    · rw [if_neg (by omega), if_neg (by omega)] at hc
      split at ha
      · injection ha with ha
        subst ha
        exact gt _ c hc (by omega)
      · exact hu (i - 1) (j - 1) a c (by omega) ha hc
  · exact hu
theorem putL_len {xs : List W3} (x : W3) (h : xs.length ≤ 4096) : (putL xs x).length ≤ 4096 := by
  unfold putL
  split
  · rename_i h
    have := (putE_zero h).2
    have hb := below_le x.t xs
    rw [List.length_append, List.length_take, List.length_cons, List.length_drop]
    omega
  · exact h
/-- what Load answers, some being there -/
def loadE : List W3 → List W3 → Int
  | _, [] => 0
  | a, x :: r => if putE a x = 0 then loadE (putL a x) r else putE a x
/-- .. and what is there behind it -/
def loadL (a : List W3) (l : List W3) : List W3 := l.foldl putL a
theorem loadE_step {a l : List W3} {j : Nat} {x : W3} (hx : l[j]? = some x) : loadE a (l.drop j) = if putE a x = 0 then loadE (putL a x) (l.drop (j + 1)) else putE a x := by
  have : l.drop j = x :: l.drop (j + 1) := by
    obtain ⟨h1, h2⟩ := List.getElem?_eq_some_iff.1 hx
    rw [List.drop_eq_getElem_cons h1, h2]
  rw [this]
  rfl
theorem loadL_step {l : List W3} {j : Nat} {x : W3} (hx : l[j]? = some x) : loadL [] (l.take (j + 1)) = putL (loadL [] (l.take j)) x := by
  unfold loadL
  rw [List.take_add_one, hx, List.foldl_append]
  rfl
theorem loadL_up (l : List W3) : ∀ a, Up a → a.length ≤ 4096 → Up (loadL a l) ∧ (loadL a l).length ≤ 4096 := by
  induction l with
  | nil => exact fun a h1 h2 => ⟨h1, h2⟩
  | cons x r ih => exact fun a h1 h2 => ih (putL a x) (up_put h1 x) (putL_len x h2)

/-- what Load leaves -/
def Loaded (w : World) (l : List W3) (e : Ending) (w' : World) : Prop :=
  (loadE [] l ≠ 0 ∧ e = .returned (.tuple #[.pointer none, .int .i64 (loadE [] l)])) ∨ (loadE [] l = 0 ∧ ∃ b base ao cap, e = .returned (.tuple #[.pointer (some ⟨b, 0, none⟩), .int .i64 0]) ∧ w.heap.size ≤ b ∧ base ≤ w'.heap.size ∧ Que base w' b (.slice ao (loadL [] l).length cap) (loadL [] l))

set_option maxHeartbeats 1000000 in
theorem load_any (P : Nat → Prop) (v : Value) (l : List W3) (w : World) (hx : Lst P w v l) (hl : l.length ≤ 4611686018427387903) :
    Calls Try.prog 13 #[v] w fun e w' => Loaded w l e w' ∧ Ch NoB w w' := by
  obtain ⟨ao, cap, rfl⟩ := hx.form
  obtain ⟨n, hn⟩ : ∃ n, n = l.length := ⟨_, rfl⟩
  rw [← hn] at hl hx ⊢
  have HX := hid hx
  have HN := hid hn
  clear hx hn
  go_enter Try.func13, Try.ntmps13
  go_wp2_with fail
  refine (new_any _).mono ?_
  rintro e w1 ⟨b, rfl, hb, q1, g1⟩
  have HQ1 := hid (Que.new q1)
  have HG1 := hid g1
  have HX1 := hid (HX.out.ch g1 (fun _ _ _ => noB _))
  have hs1 := g1.size
  clear q1 g1
  go_wp2_with fail
  go_loopg [11] n (fun m i wr => ∃ j vq, j + m = n ∧ i = .int .i64 ((j : Nat) : Int) ∧ loadE [] l = loadE (loadL [] (l.take j)) (l.drop j) ∧ Que w1.heap.size wr b vq (loadL [] (l.take j)) ∧ Ch NoB w wr ∧ w1.heap.size ≤ wr.heap.size)
  case atStart => exact ⟨0, _, by omega, rfl, by rw [List.take_zero, List.drop_zero]; rfl, by rw [List.take_zero]; exact HQ1.out, HG1.out, Nat.le_refl _⟩
  case round =>
    obtain ⟨j, vq, hjk, rfl, hE, hq, hg, hsz⟩ := hrel
    obtain ⟨A, hA⟩ : ∃ A, A = loadL [] (l.take j) := ⟨_, rfl⟩
    have hup := loadL_up (l.take j) [] Up.nil (by simp)
    rw [← hA] at hE hq hup
    have HE := hid hE
    have HQ := hid hq
    have HG := hid hg
    have HA := hid hA
    have HUP := hid hup
    clear hE hq hg hA hup
    by_cases hj : j < n
    · obtain ⟨z, hz⟩ : ∃ z, l[j]? = some z := ⟨_, List.getElem?_eq_getElem (by rw [← HN.out]; exact hj)⟩
      obtain ⟨gb, o, rfl, _, hgl, a0, a1, a2⟩ := (HX.out.ch HG.out (fun _ _ _ => noB _)).get hz
      have j0 : (0 : Int) ≤ (j : Int) := by omega
      have j1 : (j : Int) < (n : Int) := by omega
      have HZ := hid hz
      clear hz
      have hst := loadE_step (a := A) HZ.out
      have hls := loadL_step (l := l) HZ.out
      rw [← HA.out] at hls
      rw [← HE.out] at hst
      have HST := hid hst
      have HLS := hid hls
      clear hst hls
      go_wp2_with fail
      refine (put_any w1.heap.size b vq A z _ (HQ.out.alloc _) HUP.out.1 (by simp; omega)).mono ?_
      rintro e w2 ⟨rfl, l2⟩
      obtain ⟨ao2, c2, h2, g2, b2⟩ := l2.que
      have hs2 := g2.size
      simp only [World.size_alloc] at hs2
      have HQ2 := hid h2
      have HG2 := hid ((HG.out.alloc _).trans g2 (fun q e => .inr (by rcases e with e | e; omega; have := (HQ.out.2.1.blk e).1; omega)))
      clear l2 h2 g2 b2
      by_cases hp : putE A z = 0
      · have hst' := HST.out
        rw [if_pos hp] at hst'
        have HST2 := hid hst'
        rw [hp]
        clear hst' hp
        go_wp2
        go_roundg (gk - 1)
        case measure => omega
        case rel => exact ⟨j + 1, _, by omega, by simp, by rw [HLS.out]; exact HST2.out, by rw [HLS.out]; exact HQ2.out, HG2.out, by omega⟩
      · have hst' := HST.out
        rw [if_neg hp] at hst'
        have hpb : (putE A z == 0) = false := by simp; exact hp
        have HST2 := hid hst'
        have HP := hid hp
        clear hst'
        go_wp2
        exact bodyPost_ret (v := .tuple #[.pointer none, .int .i64 (putE A z)]) (by simp [results, Try.results13, go_sem]) rfl ⟨.inl ⟨by rw [HST2.out]; exact HP.out, by rw [HST2.out]⟩, HG2.out⟩
    · have hdr : l.drop j = [] := List.drop_of_length_le (by rw [← HN.out]; omega)
      have htk : l.take j = l := List.take_of_length_le (by rw [← HN.out]; omega)
      have hE' := HE.out
      have hA' := HA.out
      rw [hdr] at hE'
      rw [htk] at hA'
      obtain ⟨ao2, c2, rfl⟩ := HQ.out.2.1.form
      have HE2 := hid hE'
      have HA2 := hid hA'
      clear hE' hA' hdr htk
      go_wp2
      exact bodyPost_ret (v := .tuple #[.pointer (some ⟨b, 0, none⟩), .int .i64 0]) (by simp [results, Try.results13, go_sem]) rfl ⟨.inr ⟨HE2.out, b, w1.heap.size, ao2, c2, rfl, hb, hsz, by rw [← HA2.out]; exact HQ.out⟩, HG.out⟩

/-- what the document's Load leaves -/
def RLoaded (w : World) (l : List W3) (e : Ending) (w' : World) : Prop :=
  (loadE [] l ≠ 0 ∧ e = .returned (.tuple #[.slice none 0 0, .int .i64 (loadE [] l)])) ∨ (loadE [] l = 0 ∧ ∃ ao cap, e = .returned (.tuple #[.slice ao (loadL [] l).length cap, .int .i64 0]) ∧ Lst (w.heap.size ≤ ·) w' (.slice ao (loadL [] l).length cap) (loadL [] l))

set_option maxHeartbeats 1000000 in
theorem rload_any (P : Nat → Prop) (v : Value) (l : List W3) (w : World) (hx : Lst P w v l) (hl : l.length ≤ 4611686018427387903) :
    Calls Try.prog 14 #[v] w fun e w' => RLoaded w l e w' ∧ Ch NoB w w' := by
  obtain ⟨ao, cap, rfl⟩ := hx.form
  obtain ⟨n, hn⟩ : ∃ n, n = l.length := ⟨_, rfl⟩
  rw [← hn] at hl hx ⊢
  have HX := hid hx
  have HN := hid hn
  clear hx hn
  go_enter Try.func14, Try.ntmps14
  go_wp2_with fail
  go_loopg [4, 5, 6] n (fun m qv ev i wr => ∃ j la ao' c', j + m = n ∧ i = .int .i64 ((j : Nat) : Int) ∧ ev = .int .i64 0 ∧ qv = .slice ao' la c' ∧ loadE [] l = loadE (loadL [] (l.take j)) (l.drop j) ∧ Lst (w.heap.size ≤ ·) wr (.slice ao' la c') (loadL [] (l.take j)) ∧ Ch NoB w wr)
  case atStart => exact ⟨0, 0, _, _, by omega, rfl, rfl, rfl, by rw [List.take_zero, List.drop_zero]; rfl, by rw [List.take_zero]; exact (Own.lit w).lst, (Ch.refl _ _).alloc _⟩
  case round =>
    obtain ⟨j, la, ao', c', hjk, rfl, rfl, rfl, hE, hq, hg⟩ := hrel
    obtain ⟨A, hA⟩ : ∃ A, A = loadL [] (l.take j) := ⟨_, rfl⟩
    have hup := loadL_up (l.take j) [] Up.nil (by simp)
    rw [← hA] at hE hq hup
    have HE := hid hE
    have HQ := hid hq
    have HG := hid hg
    have HA := hid hA
    have HUP := hid hup
    have hsz := hg.size
    clear hE hq hg hA hup
    by_cases hj : j < n
    · obtain ⟨z, hz⟩ : ∃ z, l[j]? = some z := ⟨_, List.getElem?_eq_getElem (by rw [← HN.out]; exact hj)⟩
      obtain ⟨gb, o, rfl, _, hgl, a0, a1, a2⟩ := (HX.out.ch HG.out (fun _ _ _ => noB _)).get hz
      have j0 : (0 : Int) ≤ (j : Int) := by omega
      have j1 : (j : Int) < (n : Int) := by omega
      have HZ := hid hz
      clear hz
      have hst := loadE_step (a := A) HZ.out
      have hls := loadL_step (l := l) HZ.out
      rw [← HA.out] at hls
      rw [← HE.out] at hst
      have HST := hid hst
      have HLS := hid hls
      clear hst hls
      go_wp2_with fail
      refine (rput_any _ _ A z _ HQ.out HUP.out.2 HUP.out.1).mono ?_
      rintro e w2 ⟨ao2, c2, rfl, h2, g2⟩
      have HQ2 := hid (h2.mono (Q := (w.heap.size ≤ ·)) (fun q _ h => h.elim id (fun h => Nat.le_trans hsz h)))
      have HG2 := hid (HG.out.trans' g2)
      clear h2 g2
      by_cases hp : putE A z = 0
      · have hst' := HST.out
        rw [if_pos hp] at hst'
        have HST2 := hid hst'
        rw [hp]
        clear hst' hp
        go_wp2
        go_roundg (gk - 1)
        case measure => omega
        case rel => exact ⟨j + 1, _, _, _, by omega, by simp, rfl, rfl, by rw [HLS.out]; exact HST2.out, by rw [HLS.out]; exact HQ2.out, HG2.out⟩
      · have hst' := HST.out
        rw [if_neg hp] at hst'
        have hpb : (putE A z == 0) = false := by simp; exact hp
        have HST2 := hid hst'
        have HP := hid hp
        clear hst'
        go_wp2
        exact bodyPost_ret (v := .tuple #[.slice none 0 0, .int .i64 (putE A z)]) (by simp [results, Try.results14, go_sem]) rfl ⟨.inl ⟨by rw [HST2.out]; exact HP.out, by rw [HST2.out]⟩, HG2.out⟩
    · have hdr : l.drop j = [] := List.drop_of_length_le (by rw [← HN.out]; omega)
      have htk : l.take j = l := List.take_of_length_le (by rw [← HN.out]; omega)
      have hE' := HE.out
      have hA' := HA.out
      rw [hdr] at hE'
      rw [htk] at hA'
      have hla : la = A.length := by
        obtain ⟨a1, a2, a3⟩ := HQ.out.form
        injection a3 with a3 a4 a5
      have HLA := hid hla
      have HE2 := hid hE'
      have HA2 := hid hA'
      clear hE' hA' hdr htk hla
      go_wp2
      exact bodyPost_ret (v := .tuple #[.slice ao' la c', .int .i64 0]) (by simp [results, Try.results14, go_sem]) rfl ⟨.inr ⟨HE2.out, ao', c', by rw [← HA2.out, ← HLA.out], by rw [← HA2.out, ← HLA.out]; exact HQ.out⟩, HG.out⟩
end Go.Proofs.Ytphohfafehjafaa.Ff
