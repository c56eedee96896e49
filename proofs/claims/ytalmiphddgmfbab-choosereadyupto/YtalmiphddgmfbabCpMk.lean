/-
  What the program's Make, Len, Cap and Goes of layer 11 answer, and what Make leaves. Condition: there are at most 1024 channels.
-/
import Derived.Test.YtalmiphddgmfbabCpSm
namespace Go.Proofs.Ytalmiphddgmfbab.Lt
open Go.RowKit Wd
attribute [local go_sem ↓] Go.wp_at_zero Go.wp_at_succ

theorem find_not {t : Nat → Tg} {w : World} {b : Nat} {cs : List Cn} (h : Cs t w b cs) (ch : Int) (hc : ¬ (1 ≤ ch ∧ ch ≤ (cs.length : Int))) : Calls Try.prog 26 #[.pointer (some ⟨b, 0, none⟩), .int .i64 ch] w fun e w' => e = .returned (.tuple #[.pointer none, .int .i64 (if ch = 0 then 0 else 4)]) ∧ w' = w := by
  obtain ⟨k, v, xs, M, clock, h⟩ := h
  obtain ⟨ao, ca, e⟩ := h.nl.o.form
  have h1 := h.me
  rw [e, h.nl.n] at h1
  by_cases h0 : ch = 0
  · subst h0
    exact find_zero h1
  · rw [if_neg h0]
    exact find_no h1 ch (by omega)
theorem eRx_one (x : Int) : ∀ u ∈ [Rw.mk x (.slice none 0 0) (.slice none 0 0) (.slice none 0 0) false].flatMap eR, u.oneCell' = true := by
  intro u hu
  simp [eR] at hu
  rcases hu with rfl | rfl | rfl <;> rfl
theorem plA_snoc (s g : Int) (c : Cn) : ∀ (i : Nat) (cs : List Cn), plA s g i (cs ++ [c]) = plA s g i cs ++ List.replicate (c.pl s g) ((i + cs.length + 1 : Nat) : Int)
  | i, [] => by simp [plA]
  | i, d :: r => by rw [List.cons_append, plA, plA_snoc s g c (i + 1) r, plA, List.append_assoc, List.length_cons]; congr 3; simp; omega
theorem Pm.to {t t' : Nat → Tg} {w w' : World} {k : Nat} {M : List Me} {clock : Nat} {cs cs' : List Cn} {S : Nat → Prop} (h : Pm t w k M clock cs) (tk : t k = .mp) (c : Ch S w w') (hS : ∀ q, q < w.heap.size → S q → (t q).k ≠ 3 ∧ (t q).k ≠ 7) (ht : ∀ q, q < w.heap.size → (t q).k = 7 → t' q = t q) (hp : ∀ s g, plA s g 0 cs' = plA s g 0 cs) : Pm t' w' k M clock cs' :=
  ⟨h.at_.ch c (fun hs => (hS k h.at_.lt hs).1 (by rw [tk])), h.ok, h.one, fun e he => by
    obtain ⟨hs, h1, h2, h3⟩ := h.f e he
    exact ⟨hs, h1.ch c (fun q hq hs => (hS q (h1.blk hq).2 hs).2 (by rw [h2 q hq])), fun q hq => (ht q (h1.blk hq).2 (by rw [h2 q hq])).trans (h2 q hq), by rw [hp]; exact h3⟩,
    fun s g hn => by rw [← plA_len s g 0, hp, plA_len]; exact h.no s g hn, h.st⟩
theorem make_no {t : Nat → Tg} {w : World} {b : Nat} {cs : List Cn} (h : Cs t w b cs) (x : Int) (hx : ¬ (0 ≤ x ∧ x ≤ 1024 ∧ cs.length < 1024)) : Calls Try.prog 13 #[.pointer (some ⟨b, 0, none⟩), .int .i64 x] w fun e w' => e = .returned (.tuple #[.int .i64 0, .int .i64 5]) ∧ w' = w := by
  obtain ⟨k, v, xs, M, clock, h⟩ := h
  have HG := hid (given_any h.me)
  obtain ⟨ao, ca, e⟩ := h.nl.o.form
  have c0 := cell_of h.me 0
  rw [e, h.nl.n] at c0
  simp at c0
  generalize cs.length = n at hx c0
  clear h e
  by_cases h0 : x < 0
  · clear hx
    go_enter Try.func13, Try.ntmps13
    go_wp2_with (go_at_call 27; refine HG.out.mono ?_; rintro e w1 ⟨rfl, hw⟩; obtain rfl := hw.symm; clear hw)
    exact bodyPost_ret (v := .tuple #[.int .i64 0, .int .i64 5]) (by simp [results, Try.results13, go_sem]) rfl ⟨rfl, rfl⟩
  · by_cases h1 : 1024 < x
    · clear hx
      go_enter Try.func13, Try.ntmps13
      go_wp2_with (go_at_call 27; refine HG.out.mono ?_; rintro e w1 ⟨rfl, hw⟩; obtain rfl := hw.symm; clear hw)
      exact bodyPost_ret (v := .tuple #[.int .i64 0, .int .i64 5]) (by simp [results, Try.results13, go_sem]) rfl ⟨rfl, rfl⟩
    · have h2 : (1024 : Int) ≤ (n : Int) := by omega
      clear hx
      go_enter Try.func13, Try.ntmps13
      go_wp2_with (go_at_call 27; refine HG.out.mono ?_; rintro e w1 ⟨rfl, hw⟩; obtain rfl := hw.symm; clear hw)
      exact bodyPost_ret (v := .tuple #[.int .i64 0, .int .i64 5]) (by simp [results, Try.results13, go_sem]) rfl ⟨rfl, rfl⟩
/-- one more channel -/
def MmR (t : Nat → Tg) (w : World) (b : Nat) (cs : List Cn) (x : Int) (e : Ending) (w' : World) : Prop := e = .returned (.tuple #[.int .i64 ((cs.length + 1 : Nat) : Int), .int .i64 0]) ∧ ∃ t', Cs t' w' b (cs ++ [⟨x, [], [], [], false⟩]) ∧ Tn t t' w w'
open Classical in
set_option maxRecDepth 20000 in
set_option maxHeartbeats 2000000 in
theorem make_yes {t : Nat → Tg} {w : World} {b : Nat} {cs : List Cn} (h : Cs t w b cs) (x : Int) (hx : 0 ≤ x ∧ x ≤ 1024 ∧ cs.length < 1024) : Calls Try.prog 13 #[.pointer (some ⟨b, 0, none⟩), .int .i64 x] w (MmR t w b cs x) := by
  obtain ⟨k, v, xs, M, clock, h⟩ := h
  have HG := hid (given_any h.me)
  obtain ⟨ao, ca, e⟩ := h.nl.o.form
  rw [h.nl.n] at e
  subst e
  have HC := hid h
  have c0 := cell_of h.me 0
  simp at c0
  obtain ⟨n, hn⟩ : ∃ n, n = cs.length := ⟨_, rfl⟩
  have HN := hid hn
  have d0 : ¬ x < 0 := by omega
  have d1 : ¬ (1024 : Int) < x := by omega
  have d2 : ¬ (1024 : Int) ≤ (n : Int) := by omega
  have HN2 := hid (show n < 1024 from by omega)
  rw [← hn] at c0 HC
  clear h hn hx
  unfold MmR
  rw [← HN.out]
  go_enter Try.func13, Try.ntmps13
  go_wp2_with (first
    | (go_at_call 27; refine HG.out.mono ?_; rintro e w1 ⟨rfl, hw⟩; obtain rfl := hw.symm; clear hw)
    | (at_builtin; refine wpList_append_ow eR_len rfl (.tmp 27) (.tmp 30) _ 70 88 _ Try.underlying22 chn_info rfl (by omega) rfl 0 _ xs rfl (HC.out.nl.o.alloc _) _ _ [Rw.mk x (.slice none 0 0) (.slice none 0 0) (.slice none 0 0) false] rfl (Ls.single w (Rw.mk x (.slice none 0 0) (.slice none 0 0) (.slice none 0 0) false) 70 #[.int .i64 x, .slice none 0 0, .slice none 0 0, .slice none 0 0, .bool false] rfl) (eRx_one x) (n + 1) (by rw [HC.out.nl.n, ← HN.out]; rfl) (by have := HN2.out; omega) (by unfold maxLen; have := HN2.out; omega) (Nat.zero_le _) (xs ++ [Rw.mk x (.slice none 0 0) (.slice none 0 0) (.slice none 0 0) false]) rfl ?_; intro a9 c9 w9 ow9 cw9 bl9; have O9 := hid ow9; have C9 := hid cw9; have B9 := hid bl9; have b9 := (cw9.block b (lt_of_block (al_blk HC.out.me _)) (fun hq => (by have e1 := HC.out.nl.to b hq; rw [HC.out.tb] at e1; cases e1))).trans (al_blk HC.out.me _); have M9 := hid b9; have p0 := cell_of b9 0; have f0 := frozen_of b9 0; have l0 := lt_of_block b9; simp at p0; clear ow9 cw9 bl9 b9))
  refine bodyPost_ret (v := .tuple #[.int .i64 ((n + 1 : Nat) : Int), .int .i64 0]) (by simp [results, Try.results13, go_sem]) rfl ⟨rfl, ?_⟩
  clear c0 p0 f0 l0 d0 d1 d2 HG
  have H := HC.out
  have hbv : ∀ q, Blk (.slice ao n ca) q → t q = .out := H.nl.to
  obtain ⟨t1, ht1, nl1⟩ := H.nl.snoc (c := ⟨x, [], [], [], false⟩) (x := Rw.mk x (.slice none 0 0) (.slice none 0 0) (.slice none 0 0) false) (Ch.alloc (Gr.refl w) _) rfl rfl (Ow.nil _ _ _ _ _) (Ow.nil _ _ _ _ _) (Ow.nil _ _ _ _ _) (fun q hq => by cases hq) (fun q hq => by cases hq) (fun q hq => by cases hq) O9.out C9.out B9.out
  have hold : ∀ q, q < w.heap.size → Blk (.slice a9 (n + 1) c9) q → Blk (.slice ao n ca) q := fun q hq hb => by
    rcases B9.out q hb with h2 | h2
    · exact h2
    · simp at h2; omega
  have hb9 : ¬ Blk (.slice a9 (n + 1) c9) b := fun hq => by
    have e1 := hbv b (hold b (lt_of_block H.me) hq)
    rw [H.tb] at e1
    cases e1
  have kb : Ch (Only b) w9 (w9.setCell ⟨b, 0, none⟩ (.slice a9 (n + 1) c9)) := Ch.own (Ch.refl _ _) _ _
  have kt : Ch (fun q => t q = .out ∨ t q = .me) w (w9.setCell ⟨b, 0, none⟩ (.slice a9 (n + 1) c9)) :=
    ((Ch.alloc (Ch.refl _ w) _).trans C9.out (fun q hq => .inl (.inl (hbv q hq)))).trans kb (fun q hq => .inl (.inr (by have e : q = b := hq; rw [e]; exact H.tb)))
  refine ⟨fun q => if Blk (.slice a9 (n + 1) c9) q then .out else t q, ⟨k, .slice a9 (n + 1) c9, xs ++ [Rw.mk x (.slice none 0 0) (.slice none 0 0) (.slice none 0 0) false], M, clock, ⟨?_, (if_neg hb9).trans H.tb, ?_, ?_, ?_, ?_⟩⟩, ⟨kt.mono (fun q hq => .inl (by rcases hq with hq | hq <;> rw [hq] <;> exact fun e => by cases e)), fun q hq e => ?_⟩⟩
  · have := setCell_block M9.out 0 (.slice a9 (n + 1) c9)
    simpa using this
  · refine (if_neg (fun hq => ?_)).trans H.tk
    have e1 := hbv k (hold k H.mp.at_.lt hq)
    rw [H.tk] at e1
    cases e1
  · refine NL.ch (NL.retag nl1 (fun q hq => ?_)) kb (fun q hq => ?_)
    · by_cases hb : Blk (.slice a9 (n + 1) c9) q
      · exact (if_pos hb).trans (nl1.to q hb).symm
      · refine (if_neg hb).trans ?_
        rcases hq with hq | ⟨i, y, hy, hq⟩
        · exact (hb hq).elim
        · by_cases hi : i < xs.length
          · rw [List.getElem?_append_left hi] at hy
            obtain ⟨d, hd⟩ : ∃ d, cs[i]? = some d := ⟨_, List.getElem?_eq_getElem (by rw [← H.nl.n]; exact hi)⟩
            have yo := H.nl.f i y d hy hd
            refine (ht1 q ?_).symm
            rcases hq with hq | hq | hq
            · exact (yo.v.blk hq).2
            · exact (yo.s.blk hq).2
            · exact (yo.r.blk hq).2
          · rw [List.getElem?_append_right (by omega)] at hy
            have e1 : i - xs.length = 0 := by
              rcases Nat.eq_zero_or_pos (i - xs.length) with e | e
              · exact e
              · rw [List.getElem?_eq_none (by simp; omega)] at hy; cases hy
            rw [e1, List.getElem?_cons_zero] at hy
            injection hy with hy
            subst hy
            rcases hq with hq | hq | hq <;> cases hq
    · have e : q = b := hq
      rw [e]
      show ¬ (if Blk (.slice a9 (n + 1) c9) b then Tg.out else t b).in_
      rw [if_neg hb9, H.tb]
      decide
  · refine H.mp.to H.tk kt (fun q _ hq => ?_) (fun q hq h7 => ?_) (fun s g => ?_)
    · rcases hq with hq | hq <;> rw [hq] <;> decide
    · exact if_neg (fun hb => by have e1 := hbv q (hold q hq hb); rw [e1] at h7; cases h7)
    · rw [plA_snoc]
      simp [Cn.pl, Lt.wo]
  · intro q hq
    by_cases hb : Blk (.slice a9 (n + 1) c9) q
    · have := (O9.out.blk hb).2
      simpa [World.setCell] using this
    · rw [if_neg hb] at hq
      exact Nat.lt_of_lt_of_le (H.hi q hq) kt.size
  · exact (if_neg (fun hb => by have e1 := hbv q (hold q hq hb); rw [e] at e1; cases e1)).trans e
theorem len_yes {t : Nat → Tg} {w : World} {b i : Nat} {cs : List Cn} {c : Cn} (h : Cs t w b cs) (hc : cs[i]? = some c) (hn : cs.length ≤ 1024) : Calls Try.prog 25 #[.pointer (some ⟨b, 0, none⟩), .int .i64 ((i : Int) + 1)] w fun e w' => e = .returned (.tuple #[.int .i64 (c.vs.length : Nat), .int .i64 0]) ∧ w' = w := by
  obtain ⟨k, v, xs, M, clock, h⟩ := h
  obtain ⟨gO, ca, x, rfl, -, hx, ho, h5⟩ := h.nl.at hc
  have HF := hid (find_yes h.me i (List.getElem?_eq_some_iff.1 hc).1 hn)
  obtain ⟨vo, vk, ev⟩ := ho.v.form
  have c0 := h5.c0
  have c1 := h5.c1
  rw [ho.cap] at c0
  rw [ev] at c1
  generalize c.vs.length = vn at c1 ⊢
  generalize c.cap = cp at c0 ⊢
  clear h hc hn hx ho h5 ev
  go_enter Try.func25, Try.ntmps25
  go_wp2_with (go_at_call 26; refine HF.out.mono ?_; rintro e w1 ⟨rfl, hw⟩; obtain rfl := hw.symm; clear hw)
  exact bodyPost_ret (v := .tuple #[.int .i64 vn, .int .i64 0]) (by simp [results, Try.results25, go_sem]) rfl ⟨rfl, rfl⟩
theorem len_no {t : Nat → Tg} {w : World} {b : Nat} {cs : List Cn} (h : Cs t w b cs) (ch : Int) (hc : ¬ (1 ≤ ch ∧ ch ≤ (cs.length : Int))) : Calls Try.prog 25 #[.pointer (some ⟨b, 0, none⟩), .int .i64 ch] w fun e w' => e = .returned (.tuple #[.int .i64 0, .int .i64 (if ch = 0 then 0 else 4)]) ∧ w' = w := by
  have HF := hid (find_not h ch hc)
  generalize (if ch = 0 then (0 : Int) else 4) = tr at HF ⊢
  clear h hc
  go_enter Try.func25, Try.ntmps25
  go_wp2_with (go_at_call 26; refine HF.out.mono ?_; rintro e w1 ⟨rfl, hw⟩; obtain rfl := hw.symm; clear hw)
  exact bodyPost_ret (v := .tuple #[.int .i64 0, .int .i64 tr]) (by simp [results, Try.results25, go_sem]) rfl ⟨rfl, rfl⟩
theorem goes_no {t : Nat → Tg} {w : World} {b : Nat} {cs : List Cn} (h : Cs t w b cs) (ch : Int) (sd : Bool) (hc : ¬ (1 ≤ ch ∧ ch ≤ (cs.length : Int))) : Calls Try.prog 9 #[.pointer (some ⟨b, 0, none⟩), .int .i64 ch, .bool sd] w fun e w' => e = .returned (.tuple #[.bool false, .int .i64 (if ch = 0 then 0 else 4)]) ∧ Gr w w' := by
  have HF := hid (find_not h ch hc)
  generalize (if ch = 0 then (0 : Int) else 4) = tr at HF ⊢
  clear h hc
  go_enter Try.func9, Try.ntmps9
  go_wp2_with (go_at_call 26; refine HF.out.mono ?_; rintro e w1 ⟨rfl, hw⟩; obtain rfl := hw.symm; clear hw)
  exact bodyPost_ret (v := .tuple #[.bool false, .int .i64 tr]) (by simp [results, Try.results9, go_sem]) rfl ⟨rfl, Gr.refl _⟩
set_option maxRecDepth 20000 in
set_option maxHeartbeats 4000000 in
theorem goes_yes {t : Nat → Tg} {w : World} {b i : Nat} {cs : List Cn} {c : Cn} (h : Cs t w b cs) (hc : cs[i]? = some c) (hn : cs.length ≤ 1024) (sd : Bool) : Calls Try.prog 9 #[.pointer (some ⟨b, 0, none⟩), .int .i64 ((i : Int) + 1), .bool sd] w fun e w' => e = .returned (.tuple #[.bool (goes c sd), .int .i64 0]) ∧ Gr w w' := by
  obtain ⟨k, v, xs, M, clock, h⟩ := h
  obtain ⟨gO, ca, x, rfl, -, hx, ho, h5⟩ := h.nl.at hc
  have HF := hid (find_yes h.me i (List.getElem?_eq_some_iff.1 hc).1 hn)
  obtain ⟨vo, vk, ev⟩ := ho.v.form
  obtain ⟨so, sk, es⟩ := ho.s.form
  obtain ⟨ro, rk, er⟩ := ho.r.form
  have c0 := h5.c0
  have c1 := h5.c1
  have c2 := h5.c2
  have c3 := h5.c3
  have c4 := h5.c4
  rw [ho.cap] at c0
  rw [ev] at c1
  rw [es] at c2
  rw [er] at c3
  rw [ho.cl] at c4
  unfold goes
  generalize c.vs.length = vn at c1 ⊢
  generalize c.ss.length = sn at c2 ⊢
  generalize c.rs.length = rn at c3 ⊢
  generalize c.cap = cp at c0 ⊢
  generalize c.cl = cl at c4 ⊢
  clear h hc hn hx ho h5 ev es er
  cases sd with
  | true =>
    cases cl with
    | true =>
      rw [if_pos rfl]
      go_enter Try.func9, Try.ntmps9
      go_wp2_with (go_at_call 26; refine HF.out.mono ?_; rintro e w1 ⟨rfl, hw⟩; obtain rfl := hw.symm; clear hw)
      refine wp_region_any (by kernel_rfl) ?_
      change wpAny _ _ _ _ _ _ _ (World.drew _)
      refine held_here ?_
      refine takeW_on (i := 0) 20 (v := ?v1) rfl rfl (by kernel_rfl) (by kernel_rfl) (by kernel_rfl) (fun _ _ _ h => h) (by kernel_rfl) ?hy1 ?_
      case hy1 => (go_simp; try (with_reducible rfl))
      simp only [Act.put, List.setIfInBounds_toArray, List.set_cons_zero, List.set_cons_succ]
      refine takeW_on (i := 1) 21 (v := ?v2) rfl rfl (by kernel_rfl) (by kernel_rfl) (by kernel_rfl) (fun _ _ _ h => h) (by kernel_rfl) ?hy2 ?_
      case hy2 => (go_simp; try (with_reducible rfl))
      simp only [Act.put, List.setIfInBounds_toArray, List.set_cons_zero, List.set_cons_succ]
      refine takeW_on (i := 2) 22 (v := ?v3) rfl rfl (by kernel_rfl) (by kernel_rfl) (by kernel_rfl) (fun _ _ _ h => h) (by kernel_rfl) ?hy3 ?_
      case hy3 => (go_simp; try (with_reducible rfl))
      simp only [Act.put, List.setIfInBounds_toArray, List.set_cons_zero, List.set_cons_succ]
      refine takeW_on (i := 3) 23 (v := ?v4) rfl rfl (by kernel_rfl) (by kernel_rfl) (by kernel_rfl) (fun _ _ _ h => h) (by kernel_rfl) ?hy4 ?_
      case hy4 => (go_simp; try (with_reducible rfl))
      simp only [Act.put, List.setIfInBounds_toArray, List.set_cons_zero, List.set_cons_succ]
      refine takeW_on (i := 4) 24 (v := ?v5) rfl rfl (by kernel_rfl) (by kernel_rfl) (by kernel_rfl) (fun _ _ _ h => h) (by kernel_rfl) ?hy5 ?_
      case hy5 => (go_simp; try (with_reducible rfl))
      simp only [Act.put, List.setIfInBounds_toArray, List.set_cons_zero, List.set_cons_succ]
      refine skipW_on (i := 5) 25 rfl rfl (by kernel_rfl) (by kernel_rfl) (by kernel_rfl) (fun _ _ _ h => h) (by kernel_rfl) ?_
      simp only [Act.put, List.setIfInBounds_toArray, List.set_cons_zero, List.set_cons_succ]
      refine skipW_on (i := 6) 26 rfl rfl (by kernel_rfl) (by kernel_rfl) (by kernel_rfl) (fun _ _ _ h => h) (by kernel_rfl) ?_
      simp only [Act.put, List.setIfInBounds_toArray, List.set_cons_zero, List.set_cons_succ]
      refine skipW_on (i := 7) 27 rfl rfl (by kernel_rfl) (by kernel_rfl) (by kernel_rfl) (fun _ _ _ h => h) (by kernel_rfl) ?_
      simp only [Act.put, List.setIfInBounds_toArray, List.set_cons_zero, List.set_cons_succ]
      refine skipW_on (i := 8) 28 rfl rfl (by kernel_rfl) (by kernel_rfl) (by kernel_rfl) (fun _ _ _ h => h) (by kernel_rfl) ?_
      simp only [Act.put, List.setIfInBounds_toArray, List.set_cons_zero, List.set_cons_succ]
      refine skipW_on (i := 9) 29 rfl rfl (by kernel_rfl) (by kernel_rfl) (by kernel_rfl) (fun _ _ _ h => h) (by kernel_rfl) ?_
      simp only [Act.put, List.setIfInBounds_toArray, List.set_cons_zero, List.set_cons_succ]
      refine skipW_on (i := 10) 30 rfl rfl (by kernel_rfl) (by kernel_rfl) (by kernel_rfl) (fun _ _ _ h => h) (by kernel_rfl) ?_
      simp only [Act.put, List.setIfInBounds_toArray, List.set_cons_zero, List.set_cons_succ]
      refine takeW_on (i := 11) 31 (v := ?v12) rfl rfl (by kernel_rfl) (by kernel_rfl) (by kernel_rfl) (fun _ _ _ h => h) (by kernel_rfl) ?hy12 ?_
      case hy12 => (go_simp; try (with_reducible rfl))
      simp only [Act.put, List.setIfInBounds_toArray, List.set_cons_zero, List.set_cons_succ]
      refine takeW_on (i := 12) 32 (v := ?v13) rfl rfl (by kernel_rfl) (by kernel_rfl) (by kernel_rfl) (fun _ _ _ h => h) (by kernel_rfl) ?hy13 ?_
      case hy13 => (go_simp; try (with_reducible rfl))
      simp only [Act.put, List.setIfInBounds_toArray, List.set_cons_zero, List.set_cons_succ]
      refine skipW_on (i := 13) 33 rfl rfl (by kernel_rfl) (by kernel_rfl) (by kernel_rfl) (fun _ _ _ h => h) (by kernel_rfl) ?_
      simp only [Act.put, List.setIfInBounds_toArray, List.set_cons_zero, List.set_cons_succ]
      refine skipW_on (i := 14) 34 rfl rfl (by kernel_rfl) (by kernel_rfl) (by kernel_rfl) (fun _ _ _ h => h) (by kernel_rfl) ?_
      simp only [Act.put, List.setIfInBounds_toArray, List.set_cons_zero, List.set_cons_succ]
      refine skipW_on (i := 15) 35 rfl rfl (by kernel_rfl) (by kernel_rfl) (by kernel_rfl) (fun _ _ _ h => h) (by kernel_rfl) ?_
      simp only [Act.put, List.setIfInBounds_toArray, List.set_cons_zero, List.set_cons_succ]
      refine skipW_on (i := 16) 36 rfl rfl (by kernel_rfl) (by kernel_rfl) (by kernel_rfl) (fun _ _ _ h => h) (by kernel_rfl) ?_
      simp only [Act.put, List.setIfInBounds_toArray, List.set_cons_zero, List.set_cons_succ]
      refine skipW_on (i := 17) 37 rfl rfl (by kernel_rfl) (by kernel_rfl) (by kernel_rfl) (fun _ _ _ h => h) (by kernel_rfl) ?_
      simp only [Act.put, List.setIfInBounds_toArray, List.set_cons_zero, List.set_cons_succ]
      refine skipW_on (i := 18) 38 rfl rfl (by kernel_rfl) (by kernel_rfl) (by kernel_rfl) (fun _ _ _ h => h) (by kernel_rfl) ?_
      simp only [Act.put, List.setIfInBounds_toArray, List.set_cons_zero, List.set_cons_succ]
      refine skipW_on (i := 19) 39 rfl rfl (by kernel_rfl) (by kernel_rfl) (by kernel_rfl) (fun _ _ _ h => h) (by kernel_rfl) ?_
      simp only [Act.put, List.setIfInBounds_toArray, List.set_cons_zero, List.set_cons_succ]
      refine skipW_on (i := 20) 40 rfl rfl (by kernel_rfl) (by kernel_rfl) (by kernel_rfl) (fun _ _ _ h => h) (by kernel_rfl) ?_
      simp only [Act.put, List.setIfInBounds_toArray, List.set_cons_zero, List.set_cons_succ]
      refine skipW_on (i := 21) 41 rfl rfl (by kernel_rfl) (by kernel_rfl) (by kernel_rfl) (fun _ _ _ h => h) (by kernel_rfl) ?_
      simp only [Act.put, List.setIfInBounds_toArray, List.set_cons_zero, List.set_cons_succ]
      refine skipW_on (i := 22) 42 rfl rfl (by kernel_rfl) (by kernel_rfl) (by kernel_rfl) (fun _ _ _ h => h) (by kernel_rfl) ?_
      simp only [Act.put, List.setIfInBounds_toArray, List.set_cons_zero, List.set_cons_succ]
      refine takeW_on (i := 23) 43 (v := ?v24) rfl rfl (by kernel_rfl) (by kernel_rfl) (by kernel_rfl) (fun _ _ _ h => h) (by kernel_rfl) ?hy24 ?_
      case hy24 => (go_simp; try (with_reducible rfl))
      simp only [Act.put, List.setIfInBounds_toArray, List.set_cons_zero, List.set_cons_succ]
      refine takeW_on (i := 24) 6 (v := ?v25) rfl rfl (by kernel_rfl) (by kernel_rfl) (by kernel_rfl) (fun _ _ _ h => h) (by kernel_rfl) ?hy25 ?_
      case hy25 => (go_simp; try (with_reducible rfl))
      simp only [Act.put, List.setIfInBounds_toArray, List.set_cons_zero, List.set_cons_succ]
      refine takeW_on (i := 25) 7 (v := ?v26) rfl rfl (by kernel_rfl) (by kernel_rfl) (by kernel_rfl) (fun _ _ _ h => h) (by kernel_rfl) ?hy26 ?_
      case hy26 => (go_simp; try (with_reducible rfl))
      simp only [Act.put, List.setIfInBounds_toArray, List.set_cons_zero, List.set_cons_succ]
      refine wpAnyH_done (by kernel_rfl) ?_ _
      go_wp2
      exact bodyPost_ret (v := .tuple #[.bool true, .int .i64 0]) (by simp [results, Try.results9, go_sem]) rfl ⟨rfl, Ch.drew (Gr.refl w)⟩
    | false =>
      rw [if_neg (by simp), if_pos rfl]
      by_cases hr : 0 < rn
      · rw [decide_eq_true hr, Bool.true_or]
        have hr' : (0 : Int) < (rn : Int) := by omega
        go_enter Try.func9, Try.ntmps9
        go_wp2_with (go_at_call 26; refine HF.out.mono ?_; rintro e w1 ⟨rfl, hw⟩; obtain rfl := hw.symm; clear hw)
        refine wp_region_any (by kernel_rfl) ?_
        change wpAny _ _ _ _ _ _ _ (World.drew _)
        refine held_here ?_
        refine takeW_on (i := 0) 20 (v := ?v27) rfl rfl (by kernel_rfl) (by kernel_rfl) (by kernel_rfl) (fun _ _ _ h => h) (by kernel_rfl) ?hy27 ?_
        case hy27 => (go_simp; try (with_reducible rfl))
        simp only [Act.put, List.setIfInBounds_toArray, List.set_cons_zero, List.set_cons_succ]
        refine takeW_on (i := 1) 21 (v := ?v28) rfl rfl (by kernel_rfl) (by kernel_rfl) (by kernel_rfl) (fun _ _ _ h => h) (by kernel_rfl) ?hy28 ?_
        case hy28 => (go_simp; try (with_reducible rfl))
        simp only [Act.put, List.setIfInBounds_toArray, List.set_cons_zero, List.set_cons_succ]
        refine takeW_on (i := 2) 22 (v := ?v29) rfl rfl (by kernel_rfl) (by kernel_rfl) (by kernel_rfl) (fun _ _ _ h => h) (by kernel_rfl) ?hy29 ?_
        case hy29 => (go_simp; try (with_reducible rfl))
        simp only [Act.put, List.setIfInBounds_toArray, List.set_cons_zero, List.set_cons_succ]
        refine takeW_on (i := 3) 23 (v := ?v30) rfl rfl (by kernel_rfl) (by kernel_rfl) (by kernel_rfl) (fun _ _ _ h => h) (by kernel_rfl) ?hy30 ?_
        case hy30 => (go_simp; try (with_reducible rfl))
        simp only [Act.put, List.setIfInBounds_toArray, List.set_cons_zero, List.set_cons_succ]
        refine takeW_on (i := 4) 24 (v := ?v31) rfl rfl (by kernel_rfl) (by kernel_rfl) (by kernel_rfl) (fun _ _ _ h => h) (by kernel_rfl) ?hy31 ?_
        case hy31 => (go_simp; try (with_reducible rfl))
        simp only [Act.put, List.setIfInBounds_toArray, List.set_cons_zero, List.set_cons_succ]
        refine takeW_on (i := 5) 25 (v := ?v32) rfl rfl (by kernel_rfl) (by kernel_rfl) (by kernel_rfl) (fun _ _ _ h => h) (by kernel_rfl) ?hy32 ?_
        case hy32 => (go_simp; try (with_reducible rfl))
        simp only [Act.put, List.setIfInBounds_toArray, List.set_cons_zero, List.set_cons_succ]
        refine takeW_on (i := 6) 26 (v := ?v33) rfl rfl (by kernel_rfl) (by kernel_rfl) (by kernel_rfl) (fun _ _ _ h => h) (by kernel_rfl) ?hy33 ?_
        case hy33 => (go_simp; try (with_reducible rfl))
        simp only [Act.put, List.setIfInBounds_toArray, List.set_cons_zero, List.set_cons_succ]
        refine takeW_on (i := 7) 27 (v := ?v34) rfl rfl (by kernel_rfl) (by kernel_rfl) (by kernel_rfl) (fun _ _ _ h => h) (by kernel_rfl) ?hy34 ?_
        case hy34 => (go_simp; try (with_reducible rfl))
        simp only [Act.put, List.setIfInBounds_toArray, List.set_cons_zero, List.set_cons_succ]
        refine takeW_on (i := 8) 28 (v := ?v35) rfl rfl (by kernel_rfl) (by kernel_rfl) (by kernel_rfl) (fun _ _ _ h => h) (by kernel_rfl) ?hy35 ?_
        case hy35 => (go_simp; try (with_reducible rfl))
        simp only [Act.put, List.setIfInBounds_toArray, List.set_cons_zero, List.set_cons_succ]
        refine takeW_on (i := 9) 29 (v := ?v36) rfl rfl (by kernel_rfl) (by kernel_rfl) (by kernel_rfl) (fun _ _ _ h => h) (by kernel_rfl) ?hy36 ?_
        case hy36 => (go_simp; try (with_reducible rfl))
        simp only [Act.put, List.setIfInBounds_toArray, List.set_cons_zero, List.set_cons_succ]
        refine takeW_on (i := 10) 30 (v := ?v37) rfl rfl (by kernel_rfl) (by kernel_rfl) (by kernel_rfl) (fun _ _ _ h => h) (by kernel_rfl) ?hy37 ?_
        case hy37 => (go_simp; try (with_reducible rfl))
        simp only [Act.put, List.setIfInBounds_toArray, List.set_cons_zero, List.set_cons_succ]
        refine takeW_on (i := 11) 31 (v := ?v38) rfl rfl (by kernel_rfl) (by kernel_rfl) (by kernel_rfl) (fun _ _ _ h => h) (by kernel_rfl) ?hy38 ?_
        case hy38 => (go_simp; try (with_reducible rfl))
        simp only [Act.put, List.setIfInBounds_toArray, List.set_cons_zero, List.set_cons_succ]
        refine takeW_on (i := 12) 32 (v := ?v39) rfl rfl (by kernel_rfl) (by kernel_rfl) (by kernel_rfl) (fun _ _ _ h => h) (by kernel_rfl) ?hy39 ?_
        case hy39 => (go_simp; try (with_reducible rfl))
        simp only [Act.put, List.setIfInBounds_toArray, List.set_cons_zero, List.set_cons_succ]
        refine skipW_on (i := 13) 33 rfl rfl (by kernel_rfl) (by kernel_rfl) (by kernel_rfl) (fun _ _ _ h => h) (by kernel_rfl) ?_
        simp only [Act.put, List.setIfInBounds_toArray, List.set_cons_zero, List.set_cons_succ]
        refine skipW_on (i := 14) 34 rfl rfl (by kernel_rfl) (by kernel_rfl) (by kernel_rfl) (fun _ _ _ h => h) (by kernel_rfl) ?_
        simp only [Act.put, List.setIfInBounds_toArray, List.set_cons_zero, List.set_cons_succ]
        refine skipW_on (i := 15) 35 rfl rfl (by kernel_rfl) (by kernel_rfl) (by kernel_rfl) (fun _ _ _ h => h) (by kernel_rfl) ?_
        simp only [Act.put, List.setIfInBounds_toArray, List.set_cons_zero, List.set_cons_succ]
        refine skipW_on (i := 16) 36 rfl rfl (by kernel_rfl) (by kernel_rfl) (by kernel_rfl) (fun _ _ _ h => h) (by kernel_rfl) ?_
        simp only [Act.put, List.setIfInBounds_toArray, List.set_cons_zero, List.set_cons_succ]
        refine skipW_on (i := 17) 37 rfl rfl (by kernel_rfl) (by kernel_rfl) (by kernel_rfl) (fun _ _ _ h => h) (by kernel_rfl) ?_
        simp only [Act.put, List.setIfInBounds_toArray, List.set_cons_zero, List.set_cons_succ]
        refine skipW_on (i := 18) 38 rfl rfl (by kernel_rfl) (by kernel_rfl) (by kernel_rfl) (fun _ _ _ h => h) (by kernel_rfl) ?_
        simp only [Act.put, List.setIfInBounds_toArray, List.set_cons_zero, List.set_cons_succ]
        refine skipW_on (i := 19) 39 rfl rfl (by kernel_rfl) (by kernel_rfl) (by kernel_rfl) (fun _ _ _ h => h) (by kernel_rfl) ?_
        simp only [Act.put, List.setIfInBounds_toArray, List.set_cons_zero, List.set_cons_succ]
        refine skipW_on (i := 20) 40 rfl rfl (by kernel_rfl) (by kernel_rfl) (by kernel_rfl) (fun _ _ _ h => h) (by kernel_rfl) ?_
        simp only [Act.put, List.setIfInBounds_toArray, List.set_cons_zero, List.set_cons_succ]
        refine skipW_on (i := 21) 41 rfl rfl (by kernel_rfl) (by kernel_rfl) (by kernel_rfl) (fun _ _ _ h => h) (by kernel_rfl) ?_
        simp only [Act.put, List.setIfInBounds_toArray, List.set_cons_zero, List.set_cons_succ]
        refine skipW_on (i := 22) 42 rfl rfl (by kernel_rfl) (by kernel_rfl) (by kernel_rfl) (fun _ _ _ h => h) (by kernel_rfl) ?_
        simp only [Act.put, List.setIfInBounds_toArray, List.set_cons_zero, List.set_cons_succ]
        refine takeW_on (i := 23) 43 (v := ?v50) rfl rfl (by kernel_rfl) (by kernel_rfl) (by kernel_rfl) (fun _ _ _ h => h) (by kernel_rfl) ?hy50 ?_
        case hy50 => (go_simp; try (with_reducible rfl))
        simp only [Act.put, List.setIfInBounds_toArray, List.set_cons_zero, List.set_cons_succ]
        refine takeW_on (i := 24) 6 (v := ?v51) rfl rfl (by kernel_rfl) (by kernel_rfl) (by kernel_rfl) (fun _ _ _ h => h) (by kernel_rfl) ?hy51 ?_
        case hy51 => (go_simp; try (with_reducible rfl))
        simp only [Act.put, List.setIfInBounds_toArray, List.set_cons_zero, List.set_cons_succ]
        refine takeW_on (i := 25) 7 (v := ?v52) rfl rfl (by kernel_rfl) (by kernel_rfl) (by kernel_rfl) (fun _ _ _ h => h) (by kernel_rfl) ?hy52 ?_
        case hy52 => (go_simp; try (with_reducible rfl))
        simp only [Act.put, List.setIfInBounds_toArray, List.set_cons_zero, List.set_cons_succ]
        refine wpAnyH_done (by kernel_rfl) ?_ _
        go_wp2
        exact bodyPost_ret (v := .tuple #[.bool true, .int .i64 0]) (by simp [results, Try.results9, go_sem]) rfl ⟨rfl, Ch.drew (Gr.refl w)⟩
      · rw [decide_eq_false hr, Bool.false_or]
        obtain rfl : rn = 0 := by omega
        clear hr
        go_enter Try.func9, Try.ntmps9
        go_wp2_with (go_at_call 26; refine HF.out.mono ?_; rintro e w1 ⟨rfl, hw⟩; obtain rfl := hw.symm; clear hw)
        refine wp_region_any (by kernel_rfl) ?_
        change wpAny _ _ _ _ _ _ _ (World.drew _)
        refine held_here ?_
        refine takeW_on (i := 0) 20 (v := ?v53) rfl rfl (by kernel_rfl) (by kernel_rfl) (by kernel_rfl) (fun _ _ _ h => h) (by kernel_rfl) ?hy53 ?_
        case hy53 => (go_simp; try (with_reducible rfl))
        simp only [Act.put, List.setIfInBounds_toArray, List.set_cons_zero, List.set_cons_succ]
        refine takeW_on (i := 1) 21 (v := ?v54) rfl rfl (by kernel_rfl) (by kernel_rfl) (by kernel_rfl) (fun _ _ _ h => h) (by kernel_rfl) ?hy54 ?_
        case hy54 => (go_simp; try (with_reducible rfl))
        simp only [Act.put, List.setIfInBounds_toArray, List.set_cons_zero, List.set_cons_succ]
        refine takeW_on (i := 2) 22 (v := ?v55) rfl rfl (by kernel_rfl) (by kernel_rfl) (by kernel_rfl) (fun _ _ _ h => h) (by kernel_rfl) ?hy55 ?_
        case hy55 => (go_simp; try (with_reducible rfl))
        simp only [Act.put, List.setIfInBounds_toArray, List.set_cons_zero, List.set_cons_succ]
        refine takeW_on (i := 3) 23 (v := ?v56) rfl rfl (by kernel_rfl) (by kernel_rfl) (by kernel_rfl) (fun _ _ _ h => h) (by kernel_rfl) ?hy56 ?_
        case hy56 => (go_simp; try (with_reducible rfl))
        simp only [Act.put, List.setIfInBounds_toArray, List.set_cons_zero, List.set_cons_succ]
        refine takeW_on (i := 4) 24 (v := ?v57) rfl rfl (by kernel_rfl) (by kernel_rfl) (by kernel_rfl) (fun _ _ _ h => h) (by kernel_rfl) ?hy57 ?_
        case hy57 => (go_simp; try (with_reducible rfl))
        simp only [Act.put, List.setIfInBounds_toArray, List.set_cons_zero, List.set_cons_succ]
        refine takeW_on (i := 5) 25 (v := ?v58) rfl rfl (by kernel_rfl) (by kernel_rfl) (by kernel_rfl) (fun _ _ _ h => h) (by kernel_rfl) ?hy58 ?_
        case hy58 => (go_simp; try (with_reducible rfl))
        simp only [Act.put, List.setIfInBounds_toArray, List.set_cons_zero, List.set_cons_succ]
        refine takeW_on (i := 6) 26 (v := ?v59) rfl rfl (by kernel_rfl) (by kernel_rfl) (by kernel_rfl) (fun _ _ _ h => h) (by kernel_rfl) ?hy59 ?_
        case hy59 => (go_simp; try (with_reducible rfl))
        simp only [Act.put, List.setIfInBounds_toArray, List.set_cons_zero, List.set_cons_succ]
        refine takeW_on (i := 7) 27 (v := ?v60) rfl rfl (by kernel_rfl) (by kernel_rfl) (by kernel_rfl) (fun _ _ _ h => h) (by kernel_rfl) ?hy60 ?_
        case hy60 => (go_simp; try (with_reducible rfl))
        simp only [Act.put, List.setIfInBounds_toArray, List.set_cons_zero, List.set_cons_succ]
        refine takeW_on (i := 8) 28 (v := ?v61) rfl rfl (by kernel_rfl) (by kernel_rfl) (by kernel_rfl) (fun _ _ _ h => h) (by kernel_rfl) ?hy61 ?_
        case hy61 => (go_simp; try (with_reducible rfl))
        simp only [Act.put, List.setIfInBounds_toArray, List.set_cons_zero, List.set_cons_succ]
        refine takeW_on (i := 9) 29 (v := ?v62) rfl rfl (by kernel_rfl) (by kernel_rfl) (by kernel_rfl) (fun _ _ _ h => h) (by kernel_rfl) ?hy62 ?_
        case hy62 => (go_simp; try (with_reducible rfl))
        simp only [Act.put, List.setIfInBounds_toArray, List.set_cons_zero, List.set_cons_succ]
        refine takeW_on (i := 10) 30 (v := ?v63) rfl rfl (by kernel_rfl) (by kernel_rfl) (by kernel_rfl) (fun _ _ _ h => h) (by kernel_rfl) ?hy63 ?_
        case hy63 => (go_simp; try (with_reducible rfl))
        simp only [Act.put, List.setIfInBounds_toArray, List.set_cons_zero, List.set_cons_succ]
        refine takeW_on (i := 11) 31 (v := ?v64) rfl rfl (by kernel_rfl) (by kernel_rfl) (by kernel_rfl) (fun _ _ _ h => h) (by kernel_rfl) ?hy64 ?_
        case hy64 => (go_simp; try (with_reducible rfl))
        simp only [Act.put, List.setIfInBounds_toArray, List.set_cons_zero, List.set_cons_succ]
        refine takeW_on (i := 12) 32 (v := ?v65) rfl rfl (by kernel_rfl) (by kernel_rfl) (by kernel_rfl) (fun _ _ _ h => h) (by kernel_rfl) ?hy65 ?_
        case hy65 => (go_simp; try (with_reducible rfl))
        simp only [Act.put, List.setIfInBounds_toArray, List.set_cons_zero, List.set_cons_succ]
        refine takeW_on (i := 13) 33 (v := ?v66) rfl rfl (by kernel_rfl) (by kernel_rfl) (by kernel_rfl) (fun _ _ _ h => h) (by kernel_rfl) ?hy66 ?_
        case hy66 => (go_simp; try (with_reducible rfl))
        simp only [Act.put, List.setIfInBounds_toArray, List.set_cons_zero, List.set_cons_succ]
        refine takeW_on (i := 14) 34 (v := ?v67) rfl rfl (by kernel_rfl) (by kernel_rfl) (by kernel_rfl) (fun _ _ _ h => h) (by kernel_rfl) ?hy67 ?_
        case hy67 => (go_simp; try (with_reducible rfl))
        simp only [Act.put, List.setIfInBounds_toArray, List.set_cons_zero, List.set_cons_succ]
        refine takeW_on (i := 15) 35 (v := ?v68) rfl rfl (by kernel_rfl) (by kernel_rfl) (by kernel_rfl) (fun _ _ _ h => h) (by kernel_rfl) ?hy68 ?_
        case hy68 => (go_simp; try (with_reducible rfl))
        simp only [Act.put, List.setIfInBounds_toArray, List.set_cons_zero, List.set_cons_succ]
        refine takeW_on (i := 16) 36 (v := ?v69) rfl rfl (by kernel_rfl) (by kernel_rfl) (by kernel_rfl) (fun _ _ _ h => h) (by kernel_rfl) ?hy69 ?_
        case hy69 => (go_simp; try (with_reducible rfl))
        simp only [Act.put, List.setIfInBounds_toArray, List.set_cons_zero, List.set_cons_succ]
        refine takeW_on (i := 17) 37 (v := ?v70) rfl rfl (by kernel_rfl) (by kernel_rfl) (by kernel_rfl) (fun _ _ _ h => h) (by kernel_rfl) ?hy70 ?_
        case hy70 => (go_simp; try (with_reducible rfl))
        simp only [Act.put, List.setIfInBounds_toArray, List.set_cons_zero, List.set_cons_succ]
        refine takeW_on (i := 18) 38 (v := ?v71) rfl rfl (by kernel_rfl) (by kernel_rfl) (by kernel_rfl) (fun _ _ _ h => h) (by kernel_rfl) ?hy71 ?_
        case hy71 => (go_simp; try (with_reducible rfl))
        simp only [Act.put, List.setIfInBounds_toArray, List.set_cons_zero, List.set_cons_succ]
        refine takeW_on (i := 19) 39 (v := ?v72) rfl rfl (by kernel_rfl) (by kernel_rfl) (by kernel_rfl) (fun _ _ _ h => h) (by kernel_rfl) ?hy72 ?_
        case hy72 => (go_simp; try (with_reducible rfl))
        simp only [Act.put, List.setIfInBounds_toArray, List.set_cons_zero, List.set_cons_succ]
        refine takeW_on (i := 20) 40 (v := ?v73) rfl rfl (by kernel_rfl) (by kernel_rfl) (by kernel_rfl) (fun _ _ _ h => h) (by kernel_rfl) ?hy73 ?_
        case hy73 => (go_simp; try (with_reducible rfl))
        simp only [Act.put, List.setIfInBounds_toArray, List.set_cons_zero, List.set_cons_succ]
        refine takeW_on (i := 21) 41 (v := ?v74) rfl rfl (by kernel_rfl) (by kernel_rfl) (by kernel_rfl) (fun _ _ _ h => h) (by kernel_rfl) ?hy74 ?_
        case hy74 => (go_simp; try (with_reducible rfl))
        simp only [Act.put, List.setIfInBounds_toArray, List.set_cons_zero, List.set_cons_succ]
        refine takeW_on (i := 22) 42 (v := ?v75) rfl rfl (by kernel_rfl) (by kernel_rfl) (by kernel_rfl) (fun _ _ _ h => h) (by kernel_rfl) ?hy75 ?_
        case hy75 => (go_simp; try (with_reducible rfl))
        simp only [Act.put, List.setIfInBounds_toArray, List.set_cons_zero, List.set_cons_succ]
        refine takeW_on (i := 23) 43 (v := ?v76) rfl rfl (by kernel_rfl) (by kernel_rfl) (by kernel_rfl) (fun _ _ _ h => h) (by kernel_rfl) ?hy76 ?_
        case hy76 => (go_simp; try (with_reducible rfl))
        simp only [Act.put, List.setIfInBounds_toArray, List.set_cons_zero, List.set_cons_succ]
        refine takeW_on (i := 24) 6 (v := ?v77) rfl rfl (by kernel_rfl) (by kernel_rfl) (by kernel_rfl) (fun _ _ _ h => h) (by kernel_rfl) ?hy77 ?_
        case hy77 => (go_simp; try (with_reducible rfl))
        simp only [Act.put, List.setIfInBounds_toArray, List.set_cons_zero, List.set_cons_succ]
        refine takeW_on (i := 25) 7 (v := ?v78) rfl rfl (by kernel_rfl) (by kernel_rfl) (by kernel_rfl) (fun _ _ _ h => h) (by kernel_rfl) ?hy78 ?_
        case hy78 => (go_simp; try (with_reducible rfl))
        simp only [Act.put, List.setIfInBounds_toArray, List.set_cons_zero, List.set_cons_succ]
        refine wpAnyH_done (by kernel_rfl) ?_ _
        go_wp2
        exact bodyPost_ret (v := .tuple #[.bool (decide ((vn : Int) < cp)), .int .i64 0]) (by simp [results, Try.results9, go_sem]) rfl ⟨rfl, Ch.drew (Gr.refl w)⟩
  | false =>
    cases cl with
    | true =>
      rw [if_pos rfl]
      go_enter Try.func9, Try.ntmps9
      go_wp2_with (go_at_call 26; refine HF.out.mono ?_; rintro e w1 ⟨rfl, hw⟩; obtain rfl := hw.symm; clear hw)
      exact bodyPost_ret (v := .tuple #[.bool true, .int .i64 0]) (by simp [results, Try.results9, go_sem]) rfl ⟨rfl, Gr.refl _⟩
    | false =>
      rw [if_neg (by simp), if_neg (by simp)]
      by_cases hr : 0 < sn
      · rw [decide_eq_true hr, Bool.or_true]
        have hr' : (0 : Int) < (sn : Int) := by omega
        clear hr
        go_enter Try.func9, Try.ntmps9
        go_wp2_with (go_at_call 26; refine HF.out.mono ?_; rintro e w1 ⟨rfl, hw⟩; obtain rfl := hw.symm; clear hw)
        exact bodyPost_ret (v := .tuple #[.bool true, .int .i64 0]) (by simp [results, Try.results9, go_sem]) rfl ⟨rfl, Gr.refl _⟩
      · rw [decide_eq_false hr, Bool.or_false]
        obtain rfl : sn = 0 := by omega
        clear hr
        go_enter Try.func9, Try.ntmps9
        go_wp2_with (go_at_call 26; refine HF.out.mono ?_; rintro e w1 ⟨rfl, hw⟩; obtain rfl := hw.symm; clear hw)
        exact bodyPost_ret (v := .tuple #[.bool (decide (0 < vn)), .int .i64 0]) (by simp [results, Try.results9, go_sem]) rfl ⟨rfl, Gr.refl _⟩
end Go.Proofs.Ytalmiphddgmfbab.Lt
