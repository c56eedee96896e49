/-
  What the program's note of layer 11 leaves, for one that waits. Condition: a goroutine's numbers are ints.
-/
import Derived.Test.YtalmiphddgmfbabCpLv0
import Derived.Test.YtalmiphddgmfbabCpEnt
import Derived.Test.YtalmiphddgmfbabCpSnd
namespace Go.Proofs.Ytalmiphddgmfbab.Lt
open Go.RowKit Wd
attribute [local go_sem ↓] Go.wp_at_zero Go.wp_at_succ

/-- a goroutine's entry: looked up, or made -/
structure En (k : Nat) (M : List Me) (clock : Nat) (s g : Int) (uo : Option Addr) (un uc : Nat) (M1 : List Me) (clock1 j b0 : Nat) : Prop where
  run : ∀ W, MAt W k M clock → (Instr.mapEntry 72 (.map (some k)) (.agg #[.int .i64 s, .int .i64 g])).run Try.prog W = .ok (.tuple #[.slice uo un uc, .int .i64 (b0 : Int)]) (putM W k M1 clock1)
  at_ : M1[j]? = some ⟨s, g, .slice uo un uc, b0⟩
  one : (M1.map (fun e => (e.s, e.g))).Nodup
  st : (M1.map (·.b)).Nodup ∧ ∀ e ∈ M1, e.b < clock1
  ok : ∀ e ∈ M1, Gok e.s e.g
  sub : ∀ e ∈ M1, ¬ (e.s = s ∧ e.g = g) → e ∈ M
  sup : ∀ e ∈ M, e ∈ M1
theorem Pm.entry {t : Nat → Tg} {w : World} {k : Nat} {M : List Me} {clock : Nat} {cs : List Cn} {s g : Int} (h : Pm t w k M clock cs) (hk : Gok s g) : ∃ (uo : Option Addr) (un uc : Nat) (M1 : List Me) (clock1 j b0 : Nat) (hs : List Int), En k M clock s g uo un uc M1 clock1 j b0 ∧ un = pls cs s g ∧ hs.Perm (plA s g 0 cs) ∧ Ow eI 1 2 0 w (.slice uo un uc) hs ∧ ∀ q, Blk (.slice uo un uc) q → t q = .pl s g := by
  rcases look_G h.at_ h.ok hk with ⟨_, hn⟩ | ⟨j, v, b, _, hj⟩
  · have h0 := h.no s g hn
    refine ⟨none, 0, 0, M ++ [Me.mk s g (.slice none 0 0) clock], clock + 1, M.length, clock, [], ⟨fun W hW => entG_new hW h.ok hk hn, by simp, ?_, ⟨?_, ?_⟩, ?_, ?_, ?_⟩, h0.symm, ?_, Ow.nil _ _ _ _ _, fun q hq => by cases hq⟩
    · rw [List.map_append]
      refine List.nodup_append.2 ⟨h.one, by simp, fun a ha c hc e => ?_⟩
      simp only [List.map_cons, List.map_nil, List.mem_singleton] at hc
      obtain ⟨x, hx, rfl⟩ := List.mem_map.1 ha
      rw [hc] at e
      simp only [Prod.mk.injEq] at e
      exact hn x hx e
    · rw [List.map_append]
      refine List.nodup_append.2 ⟨h.st.1, by simp, fun a ha c hc e => ?_⟩
      simp only [List.map_cons, List.map_nil, List.mem_singleton] at hc
      obtain ⟨x, hx, rfl⟩ := List.mem_map.1 ha
      have := h.st.2 x hx
      omega
    · intro e he
      rcases List.mem_append.1 he with he | he
      · have := h.st.2 e he; omega
      · simp only [List.mem_singleton] at he; rw [he]; simp
    · intro e he
      rcases List.mem_append.1 he with he | he
      · exact h.ok e he
      · simp only [List.mem_singleton] at he; rw [he]; exact hk
    · intro e he hne
      rcases List.mem_append.1 he with he | he
      · exact he
      · simp only [List.mem_singleton] at he; rw [he] at hne; exact (hne ⟨rfl, rfl⟩).elim
    · exact fun e he => List.mem_append_left _ he
    · rw [List.eq_nil_of_length_eq_zero (show (plA s g 0 cs).length = 0 by rw [plA_len]; exact h0)]
  · obtain ⟨hs, h1, h2, h3⟩ := h.f _ (List.mem_of_getElem? hj)
    obtain ⟨ao, cap, e⟩ := h1.form
    dsimp only at e h1 h2 h3
    subst e
    exact ⟨ao, hs.length, cap, M, clock, j, b, hs, ⟨fun W hW => entG_some hW h.ok hk h.one hj, hj, h.one, h.st, h.ok, fun e he _ => he, fun e he => he⟩, by rw [h3.length_eq, plA_len], h3, h1, h2⟩
open Classical in
/-- behind note: the map with the place more -/
theorem Cb.noted {t : Nat → Tg} {w : World} {b k : Nat} {v : Value} {xs : List Rw} {M : List Me} {clock : Nat} {cs ds ds' : List Cn} {s g ch : Int} {uo : Option Addr} {un uc : Nat} {M1 : List Me} {clock1 j b0 : Nat} {hs : List Int} (h : Cb t w b k v xs M clock cs ds) (en : En k M clock s g uo un uc M1 clock1 j b0) (hp : hs.Perm (plA s g 0 ds))
    (hps : (plA s g 0 ds').Perm (plA s g 0 ds ++ [ch])) (hpo : ∀ s' g', ¬ (s' = s ∧ g' = g) → plA s' g' 0 ds' = plA s' g' 0 ds) (w5 : World) (u : Value) (K : Ch (fun q => t q = .mp ∨ t q = .pl s g) w w5) (mm : MAt w5 k M1 clock1) (o : Ow eI 1 2 0 w5 u (hs ++ [ch])) (nb : ∀ q, Blk u q → t q = .pl s g ∨ w.heap.size ≤ q) :
    ∃ t' M2 clock2, Cb t' (putM w5 k (M1.set j ⟨s, g, u, b0⟩) clock1) b k v xs M2 clock2 cs ds' ∧ Tn t t' w (putM w5 k (M1.set j ⟨s, g, u, b0⟩) clock1) := by
  have kp := putM_ch w5 k (M1.set j ⟨s, g, u, b0⟩) clock1
  have kk : Ch (fun q => t q = .mp ∨ t q = .pl s g) w (putM w5 k (M1.set j ⟨s, g, u, b0⟩) clock1) := K.trans kp (fun q e => .inl (.inl (by have e1 : q = k := e; rw [e1]; exact h.tk)))
  have told : ∀ q, q < w.heap.size → (if Blk u q then Tg.pl s g else t q) = t q := fun q hq => by
    split
    · rename_i hb
      rcases nb q hb with h1 | h1
      · exact h1.symm
      · omega
    · rfl
  have hjl : j < M1.length := (List.getElem?_eq_some_iff.1 en.at_).1
  have hmem : ∀ e ∈ M1.set j ⟨s, g, u, b0⟩, e = ⟨s, g, u, b0⟩ ∨ (e ∈ M ∧ ¬ (e.s = s ∧ e.g = g)) := fun e he => by
    obtain ⟨i, hi⟩ := List.mem_iff_getElem?.1 he
    by_cases ei : j = i
    · subst ei
      rw [List.getElem?_set_self hjl] at hi
      injection hi with hi
      exact .inl hi.symm
    · rw [List.getElem?_set_ne ei] at hi
      have hne : ¬ (e.s = s ∧ e.g = g) := fun q => ei (oneG en.one en.at_ hi ⟨q.1.symm, q.2.symm⟩)
      exact .inr ⟨en.sub e (List.mem_of_getElem? hi) hne, hne⟩
  have hb0 : ((M1.set j ⟨s, g, u, b0⟩).map (·.b)) = M1.map (·.b) := by
    rw [List.map_set]
    exact setM_self _ _ _ (by rw [List.getElem?_map, en.at_]; rfl)
  have hkeys : ((M1.set j ⟨s, g, u, b0⟩).map (fun e => (e.s, e.g))) = M1.map (fun e => (e.s, e.g)) := by
    rw [List.map_set]
    exact setM_self _ _ _ (by rw [List.getElem?_map, en.at_]; rfl)
  refine ⟨fun q => if Blk u q then .pl s g else t q, M1.set j ⟨s, g, u, b0⟩, clock1, ⟨?_, (told b (lt_of_block h.me)).trans h.tb, (told k h.mp.at_.lt).trans h.tk, ?_, ⟨putM_at mm.lt _ _, ?_, by rw [hkeys]; exact en.one, ?_, ?_, ⟨by rw [hb0]; exact en.st.1, ?_⟩⟩, ?_⟩, ⟨kk.mono (fun q hq => .inl (by rcases hq with hq | hq <;> rw [hq] <;> exact fun e => by cases e)), fun q hq e => (told q hq).trans e⟩⟩
  · exact (kk.block b (lt_of_block h.me) (fun hq => by rcases hq with hq | hq <;> rw [h.tb] at hq <;> cases hq)).trans h.me
  · refine NL.tag (h.nl.ch kk (fun q hq => by rcases hq with hq | hq <;> rw [hq] <;> simp)) (fun q _ hin => ?_)
    show (if Blk u q then Tg.pl s g else t q) = t q
    split
    · rename_i hb
      rcases nb q hb with h1 | h1
      · exact h1.symm
      · have : q < w.heap.size := h.hi q (fun e => by rw [e] at hin; cases hin)
        omega
    · rfl
  · intro e he
    rcases hmem e he with rfl | ⟨h1, _⟩
    · have := en.ok _ (List.mem_of_getElem? en.at_)
      exact this
    · exact h.mp.ok e h1
  · intro e he
    rcases hmem e he with rfl | ⟨h1, hne⟩
    · refine ⟨hs ++ [ch], o.ch kp (fun q hq e => ?_), fun q hq => if_pos hq, ?_⟩
      · have e1 : q = k := e
        rcases nb q hq with h2 | h2
        · rw [e1, h.tk] at h2; cases h2
        · have := h.mp.at_.lt; omega
      · exact ((hp.append_right [ch]).trans hps.symm)
    · obtain ⟨l, l1, l2, l3⟩ := h.mp.f e h1
      refine ⟨l, l1.ch kk (fun q hq hm => ?_), fun q hq => (told q (l1.blk hq).2).trans (l2 q hq), by rw [hpo _ _ hne]; exact l3⟩
      have e2 := l2 q hq
      rcases hm with hm | hm
      · rw [hm] at e2; cases e2
      · rw [hm] at e2
        injection e2 with _ _ e3 e4
        exact hne ⟨e3.symm, e4.symm⟩
  · intro s' g' hn
    rcases Classical.em (s' = s ∧ g' = g) with e | e
    · exfalso
      refine hn ⟨s, g, u, b0⟩ (List.mem_iff_getElem?.2 ⟨j, List.getElem?_set_self hjl⟩) ?_
      exact ⟨e.1.symm, e.2.symm⟩
    · rw [← plA_len s' g' 0, hpo _ _ e, plA_len]
      refine h.mp.no s' g' (fun x hx hxe => ?_)
      have h1 := en.sup x hx
      obtain ⟨i, hi⟩ := List.mem_iff_getElem?.1 h1
      have hij : j ≠ i := fun ei => by
        subst ei
        rw [en.at_] at hi
        injection hi with hi
        rw [← hi] at hxe
        exact e ⟨hxe.1.symm, hxe.2.symm⟩
      exact hn x (List.mem_iff_getElem?.2 ⟨i, by rw [List.getElem?_set_ne hij]; exact hi⟩) hxe
  · intro e he
    rcases hmem e he with rfl | ⟨h1, _⟩
    · have := en.st.2 _ (List.mem_of_getElem? en.at_)
      exact this
    · exact en.st.2 e (en.sup e h1)
  · intro q hq
    by_cases hb : Blk u q
    · have := (o.blk hb).2
      exact Nat.lt_of_lt_of_le this kp.size
    · rw [if_neg hb] at hq
      exact Nat.lt_of_lt_of_le (h.hi q hq) kk.size
structure Sn (w : World) (b : Nat) (v : Value) (k : Nat) (s g cc vv : Int) (W : World) : Prop where
  me : W.heap[b]? = some (.cells #[v, .map (some k)] 74 (0, 0))
  bx : W.heap[w.heap.size]? = some (.cells #[.int .i64 s, .int .i64 g, .int .i64 cc, .int .i64 vv] 95 (0, 0))
theorem Sn.gr {w W W' : World} {b : Nat} {v : Value} {k : Nat} {s g cc vv : Int} (h : Sn w b v k s g cc vv W) (c : Gr W W') : Sn w b v k s g cc vv W' := ⟨gr_blk h.me c, gr_blk h.bx c⟩
theorem Sn.ch {w W W' : World} {b : Nat} {v : Value} {k : Nat} {s g cc vv : Int} {S : Nat → Prop} (h : Sn w b v k s g cc vv W) (c : Ch S W W') (h1 : ¬ S b) (h2 : ¬ S w.heap.size) : Sn w b v k s g cc vv W' := ⟨(c.block _ (lt_of_block h.me) h1).trans h.me, (c.block _ (lt_of_block h.bx) h2).trans h.bx⟩
/-- what note leaves -/
def NtR (t : Nat → Tg) (w : World) (b k : Nat) (v : Value) (xs : List Rw) (cs ds : List Cn) (w' : World) : Prop := ∃ t' M2 clock2, Cb t' w' b k v xs M2 clock2 cs ds ∧ Tn t t' w w'
set_option maxRecDepth 40000 in
set_option maxHeartbeats 8000000 in
theorem note_one {t : Nat → Tg} {w : World} {b k : Nat} {v : Value} {xs : List Rw} {M : List Me} {clock : Nat} {cs ds ds' : List Cn} {s g ch cc vv : Int} (P : Nat → Prop) (ao : Option Addr) (cap : Nat) (h : Cb t w b k v xs M clock cs ds) (hk : Gok s g) (hl : Ls eW P w (.slice ao 1 cap) [⟨s, g, cc, vv⟩]) (hps : (plA s g 0 ds').Perm (plA s g 0 ds ++ [ch])) (hpo : ∀ s' g', ¬ (s' = s ∧ g' = g) → plA s' g' 0 ds' = plA s' g' 0 ds) (hb : pls ds s g ≤ 4398046511104) :
    Calls Try.prog 24 #[.pointer (some ⟨b, 0, none⟩), .int .i64 ch, .slice ao 1 cap] w fun e w' => e = .returned (.tuple #[]) ∧ NtR t w b k v xs cs ds' w' := by
  obtain ⟨uo, un, uc, M1, clock1, j, b0, hs, en, hun, hp, hol, htg⟩ := h.mp.entry hk
  have NOTED := hid (fun w5 u K mm o nb => h.noted en hp hps hpo w5 u K mm o nb)
  have EN := hid en.run
  have STO := hid (fun (W : World) (val : Value) (p : MAt W k M1 clock1) => stoG p en.st.1 en.at_ val)
  dsimp only at STO
  unfold goInt at STO
  have HUN := hid hol.len.1
  have HUB := hid (show un ≤ 4398046511104 from by rw [hun]; exact hb)
  have TG := hid htg
  have TK := hid h.tk
  have TB := hid h.tb
  have TW := hid (show t w.heap.size = .no from by
    rcases Classical.em (t w.heap.size = .no) with e | e
    · exact e
    · have := h.hi _ e; omega)
  have NBK := hid (show b ≠ k from fun e => by have e1 := h.tb; rw [e, h.tk] at e1; cases e1)
  have NWK := hid (show w.heap.size ≠ k from by have := h.mp.at_.lt; omega)
  have HCB := hid h
  have HOL := hid hol
  have HL := hid hl
  clear h hk hps hpo hb hl hun hp hol htg en
  go_enter Try.func24, Try.ntmps24
  go_wp2_with fail
  go_loopg [10] 1 (fun q v10 wr => (q = 1 ∧ v10 = .int .i64 0 ∧ w = wr) ∨ (q = 0 ∧ v10 = .int .i64 1 ∧ NtR t w b k v xs cs ds' wr))
  case atStart => exact .inl ⟨rfl, rfl, rfl⟩
  case round =>
    rcases hrel with ⟨hq, rfl, hw⟩ | ⟨hq, rfl, hN⟩
    · obtain ⟨gg, oo, cap', hv, _, hgl, _, hcs⟩ := HL.out.get eW_len (i := 0) rfl
      injection hv with hv1 hv2 hv3
      subst hv1
      clear hv2 hv3
      have c0 := hcs 0 _ rfl
      have c1 := hcs 1 _ rfl
      have c2 := hcs 2 _ rfl
      have c3 := hcs 3 _ rfl
      simp only [Nat.zero_mul, Nat.add_zero] at c0 c1 c2 c3
      obtain rfl := hw
      have GA : Gr w (World.drew (w.alloc (.cells #[.int .i64 s, .int .i64 g, .int .i64 cc, .int .i64 vv] 95))) := Ch.drew (Ch.alloc (Gr.refl w) _)
      have hS0 : Sn w b v k s g cc vv (World.drew (w.alloc (.cells #[.int .i64 s, .int .i64 g, .int .i64 cc, .int .i64 vv] 95))) := ⟨gr_blk HCB.out.me GA, (MapKept.heap_alloc w _).1⟩
      have MM := hid (HCB.out.mp.at_.ch GA (noB _))
      have OO := hid (HOL.out.gr GA)
      have KK := hid (show Ch (fun q => t q = .mp ∨ t q = .pl s g) w _ from GA.any)
      have ZZ := hid GA.size
      clear hcs hgl GA
      go_wp2_with fail
      refine wp_region_held_drew (S := Sn w b v k s g cc vv) (by kernel_rfl) (by exact hS0) (fun _ => ?_)
      generalize World.drew (w.alloc (.cells #[.int .i64 s, .int .i64 g, .int .i64 cc, .int .i64 vv] 95)) = V0 at hS0 MM OO KK ZZ ⊢
      refine takeS_on (i := 0) 14 (v := ?v1) rfl rfl (by kernel_rfl) (by kernel_rfl) (by kernel_rfl) (fun _ _ _ h => h) (by kernel_rfl) ?hy1 (by exact hS0) ?_
      case hy1 => (intro w' hSw; go_simp; try (with_reducible rfl))
      simp only [Act.put, List.setIfInBounds_toArray, List.set_cons_zero, List.set_cons_succ]
      refine takeS_on (i := 1) 15 (v := ?v2) rfl rfl (by kernel_rfl) (by kernel_rfl) (by kernel_rfl) (fun _ _ _ h => h) (by kernel_rfl) ?hy2 (by exact hS0) ?_
      case hy2 => (intro w' hSw; go_simp; try (with_reducible rfl))
      simp only [Act.put, List.setIfInBounds_toArray, List.set_cons_zero, List.set_cons_succ]
      refine takeS_on (i := 2) 16 (v := ?v3) rfl rfl (by kernel_rfl) (by kernel_rfl) (by kernel_rfl) (fun _ _ _ h => h) (by kernel_rfl) ?hy3 (by exact hS0) ?_
      case hy3 => (intro w' hSw; go_simp; try (with_reducible rfl))
      simp only [Act.put, List.setIfInBounds_toArray, List.set_cons_zero, List.set_cons_succ]
      refine takeS_on (i := 3) 17 (v := ?v4) rfl rfl (by kernel_rfl) (by kernel_rfl) (by kernel_rfl) (fun _ _ _ h => h) (by kernel_rfl) ?hy4 (by exact hS0) ?_
      case hy4 => (intro w' hSw; have c1 := cell_of hSw.me 1; simp at c1; go_simp; try (with_reducible rfl))
      simp only [Act.put, List.setIfInBounds_toArray, List.set_cons_zero, List.set_cons_succ]
      refine takeS_on (i := 4) 18 (v := ?v5) rfl rfl (by kernel_rfl) (by kernel_rfl) (by kernel_rfl) (fun _ _ _ h => h) (by kernel_rfl) ?hy5 (by exact hS0) ?_
      case hy5 => (intro w' hSw; go_simp; try (with_reducible rfl))
      simp only [Act.put, List.setIfInBounds_toArray, List.set_cons_zero, List.set_cons_succ]
      refine takeS_on (i := 5) 19 (v := ?v6) rfl rfl (by kernel_rfl) (by kernel_rfl) (by kernel_rfl) (fun _ _ _ h => h) (by kernel_rfl) ?hy6 (by exact hS0) ?_
      case hy6 => (intro w' hSw; have c0 := cell_of hSw.bx 0; have c1 := cell_of hSw.bx 1; simp at c0 c1; go_simp; try (with_reducible rfl))
      simp only [Act.put, List.setIfInBounds_toArray, List.set_cons_zero, List.set_cons_succ]
      refine takeS_on (i := 6) 21 (v := ?v7) rfl rfl (by kernel_rfl) (by kernel_rfl) (by kernel_rfl) (fun _ _ _ h => h) (by kernel_rfl) ?hy7 (by exact hS0) ?_
      case hy7 => (intro w' hSw; go_simp; try (with_reducible rfl))
      simp only [Act.put, List.setIfInBounds_toArray, List.set_cons_zero, List.set_cons_succ]
      refine wpAnyH_ready (rs := [7]) (by kernel_rfl) (by simp) (AllReadyH.cons rfl (fun K hK => ?_) AllReadyH.nil)
      go_simp
      have G7 : Gr V0 (V0.alloc (.cells #[.int .i64 ch] 2)) := Ch.alloc (Gr.refl _) _
      have SG := hid (Ls.single (enc := eI) V0 ch 2 #[.int .i64 ch] rfl)
      have SZ := hid (show k < V0.heap.size from MM.out.lt)
      have hS1 := hS0.gr G7
      have MM := hid (MM.out.ch G7 (noB _))
      have OO := hid (OO.out.gr G7)
      have KK := hid (KK.out.trans G7 (fun _ q => q.elim))
      have ZZ := hid (Nat.le_trans ZZ.out G7.size)
      clear G7
      generalize V0.alloc (.cells #[.int .i64 ch] 2) = u1 at hS1 MM OO KK SG ZZ ⊢
      refine hK.out _ _ (by exact hS1) (fun _ => ?_)
      clear hK K
      refine wpAnyH_ready (rs := [8]) (by kernel_rfl) (by simp) (AllReadyH.cons rfl (fun K hK => ?_) AllReadyH.nil)
      have hE := EN.out _ MM.out
      go_simp
      have G7 := putM_ch u1 k M1 clock1
      clear hE
      have hS2 := hS1.ch G7 (fun e => NBK.out e) (fun e => NWK.out e)
      have SG := hid (SG.out.ch G7 (fun q _ hq e => by have e1 : q = k := e; have := SZ.out; omega))
      have MM := hid (putM_at (MM.out.lt) M1 clock1)
      have OO := hid (OO.out.ch G7 (fun q hq e => by have e1 : q = k := e; have e2 := TG.out q hq; rw [e1, TK.out] at e2; cases e2))
      have KK := hid (KK.out.trans G7 (fun q e => .inl (.inl (by have e1 : q = k := e; rw [e1]; exact TK.out))))
      have ZZ := hid (Nat.le_trans ZZ.out G7.size)
      clear G7
      generalize putM u1 k M1 clock1 = u2 at hS2 MM OO KK ZZ SG ⊢
      refine hK.out _ _ (by exact hS2) (fun _ => ?_)
      clear hK K
      refine takeS_on (i := 9) 20 (v := ?v8) rfl rfl (by kernel_rfl) (by kernel_rfl) (by kernel_rfl) (fun _ _ _ h => h) (by kernel_rfl) ?hy8 (by exact hS2) ?_
      case hy8 => (intro w' hSw; go_simp; try (with_reducible rfl))
      simp only [Act.put, List.setIfInBounds_toArray, List.set_cons_zero, List.set_cons_succ]
      refine takeS_on (i := 11) 25 (v := ?v9) rfl rfl (by kernel_rfl) (by kernel_rfl) (by kernel_rfl) (fun _ _ _ h => h) (by kernel_rfl) ?hy9 (by exact hS2) ?_
      case hy9 => (intro w' hSw; go_simp; try (with_reducible rfl))
      simp only [Act.put, List.setIfInBounds_toArray, List.set_cons_zero, List.set_cons_succ]
      refine wpAnyH_ready (rs := [10]) (by kernel_rfl) (by simp) (AllReadyH.cons rfl (fun K hK => ?_) AllReadyH.nil)
      refine step_append_ow eI_len rfl (.tmp 20) (.tmp 22) _ 2 8 _ Try.underlying67 i64_info rfl (by omega) rfl 0 _ hs rfl OO.out _ _ [ch] rfl SG.out (eI_one _) (un + 1) (by rw [HUN.out]; rfl) (by have := HUB.out; omega) (by unfold maxLen; have := HUB.out; omega) (Nat.zero_le _) (hs ++ [ch]) rfl ?_
      intro ao5 cap5 w5 ow5 cw5 bl5
      have hS5 := hS2.ch cw5 (fun hq => by have e2 := TG.out b hq; rw [TB.out] at e2; cases e2) (fun hq => by have e2 := TG.out _ hq; rw [TW.out] at e2; cases e2)
      have MM5 := hid (MM.out.ch cw5 (fun hq => by have e2 := TG.out k hq; rw [TK.out] at e2; cases e2))
      have O5 := hid ow5
      have N5 := hid (show ∀ q, Blk (.slice ao5 (un + 1) cap5) q → t q = .pl s g ∨ w.heap.size ≤ q from fun q hq => (bl5 q hq).elim (fun h1 => .inl (TG.out q h1)) (fun h1 => .inr (Nat.le_trans ZZ.out h1)))
      have K5 := hid (KK.out.trans cw5 (fun q hq => .inl (.inr (TG.out q hq))))
      clear ow5 cw5 bl5
      refine hK.out _ _ (by exact hS5) (fun _ => ?_)
      change wpAnyH _ _ _ _ _ _ _ (Act.put _ (some 24) _) _
      simp only [Act.put, List.setIfInBounds_toArray, List.set_cons_zero, List.set_cons_succ]
      clear hK K
      refine wpAnyH_ready (rs := [12]) (by kernel_rfl) (by simp) (AllReadyH.cons rfl (fun K hK => ?_) AllReadyH.nil)
      have hE := STO.out _ (.slice ao5 (un + 1) cap5) MM5.out
      go_simp
      clear hE
      have hS6 := hS5.ch (putM_ch w5 k (M1.set j ⟨s, g, .slice ao5 (un + 1) cap5, b0⟩) clock1) (fun e => NBK.out e) (fun e => NWK.out e)
      refine hK.out _ _ (by exact hS6) (fun _ => ?_)
      clear hK K
      refine wpAnyH_done (by kernel_rfl) ?_ _
      go_wp2_with fail
      go_roundg 0
      case measure => omega
      case rel => exact .inr ⟨rfl, by simp, NOTED.out w5 _ K5.out MM5.out O5.out N5.out⟩
    · have HN := hid hN
      clear hN
      go_wp2
      go_end0
      exact ⟨rfl, HN.out⟩
end Go.Proofs.Ytalmiphddgmfbab.Lt
