/-
  What slices.Concat answers of two lists of timers, and the program's State. Condition: the timers are there, not more than 1024 run.
-/
import Derived.Test.YtgkapopkjgljjaaTmConc
namespace Go.Proofs.Ytgkapopkjgljjaa.Lt
open Go.RowKit Wd
attribute [local go_sem ↓] Go.wp_at_zero Go.wp_at_succ
set_option maxRecDepth 20000

/-- how long the first j of two are together -/
def szF (n1 n2 : Nat) : Nat → Nat
  | 0 => 0
  | 1 => n1
  | _ => n1 + n2
set_option maxHeartbeats 16000000 in
theorem concat_any {P1 P2 : Nat → Prop} (w : World) (q : Nat) (a1 a2 : Option Addr) (n1 n2 c1 c2 : Nat) (xs ys : List Tk) (h1 : Ls eT P1 w (.slice a1 n1 c1) xs) (h2 : Ls eT P2 w (.slice a2 n2 c2) ys) (hq0 : w.cell? ⟨q, 0, none⟩ = some (.slice a1 n1 c1)) (hq1 : w.cell? ⟨q, 1, none⟩ = some (.slice a2 n2 c2)) (hql : q < w.heap.size) (hn1 : n1 ≤ 549755813888) (hn2 : n2 ≤ 549755813888) :
    Calls Try.prog 43 #[.slice (some ⟨q, 0, none⟩) 2 2] w fun e w' => ∃ v, e = .returned v ∧ Ow eT 8 46 w.heap.size w' v (xs ++ ys) ∧ Gr w w' := by
  have H1 := hid (show ∀ W, Gr w W → Ls eT P1 W (.slice a1 n1 c1) xs from fun W k => h1.gr k)
  have H2 := hid (show ∀ W, Gr w W → Ls eT P2 W (.slice a2 n2 c2) ys from fun W k => h2.gr k)
  have HX := hid h1.len.1
  have HY := hid h2.len.1
  have HQ := hid (show ∀ W, Gr w W → W.cell? ⟨q, 0, none⟩ = some (.slice a1 n1 c1) ∧ W.cell? ⟨q, 1, none⟩ = some (.slice a2 n2 c2) ∧ q < W.heap.size from fun W k => ⟨(k.cell hql).trans hq0, (k.cell hql).trans hq1, Nat.lt_of_lt_of_le hql k.size⟩)
  have HG := hid (fun W => grow_any W (n1 + n2) (by omega))
  clear h1 h2 hq0 hq1 hql
  go_enter Try.func43, Try.ntmps43
  go_wp2_with fail
  go_loopg [3, 11] 2 (fun k s i wr => ∃ j : Nat, j + k = 2 ∧ i = .int .i64 (j : Int) ∧ s = .int .i64 (szF n1 n2 j : Nat) ∧ Gr w wr)
  case atStart => exact ⟨0, by omega, rfl, rfl, Gr.refl _⟩
  case round =>
    obtain ⟨j, hjk, rfl, rfl, hg⟩ := hrel
    obtain ⟨V, hV⟩ : ∃ W, W = wr := ⟨_, rfl⟩
    subst hV
    obtain ⟨q0, q1, ql⟩ := HQ.out _ hg
    have G := hid hg
    clear hg
    rcases (by omega : j = 0 ∨ j = 1 ∨ j = 2) with rfl | rfl | rfl
    · unfold szF
      go_wp2
      go_roundg (gk - 1)
      case measure => omega
      case rel => exact ⟨1, by omega, rfl, by first | with_reducible rfl | simp [szF], G.out⟩
    · unfold szF
      go_wp2
      go_roundg (gk - 1)
      case measure => omega
      case rel => exact ⟨2, by omega, rfl, by first | with_reducible rfl | simp [szF], G.out⟩
    · unfold szF
      clear q0 q1 ql
      go_wp2_with (go_at_call 57; refine (HG.out _).mono ?_; rintro e w2 ⟨ao, cap, rfl, o2, g2⟩; have O2 := hid (o2.lower G.out.size); have G2 := hid (Gr.trans G.out g2); clear o2 g2)
      go_loopg [6, 27] 2 (fun k v i wr => ∃ (j m : Nat) (ao : Option Addr) (cp : Nat), j + k = 2 ∧ v = .slice ao m cp ∧ i = .int .i64 (j : Int) ∧ Ow eT 8 46 w.heap.size wr (.slice ao m cp) (if j = 0 then [] else if j = 1 then xs else xs ++ ys) ∧ Gr w wr)
      case atStart => exact ⟨0, 0, ao, cap, by omega, rfl, rfl, O2.out, G2.out⟩
      case round =>
        obtain ⟨j, m, ao2, cp2, hjk2, rfl, rfl, how, hg2⟩ := hrel
        obtain ⟨V2, hV2⟩ : ∃ W, W = wr := ⟨_, rfl⟩
        subst hV2
        obtain ⟨q0, q1, ql⟩ := HQ.out _ hg2
        have GG := hid hg2
        clear hg2
        rcases (by omega : j = 0 ∨ j = 1 ∨ j = 2) with rfl | rfl | rfl
        · rw [if_pos rfl] at how
          have OW := hid how
          have hm : m = 0 := how.lst.len.1
          subst hm
          clear how
          go_wp2_with (at_builtin; refine wpList_append_ow eT_len rfl (.tmp 31) (.tmp 32) _ 46 64 _ Try.underlying25 tmr_info rfl (by omega) rfl w.heap.size _ [] rfl OW.out _ _ xs rfl (H1.out _ GG.out) (eT_one _) n1 (by rw [HX.out]; simp) (by omega) (by unfold maxLen; omega) GG.out.size xs rfl ?_; intro ao5 cap5 w6 ow6 cw6 bl6; have O6 := hid ow6; have C6 := hid (show Gr w w6 from Ch.trans GG.out cw6 (fun q hq => .inr (OW.out.blk hq).1)); clear ow6 cw6 bl6)
          go_roundg (gk - 1)
          case measure => omega
          case rel => exact ⟨1, n1, ao5, cap5, by omega, rfl, rfl, O6.out, C6.out⟩
        · rw [if_neg (by omega), if_pos rfl] at how
          have OW := hid how
          have hm : m = n1 := how.lst.len.1.trans HX.out.symm
          subst hm
          clear how
          go_wp2_with (at_builtin; refine wpList_append_ow eT_len rfl (.tmp 31) (.tmp 32) _ 46 64 _ Try.underlying25 tmr_info rfl (by omega) rfl w.heap.size _ xs rfl OW.out _ _ ys rfl (H2.out _ GG.out) (eT_one _) (m + n2) (by rw [← HX.out, ← HY.out]) (by omega) (by unfold maxLen; omega) GG.out.size (xs ++ ys) rfl ?_; intro ao5 cap5 w6 ow6 cw6 bl6; have O6 := hid ow6; have C6 := hid (show Gr w w6 from Ch.trans GG.out cw6 (fun q hq => .inr (OW.out.blk hq).1)); clear ow6 cw6 bl6)
          go_roundg (gk - 1)
          case measure => omega
          case rel => exact ⟨2, m + n2, ao5, cap5, by omega, rfl, rfl, O6.out, C6.out⟩
        · rw [if_neg (by omega), if_neg (by omega)] at how
          have OW := hid how
          clear how q0 q1 ql
          go_wp2
          go_ret
          exact ⟨_, rfl, OW.out, GG.out⟩
section
variable {P Q : List Tn} {L : List Tk}
theorem Ord.f1 (h : Ord P Q L) : (P.map (·.1)).filter (fun t => !t.nv) = P.map (·.1) := List.filter_eq_self.2 (fun t ht => by obtain ⟨x, hx, rfl⟩ := List.mem_map.1 ht; rw [h.np x hx]; rfl)
theorem Ord.f2 (h : Ord P Q L) : (Q.map (·.1)).filter (fun t => !t.nv) = [] := List.filter_eq_nil_iff.2 (fun t ht => by obtain ⟨x, hx, rfl⟩ := List.mem_map.1 ht; rw [(h.nq x hx).1]; simp)
theorem Ord.f3 (h : Ord P Q L) : (P.map (·.1)).filter (fun t => t.nv) = [] := List.filter_eq_nil_iff.2 (fun t ht => by obtain ⟨x, hx, rfl⟩ := List.mem_map.1 ht; rw [h.np x hx]; exact Bool.false_ne_true)
theorem Ord.f4 (h : Ord P Q L) : (Q.map (·.1)).filter (fun t => t.nv) = Q.map (·.1) := List.filter_eq_self.2 (fun t ht => by obtain ⟨x, hx, rfl⟩ := List.mem_map.1 ht; exact (h.nq x hx).1)
end
theorem side {xs : List Hp.W3} {S R : List Tn} {M : List Me} {nv : Bool} (hp : xs.Perm (S.map nd)) (hn : Hp.Nn xs) (hm : (M.map (fun e => (e.t, e.n))).Perm (S ++ R)) (hS : ∀ x ∈ S, x.1.nv = nv) (hR : ∀ x ∈ R, x.1.nv ≠ nv) (hu : (M.map (·.t.id)).Nodup) : Sd1 M S nv where
  tt := fun e he hv => by
    rcases List.mem_append.1 (hm.mem_iff.1 (List.mem_map.2 ⟨e, he, rfl⟩)) with h | h
    · exact h
    · exact (hR _ h hv).elim
  from' := fun x hx => by
    obtain ⟨e, he, e1⟩ := List.mem_map.1 (hm.mem_iff.2 (List.mem_append_left R hx))
    exact ⟨e, he, by rw [← e1], by rw [← e1], by have := hS x hx; rw [← e1] at this; exact this⟩
  nn := by
    have h1 := ((hp.map Hp.W3.n).nodup_iff).1 hn
    rw [List.map_map] at h1
    exact h1
  uid := hu
theorem listed_ever {T1 T2 : Nat → Prop} {w : World} {b : Nat} {last : Int} {d : Dt} {L : List Tk} (h : Tw T1 T2 w b last d) (hl : Lk d L) (hL : L.length ≤ 1024) : Calls Try.prog 44 #[.pointer (some ⟨b, 0, none⟩), .bool false] w fun e w' => ∃ v, e = .returned v ∧ Ow eT 8 46 w.heap.size w' v (L.filter (fun t => !t.nv)) ∧ Gr w w' := by
  obtain ⟨P, Q, ho, hp1, hp2, hp3⟩ := hl.ex
  have e : L.filter (fun t => !t.nv) = P.map (·.1) := by
    rw [ho.eq, List.filter_append, ho.f1, ho.f2, List.append_nil]
  rw [e]
  have hx := hl.xl.1
  exact listed_core h false d.bd d.xs d.dn P h.h1 (fun W k => line_w (h.gr k) ⟨0, 0, 0, 0, 0, 0, false, 0⟩) hp1 ho.sp (side hp1 h.h1.nn hp3 ho.np (fun x hx => by rw [(ho.nq x hx).1]; exact Bool.noConfusion) hl.ids) hl.st hl.sn (by omega) (by omega)
theorem listed_never {T1 T2 : Nat → Prop} {w : World} {b : Nat} {last : Int} {d : Dt} {L : List Tk} (h : Tw T1 T2 w b last d) (hl : Lk d L) (hL : L.length ≤ 1024) : Calls Try.prog 44 #[.pointer (some ⟨b, 0, none⟩), .bool true] w fun e w' => ∃ v, e = .returned v ∧ Ow eT 8 46 w.heap.size w' v (L.filter (fun t => t.nv)) ∧ Gr w w' := by
  obtain ⟨P, Q, ho, hp1, hp2, hp3⟩ := hl.ex
  have e : L.filter (fun t => t.nv) = Q.map (·.1) := by
    rw [ho.eq, List.filter_append, ho.f3, ho.f4, List.nil_append]
  rw [e]
  have hx := hl.xl.2
  exact listed_core h true d.bv d.ys d.vn Q h.h2 (fun W k => line_w (h.gr k) ⟨0, 0, 0, 0, 0, 0, true, 0⟩) hp2 ho.sq (side hp2 h.h2.nn (hp3.trans List.perm_append_comm) (fun x hx => (ho.nq x hx).1) (fun x hx => by rw [ho.np x hx]; exact Bool.noConfusion) hl.ids) hl.st hl.sn (by omega) (by omega)
theorem Lk.two {d : Dt} {L : List Tk} (h : Lk d L) : L.filter (fun t => !t.nv) ++ L.filter (fun t => t.nv) = L := by
  obtain ⟨P, Q, ho, _⟩ := h.ex
  rw [ho.eq, List.filter_append, List.filter_append, ho.f1, ho.f2, ho.f3, ho.f4]
  simp
end Go.Proofs.Ytgkapopkjgljjaa.Lt
