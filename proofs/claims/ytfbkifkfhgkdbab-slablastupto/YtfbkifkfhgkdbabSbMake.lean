/-
  What makeSlot of a slab answers and leaves: one slot more, of generation 0 and not alive. Condition: the slab is there, and its slots are not too many.
-/
import Derived.Test.YtfbkifkfhgkdbabSbCache
namespace Go.Proofs.Ytfbkifkfhgkdbab.Sb
open Go.RowKit
attribute [local go_sem ↓] Go.wp_at_zero Go.wp_at_succ

/-- one slot more -/
def makeS (x : Sl) : Sl := { x with G := x.G ++ [0], A := x.A ++ [false] }
theorem ls_bool (w : World) (z : Bool) (t : TypeId) (k : Nat) (hk : k = w.heap.size) : Ls (fun _ => True) (w.alloc (.cells #[.bool z] t)) (.slice (some ⟨k, 0, none⟩) 1 1) [.bool z] := hk ▸
  ⟨some ⟨w.heap.size, 0, none⟩, 1, rfl, ⟨Nat.le_refl _, fun h => by cases h⟩, .inr ⟨w.heap.size, 0, rfl, trivial, by simp, fun i x hx => by
    obtain ⟨rfl, rfl⟩ : i = 0 ∧ x = .bool z := by
      cases i with
      | zero => simpa using hx.symm
      | succ i => simp at hx
    exact (cell_of (MapKept.heap_alloc w _).1 0).trans rfl⟩⟩

set_option maxHeartbeats 2000000 in
theorem makeSlot_any (S : Nat → Prop) (base b : Nat) (L : Int) (x : Sl) (w : World) (h : SlabIn S base w b L x) (hbase : base ≤ w.heap.size) (hgl : x.G.length ≤ 4294967295) (hal : x.A.length ≤ 4294967295) :
    Calls Try.prog 45 #[.pointer (some ⟨b, 0, none⟩)] w fun e w' => e = .returned (.int .i64 (x.G.length : Int)) ∧ Left S base w w' b L (makeS x) := by
  obtain ⟨vg, va, vc, vf, cv, hf, hs, hnb, hSb, hSB, hlt⟩ := h
  obtain ⟨ga, gc, rfl⟩ := hs.g.form
  obtain ⟨aa, ac, rfl⟩ := hs.a.form
  obtain ⟨ca, cc, rfl⟩ := hs.c.form
  obtain ⟨fa, fc, rfl⟩ := hs.f.form
  obtain ⟨nG, hnG⟩ : ∃ n, n = (iv x.G).length := ⟨_, rfl⟩
  obtain ⟨nA, hnA⟩ : ∃ n, n = (bv x.A).length := ⟨_, rfl⟩
  obtain ⟨nC, hnC⟩ : ∃ n, n = cv.length := ⟨_, rfl⟩
  obtain ⟨nF, hnF⟩ : ∃ n, n = (iv x.F).length := ⟨_, rfl⟩
  rw [← hnG, ← hnA, ← hnC, ← hnF] at hf hs hnb hSB
  obtain ⟨c0, c1, c2, c3, c4⟩ := hf.cells
  obtain ⟨y0, y1, y2, y3, y4⟩ := hf.fz
  have bl := hf.lt
  have HF := hid hf
  have HS := hid hs
  have HNB := hid hnb
  have HSB := hid hSB
  have HLT := hid hlt
  have HSb := hid hSb
  have hnGl : nG ≤ 4294967295 := by rw [hnG, iv_length]; exact hgl
  have hnAl : nA ≤ 4294967295 := by rw [hnA, bv_length]; exact hal
  have HGL := hid (show x.G.length = nG by rw [hnG, iv_length])
  have HLen1 := hid (show nG + 1 = (iv x.G).length + [Value.int .i64 0].length by rw [hnG]; rfl)
  have HLen2 := hid (show nA + 1 = (bv x.A).length + [Value.bool false].length by rw [hnA]; rfl)
  have hw : IntKind.i64.wrap ((nG : Int) + 1 - 1) = (nG : Int) := by rw [IntKind.wrap_i64]; omega
  clear hf hs hnb hSB hlt hSb hnG hnA hnC hnF hgl hal y0 y1 y2 y3 y4
  go_enter Try.func45, Try.ntmps45
  go_wp2_with (first
    | (at_builtin; refine wpList_append_ow rfl (.tmp 8) (.tmp 9) 41 3 8 (.int .i64 0) Try.underlying41 int_info rfl rfl base (.slice ga nG gc) (iv x.G) rfl (HS.out.g.alloc _) _ _ [.int .i64 0] rfl (ls_int _ _ _) (fun u hu => by rw [List.mem_singleton.1 hu]; rfl) (nG + 1) HLen1.out (by omega) (by unfold maxLen; omega) (by simp; omega) (iv (x.G ++ [0])) (by rw [iv_append]; rfl) ?_; intro ao2 cap2 w2 o2 g2 bl2; have G2 := ((Ch.refl (Blk (.slice ga nG gc)) w).alloc _).trans' g2; have F2 := HF.out.ch G2 (fun e => HNB.out (SB.g e)); have HB2 := hid (fun q (e : Blk (.slice ao2 (nG + 1) cap2) q) => (show Blk (.slice ga nG gc) q ∨ w.heap.size ≤ q from (bl2 q e).imp id (fun e => Nat.le_trans (((Ch.refl NoB w).alloc (.cells #[.int .i64 0] 3)).size) e))); obtain ⟨e0, e1, e2, e3, e4⟩ := F2.cells; obtain ⟨z0, z1, z2, z3, z4⟩ := F2.fz; have bl2' := F2.lt; have C3 := (Ch.refl (Only b) w2).own 1 (.slice ao2 (nG + 1) cap2); have HN3 := hid (fun (e : SB (.slice ao2 (nG + 1) cap2) (.slice aa nA ac) (.slice ca nC cc) (.slice fa nF fc) cv b) => (show False from (SB.gens (vg := .slice ga nG gc) e).elim (fun e => HNB.out e) (fun e => (HB2.out b e).elim (fun e => HNB.out (SB.g e)) (fun e => by omega)))); have HS3 := hid ((HS.out.gens G2 o2 HB2.out).ch C3 (fun q a e => by have e1 : q = b := e; subst e1; exact HN3.out a)); have HF3 := hid (show Fv 51 (w2.setCell ⟨b, 1, none⟩ (.slice ao2 (nG + 1) cap2)) b (.int .i64 L) (.slice ao2 (nG + 1) cap2) (.slice aa nA ac) (.slice ca nC cc) (.slice fa nF fc) from setCell_block F2 1 _); have HC2 := hid G2; have HC3 := hid C3; have HL2 := hid bl2'; clear o2 g2 bl2 G2 F2 C3)
    | (at_builtin; refine wpList_append_ow rfl (.tmp 19) (.tmp 20) 42 4 1 (.bool false) Try.underlying42 bool_info rfl rfl base (.slice aa nA ac) (bv x.A) rfl (HS3.out.a.alloc _) _ _ [.bool false] rfl (ls_bool _ _ _ _ (by simp [World.setCell])) (fun u hu => by rw [List.mem_singleton.1 hu]; rfl) (nA + 1) HLen2.out (by omega) (by unfold maxLen; omega) (Nat.le_trans hbase (Nat.le_trans (HC2.out.size) (Nat.le_trans HC3.out.size (((Ch.refl NoB _).alloc _).size)))) (bv (x.A ++ [false])) (by rw [bv_append]; rfl) ?_; intro ao4 cap4 w4 o4 g4 bl4; have G4 := ((Ch.refl (Blk (.slice aa nA ac)) (w2.setCell ⟨b, 1, none⟩ (.slice ao2 (nG + 1) cap2))).alloc _).trans' g4; have F4 := HF3.out.ch G4 (fun e => HN3.out (SB.a e)); have HB4 := hid (fun q (e : Blk (.slice ao4 (nA + 1) cap4) q) => (show Blk (.slice aa nA ac) q ∨ (w2.setCell ⟨b, 1, none⟩ (.slice ao2 (nG + 1) cap2)).heap.size ≤ q from (bl4 q e).imp id (fun e => Nat.le_trans (((Ch.refl NoB _).alloc (.cells #[.bool false] 4)).size) e))); clear e0 e1 e2 e3 e4 z0 z1 z2 z3 z4; obtain ⟨e0, e1, e2, e3, e4⟩ := F4.cells; obtain ⟨z0, z1, z2, z3, z4⟩ := F4.fz; have bl4' := F4.lt; have C5 := (Ch.refl (Only b) w4).own 2 (.slice ao4 (nA + 1) cap4); have HN5 := hid (fun (e : SB (.slice ao2 (nG + 1) cap2) (.slice ao4 (nA + 1) cap4) (.slice ca nC cc) (.slice fa nF fc) cv b) => (show False from (SB.alive (va := .slice aa nA ac) e).elim (fun e => HN3.out e) (fun e => (HB4.out b e).elim (fun e => HN3.out (SB.a e)) (fun e => by have := HF3.out.lt; omega)))); have HS5 := hid ((HS3.out.alive G4 o4 HB4.out).ch C5 (fun q a e => by have e1 : q = b := e; subst e1; exact HN5.out a)); have HF5 := hid (show Fv 51 (w4.setCell ⟨b, 2, none⟩ (.slice ao4 (nA + 1) cap4)) b (.int .i64 L) (.slice ao2 (nG + 1) cap2) (.slice ao4 (nA + 1) cap4) (.slice ca nC cc) (.slice fa nF fc) from setCell_block F4 2 _); have HC4 := hid G4; have HC5 := hid C5; clear o4 g4 bl4 G4 F4 C5))
  go_ret
  refine ⟨by rw [HGL.out]; rfl, Left.of HF5.out HS5.out HN5.out HSb.out ?_ ?_⟩
  · intro q e
    rcases SB.alive (va := .slice aa nA ac) e with e | e
    · rcases SB.gens (vg := .slice ga nG gc) e with e | e
      · exact .inl (HSB.out q e)
      · exact (HB2.out q e).imp (fun e => HSB.out q (SB.g e)) id
    · exact (HB4.out q e).imp (fun e => HSB.out q (SB.a e)) (fun e => Nat.le_trans (Nat.le_trans HC2.out.size HC3.out.size) e)
  · have k1 := HC2.out.mono (T := S) (fun q e => .inl (HSB.out q (SB.g e)))
    have k2 := k1.trans HC3.out (fun q e => .inl (by have e1 : q = b := e; rw [e1]; exact HSb.out))
    have k3 := k2.trans HC4.out (fun q e => .inl (HSB.out q (SB.a e)))
    exact k3.trans HC5.out (fun q e => .inl (by have e1 : q = b := e; rw [e1]; exact HSb.out))
end Go.Proofs.Ytfbkifkfhgkdbab.Sb
