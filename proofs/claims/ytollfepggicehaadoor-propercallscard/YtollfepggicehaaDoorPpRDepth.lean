/-
  What the document's Depth answers: layer by layer. Conditions: words are words.
-/
import Derived.Test.YtollfepggicehaaDoorPpRCalls
import Derived.Test.YtollfepggicehaaDoorPpDepth
namespace Go.Proofs.YtollfepggicehaaDoor.Lt
open Go.RowKit Wd

/-- what is called just so deep -/
def Lv (wy : Int → List Int) (f : Int) : Nat → Int → Prop
  | 0, x => x = f
  | d + 1, x => ∃ y, Lv wy f d y ∧ x ∈ wy y
theorem lv_cn {wy : Int → List Int} {f : Int} : ∀ (d n : Nat), Cn wy (d + n) f ↔ ∃ x, Lv wy f d x ∧ Cn wy n x := by
  intro d
  induction d with
  | zero =>
    intro n
    rw [Nat.zero_add]
    exact ⟨fun h => ⟨f, rfl, h⟩, fun ⟨x, hx, h⟩ => by have e : x = f := hx; rw [← e]; exact h⟩
  | succ d ih =>
    intro n
    rw [show d + 1 + n = d + (n + 1) by omega, ih (n + 1)]
    constructor
    · rintro ⟨x, hx, y, hy, h⟩
      exact ⟨y, ⟨x, hx, hy⟩, h⟩
    · rintro ⟨y, ⟨x, hx, hy⟩, h⟩
      exact ⟨x, hx, y, hy, h⟩
theorem lv_in {wy : Int → List Int} {N : Nat} (h : WyIn N wy) {f : Int} (f0 : 0 ≤ f) (f1 : f < (N : Int)) : ∀ (d : Nat) x, Lv wy f d x → 0 ≤ x ∧ x < (N : Int) := by
  intro d
  induction d with
  | zero => intro x hx; have e : x = f := hx; rw [e]; exact ⟨f0, f1⟩
  | succ d ih =>
    rintro x ⟨y, hy, hx⟩
    obtain ⟨y0, y1⟩ := ih y hy
    have := h y.toNat (by omega) x (by rw [show ((y.toNat : Nat) : Int) = y by omega]; exact hx)
    exact this
/-- the layer behind, as far as its callers are gone over -/
def Lp (wy : Int → List Int) (bs : List Bool) (i : Nat) (x : Int) : Prop := ∃ y : Nat, y < i ∧ bs[y]? = some true ∧ x ∈ wy (y : Int)
theorem lp_succ {wy : Int → List Int} {bs : List Bool} {i : Nat} (x : Int) : Lp wy bs (i + 1) x ↔ Lp wy bs i x ∨ (bs[i]? = some true ∧ x ∈ wy (i : Int)) := by
  constructor
  · rintro ⟨y, h1, h2, h3⟩
    by_cases e : y = i
    · subst e; exact .inr ⟨h2, h3⟩
    · exact .inl ⟨y, by omega, h2, h3⟩
  · rintro (⟨y, h1, h2, h3⟩ | ⟨h2, h3⟩)
    · exact ⟨y, by omega, h2, h3⟩
    · exact ⟨i, by omega, h2, h3⟩
theorem lp_all {wy : Int → List Int} {bs : List Bool} {f : Int} {d : Nat} (h : ∀ x, bt bs x ↔ Lv wy f d x) (x : Int) : Lp wy bs bs.length x ↔ Lv wy f (d + 1) x := by
  constructor
  · rintro ⟨y, _, h2, h3⟩
    exact ⟨_, (h _).1 ((bt_nat _ _).2 h2), h3⟩
  · rintro ⟨y, h1, h2⟩
    have hb := (h y).2 h1
    have := bt_lt hb
    exact ⟨y.toNat, by omega, hb.2, by rw [show ((y.toNat : Nat) : Int) = y by omega]; exact h2⟩
theorem ne_blk' {g n m : Nat} {q : Nat} (h : Blk (.slice (some ⟨g, 0, none⟩) n m) q) : q = g := by
  have e : some g = some q := h
  injection e with e
  exact e.symm
set_option maxHeartbeats 8000000 in
set_option maxRecDepth 20000 in
theorem rDepth_any (P : Nat → Prop) (w : World) (ia ib ic : Value) (cs : List Int) (fs : List (Int × Int)) (ts : List Tb) (h : Pin P w ia ib ic cs fs ts) (hu : U32s cs) (rch : Nat → List Int) (hr : Rcs cs fs rch) (dp : Nat → Int) (hdp : Dps cs rch dp) (f : Int) :
    Calls Tryd.prog 22 #[.agg #[ia, ib, ic], .int .i64 f] w fun e w' => e = .returned (.tuple #[.int .i64 (dpN cs fs ts dp f), .int .i64 (ask cs fs ts f (fs.length : Int))]) ∧ Gr w w' := by
  have HL := hid (fun (W : World) (p : Gr w W) => looked_any P W ia ib ic cs fs ts (h.gr p) hu f (fs.length : Int))
  have HYES := hid (fun (q : ask cs fs ts f (fs.length : Int) = 0) => ask_may q)
  have HC := hid h.c
  have HF := hid h.f
  obtain ⟨aoc, cac, hia⟩ := h.c.form
  obtain ⟨aof, caf, hib⟩ := h.f.form
  obtain ⟨aot, cat, hic⟩ := h.t.form
  unfold dpN
  obtain ⟨nc, hnc⟩ : ∃ n, n = cs.length := ⟨_, rfl⟩
  obtain ⟨nf, hnf⟩ : ∃ n, n = fs.length := ⟨_, rfl⟩
  obtain ⟨nt, hnt⟩ : ∃ n, n = ts.length := ⟨_, rfl⟩
  rw [← hnc] at hia
  rw [← hnf] at hib HL HYES ⊢
  rw [← hnt] at hic HYES
  generalize ask cs fs ts f (nf : Int) = E at HL HYES ⊢
  subst hia hib hic
  have K1 := hid (Gr.alloc (Gr.refl w) #[.slice aoc nc cac, .slice aof nf caf, .slice aot nt cat] 26)
  have B1 := hid (MapKept.heap_alloc w (.cells #[.slice aoc nc cac, .slice aof nf caf, .slice aot nt cat] 26)).1
  by_cases hE : E = 0
  · subst hE
    obtain ⟨hm, f0, f1⟩ := HYES.out (by first | rfl | trivial)
    obtain ⟨j, rfl⟩ : ∃ j : Nat, f = (j : Int) := ⟨f.toNat, by omega⟩
    have hjl : j < nf := by omega
    have HN := hid (fun (i : Nat) (hi : i < nf) (W : World) (p : Gr w W) => show Calls Tryd.prog 46 #[.agg #[.slice aoc nc cac, .slice aof nf caf, .slice aot nt cat], .int .i64 (i : Nat), .bool false] W (BmR W nf (wF2 cs rch false (i : Int))) from by
      have := rnamed_any P W aoc aof aot nc nf nt cac caf cat cs fs (HC.out.gr p) (HF.out.gr p) hu hm rch hr i hi false
      unfold wF2
      rw [Int.toNat_natCast]
      exact this)
    have HWI := hid (show WyIn nf (wF2 cs rch false) by rw [hnf]; exact wF_in hm hr false)
    have hfn : nf ≤ 256 := by rw [hnf]; exact hm.nf
    have HU := hid (fun (d : Int) (hd : Dp (wF2 cs rch false) (j : Int) d) => hd.uniq (hdp j))
    simp only [if_true, Int.toNat_natCast]
    generalize dp j = L at HU ⊢
    generalize wF2 cs rch false = wy at HN HU HWI
    have HB0 := hid (show (List.replicate nf false)[j]? = some false by rw [List.getElem?_replicate, if_pos hjl])
    have q0 : (0 : Int) ≤ (j : Int) := by omega
    have q1 : (j : Int) < (nf : Int) := by omega
    clear h hu hr hnc hnf hnt hm HC HF hdp
    go_enter Tryd.func22, Tryd.ntmps22
    go_wp2_with (first | (go_at_call 34; refine (HL.out _ K1.out).mono ?_; rintro e w1 ⟨rfl, g1⟩; have G1 := hid (Gr.trans K1.out g1); have J1 := hid (gr_blk B1.out g1); obtain ⟨p0, p1, p2, pl⟩ := p_cells J1.out; clear g1) | (at_make; refine wpList_make_bools rfl _ _ rfl nf _ _ rfl rfl (by omega) ?_; intro w2 o2 g2; obtain ⟨c1, z1, l1, s1⟩ := o2.bit HB0.out; have S1 := hid (s1 true); have S2 := hid (show w.heap.size + 1 ≤ w1.heap.size from lt_of_block J1.out); have G2 := hid (Gr.trans G1.out g2); have J2 := hid (gr_blk J1.out g2); obtain ⟨a0, a1, a2, al⟩ := p_cells J2.out; clear o2 g2 s1))
    have G0 := hid (show Gr w (w2.setCell ⟨w1.heap.size, j, none⟩ (.bool true)) from Ch.fresh G2.out G1.out.size j (.bool true))
    have P0 := hid (show (w2.setCell ⟨w1.heap.size, j, none⟩ (.bool true)).heap[w.heap.size]? = some (.cells #[.slice aoc nc cac, .slice aof nf caf, .slice aot nt cat] 26 (0, 0)) from (((Ch.refl (Only w1.heap.size) w2).own j (.bool true)).block w.heap.size (lt_of_block J2.out) (fun q => by have q1 : w.heap.size = w1.heap.size := q; have := S2.out; omega)).trans J2.out)
    have HLV := hid (show ∀ x, bt ((List.replicate nf false).set j true) x ↔ Lv wy (j : Int) 0 x from fun x => by
      rw [bt_set _ _ (by simpa using hjl)]
      exact ⟨fun q => q.elim id (fun z => absurd z (bt_rep _ _)), fun q => .inl q⟩)
    clear p0 p1 p2 pl c1 z1 l1 a0 a1 a2 al
    rename World => V1
    rename World => V2
    go_loopg [7, 8] (nf + 1) (fun m at_ dd wq => ∃ (d g n : Nat) (bs : List Bool), d + m = nf + 1 ∧ dd = .int .i64 ((d : Nat) : Int) ∧ at_ = .slice (some ⟨g, 0, none⟩) nf n ∧ w.heap.size + 1 ≤ g ∧ bs.length = nf ∧ Ow eB 1 4 g wq (.slice (some ⟨g, 0, none⟩) nf n) bs ∧ (∀ x, bt bs x ↔ Lv wy (j : Int) d x) ∧ (∃ x, Lv wy (j : Int) d x) ∧ wq.heap[w.heap.size]? = some (.cells #[.slice aoc nc cac, .slice aof nf caf, .slice aot nt cat] 26 (0, 0)) ∧ Gr w wq)
    case atStart => exact ⟨0, _, nf, _, by omega, rfl, rfl, S2.out, by simp, S1.out, HLV.out, ⟨_, rfl⟩, P0.out, G0.out⟩
    case round =>
      obtain ⟨d, g, n, bs, hdm, rfl, rfl, hg1, hbl, hO, hLv, hEx, hP, hG⟩ := hrel
      have HO := hid hO
      have HLv := hid hLv
      have HEx := hid hEx
      have HP := hid hP
      have HG := hid hG
      have HBL := hid hbl
      obtain ⟨p0, p1, p2, pl⟩ := p_cells hP
      have hgl := (hO.blk (q := g) rfl).2
      clear hO hLv hEx hP hG hbl
      by_cases hd : d ≤ nf
      · have d1 : decide ((d : Int) ≤ (nf : Int)) = true := decide_eq_true (by omega)
        have d2 : (d : Int) ≤ (nf : Int) := by omega
        go_wp2_with (at_make; refine wpList_make_bools rfl _ _ rfl nf _ _ rfl rfl (by omega) ?_; intro w3 o3 g3; have O3 := hid o3; have G3 := hid (Gr.trans HG.out g3); have OA := hid (HO.out.gr g3); have J3 := hid (gr_blk HP.out g3); have SZ := hid hgl; clear o3 g3)
        clear p0 p1 p2 pl
        obtain ⟨gd, hgd⟩ : ∃ x, x = wr.heap.size := ⟨_, rfl⟩
        rw [← hgd] at O3 SZ
        first | rw [← hgd] | skip
        clear hgd
        rename World => V3
        rename World => V4
        go_loopg [10, 11] nf (fun m so i wq => ∃ (k : Nat) (sm : Bool) (bd : List Bool), k + m = nf ∧ i = .int .i64 ((k : Nat) : Int) ∧ so = .bool sm ∧ bd.length = nf ∧ Ow eB 1 4 gd wq (.slice (some ⟨gd, 0, none⟩) nf nf) bd ∧ (∀ x, bt bd x ↔ Lp wy bs k x) ∧ (sm = true ↔ ∃ x, bt bd x) ∧ Ow eB 1 4 g wq (.slice (some ⟨g, 0, none⟩) nf n) bs ∧ wq.heap[w.heap.size]? = some (.cells #[.slice aoc nc cac, .slice aof nf caf, .slice aot nt cat] 26 (0, 0)) ∧ Gr w wq)
        case atStart => exact ⟨0, false, _, by omega, rfl, rfl, by simp, O3.out, (fun x => ⟨fun q => absurd q (bt_rep _ _), fun ⟨_, q, _⟩ => by omega⟩), ⟨(fun q => by cases q), fun ⟨x, q⟩ => absurd q (bt_rep _ _)⟩, OA.out, J3.out, G3.out⟩
        case round =>
          obtain ⟨k, sm, bd, hkm, rfl, rfl, hbl, hO, hB, hS, hA, hP, hG⟩ := hrel
          have HOd := hid hO
          have HBd := hid hB
          have HSm := hid hS
          have HAt := hid hA
          have HPj := hid hP
          have HGr := hid hG
          have HBLd := hid hbl
          obtain ⟨p0, p1, p2, pl⟩ := p_cells hP
          clear hO hB hS hA hP hG hbl
          by_cases hk : k < nf
          · have k0 : (0 : Int) ≤ (k : Int) := by omega
            have k1 : (k : Int) < (nf : Int) := by omega
            obtain ⟨ba, hba⟩ : ∃ x, bs[k]? = some x := ⟨_, List.getElem?_eq_getElem (by rw [HBL.out]; exact hk)⟩
            obtain ⟨ca, _, la, _⟩ := HAt.out.bit hba
            have HLP := hid (fun x => lp_succ (wy := wy) (bs := bs) (i := k) x)
            rw [hba] at HLP
            cases ba with
            | false =>
              clear hba
              go_wp2
              go_roundg (nf - (k + 1))
              case measure => omega
              case rel => exact ⟨k + 1, sm, bd, by omega, by simp, rfl, HBLd.out, HOd.out, (fun x => (HBd.out x).trans ((HLP.out x).trans ⟨fun q => q.elim id (fun z => by cases z.1), .inl⟩).symm), HSm.out, HAt.out, HPj.out, HGr.out⟩
            | true =>
              have HX := hid (fun (W : World) (p : Gr w W) => HN.out k hk W p)
              generalize wy (k : Int) = ws at HX HLP
              have SD := hid ((HOd.out.blk (q := gd) rfl).2)
              clear hba
              go_wp2_with (go_at_call 46; refine (HX.out _ HGr.out).mono ?_; rintro e w5 ⟨v5, nb, rfl, o5, hl5, hb5, g5⟩; obtain ⟨ao5, cap5, hv5⟩ := o5.form; rw [hl5] at hv5; subst hv5; have O5 := hid (o5.lower SD.out); have HL5 := hid hl5; have HB5 := hid hb5; have G5 := hid (Gr.trans HGr.out g5); have OD5 := hid (HOd.out.gr g5); have OA5 := hid (HAt.out.gr g5); have J5 := hid (gr_blk HPj.out g5); clear o5 g5 hl5 hb5)
              clear p0 p1 p2 pl ca la
              rename World => V5
              rename World => V6
              go_loopg [10, 13] nf (fun m so i wq => ∃ (l : Nat) (s2 : Bool) (b2 : List Bool), l + m = nf ∧ i = .int .i64 ((l : Nat) : Int) ∧ so = .bool s2 ∧ b2.length = nf ∧ Ow eB 1 4 gd wq (.slice (some ⟨gd, 0, none⟩) nf nf) b2 ∧ (∀ x, bt b2 x ↔ bt bd x ∨ (x < (l : Int) ∧ bt nb x)) ∧ (s2 = true ↔ ∃ x, bt b2 x) ∧ Ow eB 1 4 (gd + 1) wq (.slice ao5 nf cap5) nb ∧ Ow eB 1 4 g wq (.slice (some ⟨g, 0, none⟩) nf n) bs ∧ wq.heap[w.heap.size]? = some (.cells #[.slice aoc nc cac, .slice aof nf caf, .slice aot nt cat] 26 (0, 0)) ∧ Gr w wq)
              case atStart => exact ⟨0, sm, bd, by omega, rfl, rfl, HBLd.out, OD5.out, (fun x => ⟨.inl, fun q => q.elim id (fun z => by have := (bt_lt z.2).1; omega)⟩), HSm.out, O5.out, OA5.out, J5.out, G5.out⟩
              case round =>
                obtain ⟨l, s2, b2, hlm, rfl, rfl, hbl, hO, hB, hS, hN, hA, hP, hG⟩ := hrel
                have HO6 := hid hO
                have HB6 := hid hB
                have HS6 := hid hS
                have HN6 := hid hN
                have HA6 := hid hA
                have HP6 := hid hP
                have HG6 := hid hG
                have HL6 := hid hbl
                clear hO hB hS hN hA hP hG hbl
                by_cases hl : l < nf
                · obtain ⟨c, hc⟩ : ∃ x, nb[l]? = some x := ⟨_, List.getElem?_eq_getElem (by rw [HL5.out]; exact hl)⟩
                  obtain ⟨bu, hbu⟩ : ∃ x, b2[l]? = some x := ⟨_, List.getElem?_eq_getElem (by rw [HL6.out]; exact hl)⟩
                  obtain ⟨g3, cap4, hv, _, hgl3, _, hcs, _, _⟩ := HN6.out.get eB_len hc
                  injection hv with hv1 hv2 hv3
                  subst hv1
                  have c0 := hcs 0 _ rfl
                  rw [Nat.mul_one, Nat.add_zero] at c0
                  have lg3 := hgl3
                  have g3n : g3 ≠ gd := fun e => by have := (HN6.out.blk (q := g3) rfl).1; omega
                  obtain ⟨cb, zb, lb, sb⟩ := HO6.out.bit hbu
                  have l0 : (0 : Int) ≤ (l : Int) := by omega
                  have l1 : (l : Int) < (nf : Int) := by omega
                  have HB3 := hid hbu
                  have HC3 := hid hc
                  have HW := hid (show ∀ u : Bool, Gr w (wr.setCell ⟨gd, l, none⟩ (.bool u)) ∧ Ow eB 1 4 (gd + 1) (wr.setCell ⟨gd, l, none⟩ (.bool u)) (.slice (some ⟨g3, 0, none⟩) nf cap5) nb ∧ Ow eB 1 4 g (wr.setCell ⟨gd, l, none⟩ (.bool u)) (.slice (some ⟨g, 0, none⟩) nf n) bs ∧ (wr.setCell ⟨gd, l, none⟩ (.bool u)).heap[w.heap.size]? = some (.cells #[.slice aoc nc cac, .slice aof nf caf, .slice aot nt cat] 26 (0, 0)) from fun u =>
                    ⟨Ch.fresh HG6.out (by have := SZ.out; omega) l (.bool u), HN6.out.ch ((Ch.refl (Only gd) wr).own l (.bool u)) (fun q hq e => by have e1 : q = gd := e; have := (HN6.out.blk hq).1; omega), HA6.out.ch ((Ch.refl (Only gd) wr).own l (.bool u)) (fun q hq e => by have e1 : q = gd := e; have e2 := ne_blk' hq; have := SZ.out; omega), (((Ch.refl (Only gd) wr).own l (.bool u)).block w.heap.size (lt_of_block HP6.out) (fun q => by have q1 : w.heap.size = gd := q; have := SZ.out; omega)).trans HP6.out⟩)
                  have MS := hid sb
                  have HBX := hid (show ∀ b3 : List Bool, (∀ x, bt b3 x ↔ bt b2 x ∨ (x = (l : Int) ∧ nb[l]? = some true)) → ∀ x, bt b3 x ↔ bt bd x ∨ (x < ((l + 1 : Nat) : Int) ∧ bt nb x) from fun b3 h3 x => by
                    rw [h3 x, HB6.out x]
                    constructor
                    · rintro ((q | q) | ⟨q1, q2⟩)
                      · exact .inl q
                      · exact .inr ⟨by have := q.1; omega, q.2⟩
                      · exact .inr ⟨by omega, by rw [q1]; exact (bt_nat _ _).2 q2⟩
                    · rintro (q | ⟨q1, q2⟩)
                      · exact .inl (.inl q)
                      · by_cases e : x = (l : Int)
                        · exact .inr ⟨e, by rw [e] at q2; exact (bt_nat _ _).1 q2⟩
                        · exact .inl (.inr ⟨by omega, q2⟩))
                  clear hcs hv2 hv3 sb hgl3 hbu hc
                  cases s2 with
                  | true =>
                    cases bu with
                    | true =>
                      cases c with
                      | true =>
                        obtain ⟨GS, NS, AS, PS⟩ := HW.out true
                        have MS1 := MS.out true
                        rw [set_same HB3.out] at MS1
                        have HB7 := hid (HBX.out b2 (fun x => ⟨.inl, fun q => q.elim id (fun z => by rw [z.1]; exact (bt_nat _ _).2 HB3.out)⟩))
                        have HS7 := hid (show (true = true ↔ ∃ x, bt b2 x) from HS6.out)
                        have MS2 := hid MS1
                        have GS2 := hid GS
                        have NS2 := hid NS
                        have AS2 := hid AS
                        have PS2 := hid PS
                        have nc0 : (wr.setCell ⟨gd, l, none⟩ (.bool true)).cell? ⟨g3, l, none⟩ = some (.bool true) := (((Ch.refl (Only gd) wr).own l (.bool true)).cell lg3 (fun q => g3n q)).trans c0
                        clear MS1 GS NS AS PS
                        go_wp2
                        clear c0 cb zb lb
                        go_roundg (gk - 1)
                        case measure => omega
                        case rel => exact ⟨l + 1, true, b2, by omega, by simp, rfl, HL6.out, MS2.out, HB7.out, by first | exact HS7.out | simpa using HS7.out, NS2.out, AS2.out, PS2.out, GS2.out⟩
                      | false =>
                        obtain ⟨GS, NS, AS, PS⟩ := HW.out true
                        have MS1 := MS.out true
                        rw [set_same HB3.out] at MS1
                        have HB7 := hid (HBX.out b2 (fun x => ⟨.inl, fun q => q.elim id (fun z => by have e := z.2; rw [HC3.out] at e; cases e)⟩))
                        have HS7 := hid (show (true = true ↔ ∃ x, bt b2 x) from HS6.out)
                        have MS2 := hid MS1
                        have GS2 := hid GS
                        have NS2 := hid NS
                        have AS2 := hid AS
                        have PS2 := hid PS
                        have nc0 : (wr.setCell ⟨gd, l, none⟩ (.bool true)).cell? ⟨g3, l, none⟩ = some (.bool false) := (((Ch.refl (Only gd) wr).own l (.bool true)).cell lg3 (fun q => g3n q)).trans c0
                        clear MS1 GS NS AS PS
                        go_wp2
                        clear c0 cb zb lb
                        go_roundg (gk - 1)
                        case measure => omega
                        case rel => exact ⟨l + 1, true, b2, by omega, by simp, rfl, HL6.out, MS2.out, HB7.out, by first | exact HS7.out | simpa using HS7.out, NS2.out, AS2.out, PS2.out, GS2.out⟩
                    | false =>
                      cases c with
                      | true =>
                        obtain ⟨GS, NS, AS, PS⟩ := HW.out true
                        have MS1 := MS.out true
                        have HB7 := hid (HBX.out (b2.set l true) (fun x => by rw [bt_set _ _ (by rw [HL6.out]; exact hl)]; exact ⟨fun q => q.elim (fun z => .inr ⟨z, HC3.out⟩) .inl, fun q => q.elim .inr (fun z => .inl z.1)⟩))
                        have HS7 := hid (show (true = true ↔ ∃ x, bt (b2.set l true) x) from ⟨fun _ => ⟨(l : Int), (bt_set _ _ (by rw [HL6.out]; exact hl) _).2 (.inl rfl)⟩, fun _ => rfl⟩)
                        have MS2 := hid MS1
                        have GS2 := hid GS
                        have NS2 := hid NS
                        have AS2 := hid AS
                        have PS2 := hid PS
                        have nc0 : (wr.setCell ⟨gd, l, none⟩ (.bool true)).cell? ⟨g3, l, none⟩ = some (.bool true) := (((Ch.refl (Only gd) wr).own l (.bool true)).cell lg3 (fun q => g3n q)).trans c0
                        clear MS1 GS NS AS PS
                        go_wp2
                        clear c0 cb zb lb
                        go_roundg (gk - 1)
                        case measure => omega
                        case rel => exact ⟨l + 1, true, (b2.set l true), by omega, by simp, rfl, by rw [List.length_set]; exact HL6.out, MS2.out, HB7.out, by first | exact HS7.out | simpa using HS7.out, NS2.out, AS2.out, PS2.out, GS2.out⟩
                      | false =>
                        obtain ⟨GS, NS, AS, PS⟩ := HW.out false
                        have MS1 := MS.out false
                        rw [set_same HB3.out] at MS1
                        have HB7 := hid (HBX.out b2 (fun x => ⟨.inl, fun q => q.elim id (fun z => by have e := z.2; rw [HC3.out] at e; cases e)⟩))
                        have HS7 := hid (show (true = true ↔ ∃ x, bt b2 x) from HS6.out)
                        have MS2 := hid MS1
                        have GS2 := hid GS
                        have NS2 := hid NS
                        have AS2 := hid AS
                        have PS2 := hid PS
                        have nc0 : (wr.setCell ⟨gd, l, none⟩ (.bool false)).cell? ⟨g3, l, none⟩ = some (.bool false) := (((Ch.refl (Only gd) wr).own l (.bool false)).cell lg3 (fun q => g3n q)).trans c0
                        clear MS1 GS NS AS PS
                        go_wp2
                        clear c0 cb zb lb
                        go_roundg (gk - 1)
                        case measure => omega
                        case rel => exact ⟨l + 1, true, b2, by omega, by simp, rfl, HL6.out, MS2.out, HB7.out, by first | exact HS7.out | simpa using HS7.out, NS2.out, AS2.out, PS2.out, GS2.out⟩
                  | false =>
                    cases bu with
                    | true =>
                      cases c with
                      | true =>
                        obtain ⟨GS, NS, AS, PS⟩ := HW.out true
                        have MS1 := MS.out true
                        rw [set_same HB3.out] at MS1
                        have HB7 := hid (HBX.out b2 (fun x => ⟨.inl, fun q => q.elim id (fun z => by rw [z.1]; exact (bt_nat _ _).2 HB3.out)⟩))
                        have HS7 := hid (show (true = true ↔ ∃ x, bt b2 x) from ⟨fun _ => ⟨_, (bt_nat _ _).2 HB3.out⟩, fun _ => rfl⟩)
                        have MS2 := hid MS1
                        have GS2 := hid GS
                        have NS2 := hid NS
                        have AS2 := hid AS
                        have PS2 := hid PS
                        have nc0 : (wr.setCell ⟨gd, l, none⟩ (.bool true)).cell? ⟨g3, l, none⟩ = some (.bool true) := (((Ch.refl (Only gd) wr).own l (.bool true)).cell lg3 (fun q => g3n q)).trans c0
                        clear MS1 GS NS AS PS
                        go_wp2
                        clear c0 cb zb lb
                        go_roundg (gk - 1)
                        case measure => omega
                        case rel => exact ⟨l + 1, true, b2, by omega, by simp, rfl, HL6.out, MS2.out, HB7.out, by first | exact HS7.out | simpa using HS7.out, NS2.out, AS2.out, PS2.out, GS2.out⟩
                      | false =>
                        obtain ⟨GS, NS, AS, PS⟩ := HW.out true
                        have MS1 := MS.out true
                        rw [set_same HB3.out] at MS1
                        have HB7 := hid (HBX.out b2 (fun x => ⟨.inl, fun q => q.elim id (fun z => by have e := z.2; rw [HC3.out] at e; cases e)⟩))
                        have HS7 := hid (show (false = true ↔ ∃ x, bt b2 x) from HS6.out)
                        have MS2 := hid MS1
                        have GS2 := hid GS
                        have NS2 := hid NS
                        have AS2 := hid AS
                        have PS2 := hid PS
                        have nc0 : (wr.setCell ⟨gd, l, none⟩ (.bool true)).cell? ⟨g3, l, none⟩ = some (.bool false) := (((Ch.refl (Only gd) wr).own l (.bool true)).cell lg3 (fun q => g3n q)).trans c0
                        clear MS1 GS NS AS PS
                        go_wp2
                        clear c0 cb zb lb
                        go_roundg (gk - 1)
                        case measure => omega
                        case rel => exact ⟨l + 1, false, b2, by omega, by simp, rfl, HL6.out, MS2.out, HB7.out, by first | exact HS7.out | simpa using HS7.out, NS2.out, AS2.out, PS2.out, GS2.out⟩
                    | false =>
                      cases c with
                      | true =>
                        obtain ⟨GS, NS, AS, PS⟩ := HW.out true
                        have MS1 := MS.out true
                        have HB7 := hid (HBX.out (b2.set l true) (fun x => by rw [bt_set _ _ (by rw [HL6.out]; exact hl)]; exact ⟨fun q => q.elim (fun z => .inr ⟨z, HC3.out⟩) .inl, fun q => q.elim .inr (fun z => .inl z.1)⟩))
                        have HS7 := hid (show (true = true ↔ ∃ x, bt (b2.set l true) x) from ⟨fun _ => ⟨(l : Int), (bt_set _ _ (by rw [HL6.out]; exact hl) _).2 (.inl rfl)⟩, fun _ => rfl⟩)
                        have MS2 := hid MS1
                        have GS2 := hid GS
                        have NS2 := hid NS
                        have AS2 := hid AS
                        have PS2 := hid PS
                        have nc0 : (wr.setCell ⟨gd, l, none⟩ (.bool true)).cell? ⟨g3, l, none⟩ = some (.bool true) := (((Ch.refl (Only gd) wr).own l (.bool true)).cell lg3 (fun q => g3n q)).trans c0
                        clear MS1 GS NS AS PS
                        go_wp2
                        clear c0 cb zb lb
                        go_roundg (gk - 1)
                        case measure => omega
                        case rel => exact ⟨l + 1, true, (b2.set l true), by omega, by simp, rfl, by rw [List.length_set]; exact HL6.out, MS2.out, HB7.out, by first | exact HS7.out | simpa using HS7.out, NS2.out, AS2.out, PS2.out, GS2.out⟩
                      | false =>
                        obtain ⟨GS, NS, AS, PS⟩ := HW.out false
                        have MS1 := MS.out false
                        rw [set_same HB3.out] at MS1
                        have HB7 := hid (HBX.out b2 (fun x => ⟨.inl, fun q => q.elim id (fun z => by have e := z.2; rw [HC3.out] at e; cases e)⟩))
                        have HS7 := hid (show (false = true ↔ ∃ x, bt b2 x) from HS6.out)
                        have MS2 := hid MS1
                        have GS2 := hid GS
                        have NS2 := hid NS
                        have AS2 := hid AS
                        have PS2 := hid PS
                        have nc0 : (wr.setCell ⟨gd, l, none⟩ (.bool false)).cell? ⟨g3, l, none⟩ = some (.bool false) := (((Ch.refl (Only gd) wr).own l (.bool false)).cell lg3 (fun q => g3n q)).trans c0
                        clear MS1 GS NS AS PS
                        go_wp2
                        clear c0 cb zb lb
                        go_roundg (gk - 1)
                        case measure => omega
                        case rel => exact ⟨l + 1, false, b2, by omega, by simp, rfl, HL6.out, MS2.out, HB7.out, by first | exact HS7.out | simpa using HS7.out, NS2.out, AS2.out, PS2.out, GS2.out⟩
                · have ln : ¬ (l : Int) < (nf : Int) := by omega
                  have hle : l = nf := by omega
                  go_wp2
                  go_roundg (nf - (k + 1))
                  case measure => omega
                  case rel =>
                    refine ⟨k + 1, s2, b2, by omega, by simp, rfl, HL6.out, HO6.out, fun x => ?_, HS6.out, HA6.out, HP6.out, HG6.out⟩
                    rw [HB6.out, HLP.out, HBd.out]
                    constructor
                    · rintro (q | ⟨_, q⟩)
                      · exact .inl q
                      · exact .inr ⟨by first | rfl | trivial, (HB5.out x).1 q⟩
                    · rintro (q | ⟨_, q⟩)
                      · exact .inl q
                      · have hb := (HB5.out x).2 q
                        exact .inr ⟨by have := (bt_lt hb).2; rw [HL5.out] at this; omega, hb⟩
          · have kn : ¬ (k : Int) < (nf : Int) := by omega
            have hke : k = nf := by omega
            have HLA := hid (show ∀ x, bt bd x ↔ Lv wy (j : Int) (d + 1) x from fun x => by
              rw [HBd.out, hke, ← HBL.out]
              exact lp_all HLv.out x)
            cases sm with
            | false =>
              have HDP := hid (show Dp wy (j : Int) (d : Int) from .inl ⟨by omega, by
                obtain ⟨x, hx⟩ := HEx.out
                have := (lv_cn (wy := wy) (f := (j : Int)) d 0).2 ⟨x, hx, trivial⟩
                simpa using this, fun q => by
                have q' : Cn wy (d + 1 + 0) (j : Int) := by simpa using q
                obtain ⟨x, hx, _⟩ := (lv_cn (wy := wy) (f := (j : Int)) (d + 1) 0).1 q'
                have := HSm.out.2 ⟨x, (HLA.out x).2 hx⟩
                cases this⟩)
              have e := HU.out _ HDP.out
              subst e
              clear hke
              go_wp2
              go_ret2
              exact ⟨rfl, HGr.out⟩
            | true =>
              have HEX := hid (show ∃ x, Lv wy (j : Int) (d + 1) x from by
                obtain ⟨x, hx⟩ := HSm.out.1 rfl
                exact ⟨x, (HLA.out x).1 hx⟩)
              clear hke
              go_wp2
              go_roundg (nf + 1 - (d + 1))
              case measure => omega
              case rel => exact ⟨d + 1, gd, nf, bd, by omega, by simp, rfl, by have := SZ.out; omega, HBLd.out, HOd.out, HLA.out, HEX.out, HPj.out, HGr.out⟩
      · have d1 : decide ((d : Int) ≤ (nf : Int)) = false := decide_eq_false (by omega)
        have d2 : ¬ (d : Int) ≤ (nf : Int) := by omega
        have HDP := hid (show Dp wy (j : Int) (-1) from .inr ⟨rfl, by
          obtain ⟨x, hx⟩ := HEx.out
          have h1 := (lv_cn (wy := wy) (f := (j : Int)) d 0).2 ⟨x, hx, trivial⟩
          have h2 : Cn wy nf (j : Int) := h1.le (by omega)
          have := Cn.all (range_closed HWI.out) (j : Int) (List.mem_map.2 ⟨j, List.mem_range.2 hjl, rfl⟩) (by simpa using h2)
          exact this⟩)
        have e := HU.out _ HDP.out
        subst e
        go_wp2
        go_ret2
        exact ⟨rfl, HG.out⟩
  · have hE' : (E == 0) = false := by simpa using hE
    rw [if_neg hE]
    clear h hu hr hnc hnf hnt HC HF hdp
    go_enter Tryd.func22, Tryd.ntmps22
    go_wp2_with (go_at_call 34; refine (HL.out _ K1.out).mono ?_; rintro e w1 ⟨rfl, g1⟩; have G1 := hid (Gr.trans K1.out g1); clear g1)
    go_ret2
    exact ⟨rfl, G1.out⟩
end Go.Proofs.YtollfepggicehaaDoor.Lt
