/-
  WordTells' walk: name, shape and cost of any number as the document tells them. Condition: the tables lie where they lie.
-/
import Derived.Test.YtejmmpgclgdbbaaDoorWdRef
namespace Go.Proofs.YtejmmpgclgdbbaaDoor.Wd
open Go.RowKit

set_option maxRecDepth 20000 in
theorem tells_any (o : Int) (w : World) (hn : Nums w) (hf : Forms w) (hm : Names w) :
    Calls Tryd.prog 3 #[.int .i64 o] w fun e w' => e = .returned (.bool true) ∧ Gr w w' := by
  have HN := hid hn
  have HF := hid hf
  have HM := hid hm
  clear hn hf hm
  rcases kn_cases o with h | ⟨k, h1, h2, rfl⟩
  · have H := hid h
    clear h
    go_enter Tryd.func3, Tryd.ntmps3
    go_wp2_with fail
    refine (name_no o H.out _).mono ?_
    rintro e w1 ⟨rfl, rfl⟩
    go_wp2_with fail
    refine (rname_no o H.out _).mono ?_
    rintro e w1 ⟨rfl, g⟩
    have G1 := hid g
    clear g
    go_wp2_with fail
    refine (shape_no o H.out _).mono ?_
    rintro e w2 ⟨rfl, rfl⟩
    go_wp2_with fail
    refine (rshape_no o H.out _).mono ?_
    rintro e w2 ⟨rfl, g⟩
    have G2 := hid (Gr.trans G1.out g)
    clear g
    go_wp2_with fail
    refine (cost_no o H.out _).mono ?_
    rintro e w3 ⟨rfl, rfl⟩
    go_wp2_with fail
    refine (rcost_no o H.out _).mono ?_
    rintro e w3 ⟨rfl, g⟩
    have G3 := hid (Gr.trans G2.out g)
    clear g
    go_wp2_with fail
    refine (awake_any _ (HN.out.gr G3.out) (HF.out.gr G3.out)).mono ?_
    rintro e w4 ⟨rfl, g⟩
    go_wp2
    go_ret
    exact ⟨rfl, Gr.trans G3.out g⟩
  · obtain ⟨s, hs⟩ : ∃ s, s = sh k := ⟨_, rfl⟩
    obtain ⟨c, hc⟩ : ∃ c, c = co k := ⟨_, rfl⟩
    obtain ⟨t, ht⟩ : ∃ t, t = nm k := ⟨_, rfl⟩
    have T1 := hid (name_yes k h1 h2 w HM.out)
    have T2 := hid (fun W => rname_yes k h1 h2 W)
    have T3 := hid (fun W (h : Nums W) => shape_yes k h1 h2 W h)
    have T4 := hid (fun W => rshape_yes k h1 h2 W)
    have T5 := hid (fun W (h : Nums W) => cost_yes k h1 h2 W h)
    have T6 := hid (fun W => rcost_yes k h1 h2 W)
    rw [← ht] at T1 T2
    rw [← hs] at T3 T4
    rw [← hc] at T5 T6
    clear hs hc ht
    go_enter Tryd.func3, Tryd.ntmps3
    go_wp2_with fail
    refine T1.out.mono ?_
    rintro e w1 ⟨rfl, rfl⟩
    go_wp2_with fail
    refine (T2.out _).mono ?_
    rintro e w1 ⟨rfl, g⟩
    have G1 := hid g
    clear g
    go_wp2_with fail
    refine (T3.out _ (HN.out.gr G1.out)).mono ?_
    rintro e w2 ⟨rfl, rfl⟩
    go_wp2_with fail
    refine (T4.out _).mono ?_
    rintro e w2 ⟨rfl, g⟩
    have G2 := hid (Gr.trans G1.out g)
    clear g
    go_wp2_with fail
    refine (T5.out _ (HN.out.gr G2.out)).mono ?_
    rintro e w3 ⟨rfl, rfl⟩
    go_wp2_with fail
    refine (T6.out _).mono ?_
    rintro e w3 ⟨rfl, g⟩
    have G3 := hid (Gr.trans G2.out g)
    clear g
    go_wp2_with fail
    refine (awake_any _ (HN.out.gr G3.out) (HF.out.gr G3.out)).mono ?_
    rintro e w4 ⟨rfl, g⟩
    go_wp2
    go_ret
    exact ⟨rfl, Gr.trans G3.out g⟩
end Go.Proofs.YtejmmpgclgdbbaaDoor.Wd
