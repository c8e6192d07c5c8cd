/-
  Contracts: PlaceWalk, in the program.
-/
import Derived.Test.YtadopgfpfbianaaY8
namespace Go.Proofs.Ytadopgfpfbianaa
open Go.RowKit

set_option maxRecDepth 100000 in
set_option maxHeartbeats 8000000 in
theorem impl_PlaceWalk (w0 h0 : Int) (A2 : Option Addr) (m c2 : Nat) (ps : List Int) (W H : Int) (A : Option Addr) (n c : Nat) (xs : List Int) (x y : Int) (w : World) (hp : Rd w A2 m ps) (_ : m ≤ c2) (ha : Rd w A n xs) (_ : -9223372036854775808 ≤ w0 ∧ w0 ≤ 9223372036854775807) (_ : -9223372036854775808 ≤ h0 ∧ h0 ≤ 9223372036854775807) (hxr : -9223372036854775808 ≤ x ∧ x ≤ 9223372036854775807) (hyr : -9223372036854775808 ≤ y ∧ y ≤ 9223372036854775807) :
    Calls Try.prog 43 #[.int .i64 w0, .int .i64 h0, .slice A2 m c2, brd W H A n c, .int .i64 x, .int .i64 y] w fun e w' => ∃ A' n' c', e = .returned (.tuple #[.slice A' n' c', .bool (plcB w0 h0 ps W H xs x y)]) ∧ OwnI 3 w' w.heap.size A' n' c' (plcV w0 h0 ps W H xs x y) ∧ Below w.heap.size w w' := by
  have HPL := Lib.hid hp.1
  have m9 := hp.2.1
  obtain ⟨W2, hW2⟩ : ∃ W2, W2 = w.alloc (.cells #[.int .i64 W, .int .i64 H, .slice A n c] 24) := ⟨_, rfl⟩
  have a0 : W2.cell? ⟨w.heap.size, 0, none⟩ = some (.int .i64 W) := by rw [hW2]; go_simp
  have a1 : W2.cell? ⟨w.heap.size, 1, none⟩ = some (.int .i64 H) := by rw [hW2]; go_simp
  have a2 : W2.cell? ⟨w.heap.size, 2, none⟩ = some (.slice A n c) := by rw [hW2]; go_simp
  have al : w.heap.size < W2.heap.size := by rw [hW2]; simp
  have B := Lib.hid (show Below w.heap.size w W2 by rw [hW2]; exact below_new (Below.refl _ _) _)
  have R := Lib.hid (ha.keep B.out); have RP := Lib.hid (hp.keep B.out)
  clear ha hp
  cases hs : plainB w0 h0 with
  | false =>
    have HPB := Lib.hid hs
    have HPW := Lib.hid (show PlainBoard_w w0 h0 = 0 by rw [PlainBoard_w, hs]; rfl); have HPH := Lib.hid (show PlainBoard_h w0 h0 = 0 by rw [PlainBoard_h, hs]; rfl)
    have OK := Lib.hid (show plcB w0 h0 ps W H xs x y = false by rw [plc_dif, hs]; rfl)
    clear hs
    go_enter Try.func43, Try.ntmps43
    go_wp2_with fail
    rw [← hW2]
    clear hW2
    refine (impl_PlainBoard w0 h0 _).mono ?_
    rw [HPB.out, HPW.out, HPH.out]
    rintro e wv ⟨A0, n0, c0, rfl, hown, hb⟩
    have RF := Lib.hid hown.rd
    clear hown
    replace a0 := cell_keep a0 al hb; replace a1 := cell_keep a1 al hb; replace a2 := cell_keep a2 al hb; replace al := lt_keep al hb
    replace R := Lib.hid (R.out.keep hb); replace RP := Lib.hid (RP.out.keep hb)
    replace B := Lib.hid (below_next B.out hb)
    clear hb
    clear a0 a1 a2 al
    go_wp2
    go_ret2
    exact ⟨none, 0, 0, by rw [OK.out]; rfl, by rw [plc_no OK.out]; exact OwnI.none_ _ _ _, B.out.trans ((below_new (Below.refl _ _) _).mono B.out.size)⟩
  | true =>
    have hpl := plain_iff.1 hs
    have HPB := Lib.hid hs
    have HPW := Lib.hid (show PlainBoard_w w0 h0 = w0 by rw [PlainBoard_w, hs]; rfl); have HPH := Lib.hid (show PlainBoard_h w0 h0 = h0 by rw [PlainBoard_h, hs]; rfl)
    have HW0 := Lib.hid hpl.1; have HH0 := Lib.hid hpl.2
    have HNN := Lib.hid (cells_le hpl.1 hpl.2)
    clear hs hpl
    cases hd : difB w0 h0 [] ps with
    | false =>
      have HD := Lib.hid hd
      have OK := Lib.hid (show plcB w0 h0 ps W H xs x y = false by rw [plc_dif, hd, Bool.and_false]; rfl)
      clear hd
      go_enter Try.func43, Try.ntmps43
      go_wp2_with fail
      rw [← hW2]
      clear hW2
      refine (impl_PlainBoard w0 h0 _).mono ?_
      rw [HPB.out, HPW.out, HPH.out]
      rintro e wv ⟨A0, n0, c0, rfl, hown, hb⟩
      have RF := Lib.hid hown.rd
      clear hown
      replace a0 := cell_keep a0 al hb; replace a1 := cell_keep a1 al hb; replace a2 := cell_keep a2 al hb; replace al := lt_keep al hb
      replace R := Lib.hid (R.out.keep hb); replace RP := Lib.hid (RP.out.keep hb)
      replace B := Lib.hid (below_next B.out hb)
      clear hb
      go_wp2_with fail
      refine (areDifferent_any w0 h0 A0 n0 c0 [] A2 m c2 ps _ (RF.out.alloc _) (RP.out.alloc _) (plain_good HPB.out)).mono ?_
      rw [HD.out]
      rintro e wx ⟨rfl, hb⟩
      have f0 : wx.cell? ⟨wv.heap.size, 0, none⟩ = some (.int .i64 w0) := by simpa using newbox hb 0
      have f1 : wx.cell? ⟨wv.heap.size, 1, none⟩ = some (.int .i64 h0) := by simpa using newbox hb 1
      have f2 : wx.cell? ⟨wv.heap.size, 2, none⟩ = some (.slice A0 n0 c0) := by simpa using newbox hb 2
      have fl : wv.heap.size < wx.heap.size := by simpa using newbox_lt hb
      replace hb := below_box hb
      replace RF := Lib.hid (RF.out.keep hb)
      obtain ⟨gf, hgf⟩ : ∃ gf, gf = wv.heap.size := ⟨_, rfl⟩
      rw [← hgf] at f0 f1 f2 fl
      rw [← hgf]
      replace a0 := cell_keep a0 al hb; replace a1 := cell_keep a1 al hb; replace a2 := cell_keep a2 al hb; replace al := lt_keep al hb
      replace R := Lib.hid (R.out.keep hb); replace RP := Lib.hid (RP.out.keep hb)
      replace B := Lib.hid (below_next B.out hb)
      clear hb
      clear hgf
      clear a0 a1 a2 al
      (try clear f0 f1 f2 fl)
      go_wp2
      go_ret2
      exact ⟨none, 0, 0, by rw [OK.out]; rfl, by rw [plc_no OK.out]; exact OwnI.none_ _ _ _, B.out⟩
    | true =>
      have HD := Lib.hid hd
      have HALL := Lib.hid (show ∀ q ∈ ps, 0 ≤ q ∧ q < w0 * h0 by
        simp only [difB, Bool.and_eq_true] at hd
        exact fun q hq => (hasB_iff.1 (List.all_eq_true.1 hd.1.2 q hq)).1)
      have HM64 := Lib.hid (show 1 ≤ m ∧ m ≤ 64 by
        have h3 : ∀ q ∈ ps, 0 ≤ q ∧ q < 64 := fun q hq => by have := HALL.out q hq; have := HNN.out; omega
        simp only [difB, Bool.and_eq_true, decide_eq_true_eq] at hd
        have h4 := nodup_le64 h3 hd.2
        rw [← HPL.out]; exact ⟨hd.1.1, h4⟩)
      clear hd
      cases hg : goodB W H xs with
      | false =>
        have HG := Lib.hid hg
        have OK := Lib.hid (show plcB w0 h0 ps W H xs x y = false by rw [plc_dif, hg, Bool.and_false]; rfl)
        clear hg
        go_enter Try.func43, Try.ntmps43
        go_wp2_with fail
        rw [← hW2]
        clear hW2
        refine (impl_PlainBoard w0 h0 _).mono ?_
        rw [HPB.out, HPW.out, HPH.out]
        rintro e wv ⟨A0, n0, c0, rfl, hown, hb⟩
        have RF := Lib.hid hown.rd
        clear hown
        replace a0 := cell_keep a0 al hb; replace a1 := cell_keep a1 al hb; replace a2 := cell_keep a2 al hb; replace al := lt_keep al hb
        replace R := Lib.hid (R.out.keep hb); replace RP := Lib.hid (RP.out.keep hb)
        replace B := Lib.hid (below_next B.out hb)
        clear hb
        go_wp2_with fail
        refine (areDifferent_any w0 h0 A0 n0 c0 [] A2 m c2 ps _ (RF.out.alloc _) (RP.out.alloc _) (plain_good HPB.out)).mono ?_
        rw [HD.out]
        rintro e wx ⟨rfl, hb⟩
        have f0 : wx.cell? ⟨wv.heap.size, 0, none⟩ = some (.int .i64 w0) := by simpa using newbox hb 0
        have f1 : wx.cell? ⟨wv.heap.size, 1, none⟩ = some (.int .i64 h0) := by simpa using newbox hb 1
        have f2 : wx.cell? ⟨wv.heap.size, 2, none⟩ = some (.slice A0 n0 c0) := by simpa using newbox hb 2
        have fl : wv.heap.size < wx.heap.size := by simpa using newbox_lt hb
        replace hb := below_box hb
        replace RF := Lib.hid (RF.out.keep hb)
        obtain ⟨gf, hgf⟩ : ∃ gf, gf = wv.heap.size := ⟨_, rfl⟩
        rw [← hgf] at f0 f1 f2 fl
        rw [← hgf]
        replace a0 := cell_keep a0 al hb; replace a1 := cell_keep a1 al hb; replace a2 := cell_keep a2 al hb; replace al := lt_keep al hb
        replace R := Lib.hid (R.out.keep hb); replace RP := Lib.hid (RP.out.keep hb)
        replace B := Lib.hid (below_next B.out hb)
        clear hb
        clear hgf
        go_wp2_with fail
        refine (isBoard_any W H A n c xs _ R.out).mono ?_
        rw [HG.out]
        rintro e wv9 ⟨rfl, hb⟩
        replace f0 := cell_keep f0 fl hb; replace f1 := cell_keep f1 fl hb; replace f2 := cell_keep f2 fl hb; replace fl := lt_keep fl hb; replace RF := Lib.hid (RF.out.keep hb)
        replace a0 := cell_keep a0 al hb; replace a1 := cell_keep a1 al hb; replace a2 := cell_keep a2 al hb; replace al := lt_keep al hb
        replace R := Lib.hid (R.out.keep hb); replace RP := Lib.hid (RP.out.keep hb)
        replace B := Lib.hid (below_next B.out hb)
        clear hb
        clear a0 a1 a2 al
        (try clear f0 f1 f2 fl)
        go_wp2
        go_ret2
        exact ⟨none, 0, 0, by rw [OK.out]; rfl, by rw [plc_no OK.out]; exact OwnI.none_ _ _ _, B.out⟩
      | true =>
        have HG := Lib.hid hg
        obtain ⟨hWW, hHH, -, -⟩ := goodB_iff.1 hg
        have HWW := Lib.hid hWW; have HHH := Lib.hid hHH
        clear hg hWW hHH
        by_cases hx : x < 0
        · have OK := Lib.hid (show plcB w0 h0 ps W H xs x y = false by rw [plc_dif, decide_eq_false (show ¬ 0 ≤ x by omega), Bool.and_false]; rfl)
          go_enter Try.func43, Try.ntmps43
          go_wp2_with fail
          rw [← hW2]
          clear hW2
          refine (impl_PlainBoard w0 h0 _).mono ?_
          rw [HPB.out, HPW.out, HPH.out]
          rintro e wv ⟨A0, n0, c0, rfl, hown, hb⟩
          have RF := Lib.hid hown.rd
          clear hown
          replace a0 := cell_keep a0 al hb; replace a1 := cell_keep a1 al hb; replace a2 := cell_keep a2 al hb; replace al := lt_keep al hb
          replace R := Lib.hid (R.out.keep hb); replace RP := Lib.hid (RP.out.keep hb)
          replace B := Lib.hid (below_next B.out hb)
          clear hb
          go_wp2_with fail
          refine (areDifferent_any w0 h0 A0 n0 c0 [] A2 m c2 ps _ (RF.out.alloc _) (RP.out.alloc _) (plain_good HPB.out)).mono ?_
          rw [HD.out]
          rintro e wx ⟨rfl, hb⟩
          have f0 : wx.cell? ⟨wv.heap.size, 0, none⟩ = some (.int .i64 w0) := by simpa using newbox hb 0
          have f1 : wx.cell? ⟨wv.heap.size, 1, none⟩ = some (.int .i64 h0) := by simpa using newbox hb 1
          have f2 : wx.cell? ⟨wv.heap.size, 2, none⟩ = some (.slice A0 n0 c0) := by simpa using newbox hb 2
          have fl : wv.heap.size < wx.heap.size := by simpa using newbox_lt hb
          replace hb := below_box hb
          replace RF := Lib.hid (RF.out.keep hb)
          obtain ⟨gf, hgf⟩ : ∃ gf, gf = wv.heap.size := ⟨_, rfl⟩
          rw [← hgf] at f0 f1 f2 fl
          rw [← hgf]
          replace a0 := cell_keep a0 al hb; replace a1 := cell_keep a1 al hb; replace a2 := cell_keep a2 al hb; replace al := lt_keep al hb
          replace R := Lib.hid (R.out.keep hb); replace RP := Lib.hid (RP.out.keep hb)
          replace B := Lib.hid (below_next B.out hb)
          clear hb
          clear hgf
          go_wp2_with fail
          refine (isBoard_any W H A n c xs _ R.out).mono ?_
          rw [HG.out]
          rintro e wv9 ⟨rfl, hb⟩
          replace f0 := cell_keep f0 fl hb; replace f1 := cell_keep f1 fl hb; replace f2 := cell_keep f2 fl hb; replace fl := lt_keep fl hb; replace RF := Lib.hid (RF.out.keep hb)
          replace a0 := cell_keep a0 al hb; replace a1 := cell_keep a1 al hb; replace a2 := cell_keep a2 al hb; replace al := lt_keep al hb
          replace R := Lib.hid (R.out.keep hb); replace RP := Lib.hid (RP.out.keep hb)
          replace B := Lib.hid (below_next B.out hb)
          clear hb
          clear a0 a1 a2 al
          (try clear f0 f1 f2 fl)
          go_wp2
          go_ret2
          exact ⟨none, 0, 0, by rw [OK.out]; rfl, by rw [plc_no OK.out]; exact OwnI.none_ _ _ _, B.out⟩
        · by_cases hy : y < 0
          · have OK := Lib.hid (show plcB w0 h0 ps W H xs x y = false by rw [plc_dif, decide_eq_false (show ¬ 0 ≤ y by omega), Bool.and_false]; rfl)
            go_enter Try.func43, Try.ntmps43
            go_wp2_with fail
            rw [← hW2]
            clear hW2
            refine (impl_PlainBoard w0 h0 _).mono ?_
            rw [HPB.out, HPW.out, HPH.out]
            rintro e wv ⟨A0, n0, c0, rfl, hown, hb⟩
            have RF := Lib.hid hown.rd
            clear hown
            replace a0 := cell_keep a0 al hb; replace a1 := cell_keep a1 al hb; replace a2 := cell_keep a2 al hb; replace al := lt_keep al hb
            replace R := Lib.hid (R.out.keep hb); replace RP := Lib.hid (RP.out.keep hb)
            replace B := Lib.hid (below_next B.out hb)
            clear hb
            go_wp2_with fail
            refine (areDifferent_any w0 h0 A0 n0 c0 [] A2 m c2 ps _ (RF.out.alloc _) (RP.out.alloc _) (plain_good HPB.out)).mono ?_
            rw [HD.out]
            rintro e wx ⟨rfl, hb⟩
            have f0 : wx.cell? ⟨wv.heap.size, 0, none⟩ = some (.int .i64 w0) := by simpa using newbox hb 0
            have f1 : wx.cell? ⟨wv.heap.size, 1, none⟩ = some (.int .i64 h0) := by simpa using newbox hb 1
            have f2 : wx.cell? ⟨wv.heap.size, 2, none⟩ = some (.slice A0 n0 c0) := by simpa using newbox hb 2
            have fl : wv.heap.size < wx.heap.size := by simpa using newbox_lt hb
            replace hb := below_box hb
            replace RF := Lib.hid (RF.out.keep hb)
            obtain ⟨gf, hgf⟩ : ∃ gf, gf = wv.heap.size := ⟨_, rfl⟩
            rw [← hgf] at f0 f1 f2 fl
            rw [← hgf]
            replace a0 := cell_keep a0 al hb; replace a1 := cell_keep a1 al hb; replace a2 := cell_keep a2 al hb; replace al := lt_keep al hb
            replace R := Lib.hid (R.out.keep hb); replace RP := Lib.hid (RP.out.keep hb)
            replace B := Lib.hid (below_next B.out hb)
            clear hb
            clear hgf
            go_wp2_with fail
            refine (isBoard_any W H A n c xs _ R.out).mono ?_
            rw [HG.out]
            rintro e wv9 ⟨rfl, hb⟩
            replace f0 := cell_keep f0 fl hb; replace f1 := cell_keep f1 fl hb; replace f2 := cell_keep f2 fl hb; replace fl := lt_keep fl hb; replace RF := Lib.hid (RF.out.keep hb)
            replace a0 := cell_keep a0 al hb; replace a1 := cell_keep a1 al hb; replace a2 := cell_keep a2 al hb; replace al := lt_keep al hb
            replace R := Lib.hid (R.out.keep hb); replace RP := Lib.hid (RP.out.keep hb)
            replace B := Lib.hid (below_next B.out hb)
            clear hb
            clear a0 a1 a2 al
            (try clear f0 f1 f2 fl)
            go_wp2
            go_ret2
            exact ⟨none, 0, 0, by rw [OK.out]; rfl, by rw [plc_no OK.out]; exact OwnI.none_ _ _ _, B.out⟩
          · have HGD := Lib.hid (show plcB w0 h0 ps W H xs x y = ps.all (plcSp W H xs w0 x y) by
              rw [plc_dif, HPB.out, HD.out, HG.out, decide_eq_true (show 0 ≤ x by omega), decide_eq_true (show 0 ≤ y by omega)]; simp)
            have HX0 := Lib.hid (show 0 ≤ x ∧ x ≤ 9223372036854775807 by omega); have HY0 := Lib.hid (show 0 ≤ y ∧ y ≤ 9223372036854775807 by omega)
            obtain ⟨i0, hi, hz0, hz1, hz2⟩ := info_parts infoI
            have HI := Lib.hid hi; have HZ0 := Lib.hid hz0; have HZ1 := Lib.hid hz1; have HZ2 := Lib.hid hz2
            clear hi hz0 hz1 hz2
            go_enter Try.func43, Try.ntmps43
            go_wp2_with fail
            rw [← hW2]
            clear hW2
            refine (impl_PlainBoard w0 h0 _).mono ?_
            rw [HPB.out, HPW.out, HPH.out]
            rintro e wv ⟨A0, n0, c0, rfl, hown, hb⟩
            have RF := Lib.hid hown.rd
            clear hown
            replace a0 := cell_keep a0 al hb; replace a1 := cell_keep a1 al hb; replace a2 := cell_keep a2 al hb; replace al := lt_keep al hb
            replace R := Lib.hid (R.out.keep hb); replace RP := Lib.hid (RP.out.keep hb)
            replace B := Lib.hid (below_next B.out hb)
            clear hb
            go_wp2_with fail
            refine (areDifferent_any w0 h0 A0 n0 c0 [] A2 m c2 ps _ (RF.out.alloc _) (RP.out.alloc _) (plain_good HPB.out)).mono ?_
            rw [HD.out]
            rintro e wx ⟨rfl, hb⟩
            have f0 : wx.cell? ⟨wv.heap.size, 0, none⟩ = some (.int .i64 w0) := by simpa using newbox hb 0
            have f1 : wx.cell? ⟨wv.heap.size, 1, none⟩ = some (.int .i64 h0) := by simpa using newbox hb 1
            have f2 : wx.cell? ⟨wv.heap.size, 2, none⟩ = some (.slice A0 n0 c0) := by simpa using newbox hb 2
            have fl : wv.heap.size < wx.heap.size := by simpa using newbox_lt hb
            replace hb := below_box hb
            replace RF := Lib.hid (RF.out.keep hb)
            obtain ⟨gf, hgf⟩ : ∃ gf, gf = wv.heap.size := ⟨_, rfl⟩
            rw [← hgf] at f0 f1 f2 fl
            rw [← hgf]
            replace a0 := cell_keep a0 al hb; replace a1 := cell_keep a1 al hb; replace a2 := cell_keep a2 al hb; replace al := lt_keep al hb
            replace R := Lib.hid (R.out.keep hb); replace RP := Lib.hid (RP.out.keep hb)
            replace B := Lib.hid (below_next B.out hb)
            clear hb
            clear hgf
            go_wp2_with fail
            refine (isBoard_any W H A n c xs _ R.out).mono ?_
            rw [HG.out]
            rintro e wv9 ⟨rfl, hb⟩
            replace f0 := cell_keep f0 fl hb; replace f1 := cell_keep f1 fl hb; replace f2 := cell_keep f2 fl hb; replace fl := lt_keep fl hb; replace RF := Lib.hid (RF.out.keep hb)
            replace a0 := cell_keep a0 al hb; replace a1 := cell_keep a1 al hb; replace a2 := cell_keep a2 al hb; replace al := lt_keep al hb
            replace R := Lib.hid (R.out.keep hb); replace RP := Lib.hid (RP.out.keep hb)
            replace B := Lib.hid (below_next B.out hb)
            clear hb
            have AL := Lib.hid al; have FL := Lib.hid fl
            have HA := Lib.hid (⟨a0, a1, a2⟩ : wv9.cell? ⟨w.heap.size, 0, none⟩ = some (.int .i64 W) ∧ wv9.cell? ⟨w.heap.size, 1, none⟩ = some (.int .i64 H) ∧ wv9.cell? ⟨w.heap.size, 2, none⟩ = some (.slice A n c))
            have HF := Lib.hid (⟨f0, f1, f2⟩ : wv9.cell? ⟨gf, 0, none⟩ = some (.int .i64 w0) ∧ wv9.cell? ⟨gf, 1, none⟩ = some (.int .i64 h0) ∧ wv9.cell? ⟨gf, 2, none⟩ = some (.slice A0 n0 c0))
            clear a0 a1 a2 al f0 f1 f2 fl
            go_wp2
            go_loopw [16, 49] (fun v i wr => ∃ (k n' c' : Nat) (A' : Option Addr), k ≤ m ∧ i = .int .i64 k ∧ v = .slice A' n' c' ∧ n' = k ∧ OwnI 3 wr wv9.heap.size A' n' c' ((ps.take k).map (plcTo W w0 x y)) ∧ (ps.take k).all (plcSp W H xs w0 x y) = true ∧ Below wv9.heap.size wv9 wr) (fun _ i _ => m - (intOf i).toNat)
            case atStart => exact ⟨0, 0, 0, none, Nat.zero_le _, rfl, rfl, rfl, OwnI.none_ _ _ _, by simp, Below.refl _ _⟩
            case round =>
              obtain ⟨k, n', c', A', hk, rfl, rfl, hnk, hown, hal, hbw⟩ := hrel
              have HNK := Lib.hid hnk; have HAL := Lib.hid hal
              clear hnk hal
              by_cases hlt : k < m
              · obtain ⟨bb, oo, q, rfl, hg1, hq, q0⟩ := RP.out.at_ hlt
                have HQ := Lib.hid hq
                have HQR := Lib.hid (HALL.out q (List.mem_of_getElem? hq))
                have HQ64 := Lib.hid (show 0 ≤ q ∧ q ≤ 64 by have := HQR.out; have := HNN.out; omega)
                replace q0 := cell_keep q0 hg1 hbw
                have a0 := cell_keep HA.out.1 AL.out hbw; have a1 := cell_keep HA.out.2.1 AL.out hbw; have a2 := cell_keep HA.out.2.2 AL.out hbw
                have f0 := cell_keep HF.out.1 FL.out hbw; have f1 := cell_keep HF.out.2.1 FL.out hbw; have f2 := cell_keep HF.out.2.2 FL.out hbw
                have al := lt_keep AL.out hbw; have fl := lt_keep FL.out hbw
                have RR := Lib.hid (R.out.keep hbw)
                have HO := Lib.hid hown; have HB := Lib.hid hbw
                obtain ⟨X, hX⟩ : ∃ X, IntKind.i64.wrap (q % w0 + x) = X := ⟨_, rfl⟩
                obtain ⟨Y, hY⟩ : ∃ Y, IntKind.i64.wrap (q / w0 + y) = Y := ⟨_, rfl⟩
                have HX := Lib.hid hX; have HY := Lib.hid hY
                have HWR := Lib.hid (show spotB W H xs X Y = plcSp W H xs w0 x y q by
                  have hc1 := colIn (x := q) HW0.out; have hr1 := rowIn (H := h0) (x := q) HW0.out HQR.out
                  have := HW0.out; have := HH0.out
                  rw [← hX, ← hY]; exact wrap_off HWW.out (by omega) (by omega) HHH.out HX0.out HY0.out)
                clear hq hbw hown hg1
                cases hsp : plcSp W H xs w0 x y q with
                | false =>
                  have HSP := Lib.hid (HWR.out.trans hsp)
                  have OK := Lib.hid (show plcB w0 h0 ps W H xs x y = false by
                    rw [HGD.out, List.all_eq_false]; exact ⟨q, List.mem_of_getElem? HQ.out, by rw [hsp]; simp⟩)
                  clear hsp hX hY
                  go_wp2_with fail
                  refine (spotOf_any w0 h0 A0 n0 c0 q _ HW0.out HQ64.out).mono ?_
                  rintro e wx ⟨rfl, hb⟩
                  replace a0 := cell_keep a0 al hb; replace a1 := cell_keep a1 al hb; replace a2 := cell_keep a2 al hb; replace al := lt_keep al hb
                  replace HO := Lib.hid (HO.out.keep hb)
                  replace RR := Lib.hid (RR.out.keep hb)
                  replace HB := Lib.hid (HB.out.trans (hb.mono HB.out.size))
                  clear hb
                  go_wp2_with fail
                  refine (plus_gen (q % w0) (q / w0) x y _).mono ?_
                  rw [HX.out, HY.out]
                  rintro e wz ⟨rfl, hb⟩
                  replace a0 := cell_keep a0 al hb; replace a1 := cell_keep a1 al hb; replace a2 := cell_keep a2 al hb; replace al := lt_keep al hb
                  replace HO := Lib.hid (HO.out.keep hb)
                  replace RR := Lib.hid (RR.out.keep hb)
                  replace HB := Lib.hid (HB.out.trans (hb.mono HB.out.size))
                  clear hb f0 f1 f2 fl
                  go_wp2_with fail
                  refine (isSpotThere_gen W H A n c xs X Y _ (RR.out.alloc _) HG.out).mono ?_
                  rw [HSP.out]
                  rintro e wt ⟨rfl, hb⟩
                  have s0 : wt.cell? ⟨wz.heap.size, 0, none⟩ = some (.int .i64 X) := by simpa using newbox hb 0
                  have s1 : wt.cell? ⟨wz.heap.size, 1, none⟩ = some (.int .i64 Y) := by simpa using newbox hb 1
                  have sl : wz.heap.size < wt.heap.size := by simpa using newbox_lt hb
                  replace hb := below_box hb
                  obtain ⟨gs, hgs⟩ : ∃ gs, gs = wz.heap.size := ⟨_, rfl⟩
                  rw [← hgs] at s0 s1 sl
                  (try rw [← hgs])
                  replace a0 := cell_keep a0 al hb; replace a1 := cell_keep a1 al hb; replace a2 := cell_keep a2 al hb; replace al := lt_keep al hb
                  replace HO := Lib.hid (HO.out.keep hb)
                  replace RR := Lib.hid (RR.out.keep hb)
                  replace HB := Lib.hid (HB.out.trans (hb.mono HB.out.size))
                  clear hb hgs
                  clear a0 a1 a2 al s0 s1 sl
                  go_wp2
                  go_ret2
                  exact ⟨none, 0, 0, by rw [OK.out]; rfl, by rw [plc_no OK.out]; exact OwnI.none_ _ _ _, B.out.trans (HB.out.mono B.out.size)⟩
                | true =>
                  have HSP := Lib.hid (HWR.out.trans hsp)
                  have HAL2 := Lib.hid (all_step HQ.out HAL.out hsp)
                  have HMS := Lib.hid (map_step (f := plcTo W w0 x y) HQ.out)
                  have hbd : (0 ≤ q % w0 + x ∧ q % w0 + x < W) ∧ 0 ≤ q / w0 + y ∧ q / w0 + y < H := by
                    have h1 := hsp
                    rw [plcSp] at h1
                    by_cases h2 : 0 ≤ q % w0 + x ∧ q % w0 + x < W ∧ 0 ≤ q / w0 + y ∧ q / w0 + y < H
                    · exact ⟨⟨h2.1, h2.2.1⟩, h2.2.2⟩
                    · rw [spotB_no HWW.out h2] at h1; cases h1
                  have hW8 := HWW.out; have hH8 := HHH.out
                  obtain rfl : q % w0 + x = X := by rw [← hX]; exact (IntWalk.i64_in _ (by omega)).symm
                  obtain rfl : q / w0 + y = Y := by rw [← hY]; exact (IntWalk.i64_in _ (by omega)).symm
                  have HXB := Lib.hid (show -5000 ≤ q % w0 + x ∧ q % w0 + x ≤ 5000 by omega)
                  have HYB := Lib.hid (show -5000 ≤ (q / w0 + y) * W ∧ (q / w0 + y) * W ≤ 5000 by have := mul_bd (y := q / w0 + y) (by omega) HWW.out; omega)
                  clear hsp hX hY hbd hW8 hH8
                  go_wp2_with fail
                  refine (spotOf_any w0 h0 A0 n0 c0 q _ HW0.out HQ64.out).mono ?_
                  rintro e wx ⟨rfl, hb⟩
                  replace a0 := cell_keep a0 al hb; replace a1 := cell_keep a1 al hb; replace a2 := cell_keep a2 al hb; replace al := lt_keep al hb
                  replace HO := Lib.hid (HO.out.keep hb)
                  replace RR := Lib.hid (RR.out.keep hb)
                  replace HB := Lib.hid (HB.out.trans (hb.mono HB.out.size))
                  clear hb
                  go_wp2_with fail
                  refine (plus_gen (q % w0) (q / w0) x y _).mono ?_
                  rw [HX.out, HY.out]
                  rintro e wz ⟨rfl, hb⟩
                  replace a0 := cell_keep a0 al hb; replace a1 := cell_keep a1 al hb; replace a2 := cell_keep a2 al hb; replace al := lt_keep al hb
                  replace HO := Lib.hid (HO.out.keep hb)
                  replace RR := Lib.hid (RR.out.keep hb)
                  replace HB := Lib.hid (HB.out.trans (hb.mono HB.out.size))
                  clear hb f0 f1 f2 fl
                  go_wp2_with fail
                  refine (isSpotThere_gen W H A n c xs _ _ _ (RR.out.alloc _) HG.out).mono ?_
                  rw [HSP.out]
                  rintro e wt ⟨rfl, hb⟩
                  have s0 : wt.cell? ⟨wz.heap.size, 0, none⟩ = some (.int .i64 (q % w0 + x)) := by simpa using newbox hb 0
                  have s1 : wt.cell? ⟨wz.heap.size, 1, none⟩ = some (.int .i64 (q / w0 + y)) := by simpa using newbox hb 1
                  have sl : wz.heap.size < wt.heap.size := by simpa using newbox_lt hb
                  replace hb := below_box hb
                  obtain ⟨gs, hgs⟩ : ∃ gs, gs = wz.heap.size := ⟨_, rfl⟩
                  rw [← hgs] at s0 s1 sl
                  (try rw [← hgs])
                  replace a0 := cell_keep a0 al hb; replace a1 := cell_keep a1 al hb; replace a2 := cell_keep a2 al hb; replace al := lt_keep al hb
                  replace HO := Lib.hid (HO.out.keep hb)
                  replace RR := Lib.hid (RR.out.keep hb)
                  replace HB := Lib.hid (HB.out.trans (hb.mono HB.out.size))
                  clear hb hgs
                  go_wp2_with fail
                  refine (number_gen (q % w0 + x) (q / w0 + y) W _ HXB.out HYB.out).mono ?_
                  rintro e wy ⟨rfl, hb⟩
                  replace HO := Lib.hid (HO.out.keep hb)
                  replace HB := Lib.hid (HB.out.trans (hb.mono HB.out.size))
                  clear hb s0 s1 sl a0 a1 a2 al
                  have hsw := HB.out.size
                  have hn9 : n' ≤ 1000000 := by have := HNK.out; have := HM64.out; omega
                  go_wp2_with (at_builtin; refine wpList_app1 rfl (.tmp 64) (.tmp 69) 22 3 rfl i0 Try.underlying22 HI.out HZ0.out HZ1.out HZ2.out wv9.heap.size _ n' c' ((ps.take k).map (plcTo W w0 x y)) ((q / w0 + y) * W + (q % w0 + x)) rfl HO.out rfl hn9 hsw ?_; intro A3 c3 w5 hown3 hb5)
                  have O3 := Lib.hid hown3
                  have B3 := Lib.hid (HB.out.trans hb5)
                  clear hown3 hb5
                  go_wp2
                  go_roundw
                  case rel => exact ⟨k + 1, n' + 1, c3, A3, by omega, by go_num, rfl, by have := HNK.out; omega, by rw [HMS.out]; exact O3.out, HAL2.out, B3.out⟩
                  case measure => simp [intOf]; omega
              · have hkm : ps.take k = ps := List.take_of_length_le (by have := HPL.out; omega)
                have hkm2 : k = m := by omega
                rw [hkm] at HAL
                have OK := Lib.hid (show plcB w0 h0 ps W H xs x y = true by rw [HGD.out, HAL.out])
                have HV := Lib.hid (show plcV w0 h0 ps W H xs x y = (ps.take k).map (plcTo W w0 x y) by rw [plcV, if_pos OK.out, hkm])
                have HO := Lib.hid (hown.lower B.out.size); have HB := Lib.hid hbw
                clear hown hbw hkm hkm2
                go_wp2
                go_ret2
                exact ⟨_, _, _, by rw [OK.out]; rfl, by rw [HV.out]; exact HO.out, B.out.trans (HB.out.mono B.out.size)⟩

end Go.Proofs.Ytadopgfpfbianaa
