/-
  Contracts: PathText, both.
-/
import Derived.Test.YtadopgfpfbianaaN2
namespace Go.Proofs.Ytadopgfpfbianaa
open Go.RowKit

theorem text_yes {W H : Int} {xs ps : List Int} (hg : goodB W H xs = true) (hm : ps.length ≤ 64) (ha : ps.all (hasB W H xs) = true) : okText W H xs ps = true ∧ textV W H xs ps = txt W ps := by
  have h : okText W H xs ps = true := by rw [okText, hg, decide_eq_true hm, ha]; rfl
  exact ⟨h, by rw [textV, if_pos h]⟩
theorem text_no {W H : Int} {xs ps : List Int} (h : okText W H xs ps = false) : okText W H xs ps = false ∧ textV W H xs ps = ⟨#[]⟩ := ⟨h, by rw [textV, h]; rfl⟩

set_option maxRecDepth 100000 in
set_option maxHeartbeats 1000000 in
theorem spec_PathText (W H : Int) (A : Option Addr) (n c : Nat) (xs : List Int) (A2 : Option Addr) (m c2 : Nat) (ps : List Int) (w : World) (ha : Rd w A n xs) (hp : Rd w A2 m ps) :
    Calls Try.prog 31 #[brd W H A n c, .slice A2 m c2] w fun e w' => e = .returned (.tuple #[.string (textV W H xs ps), .bool (okText W H xs ps)]) ∧ Below w.heap.size w w' := by
  obtain ⟨W2, hW2⟩ : ∃ W2, W2 = w.alloc (.cells #[.int .i64 W, .int .i64 H, .slice A n c] 24) := ⟨_, rfl⟩
  have hsz : W2.heap.size = w.heap.size + 1 := by rw [hW2]; simp
  have a0 : W2.cell? ⟨w.heap.size, 0, none⟩ = some (.int .i64 W) := by rw [hW2]; go_simp
  have a1 : W2.cell? ⟨w.heap.size, 1, none⟩ = some (.int .i64 H) := by rw [hW2]; go_simp
  have a2 : W2.cell? ⟨w.heap.size, 2, none⟩ = some (.slice A n c) := by rw [hW2]; go_simp
  have al : w.heap.size < W2.heap.size := by omega
  have B := Lib.hid (show Below w.heap.size w W2 by rw [hW2]; exact below_new (Below.refl _ _) _)
  have R := Lib.hid (ha.keep B.out); have RP := Lib.hid (hp.keep B.out)
  have HPL := Lib.hid hp.1
  have m9 := hp.2.1
  by_cases hg : goodB W H xs = true
  rotate_left
  · have hg' : goodB W H xs = false := by simpa using hg
    have NO := Lib.hid (text_no (ps := ps) (show okText W H xs ps = false by rw [okText, hg']; rfl))
    go_enter Try.func31, Try.ntmps31
    go_wp2_with fail
    rw [← hW2]
    clear hW2
    refine (boGood_any W H A n c xs W2 R.out).mono ?_
    rw [hg']
    rintro e wv ⟨rfl, hb⟩
    replace B := Lib.hid (below_next B.out hb)
    clear hb
    go_wp2
    go_ret2
    exact ⟨by rw [NO.out.1, NO.out.2]; rfl, B.out⟩
  have HG := Lib.hid hg
  go_enter Try.func31, Try.ntmps31
  go_wp2_with fail
  rw [← hW2]
  clear hW2
  refine (boGood_any W H A n c xs W2 R.out).mono ?_
  rw [hg]
  rintro e wv ⟨rfl, hb⟩
  replace a0 := cell_keep a0 al hb; replace a1 := cell_keep a1 al hb; replace a2 := cell_keep a2 al hb; replace al := lt_keep al hb
  replace B := Lib.hid (below_next B.out hb)
  replace R := Lib.hid (ha.keep B.out); replace RP := Lib.hid (hp.keep B.out)
  clear hb hg hsz ha hp
  by_cases hm : m ≤ 64
  rotate_left
  · have NO := Lib.hid (text_no (show okText W H xs ps = false by rw [okText, show decide (ps.length ≤ 64) = false from decide_eq_false (by rw [HPL.out]; exact hm), Bool.false_and, Bool.and_false]))
    have hm2 : (64 : Int) < (m : Int) := by omega
    go_wp2
    go_ret2
    exact ⟨by rw [NO.out.1, NO.out.2]; rfl, B.out⟩
  have HM := Lib.hid hm
  have HA := Lib.hid (⟨a0, a1, a2, al⟩ : wv.cell? ⟨w.heap.size, 0, none⟩ = some (.int .i64 W) ∧ wv.cell? ⟨w.heap.size, 1, none⟩ = some (.int .i64 H) ∧ wv.cell? ⟨w.heap.size, 2, none⟩ = some (.slice A n c) ∧ w.heap.size < wv.heap.size)
  clear a0 a1 a2 al
  go_wp2
  go_loopw [18] (fun i wr => ∃ k : Nat, k ≤ m ∧ i = .int .i64 k ∧ (ps.take k).all (hasB W H xs) = true ∧ Below wv.heap.size wv wr) (fun i _ => m - (intOf i).toNat)
  case atStart => exact ⟨0, Nat.zero_le _, rfl, rfl, Below.refl _ _⟩
  case round =>
    obtain ⟨k, hk, rfl, hall, hbw⟩ := hrel
    have HALL := Lib.hid hall
    have hb := hbw
    obtain ⟨a0, a1, a2, al⟩ := HA.out
    replace a0 := cell_keep a0 al hb; replace a1 := cell_keep a1 al hb; replace a2 := cell_keep a2 al hb; replace al := lt_keep al hb
    have HB := Lib.hid hbw
    have hsw := hbw.size
    have RR := Lib.hid (RP.out.keep hbw)
    have RA := Lib.hid (R.out.keep hbw)
    clear hall hbw hb
    by_cases hlt : k < m
    · obtain ⟨bb, oo, x, rfl, hg1, hx, x0⟩ := RR.out.at_ hlt
      have HX := Lib.hid hx
      clear hx
      cases hs : hasB W H xs x with
      | false =>
        have NO := Lib.hid (text_no (show okText W H xs ps = false by
          rw [okText, show ps.all (hasB W H xs) = false from by rw [List.all_eq_false]; exact ⟨x, List.mem_of_getElem? HX.out, by simp [hs]⟩, Bool.and_false, Bool.and_false]))
        go_wp2_with fail
        refine (boHas_any W H A n c x xs _ RA.out (cells_le (goodB_iff.1 HG.out).1 (goodB_iff.1 HG.out).2.1)).mono ?_
        rw [hs]
        rintro e wz ⟨rfl, hb⟩
        replace HB := Lib.hid (below_next HB.out hb)
        clear hb hs
        go_wp2
        go_ret2
        exact ⟨by rw [NO.out.1, NO.out.2]; rfl, B.out.trans (HB.out.mono B.out.size)⟩
      | true =>
        have HS := Lib.hid hs
        go_wp2_with fail
        refine (boHas_any W H A n c x xs _ RA.out (cells_le (goodB_iff.1 HG.out).1 (goodB_iff.1 HG.out).2.1)).mono ?_
        rw [hs]
        rintro e wz ⟨rfl, hb⟩
        replace a0 := cell_keep a0 al hb; replace a1 := cell_keep a1 al hb; replace a2 := cell_keep a2 al hb; replace al := lt_keep al hb
        replace HB := Lib.hid (below_next HB.out hb)
        clear hb hs a0 a1 a2 al x0
        go_wp2
        go_roundw
        case rel => exact ⟨k + 1, by omega, by go_num, by rw [List.take_add_one, HX.out, List.all_append, HALL.out]; simp [HS.out], HB.out⟩
        case measure => simp [intOf]; omega
    · have HAL := Lib.hid (show ps.all (hasB W H xs) = true by have h := HALL.out; rw [List.take_of_length_le (by have := HPL.out; omega)] at h; exact h)
      have YES := Lib.hid (text_yes HG.out (by rw [HPL.out]; exact HM.out) HAL.out)
      go_wp2_with fail
      refine (boText_any W H A n c xs A2 m c2 ps _ RR.out HG.out HM.out (List.all_eq_true.1 HAL.out)).mono ?_
      rintro e wz ⟨rfl, hb⟩
      replace HB := Lib.hid (below_next HB.out hb)
      clear hb a0 a1 a2 al
      go_wp2
      go_ret2
      exact ⟨by rw [YES.out.1, YES.out.2]; rfl, B.out.trans (HB.out.mono B.out.size)⟩

set_option maxRecDepth 100000 in
set_option maxHeartbeats 1000000 in
theorem impl_PathText (W H : Int) (A : Option Addr) (n c : Nat) (xs : List Int) (A2 : Option Addr) (m c2 : Nat) (ps : List Int) (w : World) (ha : Rd w A n xs) (hp : Rd w A2 m ps) :
    Calls Try.prog 33 #[brd W H A n c, .slice A2 m c2] w fun e w' => e = .returned (.tuple #[.string (textV W H xs ps), .bool (okText W H xs ps)]) ∧ Below w.heap.size w w' := by
  obtain ⟨W2, hW2⟩ : ∃ W2, W2 = w.alloc (.cells #[.int .i64 W, .int .i64 H, .slice A n c] 24) := ⟨_, rfl⟩
  have hsz : W2.heap.size = w.heap.size + 1 := by rw [hW2]; simp
  have a0 : W2.cell? ⟨w.heap.size, 0, none⟩ = some (.int .i64 W) := by rw [hW2]; go_simp
  have a1 : W2.cell? ⟨w.heap.size, 1, none⟩ = some (.int .i64 H) := by rw [hW2]; go_simp
  have a2 : W2.cell? ⟨w.heap.size, 2, none⟩ = some (.slice A n c) := by rw [hW2]; go_simp
  have al : w.heap.size < W2.heap.size := by omega
  have B := Lib.hid (show Below w.heap.size w W2 by rw [hW2]; exact below_new (Below.refl _ _) _)
  have R := Lib.hid (ha.keep B.out); have RP := Lib.hid (hp.keep B.out)
  have HPL := Lib.hid hp.1
  have m9 := hp.2.1
  by_cases hg : goodB W H xs = true
  rotate_left
  · have hg' : goodB W H xs = false := by simpa using hg
    have NO := Lib.hid (text_no (ps := ps) (show okText W H xs ps = false by rw [okText, hg']; rfl))
    go_enter Try.func33, Try.ntmps33
    go_wp2_with fail
    rw [← hW2]
    clear hW2
    refine (isBoard_any W H A n c xs W2 R.out).mono ?_
    rw [hg']
    rintro e wv ⟨rfl, hb⟩
    replace B := Lib.hid (below_next B.out hb)
    clear hb
    go_wp2
    go_ret2
    exact ⟨by rw [NO.out.1, NO.out.2]; rfl, B.out⟩
  have HG := Lib.hid hg
  go_enter Try.func33, Try.ntmps33
  go_wp2_with fail
  rw [← hW2]
  clear hW2
  refine (isBoard_any W H A n c xs W2 R.out).mono ?_
  rw [hg]
  rintro e wv ⟨rfl, hb⟩
  replace a0 := cell_keep a0 al hb; replace a1 := cell_keep a1 al hb; replace a2 := cell_keep a2 al hb; replace al := lt_keep al hb
  replace B := Lib.hid (below_next B.out hb)
  replace R := Lib.hid (ha.keep B.out); replace RP := Lib.hid (hp.keep B.out)
  clear hb hg hsz ha hp
  by_cases hm : m ≤ 64
  rotate_left
  · have NO := Lib.hid (text_no (show okText W H xs ps = false by rw [okText, show decide (ps.length ≤ 64) = false from decide_eq_false (by rw [HPL.out]; exact hm), Bool.false_and, Bool.and_false]))
    have hm2 : (64 : Int) < (m : Int) := by omega
    go_wp2
    go_ret2
    exact ⟨by rw [NO.out.1, NO.out.2]; rfl, B.out⟩
  have HM := Lib.hid hm
  have HA := Lib.hid (⟨a0, a1, a2, al⟩ : wv.cell? ⟨w.heap.size, 0, none⟩ = some (.int .i64 W) ∧ wv.cell? ⟨w.heap.size, 1, none⟩ = some (.int .i64 H) ∧ wv.cell? ⟨w.heap.size, 2, none⟩ = some (.slice A n c) ∧ w.heap.size < wv.heap.size)
  clear a0 a1 a2 al
  go_wp2
  go_loopw [6, 19] (fun s i wr => ∃ (k c' : Nat) (A' : Option Addr), k ≤ m ∧ i = .int .i64 k ∧ s = .slice A' k c' ∧ OwnStr wr wv.heap.size A' k c' ((ps.take k).map (nmS W)) ∧ (ps.take k).all (hasB W H xs) = true ∧ Below wv.heap.size wv wr) (fun _ i _ => m - (intOf i).toNat)
  case atStart => exact ⟨0, 0, none, Nat.zero_le _, rfl, rfl, ⟨rfl, .inl ⟨rfl, rfl⟩⟩, rfl, Below.refl _ _⟩
  case round =>
    obtain ⟨k, c', A', hk, rfl, rfl, hown, hall, hbw⟩ := hrel
    have OWN := Lib.hid hown
    clear hown
    have HALL := Lib.hid hall
    have hb := hbw
    obtain ⟨a0, a1, a2, al⟩ := HA.out
    replace a0 := cell_keep a0 al hb; replace a1 := cell_keep a1 al hb; replace a2 := cell_keep a2 al hb; replace al := lt_keep al hb
    have HB := Lib.hid hbw
    have hsw := hbw.size
    have RR := Lib.hid (RP.out.keep hbw)
    have RA := Lib.hid (R.out.keep hbw)
    clear hall hbw hb
    by_cases hlt : k < m
    · obtain ⟨bb, oo, x, rfl, hg1, hx, x0⟩ := RR.out.at_ hlt
      have HX := Lib.hid hx
      clear hx
      cases hs : hasB W H xs x with
      | false =>
        have NO := Lib.hid (text_no (show okText W H xs ps = false by
          rw [okText, show ps.all (hasB W H xs) = false from by rw [List.all_eq_false]; exact ⟨x, List.mem_of_getElem? HX.out, by simp [hs]⟩, Bool.and_false, Bool.and_false]))
        go_wp2_with fail
        refine (isThere_any W H A n c x xs _ RA.out HG.out).mono ?_
        rw [hs]
        rintro e wz ⟨rfl, hb⟩
        replace HB := Lib.hid (below_next HB.out hb)
        clear hb hs
        go_wp2
        go_ret2
        exact ⟨by rw [NO.out.1, NO.out.2]; rfl, B.out.trans (HB.out.mono B.out.size)⟩
      | true =>
        have HS := Lib.hid hs
        go_wp2_with fail
        refine (isThere_any W H A n c x xs _ RA.out HG.out).mono ?_
        rw [hs]
        rintro e wz ⟨rfl, hb⟩
        replace a0 := cell_keep a0 al hb; replace a1 := cell_keep a1 al hb; replace a2 := cell_keep a2 al hb; replace al := lt_keep al hb
        replace HB := Lib.hid (below_next HB.out hb)
        replace OWN := Lib.hid (OWN.out.keep hb)
        have CF := Lib.hid (cell_facts HG.out HS.out)
        clear hb hs
        go_wp2_with fail
        refine (spotOf_any W H _ _ _ x _ (goodB_iff.1 HG.out).1 CF.out.1).mono ?_
        rintro e wu ⟨rfl, hb⟩
        replace OWN := Lib.hid (OWN.out.keep hb)
        replace HB := Lib.hid (below_next HB.out hb)
        clear hb a0 a1 a2 al x0
        go_wp2_with fail
        refine (nameAt_any (x % W) (x / W) _ CF.out.2.2.1 CF.out.2.2.2 CF.out.2.1.1 CF.out.2.1.2).mono ?_
        rintro e wt ⟨rfl, hb⟩
        replace OWN := Lib.hid (OWN.out.keep hb)
        replace HB := Lib.hid (below_next HB.out hb)
        have hst := HB.out.size
        clear hb hsw
        rw [show nameS (x % W) (x / W) = nmS W x from rfl]
        obtain ⟨u, hu⟩ : ∃ u, u = nmS W x := ⟨_, rfl⟩
        rw [← hu]
        have HU := Lib.hid hu
        clear hu
        go_wp2_with (at_builtin; refine wpList_appStr rfl (.tmp 27) (.tmp 32) rfl wv.heap.size A' k c' ((ps.take k).map (nmS W)) u rfl OWN.out rfl (by omega) hst ?_; intro A9 c9 w9 hown9 hb9)
        go_roundw
        case rel => exact ⟨k + 1, c9, A9, by omega, by go_num, rfl, by rw [List.take_add_one, HX.out, List.map_append]; rw [HU.out] at hown9; exact hown9, by rw [List.take_add_one, HX.out, List.all_append, HALL.out]; simp [HS.out], HB.out.trans hb9⟩
        case measure => simp [intOf]; omega
    · have HAL := Lib.hid (show ps.all (hasB W H xs) = true by have h := HALL.out; rw [List.take_of_length_le (by have := HPL.out; omega)] at h; exact h)
      have YES := Lib.hid (text_yes HG.out (by rw [HPL.out]; exact HM.out) HAL.out)
      obtain rfl : k = m := by omega
      have OM := Lib.hid (show OwnStr wr wv.heap.size A' k c' (ps.map (nmS W)) by have h := OWN.out; rw [List.take_of_length_le (by have := HPL.out; omega)] at h; exact h)
      clear OWN a0 a1 a2 al
      rcases OM.out.form with ⟨rfl, rfl, rfl⟩ | ⟨g, rfl, hgl, hnc⟩
      · have HE := Lib.hid (show txt W ps = ⟨#[]⟩ by have : ps = [] := List.eq_nil_of_length_eq_zero HPL.out; rw [this]; rfl)
        go_wp2_with fail
        refine (Try.strings_Join_none none 0 ⟨#[45]⟩ _).mono ?_
        rintro e wz ⟨rfl, rfl⟩
        go_wp2
        go_ret2
        exact ⟨by rw [YES.out.1, YES.out.2, HE.out]; rfl, B.out.trans (HB.out.mono B.out.size)⟩
      · have hml : (ps.map (nmS W)).length = k := by rw [List.length_map]; exact HPL.out
        have HJ := Lib.hid (Try.strings_Join g 0 c' (ps.map (nmS W)) ⟨#[45]⟩ wr (fun j x hj => OM.out.cell hj) hgl (by rw [hml]; have := HM.out; omega) (by rw [hml]; exact hnc) (by have h := txt_size W _ ps rfl; rw [HPL.out] at h; have h2 := HM.out; have h3 : (txt W ps).size = (Lib.join ((ps.map (nmS W)).map (·.data.toList)) [45]).length := (by simp [txt, ByteArray.size]); rw [show ((⟨#[45]⟩ : ByteArray).data.toList) = [45] from rfl, ← h3]; omega))
        rw [hml] at HJ
        go_wp2_with fail
        refine HJ.out.mono ?_
        rintro e wz ⟨rfl, hb⟩
        replace HB := Lib.hid (below_next HB.out hb)
        rw [show (⟨(Lib.join ((ps.map (nmS W)).map (·.data.toList)) (⟨#[45]⟩ : ByteArray).data.toList).toArray⟩ : ByteArray) = txt W ps from rfl]
        obtain ⟨u, hu⟩ : ∃ u, u = txt W ps := ⟨_, rfl⟩
        rw [← hu]
        have HU := Lib.hid hu
        clear hu hb HJ hml
        go_wp2
        go_ret2
        exact ⟨by rw [YES.out.1, YES.out.2, ← HU.out]; rfl, B.out.trans (HB.out.mono B.out.size)⟩

end Go.Proofs.Ytadopgfpfbianaa
