/-
  Contracts: CountLeaps.
-/
import Derived.Test.YtadopgfpfbianaaS10
namespace Go.Proofs.Ytadopgfpfbianaa
open Go.RowKit

set_option maxRecDepth 100000 in
set_option maxHeartbeats 1000000 in
theorem leadsOn_any (x y dx dy : Int) (w : World) :
    Calls Try.prog 67 #[lpv x y dx dy] w fun e w' => e = .returned (.bool (leadsB (dx, dy))) ∧ Below w.heap.size w w' := by
  by_cases h1 : 0 < dy
  · go_enter Try.func67, Try.ntmps67
    go_wp2
    all_goals go_ret
    all_goals exact ⟨ret_bool (by simp [leadsB]; omega), below_new (Below.refl _ _) _⟩
  · by_cases h2 : dy = 0
    · subst h2
      by_cases h3 : 0 < dx
      · go_enter Try.func67, Try.ntmps67
        go_wp2
        all_goals go_ret
        all_goals exact ⟨ret_bool (by simp [leadsB]; omega), below_new (Below.refl _ _) _⟩
      · go_enter Try.func67, Try.ntmps67
        go_wp2
        all_goals go_ret
        all_goals exact ⟨ret_bool (by simp [leadsB]; omega), below_new (Below.refl _ _) _⟩
    · have h2' : (dy == 0) = false := by simpa using h2
      go_enter Try.func67, Try.ntmps67
      go_wp2
      all_goals go_ret
      all_goals exact ⟨ret_bool (by simp [leadsB]; omega), below_new (Below.refl _ _) _⟩

theorem cnt_yes {f : Int × Int → Bool} {l : List (Int × Int)} {k : Nat} {x : Int × Int} (hx : l[k]? = some x) (h : f x = true) : ((l.take (k + 1)).filter f).length = ((l.take k).filter f).length + 1 := by
  rw [List.take_add_one, hx, List.filter_append]; simp [h]
theorem cnt_no {f : Int × Int → Bool} {l : List (Int × Int)} {k : Nat} {x : Int × Int} (hx : l[k]? = some x) (h : f x = false) : ((l.take (k + 1)).filter f).length = ((l.take k).filter f).length := by
  rw [List.take_add_one, hx, List.filter_append]; simp [h]

set_option maxRecDepth 100000 in
set_option maxHeartbeats 1000000 in
theorem countIf_any (x y : Int) (lo : Nat) (A : Option Addr) (n c : Nat) (G : List (Int × Int)) (w : World) (hown : OwnK (encL x y) 4 86 w lo A n c G) (hn : n ≤ 64) :
    Calls Try.prog 65 #[.slice A n c, .func (.func 67) #[] #[]] w fun e w' => e = .returned (.int .i64 ((G.filter leadsB).length : Int)) ∧ Below w.heap.size w w' := by
  have ST := Lib.hid hown
  have SL := Lib.hid hown.len
  clear hown
  go_enter Try.func65, Try.ntmps65
  go_wp2
  go_loopw [5, 10] (fun v i wr => ∃ k m : Nat, k ≤ n ∧ i = .int .i64 k ∧ v = .int .i64 m ∧ m = ((G.take k).filter leadsB).length ∧ Below w.heap.size w wr) (fun _ i _ => n - (intOf i).toNat)
  case atStart => exact ⟨0, 0, Nat.zero_le _, rfl, rfl, by simp, Below.refl _ _⟩
  case round =>
    obtain ⟨k, m, hk, rfl, rfl, hm, hbw⟩ := hrel
    have hm8 : m ≤ 64 := by have := List.length_filter_le leadsB (G.take k); rw [List.length_take] at this; omega
    have HM := Lib.hid hm
    clear hm
    by_cases hlt : k < n
    · obtain ⟨⟨dx, dy⟩, hx⟩ : ∃ p, G[k]? = some p := ⟨_, List.getElem?_eq_getElem (show k < G.length by have := SL.out; omega)⟩
      obtain ⟨g1, rfl, _, hg1⟩ := ST.out.some_ hlt
      obtain ⟨x0, x1, x2, x3⟩ := leap_at ST.out hx
      have HX := Lib.hid hx
      replace x0 := cell_keep x0 hg1 hbw; replace x1 := cell_keep x1 hg1 hbw; replace x2 := cell_keep x2 hg1 hbw; replace x3 := cell_keep x3 hg1 hbw
      simp only at x2 x3
      have HB := Lib.hid hbw
      clear hx hbw
      cases hs : leadsB (dx, dy) with
      | true =>
        have HS := Lib.hid hs
        clear hs
        go_wp2_with fail
        refine (leadsOn_any x y dx dy _).mono ?_
        rw [HS.out]
        rintro e wv ⟨rfl, hb⟩
        replace HB := Lib.hid (below_next HB.out (below_box hb))
        clear hb
        go_wp2
        go_roundw
        case rel => exact ⟨k + 1, m + 1, by omega, by go_num, by go_num, by rw [cnt_yes HX.out HS.out, ← HM.out], HB.out⟩
        case measure => simp [intOf]; omega
      | false =>
        have HS := Lib.hid hs
        clear hs
        go_wp2_with fail
        refine (leadsOn_any x y dx dy _).mono ?_
        rw [HS.out]
        rintro e wv ⟨rfl, hb⟩
        replace HB := Lib.hid (below_next HB.out (below_box hb))
        clear hb
        go_wp2
        go_roundw
        case rel => exact ⟨k + 1, m, by omega, by go_num, rfl, by rw [cnt_no HX.out HS.out, ← HM.out], HB.out⟩
        case measure => simp [intOf]; omega
    · have e2 : G.take k = G := List.take_of_length_le (by have := SL.out; omega)
      go_wp2
      go_ret
      exact ⟨ret_int (by rw [HM.out, e2]), hbw⟩

def countLeapsV (W H : Int) (xs : List Int) (a b : Int) : Int := if okTwo W H xs a b then sumL (degL W H xs a b) / 2 else 0
theorem sum_bd {f : Int → Int} {B : Int} (hB : 0 ≤ B) : ∀ (l : List Int), (∀ x ∈ l, 0 ≤ f x ∧ f x ≤ B) → 0 ≤ sumL (l.map f) ∧ sumL (l.map f) ≤ B * l.length
  | [], _ => by simp [sumL]
  | x :: t, h => by
    have ih := sum_bd hB t (fun y hy => h y (List.mem_cons_of_mem _ hy))
    have hx := h x List.mem_cons_self
    rw [List.map_cons, sumL_cons, List.length_cons]
    have : B * ((t.length + 1 : Nat) : Int) = B * t.length + B := by rw [Int.natCast_add, Int.mul_add]; omega
    omega
theorem sum_take {f : Int → Int} {l : List Int} {k : Nat} {x : Int} (hx : l[k]? = some x) : sumL ((l.take (k + 1)).map f) = sumL ((l.take k).map f) + f x := by
  rw [List.take_add_one, hx, List.map_append]; exact sumL_snoc _ _
theorem pairs_bd {W H a b : Int} {xs : List Int} (hl : leaperB a b = true) (l : List Int) (h : l.length ≤ 64) : 0 ≤ sumL (l.map fun q => (((goesL W H xs a b q).filter leadsB).length : Int)) ∧ sumL (l.map fun q => (((goesL W H xs a b q).filter leadsB).length : Int)) ≤ 512 := by
  have := sum_bd (f := fun q => (((goesL W H xs a b q).filter leadsB).length : Int)) (B := 8) (by omega) l (fun x _ => by
    have h1 := List.length_filter_le leadsB (goesL W H xs a b x)
    have h2 := goesL_len8 (W := W) (H := H) (xs := xs) (q := x) hl
    omega)
  omega
theorem deg_bd {W H a b : Int} {xs : List Int} (hN : 1 ≤ W * H ∧ W * H ≤ 64) (l : List Int) (h : l.length ≤ 64) : 0 ≤ sumL (l.map fun q => ((leapsL W H xs a b q).length : Int)) ∧ sumL (l.map fun q => ((leapsL W H xs a b q).length : Int)) ≤ 4096 := by
  have := sum_bd (f := fun q => ((leapsL W H xs a b q).length : Int)) (B := 64) (by omega) l (fun x _ => by
    have h2 := leapsL_len64 (W := W) (H := H) (xs := xs) (a := a) (b := b) (q := x) hN
    omega)
  omega

set_option maxRecDepth 100000 in
set_option maxHeartbeats 2000000 in
theorem impl_CountLeaps (W H : Int) (A : Option Addr) (n c : Nat) (xs : List Int) (a b : Int) (w : World) (ha : Rd w A n xs) :
    Calls Try.prog 30 #[brd W H A n c, lpr a b] w fun e w' => e = .returned (.tuple #[.int .i64 (countLeapsV W H xs a b), .bool (okTwo W H xs a b)]) ∧ Below w.heap.size w w' := by
  by_cases hl : leaperB a b = true
  · by_cases hg : goodB W H xs = true
    · have HG := Lib.hid hg; have HL := Lib.hid hl
      have HW := Lib.hid (goodB_iff.1 hg).1
      have HN := Lib.hid (two_N (show (goodB W H xs && leaperB a b) = true by rw [hg, hl]; rfl))
      obtain ⟨i0, hi, hz0, hz1, hz2⟩ := info_parts infoI
      have HI := Lib.hid hi; have HZ0 := Lib.hid hz0; have HZ1 := Lib.hid hz1; have HZ2 := Lib.hid hz2
      clear hi hz0 hz1 hz2
      go_enter Try.func30, Try.ntmps30
      go_wp2_with fail
      refine (isLeaper_any _ _ _).mono ?_
      rw [hl]
      rintro e wv ⟨rfl, hb⟩
      have hbx0 := below_box hb
      have a0 : wv.cell? ⟨w.heap.size, 0, none⟩ = some (.int .i64 W) := by simpa using newbox hbx0 0
      have a1 : wv.cell? ⟨w.heap.size, 1, none⟩ = some (.int .i64 H) := by simpa using newbox hbx0 1
      have a2 : wv.cell? ⟨w.heap.size, 2, none⟩ = some (.slice A n c) := by simpa using newbox hbx0 2
      have al : w.heap.size < wv.heap.size := by simpa using newbox_lt hbx0
      have l0 : wv.cell? ⟨w.heap.size + 1, 0, none⟩ = some (.int .i64 a) := by simpa using newbox hb 0
      have l1 : wv.cell? ⟨w.heap.size + 1, 1, none⟩ = some (.int .i64 b) := by simpa using newbox hb 1
      have ll : w.heap.size + 1 < wv.heap.size := by simpa using newbox_lt hb
      have B := Lib.hid (below_box hbx0)
      clear hb hbx0
      go_wp2_with fail
      refine (isBoard_any _ _ _ _ _ _ _ (ha.keep B.out)).mono ?_
      rw [hg]
      rintro e wv ⟨rfl, hb⟩
      replace a0 := cell_keep a0 al hb
      replace a1 := cell_keep a1 al hb
      replace a2 := cell_keep a2 al hb
      replace al := lt_keep al hb
      replace l0 := cell_keep l0 ll hb
      replace l1 := cell_keep l1 ll hb
      replace ll := lt_keep ll hb
      replace B := Lib.hid (below_next B.out hb)
      clear hb
      have R := Lib.hid (ha.keep B.out)
      go_wp2_with fail
      refine (cellsThere_any W H A n c xs _ R.out HG.out).mono ?_
      rintro e ws ⟨A1, n1, c1, rfl, hst, hb⟩
      replace a0 := cell_keep a0 al hb; replace a1 := cell_keep a1 al hb; replace a2 := cell_keep a2 al hb; replace l0 := cell_keep l0 ll hb; replace l1 := cell_keep l1 ll hb; replace al := lt_keep al hb; replace ll := lt_keep ll hb
      replace R := Lib.hid (R.out.keep hb)
      have hB0 := B.out.size
      replace B := Lib.hid (below_next B.out hb)
      have hs1 := hb.size
      have ST := Lib.hid hst.rd
      have SL := Lib.hid hst.len
      have n8 : n1 ≤ 64 := by have := cellsL_len64 (xs := xs) HN.out; have := hst.len; omega
      have n9 := hst.rd.2.1
      clear hst hb
      go_wp2
      go_loopw [6, 20] (fun v i wr => ∃ (k : Nat) (z : Int), k ≤ n1 ∧ i = .int .i64 k ∧ v = .int .i64 z ∧ z = sumL (((cellsL W H xs).take k).map fun q => (((goesL W H xs a b q).filter leadsB).length : Int)) ∧ Below ws.heap.size ws wr) (fun _ i _ => n1 - (intOf i).toNat)
      case atStart => exact ⟨0, 0, by omega, rfl, rfl, by simp [sumL], Below.refl _ _⟩
      case round =>
        obtain ⟨k, z, hk, rfl, rfl, hz, hbw⟩ := hrel
        have hz8 := pairs_bd (W := W) (H := H) (xs := xs) (b := b) HL.out ((cellsL W H xs).take k) (by rw [List.length_take]; omega)
        rw [← hz] at hz8
        obtain ⟨hz0, hz9⟩ := hz8
        have HZ := Lib.hid hz
        clear hz
        by_cases hlt : k < n1
        · obtain ⟨bb, oo, x, rfl, hg1, hx, x0⟩ := ST.out.at_ hlt
          have HX := Lib.hid hx
          have hin := cellsL_mem.1 (List.mem_of_getElem? hx)
          have HXQ := Lib.hid (hasB_iff.1 hin).1
          have HXR := Lib.hid (range_of HN.out hin)
          replace x0 := cell_keep x0 hg1 hbw
          have b0 := cell_keep a0 al hbw; have b1 := cell_keep a1 al hbw; have b2 := cell_keep a2 al hbw; have m0 := cell_keep l0 ll hbw; have m1 := cell_keep l1 ll hbw
          have gb := lt_keep al hbw; have gm := lt_keep ll hbw
          have RR := Lib.hid (R.out.keep hbw)
          have HB := Lib.hid hbw
          have hsw := hbw.size
          clear hx hin hbw
          go_wp2_with fail
          refine (leapsAt_any W H A n c xs a b x _ RR.out HG.out HL.out HXQ.out).mono ?_
          rintro e wv ⟨A3, n3, c3, rfl, hl3, hb⟩
          have HL3 := Lib.hid hl3
          have hn3 : n3 ≤ 64 := by have := hl3.len; have := goesL_len8 (W := W) (H := H) (xs := xs) (q := x) HL.out; omega
          clear hl3
          replace b0 := cell_keep b0 gb hb; replace b1 := cell_keep b1 gb hb; replace b2 := cell_keep b2 gb hb; replace m0 := cell_keep m0 gm hb; replace m1 := cell_keep m1 gm hb; replace gb := lt_keep gb hb; replace gm := lt_keep gm hb; replace RR := Lib.hid (RR.out.keep hb); replace HB := Lib.hid (HB.out.trans (hb.mono (by omega))); replace hsw := Nat.le_trans hsw hb.size; clear hb
          go_wp2_with fail
          refine (countIf_any _ _ _ _ _ _ _ _ HL3.out hn3).mono ?_
          rintro e wv ⟨rfl, hb⟩
          replace b0 := cell_keep b0 gb hb; replace b1 := cell_keep b1 gb hb; replace b2 := cell_keep b2 gb hb; replace m0 := cell_keep m0 gm hb; replace m1 := cell_keep m1 gm hb; replace gb := lt_keep gb hb; replace gm := lt_keep gm hb; replace RR := Lib.hid (RR.out.keep hb); replace HB := Lib.hid (HB.out.trans (hb.mono (by omega))); replace hsw := Nat.le_trans hsw hb.size; clear hb
          have hc8 : 0 ≤ (((goesL W H xs a b x).filter leadsB).length : Int) ∧ (((goesL W H xs a b x).filter leadsB).length : Int) ≤ 8 := by
            have h1 := List.length_filter_le leadsB (goesL W H xs a b x)
            have h2 := goesL_len8 (W := W) (H := H) (xs := xs) (q := x) HL.out
            omega
          obtain ⟨hc0, hc9⟩ := hc8
          go_wp2
          go_roundw
          case rel => exact ⟨k + 1, z + (((goesL W H xs a b x).filter leadsB).length : Int), by omega, by go_num, rfl, by rw [sum_take HX.out, ← HZ.out], HB.out⟩
          case measure => simp [intOf]; omega
        · have e : k = n1 := by omega
          subst e
          have e2 : (cellsL W H xs).take k = cellsL W H xs := List.take_of_length_le (by have := SL.out; omega)
          have HB := Lib.hid hbw; have E2 := Lib.hid e2
          clear hbw e2
          go_wp2
          go_ret2
          exact ⟨by rw [HZ.out, E2.out, pairs_half HW.out.1 HL.out, show okTwo W H xs a b = true by rw [okTwo, HL.out, HG.out]; rfl, countLeapsV, if_pos (by rw [okTwo, HL.out, HG.out]; rfl)]; rfl, B.out.trans (HB.out.mono (by omega))⟩
    · have hg' : goodB W H xs = false := by simpa using hg
      go_enter Try.func30, Try.ntmps30
      go_wp2_with fail
      refine (isLeaper_any _ _ _).mono ?_
      rw [hl]
      rintro e wv ⟨rfl, hb⟩
      have hbx0 := below_box hb
      have a0 : wv.cell? ⟨w.heap.size, 0, none⟩ = some (.int .i64 W) := by simpa using newbox hbx0 0
      have a1 : wv.cell? ⟨w.heap.size, 1, none⟩ = some (.int .i64 H) := by simpa using newbox hbx0 1
      have a2 : wv.cell? ⟨w.heap.size, 2, none⟩ = some (.slice A n c) := by simpa using newbox hbx0 2
      have al : w.heap.size < wv.heap.size := by simpa using newbox_lt hbx0
      have l0 : wv.cell? ⟨w.heap.size + 1, 0, none⟩ = some (.int .i64 a) := by simpa using newbox hb 0
      have l1 : wv.cell? ⟨w.heap.size + 1, 1, none⟩ = some (.int .i64 b) := by simpa using newbox hb 1
      have ll : w.heap.size + 1 < wv.heap.size := by simpa using newbox_lt hb
      have B := Lib.hid (below_box hbx0)
      clear hb hbx0
      go_wp2_with fail
      refine (isBoard_any _ _ _ _ _ _ _ (ha.keep B.out)).mono ?_
      rw [hg']
      rintro e wv ⟨rfl, hb⟩
      replace a0 := cell_keep a0 al hb
      replace a1 := cell_keep a1 al hb
      replace a2 := cell_keep a2 al hb
      replace al := lt_keep al hb
      replace l0 := cell_keep l0 ll hb
      replace l1 := cell_keep l1 ll hb
      replace ll := lt_keep ll hb
      replace B := Lib.hid (below_next B.out hb)
      clear hb
      go_wp2
      go_ret2
      exact ⟨by rw [show countLeapsV W H xs a b = 0 by (rw [countLeapsV, if_neg (by rw [okTwo, hg']; simp)]), show okTwo W H xs a b = false by (rw [okTwo, hg']; simp)]; rfl, B.out⟩
  · have hl' : leaperB a b = false := by simpa using hl
    go_enter Try.func30, Try.ntmps30
    go_wp2_with fail
    refine (isLeaper_any _ _ _).mono ?_
    rw [hl']
    rintro e wv ⟨rfl, hb⟩
    have hbx0 := below_box hb
    have a0 : wv.cell? ⟨w.heap.size, 0, none⟩ = some (.int .i64 W) := by simpa using newbox hbx0 0
    have a1 : wv.cell? ⟨w.heap.size, 1, none⟩ = some (.int .i64 H) := by simpa using newbox hbx0 1
    have a2 : wv.cell? ⟨w.heap.size, 2, none⟩ = some (.slice A n c) := by simpa using newbox hbx0 2
    have al : w.heap.size < wv.heap.size := by simpa using newbox_lt hbx0
    have l0 : wv.cell? ⟨w.heap.size + 1, 0, none⟩ = some (.int .i64 a) := by simpa using newbox hb 0
    have l1 : wv.cell? ⟨w.heap.size + 1, 1, none⟩ = some (.int .i64 b) := by simpa using newbox hb 1
    have ll : w.heap.size + 1 < wv.heap.size := by simpa using newbox_lt hb
    have B := Lib.hid (below_box hbx0)
    clear hb hbx0
    go_wp2
    go_ret2
    exact ⟨by rw [show countLeapsV W H xs a b = 0 by (rw [countLeapsV, if_neg (by rw [okTwo, hl']; simp)]), show okTwo W H xs a b = false by (rw [okTwo, hl']; simp)]; rfl, B.out⟩

set_option maxRecDepth 100000 in
set_option maxHeartbeats 2000000 in
theorem spec_CountLeaps (W H : Int) (A : Option Addr) (n c : Nat) (xs : List Int) (a b : Int) (w : World) (ha : Rd w A n xs) :
    Calls Try.prog 28 #[brd W H A n c, lpr a b] w fun e w' => e = .returned (.tuple #[.int .i64 (countLeapsV W H xs a b), .bool (okTwo W H xs a b)]) ∧ Below w.heap.size w w' := by
  by_cases ht : (goodB W H xs && leaperB a b) = true
  · have HG := Lib.hid (two_g ht); have HL := Lib.hid (two_l ht)
    have HN := Lib.hid (two_N ht)
    go_enter Try.func28, Try.ntmps28
    go_wp2_with fail
    refine (boTwo_any _ _ _ _ _ _ _ _ _ ((ha.alloc _).alloc _)).mono ?_
    rw [ht]
    rintro e wv ⟨rfl, hb⟩
    have hbx0 := below_box hb
    have a0 : wv.cell? ⟨w.heap.size, 0, none⟩ = some (.int .i64 W) := by simpa using newbox hbx0 0
    have a1 : wv.cell? ⟨w.heap.size, 1, none⟩ = some (.int .i64 H) := by simpa using newbox hbx0 1
    have a2 : wv.cell? ⟨w.heap.size, 2, none⟩ = some (.slice A n c) := by simpa using newbox hbx0 2
    have al : w.heap.size < wv.heap.size := by simpa using newbox_lt hbx0
    have l0 : wv.cell? ⟨w.heap.size + 1, 0, none⟩ = some (.int .i64 a) := by simpa using newbox hb 0
    have l1 : wv.cell? ⟨w.heap.size + 1, 1, none⟩ = some (.int .i64 b) := by simpa using newbox hb 1
    have ll : w.heap.size + 1 < wv.heap.size := by simpa using newbox_lt hb
    have B := Lib.hid (below_box hbx0)
    clear hb hbx0
    have R := Lib.hid (ha.keep B.out)
    go_wp2_with fail
    refine (boDegrees_any W H A n c xs a b _ R.out HG.out).mono ?_
    rintro e ws ⟨A1, n1, c1, rfl, hst, hb⟩
    have hB0 := B.out.size
    replace B := Lib.hid (below_next B.out hb)
    have hs1 := hb.size
    have ST := Lib.hid hst.rd
    have SL := Lib.hid (show (cellsL W H xs).length = n1 by have := hst.len; rw [degL, List.length_map] at this; exact this)
    have n8 : n1 ≤ 64 := by have := cellsL_len64 (xs := xs) HN.out; have := SL.out; omega
    have n9 := hst.rd.2.1
    clear hst hb R
    go_wp2
    go_loopw [6, 17] (fun v i wr => ∃ (k : Nat) (z : Int), k ≤ n1 ∧ i = .int .i64 k ∧ v = .int .i64 z ∧ z = sumL (((cellsL W H xs).take k).map fun q => ((leapsL W H xs a b q).length : Int)) ∧ Below ws.heap.size ws wr) (fun _ i _ => n1 - (intOf i).toNat)
    case atStart => exact ⟨0, 0, by omega, rfl, rfl, by simp [sumL], Below.refl _ _⟩
    case round =>
      obtain ⟨k, z, hk, rfl, rfl, hz, hbw⟩ := hrel
      have hz8 := deg_bd (W := W) (H := H) (xs := xs) (a := a) (b := b) HN.out ((cellsL W H xs).take k) (by rw [List.length_take]; omega)
      rw [← hz] at hz8
      obtain ⟨hz0, hz9⟩ := hz8
      have HZ := Lib.hid hz
      clear hz
      by_cases hlt : k < n1
      · obtain ⟨bb, oo, x, rfl, hg1, hx, x0⟩ := ST.out.at_ hlt
        obtain ⟨y, hy⟩ : ∃ y, (cellsL W H xs)[k]? = some y := ⟨_, List.getElem?_eq_getElem (show k < (cellsL W H xs).length by have := SL.out; omega)⟩
        have hxy : x = ((leapsL W H xs a b y).length : Int) := by rw [degL, List.getElem?_map, hy] at hx; injection hx with hx; exact hx.symm
        have hx8 := leapsL_len64 (W := W) (H := H) (xs := xs) (a := a) (b := b) (q := y) HN.out
        have hxa : 0 ≤ x := by omega
        have hxb : x ≤ 64 := by omega
        have HY := Lib.hid hy; have HXY := Lib.hid hxy
        replace x0 := cell_keep x0 hg1 hbw
        clear hx hy hxy hx8
        go_wp2
        go_roundw
        case rel => exact ⟨k + 1, z + x, by omega, by go_num, rfl, by rw [sum_take HY.out, ← HZ.out, HXY.out], hbw⟩
        case measure => simp [intOf]; omega
      · have e2 : (cellsL W H xs).take k = cellsL W H xs := List.take_of_length_le (by have := SL.out; omega)
        have HB := Lib.hid hbw; have E2 := Lib.hid e2
        clear hbw e2
        go_wp2
        go_ret2
        exact ⟨by rw [HZ.out, E2.out, show okTwo W H xs a b = true by rw [okTwo, HL.out, HG.out]; rfl, countLeapsV, if_pos (by rw [okTwo, HL.out, HG.out]; rfl)]; rfl, B.out.trans (HB.out.mono (by omega))⟩
  · have ht' : (goodB W H xs && leaperB a b) = false := by simpa using ht
    go_enter Try.func28, Try.ntmps28
    go_wp2_with fail
    refine (boTwo_any _ _ _ _ _ _ _ _ _ ((ha.alloc _).alloc _)).mono ?_
    rw [ht']
    rintro e wv ⟨rfl, hb⟩
    have hbx0 := below_box hb
    have a0 : wv.cell? ⟨w.heap.size, 0, none⟩ = some (.int .i64 W) := by simpa using newbox hbx0 0
    have a1 : wv.cell? ⟨w.heap.size, 1, none⟩ = some (.int .i64 H) := by simpa using newbox hbx0 1
    have a2 : wv.cell? ⟨w.heap.size, 2, none⟩ = some (.slice A n c) := by simpa using newbox hbx0 2
    have al : w.heap.size < wv.heap.size := by simpa using newbox_lt hbx0
    have l0 : wv.cell? ⟨w.heap.size + 1, 0, none⟩ = some (.int .i64 a) := by simpa using newbox hb 0
    have l1 : wv.cell? ⟨w.heap.size + 1, 1, none⟩ = some (.int .i64 b) := by simpa using newbox hb 1
    have ll : w.heap.size + 1 < wv.heap.size := by simpa using newbox_lt hb
    have B := Lib.hid (below_box hbx0)
    clear hb hbx0
    go_wp2
    go_ret2
    exact ⟨by rw [show countLeapsV W H xs a b = 0 by (rw [countLeapsV, if_neg (by rw [show okTwo W H xs a b = false by (rw [okTwo, Bool.and_comm]; exact ht')]; decide)]), show okTwo W H xs a b = false by (rw [okTwo, Bool.and_comm]; exact ht')]; rfl, B.out⟩

end Go.Proofs.Ytadopgfpfbianaa
