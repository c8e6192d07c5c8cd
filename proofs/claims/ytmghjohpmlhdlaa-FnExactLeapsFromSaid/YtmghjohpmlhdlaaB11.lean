/-
  Contracts: IsLeap.
-/
import Derived.Test.YtmghjohpmlhdlaaB9
namespace Go.Proofs.Ytmghjohpmlhdlaa
open Go.RowKit

def okLeap (W H : Int) (xs : List Int) (a b p q : Int) : Bool := leaperB a b && (hasV W H xs p && hasV W H xs q)
def isLeapV (W H : Int) (xs : List Int) (a b p q : Int) : Bool := okLeap W H xs a b p q && leapB W a b p q

set_option maxHeartbeats 400000 in
theorem boTwo_any (W H : Int) (A : Option Addr) (n c : Nat) (xs : List Int) (a b : Int) (w : World) (ha : Rd w A n xs) :
    Calls Try.prog 62 #[brd W H A n c, lpr a b] w fun e w' => e = .returned (.bool (goodB W H xs && leaperB a b)) ∧ Below w.heap.size w w' := by
  by_cases hg : goodB W H xs = true
  · go_enter Try.func62, Try.ntmps62
    go_wp2_with fail
    refine (boGood_any _ _ _ _ _ _ _ ((ha.alloc _).alloc _)).mono ?_
    rw [hg]
    rintro e wv ⟨rfl, hb⟩
    have hbx := below_box hb
    have a0 : wv.cell? ⟨w.heap.size, 0, none⟩ = some (.int .i64 W) := by simpa using newbox hbx 0
    have a1 : wv.cell? ⟨w.heap.size, 1, none⟩ = some (.int .i64 H) := by simpa using newbox hbx 1
    have a2 : wv.cell? ⟨w.heap.size, 2, none⟩ = some (.slice A n c) := by simpa using newbox hbx 2
    have al : w.heap.size < wv.heap.size := by simpa using newbox_lt hbx
    have l0 : wv.cell? ⟨w.heap.size + 1, 0, none⟩ = some (.int .i64 a) := by simpa using newbox hb 0
    have l1 : wv.cell? ⟨w.heap.size + 1, 1, none⟩ = some (.int .i64 b) := by simpa using newbox hb 1
    have ll : w.heap.size + 1 < wv.heap.size := by simpa using newbox_lt hb
    have B := Lib.hid (below_box hbx)
    clear hb hbx
    go_wp2_with fail
    refine (boLeaper_any _ _ _).mono ?_
    rintro e wv ⟨rfl, hb⟩
    replace a0 := cell_keep a0 al hb; replace a1 := cell_keep a1 al hb; replace a2 := cell_keep a2 al hb; replace al := lt_keep al hb
    replace l0 := cell_keep l0 ll hb; replace l1 := cell_keep l1 ll hb; replace ll := lt_keep ll hb
    replace B := Lib.hid (below_next B.out hb)
    clear hb
    go_wp2
    go_ret
    exact ⟨ret_bool (by rw [hg]; rfl), B.out⟩
  · have hg' : goodB W H xs = false := by simpa using hg
    go_enter Try.func62, Try.ntmps62
    go_wp2_with fail
    refine (boGood_any _ _ _ _ _ _ _ ((ha.alloc _).alloc _)).mono ?_
    rw [hg']
    rintro e wv ⟨rfl, hb⟩
    have hbx := below_box hb
    have a0 : wv.cell? ⟨w.heap.size, 0, none⟩ = some (.int .i64 W) := by simpa using newbox hbx 0
    have a1 : wv.cell? ⟨w.heap.size, 1, none⟩ = some (.int .i64 H) := by simpa using newbox hbx 1
    have a2 : wv.cell? ⟨w.heap.size, 2, none⟩ = some (.slice A n c) := by simpa using newbox hbx 2
    have al : w.heap.size < wv.heap.size := by simpa using newbox_lt hbx
    have l0 : wv.cell? ⟨w.heap.size + 1, 0, none⟩ = some (.int .i64 a) := by simpa using newbox hb 0
    have l1 : wv.cell? ⟨w.heap.size + 1, 1, none⟩ = some (.int .i64 b) := by simpa using newbox hb 1
    have ll : w.heap.size + 1 < wv.heap.size := by simpa using newbox_lt hb
    have B := Lib.hid (below_box hbx)
    clear hb hbx
    go_wp2
    go_ret
    exact ⟨ret_bool (by rw [hg']; rfl), B.out⟩

theorem range_of {W H q : Int} {xs : List Int} (hN : 1 ≤ W * H ∧ W * H ≤ 64) (h : hasB W H xs q = true) : 0 ≤ q ∧ q ≤ 64 := by
  have := (hasB_iff.1 h).1; omega

set_option maxHeartbeats 1000000 in
theorem spec_IsLeap (W H : Int) (A : Option Addr) (n c : Nat) (xs : List Int) (a b p q : Int) (w : World) (ha : Rd w A n xs) :
    Calls Try.prog 22 #[brd W H A n c, lpr a b, .int .i64 p, .int .i64 q] w fun e w' => e = .returned (.tuple #[.bool (isLeapV W H xs a b p q), .bool (okLeap W H xs a b p q)]) ∧ Below w.heap.size w w' := by
  by_cases ht : (goodB W H xs && leaperB a b) = true
  · have hg : goodB W H xs = true := by simp at ht; exact ht.1
    have hl : leaperB a b = true := by simp at ht; exact ht.2
    obtain ⟨hW, hH, _, _⟩ := goodB_iff.1 hg
    have HN := Lib.hid (cells_le hW hH)
    have HW := Lib.hid hW
    clear hW hH
    by_cases hp : hasB W H xs p = true
    · by_cases hq : hasB W H xs q = true
      · have hv : okLeap W H xs a b p q = true := by simp [okLeap, hasV, hg, hl, hp, hq]
        rw [show isLeapV W H xs a b p q = leapB W a b p q by rw [isLeapV, hv]; rfl, hv]
        go_enter Try.func22, Try.ntmps22
        go_wp2_with fail
        refine (boTwo_any _ _ _ _ _ _ _ _ _ ((ha.alloc _).alloc _)).mono ?_
        rw [ht]
        rintro e wv ⟨rfl, hb⟩
        have hbx := below_box hb
        have a0 : wv.cell? ⟨w.heap.size, 0, none⟩ = some (.int .i64 W) := by simpa using newbox hbx 0
        have a1 : wv.cell? ⟨w.heap.size, 1, none⟩ = some (.int .i64 H) := by simpa using newbox hbx 1
        have a2 : wv.cell? ⟨w.heap.size, 2, none⟩ = some (.slice A n c) := by simpa using newbox hbx 2
        have al : w.heap.size < wv.heap.size := by simpa using newbox_lt hbx
        have l0 : wv.cell? ⟨w.heap.size + 1, 0, none⟩ = some (.int .i64 a) := by simpa using newbox hb 0
        have l1 : wv.cell? ⟨w.heap.size + 1, 1, none⟩ = some (.int .i64 b) := by simpa using newbox hb 1
        have ll : w.heap.size + 1 < wv.heap.size := by simpa using newbox_lt hb
        have B := Lib.hid (below_box hbx)
        clear hb hbx
        go_wp2_with fail
        refine (boHas_any _ _ _ _ _ _ _ _ (ha.keep B.out) HN.out).mono ?_
        rw [hp]
        rintro e wv ⟨rfl, hb⟩
        replace a0 := cell_keep a0 al hb; replace a1 := cell_keep a1 al hb; replace a2 := cell_keep a2 al hb; replace al := lt_keep al hb
        replace l0 := cell_keep l0 ll hb; replace l1 := cell_keep l1 ll hb; replace ll := lt_keep ll hb
        replace B := Lib.hid (below_next B.out hb)
        clear hb
        go_wp2_with fail
        refine (boHas_any _ _ _ _ _ _ _ _ (ha.keep B.out) HN.out).mono ?_
        rw [hq]
        rintro e wv ⟨rfl, hb⟩
        replace a0 := cell_keep a0 al hb; replace a1 := cell_keep a1 al hb; replace a2 := cell_keep a2 al hb; replace al := lt_keep al hb
        replace l0 := cell_keep l0 ll hb; replace l1 := cell_keep l1 ll hb; replace ll := lt_keep ll hb
        replace B := Lib.hid (below_next B.out hb)
        clear hb
        go_wp2_with fail
        refine (boIs_any _ _ _ _ _ _ _ _ _ _ HW.out (range_of HN.out hp) (range_of HN.out hq)).mono ?_
        rintro e wv ⟨rfl, hb⟩
        replace a0 := cell_keep a0 al hb; replace a1 := cell_keep a1 al hb; replace a2 := cell_keep a2 al hb; replace al := lt_keep al hb
        replace l0 := cell_keep l0 ll hb; replace l1 := cell_keep l1 ll hb; replace ll := lt_keep ll hb
        replace B := Lib.hid (below_next B.out hb)
        clear hb
        go_wp2
        go_ret2
        exact ⟨rfl, B.out⟩
      · have hq' : hasB W H xs q = false := by simpa using hq
        have hv : okLeap W H xs a b p q = false := by simp [okLeap, hasV, hq']
        rw [show isLeapV W H xs a b p q = false by rw [isLeapV, hv]; rfl, hv]
        go_enter Try.func22, Try.ntmps22
        go_wp2_with fail
        refine (boTwo_any _ _ _ _ _ _ _ _ _ ((ha.alloc _).alloc _)).mono ?_
        rw [ht]
        rintro e wv ⟨rfl, hb⟩
        have hbx := below_box hb
        have a0 : wv.cell? ⟨w.heap.size, 0, none⟩ = some (.int .i64 W) := by simpa using newbox hbx 0
        have a1 : wv.cell? ⟨w.heap.size, 1, none⟩ = some (.int .i64 H) := by simpa using newbox hbx 1
        have a2 : wv.cell? ⟨w.heap.size, 2, none⟩ = some (.slice A n c) := by simpa using newbox hbx 2
        have al : w.heap.size < wv.heap.size := by simpa using newbox_lt hbx
        have l0 : wv.cell? ⟨w.heap.size + 1, 0, none⟩ = some (.int .i64 a) := by simpa using newbox hb 0
        have l1 : wv.cell? ⟨w.heap.size + 1, 1, none⟩ = some (.int .i64 b) := by simpa using newbox hb 1
        have ll : w.heap.size + 1 < wv.heap.size := by simpa using newbox_lt hb
        have B := Lib.hid (below_box hbx)
        clear hb hbx
        go_wp2_with fail
        refine (boHas_any _ _ _ _ _ _ _ _ (ha.keep B.out) HN.out).mono ?_
        rw [hp]
        rintro e wv ⟨rfl, hb⟩
        replace a0 := cell_keep a0 al hb; replace a1 := cell_keep a1 al hb; replace a2 := cell_keep a2 al hb; replace al := lt_keep al hb
        replace l0 := cell_keep l0 ll hb; replace l1 := cell_keep l1 ll hb; replace ll := lt_keep ll hb
        replace B := Lib.hid (below_next B.out hb)
        clear hb
        go_wp2_with fail
        refine (boHas_any _ _ _ _ _ _ _ _ (ha.keep B.out) HN.out).mono ?_
        rw [hq']
        rintro e wv ⟨rfl, hb⟩
        replace a0 := cell_keep a0 al hb; replace a1 := cell_keep a1 al hb; replace a2 := cell_keep a2 al hb; replace al := lt_keep al hb
        replace l0 := cell_keep l0 ll hb; replace l1 := cell_keep l1 ll hb; replace ll := lt_keep ll hb
        replace B := Lib.hid (below_next B.out hb)
        clear hb
        go_wp2
        go_ret2
        exact ⟨rfl, B.out⟩
    · have hp' : hasB W H xs p = false := by simpa using hp
      have hv : okLeap W H xs a b p q = false := by simp [okLeap, hasV, hp']
      rw [show isLeapV W H xs a b p q = false by rw [isLeapV, hv]; rfl, hv]
      go_enter Try.func22, Try.ntmps22
      go_wp2_with fail
      refine (boTwo_any _ _ _ _ _ _ _ _ _ ((ha.alloc _).alloc _)).mono ?_
      rw [ht]
      rintro e wv ⟨rfl, hb⟩
      have hbx := below_box hb
      have a0 : wv.cell? ⟨w.heap.size, 0, none⟩ = some (.int .i64 W) := by simpa using newbox hbx 0
      have a1 : wv.cell? ⟨w.heap.size, 1, none⟩ = some (.int .i64 H) := by simpa using newbox hbx 1
      have a2 : wv.cell? ⟨w.heap.size, 2, none⟩ = some (.slice A n c) := by simpa using newbox hbx 2
      have al : w.heap.size < wv.heap.size := by simpa using newbox_lt hbx
      have l0 : wv.cell? ⟨w.heap.size + 1, 0, none⟩ = some (.int .i64 a) := by simpa using newbox hb 0
      have l1 : wv.cell? ⟨w.heap.size + 1, 1, none⟩ = some (.int .i64 b) := by simpa using newbox hb 1
      have ll : w.heap.size + 1 < wv.heap.size := by simpa using newbox_lt hb
      have B := Lib.hid (below_box hbx)
      clear hb hbx
      go_wp2_with fail
      refine (boHas_any _ _ _ _ _ _ _ _ (ha.keep B.out) HN.out).mono ?_
      rw [hp']
      rintro e wv ⟨rfl, hb⟩
      replace a0 := cell_keep a0 al hb; replace a1 := cell_keep a1 al hb; replace a2 := cell_keep a2 al hb; replace al := lt_keep al hb
      replace l0 := cell_keep l0 ll hb; replace l1 := cell_keep l1 ll hb; replace ll := lt_keep ll hb
      replace B := Lib.hid (below_next B.out hb)
      clear hb
      go_wp2
      go_ret2
      exact ⟨rfl, B.out⟩
  · have ht' : (goodB W H xs && leaperB a b) = false := by simpa using ht
    have hv : okLeap W H xs a b p q = false := by
      cases hg : goodB W H xs <;> cases hl : leaperB a b <;> simp_all [okLeap, hasV]
    rw [show isLeapV W H xs a b p q = false by rw [isLeapV, hv]; rfl, hv]
    go_enter Try.func22, Try.ntmps22
    go_wp2_with fail
    refine (boTwo_any _ _ _ _ _ _ _ _ _ ((ha.alloc _).alloc _)).mono ?_
    rw [ht']
    rintro e wv ⟨rfl, hb⟩
    have hbx := below_box hb
    have a0 : wv.cell? ⟨w.heap.size, 0, none⟩ = some (.int .i64 W) := by simpa using newbox hbx 0
    have a1 : wv.cell? ⟨w.heap.size, 1, none⟩ = some (.int .i64 H) := by simpa using newbox hbx 1
    have a2 : wv.cell? ⟨w.heap.size, 2, none⟩ = some (.slice A n c) := by simpa using newbox hbx 2
    have al : w.heap.size < wv.heap.size := by simpa using newbox_lt hbx
    have l0 : wv.cell? ⟨w.heap.size + 1, 0, none⟩ = some (.int .i64 a) := by simpa using newbox hb 0
    have l1 : wv.cell? ⟨w.heap.size + 1, 1, none⟩ = some (.int .i64 b) := by simpa using newbox hb 1
    have ll : w.heap.size + 1 < wv.heap.size := by simpa using newbox_lt hb
    have B := Lib.hid (below_box hbx)
    clear hb hbx
    go_wp2
    go_ret2
    exact ⟨rfl, B.out⟩

set_option maxHeartbeats 1000000 in
theorem impl_IsLeap (W H : Int) (A : Option Addr) (n c : Nat) (xs : List Int) (a b p q : Int) (w : World) (ha : Rd w A n xs) :
    Calls Try.prog 24 #[brd W H A n c, lpr a b, .int .i64 p, .int .i64 q] w fun e w' => e = .returned (.tuple #[.bool (isLeapV W H xs a b p q), .bool (okLeap W H xs a b p q)]) ∧ Below w.heap.size w w' := by
  by_cases hl : leaperB a b = true
  · by_cases hp : hasV W H xs p = true
    · obtain ⟨hg, hW, hH, hp1, hN, hpb⟩ := hasV_facts hp
      have HN := Lib.hid (cells_le hW hH)
      have HW := Lib.hid hW
      clear hW hH hp1 hN
      by_cases hq : hasB W H xs q = true
      · have hv : okLeap W H xs a b p q = true := by simp [okLeap, hl, hasV, hg, hq, hpb]
        rw [show isLeapV W H xs a b p q = leapB W a b p q by rw [isLeapV, hv]; rfl, hv]
        go_enter Try.func24, Try.ntmps24
        go_wp2_with fail
        refine (isLeaper_any _ _ _).mono ?_
        rw [hl]
        rintro e wv ⟨rfl, hb⟩
        have hbx := below_box hb
        have a0 : wv.cell? ⟨w.heap.size, 0, none⟩ = some (.int .i64 W) := by simpa using newbox hbx 0
        have a1 : wv.cell? ⟨w.heap.size, 1, none⟩ = some (.int .i64 H) := by simpa using newbox hbx 1
        have a2 : wv.cell? ⟨w.heap.size, 2, none⟩ = some (.slice A n c) := by simpa using newbox hbx 2
        have al : w.heap.size < wv.heap.size := by simpa using newbox_lt hbx
        have l0 : wv.cell? ⟨w.heap.size + 1, 0, none⟩ = some (.int .i64 a) := by simpa using newbox hb 0
        have l1 : wv.cell? ⟨w.heap.size + 1, 1, none⟩ = some (.int .i64 b) := by simpa using newbox hb 1
        have ll : w.heap.size + 1 < wv.heap.size := by simpa using newbox_lt hb
        have B := Lib.hid (below_box hbx)
        clear hb hbx
        go_wp2_with fail
        refine (isOnBoard_any _ _ _ _ _ _ _ _ (ha.keep B.out)).mono ?_
        rw [hp]
        rintro e wv ⟨rfl, hb⟩
        replace a0 := cell_keep a0 al hb; replace a1 := cell_keep a1 al hb; replace a2 := cell_keep a2 al hb; replace al := lt_keep al hb
        replace l0 := cell_keep l0 ll hb; replace l1 := cell_keep l1 ll hb; replace ll := lt_keep ll hb
        replace B := Lib.hid (below_next B.out hb)
        clear hb
        go_wp2_with fail
        refine (isThere_any _ _ _ _ _ _ _ _ (ha.keep B.out) hg).mono ?_
        rw [hq]
        rintro e wv ⟨rfl, hb⟩
        replace a0 := cell_keep a0 al hb; replace a1 := cell_keep a1 al hb; replace a2 := cell_keep a2 al hb; replace al := lt_keep al hb
        replace l0 := cell_keep l0 ll hb; replace l1 := cell_keep l1 ll hb; replace ll := lt_keep ll hb
        replace B := Lib.hid (below_next B.out hb)
        clear hb
        go_wp2_with fail
        refine (doesLeap_any _ _ _ _ _ _ _ _ _ _ HW.out (range_of HN.out hpb) (range_of HN.out hq)).mono ?_
        rintro e wv ⟨rfl, hb⟩
        replace a0 := cell_keep a0 al hb; replace a1 := cell_keep a1 al hb; replace a2 := cell_keep a2 al hb; replace al := lt_keep al hb
        replace l0 := cell_keep l0 ll hb; replace l1 := cell_keep l1 ll hb; replace ll := lt_keep ll hb
        replace B := Lib.hid (below_next B.out hb)
        clear hb
        go_wp2
        go_ret2
        exact ⟨rfl, B.out⟩
      · have hq' : hasB W H xs q = false := by simpa using hq
        have hv : okLeap W H xs a b p q = false := by simp [okLeap, hasV, hq']
        rw [show isLeapV W H xs a b p q = false by rw [isLeapV, hv]; rfl, hv]
        go_enter Try.func24, Try.ntmps24
        go_wp2_with fail
        refine (isLeaper_any _ _ _).mono ?_
        rw [hl]
        rintro e wv ⟨rfl, hb⟩
        have hbx := below_box hb
        have a0 : wv.cell? ⟨w.heap.size, 0, none⟩ = some (.int .i64 W) := by simpa using newbox hbx 0
        have a1 : wv.cell? ⟨w.heap.size, 1, none⟩ = some (.int .i64 H) := by simpa using newbox hbx 1
        have a2 : wv.cell? ⟨w.heap.size, 2, none⟩ = some (.slice A n c) := by simpa using newbox hbx 2
        have al : w.heap.size < wv.heap.size := by simpa using newbox_lt hbx
        have l0 : wv.cell? ⟨w.heap.size + 1, 0, none⟩ = some (.int .i64 a) := by simpa using newbox hb 0
        have l1 : wv.cell? ⟨w.heap.size + 1, 1, none⟩ = some (.int .i64 b) := by simpa using newbox hb 1
        have ll : w.heap.size + 1 < wv.heap.size := by simpa using newbox_lt hb
        have B := Lib.hid (below_box hbx)
        clear hb hbx
        go_wp2_with fail
        refine (isOnBoard_any _ _ _ _ _ _ _ _ (ha.keep B.out)).mono ?_
        rw [hp]
        rintro e wv ⟨rfl, hb⟩
        replace a0 := cell_keep a0 al hb; replace a1 := cell_keep a1 al hb; replace a2 := cell_keep a2 al hb; replace al := lt_keep al hb
        replace l0 := cell_keep l0 ll hb; replace l1 := cell_keep l1 ll hb; replace ll := lt_keep ll hb
        replace B := Lib.hid (below_next B.out hb)
        clear hb
        go_wp2_with fail
        refine (isThere_any _ _ _ _ _ _ _ _ (ha.keep B.out) hg).mono ?_
        rw [hq']
        rintro e wv ⟨rfl, hb⟩
        replace a0 := cell_keep a0 al hb; replace a1 := cell_keep a1 al hb; replace a2 := cell_keep a2 al hb; replace al := lt_keep al hb
        replace l0 := cell_keep l0 ll hb; replace l1 := cell_keep l1 ll hb; replace ll := lt_keep ll hb
        replace B := Lib.hid (below_next B.out hb)
        clear hb
        go_wp2
        go_ret2
        exact ⟨rfl, B.out⟩
    · have hp' : hasV W H xs p = false := by simpa using hp
      have hv : okLeap W H xs a b p q = false := by simp [okLeap, hp']
      rw [show isLeapV W H xs a b p q = false by rw [isLeapV, hv]; rfl, hv]
      go_enter Try.func24, Try.ntmps24
      go_wp2_with fail
      refine (isLeaper_any _ _ _).mono ?_
      rw [hl]
      rintro e wv ⟨rfl, hb⟩
      have hbx := below_box hb
      have a0 : wv.cell? ⟨w.heap.size, 0, none⟩ = some (.int .i64 W) := by simpa using newbox hbx 0
      have a1 : wv.cell? ⟨w.heap.size, 1, none⟩ = some (.int .i64 H) := by simpa using newbox hbx 1
      have a2 : wv.cell? ⟨w.heap.size, 2, none⟩ = some (.slice A n c) := by simpa using newbox hbx 2
      have al : w.heap.size < wv.heap.size := by simpa using newbox_lt hbx
      have l0 : wv.cell? ⟨w.heap.size + 1, 0, none⟩ = some (.int .i64 a) := by simpa using newbox hb 0
      have l1 : wv.cell? ⟨w.heap.size + 1, 1, none⟩ = some (.int .i64 b) := by simpa using newbox hb 1
      have ll : w.heap.size + 1 < wv.heap.size := by simpa using newbox_lt hb
      have B := Lib.hid (below_box hbx)
      clear hb hbx
      go_wp2_with fail
      refine (isOnBoard_any _ _ _ _ _ _ _ _ (ha.keep B.out)).mono ?_
      rw [hp']
      rintro e wv ⟨rfl, hb⟩
      replace a0 := cell_keep a0 al hb; replace a1 := cell_keep a1 al hb; replace a2 := cell_keep a2 al hb; replace al := lt_keep al hb
      replace l0 := cell_keep l0 ll hb; replace l1 := cell_keep l1 ll hb; replace ll := lt_keep ll hb
      replace B := Lib.hid (below_next B.out hb)
      clear hb
      go_wp2
      go_ret2
      exact ⟨rfl, B.out⟩
  · have hl' : leaperB a b = false := by simpa using hl
    have hv : okLeap W H xs a b p q = false := by simp [okLeap, hl']
    rw [show isLeapV W H xs a b p q = false by rw [isLeapV, hv]; rfl, hv]
    go_enter Try.func24, Try.ntmps24
    go_wp2_with fail
    refine (isLeaper_any _ _ _).mono ?_
    rw [hl']
    rintro e wv ⟨rfl, hb⟩
    have hbx := below_box hb
    have a0 : wv.cell? ⟨w.heap.size, 0, none⟩ = some (.int .i64 W) := by simpa using newbox hbx 0
    have a1 : wv.cell? ⟨w.heap.size, 1, none⟩ = some (.int .i64 H) := by simpa using newbox hbx 1
    have a2 : wv.cell? ⟨w.heap.size, 2, none⟩ = some (.slice A n c) := by simpa using newbox hbx 2
    have al : w.heap.size < wv.heap.size := by simpa using newbox_lt hbx
    have l0 : wv.cell? ⟨w.heap.size + 1, 0, none⟩ = some (.int .i64 a) := by simpa using newbox hb 0
    have l1 : wv.cell? ⟨w.heap.size + 1, 1, none⟩ = some (.int .i64 b) := by simpa using newbox hb 1
    have ll : w.heap.size + 1 < wv.heap.size := by simpa using newbox_lt hb
    have B := Lib.hid (below_box hbx)
    clear hb hbx
    go_wp2
    go_ret2
    exact ⟨rfl, B.out⟩

end Go.Proofs.Ytmghjohpmlhdlaa
