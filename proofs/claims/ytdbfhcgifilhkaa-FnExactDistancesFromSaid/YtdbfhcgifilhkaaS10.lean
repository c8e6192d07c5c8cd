/-
  Contracts: LeapsFrom, DegreesOf.
-/
import Derived.Test.YtdbfhcgifilhkaaS9
namespace Go.Proofs.Ytdbfhcgifilhkaa
open Go.RowKit

theorem two_N {W H a b : Int} {xs : List Int} (h : (goodB W H xs && leaperB a b) = true) : 1 ≤ W * H ∧ W * H ≤ 64 := by
  simp only [Bool.and_eq_true] at h
  obtain ⟨hW, hH, _, _⟩ := goodB_iff.1 h.1
  exact cells_le hW hH
theorem two_g {W H a b : Int} {xs : List Int} (h : (goodB W H xs && leaperB a b) = true) : goodB W H xs = true := by simp only [Bool.and_eq_true] at h; exact h.1
theorem two_l {W H a b : Int} {xs : List Int} (h : (goodB W H xs && leaperB a b) = true) : leaperB a b = true := by simp only [Bool.and_eq_true] at h; exact h.2
def okFrom (W H : Int) (xs : List Int) (a b q : Int) : Bool := leaperB a b && hasV W H xs q
def leapsFromV (W H : Int) (xs : List Int) (a b q : Int) : List Int := if okFrom W H xs a b q then leapsL W H xs a b q else []
def okTwo (W H : Int) (xs : List Int) (a b : Int) : Bool := leaperB a b && goodB W H xs
def degreesV (W H : Int) (xs : List Int) (a b : Int) : List Int := if okTwo W H xs a b then degL W H xs a b else []

set_option maxRecDepth 100000 in
set_option maxHeartbeats 1000000 in
theorem spec_LeapsFrom (W H : Int) (A : Option Addr) (n c : Nat) (xs : List Int) (a b : Int) (q : Int) (w : World) (ha : Rd w A n xs) :
    Calls Try.prog 37 #[brd W H A n c, lpr a b, .int .i64 q] w fun e w' => ∃ A' n' c', e = .returned (.tuple #[.slice A' n' c', .bool (okFrom W H xs a b q)]) ∧ OwnI 3 w' w.heap.size A' n' c' (leapsFromV W H xs a b q) ∧ Below w.heap.size w w' := by
  by_cases ht : (goodB W H xs && leaperB a b) = true
  · by_cases hh : hasB W H xs q = true
    · go_enter Try.func37, Try.ntmps37
      go_wp2_with fail
      refine (boTwo_any _ _ _ _ _ _ _ _ _ ((ha.alloc _).alloc _)).mono ?_
      rw [ht]
      rintro e wv ⟨rfl, hb⟩
      have hbx0 := below_box hb
      have a0 : wv.cell? ⟨w.heap.size, 0, none⟩ = some (.int .i64 W) := by simpa using newbox hbx0 0
      have a1 : wv.cell? ⟨w.heap.size, 1, none⟩ = some (.int .i64 H) := by simpa using newbox hbx0 1
      have a2 : wv.cell? ⟨w.heap.size, 2, none⟩ = some (.slice A n c) := by simpa using newbox hbx0 2
      have al : w.heap.size < wv.heap.size := by simpa using newbox_lt hbx0
      have l0 : wv.cell? ⟨w.heap.size + 1, 0, none⟩ = some (.int .i64 a) := by simpa using newbox hb 0
      have l1 : wv.cell? ⟨w.heap.size + 1, 1, none⟩ = some (.int .i64 b) := by simpa using newbox hb 1
      have ll : w.heap.size + 1 < wv.heap.size := by simpa using newbox_lt hb
      have B := Lib.hid (below_box hbx0)
      clear hb hbx0
      go_wp2_with fail
      refine (boHas_any _ _ _ _ _ _ _ _ (ha.keep B.out) (two_N ht)).mono ?_
      rw [hh]
      rintro e wv ⟨rfl, hb⟩
      replace a0 := cell_keep a0 al hb
      replace a1 := cell_keep a1 al hb
      replace a2 := cell_keep a2 al hb
      replace al := lt_keep al hb
      replace l0 := cell_keep l0 ll hb
      replace l1 := cell_keep l1 ll hb
      replace ll := lt_keep ll hb
      replace B := Lib.hid (below_next B.out hb)
      clear hb
      go_wp2_with fail
      refine (boLeaps_any _ _ _ _ _ _ _ _ _ _ (ha.keep B.out) (two_g ht) (range_of (two_N ht) hh)).mono ?_
      rintro e wv ⟨A', n', c', rfl, own, hb⟩
      have O := Lib.hid (own.lower B.out.size)
      replace B := Lib.hid (below_next B.out hb)
      clear own hb
      go_wp2
      go_ret2
      exact ⟨A', n', c', by rw [show okFrom W H xs a b q = true by (rw [okFrom, two_l ht, hasV, two_g ht, hh]; rfl)]; rfl, by rw [show leapsFromV W H xs a b q = _ by (rw [leapsFromV, if_pos (by rw [okFrom, two_l ht, hasV, two_g ht, hh]; rfl)])]; exact O.out, B.out⟩
    · have hh' : hasB W H xs q = false := by simpa using hh
      go_enter Try.func37, Try.ntmps37
      go_wp2_with fail
      refine (boTwo_any _ _ _ _ _ _ _ _ _ ((ha.alloc _).alloc _)).mono ?_
      rw [ht]
      rintro e wv ⟨rfl, hb⟩
      have hbx0 := below_box hb
      have a0 : wv.cell? ⟨w.heap.size, 0, none⟩ = some (.int .i64 W) := by simpa using newbox hbx0 0
      have a1 : wv.cell? ⟨w.heap.size, 1, none⟩ = some (.int .i64 H) := by simpa using newbox hbx0 1
      have a2 : wv.cell? ⟨w.heap.size, 2, none⟩ = some (.slice A n c) := by simpa using newbox hbx0 2
      have al : w.heap.size < wv.heap.size := by simpa using newbox_lt hbx0
      have l0 : wv.cell? ⟨w.heap.size + 1, 0, none⟩ = some (.int .i64 a) := by simpa using newbox hb 0
      have l1 : wv.cell? ⟨w.heap.size + 1, 1, none⟩ = some (.int .i64 b) := by simpa using newbox hb 1
      have ll : w.heap.size + 1 < wv.heap.size := by simpa using newbox_lt hb
      have B := Lib.hid (below_box hbx0)
      clear hb hbx0
      go_wp2_with fail
      refine (boHas_any _ _ _ _ _ _ _ _ (ha.keep B.out) (two_N ht)).mono ?_
      rw [hh']
      rintro e wv ⟨rfl, hb⟩
      replace a0 := cell_keep a0 al hb
      replace a1 := cell_keep a1 al hb
      replace a2 := cell_keep a2 al hb
      replace al := lt_keep al hb
      replace l0 := cell_keep l0 ll hb
      replace l1 := cell_keep l1 ll hb
      replace ll := lt_keep ll hb
      replace B := Lib.hid (below_next B.out hb)
      clear hb
      go_wp2
      go_ret2
      exact ⟨none, 0, 0, by rw [show okFrom W H xs a b q = false by (rw [okFrom, hasV]; first | (simp only [Bool.and_eq_false_iff] at ht'; rcases ht' with h | h <;> simp [h]) | (rw [hh']; simp))]; rfl, by rw [show leapsFromV W H xs a b q = [] by (rw [leapsFromV, if_neg (by rw [show okFrom W H xs a b q = false by (rw [okFrom, hasV]; first | (simp only [Bool.and_eq_false_iff] at ht'; rcases ht' with h | h <;> simp [h]) | (rw [hh']; simp))]; decide)])]; exact OwnI.none_ _ _ _, B.out⟩
  · have ht' : (goodB W H xs && leaperB a b) = false := by simpa using ht
    go_enter Try.func37, Try.ntmps37
    go_wp2_with fail
    refine (boTwo_any _ _ _ _ _ _ _ _ _ ((ha.alloc _).alloc _)).mono ?_
    rw [ht']
    rintro e wv ⟨rfl, hb⟩
    have hbx0 := below_box hb
    have a0 : wv.cell? ⟨w.heap.size, 0, none⟩ = some (.int .i64 W) := by simpa using newbox hbx0 0
    have a1 : wv.cell? ⟨w.heap.size, 1, none⟩ = some (.int .i64 H) := by simpa using newbox hbx0 1
    have a2 : wv.cell? ⟨w.heap.size, 2, none⟩ = some (.slice A n c) := by simpa using newbox hbx0 2
    have al : w.heap.size < wv.heap.size := by simpa using newbox_lt hbx0
    have l0 : wv.cell? ⟨w.heap.size + 1, 0, none⟩ = some (.int .i64 a) := by simpa using newbox hb 0
    have l1 : wv.cell? ⟨w.heap.size + 1, 1, none⟩ = some (.int .i64 b) := by simpa using newbox hb 1
    have ll : w.heap.size + 1 < wv.heap.size := by simpa using newbox_lt hb
    have B := Lib.hid (below_box hbx0)
    clear hb hbx0
    go_wp2
    go_ret2
    exact ⟨none, 0, 0, by rw [show okFrom W H xs a b q = false by (rw [okFrom, hasV]; first | (simp only [Bool.and_eq_false_iff] at ht'; rcases ht' with h | h <;> simp [h]) | (rw [hh']; simp))]; rfl, by rw [show leapsFromV W H xs a b q = [] by (rw [leapsFromV, if_neg (by rw [show okFrom W H xs a b q = false by (rw [okFrom, hasV]; first | (simp only [Bool.and_eq_false_iff] at ht'; rcases ht' with h | h <;> simp [h]) | (rw [hh']; simp))]; decide)])]; exact OwnI.none_ _ _ _, B.out⟩

set_option maxRecDepth 100000 in
set_option maxHeartbeats 1000000 in
theorem impl_LeapsFrom (W H : Int) (A : Option Addr) (n c : Nat) (xs : List Int) (a b : Int) (q : Int) (w : World) (ha : Rd w A n xs) :
    Calls Try.prog 38 #[brd W H A n c, lpr a b, .int .i64 q] w fun e w' => ∃ A' n' c', e = .returned (.tuple #[.slice A' n' c', .bool (okFrom W H xs a b q)]) ∧ OwnI 3 w' w.heap.size A' n' c' (leapsFromV W H xs a b q) ∧ Below w.heap.size w w' := by
  by_cases hl : leaperB a b = true
  · by_cases hv : hasV W H xs q = true
    · go_enter Try.func38, Try.ntmps38
      go_wp2_with fail
      refine (isLeaper_any _ _ _).mono ?_
      rw [hl]
      rintro e wv ⟨rfl, hb⟩
      have hbx0 := below_box hb
      have a0 : wv.cell? ⟨w.heap.size, 0, none⟩ = some (.int .i64 W) := by simpa using newbox hbx0 0
      have a1 : wv.cell? ⟨w.heap.size, 1, none⟩ = some (.int .i64 H) := by simpa using newbox hbx0 1
      have a2 : wv.cell? ⟨w.heap.size, 2, none⟩ = some (.slice A n c) := by simpa using newbox hbx0 2
      have al : w.heap.size < wv.heap.size := by simpa using newbox_lt hbx0
      have l0 : wv.cell? ⟨w.heap.size + 1, 0, none⟩ = some (.int .i64 a) := by simpa using newbox hb 0
      have l1 : wv.cell? ⟨w.heap.size + 1, 1, none⟩ = some (.int .i64 b) := by simpa using newbox hb 1
      have ll : w.heap.size + 1 < wv.heap.size := by simpa using newbox_lt hb
      have B := Lib.hid (below_box hbx0)
      clear hb hbx0
      go_wp2_with fail
      refine (isOnBoard_any _ _ _ _ _ _ _ _ (ha.keep B.out)).mono ?_
      rw [hv]
      rintro e wv ⟨rfl, hb⟩
      replace a0 := cell_keep a0 al hb
      replace a1 := cell_keep a1 al hb
      replace a2 := cell_keep a2 al hb
      replace al := lt_keep al hb
      replace l0 := cell_keep l0 ll hb
      replace l1 := cell_keep l1 ll hb
      replace ll := lt_keep ll hb
      replace B := Lib.hid (below_next B.out hb)
      clear hb
      go_wp2_with fail
      refine (leapCells_any _ _ _ _ _ _ _ _ _ _ (ha.keep B.out) (hasV_facts hv).1 hl (hasV_facts hv).2.2.2.1).mono ?_
      rintro e wv ⟨A', n', c', rfl, own, hb⟩
      have O := Lib.hid (own.lower B.out.size)
      replace B := Lib.hid (below_next B.out hb)
      clear own hb
      go_wp2
      go_ret2
      exact ⟨A', n', c', by rw [show okFrom W H xs a b q = true by (rw [okFrom, hl, hv]; rfl)]; rfl, by rw [show leapsFromV W H xs a b q = _ by (rw [leapsFromV, if_pos (by rw [okFrom, hl, hv]; rfl)])]; exact O.out, B.out⟩
    · have hv' : hasV W H xs q = false := by simpa using hv
      go_enter Try.func38, Try.ntmps38
      go_wp2_with fail
      refine (isLeaper_any _ _ _).mono ?_
      rw [hl]
      rintro e wv ⟨rfl, hb⟩
      have hbx0 := below_box hb
      have a0 : wv.cell? ⟨w.heap.size, 0, none⟩ = some (.int .i64 W) := by simpa using newbox hbx0 0
      have a1 : wv.cell? ⟨w.heap.size, 1, none⟩ = some (.int .i64 H) := by simpa using newbox hbx0 1
      have a2 : wv.cell? ⟨w.heap.size, 2, none⟩ = some (.slice A n c) := by simpa using newbox hbx0 2
      have al : w.heap.size < wv.heap.size := by simpa using newbox_lt hbx0
      have l0 : wv.cell? ⟨w.heap.size + 1, 0, none⟩ = some (.int .i64 a) := by simpa using newbox hb 0
      have l1 : wv.cell? ⟨w.heap.size + 1, 1, none⟩ = some (.int .i64 b) := by simpa using newbox hb 1
      have ll : w.heap.size + 1 < wv.heap.size := by simpa using newbox_lt hb
      have B := Lib.hid (below_box hbx0)
      clear hb hbx0
      go_wp2_with fail
      refine (isOnBoard_any _ _ _ _ _ _ _ _ (ha.keep B.out)).mono ?_
      rw [hv']
      rintro e wv ⟨rfl, hb⟩
      replace a0 := cell_keep a0 al hb
      replace a1 := cell_keep a1 al hb
      replace a2 := cell_keep a2 al hb
      replace al := lt_keep al hb
      replace l0 := cell_keep l0 ll hb
      replace l1 := cell_keep l1 ll hb
      replace ll := lt_keep ll hb
      replace B := Lib.hid (below_next B.out hb)
      clear hb
      go_wp2
      go_ret2
      exact ⟨none, 0, 0, by rw [show okFrom W H xs a b q = false by (rw [okFrom, hv']; simp)]; rfl, by rw [show leapsFromV W H xs a b q = [] by (rw [leapsFromV, if_neg (by rw [okFrom, hv']; simp)])]; exact OwnI.none_ _ _ _, B.out⟩
  · have hl' : leaperB a b = false := by simpa using hl
    go_enter Try.func38, Try.ntmps38
    go_wp2_with fail
    refine (isLeaper_any _ _ _).mono ?_
    rw [hl']
    rintro e wv ⟨rfl, hb⟩
    have hbx0 := below_box hb
    have a0 : wv.cell? ⟨w.heap.size, 0, none⟩ = some (.int .i64 W) := by simpa using newbox hbx0 0
    have a1 : wv.cell? ⟨w.heap.size, 1, none⟩ = some (.int .i64 H) := by simpa using newbox hbx0 1
    have a2 : wv.cell? ⟨w.heap.size, 2, none⟩ = some (.slice A n c) := by simpa using newbox hbx0 2
    have al : w.heap.size < wv.heap.size := by simpa using newbox_lt hbx0
    have l0 : wv.cell? ⟨w.heap.size + 1, 0, none⟩ = some (.int .i64 a) := by simpa using newbox hb 0
    have l1 : wv.cell? ⟨w.heap.size + 1, 1, none⟩ = some (.int .i64 b) := by simpa using newbox hb 1
    have ll : w.heap.size + 1 < wv.heap.size := by simpa using newbox_lt hb
    have B := Lib.hid (below_box hbx0)
    clear hb hbx0
    go_wp2
    go_ret2
    exact ⟨none, 0, 0, by rw [show okFrom W H xs a b q = false by (rw [okFrom, hl']; simp)]; rfl, by rw [show leapsFromV W H xs a b q = [] by (rw [leapsFromV, if_neg (by rw [okFrom, hl']; simp)])]; exact OwnI.none_ _ _ _, B.out⟩

set_option maxRecDepth 100000 in
set_option maxHeartbeats 1000000 in
theorem spec_DegreesOf (W H : Int) (A : Option Addr) (n c : Nat) (xs : List Int) (a b : Int) (w : World) (ha : Rd w A n xs) :
    Calls Try.prog 45 #[brd W H A n c, lpr a b] w fun e w' => ∃ A' n' c', e = .returned (.tuple #[.slice A' n' c', .bool (okTwo W H xs a b)]) ∧ OwnI 3 w' w.heap.size A' n' c' (degreesV W H xs a b) ∧ Below w.heap.size w w' := by
  by_cases ht : (goodB W H xs && leaperB a b) = true
  · go_enter Try.func45, Try.ntmps45
    go_wp2_with fail
    refine (boTwo_any _ _ _ _ _ _ _ _ _ ((ha.alloc _).alloc _)).mono ?_
    rw [ht]
    rintro e wv ⟨rfl, hb⟩
    have hbx0 := below_box hb
    have a0 : wv.cell? ⟨w.heap.size, 0, none⟩ = some (.int .i64 W) := by simpa using newbox hbx0 0
    have a1 : wv.cell? ⟨w.heap.size, 1, none⟩ = some (.int .i64 H) := by simpa using newbox hbx0 1
    have a2 : wv.cell? ⟨w.heap.size, 2, none⟩ = some (.slice A n c) := by simpa using newbox hbx0 2
    have al : w.heap.size < wv.heap.size := by simpa using newbox_lt hbx0
    have l0 : wv.cell? ⟨w.heap.size + 1, 0, none⟩ = some (.int .i64 a) := by simpa using newbox hb 0
    have l1 : wv.cell? ⟨w.heap.size + 1, 1, none⟩ = some (.int .i64 b) := by simpa using newbox hb 1
    have ll : w.heap.size + 1 < wv.heap.size := by simpa using newbox_lt hb
    have B := Lib.hid (below_box hbx0)
    clear hb hbx0
    go_wp2_with fail
    refine (boDegrees_any _ _ _ _ _ _ _ _ _ (ha.keep B.out) (two_g ht)).mono ?_
    rintro e wv ⟨A', n', c', rfl, own, hb⟩
    have O := Lib.hid (own.lower B.out.size)
    replace B := Lib.hid (below_next B.out hb)
    clear own hb
    go_wp2
    go_ret2
    exact ⟨A', n', c', by rw [show okTwo W H xs a b = true by (rw [okTwo, two_l ht, two_g ht]; rfl)]; rfl, by rw [show degreesV W H xs a b = _ by (rw [degreesV, if_pos (by rw [okTwo, two_l ht, two_g ht]; rfl)])]; exact O.out, B.out⟩
  · have ht' : (goodB W H xs && leaperB a b) = false := by simpa using ht
    go_enter Try.func45, Try.ntmps45
    go_wp2_with fail
    refine (boTwo_any _ _ _ _ _ _ _ _ _ ((ha.alloc _).alloc _)).mono ?_
    rw [ht']
    rintro e wv ⟨rfl, hb⟩
    have hbx0 := below_box hb
    have a0 : wv.cell? ⟨w.heap.size, 0, none⟩ = some (.int .i64 W) := by simpa using newbox hbx0 0
    have a1 : wv.cell? ⟨w.heap.size, 1, none⟩ = some (.int .i64 H) := by simpa using newbox hbx0 1
    have a2 : wv.cell? ⟨w.heap.size, 2, none⟩ = some (.slice A n c) := by simpa using newbox hbx0 2
    have al : w.heap.size < wv.heap.size := by simpa using newbox_lt hbx0
    have l0 : wv.cell? ⟨w.heap.size + 1, 0, none⟩ = some (.int .i64 a) := by simpa using newbox hb 0
    have l1 : wv.cell? ⟨w.heap.size + 1, 1, none⟩ = some (.int .i64 b) := by simpa using newbox hb 1
    have ll : w.heap.size + 1 < wv.heap.size := by simpa using newbox_lt hb
    have B := Lib.hid (below_box hbx0)
    clear hb hbx0
    go_wp2
    go_ret2
    exact ⟨none, 0, 0, by rw [show okTwo W H xs a b = false by (rw [okTwo, Bool.and_comm]; exact ht')]; rfl, by rw [show degreesV W H xs a b = [] by (rw [degreesV, if_neg (by rw [show okTwo W H xs a b = false by (rw [okTwo, Bool.and_comm]; exact ht')]; decide)])]; exact OwnI.none_ _ _ _, B.out⟩

end Go.Proofs.Ytdbfhcgifilhkaa
