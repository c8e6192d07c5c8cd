/-
  Contracts: LeapsFrom, DegreesOf.
  Contracts: DegreesOf, CountLeaps.
-/
import Derived.Test.YtmghjohpmlhdlaaS9
namespace Go.Proofs.Ytmghjohpmlhdlaa
open Go.RowKit

theorem two_N {W H a b : Int} {xs : List Int} (h : (goodB W H xs && leaperB a b) = true) : 1 ≤ W * H ∧ W * H ≤ 64 := by
  simp only [Bool.and_eq_true] at h
  obtain ⟨hW, hH, _, _⟩ := goodB_iff.1 h.1
  exact cells_le hW hH
theorem two_g {W H a b : Int} {xs : List Int} (h : (goodB W H xs && leaperB a b) = true) : goodB W H xs = true := by simp only [Bool.and_eq_true] at h; exact h.1
theorem two_l {W H a b : Int} {xs : List Int} (h : (goodB W H xs && leaperB a b) = true) : leaperB a b = true := by simp only [Bool.and_eq_true] at h; exact h.2
def okFrom (W H : Int) (xs : List Int) (a b q : Int) : Bool := leaperB a b && hasV W H xs q
def leapsFromV (W H : Int) (xs : List Int) (a b q : Int) : List Int := if okFrom W H xs a b q then leapsL W H xs a b q else []
def okTwo (W H : Int) (xs : List Int) (a b : Int) : Bool := leaperB a b && goodB W H xs
def degreesV (W H : Int) (xs : List Int) (a b : Int) : List Int := if okTwo W H xs a b then degL W H xs a b else []

set_option maxRecDepth 100000 in
set_option maxHeartbeats 1000000 in
theorem spec_LeapsFrom (W H : Int) (A : Option Addr) (n c : Nat) (xs : List Int) (a b : Int) (q : Int) (w : World) (ha : Rd w A n xs) :
    Calls Try.prog 39 #[brd W H A n c, lpr a b, .int .i64 q] w fun e w' => ∃ A' n' c', e = .returned (.tuple #[.slice A' n' c', .bool (okFrom W H xs a b q)]) ∧ OwnI 3 w' w.heap.size A' n' c' (leapsFromV W H xs a b q) ∧ Below w.heap.size w w' := by
  by_cases ht : (goodB W H xs && leaperB a b) = true
  · by_cases hh : hasB W H xs q = true
    · go_enter Try.func39, Try.ntmps39
      go_wp2_with fail
      refine (boTwo_any _ _ _ _ _ _ _ _ _ ((ha.alloc _).alloc _)).mono ?_
      rw [ht]
      rintro e wv ⟨rfl, hb⟩
      have hbx0 := below_box hb
      have a0 : wv.cell? ⟨w.heap.size, 0, none⟩ = some (.int .i64 W) := by simpa using newbox hbx0 0
      have a1 : wv.cell? ⟨w.heap.size, 1, none⟩ = some (.int .i64 H) := by simpa using newbox hbx0 1
      have a2 : wv.cell? ⟨w.heap.size, 2, none⟩ = some (.slice A n c) := by simpa using newbox hbx0 2
      have al : w.heap.size < wv.heap.size := by simpa using newbox_lt hbx0
      have l0 : wv.cell? ⟨w.heap.size + 1, 0, none⟩ = some (.int .i64 a) := by simpa using newbox hb 0
      have l1 : wv.cell? ⟨w.heap.size + 1, 1, none⟩ = some (.int .i64 b) := by simpa using newbox hb 1
      have ll : w.heap.size + 1 < wv.heap.size := by simpa using newbox_lt hb
      have B := Lib.hid (below_box hbx0)
      clear hb hbx0
      go_wp2_with fail
      refine (boHas_any _ _ _ _ _ _ _ _ (ha.keep B.out) (two_N ht)).mono ?_
      rw [hh]
      rintro e wv ⟨rfl, hb⟩
      replace a0 := cell_keep a0 al hb
      replace a1 := cell_keep a1 al hb
      replace a2 := cell_keep a2 al hb
      replace al := lt_keep al hb
      replace l0 := cell_keep l0 ll hb
      replace l1 := cell_keep l1 ll hb
      replace ll := lt_keep ll hb
      replace B := Lib.hid (below_next B.out hb)
      clear hb
      go_wp2_with fail
      refine (boLeaps_any _ _ _ _ _ _ _ _ _ _ (ha.keep B.out) (two_g ht) (range_of (two_N ht) hh)).mono ?_
      rintro e wv ⟨A', n', c', rfl, own, hb⟩
      have O := Lib.hid (own.lower B.out.size)
      replace B := Lib.hid (below_next B.out hb)
      clear own hb
      go_wp2
      go_ret2
      exact ⟨A', n', c', by rw [show okFrom W H xs a b q = true by (rw [okFrom, two_l ht, hasV, two_g ht, hh]; rfl)]; rfl, by rw [show leapsFromV W H xs a b q = _ by (rw [leapsFromV, if_pos (by rw [okFrom, two_l ht, hasV, two_g ht, hh]; rfl)])]; exact O.out, B.out⟩
    · have hh' : hasB W H xs q = false := by simpa using hh
      go_enter Try.func39, Try.ntmps39
      go_wp2_with fail
      refine (boTwo_any _ _ _ _ _ _ _ _ _ ((ha.alloc _).alloc _)).mono ?_
      rw [ht]
      rintro e wv ⟨rfl, hb⟩
      have hbx0 := below_box hb
      have a0 : wv.cell? ⟨w.heap.size, 0, none⟩ = some (.int .i64 W) := by simpa using newbox hbx0 0
      have a1 : wv.cell? ⟨w.heap.size, 1, none⟩ = some (.int .i64 H) := by simpa using newbox hbx0 1
      have a2 : wv.cell? ⟨w.heap.size, 2, none⟩ = some (.slice A n c) := by simpa using newbox hbx0 2
      have al : w.heap.size < wv.heap.size := by simpa using newbox_lt hbx0
      have l0 : wv.cell? ⟨w.heap.size + 1, 0, none⟩ = some (.int .i64 a) := by simpa using newbox hb 0
      have l1 : wv.cell? ⟨w.heap.size + 1, 1, none⟩ = some (.int .i64 b) := by simpa using newbox hb 1
      have ll : w.heap.size + 1 < wv.heap.size := by simpa using newbox_lt hb
      have B := Lib.hid (below_box hbx0)
      clear hb hbx0
      go_wp2_with fail
      refine (boHas_any _ _ _ _ _ _ _ _ (ha.keep B.out) (two_N ht)).mono ?_
      rw [hh']
      rintro e wv ⟨rfl, hb⟩
      replace a0 := cell_keep a0 al hb
      replace a1 := cell_keep a1 al hb
      replace a2 := cell_keep a2 al hb
      replace al := lt_keep al hb
      replace l0 := cell_keep l0 ll hb
      replace l1 := cell_keep l1 ll hb
      replace ll := lt_keep ll hb
      replace B := Lib.hid (below_next B.out hb)
      clear hb
      go_wp2
      go_ret2
      exact ⟨none, 0, 0, by rw [show okFrom W H xs a b q = false by (rw [okFrom, hasV]; first | (simp only [Bool.and_eq_false_iff] at ht'; rcases ht' with h | h <;> simp [h]) | (rw [hh']; simp))]; rfl, by rw [show leapsFromV W H xs a b q = [] by (rw [leapsFromV, if_neg (by rw [show okFrom W H xs a b q = false by (rw [okFrom, hasV]; first | (simp only [Bool.and_eq_false_iff] at ht'; rcases ht' with h | h <;> simp [h]) | (rw [hh']; simp))]; decide)])]; exact OwnI.none_ _ _ _, B.out⟩
  · have ht' : (goodB W H xs && leaperB a b) = false := by simpa using ht
    go_enter Try.func39, Try.ntmps39
    go_wp2_with fail
    refine (boTwo_any _ _ _ _ _ _ _ _ _ ((ha.alloc _).alloc _)).mono ?_
    rw [ht']
    rintro e wv ⟨rfl, hb⟩
    have hbx0 := below_box hb
    have a0 : wv.cell? ⟨w.heap.size, 0, none⟩ = some (.int .i64 W) := by simpa using newbox hbx0 0
    have a1 : wv.cell? ⟨w.heap.size, 1, none⟩ = some (.int .i64 H) := by simpa using newbox hbx0 1
    have a2 : wv.cell? ⟨w.heap.size, 2, none⟩ = some (.slice A n c) := by simpa using newbox hbx0 2
    have al : w.heap.size < wv.heap.size := by simpa using newbox_lt hbx0
    have l0 : wv.cell? ⟨w.heap.size + 1, 0, none⟩ = some (.int .i64 a) := by simpa using newbox hb 0
    have l1 : wv.cell? ⟨w.heap.size + 1, 1, none⟩ = some (.int .i64 b) := by simpa using newbox hb 1
    have ll : w.heap.size + 1 < wv.heap.size := by simpa using newbox_lt hb
    have B := Lib.hid (below_box hbx0)
    clear hb hbx0
    go_wp2
    go_ret2
    exact ⟨none, 0, 0, by rw [show okFrom W H xs a b q = false by (rw [okFrom, hasV]; first | (simp only [Bool.and_eq_false_iff] at ht'; rcases ht' with h | h <;> simp [h]) | (rw [hh']; simp))]; rfl, by rw [show leapsFromV W H xs a b q = [] by (rw [leapsFromV, if_neg (by rw [show okFrom W H xs a b q = false by (rw [okFrom, hasV]; first | (simp only [Bool.and_eq_false_iff] at ht'; rcases ht' with h | h <;> simp [h]) | (rw [hh']; simp))]; decide)])]; exact OwnI.none_ _ _ _, B.out⟩

set_option maxRecDepth 100000 in
set_option maxHeartbeats 1000000 in
theorem impl_LeapsFrom (W H : Int) (A : Option Addr) (n c : Nat) (xs : List Int) (a b : Int) (q : Int) (w : World) (ha : Rd w A n xs) :
    Calls Try.prog 40 #[brd W H A n c, lpr a b, .int .i64 q] w fun e w' => ∃ A' n' c', e = .returned (.tuple #[.slice A' n' c', .bool (okFrom W H xs a b q)]) ∧ OwnI 3 w' w.heap.size A' n' c' (leapsFromV W H xs a b q) ∧ Below w.heap.size w w' := by
  by_cases hl : leaperB a b = true
  · by_cases hv : hasV W H xs q = true
    · go_enter Try.func40, Try.ntmps40
      go_wp2_with fail
      refine (isLeaper_any _ _ _).mono ?_
      rw [hl]
      rintro e wv ⟨rfl, hb⟩
      have hbx0 := below_box hb
      have a0 : wv.cell? ⟨w.heap.size, 0, none⟩ = some (.int .i64 W) := by simpa using newbox hbx0 0
      have a1 : wv.cell? ⟨w.heap.size, 1, none⟩ = some (.int .i64 H) := by simpa using newbox hbx0 1
      have a2 : wv.cell? ⟨w.heap.size, 2, none⟩ = some (.slice A n c) := by simpa using newbox hbx0 2
      have al : w.heap.size < wv.heap.size := by simpa using newbox_lt hbx0
      have l0 : wv.cell? ⟨w.heap.size + 1, 0, none⟩ = some (.int .i64 a) := by simpa using newbox hb 0
      have l1 : wv.cell? ⟨w.heap.size + 1, 1, none⟩ = some (.int .i64 b) := by simpa using newbox hb 1
      have ll : w.heap.size + 1 < wv.heap.size := by simpa using newbox_lt hb
      have B := Lib.hid (below_box hbx0)
      clear hb hbx0
      go_wp2_with fail
      refine (isOnBoard_any _ _ _ _ _ _ _ _ (ha.keep B.out)).mono ?_
      rw [hv]
      rintro e wv ⟨rfl, hb⟩
      replace a0 := cell_keep a0 al hb
      replace a1 := cell_keep a1 al hb
      replace a2 := cell_keep a2 al hb
      replace al := lt_keep al hb
      replace l0 := cell_keep l0 ll hb
      replace l1 := cell_keep l1 ll hb
      replace ll := lt_keep ll hb
      replace B := Lib.hid (below_next B.out hb)
      clear hb
      go_wp2_with fail
      refine (leapCells_any _ _ _ _ _ _ _ _ _ _ (ha.keep B.out) (hasV_facts hv).1 hl (hasV_facts hv).2.2.2.1).mono ?_
      rintro e wv ⟨A', n', c', rfl, own, hb⟩
      have O := Lib.hid (own.lower B.out.size)
      replace B := Lib.hid (below_next B.out hb)
      clear own hb
      go_wp2
      go_ret2
      exact ⟨A', n', c', by rw [show okFrom W H xs a b q = true by (rw [okFrom, hl, hv]; rfl)]; rfl, by rw [show leapsFromV W H xs a b q = _ by (rw [leapsFromV, if_pos (by rw [okFrom, hl, hv]; rfl)])]; exact O.out, B.out⟩
    · have hv' : hasV W H xs q = false := by simpa using hv
      go_enter Try.func40, Try.ntmps40
      go_wp2_with fail
      refine (isLeaper_any _ _ _).mono ?_
      rw [hl]
      rintro e wv ⟨rfl, hb⟩
      have hbx0 := below_box hb
      have a0 : wv.cell? ⟨w.heap.size, 0, none⟩ = some (.int .i64 W) := by simpa using newbox hbx0 0
      have a1 : wv.cell? ⟨w.heap.size, 1, none⟩ = some (.int .i64 H) := by simpa using newbox hbx0 1
      have a2 : wv.cell? ⟨w.heap.size, 2, none⟩ = some (.slice A n c) := by simpa using newbox hbx0 2
      have al : w.heap.size < wv.heap.size := by simpa using newbox_lt hbx0
      have l0 : wv.cell? ⟨w.heap.size + 1, 0, none⟩ = some (.int .i64 a) := by simpa using newbox hb 0
      have l1 : wv.cell? ⟨w.heap.size + 1, 1, none⟩ = some (.int .i64 b) := by simpa using newbox hb 1
      have ll : w.heap.size + 1 < wv.heap.size := by simpa using newbox_lt hb
      have B := Lib.hid (below_box hbx0)
      clear hb hbx0
      go_wp2_with fail
      refine (isOnBoard_any _ _ _ _ _ _ _ _ (ha.keep B.out)).mono ?_
      rw [hv']
      rintro e wv ⟨rfl, hb⟩
      replace a0 := cell_keep a0 al hb
      replace a1 := cell_keep a1 al hb
      replace a2 := cell_keep a2 al hb
      replace al := lt_keep al hb
      replace l0 := cell_keep l0 ll hb
      replace l1 := cell_keep l1 ll hb
      replace ll := lt_keep ll hb
      replace B := Lib.hid (below_next B.out hb)
      clear hb
      go_wp2
      go_ret2
      exact ⟨none, 0, 0, by rw [show okFrom W H xs a b q = false by (rw [okFrom, hv']; simp)]; rfl, by rw [show leapsFromV W H xs a b q = [] by (rw [leapsFromV, if_neg (by rw [okFrom, hv']; simp)])]; exact OwnI.none_ _ _ _, B.out⟩
  · have hl' : leaperB a b = false := by simpa using hl
    go_enter Try.func40, Try.ntmps40
    go_wp2_with fail
    refine (isLeaper_any _ _ _).mono ?_
    rw [hl']
    rintro e wv ⟨rfl, hb⟩
    have hbx0 := below_box hb
    have a0 : wv.cell? ⟨w.heap.size, 0, none⟩ = some (.int .i64 W) := by simpa using newbox hbx0 0
    have a1 : wv.cell? ⟨w.heap.size, 1, none⟩ = some (.int .i64 H) := by simpa using newbox hbx0 1
    have a2 : wv.cell? ⟨w.heap.size, 2, none⟩ = some (.slice A n c) := by simpa using newbox hbx0 2
    have al : w.heap.size < wv.heap.size := by simpa using newbox_lt hbx0
    have l0 : wv.cell? ⟨w.heap.size + 1, 0, none⟩ = some (.int .i64 a) := by simpa using newbox hb 0
    have l1 : wv.cell? ⟨w.heap.size + 1, 1, none⟩ = some (.int .i64 b) := by simpa using newbox hb 1
    have ll : w.heap.size + 1 < wv.heap.size := by simpa using newbox_lt hb
    have B := Lib.hid (below_box hbx0)
    clear hb hbx0
    go_wp2
    go_ret2
    exact ⟨none, 0, 0, by rw [show okFrom W H xs a b q = false by (rw [okFrom, hl']; simp)]; rfl, by rw [show leapsFromV W H xs a b q = [] by (rw [leapsFromV, if_neg (by rw [okFrom, hl']; simp)])]; exact OwnI.none_ _ _ _, B.out⟩

set_option maxRecDepth 100000 in
set_option maxHeartbeats 1000000 in
theorem spec_DegreesOf (W H : Int) (A : Option Addr) (n c : Nat) (xs : List Int) (a b : Int) (w : World) (ha : Rd w A n xs) :
    Calls Try.prog 43 #[brd W H A n c, lpr a b] w fun e w' => ∃ A' n' c', e = .returned (.tuple #[.slice A' n' c', .bool (okTwo W H xs a b)]) ∧ OwnI 3 w' w.heap.size A' n' c' (degreesV W H xs a b) ∧ Below w.heap.size w w' := by
  by_cases ht : (goodB W H xs && leaperB a b) = true
  · go_enter Try.func43, Try.ntmps43
    go_wp2_with fail
    refine (boTwo_any _ _ _ _ _ _ _ _ _ ((ha.alloc _).alloc _)).mono ?_
    rw [ht]
    rintro e wv ⟨rfl, hb⟩
    have hbx0 := below_box hb
    have a0 : wv.cell? ⟨w.heap.size, 0, none⟩ = some (.int .i64 W) := by simpa using newbox hbx0 0
    have a1 : wv.cell? ⟨w.heap.size, 1, none⟩ = some (.int .i64 H) := by simpa using newbox hbx0 1
    have a2 : wv.cell? ⟨w.heap.size, 2, none⟩ = some (.slice A n c) := by simpa using newbox hbx0 2
    have al : w.heap.size < wv.heap.size := by simpa using newbox_lt hbx0
    have l0 : wv.cell? ⟨w.heap.size + 1, 0, none⟩ = some (.int .i64 a) := by simpa using newbox hb 0
    have l1 : wv.cell? ⟨w.heap.size + 1, 1, none⟩ = some (.int .i64 b) := by simpa using newbox hb 1
    have ll : w.heap.size + 1 < wv.heap.size := by simpa using newbox_lt hb
    have B := Lib.hid (below_box hbx0)
    clear hb hbx0
    go_wp2_with fail
    refine (boDegrees_any _ _ _ _ _ _ _ _ _ (ha.keep B.out) (two_g ht)).mono ?_
    rintro e wv ⟨A', n', c', rfl, own, hb⟩
    have O := Lib.hid (own.lower B.out.size)
    replace B := Lib.hid (below_next B.out hb)
    clear own hb
    go_wp2
    go_ret2
    exact ⟨A', n', c', by rw [show okTwo W H xs a b = true by (rw [okTwo, two_l ht, two_g ht]; rfl)]; rfl, by rw [show degreesV W H xs a b = _ by (rw [degreesV, if_pos (by rw [okTwo, two_l ht, two_g ht]; rfl)])]; exact O.out, B.out⟩
  · have ht' : (goodB W H xs && leaperB a b) = false := by simpa using ht
    go_enter Try.func43, Try.ntmps43
    go_wp2_with fail
    refine (boTwo_any _ _ _ _ _ _ _ _ _ ((ha.alloc _).alloc _)).mono ?_
    rw [ht']
    rintro e wv ⟨rfl, hb⟩
    have hbx0 := below_box hb
    have a0 : wv.cell? ⟨w.heap.size, 0, none⟩ = some (.int .i64 W) := by simpa using newbox hbx0 0
    have a1 : wv.cell? ⟨w.heap.size, 1, none⟩ = some (.int .i64 H) := by simpa using newbox hbx0 1
    have a2 : wv.cell? ⟨w.heap.size, 2, none⟩ = some (.slice A n c) := by simpa using newbox hbx0 2
    have al : w.heap.size < wv.heap.size := by simpa using newbox_lt hbx0
    have l0 : wv.cell? ⟨w.heap.size + 1, 0, none⟩ = some (.int .i64 a) := by simpa using newbox hb 0
    have l1 : wv.cell? ⟨w.heap.size + 1, 1, none⟩ = some (.int .i64 b) := by simpa using newbox hb 1
    have ll : w.heap.size + 1 < wv.heap.size := by simpa using newbox_lt hb
    have B := Lib.hid (below_box hbx0)
    clear hb hbx0
    go_wp2
    go_ret2
    exact ⟨none, 0, 0, by rw [show okTwo W H xs a b = false by (rw [okTwo, Bool.and_comm]; exact ht')]; rfl, by rw [show degreesV W H xs a b = [] by (rw [degreesV, if_neg (by rw [show okTwo W H xs a b = false by (rw [okTwo, Bool.and_comm]; exact ht')]; decide)])]; exact OwnI.none_ _ _ _, B.out⟩

end Go.Proofs.Ytmghjohpmlhdlaa

namespace Go.Proofs.Ytmghjohpmlhdlaa
open Go.RowKit

set_option maxRecDepth 100000 in
set_option maxHeartbeats 2000000 in
theorem impl_DegreesOf (W H : Int) (A : Option Addr) (n c : Nat) (xs : List Int) (a b : Int) (w : World) (ha : Rd w A n xs) :
    Calls Try.prog 44 #[brd W H A n c, lpr a b] w fun e w' => ∃ A' n' c', e = .returned (.tuple #[.slice A' n' c', .bool (okTwo W H xs a b)]) ∧ OwnI 3 w' w.heap.size A' n' c' (degreesV W H xs a b) ∧ Below w.heap.size w w' := by
  by_cases hl : leaperB a b = true
  · by_cases hg : goodB W H xs = true
    · have HG := Lib.hid hg; have HL := Lib.hid hl
      have HW := Lib.hid (goodB_iff.1 hg).1
      have HN := Lib.hid (two_N (show (goodB W H xs && leaperB a b) = true by rw [hg, hl]; rfl))
      obtain ⟨i0, hi, hz0, hz1, hz2⟩ := info_parts infoI
      have HI := Lib.hid hi; have HZ0 := Lib.hid hz0; have HZ1 := Lib.hid hz1; have HZ2 := Lib.hid hz2
      clear hi hz0 hz1 hz2
      go_enter Try.func44, Try.ntmps44
      go_wp2_with fail
      refine (isLeaper_any _ _ _).mono ?_
      rw [hl]
      rintro e wv ⟨rfl, hb⟩
      have hbx0 := below_box hb
      have a0 : wv.cell? ⟨w.heap.size, 0, none⟩ = some (.int .i64 W) := by simpa using newbox hbx0 0
      have a1 : wv.cell? ⟨w.heap.size, 1, none⟩ = some (.int .i64 H) := by simpa using newbox hbx0 1
      have a2 : wv.cell? ⟨w.heap.size, 2, none⟩ = some (.slice A n c) := by simpa using newbox hbx0 2
      have al : w.heap.size < wv.heap.size := by simpa using newbox_lt hbx0
      have l0 : wv.cell? ⟨w.heap.size + 1, 0, none⟩ = some (.int .i64 a) := by simpa using newbox hb 0
      have l1 : wv.cell? ⟨w.heap.size + 1, 1, none⟩ = some (.int .i64 b) := by simpa using newbox hb 1
      have ll : w.heap.size + 1 < wv.heap.size := by simpa using newbox_lt hb
      have B := Lib.hid (below_box hbx0)
      clear hb hbx0
      go_wp2_with fail
      refine (isBoard_any _ _ _ _ _ _ _ (ha.keep B.out)).mono ?_
      rw [hg]
      rintro e wv ⟨rfl, hb⟩
      replace a0 := cell_keep a0 al hb
      replace a1 := cell_keep a1 al hb
      replace a2 := cell_keep a2 al hb
      replace al := lt_keep al hb
      replace l0 := cell_keep l0 ll hb
      replace l1 := cell_keep l1 ll hb
      replace ll := lt_keep ll hb
      replace B := Lib.hid (below_next B.out hb)
      clear hb
      have R := Lib.hid (ha.keep B.out)
      go_wp2_with fail
      refine (cellsThere_any W H A n c xs _ R.out HG.out).mono ?_
      rintro e ws ⟨A1, n1, c1, rfl, hst, hb⟩
      replace a0 := cell_keep a0 al hb; replace a1 := cell_keep a1 al hb; replace a2 := cell_keep a2 al hb; replace l0 := cell_keep l0 ll hb; replace l1 := cell_keep l1 ll hb; replace al := lt_keep al hb; replace ll := lt_keep ll hb
      replace R := Lib.hid (R.out.keep hb)
      have hB0 := B.out.size
      replace B := Lib.hid (below_next B.out hb)
      have hs1 := hb.size
      have ST := Lib.hid hst.rd
      have SL := Lib.hid hst.len
      have n8 : n1 ≤ 64 := by have := cellsL_len64 (xs := xs) HN.out; have := hst.len; omega
      have n9 := hst.rd.2.1
      clear hst hb
      go_wp2
      go_loopw [6, 20] (fun v i wr => ∃ (k c' : Nat) (A' : Option Addr), k ≤ n1 ∧ i = .int .i64 k ∧ v = .slice A' k c' ∧ OwnI 3 wr ws.heap.size A' k c' (((cellsL W H xs).take k).map fun q => ((leapsL W H xs a b q).length : Int)) ∧ Below ws.heap.size ws wr) (fun _ i _ => n1 - (intOf i).toNat)
      case atStart => exact ⟨0, 0, none, by omega, rfl, rfl, OwnI.none_ _ _ _, Below.refl _ _⟩
      case round =>
        obtain ⟨k, c', A', hk, rfl, rfl, hown, hbw⟩ := hrel
        by_cases hlt : k < n1
        · obtain ⟨bb, oo, x, rfl, hg1, hx, x0⟩ := ST.out.at_ hlt
          have HX := Lib.hid hx
          have hin := cellsL_mem.1 (List.mem_of_getElem? hx)
          have HXQ := Lib.hid (hasB_iff.1 hin).1
          have HXR := Lib.hid (range_of HN.out hin)
          replace x0 := cell_keep x0 hg1 hbw
          have b0 := cell_keep a0 al hbw; have b1 := cell_keep a1 al hbw; have b2 := cell_keep a2 al hbw; have m0 := cell_keep l0 ll hbw; have m1 := cell_keep l1 ll hbw
          have gb := lt_keep al hbw; have gm := lt_keep ll hbw
          have RR := Lib.hid (R.out.keep hbw)
          have HO := Lib.hid hown; have HB := Lib.hid hbw
          have hsw := hbw.size
          clear hx hin hown hbw
          go_wp2_with fail
          refine (leapsAt_any W H A n c xs a b x _ RR.out HG.out HL.out HXQ.out).mono ?_
          rintro e wv ⟨A3, n3, c3, rfl, hl3, hb⟩
          have HL3 := Lib.hid (hl3.len.symm.trans (goesL_len (W := W) (H := H) (hs := xs) (c := x) HW.out.1 HL.out))
          have hn3 : n3 ≤ 64 := by have := leapsL_len64 (W := W) (H := H) (xs := xs) (a := a) (b := b) (q := x) HN.out; have := HL3.out; omega
          clear hl3
          replace b0 := cell_keep b0 gb hb; replace b1 := cell_keep b1 gb hb; replace b2 := cell_keep b2 gb hb; replace m0 := cell_keep m0 gm hb; replace m1 := cell_keep m1 gm hb; replace gb := lt_keep gb hb; replace gm := lt_keep gm hb; replace RR := Lib.hid (RR.out.keep hb); replace HO := Lib.hid (HO.out.keep hb); replace HB := Lib.hid (HB.out.trans (hb.mono (by omega))); replace hsw := Nat.le_trans hsw hb.size; clear hb
          go_wp2_with (at_builtin; refine wpList_app1 rfl (.tmp 24) (.tmp 30) 22 3 rfl i0 Try.underlying22 HI.out HZ0.out HZ1.out HZ2.out ws.heap.size A' k c' (((cellsL W H xs).take k).map fun q => ((leapsL W H xs a b q).length : Int)) (n3 : Int) rfl HO.out rfl (by omega) hsw ?_; intro A2 c2 w2 hown2 hb2)
          have HO2 := Lib.hid hown2; have HB2 := Lib.hid (HB.out.trans hb2)
          clear hown2 hb2
          go_wp2
          go_roundw
          case rel => exact ⟨k + 1, c2, A2, by omega, by go_num, rfl, by rw [List.take_add_one, HX.out, List.map_append]; simp only [Option.toList, List.map_cons, List.map_nil]; rw [← HL3.out]; exact HO2.out, HB2.out⟩
          case measure => simp [intOf]; omega
        · have e : k = n1 := by omega
          subst e
          have e2 : (cellsL W H xs).take k = cellsL W H xs := List.take_of_length_le (by have := SL.out; omega)
          rw [e2] at hown
          have HO := Lib.hid hown; have HB := Lib.hid hbw
          clear hown hbw e2
          go_wp2
          go_ret2
          exact ⟨A', k, c', by rw [show okTwo W H xs a b = true by rw [okTwo, HL.out, HG.out]; rfl]; rfl, by rw [degreesV, if_pos (by rw [okTwo, HL.out, HG.out]; rfl)]; exact HO.out.lower (by omega), B.out.trans (HB.out.mono (by omega))⟩
    · have hg' : goodB W H xs = false := by simpa using hg
      go_enter Try.func44, Try.ntmps44
      go_wp2_with fail
      refine (isLeaper_any _ _ _).mono ?_
      rw [hl]
      rintro e wv ⟨rfl, hb⟩
      have hbx0 := below_box hb
      have a0 : wv.cell? ⟨w.heap.size, 0, none⟩ = some (.int .i64 W) := by simpa using newbox hbx0 0
      have a1 : wv.cell? ⟨w.heap.size, 1, none⟩ = some (.int .i64 H) := by simpa using newbox hbx0 1
      have a2 : wv.cell? ⟨w.heap.size, 2, none⟩ = some (.slice A n c) := by simpa using newbox hbx0 2
      have al : w.heap.size < wv.heap.size := by simpa using newbox_lt hbx0
      have l0 : wv.cell? ⟨w.heap.size + 1, 0, none⟩ = some (.int .i64 a) := by simpa using newbox hb 0
      have l1 : wv.cell? ⟨w.heap.size + 1, 1, none⟩ = some (.int .i64 b) := by simpa using newbox hb 1
      have ll : w.heap.size + 1 < wv.heap.size := by simpa using newbox_lt hb
      have B := Lib.hid (below_box hbx0)
      clear hb hbx0
      go_wp2_with fail
      refine (isBoard_any _ _ _ _ _ _ _ (ha.keep B.out)).mono ?_
      rw [hg']
      rintro e wv ⟨rfl, hb⟩
      replace a0 := cell_keep a0 al hb
      replace a1 := cell_keep a1 al hb
      replace a2 := cell_keep a2 al hb
      replace al := lt_keep al hb
      replace l0 := cell_keep l0 ll hb
      replace l1 := cell_keep l1 ll hb
      replace ll := lt_keep ll hb
      replace B := Lib.hid (below_next B.out hb)
      clear hb
      go_wp2
      go_ret2
      exact ⟨none, 0, 0, by rw [show okTwo W H xs a b = false by (rw [okTwo, hg']; simp)]; rfl, by rw [show degreesV W H xs a b = [] by (rw [degreesV, if_neg (by rw [okTwo, hg']; simp)])]; exact OwnI.none_ _ _ _, B.out⟩
  · have hl' : leaperB a b = false := by simpa using hl
    go_enter Try.func44, Try.ntmps44
    go_wp2_with fail
    refine (isLeaper_any _ _ _).mono ?_
    rw [hl']
    rintro e wv ⟨rfl, hb⟩
    have hbx0 := below_box hb
    have a0 : wv.cell? ⟨w.heap.size, 0, none⟩ = some (.int .i64 W) := by simpa using newbox hbx0 0
    have a1 : wv.cell? ⟨w.heap.size, 1, none⟩ = some (.int .i64 H) := by simpa using newbox hbx0 1
    have a2 : wv.cell? ⟨w.heap.size, 2, none⟩ = some (.slice A n c) := by simpa using newbox hbx0 2
    have al : w.heap.size < wv.heap.size := by simpa using newbox_lt hbx0
    have l0 : wv.cell? ⟨w.heap.size + 1, 0, none⟩ = some (.int .i64 a) := by simpa using newbox hb 0
    have l1 : wv.cell? ⟨w.heap.size + 1, 1, none⟩ = some (.int .i64 b) := by simpa using newbox hb 1
    have ll : w.heap.size + 1 < wv.heap.size := by simpa using newbox_lt hb
    have B := Lib.hid (below_box hbx0)
    clear hb hbx0
    go_wp2
    go_ret2
    exact ⟨none, 0, 0, by rw [show okTwo W H xs a b = false by (rw [okTwo, hl']; simp)]; rfl, by rw [show degreesV W H xs a b = [] by (rw [degreesV, if_neg (by rw [okTwo, hl']; simp)])]; exact OwnI.none_ _ _ _, B.out⟩

end Go.Proofs.Ytmghjohpmlhdlaa
