/-
  Contracts: a leaper, a board and cells of it.
-/
import Derived.Test.YtmmfjmgjkbplpaaS10
import Derived.Test.YtmmfjmgjkbplpaaZ1
namespace Go.Proofs.Ytmmfjmgjkbplpaa
open Go.RowKit

def onB (W H : Int) (xs : List Int) (a b : Int) (ps : List Int) : Bool := okTwo W H xs a b && ps.all (hasB W H xs)

theorem onB_onK (W H : Int) (xs : List Int) (a b : Int) (ps : List Int) : onB W H xs a b ps = onK W H xs a b ps := by
  rw [onB, onK, okTwo, twoV, Bool.and_comm (leaperB a b)]
theorem isLeaperOn_any (W H : Int) (A : Option Addr) (n c : Nat) (xs : List Int) (a b : Int) (A2 : Option Addr) (m c2 : Nat) (ps : List Int) (w : World) (ha : Rd w A n xs) (hp : Rd w A2 m ps) :
    Calls Try.prog 25 #[brd W H A n c, lpr a b, .slice A2 m c2] w fun e w' => e = .returned (.bool (onB W H xs a b ps)) ∧ Below w.heap.size w w' := by
  rw [onB_onK]; exact isLeaperOnK_any W H A n c xs a b A2 m c2 ps w ha hp

set_option maxRecDepth 100000 in
set_option maxHeartbeats 1000000 in
theorem faAsked_any (W H : Int) (A : Option Addr) (n c : Nat) (xs : List Int) (a b : Int) (p : Int) (q : Int) (w : World) (ha : Rd w A n xs) :
    Calls Try.prog 21 #[brd W H A n c, lpr a b, .int .i64 p, .int .i64 q] w fun e w' => e = .returned (.bool (onB W H xs a b [p, q])) ∧ Below w.heap.size w w' := by
  by_cases ht : (goodB W H xs && leaperB a b) = true
  · by_cases hp1 : hasB W H xs p = true
    · by_cases hq1 : hasB W H xs q = true
      · go_enter Try.func21, Try.ntmps21
        go_wp2_with fail
        refine (boTwo_any _ _ _ _ _ _ _ _ _ ((ha.alloc _).alloc _)).mono ?_
        rw [ht]
        rintro e wv ⟨rfl, hb⟩
        have hbx0 := below_box hb
        have a0 : wv.cell? ⟨w.heap.size, 0, none⟩ = some (.int .i64 W) := by simpa using newbox hbx0 0
        have a1 : wv.cell? ⟨w.heap.size, 1, none⟩ = some (.int .i64 H) := by simpa using newbox hbx0 1
        have a2 : wv.cell? ⟨w.heap.size, 2, none⟩ = some (.slice A n c) := by simpa using newbox hbx0 2
        have al : w.heap.size < wv.heap.size := by simpa using newbox_lt hbx0
        have l0 : wv.cell? ⟨w.heap.size + 1, 0, none⟩ = some (.int .i64 a) := by simpa using newbox hb 0
        have l1 : wv.cell? ⟨w.heap.size + 1, 1, none⟩ = some (.int .i64 b) := by simpa using newbox hb 1
        have ll : w.heap.size + 1 < wv.heap.size := by simpa using newbox_lt hb
        have B := Lib.hid (below_box hbx0)
        clear hb hbx0
        go_wp2_with fail
        refine (boHas_any _ _ _ _ _ _ _ _ (ha.keep B.out) (two_N ht)).mono ?_
        rw [hp1]
        rintro e wv ⟨rfl, hb⟩
        replace a0 := cell_keep a0 al hb
        replace a1 := cell_keep a1 al hb
        replace a2 := cell_keep a2 al hb
        replace al := lt_keep al hb
        replace l0 := cell_keep l0 ll hb
        replace l1 := cell_keep l1 ll hb
        replace ll := lt_keep ll hb
        replace B := Lib.hid (below_next B.out hb)
        clear hb
        go_wp2_with fail
        refine (boHas_any _ _ _ _ _ _ _ _ (ha.keep B.out) (two_N ht)).mono ?_
        rw [hq1]
        rintro e wv ⟨rfl, hb⟩
        replace a0 := cell_keep a0 al hb
        replace a1 := cell_keep a1 al hb
        replace a2 := cell_keep a2 al hb
        replace al := lt_keep al hb
        replace l0 := cell_keep l0 ll hb
        replace l1 := cell_keep l1 ll hb
        replace ll := lt_keep ll hb
        replace B := Lib.hid (below_next B.out hb)
        clear hb
        go_wp2
        go_ret
        exact ⟨ret_bool (by rw [onB, okTwo, Bool.and_comm (leaperB a b), ht]; simp [hp1, hq1]), B.out⟩
      · have hq1' : hasB W H xs q = false := by simpa using hq1
        go_enter Try.func21, Try.ntmps21
        go_wp2_with fail
        refine (boTwo_any _ _ _ _ _ _ _ _ _ ((ha.alloc _).alloc _)).mono ?_
        rw [ht]
        rintro e wv ⟨rfl, hb⟩
        have hbx0 := below_box hb
        have a0 : wv.cell? ⟨w.heap.size, 0, none⟩ = some (.int .i64 W) := by simpa using newbox hbx0 0
        have a1 : wv.cell? ⟨w.heap.size, 1, none⟩ = some (.int .i64 H) := by simpa using newbox hbx0 1
        have a2 : wv.cell? ⟨w.heap.size, 2, none⟩ = some (.slice A n c) := by simpa using newbox hbx0 2
        have al : w.heap.size < wv.heap.size := by simpa using newbox_lt hbx0
        have l0 : wv.cell? ⟨w.heap.size + 1, 0, none⟩ = some (.int .i64 a) := by simpa using newbox hb 0
        have l1 : wv.cell? ⟨w.heap.size + 1, 1, none⟩ = some (.int .i64 b) := by simpa using newbox hb 1
        have ll : w.heap.size + 1 < wv.heap.size := by simpa using newbox_lt hb
        have B := Lib.hid (below_box hbx0)
        clear hb hbx0
        go_wp2_with fail
        refine (boHas_any _ _ _ _ _ _ _ _ (ha.keep B.out) (two_N ht)).mono ?_
        rw [hp1]
        rintro e wv ⟨rfl, hb⟩
        replace a0 := cell_keep a0 al hb
        replace a1 := cell_keep a1 al hb
        replace a2 := cell_keep a2 al hb
        replace al := lt_keep al hb
        replace l0 := cell_keep l0 ll hb
        replace l1 := cell_keep l1 ll hb
        replace ll := lt_keep ll hb
        replace B := Lib.hid (below_next B.out hb)
        clear hb
        go_wp2_with fail
        refine (boHas_any _ _ _ _ _ _ _ _ (ha.keep B.out) (two_N ht)).mono ?_
        rw [hq1']
        rintro e wv ⟨rfl, hb⟩
        replace a0 := cell_keep a0 al hb
        replace a1 := cell_keep a1 al hb
        replace a2 := cell_keep a2 al hb
        replace al := lt_keep al hb
        replace l0 := cell_keep l0 ll hb
        replace l1 := cell_keep l1 ll hb
        replace ll := lt_keep ll hb
        replace B := Lib.hid (below_next B.out hb)
        clear hb
        go_wp2
        go_ret
        exact ⟨ret_bool (by rw [onB, okTwo, Bool.and_comm (leaperB a b)]; simp only [List.all_cons, List.all_nil]; rw [hq1']; simp), B.out⟩
    · have hp1' : hasB W H xs p = false := by simpa using hp1
      go_enter Try.func21, Try.ntmps21
      go_wp2_with fail
      refine (boTwo_any _ _ _ _ _ _ _ _ _ ((ha.alloc _).alloc _)).mono ?_
      rw [ht]
      rintro e wv ⟨rfl, hb⟩
      have hbx0 := below_box hb
      have a0 : wv.cell? ⟨w.heap.size, 0, none⟩ = some (.int .i64 W) := by simpa using newbox hbx0 0
      have a1 : wv.cell? ⟨w.heap.size, 1, none⟩ = some (.int .i64 H) := by simpa using newbox hbx0 1
      have a2 : wv.cell? ⟨w.heap.size, 2, none⟩ = some (.slice A n c) := by simpa using newbox hbx0 2
      have al : w.heap.size < wv.heap.size := by simpa using newbox_lt hbx0
      have l0 : wv.cell? ⟨w.heap.size + 1, 0, none⟩ = some (.int .i64 a) := by simpa using newbox hb 0
      have l1 : wv.cell? ⟨w.heap.size + 1, 1, none⟩ = some (.int .i64 b) := by simpa using newbox hb 1
      have ll : w.heap.size + 1 < wv.heap.size := by simpa using newbox_lt hb
      have B := Lib.hid (below_box hbx0)
      clear hb hbx0
      go_wp2_with fail
      refine (boHas_any _ _ _ _ _ _ _ _ (ha.keep B.out) (two_N ht)).mono ?_
      rw [hp1']
      rintro e wv ⟨rfl, hb⟩
      replace a0 := cell_keep a0 al hb
      replace a1 := cell_keep a1 al hb
      replace a2 := cell_keep a2 al hb
      replace al := lt_keep al hb
      replace l0 := cell_keep l0 ll hb
      replace l1 := cell_keep l1 ll hb
      replace ll := lt_keep ll hb
      replace B := Lib.hid (below_next B.out hb)
      clear hb
      go_wp2
      go_ret
      exact ⟨ret_bool (by rw [onB, okTwo, Bool.and_comm (leaperB a b)]; simp only [List.all_cons, List.all_nil]; rw [hp1']; simp), B.out⟩
  · have ht' : (goodB W H xs && leaperB a b) = false := by simpa using ht
    go_enter Try.func21, Try.ntmps21
    go_wp2_with fail
    refine (boTwo_any _ _ _ _ _ _ _ _ _ ((ha.alloc _).alloc _)).mono ?_
    rw [ht']
    rintro e wv ⟨rfl, hb⟩
    have hbx0 := below_box hb
    have a0 : wv.cell? ⟨w.heap.size, 0, none⟩ = some (.int .i64 W) := by simpa using newbox hbx0 0
    have a1 : wv.cell? ⟨w.heap.size, 1, none⟩ = some (.int .i64 H) := by simpa using newbox hbx0 1
    have a2 : wv.cell? ⟨w.heap.size, 2, none⟩ = some (.slice A n c) := by simpa using newbox hbx0 2
    have al : w.heap.size < wv.heap.size := by simpa using newbox_lt hbx0
    have l0 : wv.cell? ⟨w.heap.size + 1, 0, none⟩ = some (.int .i64 a) := by simpa using newbox hb 0
    have l1 : wv.cell? ⟨w.heap.size + 1, 1, none⟩ = some (.int .i64 b) := by simpa using newbox hb 1
    have ll : w.heap.size + 1 < wv.heap.size := by simpa using newbox_lt hb
    have B := Lib.hid (below_box hbx0)
    clear hb hbx0
    go_wp2
    go_ret
    exact ⟨ret_bool (by rw [onB, okTwo, Bool.and_comm (leaperB a b)]; simp only [List.all_cons, List.all_nil]; rw [ht']; simp), B.out⟩

end Go.Proofs.Ytmmfjmgjkbplpaa
