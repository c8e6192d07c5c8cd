/-
  Contracts: IsLeap.
-/
import Derived.Test.YtnmmgalidkambaaGreatDoorB9
namespace Go.Proofs.YtnmmgalidkambaaGreatDoor
open Go.RowKit

def okLeap (W H : Int) (xs : List Int) (a b p q : Int) : Bool := leaperB a b && (hasV W H xs p && hasV W H xs q)
def isLeapV (W H : Int) (xs : List Int) (a b p q : Int) : Bool := okLeap W H xs a b p q && leapB W a b p q

set_option maxHeartbeats 400000 in
theorem boTwo_any (W H : Int) (A : Option Addr) (n c : Nat) (xs : List Int) (a b : Int) (w : World) (ha : Rd w A n xs) :
    Calls Tryz.prog 47 #[brd W H A n c, lpr a b] w fun e w' => e = .returned (.bool (goodB W H xs && leaperB a b)) ∧ Below w.heap.size w w' := by
  by_cases hg : goodB W H xs = true
  · go_enter Tryz.func47, Tryz.ntmps47
    go_wp2_with fail
    refine (boGood_any _ _ _ _ _ _ _ ((ha.alloc _).alloc _)).mono ?_
    rw [hg]
    rintro e wv ⟨rfl, hb⟩
    have hbx := below_box hb
    have a0 : wv.cell? ⟨w.heap.size, 0, none⟩ = some (.int .i64 W) := by simpa using newbox hbx 0
    have a1 : wv.cell? ⟨w.heap.size, 1, none⟩ = some (.int .i64 H) := by simpa using newbox hbx 1
    have a2 : wv.cell? ⟨w.heap.size, 2, none⟩ = some (.slice A n c) := by simpa using newbox hbx 2
    have al : w.heap.size < wv.heap.size := by simpa using newbox_lt hbx
    have l0 : wv.cell? ⟨w.heap.size + 1, 0, none⟩ = some (.int .i64 a) := by simpa using newbox hb 0
    have l1 : wv.cell? ⟨w.heap.size + 1, 1, none⟩ = some (.int .i64 b) := by simpa using newbox hb 1
    have ll : w.heap.size + 1 < wv.heap.size := by simpa using newbox_lt hb
    have B := Lib.hid (below_box hbx)
    clear hb hbx
    go_wp2_with fail
    refine (boLeaper_any _ _ _).mono ?_
    rintro e wv ⟨rfl, hb⟩
    replace a0 := cell_keep a0 al hb; replace a1 := cell_keep a1 al hb; replace a2 := cell_keep a2 al hb; replace al := lt_keep al hb
    replace l0 := cell_keep l0 ll hb; replace l1 := cell_keep l1 ll hb; replace ll := lt_keep ll hb
    replace B := Lib.hid (below_next B.out hb)
    clear hb
    go_wp2
    go_ret
    exact ⟨ret_bool (by rw [hg]; rfl), B.out⟩
  · have hg' : goodB W H xs = false := by simpa using hg
    go_enter Tryz.func47, Tryz.ntmps47
    go_wp2_with fail
    refine (boGood_any _ _ _ _ _ _ _ ((ha.alloc _).alloc _)).mono ?_
    rw [hg']
    rintro e wv ⟨rfl, hb⟩
    have hbx := below_box hb
    have a0 : wv.cell? ⟨w.heap.size, 0, none⟩ = some (.int .i64 W) := by simpa using newbox hbx 0
    have a1 : wv.cell? ⟨w.heap.size, 1, none⟩ = some (.int .i64 H) := by simpa using newbox hbx 1
    have a2 : wv.cell? ⟨w.heap.size, 2, none⟩ = some (.slice A n c) := by simpa using newbox hbx 2
    have al : w.heap.size < wv.heap.size := by simpa using newbox_lt hbx
    have l0 : wv.cell? ⟨w.heap.size + 1, 0, none⟩ = some (.int .i64 a) := by simpa using newbox hb 0
    have l1 : wv.cell? ⟨w.heap.size + 1, 1, none⟩ = some (.int .i64 b) := by simpa using newbox hb 1
    have ll : w.heap.size + 1 < wv.heap.size := by simpa using newbox_lt hb
    have B := Lib.hid (below_box hbx)
    clear hb hbx
    go_wp2
    go_ret
    exact ⟨ret_bool (by rw [hg']; rfl), B.out⟩

theorem range_of {W H q : Int} {xs : List Int} (hN : 1 ≤ W * H ∧ W * H ≤ 64) (h : hasB W H xs q = true) : 0 ≤ q ∧ q ≤ 64 := by
  have := (hasB_iff.1 h).1; omega

end Go.Proofs.YtnmmgalidkambaaGreatDoor
