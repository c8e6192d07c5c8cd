/-
  Contracts: IsPath.
-/
import Derived.Test.YtmghjohpmlhdlaaB14
namespace Go.Proofs.Ytmghjohpmlhdlaa
open Go.RowKit

def twoV (W H : Int) (xs : List Int) (a b : Int) : Bool := goodB W H xs && leaperB a b
def isPathV (W H : Int) (xs : List Int) (a b : Int) (ps : List Int) : Bool := if twoV W H xs a b then pathB W H xs a b ps else false

set_option maxHeartbeats 1000000 in
theorem spec_IsPath (W H : Int) (A : Option Addr) (n c : Nat) (xs : List Int) (a b : Int) (A2 : Option Addr) (m c2 : Nat) (ps : List Int) (w : World) (ha : Rd w A n xs) (hp : Rd w A2 m ps) :
    Calls Try.prog 25 #[brd W H A n c, lpr a b, .slice A2 m c2] w fun e w' => e = .returned (.tuple #[.bool (isPathV W H xs a b ps), .bool (twoV W H xs a b)]) ∧ Below w.heap.size w w' := by
  by_cases ht : twoV W H xs a b = true
  · have hg : goodB W H xs = true := by simp [twoV] at ht; exact ht.1
    rw [show isPathV W H xs a b ps = pathB W H xs a b ps by rw [isPathV, ht]; rfl, ht]
    go_enter Try.func25, Try.ntmps25
    go_wp2_with fail
    refine (boTwo_any _ _ _ _ _ _ _ _ _ ((ha.alloc _).alloc _)).mono ?_
    rw [show (goodB W H xs && leaperB a b) = true from ht]
    rintro e wv ⟨rfl, hb⟩
    have hbx := below_box hb
    have a0 : wv.cell? ⟨w.heap.size, 0, none⟩ = some (.int .i64 W) := by simpa using newbox hbx 0
    have a1 : wv.cell? ⟨w.heap.size, 1, none⟩ = some (.int .i64 H) := by simpa using newbox hbx 1
    have a2 : wv.cell? ⟨w.heap.size, 2, none⟩ = some (.slice A n c) := by simpa using newbox hbx 2
    have al : w.heap.size < wv.heap.size := by simpa using newbox_lt hbx
    have l0 : wv.cell? ⟨w.heap.size + 1, 0, none⟩ = some (.int .i64 a) := by simpa using newbox hb 0
    have l1 : wv.cell? ⟨w.heap.size + 1, 1, none⟩ = some (.int .i64 b) := by simpa using newbox hb 1
    have ll : w.heap.size + 1 < wv.heap.size := by simpa using newbox_lt hb
    have B := Lib.hid (below_box hbx)
    clear hb hbx
    go_wp2_with fail
    refine (boPath_any _ _ _ _ _ _ _ _ _ _ _ _ _ (ha.keep B.out) (hp.keep B.out) hg).mono ?_
    rintro e wv ⟨rfl, hb⟩
    replace a0 := cell_keep a0 al hb; replace a1 := cell_keep a1 al hb; replace a2 := cell_keep a2 al hb; replace al := lt_keep al hb
    replace l0 := cell_keep l0 ll hb; replace l1 := cell_keep l1 ll hb; replace ll := lt_keep ll hb
    replace B := Lib.hid (below_next B.out hb)
    clear hb
    go_wp2
    go_ret2
    exact ⟨rfl, B.out⟩
  · have ht' : twoV W H xs a b = false := by simpa using ht
    rw [show isPathV W H xs a b ps = false by rw [isPathV, ht']; rfl, ht']
    go_enter Try.func25, Try.ntmps25
    go_wp2_with fail
    refine (boTwo_any _ _ _ _ _ _ _ _ _ ((ha.alloc _).alloc _)).mono ?_
    rw [show (goodB W H xs && leaperB a b) = false from ht']
    rintro e wv ⟨rfl, hb⟩
    have hbx := below_box hb
    have a0 : wv.cell? ⟨w.heap.size, 0, none⟩ = some (.int .i64 W) := by simpa using newbox hbx 0
    have a1 : wv.cell? ⟨w.heap.size, 1, none⟩ = some (.int .i64 H) := by simpa using newbox hbx 1
    have a2 : wv.cell? ⟨w.heap.size, 2, none⟩ = some (.slice A n c) := by simpa using newbox hbx 2
    have al : w.heap.size < wv.heap.size := by simpa using newbox_lt hbx
    have l0 : wv.cell? ⟨w.heap.size + 1, 0, none⟩ = some (.int .i64 a) := by simpa using newbox hb 0
    have l1 : wv.cell? ⟨w.heap.size + 1, 1, none⟩ = some (.int .i64 b) := by simpa using newbox hb 1
    have ll : w.heap.size + 1 < wv.heap.size := by simpa using newbox_lt hb
    have B := Lib.hid (below_box hbx)
    clear hb hbx
    go_wp2
    go_ret2
    exact ⟨rfl, B.out⟩

set_option maxHeartbeats 1000000 in
theorem impl_IsPath (W H : Int) (A : Option Addr) (n c : Nat) (xs : List Int) (a b : Int) (A2 : Option Addr) (m c2 : Nat) (ps : List Int) (w : World) (ha : Rd w A n xs) (hp : Rd w A2 m ps) :
    Calls Try.prog 27 #[brd W H A n c, lpr a b, .slice A2 m c2] w fun e w' => e = .returned (.tuple #[.bool (isPathV W H xs a b ps), .bool (twoV W H xs a b)]) ∧ Below w.heap.size w w' := by
  by_cases hl : leaperB a b = true
  · by_cases hg : goodB W H xs = true
    · have ht : twoV W H xs a b = true := by simp [twoV, hl, hg]
      rw [show isPathV W H xs a b ps = pathB W H xs a b ps by rw [isPathV, ht]; rfl, ht]
      go_enter Try.func27, Try.ntmps27
      go_wp2_with fail
      refine (isLeaper_any _ _ _).mono ?_
      rw [hl]
      rintro e wv ⟨rfl, hb⟩
      have hbx := below_box hb
      have a0 : wv.cell? ⟨w.heap.size, 0, none⟩ = some (.int .i64 W) := by simpa using newbox hbx 0
      have a1 : wv.cell? ⟨w.heap.size, 1, none⟩ = some (.int .i64 H) := by simpa using newbox hbx 1
      have a2 : wv.cell? ⟨w.heap.size, 2, none⟩ = some (.slice A n c) := by simpa using newbox hbx 2
      have al : w.heap.size < wv.heap.size := by simpa using newbox_lt hbx
      have l0 : wv.cell? ⟨w.heap.size + 1, 0, none⟩ = some (.int .i64 a) := by simpa using newbox hb 0
      have l1 : wv.cell? ⟨w.heap.size + 1, 1, none⟩ = some (.int .i64 b) := by simpa using newbox hb 1
      have ll : w.heap.size + 1 < wv.heap.size := by simpa using newbox_lt hb
      have B := Lib.hid (below_box hbx)
      clear hb hbx
      go_wp2_with fail
      refine (isBoard_any _ _ _ _ _ _ _ (ha.keep B.out)).mono ?_
      rw [hg]
      rintro e wv ⟨rfl, hb⟩
      replace a0 := cell_keep a0 al hb; replace a1 := cell_keep a1 al hb; replace a2 := cell_keep a2 al hb; replace al := lt_keep al hb
      replace l0 := cell_keep l0 ll hb; replace l1 := cell_keep l1 ll hb; replace ll := lt_keep ll hb
      replace B := Lib.hid (below_next B.out hb)
      clear hb
      go_wp2_with fail
      refine (isPath_any _ _ _ _ _ _ _ _ _ _ _ _ _ (ha.keep B.out) (hp.keep B.out) hg).mono ?_
      rintro e wv ⟨rfl, hb⟩
      replace a0 := cell_keep a0 al hb; replace a1 := cell_keep a1 al hb; replace a2 := cell_keep a2 al hb; replace al := lt_keep al hb
      replace l0 := cell_keep l0 ll hb; replace l1 := cell_keep l1 ll hb; replace ll := lt_keep ll hb
      replace B := Lib.hid (below_next B.out hb)
      clear hb
      go_wp2
      go_ret2
      exact ⟨rfl, B.out⟩
    · have hg' : goodB W H xs = false := by simpa using hg
      have ht' : twoV W H xs a b = false := by simp [twoV, hg']
      rw [show isPathV W H xs a b ps = false by rw [isPathV, ht']; rfl, ht']
      go_enter Try.func27, Try.ntmps27
      go_wp2_with fail
      refine (isLeaper_any _ _ _).mono ?_
      rw [hl]
      rintro e wv ⟨rfl, hb⟩
      have hbx := below_box hb
      have a0 : wv.cell? ⟨w.heap.size, 0, none⟩ = some (.int .i64 W) := by simpa using newbox hbx 0
      have a1 : wv.cell? ⟨w.heap.size, 1, none⟩ = some (.int .i64 H) := by simpa using newbox hbx 1
      have a2 : wv.cell? ⟨w.heap.size, 2, none⟩ = some (.slice A n c) := by simpa using newbox hbx 2
      have al : w.heap.size < wv.heap.size := by simpa using newbox_lt hbx
      have l0 : wv.cell? ⟨w.heap.size + 1, 0, none⟩ = some (.int .i64 a) := by simpa using newbox hb 0
      have l1 : wv.cell? ⟨w.heap.size + 1, 1, none⟩ = some (.int .i64 b) := by simpa using newbox hb 1
      have ll : w.heap.size + 1 < wv.heap.size := by simpa using newbox_lt hb
      have B := Lib.hid (below_box hbx)
      clear hb hbx
      go_wp2_with fail
      refine (isBoard_any _ _ _ _ _ _ _ (ha.keep B.out)).mono ?_
      rw [hg']
      rintro e wv ⟨rfl, hb⟩
      replace a0 := cell_keep a0 al hb; replace a1 := cell_keep a1 al hb; replace a2 := cell_keep a2 al hb; replace al := lt_keep al hb
      replace l0 := cell_keep l0 ll hb; replace l1 := cell_keep l1 ll hb; replace ll := lt_keep ll hb
      replace B := Lib.hid (below_next B.out hb)
      clear hb
      go_wp2
      go_ret2
      exact ⟨rfl, B.out⟩
  · have hl' : leaperB a b = false := by simpa using hl
    have ht' : twoV W H xs a b = false := by simp [twoV, hl']
    rw [show isPathV W H xs a b ps = false by rw [isPathV, ht']; rfl, ht']
    go_enter Try.func27, Try.ntmps27
    go_wp2_with fail
    refine (isLeaper_any _ _ _).mono ?_
    rw [hl']
    rintro e wv ⟨rfl, hb⟩
    have hbx := below_box hb
    have a0 : wv.cell? ⟨w.heap.size, 0, none⟩ = some (.int .i64 W) := by simpa using newbox hbx 0
    have a1 : wv.cell? ⟨w.heap.size, 1, none⟩ = some (.int .i64 H) := by simpa using newbox hbx 1
    have a2 : wv.cell? ⟨w.heap.size, 2, none⟩ = some (.slice A n c) := by simpa using newbox hbx 2
    have al : w.heap.size < wv.heap.size := by simpa using newbox_lt hbx
    have l0 : wv.cell? ⟨w.heap.size + 1, 0, none⟩ = some (.int .i64 a) := by simpa using newbox hb 0
    have l1 : wv.cell? ⟨w.heap.size + 1, 1, none⟩ = some (.int .i64 b) := by simpa using newbox hb 1
    have ll : w.heap.size + 1 < wv.heap.size := by simpa using newbox_lt hb
    have B := Lib.hid (below_box hbx)
    clear hb hbx
    go_wp2
    go_ret2
    exact ⟨rfl, B.out⟩

end Go.Proofs.Ytmghjohpmlhdlaa
