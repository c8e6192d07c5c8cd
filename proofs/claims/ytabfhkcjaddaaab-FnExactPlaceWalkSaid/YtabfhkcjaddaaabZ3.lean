/-
  Contracts: closed walks, tails that can be turned; IsClosedWalk.
-/
import Derived.Test.YtabfhkcjaddaaabZ2
import Derived.Deep.RegionHeld3
namespace Go.Proofs.Ytabfhkcjaddaaab
open Go.RowKit

def okWk (W H : Int) (xs : List Int) (a b : Int) (ps : List Int) : Bool := twoV W H xs a b && walkB W H xs a b ps
def endB (W a b : Int) (ps : List Int) : Bool := decide (3 ≤ ps.length) && leapB W a b (ps.getD (ps.length - 1) 0) (ps.getD 0 0)
def canB (W a b : Int) (ps : List Int) (k : Nat) : Bool := leapB W a b (ps.getD (k - 1) 0) (ps.getD (ps.length - 1) 0)
theorem ok_two {W H a b : Int} {xs ps : List Int} (h : okWk W H xs a b ps = true) : twoV W H xs a b = true := by simp only [okWk, Bool.and_eq_true] at h; exact h.1
theorem ok_walk {W H a b : Int} {xs ps : List Int} (h : okWk W H xs a b ps = true) : walkB W H xs a b ps = true := by simp only [okWk, Bool.and_eq_true] at h; exact h.2
theorem ok_W {W H a b : Int} {xs ps : List Int} (h : okWk W H xs a b ps = true) : 1 ≤ W ∧ W ≤ 8 := (goodB_iff.1 (two_gK (ok_two h))).1
theorem ok_64 {W H a b : Int} {xs ps : List Int} (h : okWk W H xs a b ps = true) : ∀ x ∈ ps, 0 ≤ x ∧ x < 64 := path_64 (two_gK (ok_two h)) (walk_path2 (ok_walk h))
theorem ok_len {W H a b : Int} {xs ps : List Int} (h : okWk W H xs a b ps = true) : 1 ≤ ps.length ∧ ps.length ≤ 64 := path_len (walk_path2 (ok_walk h))

set_option maxRecDepth 100000 in
set_option maxHeartbeats 1000000 in
theorem blWalk_any (W H : Int) (A : Option Addr) (n c : Nat) (xs : List Int) (a b : Int) (A2 : Option Addr) (m c2 : Nat) (ps : List Int) (w : World) (ha : Rd w A n xs) (hp : Rd w A2 m ps) (hcap : m ≤ c2) :
    Calls Try.prog 47 #[brd W H A n c, lpr a b, .slice A2 m c2] w fun e w' => e = .returned (.bool (okWk W H xs a b ps)) ∧ Below w.heap.size w w' := by
  by_cases ht : twoV W H xs a b = true
  · go_enter Try.func47, Try.ntmps47
    go_wp2_with fail
    refine (boTwoV_any _ _ _ _ _ _ _ _ _ ((ha.alloc _).alloc _)).mono ?_
    rw [ht]
    rintro e wv ⟨rfl, hb⟩
    have hbx0 := below_box hb
    have a0 : wv.cell? ⟨w.heap.size, 0, none⟩ = some (.int .i64 W) := by simpa using newbox hbx0 0
    have a1 : wv.cell? ⟨w.heap.size, 1, none⟩ = some (.int .i64 H) := by simpa using newbox hbx0 1
    have a2 : wv.cell? ⟨w.heap.size, 2, none⟩ = some (.slice A n c) := by simpa using newbox hbx0 2
    have al : w.heap.size < wv.heap.size := by simpa using newbox_lt hbx0
    have l0 : wv.cell? ⟨w.heap.size + 1, 0, none⟩ = some (.int .i64 a) := by simpa using newbox hb 0
    have l1 : wv.cell? ⟨w.heap.size + 1, 1, none⟩ = some (.int .i64 b) := by simpa using newbox hb 1
    have ll : w.heap.size + 1 < wv.heap.size := by simpa using newbox_lt hb
    have B := Lib.hid (below_box hbx0)
    clear hb hbx0
    have HT := Lib.hid ht
    clear ht
    go_wp2_with fail
    refine (toWalk_any W H A n c xs a b A2 m c2 ps _ (ha.keep B.out) (hp.keep B.out) hcap (two_gK HT.out)).mono ?_
    rintro e wv ⟨rfl, hb⟩
    replace B := Lib.hid (below_next B.out hb)
    clear hb
    go_wp2
    go_ret
    exact ⟨ret_bool (by rw [okWk, HT.out]; rfl), B.out⟩
  · have ht' : twoV W H xs a b = false := by simpa using ht
    go_enter Try.func47, Try.ntmps47
    go_wp2_with fail
    refine (boTwoV_any _ _ _ _ _ _ _ _ _ ((ha.alloc _).alloc _)).mono ?_
    rw [ht']
    rintro e wv ⟨rfl, hb⟩
    have hbx0 := below_box hb
    have a0 : wv.cell? ⟨w.heap.size, 0, none⟩ = some (.int .i64 W) := by simpa using newbox hbx0 0
    have a1 : wv.cell? ⟨w.heap.size, 1, none⟩ = some (.int .i64 H) := by simpa using newbox hbx0 1
    have a2 : wv.cell? ⟨w.heap.size, 2, none⟩ = some (.slice A n c) := by simpa using newbox hbx0 2
    have al : w.heap.size < wv.heap.size := by simpa using newbox_lt hbx0
    have l0 : wv.cell? ⟨w.heap.size + 1, 0, none⟩ = some (.int .i64 a) := by simpa using newbox hb 0
    have l1 : wv.cell? ⟨w.heap.size + 1, 1, none⟩ = some (.int .i64 b) := by simpa using newbox hb 1
    have ll : w.heap.size + 1 < wv.heap.size := by simpa using newbox_lt hb
    have B := Lib.hid (below_box hbx0)
    clear hb hbx0
    go_wp2
    go_ret
    exact ⟨ret_bool (by rw [okWk, ht']; rfl), B.out⟩

end Go.Proofs.Ytabfhkcjaddaaab
