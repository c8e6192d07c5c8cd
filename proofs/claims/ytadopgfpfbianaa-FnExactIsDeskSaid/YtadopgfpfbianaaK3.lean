/-
  Contracts: tours, open and closed.
-/
import Derived.Test.YtadopgfpfbianaaK2
namespace Go.Proofs.Ytadopgfpfbianaa
open Go.RowKit

theorem walk_path {W H a b : Int} {hs ps : List Int} (h : walkB W H hs a b ps = true) : pathB W H hs a b ps = true := by simp only [walkB, Bool.and_eq_true] at h; exact h.1
theorem tour_walk {W H a b : Int} {hs ps : List Int} (h : tourB W H hs a b ps = true) : walkB W H hs a b ps = true := by simp only [tourB, Bool.and_eq_true] at h; exact h.1

theorem good_N {W H : Int} {xs : List Int} (h : goodB W H xs = true) : 1 ≤ W * H ∧ W * H ≤ 64 := by
  obtain ⟨hW, hH, _, _⟩ := goodB_iff.1 h
  exact cells_le hW hH

set_option maxRecDepth 100000 in
set_option maxHeartbeats 2000000 in
theorem toTour_any (W H : Int) (A : Option Addr) (n c : Nat) (xs : List Int) (a b : Int) (A2 : Option Addr) (m c2 : Nat) (ps : List Int) (w : World) (ha : Rd w A n xs) (hp : Rd w A2 m ps) (hcap : m ≤ c2) (hg : goodB W H xs = true) :
    Calls Try.prog 112 #[brd W H A n c, lpr a b, .slice A2 m c2] w fun e w' => e = .returned (.bool (tourB W H xs a b ps)) ∧ Below w.heap.size w w' := by
  by_cases hT : walkB W H xs a b ps = true
  · go_enter Try.func112, Try.ntmps112
    go_wp2_with fail
    refine (toWalk_any _ _ _ _ _ _ _ _ _ _ _ _ _ ((ha.alloc _).alloc _) ((hp.alloc _).alloc _) hcap hg).mono ?_
    rw [hT]
    rintro e wv ⟨rfl, hb⟩
    have hbx0 := below_box hb
    have a0 : wv.cell? ⟨w.heap.size, 0, none⟩ = some (.int .i64 W) := by simpa using newbox hbx0 0
    have a1 : wv.cell? ⟨w.heap.size, 1, none⟩ = some (.int .i64 H) := by simpa using newbox hbx0 1
    have a2 : wv.cell? ⟨w.heap.size, 2, none⟩ = some (.slice A n c) := by simpa using newbox hbx0 2
    have al : w.heap.size < wv.heap.size := by simpa using newbox_lt hbx0
    have l0 : wv.cell? ⟨w.heap.size + 1, 0, none⟩ = some (.int .i64 a) := by simpa using newbox hb 0
    have l1 : wv.cell? ⟨w.heap.size + 1, 1, none⟩ = some (.int .i64 b) := by simpa using newbox hb 1
    have ll : w.heap.size + 1 < wv.heap.size := by simpa using newbox_lt hb
    have B := Lib.hid (below_box hbx0)
    clear hb hbx0
    have HPL := Lib.hid hp.1
    have m9 := hp.2.1
    have HT := Lib.hid hT
    have HG := Lib.hid hg
    clear hT hg
    go_wp2_with fail
    refine (boCells_any W H A n c xs _ (ha.keep B.out) (good_N HG.out)).mono ?_
    rintro e wv ⟨A', n', c', rfl, own, hb⟩
    have HLN := Lib.hid own.len
    have SPN := Lib.hid own.rd.2.1
    replace B := Lib.hid (below_next B.out hb)
    clear own hb a0 a1 a2 l0 l1 al ll
    have hn9 := SPN.out
    by_cases hq : m = n'
    · have hqe : ((m : Int) == (n' : Int)) = true := by simp; omega
      have HQ := Lib.hid hq
      clear hq
      go_wp2
      go_ret
      exact ⟨ret_bool (by rw [tourB, HT.out, Bool.true_and]; symm; refine decide_eq_true ?_; rw [HPL.out, HLN.out]; exact HQ.out), B.out⟩
    · have hqe : ((m : Int) == (n' : Int)) = false := by simp; omega
      have HQ := Lib.hid hq
      clear hq
      go_wp2
      go_ret
      exact ⟨ret_bool (by rw [tourB, HT.out, Bool.true_and]; symm; refine decide_eq_false ?_; rw [HPL.out, HLN.out]; exact HQ.out), B.out⟩
  · have hT' : walkB W H xs a b ps = false := by simpa using hT
    go_enter Try.func112, Try.ntmps112
    go_wp2_with fail
    refine (toWalk_any _ _ _ _ _ _ _ _ _ _ _ _ _ ((ha.alloc _).alloc _) ((hp.alloc _).alloc _) hcap hg).mono ?_
    rw [hT']
    rintro e wv ⟨rfl, hb⟩
    have hbx0 := below_box hb
    have a0 : wv.cell? ⟨w.heap.size, 0, none⟩ = some (.int .i64 W) := by simpa using newbox hbx0 0
    have a1 : wv.cell? ⟨w.heap.size, 1, none⟩ = some (.int .i64 H) := by simpa using newbox hbx0 1
    have a2 : wv.cell? ⟨w.heap.size, 2, none⟩ = some (.slice A n c) := by simpa using newbox hbx0 2
    have al : w.heap.size < wv.heap.size := by simpa using newbox_lt hbx0
    have l0 : wv.cell? ⟨w.heap.size + 1, 0, none⟩ = some (.int .i64 a) := by simpa using newbox hb 0
    have l1 : wv.cell? ⟨w.heap.size + 1, 1, none⟩ = some (.int .i64 b) := by simpa using newbox hb 1
    have ll : w.heap.size + 1 < wv.heap.size := by simpa using newbox_lt hb
    have B := Lib.hid (below_box hbx0)
    clear hb hbx0
    go_wp2
    go_ret
    exact ⟨ret_bool (by rw [tourB, hT', Bool.false_and]), B.out⟩

set_option maxRecDepth 100000 in
set_option maxHeartbeats 2000000 in
theorem isTour_any (W H : Int) (A : Option Addr) (n c : Nat) (xs : List Int) (a b : Int) (A2 : Option Addr) (m c2 : Nat) (ps : List Int) (w : World) (ha : Rd w A n xs) (hp : Rd w A2 m ps) (hg : goodB W H xs = true) :
    Calls Try.prog 114 #[brd W H A n c, lpr a b, .slice A2 m c2] w fun e w' => e = .returned (.bool (tourB W H xs a b ps)) ∧ Below w.heap.size w w' := by
  by_cases hT : walkB W H xs a b ps = true
  · go_enter Try.func114, Try.ntmps114
    go_wp2_with fail
    refine (isWalk_any _ _ _ _ _ _ _ _ _ _ _ _ _ ((ha.alloc _).alloc _) ((hp.alloc _).alloc _) hg).mono ?_
    rw [hT]
    rintro e wv ⟨rfl, hb⟩
    have hbx0 := below_box hb
    have a0 : wv.cell? ⟨w.heap.size, 0, none⟩ = some (.int .i64 W) := by simpa using newbox hbx0 0
    have a1 : wv.cell? ⟨w.heap.size, 1, none⟩ = some (.int .i64 H) := by simpa using newbox hbx0 1
    have a2 : wv.cell? ⟨w.heap.size, 2, none⟩ = some (.slice A n c) := by simpa using newbox hbx0 2
    have al : w.heap.size < wv.heap.size := by simpa using newbox_lt hbx0
    have l0 : wv.cell? ⟨w.heap.size + 1, 0, none⟩ = some (.int .i64 a) := by simpa using newbox hb 0
    have l1 : wv.cell? ⟨w.heap.size + 1, 1, none⟩ = some (.int .i64 b) := by simpa using newbox hb 1
    have ll : w.heap.size + 1 < wv.heap.size := by simpa using newbox_lt hb
    have B := Lib.hid (below_box hbx0)
    clear hb hbx0
    have HPL := Lib.hid hp.1
    have m9 := hp.2.1
    have HT := Lib.hid hT
    have HG := Lib.hid hg
    clear hT hg
    go_wp2_with fail
    refine (cellsThere_any W H A n c xs _ (ha.keep B.out) HG.out).mono ?_
    rintro e wv ⟨A', n', c', rfl, own, hb⟩
    have HLN := Lib.hid own.len
    have SPN := Lib.hid own.rd.2.1
    replace B := Lib.hid (below_next B.out hb)
    clear own hb a0 a1 a2 l0 l1 al ll
    have hn9 := SPN.out
    by_cases hq : m = n'
    · have hqe : ((m : Int) == (n' : Int)) = true := by simp; omega
      have HQ := Lib.hid hq
      clear hq
      go_wp2
      go_ret
      exact ⟨ret_bool (by rw [tourB, HT.out, Bool.true_and]; symm; refine decide_eq_true ?_; rw [HPL.out, HLN.out]; exact HQ.out), B.out⟩
    · have hqe : ((m : Int) == (n' : Int)) = false := by simp; omega
      have HQ := Lib.hid hq
      clear hq
      go_wp2
      go_ret
      exact ⟨ret_bool (by rw [tourB, HT.out, Bool.true_and]; symm; refine decide_eq_false ?_; rw [HPL.out, HLN.out]; exact HQ.out), B.out⟩
  · have hT' : walkB W H xs a b ps = false := by simpa using hT
    go_enter Try.func114, Try.ntmps114
    go_wp2_with fail
    refine (isWalk_any _ _ _ _ _ _ _ _ _ _ _ _ _ ((ha.alloc _).alloc _) ((hp.alloc _).alloc _) hg).mono ?_
    rw [hT']
    rintro e wv ⟨rfl, hb⟩
    have hbx0 := below_box hb
    have a0 : wv.cell? ⟨w.heap.size, 0, none⟩ = some (.int .i64 W) := by simpa using newbox hbx0 0
    have a1 : wv.cell? ⟨w.heap.size, 1, none⟩ = some (.int .i64 H) := by simpa using newbox hbx0 1
    have a2 : wv.cell? ⟨w.heap.size, 2, none⟩ = some (.slice A n c) := by simpa using newbox hbx0 2
    have al : w.heap.size < wv.heap.size := by simpa using newbox_lt hbx0
    have l0 : wv.cell? ⟨w.heap.size + 1, 0, none⟩ = some (.int .i64 a) := by simpa using newbox hb 0
    have l1 : wv.cell? ⟨w.heap.size + 1, 1, none⟩ = some (.int .i64 b) := by simpa using newbox hb 1
    have ll : w.heap.size + 1 < wv.heap.size := by simpa using newbox_lt hb
    have B := Lib.hid (below_box hbx0)
    clear hb hbx0
    go_wp2
    go_ret
    exact ⟨ret_bool (by rw [tourB, hT', Bool.false_and]), B.out⟩

end Go.Proofs.Ytadopgfpfbianaa
