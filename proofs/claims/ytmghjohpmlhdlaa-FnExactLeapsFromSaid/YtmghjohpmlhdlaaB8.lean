/-
  Contracts: MirrorCell; TurnCell and MirrorCell in the model.
-/
import Derived.Test.YtmghjohpmlhdlaaB7
namespace Go.Proofs.Ytmghjohpmlhdlaa
open Go.RowKit

theorem div7 {W H c : Int} (hW : 1 ≤ W ∧ W ≤ 8) (hH : 1 ≤ H ∧ H ≤ 8) (hc : 0 ≤ c ∧ c < W * H) : 0 ≤ c / W ∧ c / W ≤ 7 := by
  have := div_bd hW hc; omega


set_option maxHeartbeats 1000000 in
theorem impl_MirrorCell (W H : Int) (A : Option Addr) (n c : Nat) (xs : List Int) (q : Int) (w : World) (ha : Rd w A n xs) :
    Calls Try.prog 32 #[brd W H A n c, .int .i64 q] w fun e w' => e = .returned (.tuple #[.int .i64 (mirrorCellV W H xs q), .bool (hasV W H xs q)]) ∧ Below w.heap.size w w' := by
  by_cases hv : hasV W H xs q = true
  · obtain ⟨hg, hW, hH, hq, hN, hh⟩ := hasV_facts hv
    have hm := mod_bd (c := q) hW
    have hd := div_bd hW hq
    have hp : q / W * W = q - q % W ∧ 0 ≤ q / W * W := ⟨by have := Int.emod_def q W; rw [Int.mul_comm]; omega, Int.mul_nonneg hd.1 (by omega)⟩
    go_enter Try.func32, Try.ntmps32
    go_wp2_with fail
    refine (isOnBoard_any _ _ _ _ _ _ _ _ (ha.alloc _)).mono ?_
    rw [hv]
    rintro e wv ⟨rfl, hb1⟩
    have hb0 := newbox hb1 0; have hb2 := newbox hb1 1; have hb3 := newbox hb1 2; have hlt := newbox_lt hb1
    simp only [List.getElem?_toArray, List.getElem?_cons_zero, List.getElem?_cons_succ] at hb0 hb2 hb3
    have B := Lib.hid (below_box hb1)
    have HH := Lib.hid (And.intro hW (And.intro hH (And.intro hq (And.intro hm (And.intro hd (And.intro hp hN))))))
    clear hb1 hg hW hH hq hm hd hp hN
    go_wp2_with fail
    go_region_held3 (fun w' => w'.cell? ⟨w.heap.size, 0, none⟩ = some (.int .i64 W) ∧ w'.cell? ⟨w.heap.size, 1, none⟩ = some (.int .i64 H) ∧ w'.cell? ⟨w.heap.size, 2, none⟩ = some (.slice A n c)) (first | exact ⟨hb0, hb2, hb3⟩)
      (first
        | (go_at_call 61; refine (spotOf_any _ _ _ _ _ _ _ (by exact HH.out.1) (by have := HH.out; omega)).mono ?_; rintro e wv ⟨rfl, hb⟩; (try replace hb := below_undrew hb); replace hb0 := cell_keep hb0 hlt hb; replace hb2 := cell_keep hb2 hlt hb; replace hb3 := cell_keep hb3 hlt hb; replace hlt := lt_keep hlt hb; replace B := Lib.hid (below_next B.out hb); clear hb)
        | (go_at_call 74; refine (mirrored_any _ _ _ _ _ _ _ _ (by exact HH.out.1) (by have := HH.out; omega)).mono ?_; rintro e wv ⟨rfl, hb⟩; (try replace hb := below_undrew hb); replace hb0 := cell_keep hb0 hlt hb; replace hb2 := cell_keep hb2 hlt hb; replace hb3 := cell_keep hb3 hlt hb; replace hlt := lt_keep hlt hb; replace B := Lib.hid (below_next B.out hb); clear hb)
        | (go_at_call 72; refine (number_any _ _ _ _ (by have := HH.out; omega) (by have := HH.out; omega)).mono ?_; rintro e wv ⟨rfl, hb⟩; (try replace hb := below_undrew hb); replace hb0 := cell_keep hb0 hlt hb; replace hb2 := cell_keep hb2 hlt hb; replace hb3 := cell_keep hb3 hlt hb; replace hlt := lt_keep hlt hb; replace B := Lib.hid (below_next B.out hb); clear hb))
    go_wp2
    go_ret2
    exact ⟨by rw [hv, mirrorCellV, if_pos hv, show mirrorV W q = q / W * W + (W - 1 - q % W) by have := HH.out.2.2.2.2.2.1; unfold mirrorV; omega]; rfl, B.out⟩
  · have hv' : hasV W H xs q = false := by simpa using hv
    go_enter Try.func32, Try.ntmps32
    go_wp2_with fail
    refine (isOnBoard_any _ _ _ _ _ _ _ _ (ha.alloc _)).mono ?_
    rw [hv']
    rintro e wv ⟨rfl, hb1⟩
    have B := Lib.hid (below_box hb1)
    clear hb1
    go_wp2
    go_ret2
    exact ⟨by rw [hv', mirrorCellV, if_neg hv]; rfl, B.out⟩

set_option maxHeartbeats 1000000 in
theorem spec_TurnCell (W H : Int) (A : Option Addr) (n c : Nat) (xs : List Int) (q : Int) (w : World) (ha : Rd w A n xs) :
    Calls Try.prog 29 #[brd W H A n c, .int .i64 q] w fun e w' => e = .returned (.tuple #[.int .i64 (turnCellV W H xs q), .bool (hasV W H xs q)]) ∧ Below w.heap.size w w' := by
  by_cases hg : goodB W H xs = true
  · obtain ⟨hW, hH, _, _⟩ := goodB_iff.1 hg
    have hN := cells_le hW hH
    by_cases hh : hasB W H xs q = true
    · have hv : hasV W H xs q = true := by rw [hasV, hg, hh]; rfl
      have HH := Lib.hid (hasV_facts hv)
      have HN := Lib.hid hN
      rw [hv]
      clear hW hH hN
      go_enter Try.func29, Try.ntmps29
      go_wp2_with fail
      refine (boGood_any _ _ _ _ _ _ _ (ha.alloc _)).mono ?_
      rw [hg]
      rintro e wv ⟨rfl, hb1⟩
      have hb0 := newbox hb1 0; have hb2 := newbox hb1 1; have hb3 := newbox hb1 2; have hlt := newbox_lt hb1
      simp only [List.getElem?_toArray, List.getElem?_cons_zero, List.getElem?_cons_succ] at hb0 hb2 hb3
      have B := Lib.hid (below_box hb1)
      clear hb1
      go_wp2_with fail
      refine (boHas_any _ _ _ _ _ _ _ _ (ha.keep B.out) HN.out).mono ?_
      rw [hh]
      rintro e wv ⟨rfl, hb⟩
      replace hb0 := cell_keep hb0 hlt hb; replace hb2 := cell_keep hb2 hlt hb; replace hb3 := cell_keep hb3 hlt hb; replace hlt := lt_keep hlt hb; replace B := Lib.hid (below_next B.out hb)
      clear hb
      go_wp2_with fail
      refine (boTurn_any _ _ _ _ _ _ _ HH.out.2.1 HH.out.2.2.1 HH.out.2.2.2.1).mono ?_
      rintro e wv ⟨rfl, hb⟩
      replace B := Lib.hid (below_next B.out hb)
      clear hb
      go_wp2
      go_ret2
      exact ⟨by rw [turnCellV, if_pos hv]; rfl, B.out⟩
    · have hh' : hasB W H xs q = false := by simpa using hh
      have hv : hasV W H xs q = false := by rw [hasV, hh']; simp
      have HN := Lib.hid hN
      rw [hv, show turnCellV W H xs q = 0 by rw [turnCellV, hv]; rfl]
      clear hW hH hN
      go_enter Try.func29, Try.ntmps29
      go_wp2_with fail
      refine (boGood_any _ _ _ _ _ _ _ (ha.alloc _)).mono ?_
      rw [hg]
      rintro e wv ⟨rfl, hb1⟩
      have hb0 := newbox hb1 0; have hb2 := newbox hb1 1; have hb3 := newbox hb1 2; have hlt := newbox_lt hb1
      simp only [List.getElem?_toArray, List.getElem?_cons_zero, List.getElem?_cons_succ] at hb0 hb2 hb3
      have B := Lib.hid (below_box hb1)
      clear hb1
      go_wp2_with fail
      refine (boHas_any _ _ _ _ _ _ _ _ (ha.keep B.out) HN.out).mono ?_
      rw [hh']
      rintro e wv ⟨rfl, hb⟩
      replace B := Lib.hid (below_next B.out hb)
      clear hb
      go_wp2
      go_ret2
      exact ⟨rfl, B.out⟩
  · have hg' : goodB W H xs = false := by simpa using hg
    have hv : hasV W H xs q = false := by rw [hasV, hg']; rfl
    rw [hv, show turnCellV W H xs q = 0 by rw [turnCellV, hv]; rfl]
    go_enter Try.func29, Try.ntmps29
    go_wp2_with fail
    refine (boGood_any _ _ _ _ _ _ _ (ha.alloc _)).mono ?_
    rw [hg']
    rintro e wv ⟨rfl, hb1⟩
    have B := Lib.hid (below_box hb1)
    clear hb1
    go_wp2
    go_ret2
    exact ⟨rfl, B.out⟩

set_option maxHeartbeats 1000000 in
theorem spec_MirrorCell (W H : Int) (A : Option Addr) (n c : Nat) (xs : List Int) (q : Int) (w : World) (ha : Rd w A n xs) :
    Calls Try.prog 31 #[brd W H A n c, .int .i64 q] w fun e w' => e = .returned (.tuple #[.int .i64 (mirrorCellV W H xs q), .bool (hasV W H xs q)]) ∧ Below w.heap.size w w' := by
  by_cases hg : goodB W H xs = true
  · obtain ⟨hW, hH, _, _⟩ := goodB_iff.1 hg
    have hN := cells_le hW hH
    by_cases hh : hasB W H xs q = true
    · have hv : hasV W H xs q = true := by rw [hasV, hg, hh]; rfl
      have HH := Lib.hid (hasV_facts hv)
      have HN := Lib.hid hN
      rw [hv]
      clear hW hH hN
      go_enter Try.func31, Try.ntmps31
      go_wp2_with fail
      refine (boGood_any _ _ _ _ _ _ _ (ha.alloc _)).mono ?_
      rw [hg]
      rintro e wv ⟨rfl, hb1⟩
      have hb0 := newbox hb1 0; have hb2 := newbox hb1 1; have hb3 := newbox hb1 2; have hlt := newbox_lt hb1
      simp only [List.getElem?_toArray, List.getElem?_cons_zero, List.getElem?_cons_succ] at hb0 hb2 hb3
      have B := Lib.hid (below_box hb1)
      clear hb1
      go_wp2_with fail
      refine (boHas_any _ _ _ _ _ _ _ _ (ha.keep B.out) HN.out).mono ?_
      rw [hh]
      rintro e wv ⟨rfl, hb⟩
      replace hb0 := cell_keep hb0 hlt hb; replace hb2 := cell_keep hb2 hlt hb; replace hb3 := cell_keep hb3 hlt hb; replace hlt := lt_keep hlt hb; replace B := Lib.hid (below_next B.out hb)
      clear hb
      go_wp2_with fail
      refine (boMirror_any _ _ _ _ _ _ _ HH.out.2.1 (by have := HH.out; omega)).mono ?_
      rintro e wv ⟨rfl, hb⟩
      replace B := Lib.hid (below_next B.out hb)
      clear hb
      go_wp2
      go_ret2
      exact ⟨by rw [mirrorCellV, if_pos hv]; rfl, B.out⟩
    · have hh' : hasB W H xs q = false := by simpa using hh
      have hv : hasV W H xs q = false := by rw [hasV, hh']; simp
      have HN := Lib.hid hN
      rw [hv, show mirrorCellV W H xs q = 0 by rw [mirrorCellV, hv]; rfl]
      clear hW hH hN
      go_enter Try.func31, Try.ntmps31
      go_wp2_with fail
      refine (boGood_any _ _ _ _ _ _ _ (ha.alloc _)).mono ?_
      rw [hg]
      rintro e wv ⟨rfl, hb1⟩
      have hb0 := newbox hb1 0; have hb2 := newbox hb1 1; have hb3 := newbox hb1 2; have hlt := newbox_lt hb1
      simp only [List.getElem?_toArray, List.getElem?_cons_zero, List.getElem?_cons_succ] at hb0 hb2 hb3
      have B := Lib.hid (below_box hb1)
      clear hb1
      go_wp2_with fail
      refine (boHas_any _ _ _ _ _ _ _ _ (ha.keep B.out) HN.out).mono ?_
      rw [hh']
      rintro e wv ⟨rfl, hb⟩
      replace B := Lib.hid (below_next B.out hb)
      clear hb
      go_wp2
      go_ret2
      exact ⟨rfl, B.out⟩
  · have hg' : goodB W H xs = false := by simpa using hg
    have hv : hasV W H xs q = false := by rw [hasV, hg']; rfl
    rw [hv, show mirrorCellV W H xs q = 0 by rw [mirrorCellV, hv]; rfl]
    go_enter Try.func31, Try.ntmps31
    go_wp2_with fail
    refine (boGood_any _ _ _ _ _ _ _ (ha.alloc _)).mono ?_
    rw [hg']
    rintro e wv ⟨rfl, hb1⟩
    have B := Lib.hid (below_box hb1)
    clear hb1
    go_wp2
    go_ret2
    exact ⟨rfl, B.out⟩

end Go.Proofs.Ytmghjohpmlhdlaa
