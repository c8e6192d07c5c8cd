/-
  Contracts: NameOf.
-/
import Derived.Test.YtmghjohpmlhdlaaB12
namespace Go.Proofs.Ytmghjohpmlhdlaa
open Go.RowKit

def nameV (W H : Int) (xs : List Int) (q : Int) : ByteArray := if hasV W H xs q then nameS (q % W) (q / W) else ByteArray.empty
set_option maxHeartbeats 1000000 in
theorem spec_NameOf (W H : Int) (A : Option Addr) (n c : Nat) (xs : List Int) (q : Int) (w : World) (ha : Rd w A n xs) :
    Calls Try.prog 18 #[brd W H A n c, .int .i64 q] w fun e w' => e = .returned (.tuple #[.string (nameV W H xs q), .bool (hasV W H xs q)]) ∧ Below w.heap.size w w' := by
  by_cases hg : goodB W H xs = true
  · obtain ⟨hW, hH, _, _⟩ := goodB_iff.1 hg
    have hN := cells_le hW hH
    by_cases hh : hasB W H xs q = true
    · have hv : hasV W H xs q = true := by rw [hasV, hg, hh]; rfl
      have HH := Lib.hid (hasV_facts hv)
      have HN := Lib.hid hN
      rw [hv]
      clear hW hH hN
      go_enter Try.func18, Try.ntmps18
      go_wp2_with fail
      refine (boGood_any _ _ _ _ _ _ _ (ha.alloc _)).mono ?_
      rw [hg]
      rintro e wv ⟨rfl, hb1⟩
      have hb0 := newbox hb1 0; have hb2 := newbox hb1 1; have hb3 := newbox hb1 2; have hlt := newbox_lt hb1
      simp only [List.getElem?_toArray, List.getElem?_cons_zero, List.getElem?_cons_succ] at hb0 hb2 hb3
      have B := Lib.hid (below_box hb1)
      clear hb1
      go_wp2_with fail
      refine (boHas_any _ _ _ _ _ _ _ _ (ha.keep B.out) HN.out).mono ?_
      rw [hh]
      rintro e wv ⟨rfl, hb⟩
      replace hb0 := cell_keep hb0 hlt hb; replace hb2 := cell_keep hb2 hlt hb; replace hb3 := cell_keep hb3 hlt hb; replace hlt := lt_keep hlt hb; replace B := Lib.hid (below_next B.out hb)
      clear hb
      go_wp2_with fail
      refine (boName_any _ _ _ _ _ _ _ HH.out.2.1 (by have := HH.out; omega) (div7 HH.out.2.1 HH.out.2.2.1 HH.out.2.2.2.1) (by have := mod_bd (c := q) HH.out.2.1; omega)).mono ?_
      rintro e wv ⟨rfl, hb⟩
      replace B := Lib.hid (below_next B.out hb)
      clear hb
      go_wp2
      go_ret2
      exact ⟨by rw [nameV, if_pos hv]; rfl, B.out⟩
    · have hh' : hasB W H xs q = false := by simpa using hh
      have hv : hasV W H xs q = false := by rw [hasV, hh']; simp
      have HN := Lib.hid hN
      rw [hv, show nameV W H xs q = ByteArray.empty by rw [nameV, hv]; rfl]
      clear hW hH hN
      go_enter Try.func18, Try.ntmps18
      go_wp2_with fail
      refine (boGood_any _ _ _ _ _ _ _ (ha.alloc _)).mono ?_
      rw [hg]
      rintro e wv ⟨rfl, hb1⟩
      have hb0 := newbox hb1 0; have hb2 := newbox hb1 1; have hb3 := newbox hb1 2; have hlt := newbox_lt hb1
      simp only [List.getElem?_toArray, List.getElem?_cons_zero, List.getElem?_cons_succ] at hb0 hb2 hb3
      have B := Lib.hid (below_box hb1)
      clear hb1
      go_wp2_with fail
      refine (boHas_any _ _ _ _ _ _ _ _ (ha.keep B.out) HN.out).mono ?_
      rw [hh']
      rintro e wv ⟨rfl, hb⟩
      replace B := Lib.hid (below_next B.out hb)
      clear hb
      go_wp2
      go_ret2
      exact ⟨rfl, B.out⟩
  · have hg' : goodB W H xs = false := by simpa using hg
    have hv : hasV W H xs q = false := by rw [hasV, hg']; rfl
    rw [hv, show nameV W H xs q = ByteArray.empty by rw [nameV, hv]; rfl]
    go_enter Try.func18, Try.ntmps18
    go_wp2_with fail
    refine (boGood_any _ _ _ _ _ _ _ (ha.alloc _)).mono ?_
    rw [hg']
    rintro e wv ⟨rfl, hb1⟩
    have B := Lib.hid (below_box hb1)
    clear hb1
    go_wp2
    go_ret2
    exact ⟨rfl, B.out⟩

set_option maxHeartbeats 1000000 in
theorem impl_NameOf (W H : Int) (A : Option Addr) (n c : Nat) (xs : List Int) (q : Int) (w : World) (ha : Rd w A n xs) :
    Calls Try.prog 20 #[brd W H A n c, .int .i64 q] w fun e w' => e = .returned (.tuple #[.string (nameV W H xs q), .bool (hasV W H xs q)]) ∧ Below w.heap.size w w' := by
  by_cases hv : hasV W H xs q = true
  · have HH := Lib.hid (hasV_facts hv)
    have hm := Lib.hid (mod_bd (c := q) HH.out.2.1)
    have hd := Lib.hid (div7 HH.out.2.1 HH.out.2.2.1 HH.out.2.2.2.1)
    go_enter Try.func20, Try.ntmps20
    go_wp2_with fail
    refine (isOnBoard_any _ _ _ _ _ _ _ _ (ha.alloc _)).mono ?_
    rw [hv]
    rintro e wv ⟨rfl, hb1⟩
    have hb0 := newbox hb1 0; have hb2 := newbox hb1 1; have hb3 := newbox hb1 2; have hlt := newbox_lt hb1
    simp only [List.getElem?_toArray, List.getElem?_cons_zero, List.getElem?_cons_succ] at hb0 hb2 hb3
    have B := Lib.hid (below_box hb1)
    clear hb1
    go_wp2_with fail
    refine (spotOf_any _ _ _ _ _ _ _ HH.out.2.1 (by have := HH.out; omega)).mono ?_
    rintro e wv ⟨rfl, hb⟩
    replace B := Lib.hid (below_next B.out hb)
    clear hb
    go_wp2_with fail
    refine (nameAt_any _ _ _ (by have := hm.out; omega) (by have := hm.out; omega) (by have := hd.out; omega) (by have := hd.out; omega)).mono ?_
    rintro e wv ⟨rfl, hb⟩
    replace B := Lib.hid (below_next B.out hb)
    clear hb
    go_wp2
    go_ret2
    exact ⟨by rw [hv, nameV, if_pos hv]; rfl, B.out⟩
  · have hv' : hasV W H xs q = false := by simpa using hv
    go_enter Try.func20, Try.ntmps20
    go_wp2_with fail
    refine (isOnBoard_any _ _ _ _ _ _ _ _ (ha.alloc _)).mono ?_
    rw [hv']
    rintro e wv ⟨rfl, hb1⟩
    have B := Lib.hid (below_box hb1)
    clear hb1
    go_wp2
    go_ret2
    exact ⟨by rw [hv', nameV, if_neg hv]; rfl, B.out⟩

end Go.Proofs.Ytmghjohpmlhdlaa
