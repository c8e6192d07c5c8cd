/-
  IsSet: what the law compares.
-/
import Derived.Test.YtjplcnbifcpebaaD1
namespace Go.Proofs.Ytjplcnbifcpebaa
open Go.RowKit

set_option maxRecDepth 100000 in
theorem impl_IsSet (W H : Int) (A : Option Addr) (n c : Nat) (xs : List Int) (A2 : Option Addr) (m c2 : Nat) (ps : List Int) (w : World) (ha : Rd w A n xs) (hp : Rd w A2 m ps) :
    Calls Try.prog 8 #[brd W H A n c, .slice A2 m c2] w fun e w' => e = .returned (.bool (goodB W H xs && setB W H xs ps)) ∧ Below w.heap.size w w' := by
  cases hg : goodB W H xs with
  | true =>
    go_enter Try.func8, Try.ntmps8
    go_wp2_with fail
    refine (isBoard_any _ _ _ _ _ _ _ (ha.alloc _)).mono ?_
    rw [hg]
    rintro e wv ⟨rfl, hb⟩
    have a0 : wv.cell? ⟨w.heap.size, 0, none⟩ = some (.int .i64 W) := by simpa using newbox hb 0
    have a1 : wv.cell? ⟨w.heap.size, 1, none⟩ = some (.int .i64 H) := by simpa using newbox hb 1
    have a2 : wv.cell? ⟨w.heap.size, 2, none⟩ = some (.slice A n c) := by simpa using newbox hb 2
    have al : w.heap.size < wv.heap.size := by simpa using newbox_lt hb
    have B := Lib.hid (below_box hb)
    have HG := Lib.hid hg
    clear hb hg
    go_wp2_with fail
    refine (isSet_any _ _ _ _ _ _ _ _ _ _ _ (ha.keep B.out) (hp.keep B.out) HG.out).mono ?_
    rintro e wv ⟨rfl, hb⟩
    replace B := Lib.hid (below_next B.out hb)
    clear hb
    go_wp2
    go_ret
    exact ⟨by rw [Bool.true_and]; rfl, B.out⟩
  | false =>
    go_enter Try.func8, Try.ntmps8
    go_wp2_with fail
    refine (isBoard_any _ _ _ _ _ _ _ (ha.alloc _)).mono ?_
    rw [hg]
    rintro e wv ⟨rfl, hb⟩
    have B := Lib.hid (below_box hb)
    clear hb
    go_wp2
    go_ret
    exact ⟨rfl, B.out⟩

set_option maxRecDepth 100000 in
theorem spec_IsSet (W H : Int) (A : Option Addr) (n c : Nat) (xs : List Int) (A2 : Option Addr) (m c2 : Nat) (ps : List Int) (w : World) (ha : Rd w A n xs) (hp : Rd w A2 m ps) :
    Calls Try.prog 5 #[brd W H A n c, .slice A2 m c2] w fun e w' => e = .returned (.bool (goodB W H xs && setB W H xs ps)) ∧ Below w.heap.size w w' := by
  cases hg : goodB W H xs with
  | true =>
    go_enter Try.func5, Try.ntmps5
    go_wp2_with fail
    refine (boGood_any _ _ _ _ _ _ _ (ha.alloc _)).mono ?_
    rw [hg]
    rintro e wv ⟨rfl, hb⟩
    have a0 : wv.cell? ⟨w.heap.size, 0, none⟩ = some (.int .i64 W) := by simpa using newbox hb 0
    have a1 : wv.cell? ⟨w.heap.size, 1, none⟩ = some (.int .i64 H) := by simpa using newbox hb 1
    have a2 : wv.cell? ⟨w.heap.size, 2, none⟩ = some (.slice A n c) := by simpa using newbox hb 2
    have al : w.heap.size < wv.heap.size := by simpa using newbox_lt hb
    have B := Lib.hid (below_box hb)
    have HG := Lib.hid hg
    clear hb hg
    go_wp2_with fail
    refine (guSet_any _ _ _ _ _ _ _ _ _ _ _ (ha.keep B.out) (hp.keep B.out) HG.out).mono ?_
    rintro e wv ⟨rfl, hb⟩
    replace B := Lib.hid (below_next B.out hb)
    clear hb
    go_wp2
    go_ret
    exact ⟨by rw [Bool.true_and]; rfl, B.out⟩
  | false =>
    go_enter Try.func5, Try.ntmps5
    go_wp2_with fail
    refine (boGood_any _ _ _ _ _ _ _ (ha.alloc _)).mono ?_
    rw [hg]
    rintro e wv ⟨rfl, hb⟩
    have B := Lib.hid (below_box hb)
    clear hb
    go_wp2
    go_ret
    exact ⟨rfl, B.out⟩
end Go.Proofs.Ytjplcnbifcpebaa
