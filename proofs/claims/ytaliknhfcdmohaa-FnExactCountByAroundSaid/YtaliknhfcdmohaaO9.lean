/-
  Contracts: LeapsAround, in the model and in the program.
-/
import Derived.Test.YtaliknhfcdmohaaO7
import Derived.Test.YtaliknhfcdmohaaO8
namespace Go.Proofs.Ytaliknhfcdmohaa
open Go.RowKit

def twoA (W H a b : Int) : Bool := leaperB a b && goodA W H
def okLA (W H a b q : Int) : Bool := leaperB a b && cellA W H q
def leapsAV (W H : Int) (ac up : Bool) (a b q : Int) : List Int := if okLA W H a b q then leapsA W H ac up a b q else []
theorem okLA_iff {W H a b q : Int} : okLA W H a b q = true ↔ leaperB a b = true ∧ goodA W H = true ∧ 0 ≤ q ∧ q < W * H := by rw [okLA, Bool.and_eq_true, cellA_iff]
theorem twoA_iff {W H a b : Int} : twoA W H a b = true ↔ leaperB a b = true ∧ goodA W H = true := by rw [twoA, Bool.and_eq_true]
theorem leapsAV_no {W H a b q : Int} {ac up : Bool} (h : okLA W H a b q = false) : leapsAV W H ac up a b q = [] := by rw [leapsAV, h]; rfl
theorem len_LeapsAround (W H : Int) (ac up : Bool) (a b q : Int) : (leapsAV W H ac up a b q).length ≤ 1000000 := by
  unfold leapsAV; split
  · rename_i h; have := leapsA_len (W := W) (H := H) (q := q) (ac := ac) (up := up) (okLA_iff.1 h).1; omega
  · simp

set_option maxRecDepth 100000 in
set_option maxHeartbeats 1000000 in
theorem arTwo_any (W H : Int) (ac up : Bool) (a b : Int) (w : World) :
    Calls Try.prog 60 #[ard W H ac up, lpr a b] w fun e w' => e = .returned (.bool (twoA W H a b)) ∧ Below w.heap.size w w' := by
  obtain ⟨W2, hW2⟩ : ∃ W2, W2 = (w.alloc (.cells #[.int .i64 W, .int .i64 H, .bool ac, .bool up] 25)).alloc (.cells #[.int .i64 a, .int .i64 b] 36) := ⟨_, rfl⟩
  have hsz : W2.heap.size = w.heap.size + 2 := by rw [hW2]; simp
  have a0 : W2.cell? ⟨w.heap.size, 0, none⟩ = some (.int .i64 W) := by rw [hW2]; go_simp
  have a1 : W2.cell? ⟨w.heap.size, 1, none⟩ = some (.int .i64 H) := by rw [hW2]; go_simp
  have a2 : W2.cell? ⟨w.heap.size, 2, none⟩ = some (.bool ac) := by rw [hW2]; go_simp
  have a3 : W2.cell? ⟨w.heap.size, 3, none⟩ = some (.bool up) := by rw [hW2]; go_simp
  have al : w.heap.size < W2.heap.size := by omega
  have l0 : W2.cell? ⟨w.heap.size + 1, 0, none⟩ = some (.int .i64 a) := by rw [hW2]; go_simp
  have l1 : W2.cell? ⟨w.heap.size + 1, 1, none⟩ = some (.int .i64 b) := by rw [hW2]; go_simp
  have ll : w.heap.size + 1 < W2.heap.size := by omega
  have B := Lib.hid (show Below w.heap.size w W2 by rw [hW2]; repeat (first | exact Below.refl _ _ | refine below_new ?_ _))
  cases hg : goodA W H
  · go_enter Try.func60, Try.ntmps60
    go_wp2_with fail
    rw [← hW2]
    clear hW2
    refine (arGood_any _ _ _ _ _).mono ?_
    rw [hg]
    rintro e wv ⟨rfl, hb⟩
    replace a0 := cell_keep a0 al hb
    replace a1 := cell_keep a1 al hb
    replace a2 := cell_keep a2 al hb
    replace a3 := cell_keep a3 al hb
    replace al := lt_keep al hb
    replace l0 := cell_keep l0 ll hb
    replace l1 := cell_keep l1 ll hb
    replace ll := lt_keep ll hb
    replace B := Lib.hid (below_next B.out hb)
    clear hb
    clear a0 a1 a2 a3 l0 l1 al ll
    go_wp2
    go_ret
    exact ⟨ret_bool (by rw [twoA, hg]; simp), B.out⟩
  · go_enter Try.func60, Try.ntmps60
    go_wp2_with fail
    rw [← hW2]
    clear hW2
    refine (arGood_any _ _ _ _ _).mono ?_
    rw [hg]
    rintro e wv ⟨rfl, hb⟩
    replace a0 := cell_keep a0 al hb
    replace a1 := cell_keep a1 al hb
    replace a2 := cell_keep a2 al hb
    replace a3 := cell_keep a3 al hb
    replace al := lt_keep al hb
    replace l0 := cell_keep l0 ll hb
    replace l1 := cell_keep l1 ll hb
    replace ll := lt_keep ll hb
    replace B := Lib.hid (below_next B.out hb)
    clear hb
    go_wp2_with fail
    refine (boLeaper_any _ _ _).mono ?_
    rintro e w9 ⟨rfl, hb⟩
    replace B := Lib.hid (below_next B.out hb)
    clear hb
    clear a0 a1 a2 a3 l0 l1 al ll
    go_wp2
    go_ret
    exact ⟨ret_bool (by rw [twoA, hg]; simp), B.out⟩

set_option maxRecDepth 100000 in
set_option maxHeartbeats 1000000 in
theorem spec_LeapsAround (W H : Int) (ac up : Bool) (a b q : Int) (w : World) :
    Calls Try.prog 22 #[ard W H ac up, lpr a b, .int .i64 q] w fun e w' => ∃ A' n' c', e = .returned (.tuple #[.slice A' n' c', .bool (okLA W H a b q)]) ∧ OwnI 3 w' w.heap.size A' n' c' (leapsAV W H ac up a b q) ∧ Below w.heap.size w w' := by
  obtain ⟨W2, hW2⟩ : ∃ W2, W2 = (w.alloc (.cells #[.int .i64 W, .int .i64 H, .bool ac, .bool up] 25)).alloc (.cells #[.int .i64 a, .int .i64 b] 36) := ⟨_, rfl⟩
  have hsz : W2.heap.size = w.heap.size + 2 := by rw [hW2]; simp
  have a0 : W2.cell? ⟨w.heap.size, 0, none⟩ = some (.int .i64 W) := by rw [hW2]; go_simp
  have a1 : W2.cell? ⟨w.heap.size, 1, none⟩ = some (.int .i64 H) := by rw [hW2]; go_simp
  have a2 : W2.cell? ⟨w.heap.size, 2, none⟩ = some (.bool ac) := by rw [hW2]; go_simp
  have a3 : W2.cell? ⟨w.heap.size, 3, none⟩ = some (.bool up) := by rw [hW2]; go_simp
  have al : w.heap.size < W2.heap.size := by omega
  have l0 : W2.cell? ⟨w.heap.size + 1, 0, none⟩ = some (.int .i64 a) := by rw [hW2]; go_simp
  have l1 : W2.cell? ⟨w.heap.size + 1, 1, none⟩ = some (.int .i64 b) := by rw [hW2]; go_simp
  have ll : w.heap.size + 1 < W2.heap.size := by omega
  have B := Lib.hid (show Below w.heap.size w W2 by rw [hW2]; repeat (first | exact Below.refl _ _ | refine below_new ?_ _))
  cases ht : twoA W H a b
  · have OK := Lib.hid (show okLA W H a b q = false by rw [Bool.eq_false_iff]; intro h; rw [okLA_iff] at h; rw [twoA_iff.2 ⟨h.1, h.2.1⟩] at ht; cases ht)
    go_enter Try.func22, Try.ntmps22
    go_wp2_with fail
    rw [← hW2]
    clear hW2
    refine (arTwo_any _ _ _ _ _ _ _).mono ?_
    rw [ht]
    rintro e wv ⟨rfl, hb⟩
    replace a0 := cell_keep a0 al hb
    replace a1 := cell_keep a1 al hb
    replace a2 := cell_keep a2 al hb
    replace a3 := cell_keep a3 al hb
    replace al := lt_keep al hb
    replace l0 := cell_keep l0 ll hb
    replace l1 := cell_keep l1 ll hb
    replace ll := lt_keep ll hb
    replace B := Lib.hid (below_next B.out hb)
    clear hb
    clear a0 a1 a2 a3 l0 l1 al ll
    go_wp2
    go_ret2
    exact ⟨none, 0, 0, by first | (rw [OK.out]; rfl) | rfl, by rw [leapsAV_no OK.out]; exact OwnI.none_ _ _ _, B.out⟩
  cases hq : cellA W H q
  · have OK := Lib.hid (show okLA W H a b q = false by rw [okLA, hq, Bool.and_false])
    go_enter Try.func22, Try.ntmps22
    go_wp2_with fail
    rw [← hW2]
    clear hW2
    refine (arTwo_any _ _ _ _ _ _ _).mono ?_
    rw [ht]
    rintro e wv ⟨rfl, hb⟩
    replace a0 := cell_keep a0 al hb
    replace a1 := cell_keep a1 al hb
    replace a2 := cell_keep a2 al hb
    replace a3 := cell_keep a3 al hb
    replace al := lt_keep al hb
    replace l0 := cell_keep l0 ll hb
    replace l1 := cell_keep l1 ll hb
    replace ll := lt_keep ll hb
    replace B := Lib.hid (below_next B.out hb)
    clear hb
    go_wp2_with fail
    refine (arCell_any _ _ _ _ _ _).mono ?_
    rw [hq]
    rintro e wv ⟨rfl, hb⟩
    replace a0 := cell_keep a0 al hb
    replace a1 := cell_keep a1 al hb
    replace a2 := cell_keep a2 al hb
    replace a3 := cell_keep a3 al hb
    replace al := lt_keep al hb
    replace l0 := cell_keep l0 ll hb
    replace l1 := cell_keep l1 ll hb
    replace ll := lt_keep ll hb
    replace B := Lib.hid (below_next B.out hb)
    clear hb
    clear a0 a1 a2 a3 l0 l1 al ll
    go_wp2
    go_ret2
    exact ⟨none, 0, 0, by first | (rw [OK.out]; rfl) | rfl, by rw [leapsAV_no OK.out]; exact OwnI.none_ _ _ _, B.out⟩
  · have HT := Lib.hid (twoA_iff.1 ht); have HC := Lib.hid (cellA_iff.1 hq)
    have OK := Lib.hid (show okLA W H a b q = true by rw [okLA, HT.out.1, hq]; rfl)
    go_enter Try.func22, Try.ntmps22
    go_wp2_with fail
    rw [← hW2]
    clear hW2
    refine (arTwo_any _ _ _ _ _ _ _).mono ?_
    rw [ht]
    rintro e wv ⟨rfl, hb⟩
    replace a0 := cell_keep a0 al hb
    replace a1 := cell_keep a1 al hb
    replace a2 := cell_keep a2 al hb
    replace a3 := cell_keep a3 al hb
    replace al := lt_keep al hb
    replace l0 := cell_keep l0 ll hb
    replace l1 := cell_keep l1 ll hb
    replace ll := lt_keep ll hb
    replace B := Lib.hid (below_next B.out hb)
    clear hb
    go_wp2_with fail
    refine (arCell_any _ _ _ _ _ _).mono ?_
    rw [hq]
    rintro e wv ⟨rfl, hb⟩
    replace a0 := cell_keep a0 al hb
    replace a1 := cell_keep a1 al hb
    replace a2 := cell_keep a2 al hb
    replace a3 := cell_keep a3 al hb
    replace al := lt_keep al hb
    replace l0 := cell_keep l0 ll hb
    replace l1 := cell_keep l1 ll hb
    replace ll := lt_keep ll hb
    replace B := Lib.hid (below_next B.out hb)
    clear hb
    go_wp2_with fail
    refine (arLeaps_any W H ac up a b q _ HT.out.2 HT.out.1 HC.out.2).mono ?_
    rintro e wx ⟨A', n', c', rfl, hown, hb⟩
    have O := Lib.hid (hown.lower B.out.size)
    replace B := Lib.hid (below_next B.out hb)
    clear hown hb
    clear a0 a1 a2 a3 l0 l1 al ll
    go_wp2
    go_ret2
    exact ⟨A', n', c', by first | (rw [OK.out]; rfl) | rfl, by rw [leapsAV, OK.out]; exact O.out, B.out⟩

set_option maxRecDepth 100000 in
set_option maxHeartbeats 1000000 in
theorem impl_LeapsAround (W H : Int) (ac up : Bool) (a b q : Int) (w : World) :
    Calls Try.prog 24 #[ard W H ac up, lpr a b, .int .i64 q] w fun e w' => ∃ A' n' c', e = .returned (.tuple #[.slice A' n' c', .bool (okLA W H a b q)]) ∧ OwnI 3 w' w.heap.size A' n' c' (leapsAV W H ac up a b q) ∧ Below w.heap.size w w' := by
  obtain ⟨W2, hW2⟩ : ∃ W2, W2 = ((w.alloc (.cells #[.int .i64 W, .int .i64 H, .bool ac, .bool up] 25)).alloc (.cells #[.int .i64 a, .int .i64 b] 36)).alloc (.cells #[.int .i64 q] 3) := ⟨_, rfl⟩
  have hsz : W2.heap.size = w.heap.size + 3 := by rw [hW2]; simp
  have a0 : W2.cell? ⟨w.heap.size, 0, none⟩ = some (.int .i64 W) := by rw [hW2]; go_simp
  have a1 : W2.cell? ⟨w.heap.size, 1, none⟩ = some (.int .i64 H) := by rw [hW2]; go_simp
  have a2 : W2.cell? ⟨w.heap.size, 2, none⟩ = some (.bool ac) := by rw [hW2]; go_simp
  have a3 : W2.cell? ⟨w.heap.size, 3, none⟩ = some (.bool up) := by rw [hW2]; go_simp
  have al : w.heap.size < W2.heap.size := by omega
  have l0 : W2.cell? ⟨w.heap.size + 1, 0, none⟩ = some (.int .i64 a) := by rw [hW2]; go_simp
  have l1 : W2.cell? ⟨w.heap.size + 1, 1, none⟩ = some (.int .i64 b) := by rw [hW2]; go_simp
  have ll : w.heap.size + 1 < W2.heap.size := by omega
  have q0 : W2.cell? ⟨w.heap.size + 1 + 1, 0, none⟩ = some (.int .i64 q) := by rw [hW2]; go_simp
  have ql : w.heap.size + 1 + 1 < W2.heap.size := by omega
  have B := Lib.hid (show Below w.heap.size w W2 by rw [hW2]; repeat (first | exact Below.refl _ _ | refine below_new ?_ _))
  have RQ := Lib.hid (show Rd W2 (some ⟨w.heap.size + 1 + 1, 0, none⟩) 1 [q] from ⟨rfl, by omega, fun k hk => by
    obtain rfl : k = 0 := by omega
    exact ⟨_, 0, _, rfl, by omega, rfl, q0⟩⟩)
  clear q0 ql hsz
  have HE := Lib.hid (show (leaperB a b && aroundB W H [q]) = okLA W H a b q by rw [aroundB_one]; rfl)
  cases hq : okLA W H a b q
  · have OK := Lib.hid hq
    go_enter Try.func24, Try.ntmps24
    go_wp2_with fail
    rw [← hW2]
    clear hW2
    refine (isLeaperAround_any W H ac up a b _ 1 1 [q] _ RQ.out).mono ?_
    rw [HE.out, hq]
    rintro e wv ⟨rfl, hb⟩
    replace a0 := cell_keep a0 al hb
    replace a1 := cell_keep a1 al hb
    replace a2 := cell_keep a2 al hb
    replace a3 := cell_keep a3 al hb
    replace al := lt_keep al hb
    replace l0 := cell_keep l0 ll hb
    replace l1 := cell_keep l1 ll hb
    replace ll := lt_keep ll hb
    replace B := Lib.hid (below_next B.out hb)
    clear hb
    clear RQ HE
    clear a0 a1 a2 a3 l0 l1 al ll
    go_wp2
    go_ret2
    exact ⟨none, 0, 0, by first | (rw [OK.out]; rfl) | rfl, by rw [leapsAV_no OK.out]; exact OwnI.none_ _ _ _, B.out⟩
  · have OK := Lib.hid hq
    have HC := Lib.hid (okLA_iff.1 hq)
    go_enter Try.func24, Try.ntmps24
    go_wp2_with fail
    rw [← hW2]
    clear hW2
    refine (isLeaperAround_any W H ac up a b _ 1 1 [q] _ RQ.out).mono ?_
    rw [HE.out, hq]
    rintro e wv ⟨rfl, hb⟩
    replace a0 := cell_keep a0 al hb
    replace a1 := cell_keep a1 al hb
    replace a2 := cell_keep a2 al hb
    replace a3 := cell_keep a3 al hb
    replace al := lt_keep al hb
    replace l0 := cell_keep l0 ll hb
    replace l1 := cell_keep l1 ll hb
    replace ll := lt_keep ll hb
    replace B := Lib.hid (below_next B.out hb)
    clear hb
    clear RQ HE
    go_wp2_with fail
    refine (leapsAround_any W H ac up a b q _ HC.out.2.1 HC.out.1 HC.out.2.2).mono ?_
    rintro e wx ⟨A', n', c', rfl, hown, hb⟩
    have O := Lib.hid (hown.lower B.out.size)
    replace B := Lib.hid (below_next B.out hb)
    clear hown hb
    clear a0 a1 a2 a3 l0 l1 al ll
    go_wp2
    go_ret2
    exact ⟨A', n', c', by first | (rw [OK.out]; rfl) | rfl, by rw [leapsAV, OK.out]; exact O.out, B.out⟩

end Go.Proofs.Ytaliknhfcdmohaa
