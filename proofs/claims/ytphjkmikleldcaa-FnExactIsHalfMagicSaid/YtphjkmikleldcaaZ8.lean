/-
  Contracts: RowSumsOf, ColumnSumsOf.
-/
import Derived.Test.YtphjkmikleldcaaZ7
namespace Go.Proofs.Ytphjkmikleldcaa
open Go.RowKit

theorem blSums_any (W H : Int) (A : Option Addr) (n c : Nat) (A2 : Option Addr) (m c2 : Nat) (ps : List Int) (w : World) (hp : Rd w A2 m ps) (hW : 1 ≤ W ∧ W ≤ 8) (hH : 1 ≤ H ∧ H ≤ 8) (hin : ∀ x ∈ ps, 0 ≤ x ∧ x < W * H) (hm : m ≤ 64) :
    Calls Try.prog 75 #[brd W H A n c, .slice A2 m c2] w fun e w' => ∃ g g', e = .returned (.tuple #[.slice (some ⟨g, 0, none⟩) H.toNat H.toNat, .slice (some ⟨g', 0, none⟩) W.toNat W.toNat]) ∧ OwnI 3 w' w.heap.size (some ⟨g, 0, none⟩) H.toNat H.toNat (rowsL W H ps) ∧ OwnI 3 w' w.heap.size (some ⟨g', 0, none⟩) W.toNat W.toNat (colsL W ps) ∧ Below w.heap.size w w' := by
  obtain ⟨V, rfl⟩ : ∃ V : Nat, W = (V : Int) := ⟨W.toNat, by omega⟩
  obtain ⟨G, rfl⟩ : ∃ G : Nat, H = (G : Int) := ⟨H.toNat, by omega⟩
  exact blSums_any' V G A n c A2 m c2 ps w hp hW hH hin hm
def rowsV (W H : Int) (xs : List Int) (a b : Int) (ps : List Int) : List Int := if okWk W H xs a b ps then rowsL W H ps else []
def colsV (W H : Int) (xs : List Int) (a b : Int) (ps : List Int) : List Int := if okWk W H xs a b ps then colsL W ps else []
theorem len_RowSumsOf (W H : Int) (xs : List Int) (a b : Int) (ps : List Int) : (rowsV W H xs a b ps).length ≤ 1000000 := by
  unfold rowsV; split
  · rename_i h; have := ok_H h; rw [rowsL, lineL_len, List.length_replicate]; omega
  · simp
theorem len_ColumnSumsOf (W H : Int) (xs : List Int) (a b : Int) (ps : List Int) : (colsV W H xs a b ps).length ≤ 1000000 := by
  unfold colsV; split
  · rename_i h; have := ok_W h; rw [colsL, lineL_len, List.length_replicate]; omega
  · simp

set_option maxRecDepth 100000 in
set_option maxHeartbeats 2000000 in
theorem spec_RowSumsOf (W H : Int) (A : Option Addr) (n c : Nat) (xs : List Int) (a b : Int) (A2 : Option Addr) (m c2 : Nat) (ps : List Int) (w : World) (ha : Rd w A n xs) (hp : Rd w A2 m ps) (hcap : m ≤ c2) :
    Calls Try.prog 41 #[brd W H A n c, lpr a b, .slice A2 m c2] w fun e w' => ∃ A' n' c', e = .returned (.tuple #[.slice A' n' c', .bool (okWk W H xs a b ps)]) ∧ OwnI 3 w' w.heap.size A' n' c' (rowsV W H xs a b ps) ∧ Below w.heap.size w w' := by
  have HPL := Lib.hid hp.1
  have m9 := hp.2.1
  obtain ⟨W2, hW2⟩ : ∃ W2, W2 = (w.alloc (.cells #[.int .i64 W, .int .i64 H, .slice A n c] 30)).alloc (.cells #[.int .i64 a, .int .i64 b] 32) := ⟨_, rfl⟩
  have a0 : W2.cell? ⟨w.heap.size, 0, none⟩ = some (.int .i64 W) := by rw [hW2]; go_simp
  have a1 : W2.cell? ⟨w.heap.size, 1, none⟩ = some (.int .i64 H) := by rw [hW2]; go_simp
  have a2 : W2.cell? ⟨w.heap.size, 2, none⟩ = some (.slice A n c) := by rw [hW2]; go_simp
  have l0 : W2.cell? ⟨w.heap.size + 1, 0, none⟩ = some (.int .i64 a) := by rw [hW2]; go_simp
  have l1 : W2.cell? ⟨w.heap.size + 1, 1, none⟩ = some (.int .i64 b) := by rw [hW2]; go_simp
  have hsz : W2.heap.size = w.heap.size + 2 := by rw [hW2]; simp
  have al : w.heap.size < W2.heap.size := by omega
  have ll : w.heap.size + 1 < W2.heap.size := by omega
  have B := Lib.hid (show Below w.heap.size w W2 by rw [hW2]; exact ((Below.refl _ _).alloc (Nat.le_refl _) _).alloc (by simp) _)
  have R := Lib.hid (ha.keep B.out); have RP := Lib.hid (hp.keep B.out)
  clear ha hp hsz
  cases hq : okWk W H xs a b ps with
  | true =>
    have HQ := Lib.hid hq
    clear hq
    go_enter Try.func41, Try.ntmps41
    go_wp2_with fail
    rw [← hW2]
    clear hW2
    refine (blWalk_any W H A n c xs a b A2 m c2 ps _ R.out RP.out hcap).mono ?_
    rw [HQ.out]
    rintro e wv ⟨rfl, hb⟩
    replace a0 := cell_keep a0 al hb; replace a1 := cell_keep a1 al hb; replace a2 := cell_keep a2 al hb; replace al := lt_keep al hb
    replace l0 := cell_keep l0 ll hb; replace l1 := cell_keep l1 ll hb; replace ll := lt_keep ll hb
    replace R := Lib.hid (R.out.keep hb); replace RP := Lib.hid (RP.out.keep hb)
    replace B := Lib.hid (below_next B.out hb)
    clear hb
    go_wp2_with fail
    refine (blSums_any W H A n c A2 m c2 ps _ RP.out (ok_W HQ.out) (ok_H HQ.out) (ok_in HQ.out) (by have := ok_len HQ.out; have := HPL.out; omega)).mono ?_
    rintro e wv ⟨g, g', rfl, o1, o2, hb⟩
    have O9 := Lib.hid (o1.lower B.out.size)
    replace B := Lib.hid (below_next B.out hb)
    clear hb o1 o2 a0 a1 a2 l0 l1 al ll
    go_wp2
    go_ret2
    exact ⟨_, _, _, rfl, by rw [rowsV, if_pos HQ.out]; exact O9.out, B.out⟩
  | false =>
    have HQ := Lib.hid hq
    clear hq
    go_enter Try.func41, Try.ntmps41
    go_wp2_with fail
    rw [← hW2]
    clear hW2
    refine (blWalk_any W H A n c xs a b A2 m c2 ps _ R.out RP.out hcap).mono ?_
    rw [HQ.out]
    rintro e wv ⟨rfl, hb⟩
    replace a0 := cell_keep a0 al hb; replace a1 := cell_keep a1 al hb; replace a2 := cell_keep a2 al hb; replace al := lt_keep al hb
    replace l0 := cell_keep l0 ll hb; replace l1 := cell_keep l1 ll hb; replace ll := lt_keep ll hb
    replace R := Lib.hid (R.out.keep hb); replace RP := Lib.hid (RP.out.keep hb)
    replace B := Lib.hid (below_next B.out hb)
    clear hb
    clear a0 a1 a2 l0 l1 al ll
    go_wp2
    go_ret2
    exact ⟨none, 0, 0, rfl, by rw [rowsV, if_neg (by rw [HQ.out]; simp)]; exact OwnI.none_ _ _ _, B.out⟩

set_option maxRecDepth 100000 in
set_option maxHeartbeats 2000000 in
theorem impl_RowSumsOf (W H : Int) (A : Option Addr) (n c : Nat) (xs : List Int) (a b : Int) (A2 : Option Addr) (m c2 : Nat) (ps : List Int) (w : World) (ha : Rd w A n xs) (hp : Rd w A2 m ps) (_ : m ≤ c2) :
    Calls Try.prog 42 #[brd W H A n c, lpr a b, .slice A2 m c2] w fun e w' => ∃ A' n' c', e = .returned (.tuple #[.slice A' n' c', .bool (okWk W H xs a b ps)]) ∧ OwnI 3 w' w.heap.size A' n' c' (rowsV W H xs a b ps) ∧ Below w.heap.size w w' := by
  have HPL := Lib.hid hp.1
  have m9 := hp.2.1
  obtain ⟨W2, hW2⟩ : ∃ W2, W2 = ((w.alloc (.cells #[.int .i64 W, .int .i64 H, .slice A n c] 30)).alloc (.cells #[.int .i64 a, .int .i64 b] 32)).alloc (.cells #[.slice A2 m c2] 22) := ⟨_, rfl⟩
  have a0 : W2.cell? ⟨w.heap.size, 0, none⟩ = some (.int .i64 W) := by rw [hW2]; go_simp
  have a1 : W2.cell? ⟨w.heap.size, 1, none⟩ = some (.int .i64 H) := by rw [hW2]; go_simp
  have a2 : W2.cell? ⟨w.heap.size, 2, none⟩ = some (.slice A n c) := by rw [hW2]; go_simp
  have l0 : W2.cell? ⟨w.heap.size + 1, 0, none⟩ = some (.int .i64 a) := by rw [hW2]; go_simp
  have l1 : W2.cell? ⟨w.heap.size + 1, 1, none⟩ = some (.int .i64 b) := by rw [hW2]; go_simp
  have hsz : W2.heap.size = w.heap.size + 3 := by rw [hW2]; simp
  have al : w.heap.size < W2.heap.size := by omega
  have ll : w.heap.size + 1 < W2.heap.size := by omega
  have B := Lib.hid (show Below w.heap.size w W2 by rw [hW2]; exact (((Below.refl _ _).alloc (Nat.le_refl _) _).alloc (by simp) _).alloc (by simp; omega) _)
  have R := Lib.hid (ha.keep B.out); have RP := Lib.hid (hp.keep B.out)
  have WA := Lib.hid (show WalksAt W2 (w.heap.size + 1 + 1) [ps] from ⟨by omega, fun i l hi => by
    rcases i with _ | i
    · injection hi with hi; subst hi; exact ⟨A2, m, c2, by rw [hW2]; go_simp, hp.keep B.out⟩
    · simp at hi⟩)
  clear ha hp hsz
  cases hq : okWk W H xs a b ps with
  | true =>
    have HQ := Lib.hid hq
    clear hq
    go_enter Try.func42, Try.ntmps42
    go_wp2_with fail
    rw [← hW2]
    clear hW2
    refine (areWalks_any W H A n c xs a b _ 1 [ps] _ R.out WA.out rfl (by decide)).mono ?_
    rw [wks_one, show (twoV W H xs a b && walkB W H xs a b ps) = true from HQ.out]
    rintro e wv ⟨rfl, hb⟩
    replace a0 := cell_keep a0 al hb; replace a1 := cell_keep a1 al hb; replace a2 := cell_keep a2 al hb; replace al := lt_keep al hb
    replace l0 := cell_keep l0 ll hb; replace l1 := cell_keep l1 ll hb; replace ll := lt_keep ll hb
    replace R := Lib.hid (R.out.keep hb); replace RP := Lib.hid (RP.out.keep hb)
    replace B := Lib.hid (below_next B.out hb)
    clear hb
    clear WA
    go_wp2_with fail
    refine (sumsRow_any W H A n c A2 m c2 ps _ RP.out (ok_W HQ.out) (ok_H HQ.out) (ok_in HQ.out) (by have := ok_len HQ.out; have := HPL.out; omega)).mono ?_
    rintro e wv ⟨g, rfl, o1, hb⟩
    have O9 := Lib.hid (o1.lower B.out.size)
    replace B := Lib.hid (below_next B.out hb)
    clear hb o1 a0 a1 a2 l0 l1 al ll
    go_wp2
    go_ret2
    exact ⟨_, _, _, rfl, by rw [rowsV, if_pos HQ.out]; exact O9.out, B.out⟩
  | false =>
    have HQ := Lib.hid hq
    clear hq
    go_enter Try.func42, Try.ntmps42
    go_wp2_with fail
    rw [← hW2]
    clear hW2
    refine (areWalks_any W H A n c xs a b _ 1 [ps] _ R.out WA.out rfl (by decide)).mono ?_
    rw [wks_one, show (twoV W H xs a b && walkB W H xs a b ps) = false from HQ.out]
    rintro e wv ⟨rfl, hb⟩
    replace a0 := cell_keep a0 al hb; replace a1 := cell_keep a1 al hb; replace a2 := cell_keep a2 al hb; replace al := lt_keep al hb
    replace l0 := cell_keep l0 ll hb; replace l1 := cell_keep l1 ll hb; replace ll := lt_keep ll hb
    replace R := Lib.hid (R.out.keep hb); replace RP := Lib.hid (RP.out.keep hb)
    replace B := Lib.hid (below_next B.out hb)
    clear hb
    clear WA
    clear a0 a1 a2 l0 l1 al ll
    go_wp2
    go_ret2
    exact ⟨none, 0, 0, rfl, by rw [rowsV, if_neg (by rw [HQ.out]; simp)]; exact OwnI.none_ _ _ _, B.out⟩

set_option maxRecDepth 100000 in
set_option maxHeartbeats 2000000 in
theorem spec_ColumnSumsOf (W H : Int) (A : Option Addr) (n c : Nat) (xs : List Int) (a b : Int) (A2 : Option Addr) (m c2 : Nat) (ps : List Int) (w : World) (ha : Rd w A n xs) (hp : Rd w A2 m ps) (hcap : m ≤ c2) :
    Calls Try.prog 43 #[brd W H A n c, lpr a b, .slice A2 m c2] w fun e w' => ∃ A' n' c', e = .returned (.tuple #[.slice A' n' c', .bool (okWk W H xs a b ps)]) ∧ OwnI 3 w' w.heap.size A' n' c' (colsV W H xs a b ps) ∧ Below w.heap.size w w' := by
  have HPL := Lib.hid hp.1
  have m9 := hp.2.1
  obtain ⟨W2, hW2⟩ : ∃ W2, W2 = (w.alloc (.cells #[.int .i64 W, .int .i64 H, .slice A n c] 30)).alloc (.cells #[.int .i64 a, .int .i64 b] 32) := ⟨_, rfl⟩
  have a0 : W2.cell? ⟨w.heap.size, 0, none⟩ = some (.int .i64 W) := by rw [hW2]; go_simp
  have a1 : W2.cell? ⟨w.heap.size, 1, none⟩ = some (.int .i64 H) := by rw [hW2]; go_simp
  have a2 : W2.cell? ⟨w.heap.size, 2, none⟩ = some (.slice A n c) := by rw [hW2]; go_simp
  have l0 : W2.cell? ⟨w.heap.size + 1, 0, none⟩ = some (.int .i64 a) := by rw [hW2]; go_simp
  have l1 : W2.cell? ⟨w.heap.size + 1, 1, none⟩ = some (.int .i64 b) := by rw [hW2]; go_simp
  have hsz : W2.heap.size = w.heap.size + 2 := by rw [hW2]; simp
  have al : w.heap.size < W2.heap.size := by omega
  have ll : w.heap.size + 1 < W2.heap.size := by omega
  have B := Lib.hid (show Below w.heap.size w W2 by rw [hW2]; exact ((Below.refl _ _).alloc (Nat.le_refl _) _).alloc (by simp) _)
  have R := Lib.hid (ha.keep B.out); have RP := Lib.hid (hp.keep B.out)
  clear ha hp hsz
  cases hq : okWk W H xs a b ps with
  | true =>
    have HQ := Lib.hid hq
    clear hq
    go_enter Try.func43, Try.ntmps43
    go_wp2_with fail
    rw [← hW2]
    clear hW2
    refine (blWalk_any W H A n c xs a b A2 m c2 ps _ R.out RP.out hcap).mono ?_
    rw [HQ.out]
    rintro e wv ⟨rfl, hb⟩
    replace a0 := cell_keep a0 al hb; replace a1 := cell_keep a1 al hb; replace a2 := cell_keep a2 al hb; replace al := lt_keep al hb
    replace l0 := cell_keep l0 ll hb; replace l1 := cell_keep l1 ll hb; replace ll := lt_keep ll hb
    replace R := Lib.hid (R.out.keep hb); replace RP := Lib.hid (RP.out.keep hb)
    replace B := Lib.hid (below_next B.out hb)
    clear hb
    go_wp2_with fail
    refine (blSums_any W H A n c A2 m c2 ps _ RP.out (ok_W HQ.out) (ok_H HQ.out) (ok_in HQ.out) (by have := ok_len HQ.out; have := HPL.out; omega)).mono ?_
    rintro e wv ⟨g, g', rfl, o1, o2, hb⟩
    have O9 := Lib.hid (o2.lower B.out.size)
    replace B := Lib.hid (below_next B.out hb)
    clear hb o1 o2 a0 a1 a2 l0 l1 al ll
    go_wp2
    go_ret2
    exact ⟨_, _, _, rfl, by rw [colsV, if_pos HQ.out]; exact O9.out, B.out⟩
  | false =>
    have HQ := Lib.hid hq
    clear hq
    go_enter Try.func43, Try.ntmps43
    go_wp2_with fail
    rw [← hW2]
    clear hW2
    refine (blWalk_any W H A n c xs a b A2 m c2 ps _ R.out RP.out hcap).mono ?_
    rw [HQ.out]
    rintro e wv ⟨rfl, hb⟩
    replace a0 := cell_keep a0 al hb; replace a1 := cell_keep a1 al hb; replace a2 := cell_keep a2 al hb; replace al := lt_keep al hb
    replace l0 := cell_keep l0 ll hb; replace l1 := cell_keep l1 ll hb; replace ll := lt_keep ll hb
    replace R := Lib.hid (R.out.keep hb); replace RP := Lib.hid (RP.out.keep hb)
    replace B := Lib.hid (below_next B.out hb)
    clear hb
    clear a0 a1 a2 l0 l1 al ll
    go_wp2
    go_ret2
    exact ⟨none, 0, 0, rfl, by rw [colsV, if_neg (by rw [HQ.out]; simp)]; exact OwnI.none_ _ _ _, B.out⟩

set_option maxRecDepth 100000 in
set_option maxHeartbeats 2000000 in
theorem impl_ColumnSumsOf (W H : Int) (A : Option Addr) (n c : Nat) (xs : List Int) (a b : Int) (A2 : Option Addr) (m c2 : Nat) (ps : List Int) (w : World) (ha : Rd w A n xs) (hp : Rd w A2 m ps) (_ : m ≤ c2) :
    Calls Try.prog 44 #[brd W H A n c, lpr a b, .slice A2 m c2] w fun e w' => ∃ A' n' c', e = .returned (.tuple #[.slice A' n' c', .bool (okWk W H xs a b ps)]) ∧ OwnI 3 w' w.heap.size A' n' c' (colsV W H xs a b ps) ∧ Below w.heap.size w w' := by
  have HPL := Lib.hid hp.1
  have m9 := hp.2.1
  obtain ⟨W2, hW2⟩ : ∃ W2, W2 = ((w.alloc (.cells #[.int .i64 W, .int .i64 H, .slice A n c] 30)).alloc (.cells #[.int .i64 a, .int .i64 b] 32)).alloc (.cells #[.slice A2 m c2] 22) := ⟨_, rfl⟩
  have a0 : W2.cell? ⟨w.heap.size, 0, none⟩ = some (.int .i64 W) := by rw [hW2]; go_simp
  have a1 : W2.cell? ⟨w.heap.size, 1, none⟩ = some (.int .i64 H) := by rw [hW2]; go_simp
  have a2 : W2.cell? ⟨w.heap.size, 2, none⟩ = some (.slice A n c) := by rw [hW2]; go_simp
  have l0 : W2.cell? ⟨w.heap.size + 1, 0, none⟩ = some (.int .i64 a) := by rw [hW2]; go_simp
  have l1 : W2.cell? ⟨w.heap.size + 1, 1, none⟩ = some (.int .i64 b) := by rw [hW2]; go_simp
  have hsz : W2.heap.size = w.heap.size + 3 := by rw [hW2]; simp
  have al : w.heap.size < W2.heap.size := by omega
  have ll : w.heap.size + 1 < W2.heap.size := by omega
  have B := Lib.hid (show Below w.heap.size w W2 by rw [hW2]; exact (((Below.refl _ _).alloc (Nat.le_refl _) _).alloc (by simp) _).alloc (by simp; omega) _)
  have R := Lib.hid (ha.keep B.out); have RP := Lib.hid (hp.keep B.out)
  have WA := Lib.hid (show WalksAt W2 (w.heap.size + 1 + 1) [ps] from ⟨by omega, fun i l hi => by
    rcases i with _ | i
    · injection hi with hi; subst hi; exact ⟨A2, m, c2, by rw [hW2]; go_simp, hp.keep B.out⟩
    · simp at hi⟩)
  clear ha hp hsz
  cases hq : okWk W H xs a b ps with
  | true =>
    have HQ := Lib.hid hq
    clear hq
    go_enter Try.func44, Try.ntmps44
    go_wp2_with fail
    rw [← hW2]
    clear hW2
    refine (areWalks_any W H A n c xs a b _ 1 [ps] _ R.out WA.out rfl (by decide)).mono ?_
    rw [wks_one, show (twoV W H xs a b && walkB W H xs a b ps) = true from HQ.out]
    rintro e wv ⟨rfl, hb⟩
    replace a0 := cell_keep a0 al hb; replace a1 := cell_keep a1 al hb; replace a2 := cell_keep a2 al hb; replace al := lt_keep al hb
    replace l0 := cell_keep l0 ll hb; replace l1 := cell_keep l1 ll hb; replace ll := lt_keep ll hb
    replace R := Lib.hid (R.out.keep hb); replace RP := Lib.hid (RP.out.keep hb)
    replace B := Lib.hid (below_next B.out hb)
    clear hb
    clear WA
    go_wp2_with fail
    refine (sumsCol_any W H A n c A2 m c2 ps _ RP.out (ok_W HQ.out) (ok_H HQ.out) (ok_in HQ.out) (by have := ok_len HQ.out; have := HPL.out; omega)).mono ?_
    rintro e wv ⟨g, rfl, o1, hb⟩
    have O9 := Lib.hid (o1.lower B.out.size)
    replace B := Lib.hid (below_next B.out hb)
    clear hb o1 a0 a1 a2 l0 l1 al ll
    go_wp2
    go_ret2
    exact ⟨_, _, _, rfl, by rw [colsV, if_pos HQ.out]; exact O9.out, B.out⟩
  | false =>
    have HQ := Lib.hid hq
    clear hq
    go_enter Try.func44, Try.ntmps44
    go_wp2_with fail
    rw [← hW2]
    clear hW2
    refine (areWalks_any W H A n c xs a b _ 1 [ps] _ R.out WA.out rfl (by decide)).mono ?_
    rw [wks_one, show (twoV W H xs a b && walkB W H xs a b ps) = false from HQ.out]
    rintro e wv ⟨rfl, hb⟩
    replace a0 := cell_keep a0 al hb; replace a1 := cell_keep a1 al hb; replace a2 := cell_keep a2 al hb; replace al := lt_keep al hb
    replace l0 := cell_keep l0 ll hb; replace l1 := cell_keep l1 ll hb; replace ll := lt_keep ll hb
    replace R := Lib.hid (R.out.keep hb); replace RP := Lib.hid (RP.out.keep hb)
    replace B := Lib.hid (below_next B.out hb)
    clear hb
    clear WA
    clear a0 a1 a2 l0 l1 al ll
    go_wp2
    go_ret2
    exact ⟨none, 0, 0, rfl, by rw [colsV, if_neg (by rw [HQ.out]; simp)]; exact OwnI.none_ _ _ _, B.out⟩

end Go.Proofs.Ytphjkmikleldcaa
