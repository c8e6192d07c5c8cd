/-
  Contracts: IsClosedWalk, ReverseWalk, TurnTail, TailTurns.
-/
import Derived.Test.YtphjkmikleldcaaZ4
import Derived.Test.YtphjkmikleldcaaB4
namespace Go.Proofs.Ytphjkmikleldcaa
open Go.RowKit

def endV (W H : Int) (xs : List Int) (a b : Int) (ps : List Int) : Bool := okWk W H xs a b ps && endB W a b ps
def backV (W H : Int) (xs : List Int) (a b : Int) (ps : List Int) : List Int := if okWk W H xs a b ps then ps.reverse else []
def okTurn (W H : Int) (xs : List Int) (a b : Int) (ps : List Int) (q : Int) : Bool := okWk W H xs a b ps && inB q 1 ((ps.length : Int) - 1) && canB W a b ps q.toNat
def tailV (W H : Int) (xs : List Int) (a b : Int) (ps : List Int) (q : Int) : List Int := if okTurn W H xs a b ps q then turnL ps q.toNat else []
def tailsV (W H : Int) (xs : List Int) (a b : Int) (ps : List Int) : List Int := if okWk W H xs a b ps then tailsL W a b ps else []
theorem len_ReverseWalk (W H : Int) (xs : List Int) (a b : Int) (ps : List Int) : (backV W H xs a b ps).length ≤ 1000000 := by
  unfold backV; split
  · rename_i h; have := ok_len h; rw [List.length_reverse]; omega
  · simp
theorem len_TurnTail (W H : Int) (xs : List Int) (a b : Int) (ps : List Int) (q : Int) : (tailV W H xs a b ps q).length ≤ 1000000 := by
  unfold tailV; split
  · rename_i h; simp only [okTurn, Bool.and_eq_true] at h; have := ok_len h.1.1; rw [turnL_len]; omega
  · simp
theorem len_TailTurns (W H : Int) (xs : List Int) (a b : Int) (ps : List Int) : (tailsV W H xs a b ps).length ≤ 1000000 := by
  unfold tailsV; split
  · rename_i h; have := ok_len h; have := tailsTo_len W a b ps (ps.length - 2); rw [tailsL]; omega
  · simp

set_option maxRecDepth 100000 in
set_option maxHeartbeats 2000000 in
theorem spec_IsClosedWalk (W H : Int) (A : Option Addr) (n c : Nat) (xs : List Int) (a b : Int) (A2 : Option Addr) (m c2 : Nat) (ps : List Int) (w : World) (ha : Rd w A n xs) (hp : Rd w A2 m ps) (hcap : m ≤ c2) :
    Calls Try.prog 37 #[brd W H A n c, lpr a b, .slice A2 m c2] w fun e w' => e = .returned (.tuple #[.bool (endV W H xs a b ps), .bool (okWk W H xs a b ps)]) ∧ Below w.heap.size w w' := by
  have HPL := Lib.hid hp.1
  have m9 := hp.2.1
  obtain ⟨W2, hW2⟩ : ∃ W2, W2 = (w.alloc (.cells #[.int .i64 W, .int .i64 H, .slice A n c] 30)).alloc (.cells #[.int .i64 a, .int .i64 b] 32) := ⟨_, rfl⟩
  have a0 : W2.cell? ⟨w.heap.size, 0, none⟩ = some (.int .i64 W) := by rw [hW2]; go_simp
  have a1 : W2.cell? ⟨w.heap.size, 1, none⟩ = some (.int .i64 H) := by rw [hW2]; go_simp
  have a2 : W2.cell? ⟨w.heap.size, 2, none⟩ = some (.slice A n c) := by rw [hW2]; go_simp
  have l0 : W2.cell? ⟨w.heap.size + 1, 0, none⟩ = some (.int .i64 a) := by rw [hW2]; go_simp
  have l1 : W2.cell? ⟨w.heap.size + 1, 1, none⟩ = some (.int .i64 b) := by rw [hW2]; go_simp
  have hsz : W2.heap.size = w.heap.size + 2 := by rw [hW2]; simp
  have al : w.heap.size < W2.heap.size := by omega
  have ll : w.heap.size + 1 < W2.heap.size := by omega
  have B := Lib.hid (show Below w.heap.size w W2 by rw [hW2]; exact ((Below.refl _ _).alloc (Nat.le_refl _) _).alloc (by simp) _)
  have R := Lib.hid (ha.keep B.out); have RP := Lib.hid (hp.keep B.out)
  clear ha hp hsz
  cases hq : okWk W H xs a b ps with
  | true =>
    have HQ := Lib.hid hq
    clear hq
    go_enter Try.func37, Try.ntmps37
    go_wp2_with fail
    rw [← hW2]
    clear hW2
    refine (blWalk_any W H A n c xs a b A2 m c2 ps _ R.out RP.out hcap).mono ?_
    rw [HQ.out]
    rintro e wv ⟨rfl, hb⟩
    replace a0 := cell_keep a0 al hb; replace a1 := cell_keep a1 al hb; replace a2 := cell_keep a2 al hb; replace al := lt_keep al hb
    replace l0 := cell_keep l0 ll hb; replace l1 := cell_keep l1 ll hb; replace ll := lt_keep ll hb
    replace R := Lib.hid (R.out.keep hb); replace RP := Lib.hid (RP.out.keep hb)
    replace B := Lib.hid (below_next B.out hb)
    clear hb
    go_wp2_with fail
    refine (blClosed_any W H A n c a b A2 m c2 ps _ RP.out (ok_W HQ.out) (ok_64 HQ.out)).mono ?_
    rintro e wv ⟨rfl, hb⟩
    replace B := Lib.hid (below_next B.out hb)
    clear hb a0 a1 a2 l0 l1 al ll
    go_wp2
    go_ret2
    exact ⟨by rw [endV, HQ.out]; rfl, B.out⟩
  | false =>
    have HQ := Lib.hid hq
    clear hq
    go_enter Try.func37, Try.ntmps37
    go_wp2_with fail
    rw [← hW2]
    clear hW2
    refine (blWalk_any W H A n c xs a b A2 m c2 ps _ R.out RP.out hcap).mono ?_
    rw [HQ.out]
    rintro e wv ⟨rfl, hb⟩
    replace a0 := cell_keep a0 al hb; replace a1 := cell_keep a1 al hb; replace a2 := cell_keep a2 al hb; replace al := lt_keep al hb
    replace l0 := cell_keep l0 ll hb; replace l1 := cell_keep l1 ll hb; replace ll := lt_keep ll hb
    replace R := Lib.hid (R.out.keep hb); replace RP := Lib.hid (RP.out.keep hb)
    replace B := Lib.hid (below_next B.out hb)
    clear hb
    clear a0 a1 a2 l0 l1 al ll
    go_wp2
    go_ret2
    exact ⟨by rw [endV, HQ.out]; rfl, B.out⟩

set_option maxRecDepth 100000 in
set_option maxHeartbeats 2000000 in
theorem impl_IsClosedWalk (W H : Int) (A : Option Addr) (n c : Nat) (xs : List Int) (a b : Int) (A2 : Option Addr) (m c2 : Nat) (ps : List Int) (w : World) (ha : Rd w A n xs) (hp : Rd w A2 m ps) (_ : m ≤ c2) :
    Calls Try.prog 38 #[brd W H A n c, lpr a b, .slice A2 m c2] w fun e w' => e = .returned (.tuple #[.bool (endV W H xs a b ps), .bool (okWk W H xs a b ps)]) ∧ Below w.heap.size w w' := by
  have HPL := Lib.hid hp.1
  have m9 := hp.2.1
  obtain ⟨W2, hW2⟩ : ∃ W2, W2 = ((w.alloc (.cells #[.int .i64 W, .int .i64 H, .slice A n c] 30)).alloc (.cells #[.int .i64 a, .int .i64 b] 32)).alloc (.cells #[.slice A2 m c2] 22) := ⟨_, rfl⟩
  have a0 : W2.cell? ⟨w.heap.size, 0, none⟩ = some (.int .i64 W) := by rw [hW2]; go_simp
  have a1 : W2.cell? ⟨w.heap.size, 1, none⟩ = some (.int .i64 H) := by rw [hW2]; go_simp
  have a2 : W2.cell? ⟨w.heap.size, 2, none⟩ = some (.slice A n c) := by rw [hW2]; go_simp
  have l0 : W2.cell? ⟨w.heap.size + 1, 0, none⟩ = some (.int .i64 a) := by rw [hW2]; go_simp
  have l1 : W2.cell? ⟨w.heap.size + 1, 1, none⟩ = some (.int .i64 b) := by rw [hW2]; go_simp
  have hsz : W2.heap.size = w.heap.size + 3 := by rw [hW2]; simp
  have al : w.heap.size < W2.heap.size := by omega
  have ll : w.heap.size + 1 < W2.heap.size := by omega
  have B := Lib.hid (show Below w.heap.size w W2 by rw [hW2]; exact (((Below.refl _ _).alloc (Nat.le_refl _) _).alloc (by simp) _).alloc (by simp; omega) _)
  have R := Lib.hid (ha.keep B.out); have RP := Lib.hid (hp.keep B.out)
  have WA := Lib.hid (show WalksAt W2 (w.heap.size + 1 + 1) [ps] from ⟨by omega, fun i l hi => by
    rcases i with _ | i
    · injection hi with hi; subst hi; exact ⟨A2, m, c2, by rw [hW2]; go_simp, hp.keep B.out⟩
    · simp at hi⟩)
  clear ha hp hsz
  cases hq : okWk W H xs a b ps with
  | true =>
    have HQ := Lib.hid hq
    clear hq
    go_enter Try.func38, Try.ntmps38
    go_wp2_with fail
    rw [← hW2]
    clear hW2
    refine (areWalks_any W H A n c xs a b _ 1 [ps] _ R.out WA.out rfl (by decide)).mono ?_
    rw [wks_one, show (twoV W H xs a b && walkB W H xs a b ps) = true from HQ.out]
    rintro e wv ⟨rfl, hb⟩
    replace a0 := cell_keep a0 al hb; replace a1 := cell_keep a1 al hb; replace a2 := cell_keep a2 al hb; replace al := lt_keep al hb
    replace l0 := cell_keep l0 ll hb; replace l1 := cell_keep l1 ll hb; replace ll := lt_keep ll hb
    replace R := Lib.hid (R.out.keep hb); replace RP := Lib.hid (RP.out.keep hb)
    replace B := Lib.hid (below_next B.out hb)
    clear hb
    clear WA
    go_wp2_with fail
    refine (isClosed_any W H A n c a b A2 m c2 ps _ RP.out (ok_W HQ.out) (ok_64 HQ.out)).mono ?_
    rintro e wv ⟨rfl, hb⟩
    replace B := Lib.hid (below_next B.out hb)
    clear hb a0 a1 a2 l0 l1 al ll
    go_wp2
    go_ret2
    exact ⟨by rw [endV, HQ.out]; rfl, B.out⟩
  | false =>
    have HQ := Lib.hid hq
    clear hq
    go_enter Try.func38, Try.ntmps38
    go_wp2_with fail
    rw [← hW2]
    clear hW2
    refine (areWalks_any W H A n c xs a b _ 1 [ps] _ R.out WA.out rfl (by decide)).mono ?_
    rw [wks_one, show (twoV W H xs a b && walkB W H xs a b ps) = false from HQ.out]
    rintro e wv ⟨rfl, hb⟩
    replace a0 := cell_keep a0 al hb; replace a1 := cell_keep a1 al hb; replace a2 := cell_keep a2 al hb; replace al := lt_keep al hb
    replace l0 := cell_keep l0 ll hb; replace l1 := cell_keep l1 ll hb; replace ll := lt_keep ll hb
    replace R := Lib.hid (R.out.keep hb); replace RP := Lib.hid (RP.out.keep hb)
    replace B := Lib.hid (below_next B.out hb)
    clear hb
    clear WA
    clear a0 a1 a2 l0 l1 al ll
    go_wp2
    go_ret2
    exact ⟨by rw [endV, HQ.out]; rfl, B.out⟩

set_option maxRecDepth 100000 in
set_option maxHeartbeats 2000000 in
theorem spec_ReverseWalk (W H : Int) (A : Option Addr) (n c : Nat) (xs : List Int) (a b : Int) (A2 : Option Addr) (m c2 : Nat) (ps : List Int) (w : World) (ha : Rd w A n xs) (hp : Rd w A2 m ps) (hcap : m ≤ c2) :
    Calls Try.prog 17 #[brd W H A n c, lpr a b, .slice A2 m c2] w fun e w' => ∃ A' n' c', e = .returned (.tuple #[.slice A' n' c', .bool (okWk W H xs a b ps)]) ∧ OwnI 3 w' w.heap.size A' n' c' (backV W H xs a b ps) ∧ Below w.heap.size w w' := by
  have HPL := Lib.hid hp.1
  have m9 := hp.2.1
  obtain ⟨W2, hW2⟩ : ∃ W2, W2 = (w.alloc (.cells #[.int .i64 W, .int .i64 H, .slice A n c] 30)).alloc (.cells #[.int .i64 a, .int .i64 b] 32) := ⟨_, rfl⟩
  have a0 : W2.cell? ⟨w.heap.size, 0, none⟩ = some (.int .i64 W) := by rw [hW2]; go_simp
  have a1 : W2.cell? ⟨w.heap.size, 1, none⟩ = some (.int .i64 H) := by rw [hW2]; go_simp
  have a2 : W2.cell? ⟨w.heap.size, 2, none⟩ = some (.slice A n c) := by rw [hW2]; go_simp
  have l0 : W2.cell? ⟨w.heap.size + 1, 0, none⟩ = some (.int .i64 a) := by rw [hW2]; go_simp
  have l1 : W2.cell? ⟨w.heap.size + 1, 1, none⟩ = some (.int .i64 b) := by rw [hW2]; go_simp
  have hsz : W2.heap.size = w.heap.size + 2 := by rw [hW2]; simp
  have al : w.heap.size < W2.heap.size := by omega
  have ll : w.heap.size + 1 < W2.heap.size := by omega
  have B := Lib.hid (show Below w.heap.size w W2 by rw [hW2]; exact ((Below.refl _ _).alloc (Nat.le_refl _) _).alloc (by simp) _)
  have R := Lib.hid (ha.keep B.out); have RP := Lib.hid (hp.keep B.out)
  clear ha hp hsz
  cases hq : okWk W H xs a b ps with
  | true =>
    have HQ := Lib.hid hq
    clear hq
    go_enter Try.func17, Try.ntmps17
    go_wp2_with fail
    rw [← hW2]
    clear hW2
    refine (blWalk_any W H A n c xs a b A2 m c2 ps _ R.out RP.out hcap).mono ?_
    rw [HQ.out]
    rintro e wv ⟨rfl, hb⟩
    replace a0 := cell_keep a0 al hb; replace a1 := cell_keep a1 al hb; replace a2 := cell_keep a2 al hb; replace al := lt_keep al hb
    replace l0 := cell_keep l0 ll hb; replace l1 := cell_keep l1 ll hb; replace ll := lt_keep ll hb
    replace R := Lib.hid (R.out.keep hb); replace RP := Lib.hid (RP.out.keep hb)
    replace B := Lib.hid (below_next B.out hb)
    clear hb
    go_wp2_with fail
    refine (blBack_any A2 m c2 ps _ RP.out (by have := ok_len HQ.out; have := HPL.out; omega)).mono ?_
    rintro e wv ⟨A9, c9, rfl, own, hb⟩
    have O9 := Lib.hid (own.lower B.out.size)
    replace B := Lib.hid (below_next B.out hb)
    clear hb own a0 a1 a2 l0 l1 al ll
    go_wp2
    go_ret2
    exact ⟨_, _, _, rfl, by rw [backV, if_pos HQ.out]; exact O9.out, B.out⟩
  | false =>
    have HQ := Lib.hid hq
    clear hq
    go_enter Try.func17, Try.ntmps17
    go_wp2_with fail
    rw [← hW2]
    clear hW2
    refine (blWalk_any W H A n c xs a b A2 m c2 ps _ R.out RP.out hcap).mono ?_
    rw [HQ.out]
    rintro e wv ⟨rfl, hb⟩
    replace a0 := cell_keep a0 al hb; replace a1 := cell_keep a1 al hb; replace a2 := cell_keep a2 al hb; replace al := lt_keep al hb
    replace l0 := cell_keep l0 ll hb; replace l1 := cell_keep l1 ll hb; replace ll := lt_keep ll hb
    replace R := Lib.hid (R.out.keep hb); replace RP := Lib.hid (RP.out.keep hb)
    replace B := Lib.hid (below_next B.out hb)
    clear hb
    clear a0 a1 a2 l0 l1 al ll
    go_wp2
    go_ret2
    exact ⟨none, 0, 0, rfl, by rw [backV, if_neg (by rw [HQ.out]; simp)]; exact OwnI.none_ _ _ _, B.out⟩

set_option maxRecDepth 100000 in
set_option maxHeartbeats 2000000 in
theorem impl_ReverseWalk (W H : Int) (A : Option Addr) (n c : Nat) (xs : List Int) (a b : Int) (A2 : Option Addr) (m c2 : Nat) (ps : List Int) (w : World) (ha : Rd w A n xs) (hp : Rd w A2 m ps) (_ : m ≤ c2) :
    Calls Try.prog 21 #[brd W H A n c, lpr a b, .slice A2 m c2] w fun e w' => ∃ A' n' c', e = .returned (.tuple #[.slice A' n' c', .bool (okWk W H xs a b ps)]) ∧ OwnI 3 w' w.heap.size A' n' c' (backV W H xs a b ps) ∧ Below w.heap.size w w' := by
  have HPL := Lib.hid hp.1
  have m9 := hp.2.1
  obtain ⟨W2, hW2⟩ : ∃ W2, W2 = ((w.alloc (.cells #[.int .i64 W, .int .i64 H, .slice A n c] 30)).alloc (.cells #[.int .i64 a, .int .i64 b] 32)).alloc (.cells #[.slice A2 m c2] 22) := ⟨_, rfl⟩
  have a0 : W2.cell? ⟨w.heap.size, 0, none⟩ = some (.int .i64 W) := by rw [hW2]; go_simp
  have a1 : W2.cell? ⟨w.heap.size, 1, none⟩ = some (.int .i64 H) := by rw [hW2]; go_simp
  have a2 : W2.cell? ⟨w.heap.size, 2, none⟩ = some (.slice A n c) := by rw [hW2]; go_simp
  have l0 : W2.cell? ⟨w.heap.size + 1, 0, none⟩ = some (.int .i64 a) := by rw [hW2]; go_simp
  have l1 : W2.cell? ⟨w.heap.size + 1, 1, none⟩ = some (.int .i64 b) := by rw [hW2]; go_simp
  have hsz : W2.heap.size = w.heap.size + 3 := by rw [hW2]; simp
  have al : w.heap.size < W2.heap.size := by omega
  have ll : w.heap.size + 1 < W2.heap.size := by omega
  have B := Lib.hid (show Below w.heap.size w W2 by rw [hW2]; exact (((Below.refl _ _).alloc (Nat.le_refl _) _).alloc (by simp) _).alloc (by simp; omega) _)
  have R := Lib.hid (ha.keep B.out); have RP := Lib.hid (hp.keep B.out)
  have WA := Lib.hid (show WalksAt W2 (w.heap.size + 1 + 1) [ps] from ⟨by omega, fun i l hi => by
    rcases i with _ | i
    · injection hi with hi; subst hi; exact ⟨A2, m, c2, by rw [hW2]; go_simp, hp.keep B.out⟩
    · simp at hi⟩)
  clear ha hp hsz
  cases hq : okWk W H xs a b ps with
  | true =>
    have HQ := Lib.hid hq
    clear hq
    go_enter Try.func21, Try.ntmps21
    go_wp2_with fail
    rw [← hW2]
    clear hW2
    refine (areWalks_any W H A n c xs a b _ 1 [ps] _ R.out WA.out rfl (by decide)).mono ?_
    rw [wks_one, show (twoV W H xs a b && walkB W H xs a b ps) = true from HQ.out]
    rintro e wv ⟨rfl, hb⟩
    replace a0 := cell_keep a0 al hb; replace a1 := cell_keep a1 al hb; replace a2 := cell_keep a2 al hb; replace al := lt_keep al hb
    replace l0 := cell_keep l0 ll hb; replace l1 := cell_keep l1 ll hb; replace ll := lt_keep ll hb
    replace R := Lib.hid (R.out.keep hb); replace RP := Lib.hid (RP.out.keep hb)
    replace B := Lib.hid (below_next B.out hb)
    clear hb
    clear WA
    go_wp2_with fail
    refine (turnedAt_any A2 m c2 ps 0 _ RP.out (by have := ok_len HQ.out; have := HPL.out; omega) (by have := ok_len HQ.out; have := HPL.out; omega)).mono ?_
    rw [show turnL ps 0 = ps.reverse by simp [turnL]]
    rintro e wv ⟨A9, c9, rfl, own, hb⟩
    have O9 := Lib.hid (own.lower B.out.size)
    replace B := Lib.hid (below_next B.out hb)
    clear hb own a0 a1 a2 l0 l1 al ll
    go_wp2
    go_ret2
    exact ⟨_, _, _, rfl, by rw [backV, if_pos HQ.out]; exact O9.out, B.out⟩
  | false =>
    have HQ := Lib.hid hq
    clear hq
    go_enter Try.func21, Try.ntmps21
    go_wp2_with fail
    rw [← hW2]
    clear hW2
    refine (areWalks_any W H A n c xs a b _ 1 [ps] _ R.out WA.out rfl (by decide)).mono ?_
    rw [wks_one, show (twoV W H xs a b && walkB W H xs a b ps) = false from HQ.out]
    rintro e wv ⟨rfl, hb⟩
    replace a0 := cell_keep a0 al hb; replace a1 := cell_keep a1 al hb; replace a2 := cell_keep a2 al hb; replace al := lt_keep al hb
    replace l0 := cell_keep l0 ll hb; replace l1 := cell_keep l1 ll hb; replace ll := lt_keep ll hb
    replace R := Lib.hid (R.out.keep hb); replace RP := Lib.hid (RP.out.keep hb)
    replace B := Lib.hid (below_next B.out hb)
    clear hb
    clear WA
    clear a0 a1 a2 l0 l1 al ll
    go_wp2
    go_ret2
    exact ⟨none, 0, 0, rfl, by rw [backV, if_neg (by rw [HQ.out]; simp)]; exact OwnI.none_ _ _ _, B.out⟩

set_option maxRecDepth 100000 in
set_option maxHeartbeats 2000000 in
theorem spec_TailTurns (W H : Int) (A : Option Addr) (n c : Nat) (xs : List Int) (a b : Int) (A2 : Option Addr) (m c2 : Nat) (ps : List Int) (w : World) (ha : Rd w A n xs) (hp : Rd w A2 m ps) (hcap : m ≤ c2) :
    Calls Try.prog 29 #[brd W H A n c, lpr a b, .slice A2 m c2] w fun e w' => ∃ A' n' c', e = .returned (.tuple #[.slice A' n' c', .bool (okWk W H xs a b ps)]) ∧ OwnI 3 w' w.heap.size A' n' c' (tailsV W H xs a b ps) ∧ Below w.heap.size w w' := by
  have HPL := Lib.hid hp.1
  have m9 := hp.2.1
  obtain ⟨W2, hW2⟩ : ∃ W2, W2 = (w.alloc (.cells #[.int .i64 W, .int .i64 H, .slice A n c] 30)).alloc (.cells #[.int .i64 a, .int .i64 b] 32) := ⟨_, rfl⟩
  have a0 : W2.cell? ⟨w.heap.size, 0, none⟩ = some (.int .i64 W) := by rw [hW2]; go_simp
  have a1 : W2.cell? ⟨w.heap.size, 1, none⟩ = some (.int .i64 H) := by rw [hW2]; go_simp
  have a2 : W2.cell? ⟨w.heap.size, 2, none⟩ = some (.slice A n c) := by rw [hW2]; go_simp
  have l0 : W2.cell? ⟨w.heap.size + 1, 0, none⟩ = some (.int .i64 a) := by rw [hW2]; go_simp
  have l1 : W2.cell? ⟨w.heap.size + 1, 1, none⟩ = some (.int .i64 b) := by rw [hW2]; go_simp
  have hsz : W2.heap.size = w.heap.size + 2 := by rw [hW2]; simp
  have al : w.heap.size < W2.heap.size := by omega
  have ll : w.heap.size + 1 < W2.heap.size := by omega
  have B := Lib.hid (show Below w.heap.size w W2 by rw [hW2]; exact ((Below.refl _ _).alloc (Nat.le_refl _) _).alloc (by simp) _)
  have R := Lib.hid (ha.keep B.out); have RP := Lib.hid (hp.keep B.out)
  clear ha hp hsz
  cases hq : okWk W H xs a b ps with
  | true =>
    have HQ := Lib.hid hq
    clear hq
    go_enter Try.func29, Try.ntmps29
    go_wp2_with fail
    rw [← hW2]
    clear hW2
    refine (blWalk_any W H A n c xs a b A2 m c2 ps _ R.out RP.out hcap).mono ?_
    rw [HQ.out]
    rintro e wv ⟨rfl, hb⟩
    replace a0 := cell_keep a0 al hb; replace a1 := cell_keep a1 al hb; replace a2 := cell_keep a2 al hb; replace al := lt_keep al hb
    replace l0 := cell_keep l0 ll hb; replace l1 := cell_keep l1 ll hb; replace ll := lt_keep ll hb
    replace R := Lib.hid (R.out.keep hb); replace RP := Lib.hid (RP.out.keep hb)
    replace B := Lib.hid (below_next B.out hb)
    clear hb
    go_wp2_with fail
    refine (blTurns_any W H A n c a b A2 m c2 ps _ RP.out (ok_W HQ.out) (ok_64 HQ.out) (by have := ok_len HQ.out; have := HPL.out; omega)).mono ?_
    rintro e wv ⟨A9, n9, c9, rfl, own, hb⟩
    have O9 := Lib.hid (own.lower B.out.size)
    replace B := Lib.hid (below_next B.out hb)
    clear hb own a0 a1 a2 l0 l1 al ll
    go_wp2
    go_ret2
    exact ⟨_, _, _, rfl, by rw [tailsV, if_pos HQ.out]; exact O9.out, B.out⟩
  | false =>
    have HQ := Lib.hid hq
    clear hq
    go_enter Try.func29, Try.ntmps29
    go_wp2_with fail
    rw [← hW2]
    clear hW2
    refine (blWalk_any W H A n c xs a b A2 m c2 ps _ R.out RP.out hcap).mono ?_
    rw [HQ.out]
    rintro e wv ⟨rfl, hb⟩
    replace a0 := cell_keep a0 al hb; replace a1 := cell_keep a1 al hb; replace a2 := cell_keep a2 al hb; replace al := lt_keep al hb
    replace l0 := cell_keep l0 ll hb; replace l1 := cell_keep l1 ll hb; replace ll := lt_keep ll hb
    replace R := Lib.hid (R.out.keep hb); replace RP := Lib.hid (RP.out.keep hb)
    replace B := Lib.hid (below_next B.out hb)
    clear hb
    clear a0 a1 a2 l0 l1 al ll
    go_wp2
    go_ret2
    exact ⟨none, 0, 0, rfl, by rw [tailsV, if_neg (by rw [HQ.out]; simp)]; exact OwnI.none_ _ _ _, B.out⟩

set_option maxRecDepth 100000 in
set_option maxHeartbeats 2000000 in
theorem impl_TailTurns (W H : Int) (A : Option Addr) (n c : Nat) (xs : List Int) (a b : Int) (A2 : Option Addr) (m c2 : Nat) (ps : List Int) (w : World) (ha : Rd w A n xs) (hp : Rd w A2 m ps) (_ : m ≤ c2) :
    Calls Try.prog 30 #[brd W H A n c, lpr a b, .slice A2 m c2] w fun e w' => ∃ A' n' c', e = .returned (.tuple #[.slice A' n' c', .bool (okWk W H xs a b ps)]) ∧ OwnI 3 w' w.heap.size A' n' c' (tailsV W H xs a b ps) ∧ Below w.heap.size w w' := by
  have HPL := Lib.hid hp.1
  have m9 := hp.2.1
  obtain ⟨W2, hW2⟩ : ∃ W2, W2 = ((w.alloc (.cells #[.int .i64 W, .int .i64 H, .slice A n c] 30)).alloc (.cells #[.int .i64 a, .int .i64 b] 32)).alloc (.cells #[.slice A2 m c2] 22) := ⟨_, rfl⟩
  have a0 : W2.cell? ⟨w.heap.size, 0, none⟩ = some (.int .i64 W) := by rw [hW2]; go_simp
  have a1 : W2.cell? ⟨w.heap.size, 1, none⟩ = some (.int .i64 H) := by rw [hW2]; go_simp
  have a2 : W2.cell? ⟨w.heap.size, 2, none⟩ = some (.slice A n c) := by rw [hW2]; go_simp
  have l0 : W2.cell? ⟨w.heap.size + 1, 0, none⟩ = some (.int .i64 a) := by rw [hW2]; go_simp
  have l1 : W2.cell? ⟨w.heap.size + 1, 1, none⟩ = some (.int .i64 b) := by rw [hW2]; go_simp
  have hsz : W2.heap.size = w.heap.size + 3 := by rw [hW2]; simp
  have al : w.heap.size < W2.heap.size := by omega
  have ll : w.heap.size + 1 < W2.heap.size := by omega
  have B := Lib.hid (show Below w.heap.size w W2 by rw [hW2]; exact (((Below.refl _ _).alloc (Nat.le_refl _) _).alloc (by simp) _).alloc (by simp; omega) _)
  have R := Lib.hid (ha.keep B.out); have RP := Lib.hid (hp.keep B.out)
  have WA := Lib.hid (show WalksAt W2 (w.heap.size + 1 + 1) [ps] from ⟨by omega, fun i l hi => by
    rcases i with _ | i
    · injection hi with hi; subst hi; exact ⟨A2, m, c2, by rw [hW2]; go_simp, hp.keep B.out⟩
    · simp at hi⟩)
  clear ha hp hsz
  cases hq : okWk W H xs a b ps with
  | true =>
    have HQ := Lib.hid hq
    clear hq
    go_enter Try.func30, Try.ntmps30
    go_wp2_with fail
    rw [← hW2]
    clear hW2
    refine (areWalks_any W H A n c xs a b _ 1 [ps] _ R.out WA.out rfl (by decide)).mono ?_
    rw [wks_one, show (twoV W H xs a b && walkB W H xs a b ps) = true from HQ.out]
    rintro e wv ⟨rfl, hb⟩
    replace a0 := cell_keep a0 al hb; replace a1 := cell_keep a1 al hb; replace a2 := cell_keep a2 al hb; replace al := lt_keep al hb
    replace l0 := cell_keep l0 ll hb; replace l1 := cell_keep l1 ll hb; replace ll := lt_keep ll hb
    replace R := Lib.hid (R.out.keep hb); replace RP := Lib.hid (RP.out.keep hb)
    replace B := Lib.hid (below_next B.out hb)
    clear hb
    clear WA
    go_wp2_with fail
    refine (tailTurns_any W H A n c a b A2 m c2 ps _ RP.out (ok_W HQ.out) (ok_64 HQ.out) (by have := ok_len HQ.out; have := HPL.out; omega)).mono ?_
    rintro e wv ⟨A9, n9, c9, rfl, own, hb⟩
    have O9 := Lib.hid (own.lower B.out.size)
    replace B := Lib.hid (below_next B.out hb)
    clear hb own a0 a1 a2 l0 l1 al ll
    go_wp2
    go_ret2
    exact ⟨_, _, _, rfl, by rw [tailsV, if_pos HQ.out]; exact O9.out, B.out⟩
  | false =>
    have HQ := Lib.hid hq
    clear hq
    go_enter Try.func30, Try.ntmps30
    go_wp2_with fail
    rw [← hW2]
    clear hW2
    refine (areWalks_any W H A n c xs a b _ 1 [ps] _ R.out WA.out rfl (by decide)).mono ?_
    rw [wks_one, show (twoV W H xs a b && walkB W H xs a b ps) = false from HQ.out]
    rintro e wv ⟨rfl, hb⟩
    replace a0 := cell_keep a0 al hb; replace a1 := cell_keep a1 al hb; replace a2 := cell_keep a2 al hb; replace al := lt_keep al hb
    replace l0 := cell_keep l0 ll hb; replace l1 := cell_keep l1 ll hb; replace ll := lt_keep ll hb
    replace R := Lib.hid (R.out.keep hb); replace RP := Lib.hid (RP.out.keep hb)
    replace B := Lib.hid (below_next B.out hb)
    clear hb
    clear WA
    clear a0 a1 a2 l0 l1 al ll
    go_wp2
    go_ret2
    exact ⟨none, 0, 0, rfl, by rw [tailsV, if_neg (by rw [HQ.out]; simp)]; exact OwnI.none_ _ _ _, B.out⟩

set_option maxRecDepth 100000 in
set_option maxHeartbeats 2000000 in
theorem spec_TurnTail (W H : Int) (A : Option Addr) (n c : Nat) (xs : List Int) (a b : Int) (A2 : Option Addr) (m c2 : Nat) (ps : List Int) (q : Int) (w : World) (ha : Rd w A n xs) (hp : Rd w A2 m ps) (hcap : m ≤ c2) :
    Calls Try.prog 27 #[brd W H A n c, lpr a b, .slice A2 m c2, .int .i64 q] w fun e w' => ∃ A' n' c', e = .returned (.tuple #[.slice A' n' c', .bool (okTurn W H xs a b ps q)]) ∧ OwnI 3 w' w.heap.size A' n' c' (tailV W H xs a b ps q) ∧ Below w.heap.size w w' := by
  have HPL := Lib.hid hp.1
  have m9 := hp.2.1
  obtain ⟨W2, hW2⟩ : ∃ W2, W2 = (w.alloc (.cells #[.int .i64 W, .int .i64 H, .slice A n c] 30)).alloc (.cells #[.int .i64 a, .int .i64 b] 32) := ⟨_, rfl⟩
  have a0 : W2.cell? ⟨w.heap.size, 0, none⟩ = some (.int .i64 W) := by rw [hW2]; go_simp
  have a1 : W2.cell? ⟨w.heap.size, 1, none⟩ = some (.int .i64 H) := by rw [hW2]; go_simp
  have a2 : W2.cell? ⟨w.heap.size, 2, none⟩ = some (.slice A n c) := by rw [hW2]; go_simp
  have l0 : W2.cell? ⟨w.heap.size + 1, 0, none⟩ = some (.int .i64 a) := by rw [hW2]; go_simp
  have l1 : W2.cell? ⟨w.heap.size + 1, 1, none⟩ = some (.int .i64 b) := by rw [hW2]; go_simp
  have hsz : W2.heap.size = w.heap.size + 2 := by rw [hW2]; simp
  have al : w.heap.size < W2.heap.size := by omega
  have ll : w.heap.size + 1 < W2.heap.size := by omega
  have B := Lib.hid (show Below w.heap.size w W2 by rw [hW2]; exact ((Below.refl _ _).alloc (Nat.le_refl _) _).alloc (by simp) _)
  have R := Lib.hid (ha.keep B.out); have RP := Lib.hid (hp.keep B.out)
  clear ha hp hsz
  cases hq : okWk W H xs a b ps with
  | true =>
    have HQ := Lib.hid hq
    clear hq
    go_enter Try.func27, Try.ntmps27
    go_wp2_with fail
    rw [← hW2]
    clear hW2
    refine (blWalk_any W H A n c xs a b A2 m c2 ps _ R.out RP.out hcap).mono ?_
    rw [HQ.out]
    rintro e wv ⟨rfl, hb⟩
    replace a0 := cell_keep a0 al hb; replace a1 := cell_keep a1 al hb; replace a2 := cell_keep a2 al hb; replace al := lt_keep al hb
    replace l0 := cell_keep l0 ll hb; replace l1 := cell_keep l1 ll hb; replace ll := lt_keep ll hb
    replace R := Lib.hid (R.out.keep hb); replace RP := Lib.hid (RP.out.keep hb)
    replace B := Lib.hid (below_next B.out hb)
    clear hb
    have hml := ok_len HQ.out
    rw [HPL.out] at hml
    have hw9 : IntKind.i64.wrap ((m : Int) - 1) = (m : Int) - 1 := IntWalk.i64_in _ (by omega)
    by_cases hin : 1 ≤ q ∧ q ≤ (m : Int) - 1
    · have HIN := Lib.hid (show inB q 1 ((m : Int) - 1) = true by simp [inB]; exact hin)
      have HIN2 := Lib.hid (show inB q 1 ((ps.length : Int) - 1) = true by rw [HPL.out]; exact HIN.out)
      obtain ⟨k, rfl⟩ : ∃ k : Nat, q = (k : Int) := ⟨q.toNat, by omega⟩
      have hk1 : ¬ (k : Int) < 1 := by omega
      have hk2 : ¬ (m : Int) ≤ (k : Int) := by omega
      have hC := blCan_any W H A n c a b A2 m c2 ps k wv RP.out (ok_W HQ.out) (ok_64 HQ.out) (by omega) (by omega)
      have hT := fun w' (hr : Rd w' A2 m ps) => blTurn_any A2 m c2 ps k w' hr hcap (by omega) (by omega)
      have HT := Lib.hid hT
      clear hin hml hT
      cases hcan : canB W a b ps k with
      | true =>
        have HCN := Lib.hid hcan
        have OK := Lib.hid (show okTurn W H xs a b ps (k : Int) = true by rw [okTurn, HQ.out, HIN2.out, Int.toNat_natCast, hcan]; rfl)
        rw [hcan] at hC
        clear hcan
        go_wp2_with fail
        refine (l1In_any (k : Int) 1 ((m : Int) - 1) _).mono ?_
        rw [HIN.out]
        rintro e wx ⟨rfl, rfl⟩
        go_wp2_with fail
        refine hC.mono ?_
        rintro e wx ⟨rfl, hb⟩
        replace RP := Lib.hid (RP.out.keep hb)
        replace B := Lib.hid (below_next B.out hb)
        clear hb hC a0 a1 a2 l0 l1 al ll R
        go_wp2_with fail
        refine (HT.out _ RP.out).mono ?_
        rintro e wx ⟨A9, c9, rfl, own, hb⟩
        have O9 := Lib.hid (own.lower B.out.size)
        replace B := Lib.hid (below_next B.out hb)
        clear hb own
        go_wp2
        go_ret2
        exact ⟨_, _, _, by rw [OK.out]; rfl, by rw [tailV, if_pos OK.out, Int.toNat_natCast]; exact O9.out, B.out⟩
      | false =>
        have OK := Lib.hid (show okTurn W H xs a b ps (k : Int) = false by rw [okTurn, HQ.out, HIN2.out, Int.toNat_natCast, hcan]; rfl)
        rw [hcan] at hC
        clear hcan
        go_wp2_with fail
        refine (l1In_any (k : Int) 1 ((m : Int) - 1) _).mono ?_
        rw [HIN.out]
        rintro e wx ⟨rfl, rfl⟩
        go_wp2_with fail
        refine hC.mono ?_
        rintro e wx ⟨rfl, hb⟩
        replace B := Lib.hid (below_next B.out hb)
        clear hb hC a0 a1 a2 l0 l1 al ll R RP
        go_wp2
        go_ret2
        exact ⟨none, 0, 0, by rw [OK.out]; rfl, by rw [tailV, if_neg (by rw [OK.out]; simp)]; exact OwnI.none_ _ _ _, B.out⟩
    · have HIN := Lib.hid (show inB q 1 ((m : Int) - 1) = false by simp [inB]; omega)
      have OK := Lib.hid (show okTurn W H xs a b ps q = false by rw [okTurn, HPL.out, HIN.out, Bool.and_false]; rfl)
      clear a0 a1 a2 l0 l1 al ll hin
      go_wp2_with fail
      refine (l1In_any q 1 ((m : Int) - 1) _).mono ?_
      rw [HIN.out]
      rintro e wx ⟨rfl, rfl⟩
      go_wp2
      go_ret2
      exact ⟨none, 0, 0, by rw [OK.out]; rfl, by rw [tailV, if_neg (by rw [OK.out]; simp)]; exact OwnI.none_ _ _ _, B.out⟩
  | false =>
    have HQ := Lib.hid hq
    clear hq
    go_enter Try.func27, Try.ntmps27
    go_wp2_with fail
    rw [← hW2]
    clear hW2
    refine (blWalk_any W H A n c xs a b A2 m c2 ps _ R.out RP.out hcap).mono ?_
    rw [HQ.out]
    rintro e wv ⟨rfl, hb⟩
    replace a0 := cell_keep a0 al hb; replace a1 := cell_keep a1 al hb; replace a2 := cell_keep a2 al hb; replace al := lt_keep al hb
    replace l0 := cell_keep l0 ll hb; replace l1 := cell_keep l1 ll hb; replace ll := lt_keep ll hb
    replace R := Lib.hid (R.out.keep hb); replace RP := Lib.hid (RP.out.keep hb)
    replace B := Lib.hid (below_next B.out hb)
    clear hb
    clear a0 a1 a2 l0 l1 al ll
    go_wp2
    go_ret2
    exact ⟨none, 0, 0, by rw [show okTurn W H xs a b ps q = false by rw [okTurn, HQ.out]; rfl]; rfl, by rw [tailV, if_neg (by rw [show okTurn W H xs a b ps q = false by rw [okTurn, HQ.out]; rfl]; simp)]; exact OwnI.none_ _ _ _, B.out⟩

set_option maxRecDepth 100000 in
set_option maxHeartbeats 2000000 in
theorem impl_TurnTail (W H : Int) (A : Option Addr) (n c : Nat) (xs : List Int) (a b : Int) (A2 : Option Addr) (m c2 : Nat) (ps : List Int) (q : Int) (w : World) (ha : Rd w A n xs) (hp : Rd w A2 m ps) (_ : m ≤ c2) :
    Calls Try.prog 28 #[brd W H A n c, lpr a b, .slice A2 m c2, .int .i64 q] w fun e w' => ∃ A' n' c', e = .returned (.tuple #[.slice A' n' c', .bool (okTurn W H xs a b ps q)]) ∧ OwnI 3 w' w.heap.size A' n' c' (tailV W H xs a b ps q) ∧ Below w.heap.size w w' := by
  have HPL := Lib.hid hp.1
  have m9 := hp.2.1
  obtain ⟨W2, hW2⟩ : ∃ W2, W2 = ((w.alloc (.cells #[.int .i64 W, .int .i64 H, .slice A n c] 30)).alloc (.cells #[.int .i64 a, .int .i64 b] 32)).alloc (.cells #[.slice A2 m c2] 22) := ⟨_, rfl⟩
  have a0 : W2.cell? ⟨w.heap.size, 0, none⟩ = some (.int .i64 W) := by rw [hW2]; go_simp
  have a1 : W2.cell? ⟨w.heap.size, 1, none⟩ = some (.int .i64 H) := by rw [hW2]; go_simp
  have a2 : W2.cell? ⟨w.heap.size, 2, none⟩ = some (.slice A n c) := by rw [hW2]; go_simp
  have l0 : W2.cell? ⟨w.heap.size + 1, 0, none⟩ = some (.int .i64 a) := by rw [hW2]; go_simp
  have l1 : W2.cell? ⟨w.heap.size + 1, 1, none⟩ = some (.int .i64 b) := by rw [hW2]; go_simp
  have hsz : W2.heap.size = w.heap.size + 3 := by rw [hW2]; simp
  have al : w.heap.size < W2.heap.size := by omega
  have ll : w.heap.size + 1 < W2.heap.size := by omega
  have B := Lib.hid (show Below w.heap.size w W2 by rw [hW2]; exact (((Below.refl _ _).alloc (Nat.le_refl _) _).alloc (by simp) _).alloc (by simp; omega) _)
  have R := Lib.hid (ha.keep B.out); have RP := Lib.hid (hp.keep B.out)
  have WA := Lib.hid (show WalksAt W2 (w.heap.size + 1 + 1) [ps] from ⟨by omega, fun i l hi => by
    rcases i with _ | i
    · injection hi with hi; subst hi; exact ⟨A2, m, c2, by rw [hW2]; go_simp, hp.keep B.out⟩
    · simp at hi⟩)
  clear ha hp hsz
  cases hq : okWk W H xs a b ps with
  | true =>
    have HQ := Lib.hid hq
    clear hq
    go_enter Try.func28, Try.ntmps28
    go_wp2_with fail
    rw [← hW2]
    clear hW2
    refine (areWalks_any W H A n c xs a b _ 1 [ps] _ R.out WA.out rfl (by decide)).mono ?_
    rw [wks_one, show (twoV W H xs a b && walkB W H xs a b ps) = true from HQ.out]
    rintro e wv ⟨rfl, hb⟩
    replace a0 := cell_keep a0 al hb; replace a1 := cell_keep a1 al hb; replace a2 := cell_keep a2 al hb; replace al := lt_keep al hb
    replace l0 := cell_keep l0 ll hb; replace l1 := cell_keep l1 ll hb; replace ll := lt_keep ll hb
    replace R := Lib.hid (R.out.keep hb); replace RP := Lib.hid (RP.out.keep hb)
    replace B := Lib.hid (below_next B.out hb)
    clear hb
    clear WA
    have hml := ok_len HQ.out
    rw [HPL.out] at hml
    have hw9 : IntKind.i64.wrap ((m : Int) - 1) = (m : Int) - 1 := IntWalk.i64_in _ (by omega)
    by_cases hin : 1 ≤ q ∧ q ≤ (m : Int) - 1
    · have HIN := Lib.hid (show inB q 1 ((m : Int) - 1) = true by simp [inB]; exact hin)
      have HIN2 := Lib.hid (show inB q 1 ((ps.length : Int) - 1) = true by rw [HPL.out]; exact HIN.out)
      obtain ⟨k, rfl⟩ : ∃ k : Nat, q = (k : Int) := ⟨q.toNat, by omega⟩
      have hk1 : ¬ (k : Int) < 1 := by omega
      have hk2 : ¬ (m : Int) ≤ (k : Int) := by omega
      have hC := canTurn_any W H A n c a b A2 m c2 ps k wv RP.out (ok_W HQ.out) (ok_64 HQ.out) (by omega) (by omega)
      have hT := fun w' (hr : Rd w' A2 m ps) => turnedAt_any A2 m c2 ps k w' hr (by omega) (by omega)
      have HT := Lib.hid hT
      clear hin hml hT
      cases hcan : canB W a b ps k with
      | true =>
        have HCN := Lib.hid hcan
        have OK := Lib.hid (show okTurn W H xs a b ps (k : Int) = true by rw [okTurn, HQ.out, HIN2.out, Int.toNat_natCast, hcan]; rfl)
        rw [hcan] at hC
        clear hcan
        go_wp2_with fail
        refine hC.mono ?_
        rintro e wx ⟨rfl, hb⟩
        replace RP := Lib.hid (RP.out.keep hb)
        replace B := Lib.hid (below_next B.out hb)
        clear hb hC a0 a1 a2 l0 l1 al ll R
        go_wp2_with fail
        refine (HT.out _ RP.out).mono ?_
        rintro e wx ⟨A9, c9, rfl, own, hb⟩
        have O9 := Lib.hid (own.lower B.out.size)
        replace B := Lib.hid (below_next B.out hb)
        clear hb own
        go_wp2
        go_ret2
        exact ⟨_, _, _, by rw [OK.out]; rfl, by rw [tailV, if_pos OK.out, Int.toNat_natCast]; exact O9.out, B.out⟩
      | false =>
        have OK := Lib.hid (show okTurn W H xs a b ps (k : Int) = false by rw [okTurn, HQ.out, HIN2.out, Int.toNat_natCast, hcan]; rfl)
        rw [hcan] at hC
        clear hcan
        go_wp2_with fail
        refine hC.mono ?_
        rintro e wx ⟨rfl, hb⟩
        replace B := Lib.hid (below_next B.out hb)
        clear hb hC a0 a1 a2 l0 l1 al ll R RP
        go_wp2
        go_ret2
        exact ⟨none, 0, 0, by rw [OK.out]; rfl, by rw [tailV, if_neg (by rw [OK.out]; simp)]; exact OwnI.none_ _ _ _, B.out⟩
    · have HIN := Lib.hid (show inB q 1 ((m : Int) - 1) = false by simp [inB]; omega)
      have OK := Lib.hid (show okTurn W H xs a b ps q = false by rw [okTurn, HPL.out, HIN.out, Bool.and_false]; rfl)
      by_cases hq1 : q < 1
      · clear a0 a1 a2 l0 l1 al ll hin
        go_wp2
        go_ret2
        exact ⟨none, 0, 0, by rw [OK.out]; rfl, by rw [tailV, if_neg (by rw [OK.out]; simp)]; exact OwnI.none_ _ _ _, B.out⟩
      · have hq2 : (m : Int) ≤ q := by omega
        clear a0 a1 a2 l0 l1 al ll hin
        go_wp2
        go_ret2
        exact ⟨none, 0, 0, by rw [OK.out]; rfl, by rw [tailV, if_neg (by rw [OK.out]; simp)]; exact OwnI.none_ _ _ _, B.out⟩
  | false =>
    have HQ := Lib.hid hq
    clear hq
    go_enter Try.func28, Try.ntmps28
    go_wp2_with fail
    rw [← hW2]
    clear hW2
    refine (areWalks_any W H A n c xs a b _ 1 [ps] _ R.out WA.out rfl (by decide)).mono ?_
    rw [wks_one, show (twoV W H xs a b && walkB W H xs a b ps) = false from HQ.out]
    rintro e wv ⟨rfl, hb⟩
    replace a0 := cell_keep a0 al hb; replace a1 := cell_keep a1 al hb; replace a2 := cell_keep a2 al hb; replace al := lt_keep al hb
    replace l0 := cell_keep l0 ll hb; replace l1 := cell_keep l1 ll hb; replace ll := lt_keep ll hb
    replace R := Lib.hid (R.out.keep hb); replace RP := Lib.hid (RP.out.keep hb)
    replace B := Lib.hid (below_next B.out hb)
    clear hb
    clear WA
    clear a0 a1 a2 l0 l1 al ll
    go_wp2
    go_ret2
    exact ⟨none, 0, 0, by rw [show okTurn W H xs a b ps q = false by rw [okTurn, HQ.out]; rfl]; rfl, by rw [tailV, if_neg (by rw [show okTurn W H xs a b ps q = false by rw [okTurn, HQ.out]; rfl]; simp)]; exact OwnI.none_ _ _ _, B.out⟩

end Go.Proofs.Ytphjkmikleldcaa
