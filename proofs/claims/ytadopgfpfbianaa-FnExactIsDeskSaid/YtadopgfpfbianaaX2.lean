/-
  Contracts: what is a desk; IsDesk.
-/
import Derived.Test.YtadopgfpfbianaaX1
import Derived.Test.YtadopgfpfbianaaK5
namespace Go.Proofs.Ytadopgfpfbianaa
open Go.RowKit

def deskB (W H : Int) (xs : List Int) (a b : Int) (ps : List Int) : Bool := twoV W H xs a b && (ps.isEmpty || walkB W H xs a b ps)

set_option maxRecDepth 100000 in
set_option maxHeartbeats 2000000 in
theorem coGood_any (W H : Int) (A : Option Addr) (n c : Nat) (a b : Int) (A2 : Option Addr) (n2 c2 : Nat) (xs ps : List Int) (w : World) (ha : Rd w A n xs) (hp : Rd w A2 n2 ps) (hcap : n2 ≤ c2) :
    Calls Try.prog 53 #[pzv W H A n c a b A2 n2 c2] w fun e w' => e = .returned (.bool (deskB W H xs a b ps)) ∧ Below w.heap.size w w' := by
  have HL := Lib.hid hp.1
  have n9 := hp.2.1
  have HC := Lib.hid hcap
  clear hcap
  obtain ⟨W2, hW2⟩ : ∃ W2, W2 = w.alloc (.cells #[.int .i64 W, .int .i64 H, .slice A n c, .int .i64 a, .int .i64 b, .slice A2 n2 c2] 28) := ⟨_, rfl⟩
  have BP := Lib.hid (show Bx W2 (w.heap.size) #[.int .i64 W, .int .i64 H, .slice A n c, .int .i64 a, .int .i64 b, .slice A2 n2 c2] 28 by rw [hW2]; exact Bx.new (w) #[.int .i64 W, .int .i64 H, .slice A n c, .int .i64 a, .int .i64 b, .slice A2 n2 c2] 28)
  have B := Lib.hid (show Below w.heap.size w W2 by rw [hW2]; repeat (first | exact Below.refl _ _ | refine below_new ?_ _))
  have HSZ := Lib.hid (show w.heap.size + 1 ≤ W2.heap.size by rw [hW2]; simp)
  have RH := Lib.hid (ha.keep B.out); have RN := Lib.hid (hp.keep B.out)
  clear ha hp
  by_cases ht : twoV W H xs a b = true
  · by_cases h0 : n2 = 0
    · obtain rfl : ps = [] := List.length_eq_zero_iff.1 (by have := HL.out; omega)
      have H0 := Lib.hid h0
      clear h0
      have p0 : W2.cell? ⟨w.heap.size, 0, none⟩ = some (.int .i64 W) := BP.out.cell rfl
      have p1 : W2.cell? ⟨w.heap.size, 1, none⟩ = some (.int .i64 H) := BP.out.cell rfl
      have p2 : W2.cell? ⟨w.heap.size, 2, none⟩ = some (.slice A n c) := BP.out.cell rfl
      have p3 : W2.cell? ⟨w.heap.size, 3, none⟩ = some (.int .i64 a) := BP.out.cell rfl
      have p4 : W2.cell? ⟨w.heap.size, 4, none⟩ = some (.int .i64 b) := BP.out.cell rfl
      have p5 : W2.cell? ⟨w.heap.size, 5, none⟩ = some (.slice A2 n2 c2) := BP.out.cell rfl
      go_enter Try.func53, Try.ntmps53
      go_wp2_with fail
      rw [← hW2]
      clear hW2
      clear p0 p1 p2 p3 p4 p5
      refine (boTwoV_any _ _ _ _ _ _ _ _ _ RH.out).mono ?_
      rw [ht]
      rintro e wv ⟨rfl, hb⟩
      replace BP := Lib.hid (BP.out.keep hb)
      replace RH := Lib.hid (RH.out.keep hb)
      replace RN := Lib.hid (RN.out.keep hb)
      replace HSZ := Lib.hid (Nat.le_trans HSZ.out hb.size)
      replace B := Lib.hid (below_next B.out hb)
      clear hb
      have p0 : wv.cell? ⟨w.heap.size, 0, none⟩ = some (.int .i64 W) := BP.out.cell rfl
      have p1 : wv.cell? ⟨w.heap.size, 1, none⟩ = some (.int .i64 H) := BP.out.cell rfl
      have p2 : wv.cell? ⟨w.heap.size, 2, none⟩ = some (.slice A n c) := BP.out.cell rfl
      have p3 : wv.cell? ⟨w.heap.size, 3, none⟩ = some (.int .i64 a) := BP.out.cell rfl
      have p4 : wv.cell? ⟨w.heap.size, 4, none⟩ = some (.int .i64 b) := BP.out.cell rfl
      have p5 : wv.cell? ⟨w.heap.size, 5, none⟩ = some (.slice A2 n2 c2) := BP.out.cell rfl
      have h0' : ((n2 : Int) == 0) = true := by have := H0.out; simp; omega
      go_wp2
      go_ret
      exact ⟨ret_bool (by rw [deskB, ht]; rfl), B.out⟩
    · have h0' : ((n2 : Int) == 0) = false := by simp; omega
      have HE := Lib.hid (show ps.isEmpty = false by cases ps with | nil => exact absurd HL.out.symm h0 | cons _ _ => rfl)
      have HG := Lib.hid (two_gK ht)
      have HT := Lib.hid ht
      have p0 : W2.cell? ⟨w.heap.size, 0, none⟩ = some (.int .i64 W) := BP.out.cell rfl
      have p1 : W2.cell? ⟨w.heap.size, 1, none⟩ = some (.int .i64 H) := BP.out.cell rfl
      have p2 : W2.cell? ⟨w.heap.size, 2, none⟩ = some (.slice A n c) := BP.out.cell rfl
      have p3 : W2.cell? ⟨w.heap.size, 3, none⟩ = some (.int .i64 a) := BP.out.cell rfl
      have p4 : W2.cell? ⟨w.heap.size, 4, none⟩ = some (.int .i64 b) := BP.out.cell rfl
      have p5 : W2.cell? ⟨w.heap.size, 5, none⟩ = some (.slice A2 n2 c2) := BP.out.cell rfl
      go_enter Try.func53, Try.ntmps53
      go_wp2_with fail
      rw [← hW2]
      clear hW2
      clear p0 p1 p2 p3 p4 p5
      refine (boTwoV_any _ _ _ _ _ _ _ _ _ RH.out).mono ?_
      rw [ht]
      rintro e wv ⟨rfl, hb⟩
      replace BP := Lib.hid (BP.out.keep hb)
      replace RH := Lib.hid (RH.out.keep hb)
      replace RN := Lib.hid (RN.out.keep hb)
      replace HSZ := Lib.hid (Nat.le_trans HSZ.out hb.size)
      replace B := Lib.hid (below_next B.out hb)
      clear hb
      have p0 : wv.cell? ⟨w.heap.size, 0, none⟩ = some (.int .i64 W) := BP.out.cell rfl
      have p1 : wv.cell? ⟨w.heap.size, 1, none⟩ = some (.int .i64 H) := BP.out.cell rfl
      have p2 : wv.cell? ⟨w.heap.size, 2, none⟩ = some (.slice A n c) := BP.out.cell rfl
      have p3 : wv.cell? ⟨w.heap.size, 3, none⟩ = some (.int .i64 a) := BP.out.cell rfl
      have p4 : wv.cell? ⟨w.heap.size, 4, none⟩ = some (.int .i64 b) := BP.out.cell rfl
      have p5 : wv.cell? ⟨w.heap.size, 5, none⟩ = some (.slice A2 n2 c2) := BP.out.cell rfl
      clear ht
      go_wp2_with fail
      clear p0 p1 p2 p3 p4 p5
      refine (toWalk_any _ _ _ _ _ _ _ _ _ _ _ _ _ RH.out RN.out HC.out HG.out).mono ?_
      rintro e wv ⟨rfl, hb⟩
      replace BP := Lib.hid (BP.out.keep hb)
      replace RH := Lib.hid (RH.out.keep hb)
      replace RN := Lib.hid (RN.out.keep hb)
      replace HSZ := Lib.hid (Nat.le_trans HSZ.out hb.size)
      replace B := Lib.hid (below_next B.out hb)
      clear hb
      go_wp2
      go_ret
      exact ⟨ret_bool (by rw [deskB, HT.out, HE.out]; rfl), B.out⟩
  · have p0 : W2.cell? ⟨w.heap.size, 0, none⟩ = some (.int .i64 W) := BP.out.cell rfl
    have p1 : W2.cell? ⟨w.heap.size, 1, none⟩ = some (.int .i64 H) := BP.out.cell rfl
    have p2 : W2.cell? ⟨w.heap.size, 2, none⟩ = some (.slice A n c) := BP.out.cell rfl
    have p3 : W2.cell? ⟨w.heap.size, 3, none⟩ = some (.int .i64 a) := BP.out.cell rfl
    have p4 : W2.cell? ⟨w.heap.size, 4, none⟩ = some (.int .i64 b) := BP.out.cell rfl
    have p5 : W2.cell? ⟨w.heap.size, 5, none⟩ = some (.slice A2 n2 c2) := BP.out.cell rfl
    go_enter Try.func53, Try.ntmps53
    go_wp2_with fail
    rw [← hW2]
    clear hW2
    clear p0 p1 p2 p3 p4 p5
    refine (boTwoV_any _ _ _ _ _ _ _ _ _ RH.out).mono ?_
    rw [show twoV W H xs a b = false by simpa using ht]
    rintro e wv ⟨rfl, hb⟩
    replace BP := Lib.hid (BP.out.keep hb)
    replace RH := Lib.hid (RH.out.keep hb)
    replace RN := Lib.hid (RN.out.keep hb)
    replace HSZ := Lib.hid (Nat.le_trans HSZ.out hb.size)
    replace B := Lib.hid (below_next B.out hb)
    clear hb
    go_wp2
    go_ret
    exact ⟨ret_bool (by rw [deskB, show twoV W H xs a b = false by simpa using ht]; rfl), B.out⟩

set_option maxRecDepth 100000 in
set_option maxHeartbeats 1000000 in
theorem spec_IsDesk (W H : Int) (A : Option Addr) (n c : Nat) (a b : Int) (A2 : Option Addr) (n2 c2 : Nat) (xs ps : List Int) (w : World) (ha : Rd w A n xs) (hp : Rd w A2 n2 ps) (hcap : n2 ≤ c2) :
    Calls Try.prog 20 #[pzv W H A n c a b A2 n2 c2] w fun e w' => e = .returned (.bool (deskB W H xs a b ps)) ∧ Below w.heap.size w w' := by
  go_enter Try.func20, Try.ntmps20
  go_wp2_with fail
  refine (coGood_any W H A n c a b A2 n2 c2 xs ps _ (ha.alloc _) (hp.alloc _) hcap).mono ?_
  rintro e wv ⟨rfl, hb⟩
  have HB := Lib.hid (below_box hb)
  clear hb
  go_wp2
  go_ret
  exact ⟨rfl, HB.out⟩

set_option maxRecDepth 100000 in
set_option maxHeartbeats 2000000 in
theorem impl_IsDesk (W H : Int) (A : Option Addr) (n c : Nat) (a b : Int) (A2 : Option Addr) (n2 c2 : Nat) (xs ps : List Int) (w : World) (ha : Rd w A n xs) (hp : Rd w A2 n2 ps) :
    Calls Try.prog 22 #[pzv W H A n c a b A2 n2 c2] w fun e w' => e = .returned (.bool (deskB W H xs a b ps)) ∧ Below w.heap.size w w' := by
  have HL := Lib.hid hp.1
  have n9 := hp.2.1
  obtain ⟨W2, hW2⟩ : ∃ W2, W2 = w.alloc (.cells #[.int .i64 W, .int .i64 H, .slice A n c, .int .i64 a, .int .i64 b, .slice A2 n2 c2] 28) := ⟨_, rfl⟩
  have BP := Lib.hid (show Bx W2 (w.heap.size) #[.int .i64 W, .int .i64 H, .slice A n c, .int .i64 a, .int .i64 b, .slice A2 n2 c2] 28 by rw [hW2]; exact Bx.new (w) #[.int .i64 W, .int .i64 H, .slice A n c, .int .i64 a, .int .i64 b, .slice A2 n2 c2] 28)
  have B := Lib.hid (show Below w.heap.size w W2 by rw [hW2]; repeat (first | exact Below.refl _ _ | refine below_new ?_ _))
  have HSZ := Lib.hid (show w.heap.size + 1 ≤ W2.heap.size by rw [hW2]; simp)
  have RH := Lib.hid (ha.keep B.out); have RN := Lib.hid (hp.keep B.out)
  clear ha hp
  by_cases ht : twoV W H xs a b = true
  · by_cases h0 : n2 = 0
    · obtain rfl : ps = [] := List.length_eq_zero_iff.1 (by have := HL.out; omega)
      have H0 := Lib.hid h0
      clear h0
      have p0 : W2.cell? ⟨w.heap.size, 0, none⟩ = some (.int .i64 W) := BP.out.cell rfl
      have p1 : W2.cell? ⟨w.heap.size, 1, none⟩ = some (.int .i64 H) := BP.out.cell rfl
      have p2 : W2.cell? ⟨w.heap.size, 2, none⟩ = some (.slice A n c) := BP.out.cell rfl
      have p3 : W2.cell? ⟨w.heap.size, 3, none⟩ = some (.int .i64 a) := BP.out.cell rfl
      have p4 : W2.cell? ⟨w.heap.size, 4, none⟩ = some (.int .i64 b) := BP.out.cell rfl
      have p5 : W2.cell? ⟨w.heap.size, 5, none⟩ = some (.slice A2 n2 c2) := BP.out.cell rfl
      go_enter Try.func22, Try.ntmps22
      go_wp2_with fail
      rw [← hW2]
      clear hW2
      clear p0 p1 p2 p3 p4 p5
      refine (isOn0_any _ _ _ _ _ _ _ _ _ RH.out).mono ?_
      rw [ht]
      rintro e wv ⟨rfl, hb⟩
      replace BP := Lib.hid (BP.out.keep hb)
      replace RH := Lib.hid (RH.out.keep hb)
      replace RN := Lib.hid (RN.out.keep hb)
      replace HSZ := Lib.hid (Nat.le_trans HSZ.out hb.size)
      replace B := Lib.hid (below_next B.out hb)
      clear hb
      have p0 : wv.cell? ⟨w.heap.size, 0, none⟩ = some (.int .i64 W) := BP.out.cell rfl
      have p1 : wv.cell? ⟨w.heap.size, 1, none⟩ = some (.int .i64 H) := BP.out.cell rfl
      have p2 : wv.cell? ⟨w.heap.size, 2, none⟩ = some (.slice A n c) := BP.out.cell rfl
      have p3 : wv.cell? ⟨w.heap.size, 3, none⟩ = some (.int .i64 a) := BP.out.cell rfl
      have p4 : wv.cell? ⟨w.heap.size, 4, none⟩ = some (.int .i64 b) := BP.out.cell rfl
      have p5 : wv.cell? ⟨w.heap.size, 5, none⟩ = some (.slice A2 n2 c2) := BP.out.cell rfl
      have h0' : ((n2 : Int) == 0) = true := by have := H0.out; simp; omega
      go_wp2
      go_ret
      exact ⟨ret_bool (by rw [deskB, ht]; rfl), B.out⟩
    · have h0' : ((n2 : Int) == 0) = false := by simp; omega
      have HE := Lib.hid (show ps.isEmpty = false by cases ps with | nil => exact absurd HL.out.symm h0 | cons _ _ => rfl)
      have HG := Lib.hid (two_gK ht)
      have HT := Lib.hid ht
      have p0 : W2.cell? ⟨w.heap.size, 0, none⟩ = some (.int .i64 W) := BP.out.cell rfl
      have p1 : W2.cell? ⟨w.heap.size, 1, none⟩ = some (.int .i64 H) := BP.out.cell rfl
      have p2 : W2.cell? ⟨w.heap.size, 2, none⟩ = some (.slice A n c) := BP.out.cell rfl
      have p3 : W2.cell? ⟨w.heap.size, 3, none⟩ = some (.int .i64 a) := BP.out.cell rfl
      have p4 : W2.cell? ⟨w.heap.size, 4, none⟩ = some (.int .i64 b) := BP.out.cell rfl
      have p5 : W2.cell? ⟨w.heap.size, 5, none⟩ = some (.slice A2 n2 c2) := BP.out.cell rfl
      go_enter Try.func22, Try.ntmps22
      go_wp2_with fail
      rw [← hW2]
      clear hW2
      clear p0 p1 p2 p3 p4 p5
      refine (isOn0_any _ _ _ _ _ _ _ _ _ RH.out).mono ?_
      rw [ht]
      rintro e wv ⟨rfl, hb⟩
      replace BP := Lib.hid (BP.out.keep hb)
      replace RH := Lib.hid (RH.out.keep hb)
      replace RN := Lib.hid (RN.out.keep hb)
      replace HSZ := Lib.hid (Nat.le_trans HSZ.out hb.size)
      replace B := Lib.hid (below_next B.out hb)
      clear hb
      have p0 : wv.cell? ⟨w.heap.size, 0, none⟩ = some (.int .i64 W) := BP.out.cell rfl
      have p1 : wv.cell? ⟨w.heap.size, 1, none⟩ = some (.int .i64 H) := BP.out.cell rfl
      have p2 : wv.cell? ⟨w.heap.size, 2, none⟩ = some (.slice A n c) := BP.out.cell rfl
      have p3 : wv.cell? ⟨w.heap.size, 3, none⟩ = some (.int .i64 a) := BP.out.cell rfl
      have p4 : wv.cell? ⟨w.heap.size, 4, none⟩ = some (.int .i64 b) := BP.out.cell rfl
      have p5 : wv.cell? ⟨w.heap.size, 5, none⟩ = some (.slice A2 n2 c2) := BP.out.cell rfl
      clear ht
      go_wp2_with fail
      clear p0 p1 p2 p3 p4 p5
      refine (isWalk_any _ _ _ _ _ _ _ _ _ _ _ _ _ RH.out RN.out HG.out).mono ?_
      rintro e wv ⟨rfl, hb⟩
      replace BP := Lib.hid (BP.out.keep hb)
      replace RH := Lib.hid (RH.out.keep hb)
      replace RN := Lib.hid (RN.out.keep hb)
      replace HSZ := Lib.hid (Nat.le_trans HSZ.out hb.size)
      replace B := Lib.hid (below_next B.out hb)
      clear hb
      go_wp2
      go_ret
      exact ⟨ret_bool (by rw [deskB, HT.out, HE.out]; rfl), B.out⟩
  · have p0 : W2.cell? ⟨w.heap.size, 0, none⟩ = some (.int .i64 W) := BP.out.cell rfl
    have p1 : W2.cell? ⟨w.heap.size, 1, none⟩ = some (.int .i64 H) := BP.out.cell rfl
    have p2 : W2.cell? ⟨w.heap.size, 2, none⟩ = some (.slice A n c) := BP.out.cell rfl
    have p3 : W2.cell? ⟨w.heap.size, 3, none⟩ = some (.int .i64 a) := BP.out.cell rfl
    have p4 : W2.cell? ⟨w.heap.size, 4, none⟩ = some (.int .i64 b) := BP.out.cell rfl
    have p5 : W2.cell? ⟨w.heap.size, 5, none⟩ = some (.slice A2 n2 c2) := BP.out.cell rfl
    go_enter Try.func22, Try.ntmps22
    go_wp2_with fail
    rw [← hW2]
    clear hW2
    clear p0 p1 p2 p3 p4 p5
    refine (isOn0_any _ _ _ _ _ _ _ _ _ RH.out).mono ?_
    rw [show twoV W H xs a b = false by simpa using ht]
    rintro e wv ⟨rfl, hb⟩
    replace BP := Lib.hid (BP.out.keep hb)
    replace RH := Lib.hid (RH.out.keep hb)
    replace RN := Lib.hid (RN.out.keep hb)
    replace HSZ := Lib.hid (Nat.le_trans HSZ.out hb.size)
    replace B := Lib.hid (below_next B.out hb)
    clear hb
    go_wp2
    go_ret
    exact ⟨ret_bool (by rw [deskB, show twoV W H xs a b = false by simpa using ht]; rfl), B.out⟩

set_option maxRecDepth 100000 in
set_option maxHeartbeats 1000000 in
theorem spec_FirstDesk (w : World) :
    Calls Try.prog 14 #[] w fun e w' => e = .returned (pzv 4 3 none 0 0 1 2 none 0 0) ∧ Below w.heap.size w w' := by
  go_enter Try.func14, Try.ntmps14
  go_wp2
  refine bodyPost_ret (v := pzv 4 3 none 0 0 1 2 none 0 0) (by simp [results, Try.results14, go_sem]) rfl ⟨rfl, ?_⟩
  exact below_new (Below.refl _ _) _

set_option maxRecDepth 100000 in
set_option maxHeartbeats 1000000 in
theorem impl_FirstDesk (w : World) :
    Calls Try.prog 15 #[] w fun e w' => e = .returned (pzv 4 3 none 0 0 1 2 none 0 0) ∧ Below w.heap.size w w' := by
  go_enter Try.func15, Try.ntmps15
  go_wp2
  refine bodyPost_ret (v := pzv 4 3 none 0 0 1 2 none 0 0) (by simp [results, Try.results15, go_sem]) rfl ⟨rfl, ?_⟩
  exact below_new (Below.refl _ _) _

end Go.Proofs.Ytadopgfpfbianaa
