/-
  Contracts: whether leaps change the colour, the common step of a leaper.
-/
import Derived.Test.YtjigbjfhjbhkdaaB2
import Derived.Test.YtjigbjfhjbhkdaaApp
namespace Go.Proofs.Ytjigbjfhjbhkdaa
open Go.RowKit

def oddB (a b : Int) : Bool := (a + b) % 2 == 1
def changesV (a b : Int) : Bool := leaperB a b && oddB a b
/-- The greatest common divisor of both numbers. -/
def gcdV (a b : Int) : Int := (Nat.gcd a.toNat b.toNat : Int)
def commonV (a b : Int) : Int := if leaperB a b then gcdV a b else 0
def reachAllV (a b : Int) : Bool := leaperB a b && (gcdV a b == 1 && oddB a b)
theorem gcdV_rng {a b : Int} (h : leaperB a b = true) : 1 ≤ gcdV a b ∧ gcdV a b ≤ 5 := by
  have h1 := leaperB_iff.1 h
  have h2 : 0 < b.toNat := by omega
  have h3 := Nat.gcd_pos_of_pos_right a.toNat h2
  have h4 := Nat.gcd_le_right a.toNat h2
  unfold gcdV; omega

set_option maxHeartbeats 400000 in
theorem changes_any (a b : Int) (w : World) (hl : leaperB a b = true) :
    Calls Try.prog 49 #[lpr a b] w fun e w' => e = .returned (.bool (oddB a b)) ∧ Below w.heap.size w w' := by
  obtain ⟨l1, l2, l3, l4⟩ := leaperB_iff.1 hl
  have h0 : 0 ≤ a + b := by omega
  have h9 : a + b ≤ 10 := by omega
  clear hl
  go_enter Try.func49, Try.ntmps49
  go_wp2
  go_ret
  exact ⟨ret_bool (by rw [oddB]), below_new (Below.refl _ _) _⟩

set_option maxHeartbeats 1000000 in
theorem spec_ChangesColour (a b : Int) (w : World) :
    Calls Try.prog 23 #[lpr a b] w fun e w' => e = .returned (.tuple #[.bool (changesV a b), .bool (leaperB a b)]) ∧ Below w.heap.size w w' := by
  by_cases hl : leaperB a b = true
  · obtain ⟨l1, l2, l3, l4⟩ := leaperB_iff.1 hl
    have h0 : 0 ≤ a + b := by omega
    have h9 : a + b ≤ 10 := by omega
    have HL := Lib.hid hl
    go_enter Try.func23, Try.ntmps23
    go_wp2_with fail
    refine (boLeaper_any _ _ _).mono ?_
    rw [hl]
    rintro e w1 ⟨rfl, hb1⟩
    have hb0 := newbox hb1 0; have hb2 := newbox hb1 1; have hlt := newbox_lt hb1
    simp only [List.getElem?_toArray, List.getElem?_cons_zero, List.getElem?_cons_succ] at hb0 hb2
    have HB1 := Lib.hid (below_box hb1)
    clear hb1 hl
    go_wp2
    go_ret2
    exact ⟨by rw [changesV, HL.out]; rfl, HB1.out⟩
  · have hl' : leaperB a b = false := by simpa using hl
    go_enter Try.func23, Try.ntmps23
    go_wp2_with fail
    refine (boLeaper_any _ _ _).mono ?_
    rw [hl']
    rintro e w1 ⟨rfl, hb1⟩
    have HB1 := Lib.hid (below_box hb1)
    clear hb1
    go_wp2
    go_ret2
    exact ⟨by rw [changesV, hl']; rfl, HB1.out⟩

set_option maxHeartbeats 1000000 in
theorem impl_ChangesColour (a b : Int) (w : World) :
    Calls Try.prog 24 #[lpr a b] w fun e w' => e = .returned (.tuple #[.bool (changesV a b), .bool (leaperB a b)]) ∧ Below w.heap.size w w' := by
  by_cases hl : leaperB a b = true
  · have HL := Lib.hid hl
    go_enter Try.func24, Try.ntmps24
    go_wp2_with fail
    refine (isLeaper_any _ _ _).mono ?_
    rw [hl]
    rintro e w1 ⟨rfl, hb1⟩
    have hb0 := newbox hb1 0; have hb2 := newbox hb1 1; have hlt := newbox_lt hb1
    simp only [List.getElem?_toArray, List.getElem?_cons_zero, List.getElem?_cons_succ] at hb0 hb2
    have HB1 := Lib.hid (below_box hb1)
    clear hb1 hl
    go_wp2_with fail
    refine (changes_any _ _ _ HL.out).mono ?_
    rintro e w2 ⟨rfl, hb2⟩
    replace HB1 := Lib.hid (below_next HB1.out hb2)
    clear hb2
    go_wp2
    go_ret2
    exact ⟨by rw [changesV, HL.out]; rfl, HB1.out⟩
  · have hl' : leaperB a b = false := by simpa using hl
    go_enter Try.func24, Try.ntmps24
    go_wp2_with fail
    refine (isLeaper_any _ _ _).mono ?_
    rw [hl']
    rintro e w1 ⟨rfl, hb1⟩
    have HB1 := Lib.hid (below_box hb1)
    clear hb1
    go_wp2
    go_ret2
    exact ⟨by rw [changesV, hl']; rfl, HB1.out⟩

theorem gcd_step (m n : Nat) : Nat.gcd (m % n) n = Nat.gcd n m := by rw [← Nat.gcd_rec]

set_option maxHeartbeats 1000000 in
theorem paCommon_any (a b : Int) (w : World) (hl : leaperB a b = true) :
    Calls Try.prog 50 #[lpr a b] w fun e w' => e = .returned (.int .i64 (gcdV a b)) ∧ Below w.heap.size w w' := by
  obtain ⟨l1, l2, l3, l4⟩ := leaperB_iff.1 hl
  clear hl
  go_enter Try.func50, Try.ntmps50
  go_wp2
  go_quiet (fail)
  go_wp2
  go_loopw [3, 4] (fun x y wr => ∃ m n : Nat, m ≤ 5 ∧ n ≤ 5 ∧ x = .int .i64 n ∧ y = .int .i64 m ∧ Nat.gcd n m = Nat.gcd a.toNat b.toNat ∧ Below w.heap.size w wr) (fun x _ _ => (intOf x).toNat)
  case atStart => exact ⟨b.toNat, a.toNat, by omega, by omega, by go_num, by go_num, rfl, below_drewN (below_new (Below.refl _ _) _) _⟩
  case round =>
    obtain ⟨m, n, hm, hn, rfl, rfl, hgc, hbw⟩ := hrel
    have HG := Lib.hid hgc; have HB := Lib.hid hbw
    clear hgc hbw
    by_cases h : 0 < n
    · go_wp2
      go_roundw
      case rel => exact ⟨n, m % n, by omega, by have := Nat.mod_lt m h; omega, by go_num, rfl, by rw [gcd_step]; exact HG.out, HB.out⟩
      case measure => simp [intOf]; have := Nat.mod_lt m h; omega
    · obtain rfl : n = 0 := by omega
      go_wp2
      go_ret
      exact ⟨by rw [gcdV, ← HG.out]; simp, HB.out⟩

set_option maxHeartbeats 1000000 in
theorem commonStep_any (a b : Int) (w : World) (hl : leaperB a b = true) :
    Calls Try.prog 51 #[lpr a b] w fun e w' => e = .returned (.int .i64 (gcdV a b)) ∧ Below w.heap.size w w' := by
  obtain ⟨l1, l2, l3, l4⟩ := leaperB_iff.1 hl
  clear hl
  go_enter Try.func51, Try.ntmps51
  go_wp2
  go_quiet (fail)
  go_wp2
  go_loopw [3, 4] (fun y x wr => ∃ m n : Nat, m ≤ 5 ∧ n ≤ 5 ∧ x = .int .i64 n ∧ y = .int .i64 m ∧ Nat.gcd n m = Nat.gcd a.toNat b.toNat ∧ Below w.heap.size w wr) (fun _ x _ => (intOf x).toNat)
  case atStart => exact ⟨b.toNat, a.toNat, by omega, by omega, by go_num, by go_num, rfl, below_drewN (below_new (Below.refl _ _) _) _⟩
  case round =>
    obtain ⟨m, n, hm, hn, rfl, rfl, hgc, hbw⟩ := hrel
    have HG := Lib.hid hgc; have HB := Lib.hid hbw
    clear hgc hbw
    by_cases h : 0 < n
    · have hn0 : ((n : Int) == 0) = false := by simp; omega
      go_wp2
      go_quiet (fail)
      go_wp2
      go_roundw
      case rel => exact ⟨n, m % n, by omega, by have := Nat.mod_lt m h; omega, by go_num, rfl, by rw [gcd_step]; exact HG.out, below_drewN HB.out _⟩
      case measure => simp [intOf]; have := Nat.mod_lt m h; omega
    · obtain rfl : n = 0 := by omega
      go_wp2
      go_ret
      exact ⟨by rw [gcdV, ← HG.out]; simp, HB.out⟩

end Go.Proofs.Ytjigbjfhjbhkdaa
