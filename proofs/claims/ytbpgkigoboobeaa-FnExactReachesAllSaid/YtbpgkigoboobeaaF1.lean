/-
  Contracts: whether leaps change the colour, the common step of a leaper.
-/
import Derived.Test.YtbpgkigoboobeaaB2
import Derived.Test.YtbpgkigoboobeaaApp
import Derived.Test.YtbpgkigoboobeaaCD
namespace Go.Proofs.Ytbpgkigoboobeaa
open Go.RowKit

def oddB (a b : Int) : Bool := (a + b) % 2 == 1
def changesV (a b : Int) : Bool := leaperB a b && oddB a b
/-- The greatest common divisor of both numbers. -/
def gcdV (a b : Int) : Int := (Nat.gcd a.toNat b.toNat : Int)
def commonV (a b : Int) : Int := if leaperB a b then gcdV a b else 0
def reachAllV (a b : Int) : Bool := leaperB a b && (gcdV a b == 1 && oddB a b)
theorem gcdV_rng {a b : Int} (h : leaperB a b = true) : 1 ≤ gcdV a b ∧ gcdV a b ≤ 5 := by
  have h1 := leaperB_iff.1 h
  have h2 : 0 < b.toNat := by omega
  have h3 := Nat.gcd_pos_of_pos_right a.toNat h2
  have h4 := Nat.gcd_le_right a.toNat h2
  unfold gcdV; omega

set_option maxHeartbeats 400000 in
theorem changes_any (a b : Int) (w : World) (hl : leaperB a b = true) :
    Calls Try.prog 37 #[lpr a b] w fun e w' => e = .returned (.bool (oddB a b)) ∧ Below w.heap.size w w' := by
  obtain ⟨l1, l2, l3, l4⟩ := leaperB_iff.1 hl
  have h0 : 0 ≤ a + b := by omega
  have h9 : a + b ≤ 10 := by omega
  clear hl
  go_enter Try.func37, Try.ntmps37
  go_wp2
  go_ret
  exact ⟨ret_bool (by rw [oddB]), below_new (Below.refl _ _) _⟩

theorem gcd_step (m n : Nat) : Nat.gcd (m % n) n = Nat.gcd n m := by rw [← Nat.gcd_rec]

set_option maxHeartbeats 1000000 in
theorem paCommon_any (a b : Int) (w : World) (hl : leaperB a b = true) :
    Calls Try.prog 34 #[lpr a b] w fun e w' => e = .returned (.int .i64 (gcdV a b)) ∧ Below w.heap.size w w' := by
  obtain ⟨l1, l2, l3, l4⟩ := leaperB_iff.1 hl
  clear hl
  go_enter Try.func34, Try.ntmps34
  go_wp2
  go_quiet (fail)
  go_wp2
  go_loopw [3, 4] (fun x y wr => ∃ m n : Nat, m ≤ 5 ∧ n ≤ 5 ∧ x = .int .i64 n ∧ y = .int .i64 m ∧ Nat.gcd n m = Nat.gcd a.toNat b.toNat ∧ Below w.heap.size w wr) (fun x _ _ => (intOf x).toNat)
  case atStart => exact ⟨b.toNat, a.toNat, by omega, by omega, by go_num, by go_num, rfl, below_drewN (below_new (Below.refl _ _) _) _⟩
  case round =>
    obtain ⟨m, n, hm, hn, rfl, rfl, hgc, hbw⟩ := hrel
    have HG := Lib.hid hgc; have HB := Lib.hid hbw
    clear hgc hbw
    by_cases h : 0 < n
    · go_wp2
      go_roundw
      case rel => exact ⟨n, m % n, by omega, by have := Nat.mod_lt m h; omega, by go_num, rfl, by rw [gcd_step]; exact HG.out, HB.out⟩
      case measure => simp [intOf]; have := Nat.mod_lt m h; omega
    · obtain rfl : n = 0 := by omega
      go_wp2
      go_ret
      exact ⟨by rw [gcdV, ← HG.out]; simp, HB.out⟩

set_option maxHeartbeats 1000000 in
theorem commonStep_any (a b : Int) (w : World) (hl : leaperB a b = true) :
    Calls Try.prog 36 #[lpr a b] w fun e w' => e = .returned (.int .i64 (gcdV a b)) ∧ Below w.heap.size w w' := by
  obtain ⟨l1, l2, l3, l4⟩ := leaperB_iff.1 hl
  clear hl
  obtain ⟨m, rfl⟩ : ∃ m : Nat, a = (m : Int) := ⟨a.toNat, by omega⟩
  obtain ⟨n, rfl⟩ : ∃ n : Nat, b = (n : Int) := ⟨b.toNat, by omega⟩
  go_enter Try.func36, Try.ntmps36
  go_wp2_with fail
  refine (cd_any m n _ (by omega) (by omega)).mono ?_
  rintro e wv ⟨rfl, hb⟩
  have HB := Lib.hid (below_box hb)
  clear hb
  go_wp2
  go_ret
  exact ⟨by rw [gcdV, Int.toNat_natCast, Int.toNat_natCast]; rfl, HB.out⟩

end Go.Proofs.Ytbpgkigoboobeaa
