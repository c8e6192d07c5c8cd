/-
  Contracts: whether leaps change the colour, the common step of a leaper.
-/
import Derived.Test.YtjlcaggnfocabaaB2
import Derived.Test.YtjlcaggnfocabaaApp
namespace Go.Proofs.Ytjlcaggnfocabaa
open Go.RowKit

def oddB (a b : Int) : Bool := (a + b) % 2 == 1
def changesV (a b : Int) : Bool := leaperB a b && oddB a b
/-- The greatest common divisor of both numbers. -/
def gcdV (a b : Int) : Int := (Nat.gcd a.toNat b.toNat : Int)
def commonV (a b : Int) : Int := if leaperB a b then gcdV a b else 0
def reachAllV (a b : Int) : Bool := leaperB a b && (gcdV a b == 1 && oddB a b)
theorem gcdV_rng {a b : Int} (h : leaperB a b = true) : 1 ≤ gcdV a b ∧ gcdV a b ≤ 5 := by
  have h1 := leaperB_iff.1 h
  have h2 : 0 < b.toNat := by omega
  have h3 := Nat.gcd_pos_of_pos_right a.toNat h2
  have h4 := Nat.gcd_le_right a.toNat h2
  unfold gcdV; omega

theorem gcd_step (m n : Nat) : Nat.gcd (m % n) n = Nat.gcd n m := by rw [← Nat.gcd_rec]

set_option maxHeartbeats 1000000 in
theorem commonStep_any (a b : Int) (w : World) (hl : leaperB a b = true) :
    Calls Try.prog 95 #[lpr a b] w fun e w' => e = .returned (.int .i64 (gcdV a b)) ∧ Below w.heap.size w w' := by
  obtain ⟨l1, l2, l3, l4⟩ := leaperB_iff.1 hl
  clear hl
  go_enter Try.func95, Try.ntmps95
  go_wp2
  go_quiet (fail)
  go_wp2
  go_loopw [3, 4] (fun y x wr => ∃ m n : Nat, m ≤ 5 ∧ n ≤ 5 ∧ x = .int .i64 n ∧ y = .int .i64 m ∧ Nat.gcd n m = Nat.gcd a.toNat b.toNat ∧ Below w.heap.size w wr) (fun _ x _ => (intOf x).toNat)
  case atStart => exact ⟨b.toNat, a.toNat, by omega, by omega, by go_num, by go_num, rfl, below_drewN (below_new (Below.refl _ _) _) _⟩
  case round =>
    obtain ⟨m, n, hm, hn, rfl, rfl, hgc, hbw⟩ := hrel
    have HG := Lib.hid hgc; have HB := Lib.hid hbw
    clear hgc hbw
    by_cases h : 0 < n
    · have hn0 : ((n : Int) == 0) = false := by simp; omega
      go_wp2
      go_quiet (fail)
      go_wp2
      go_roundw
      case rel => exact ⟨n, m % n, by omega, by have := Nat.mod_lt m h; omega, by go_num, rfl, by rw [gcd_step]; exact HG.out, below_drewN HB.out _⟩
      case measure => simp [intOf]; have := Nat.mod_lt m h; omega
    · obtain rfl : n = 0 := by omega
      go_wp2
      go_ret
      exact ⟨by rw [gcdV, ← HG.out]; simp, HB.out⟩

end Go.Proofs.Ytjlcaggnfocabaa
