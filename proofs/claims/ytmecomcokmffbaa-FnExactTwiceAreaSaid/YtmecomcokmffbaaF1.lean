/-
  Contracts: whether leaps change the colour, the common step of a leaper.
-/
import Derived.Test.YtmecomcokmffbaaB2
import Derived.Test.YtmecomcokmffbaaApp
namespace Go.Proofs.Ytmecomcokmffbaa
open Go.RowKit

def oddB (a b : Int) : Bool := (a + b) % 2 == 1
def changesV (a b : Int) : Bool := leaperB a b && oddB a b
/-- The greatest common divisor of both numbers. -/
def gcdV (a b : Int) : Int := (Nat.gcd a.toNat b.toNat : Int)
def commonV (a b : Int) : Int := if leaperB a b then gcdV a b else 0
def reachAllV (a b : Int) : Bool := leaperB a b && (gcdV a b == 1 && oddB a b)
theorem gcdV_rng {a b : Int} (h : leaperB a b = true) : 1 ≤ gcdV a b ∧ gcdV a b ≤ 5 := by
  have h1 := leaperB_iff.1 h
  have h2 : 0 < b.toNat := by omega
  have h3 := Nat.gcd_pos_of_pos_right a.toNat h2
  have h4 := Nat.gcd_le_right a.toNat h2
  unfold gcdV; omega

theorem gcd_step (m n : Nat) : Nat.gcd (m % n) n = Nat.gcd n m := by rw [← Nat.gcd_rec]

end Go.Proofs.Ytmecomcokmffbaa
