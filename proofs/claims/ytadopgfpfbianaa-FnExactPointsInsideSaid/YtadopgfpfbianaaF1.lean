/-
  Contracts: whether leaps change the colour, the common step of a leaper.
-/
import Derived.Test.YtadopgfpfbianaaB2
import Derived.Test.YtadopgfpfbianaaApp
import Derived.Test.YtadopgfpfbianaaCD
namespace Go.Proofs.Ytadopgfpfbianaa
open Go.RowKit

def oddB (a b : Int) : Bool := (a + b) % 2 == 1
def changesV (a b : Int) : Bool := leaperB a b && oddB a b
/-- The greatest common divisor of both numbers. -/
def gcdV (a b : Int) : Int := (Nat.gcd a.toNat b.toNat : Int)
def commonV (a b : Int) : Int := if leaperB a b then gcdV a b else 0
def reachAllV (a b : Int) : Bool := leaperB a b && (gcdV a b == 1 && oddB a b)
theorem gcdV_rng {a b : Int} (h : leaperB a b = true) : 1 ≤ gcdV a b ∧ gcdV a b ≤ 5 := by
  have h1 := leaperB_iff.1 h
  have h2 : 0 < b.toNat := by omega
  have h3 := Nat.gcd_pos_of_pos_right a.toNat h2
  have h4 := Nat.gcd_le_right a.toNat h2
  unfold gcdV; omega

theorem gcd_step (m n : Nat) : Nat.gcd (m % n) n = Nat.gcd n m := by rw [← Nat.gcd_rec]

set_option maxHeartbeats 1000000 in
theorem commonStep_any (a b : Int) (w : World) (hl : leaperB a b = true) :
    Calls Try.prog 123 #[lpr a b] w fun e w' => e = .returned (.int .i64 (gcdV a b)) ∧ Below w.heap.size w w' := by
  obtain ⟨l1, l2, l3, l4⟩ := leaperB_iff.1 hl
  clear hl
  obtain ⟨m, rfl⟩ : ∃ m : Nat, a = (m : Int) := ⟨a.toNat, by omega⟩
  obtain ⟨n, rfl⟩ : ∃ n : Nat, b = (n : Int) := ⟨b.toNat, by omega⟩
  go_enter Try.func123, Try.ntmps123
  go_wp2_with fail
  refine (cd_any m n _ (by omega) (by omega)).mono ?_
  rintro e wv ⟨rfl, hb⟩
  have HB := Lib.hid (below_box hb)
  clear hb
  go_wp2
  go_ret
  exact ⟨by rw [gcdV, Int.toNat_natCast, Int.toNat_natCast]; rfl, HB.out⟩

end Go.Proofs.Ytadopgfpfbianaa
