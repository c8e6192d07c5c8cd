/-
  Contracts: the greatest common divisor of two ints.
-/
import Derived.Test.YtbpgkigoboobeaaB2
import Derived.Test.YtbpgkigoboobeaaApp
namespace Go.Proofs.Ytbpgkigoboobeaa
open Go.RowKit

set_option maxRecDepth 100000 in
set_option maxHeartbeats 2000000 in
theorem cd_any (m n : Nat) (w : World) (hm : m ≤ 1000) (hn : n ≤ 1000) :
    Calls Try.prog 51 #[.int .i64 (m : Int), .int .i64 (n : Int)] w fun e w' => e = .returned (.int .i64 (Nat.gcd m n : Int)) ∧ Below w.heap.size w w' := by
  go_enter Try.func51, Try.ntmps51
  go_wp2
  go_loopw [0, 1] (fun u v wr => ∃ p q : Nat, u = .int .i64 p ∧ v = .int .i64 q ∧ p ≤ 1000 ∧ q ≤ 1000 ∧ Nat.gcd p q = Nat.gcd m n ∧ Below w.heap.size w wr) (fun _ v _ => (intOf v).toNat)
  case atStart => exact ⟨m, n, rfl, rfl, hm, hn, rfl, Below.refl _ _⟩
  case round =>
    obtain ⟨p, q, rfl, rfl, hp, hq, hgc, hbw⟩ := hrel
    have HB := Lib.hid hbw
    clear hbw
    have HGC := Lib.hid hgc
    clear hgc
    by_cases h0 : 0 < q
    · have hqi : (0 : Int) < (q : Int) := by omega
      have hmod : (p : Int) % (q : Int) = ((p % q : Nat) : Int) := (Int.natCast_emod p q).symm
      have hlt := Nat.mod_lt p h0
      obtain ⟨r, hr⟩ : ∃ r, p % q = r := ⟨_, rfl⟩
      rw [hr] at hmod hlt
      have HR := Lib.hid hr
      clear hr
      have q00 : ¬ q = 0 := by omega
      have q01 : ¬ (q : Int) = 0 := by omega
      have htm : (p : Int).tmod (q : Int) = (r : Int) := by rw [Int.tmod_eq_emod_of_nonneg (by omega), hmod]
      have hwr : IntKind.i64.wrap (r : Int) = (r : Int) := IntWalk.i64_in _ (by omega)
      go_wp2_with fail
      go_region
      all_goals go_wp2
      go_roundw
      case rel => exact ⟨q, r, rfl, rfl, hq, by omega, by rw [← HGC.out, ← HR.out, Nat.gcd_comm q, ← Nat.gcd_rec, Nat.gcd_comm], (by repeat (first | exact HB.out | refine below_drewN ?_ _ | refine Below.drew ?_))⟩
      case measure => simp [intOf]; omega
    · have hq0 : q = 0 := by omega
      subst hq0
      rw [Nat.gcd_zero_right] at HGC
      go_wp2
      go_ret
      exact ⟨by rw [← HGC.out]; rfl, HB.out⟩

end Go.Proofs.Ytbpgkigoboobeaa
