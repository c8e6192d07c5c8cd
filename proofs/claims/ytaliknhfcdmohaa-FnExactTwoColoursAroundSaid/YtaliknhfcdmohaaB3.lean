/-
  Contracts: which cells are there.
-/
import Derived.Test.YtaliknhfcdmohaaB2
import Derived.Test.YtaliknhfcdmohaaShelf
namespace Go.Proofs.Ytaliknhfcdmohaa
open Go.RowKit

set_option maxHeartbeats 400000 in
theorem l1Has_any (A : Option Addr) (n c : Nat) (q : Int) (xs : List Int) (w : World) (ha : Rd w A n xs) :
    Calls Try.prog 92 #[.slice A n c, .int .i64 q] w fun e w' => e = .returned (.bool (xs.contains q)) ∧ Below w.heap.size w w' := by
  have h3 := ha.2.1
  have H1 := Lib.hid ha.1
  go_enter Try.func92, Try.ntmps92
  go_wp2
  go_loopw [9] (fun i wr => ∃ k : Nat, k ≤ n ∧ i = .int .i64 k ∧ xs.contains q = (xs.drop k).contains q ∧ Below w.heap.size w wr) (fun i _ => n - (intOf i).toNat)
  case atStart => exact ⟨0, Nat.zero_le _, rfl, rfl, Below.refl _ _⟩
  case round =>
    obtain ⟨k, hk, rfl, hr, hbw⟩ := hrel
    have HR := Lib.hid hr
    clear hr
    by_cases hlt : k < n
    · obtain ⟨b1, o1, x, rfl, hl1, hx, hc1⟩ := (ha.keep hbw).at_ hlt
      have HX := Lib.hid hx
      clear hx
      by_cases hin : x = q
      · subst hin
        go_wp2
        go_ret
        exact ⟨ret_bool (by rw [HR.out, has_hit HX.out]), hbw⟩
      · have hne : (x == q) = false := by simpa using hin
        go_wp2
        go_roundw
        case rel => exact ⟨k + 1, by omega, by go_num, by rw [HR.out, has_step HX.out hin], hbw⟩
        case measure => simp [intOf]; omega
    · go_wp2
      go_ret
      exact ⟨ret_bool (by rw [HR.out, List.drop_of_length_le (by have := H1.out; omega)]; rfl), hbw⟩

end Go.Proofs.Ytaliknhfcdmohaa
