/-
  Contracts: sets of cells as bits.
-/
import Derived.Test.YtmmfjmgjkbplpaaGreatDoorB2
import Derived.Test.YtmmfjmgjkbplpaaGreatDoorPop
import Derived.Laws.Bits64b
import Derived.Laws.Bits128
namespace Go.Proofs.YtmmfjmgjkbplpaaGreatDoor
open Go.RowKit

theorem and_nat (a b : Nat) (v : Int) (ha : a < 18446744073709551616) (hb : b < 18446744073709551616) (hv : v = (a : Int)) : bits .and .u64 v (b : Int) = ((a &&& b : Nat) : Int) := by
  rw [hv]; exact bits_and_u64_nat a b ha hb
theorem wrap_nat (a : Nat) (v : Int) (ha : a < 18446744073709551616) (hv : v = (a : Int)) : IntKind.u64.wrap v = (a : Int) := by
  rw [IntKind.wrap_u64, hv]; omega

theorem withS_any (s c : Nat) (hs : s < 18446744073709551616) (hc : c < 64) (w : World) :
    Calls Tryz.prog 44 #[.int .u64 (s : Int), .int .i64 (c : Int)] w fun e w' => e = .returned (.int .u64 ((s ||| 2 ^ c : Nat) : Int)) ∧ w = w' := by
  have hp : (2 : Nat) ^ c < 18446744073709551616 := Nat.lt_of_lt_of_le (Nat.pow_lt_pow_right (by decide) hc) (by decide)
  have hw2 : IntKind.u64.wrap ((2 : Int) ^ c) = ((2 ^ c : Nat) : Int) := wrap_nat _ _ hp (by simp)
  have hor := bits_or_u64_nat s (2 ^ c) hs hp
  go_enter Tryz.func44, Tryz.ntmps44
  go_wp2
  go_ret
  exact ⟨by rw [show ((2 : Int) ^ c) = ((2 ^ c : Nat) : Int) by simp, hor]; rfl, rfl⟩

set_option maxHeartbeats 1000000 in
theorem setOf_any (A : Option Addr) (n c : Nat) (ps : List Int) (w : World) (ha : Rd w A n ps) (hc : ∀ x ∈ ps, 0 ≤ x ∧ x < 64) :
    Calls Tryz.prog 30 #[.slice A n c] w fun e w' => e = .returned (.int .u64 (setBits (ps.map Int.toNat) : Int)) ∧ Below w.heap.size w w' := by
  have h3 := ha.2.1
  have H1 := Lib.hid ha.1
  have HC := Lib.hid hc
  clear hc
  go_enter Tryz.func30, Tryz.ntmps30
  go_wp2
  go_loopw [3, 8] (fun s i wr => ∃ (k S : Nat), k ≤ n ∧ i = .int .i64 k ∧ s = .int .u64 (S : Int) ∧ S = setBits ((ps.take k).map Int.toNat) ∧ Below w.heap.size w wr) (fun _ i _ => n - (intOf i).toNat)
  case atStart => exact ⟨0, 0, Nat.zero_le _, rfl, rfl, by simp [setBits], Below.refl _ _⟩
  case round =>
    obtain ⟨k, S, hk, rfl, rfl, hs, hbw⟩ := hrel
    have HS := Lib.hid hs
    have hS : S < 18446744073709551616 := by
      rw [hs]; refine setBits_lt _ (fun c hm => ?_)
      obtain ⟨y, hy, rfl⟩ := List.mem_map.1 hm
      have := HC.out y (List.mem_of_mem_take hy); omega
    clear hs
    by_cases hlt : k < n
    · obtain ⟨b1, o1, x, rfl, hl1, hx, hc1⟩ := (ha.keep hbw).at_ hlt
      have HX := Lib.hid hx
      obtain ⟨hx0, hx64⟩ := HC.out x (List.mem_of_getElem? hx)
      clear hx
      obtain ⟨j, rfl⟩ : ∃ j : Nat, x = (j : Int) := ⟨x.toNat, by omega⟩
      have hj : j < 64 := by omega
      go_wp2_with fail
      refine (withS_any S j hS hj _).mono ?_
      rintro e wv ⟨rfl, rfl⟩
      go_wp2
      go_roundw
      case rel => exact ⟨k + 1, S ||| 2 ^ j, by omega, by go_num, rfl, by rw [List.take_add_one, HX.out, List.map_append, HS.out]; exact (setBits_snoc _ _).symm, hbw⟩
      case measure => simp [intOf]; omega
    · go_wp2
      go_ret
      exact ⟨by rw [HS.out, List.take_of_length_le (by have := H1.out; omega)]; rfl, hbw⟩

end Go.Proofs.YtmmfjmgjkbplpaaGreatDoor
