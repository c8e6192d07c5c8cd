/-
  Contracts: sets of cells as bits.
-/
import Derived.Test.YtnmmgalidkambaaGreatDoorB2
import Derived.Test.YtnmmgalidkambaaGreatDoorPop
import Derived.Laws.Bits64b
import Derived.Laws.Bits128
namespace Go.Proofs.YtnmmgalidkambaaGreatDoor
open Go.RowKit

theorem and_nat (a b : Nat) (v : Int) (ha : a < 18446744073709551616) (hb : b < 18446744073709551616) (hv : v = (a : Int)) : bits .and .u64 v (b : Int) = ((a &&& b : Nat) : Int) := by
  rw [hv]; exact bits_and_u64_nat a b ha hb
theorem wrap_nat (a : Nat) (v : Int) (ha : a < 18446744073709551616) (hv : v = (a : Int)) : IntKind.u64.wrap v = (a : Int) := by
  rw [IntKind.wrap_u64, hv]; omega

set_option maxRecDepth 100000 in
set_option maxHeartbeats 1000000 in
theorem onesCount_any (x : Nat) (hx : x < 18446744073709551616) (w : World) :
    Calls Tryz.prog 80 #[.int .u64 (x : Int)] w fun e w' => e = .returned (.int .i64 (popN 64 x : Int)) ∧ w = w' := by
  obtain ⟨y1, e1⟩ : ∃ y, y = ((x / 2) &&& 6148914691236517205) + (x &&& 6148914691236517205) := ⟨_, rfl⟩
  obtain ⟨y2, e2⟩ : ∃ y, y = ((y1 / 4) &&& 3689348814741910323) + (y1 &&& 3689348814741910323) := ⟨_, rfl⟩
  obtain ⟨y3, e3⟩ : ∃ y, y = ((y2 / 16) + y2) &&& 1085102592571150095 := ⟨_, rfl⟩
  obtain ⟨x1, f1⟩ : ∃ y, y = y3 + y3 / 256 := ⟨_, rfl⟩
  obtain ⟨x2, f2⟩ : ∃ y, y = x1 + x1 / 65536 := ⟨_, rfl⟩
  obtain ⟨x3, f3⟩ : ∃ y, y = x2 + x2 / 4294967296 := ⟨_, rfl⟩
  obtain ⟨hr, hx3⟩ := onesCount64 x y1 y2 y3 x1 x2 x3 hx e1 e2 e3 f1 f2 f3
  have l1 : (x / 2) &&& 6148914691236517205 ≤ 6148914691236517205 := Nat.and_le_right
  have l2 : x &&& 6148914691236517205 ≤ 6148914691236517205 := Nat.and_le_right
  have l3 : (y1 / 4) &&& 3689348814741910323 ≤ 3689348814741910323 := Nat.and_le_right
  have l4 : y1 &&& 3689348814741910323 ≤ 3689348814741910323 := Nat.and_le_right
  have l5 : ((y2 / 16) + y2) &&& 1085102592571150095 ≤ 1085102592571150095 := Nat.and_le_right
  have hy1 : y1 ≤ 12297829382473034410 := by omega
  have hy2 : y2 ≤ 7378697629483820646 := by omega
  have hy3 : y3 ≤ 1085102592571150095 := by omega
  have hx1 : x1 ≤ 2085102592571150095 := by omega
  have hx2 : x2 ≤ 4085102592571150095 := by omega
  have k1 : IntKind.u64.wrap (bits BinOp.and IntKind.u64 ((x : Int) / 2) 6148914691236517205 + bits BinOp.and IntKind.u64 (x : Int) 6148914691236517205) = (y1 : Int) := by
    rw [show (6148914691236517205 : Int) = ((6148914691236517205 : Nat) : Int) from rfl, and_nat (x / 2) _ _ (by omega) (by omega) (by omega), and_nat x _ _ hx (by omega) rfl]
    exact wrap_nat _ _ (by omega) (by rw [e1]; omega)
  have k2 : IntKind.u64.wrap (bits BinOp.and IntKind.u64 ((y1 : Int) / 4) 3689348814741910323 + bits BinOp.and IntKind.u64 (y1 : Int) 3689348814741910323) = (y2 : Int) := by
    rw [show (3689348814741910323 : Int) = ((3689348814741910323 : Nat) : Int) from rfl, and_nat (y1 / 4) _ _ (by omega) (by omega) (by omega), and_nat y1 _ _ (by omega) (by omega) rfl]
    exact wrap_nat _ _ (by omega) (by rw [e2]; omega)
  have k3 : bits BinOp.and IntKind.u64 (IntKind.u64.wrap ((y2 : Int) / 16 + (y2 : Int))) 1085102592571150095 = (y3 : Int) := by
    rw [wrap_nat (y2 / 16 + y2) _ (by omega) (by omega), show (1085102592571150095 : Int) = ((1085102592571150095 : Nat) : Int) from rfl, and_nat (y2 / 16 + y2) _ _ (by omega) (by omega) rfl, e3]
  have k4 : IntKind.u64.wrap ((y3 : Int) + (y3 : Int) / 256) = (x1 : Int) := wrap_nat _ _ (by omega) (by omega)
  have k5 : IntKind.u64.wrap ((x1 : Int) + (x1 : Int) / 65536) = (x2 : Int) := wrap_nat _ _ (by omega) (by omega)
  have k6 : IntKind.u64.wrap ((x2 : Int) + (x2 : Int) / 4294967296) = (x3 : Int) := wrap_nat _ _ (by omega) (by omega)
  have k7 : bits BinOp.and IntKind.i64 (x3 : Int) 127 = (popN 64 x : Int) := by rw [i64_and127, ← hr]; omega
  clear hr e1 e2 e3 f1 f2 f3 l1 l2 l3 l4 l5 hy1 hy2 hy3 hx1 hx2
  go_enter Tryz.func80, Tryz.ntmps80
  go_wp2
  go_ret
  exact ⟨rfl, rfl⟩

theorem withS_any (s c : Nat) (hs : s < 18446744073709551616) (hc : c < 64) (w : World) :
    Calls Tryz.prog 73 #[.int .u64 (s : Int), .int .i64 (c : Int)] w fun e w' => e = .returned (.int .u64 ((s ||| 2 ^ c : Nat) : Int)) ∧ w = w' := by
  have hp : (2 : Nat) ^ c < 18446744073709551616 := Nat.lt_of_lt_of_le (Nat.pow_lt_pow_right (by decide) hc) (by decide)
  have hw2 : IntKind.u64.wrap ((2 : Int) ^ c) = ((2 ^ c : Nat) : Int) := wrap_nat _ _ hp (by simp)
  have hor := bits_or_u64_nat s (2 ^ c) hs hp
  go_enter Tryz.func73, Tryz.ntmps73
  go_wp2
  go_ret
  exact ⟨by rw [show ((2 : Int) ^ c) = ((2 ^ c : Nat) : Int) by simp, hor]; rfl, rfl⟩

set_option maxHeartbeats 1000000 in
theorem setOf_any (A : Option Addr) (n c : Nat) (ps : List Int) (w : World) (ha : Rd w A n ps) (hc : ∀ x ∈ ps, 0 ≤ x ∧ x < 64) :
    Calls Tryz.prog 54 #[.slice A n c] w fun e w' => e = .returned (.int .u64 (setBits (ps.map Int.toNat) : Int)) ∧ Below w.heap.size w w' := by
  have h3 := ha.2.1
  have H1 := Lib.hid ha.1
  have HC := Lib.hid hc
  clear hc
  go_enter Tryz.func54, Tryz.ntmps54
  go_wp2
  go_loopw [3, 8] (fun s i wr => ∃ (k S : Nat), k ≤ n ∧ i = .int .i64 k ∧ s = .int .u64 (S : Int) ∧ S = setBits ((ps.take k).map Int.toNat) ∧ Below w.heap.size w wr) (fun _ i _ => n - (intOf i).toNat)
  case atStart => exact ⟨0, 0, Nat.zero_le _, rfl, rfl, by simp [setBits], Below.refl _ _⟩
  case round =>
    obtain ⟨k, S, hk, rfl, rfl, hs, hbw⟩ := hrel
    have HS := Lib.hid hs
    have hS : S < 18446744073709551616 := by
      rw [hs]; refine setBits_lt _ (fun c hm => ?_)
      obtain ⟨y, hy, rfl⟩ := List.mem_map.1 hm
      have := HC.out y (List.mem_of_mem_take hy); omega
    clear hs
    by_cases hlt : k < n
    · obtain ⟨b1, o1, x, rfl, hl1, hx, hc1⟩ := (ha.keep hbw).at_ hlt
      have HX := Lib.hid hx
      obtain ⟨hx0, hx64⟩ := HC.out x (List.mem_of_getElem? hx)
      clear hx
      obtain ⟨j, rfl⟩ : ∃ j : Nat, x = (j : Int) := ⟨x.toNat, by omega⟩
      have hj : j < 64 := by omega
      go_wp2_with fail
      refine (withS_any S j hS hj _).mono ?_
      rintro e wv ⟨rfl, rfl⟩
      go_wp2
      go_roundw
      case rel => exact ⟨k + 1, S ||| 2 ^ j, by omega, by go_num, rfl, by rw [List.take_add_one, HX.out, List.map_append, HS.out]; exact (setBits_snoc _ _).symm, hbw⟩
      case measure => simp [intOf]; omega
    · go_wp2
      go_ret
      exact ⟨by rw [HS.out, List.take_of_length_le (by have := H1.out; omega)]; rfl, hbw⟩

theorem size_any (x : Nat) (hx : x < 18446744073709551616) (w : World) :
    Calls Tryz.prog 61 #[.int .u64 (x : Int)] w fun e w' => e = .returned (.int .i64 (popN 64 x : Int)) ∧ Below w.heap.size w w' := by
  go_enter Tryz.func61, Tryz.ntmps61
  go_wp2_with fail
  refine (onesCount_any x hx _).mono ?_
  rintro e wv ⟨rfl, rfl⟩
  go_wp2
  go_ret
  exact ⟨rfl, Below.refl _ _⟩
end Go.Proofs.YtnmmgalidkambaaGreatDoor
