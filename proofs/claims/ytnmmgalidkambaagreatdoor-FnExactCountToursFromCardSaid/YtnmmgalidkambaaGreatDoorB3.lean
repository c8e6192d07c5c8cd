/-
  Contracts: which cells are there.
-/
import Derived.Test.YtnmmgalidkambaaGreatDoorB2
import Derived.Test.YtnmmgalidkambaaGreatDoorShelf
namespace Go.Proofs.YtnmmgalidkambaaGreatDoor
open Go.RowKit

set_option maxHeartbeats 400000 in
theorem l1Has_any (A : Option Addr) (n c : Nat) (q : Int) (xs : List Int) (w : World) (ha : Rd w A n xs) :
    Calls Tryz.prog 59 #[.slice A n c, .int .i64 q] w fun e w' => e = .returned (.bool (xs.contains q)) ∧ Below w.heap.size w w' := by
  have h3 := ha.2.1
  have H1 := Lib.hid ha.1
  go_enter Tryz.func59, Tryz.ntmps59
  go_wp2
  go_loopw [9] (fun i wr => ∃ k : Nat, k ≤ n ∧ i = .int .i64 k ∧ xs.contains q = (xs.drop k).contains q ∧ Below w.heap.size w wr) (fun i _ => n - (intOf i).toNat)
  case atStart => exact ⟨0, Nat.zero_le _, rfl, rfl, Below.refl _ _⟩
  case round =>
    obtain ⟨k, hk, rfl, hr, hbw⟩ := hrel
    have HR := Lib.hid hr
    clear hr
    by_cases hlt : k < n
    · obtain ⟨b1, o1, x, rfl, hl1, hx, hc1⟩ := (ha.keep hbw).at_ hlt
      have HX := Lib.hid hx
      clear hx
      by_cases hin : x = q
      · subst hin
        go_wp2
        go_ret
        exact ⟨ret_bool (by rw [HR.out, has_hit HX.out]), hbw⟩
      · have hne : (x == q) = false := by simpa using hin
        go_wp2
        go_roundw
        case rel => exact ⟨k + 1, by omega, by go_num, by rw [HR.out, has_step HX.out hin], hbw⟩
        case measure => simp [intOf]; omega
    · go_wp2
      go_ret
      exact ⟨ret_bool (by rw [HR.out, List.drop_of_length_le (by have := H1.out; omega)]; rfl), hbw⟩

/-- slices.BinarySearch of a sorted list: whether the target is among the elements. -/
theorem search_any (A : Option Addr) (n c : Nat) (q : Int) (xs : List Int) (w : World) (ha : Rd w A n xs) (hn : n < 4611686018427387904) (hs : xs.Pairwise (· < ·)) :
    Calls Tryz.prog 86 #[.slice A n c, .int .i64 q] w fun e w' => ∃ p : Nat, e = .returned (.tuple #[.int .i64 p, .bool (xs.contains q)]) ∧ Below w.heap.size w w' := by
  by_cases h0 : n = 0
  · subst h0
    obtain rfl : xs = [] := List.eq_nil_of_length_eq_zero ha.1
    exact (Tryz.slices_BinarySearch_int_empty A c q w).mono fun e w' ⟨he, hw⟩ => ⟨0, he, by rw [hw]; exact Below.refl _ _⟩
  · obtain ⟨b, off, x, rfl, _, _, _⟩ := ha.at_ (k := 0) (by omega)
    have hl := ha.1
    refine (Tryz.slices_BinarySearch_int b off n c xs q w (by omega) hn (fun j hj => ?_) ?_).mono fun e w' ⟨he, m, hw⟩ => ⟨(xs.take n).countP (· < q), by rw [he, List.take_of_length_le (by omega)], by rw [hw]; exact below_drewN (Below.refl _ _) _⟩
    · obtain ⟨b', off', y, hA, _, hy, hc⟩ := ha.at_ (k := j) (by omega)
      injection hA with hA
      injection hA with e1 e2 _
      subst e1 e2
      rw [hc, List.getD_eq_getElem?_getD, hy]; rfl
    · exact (hs.imp (fun h => Int.le_of_lt h)).sublist (List.take_sublist _ _)

set_option maxHeartbeats 400000 in
theorem boHas_any (W H : Int) (A : Option Addr) (n c : Nat) (q : Int) (xs : List Int) (w : World) (ha : Rd w A n xs) (hN : 1 ≤ W * H ∧ W * H ≤ 64) :
    Calls Tryz.prog 43 #[brd W H A n c, .int .i64 q] w fun e w' => e = .returned (.bool (hasB W H xs q)) ∧ Below w.heap.size w w' := by
  obtain ⟨hN1, hN2⟩ := hN
  by_cases hin : inB q 0 (W * H - 1) = true
  · go_enter Tryz.func43, Tryz.ntmps43
    go_wp2_with (first | (go_at_call 58; refine (l1In_any _ _ _ _).mono ?_; rintro e w1 ⟨rfl, rfl⟩) | (go_at_call 59; refine (l1Has_any _ _ _ _ _ _ (ha.alloc _)).mono ?_; rintro e w1 ⟨rfl, hb1⟩))
    go_ret
    exact ⟨ret_bool (by rw [Bool.eq_iff_iff, hasB_iff]; have := inB_iff.1 hin; simp; omega), below_next (below_new (Below.refl _ _) _) hb1⟩
  · have hin' : inB q 0 (W * H - 1) = false := by simpa using hin
    clear hin
    go_enter Tryz.func43, Tryz.ntmps43
    go_wp2_with (first | (go_at_call 58; refine (l1In_any _ _ _ _).mono ?_; rintro e w1 ⟨rfl, rfl⟩))
    go_ret
    exact ⟨ret_bool (by symm; rw [Bool.eq_false_iff]; intro h; have := hasB_iff.1 h; have := inB_false.1 hin'; omega), below_new (Below.refl _ _) _⟩

set_option maxHeartbeats 400000 in
theorem isThere_any (W H : Int) (A : Option Addr) (n c : Nat) (q : Int) (xs : List Int) (w : World) (ha : Rd w A n xs) (hg : goodB W H xs = true) :
    Calls Tryz.prog 68 #[brd W H A n c, .int .i64 q] w fun e w' => e = .returned (.bool (hasB W H xs q)) ∧ Below w.heap.size w w' := by
  obtain ⟨hW, hH, hlen, hri⟩ := goodB_iff.1 hg
  have HG := Lib.hid hri
  obtain ⟨hN1, hN2⟩ := cells_le hW hH
  have hn : n < 4611686018427387904 := by have := ha.1; omega
  clear hri hg hlen hW hH
  by_cases hq0 : q < 0
  · go_enter Tryz.func68, Tryz.ntmps68
    go_wp2
    go_ret
    exact ⟨ret_bool (by symm; rw [Bool.eq_false_iff]; intro h; have := hasB_iff.1 h; omega), below_new (Below.refl _ _) _⟩
  · by_cases hq1 : W * H ≤ q
    · go_enter Tryz.func68, Tryz.ntmps68
      go_wp2
      go_ret
      exact ⟨ret_bool (by symm; rw [Bool.eq_false_iff]; intro h; have := hasB_iff.1 h; omega), below_new (Below.refl _ _) _⟩
    · go_enter Tryz.func68, Tryz.ntmps68
      go_wp2_with fail
      refine (search_any A n c q xs _ (ha.alloc _) hn (risesB_pairwise HG.out)).mono ?_
      rintro e w1 ⟨p, rfl, hb1⟩
      go_wp2
      go_ret
      exact ⟨ret_bool (by rw [Bool.eq_iff_iff, hasB_iff]; simp; omega), below_next (below_new (Below.refl _ _) _) hb1⟩

end Go.Proofs.YtnmmgalidkambaaGreatDoor
