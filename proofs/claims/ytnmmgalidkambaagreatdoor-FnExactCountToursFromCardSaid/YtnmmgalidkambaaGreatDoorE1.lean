/-
  Cells of a set, least first: pure facts; least, without, size and each of a set.
-/
import Derived.Test.YtnmmgalidkambaaGreatDoorQ1
import Derived.Test.YtnmmgalidkambaaGreatDoorPop
import Derived.Test.YtnmmgalidkambaaGreatDoorTzf
import Derived.Laws.BitsAllLaws
namespace Go.Proofs.YtnmmgalidkambaaGreatDoor
open Go.RowKit

/-- The cells of a set, increasing. -/
def bitsL (s : Nat) : List Int := ((List.range 64).filter fun i => s.testBit i).map fun i : Nat => (i : Int)
def clr (s c : Nat) : Nat := s &&& (18446744073709551615 - 2 ^ c)
theorem bitsL_mem {s : Nat} {x : Int} : x ∈ bitsL s ↔ 0 ≤ x ∧ x < 64 ∧ s.testBit x.toNat = true := by
  unfold bitsL
  rw [List.mem_map]
  constructor
  · rintro ⟨i, hi, rfl⟩
    rw [List.mem_filter, List.mem_range] at hi
    exact ⟨by omega, by omega, by simpa using hi.2⟩
  · rintro ⟨h0, h1, h2⟩
    exact ⟨x.toNat, by rw [List.mem_filter, List.mem_range]; exact ⟨by omega, h2⟩, by omega⟩
theorem bitsL_rise (s : Nat) : (bitsL s).Pairwise (· < ·) := by
  unfold bitsL
  rw [List.pairwise_map]
  have h : (List.range 64).Pairwise (· < ·) := List.pairwise_lt_range
  exact (h.filter _).imp (fun h => by omega)
theorem bitsL_zero : bitsL 0 = [] := by
  apply List.eq_nil_iff_forall_not_mem.2
  intro x hx
  have := (bitsL_mem.1 hx).2.2
  simp at this
theorem mask_bit {c i : Nat} (hc : c < 64) : (18446744073709551615 - 2 ^ c).testBit i = (decide (i < 64) && decide (i ≠ c)) := by
  have h := Nat.testBit_two_pow_sub_succ (x := 2 ^ c) (n := 64) (Nat.pow_lt_pow_right (by decide) hc) i
  rw [show 2 ^ 64 - (2 ^ c + 1) = 18446744073709551615 - 2 ^ c by omega, Nat.testBit_two_pow] at h
  rw [h]
  by_cases e : c = i <;> simp [e, eq_comm]
theorem clr_bit {s c i : Nat} (hc : c < 64) : (clr s c).testBit i = (s.testBit i && (decide (i < 64) && decide (i ≠ c))) := by
  rw [clr, Nat.testBit_and, mask_bit hc]
theorem clr_le (s c : Nat) : clr s c ≤ s := Nat.and_le_left
theorem clr_lt {s c : Nat} (hc : c < 64) (h : s.testBit c = true) : clr s c < s := by
  rcases Nat.lt_or_eq_of_le (clr_le s c) with h1 | h1
  · exact h1
  · have := clr_bit (s := s) (i := c) hc
    rw [h1, h] at this; simp at this
theorem ctz_facts {s : Nat} (h0 : s ≠ 0) (hs : s < 18446744073709551616) : Lib.ctz 64 s < 64 ∧ s.testBit (Lib.ctz 64 s) = true ∧ ∀ i, i < Lib.ctz 64 s → s.testBit i = false := by
  obtain ⟨m, hm, hk⟩ := Lib.ctzFrom_spec 64 s (by omega) (by omega)
  have e : Lib.ctz 64 s = Lib.ctzFrom 64 s := by rw [Lib.ctz, if_neg h0]
  rw [e]
  generalize Lib.ctzFrom 64 s = k at hm hk
  refine ⟨hk, ?_, fun i hi => ?_⟩
  · rw [hm, Nat.mul_comm, Nat.testBit_mul_two_pow]; simp [Nat.testBit_zero]
  · rw [hm, Nat.mul_comm, Nat.testBit_mul_two_pow]; simp; omega
theorem bitsL_step {s : Nat} (h0 : s ≠ 0) (hs : s < 18446744073709551616) : bitsL s = ((Lib.ctz 64 s : Nat) : Int) :: bitsL (clr s (Lib.ctz 64 s)) := by
  obtain ⟨hk, hb, hlow⟩ := ctz_facts h0 hs
  generalize Lib.ctz 64 s = k at hk hb hlow
  refine rise_unique (bitsL_rise s) (List.Pairwise.cons (fun x hx => ?_) (bitsL_rise _)) fun x => ?_
  · obtain ⟨h1, h2, h3⟩ := bitsL_mem.1 hx
    rw [clr_bit hk] at h3
    simp only [Bool.and_eq_true, decide_eq_true_eq] at h3
    rcases Nat.lt_or_ge x.toNat k with h | h
    · rw [hlow _ h] at h3; simp at h3
    · omega
  · rw [List.mem_cons, bitsL_mem, bitsL_mem, clr_bit hk]
    constructor
    · rintro ⟨h1, h2, h3⟩
      by_cases e : x = (k : Int)
      · exact .inl e
      · refine .inr ⟨h1, h2, ?_⟩
        rw [h3]; simp; omega
    · rintro (rfl | ⟨h1, h2, h3⟩)
      · exact ⟨by omega, by omega, by simpa using hb⟩
      · simp only [Bool.and_eq_true] at h3
        exact ⟨h1, h2, h3.1⟩

/-- The table of bits.TrailingZeros64 lies in its variable. -/
def Tab64 (w : World) : Prop := TabAt 0 Lib.deBruijn64tab w
theorem Tab64.keep {w w' : World} (h : Tab64 w) (hlt : 0 < w.heap.size) (hb : Below w.heap.size w w') : Tab64 w' := fun j hj => (hb.cell (p := ⟨0, j, none⟩) hlt).trans (h j hj)
theorem tab_keep {w w' : World} (h : Tab64 w ∧ 0 < w.heap.size) (hb : Below w.heap.size w w') : Tab64 w' ∧ 0 < w'.heap.size := ⟨h.1.keep h.2 hb, Nat.lt_of_lt_of_le h.2 hb.size⟩

theorem least_any (s : Nat) (hs : s < 18446744073709551616) (w : World) (hT : Tab64 w) :
    Calls Tryz.prog 45 #[.int .u64 (s : Int)] w fun e w' => e = .returned (.int .i64 (Lib.ctz 64 s : Int)) ∧ w = w' := by
  have h := Any7.bits_TrailingZeros64 Tryz.tz64 s hs w (fun _ => hT)
  go_enter Tryz.func45, Tryz.ntmps45
  go_wp2_with fail
  refine h.mono ?_
  rintro e wv ⟨rfl, rfl⟩
  go_wp2
  go_ret
  exact ⟨rfl, rfl⟩

theorem wrap_natE (a : Nat) (v : Int) (ha : a < 18446744073709551616) (hv : v = (a : Int)) : IntKind.u64.wrap v = (a : Int) := by
  rw [IntKind.wrap_u64, hv]; omega

theorem without_any (s c : Nat) (hs : s < 18446744073709551616) (hc : c < 64) (w : World) :
    Calls Tryz.prog 42 #[.int .u64 (s : Int), .int .i64 (c : Int)] w fun e w' => e = .returned (.int .u64 (clr s c : Int)) ∧ w = w' := by
  have hp : (2 : Nat) ^ c < 18446744073709551616 := Nat.lt_of_lt_of_le (Nat.pow_lt_pow_right (by decide) hc) (by decide)
  have hw2 : IntKind.u64.wrap ((2 : Int) ^ c) = ((2 ^ c : Nat) : Int) := wrap_natE _ _ hp (by simp)
  have han := u64_andNot_nat s (2 ^ c) hs hp
  go_enter Tryz.func42, Tryz.ntmps42
  go_wp2
  go_ret
  exact ⟨by
    show Ending.returned (.int .u64 (bits BinOp.andNot IntKind.u64 (s : Int) _)) = _
    rw [show ((2 : Int) ^ c) = ((2 ^ c : Nat) : Int) by simp, han]; rfl, rfl⟩
end Go.Proofs.YtnmmgalidkambaaGreatDoor
