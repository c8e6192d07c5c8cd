/-
  Pure: walks that have no cell in common, their tails turned.
-/
import Derived.Test.YtbpgkigoboobeaaGreatPop
import Derived.Test.YtbpgkigoboobeaaGreatB15
namespace Go.Proofs.YtbpgkigoboobeaaGreat
open Go.RowKit

def apartB (met ps : List Int) : Bool := ps.all fun x => !met.contains x
theorem apart_iff {met ps : List Int} : apartB met ps = true ↔ ∀ x ∈ ps, x ∉ met := by simp [apartB]
theorem apart_nil (ps : List Int) : apartB [] ps = true := by simp [apartB]
theorem setBits_append (xs : List Nat) (ys : List Nat) : setBits (xs ++ ys) = setBits xs ||| setBits ys := by
  apply Nat.eq_of_testBit_eq
  intro i
  rw [Nat.testBit_or, Bool.eq_iff_iff, Bool.or_eq_true, setBits_test i _ _ rfl, setBits_test i _ _ rfl, setBits_test i _ _ rfl, List.mem_append]
theorem mem_nat {ps : List Int} (h : ∀ x ∈ ps, 0 ≤ x ∧ x < 64) {i : Nat} : i ∈ ps.map Int.toNat ↔ (i : Int) ∈ ps := by
  rw [List.mem_map]
  constructor
  · rintro ⟨y, hy, rfl⟩
    have := h y hy
    rwa [show ((y.toNat : Nat) : Int) = y by omega]
  · intro hi
    exact ⟨_, hi, by omega⟩
theorem setBits_meet {met ps : List Int} (h1 : ∀ x ∈ met, 0 ≤ x ∧ x < 64) (h2 : ∀ x ∈ ps, 0 ≤ x ∧ x < 64) :
    (setBits (met.map Int.toNat) &&& setBits (ps.map Int.toNat)) = 0 ↔ apartB met ps = true := by
  rw [apart_iff]
  constructor
  · intro h x hx hm
    obtain ⟨k, rfl⟩ : ∃ k : Nat, x = (k : Int) := ⟨x.toNat, by have := h2 x hx; omega⟩
    have h3 : (setBits (met.map Int.toNat) &&& setBits (ps.map Int.toNat)).testBit k = true := by
      rw [Nat.testBit_and, Bool.and_eq_true, setBits_test k _ _ rfl, setBits_test k _ _ rfl, mem_nat h1, mem_nat h2]
      exact ⟨hm, hx⟩
    rw [h] at h3
    simp at h3
  · intro h
    apply Nat.eq_of_testBit_eq
    intro i
    rw [Nat.zero_testBit, Bool.eq_false_iff]
    intro h3
    rw [Nat.testBit_and, Bool.and_eq_true, setBits_test i _ _ rfl, setBits_test i _ _ rfl, mem_nat h1, mem_nat h2] at h3
    exact h _ h3.2 h3.1
theorem apart_comm (p q : List Int) : apartB p q = apartB q p := by
  rw [Bool.eq_iff_iff, apart_iff, apart_iff]
  exact ⟨fun h x hx hq => h x hq hx, fun h x hx hq => h x hq hx⟩
theorem goes_last {W H a b : Int} {hs : List Int} : ∀ (xs ys : List Int) (o : Option Int) (hx : xs ≠ []),
    goesB W H hs a b o (xs ++ ys) = (goesB W H hs a b o xs && goesB W H hs a b (some (xs.getLast hx)) ys)
  | [], _, _, hx => absurd rfl hx
  | [x], ys, o, _ => by simp [goesB]
  | x :: y :: t, ys, o, _ => by
    have ih := goes_last (W := W) (H := H) (a := a) (b := b) (hs := hs) (y :: t) ys (some x) (by simp)
    rw [List.getLast_cons (by simp)]
    show (hasB W H hs x && (match o with | none => true | some q => leapB W a b q x) && goesB W H hs a b (some x) ((y :: t) ++ ys)) = ((hasB W H hs x && (match o with | none => true | some q => leapB W a b q x) && goesB W H hs a b (some x) (y :: t)) && goesB W H hs a b (some ((y :: t).getLast (by simp))) ys)
    rw [ih]
    simp only [Bool.and_assoc]
end Go.Proofs.YtbpgkigoboobeaaGreat
