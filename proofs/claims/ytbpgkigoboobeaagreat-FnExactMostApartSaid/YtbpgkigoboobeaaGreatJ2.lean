/-
  Plain functions and facts: the most leaps apart.
-/
import Derived.Test.YtbpgkigoboobeaaGreatJ1
namespace Go.Proofs.YtbpgkigoboobeaaGreat

/-! ### Leaps apart -/
section
variable {α : Type} (M : α → α → Bool)
def mxA : List α → Nat
  | [] => 0
  | p :: t => max (1 + mxA (t.filter fun q => !M p q)) (mxA t)
termination_by l => l.length
decreasing_by
  · rw [List.length_unattach]; exact Nat.lt_succ_of_le (Nat.le_trans (List.length_filter_le _ _) (by simp))
  · simp
theorem mxA_nil : mxA M [] = 0 := by rw [mxA]
theorem mxA_cons (p : α) (t : List α) : mxA M (p :: t) = max (1 + mxA M (t.filter fun q => !M p q)) (mxA M t) := by rw [mxA]
theorem mxA_le (l : List α) : mxA M l ≤ l.length := by
  induction h : l.length using Nat.strongRecOn generalizing l with
  | _ n ih =>
    rcases l with _ | ⟨p, t⟩
    · rw [mxA_nil]; omega
    · rw [mxA_cons]
      simp only [List.length_cons] at h
      have h0 := List.length_filter_le (fun q => !M p q) t
      have h1 := ih _ (by omega) (t.filter fun q => !M p q) rfl
      have h2 := ih t.length (by omega) t rfl
      omega
/-- None is met by the first one: with it there is one more. -/
theorem mxA_free {p : α} {t : List α} (h : (t.filter fun q => !M p q).length = t.length) : mxA M (p :: t) = 1 + mxA M t := by
  rw [mxA_cons, List.length_filter_eq_length_iff.1 h |> List.filter_eq_self.2]; omega
def fitsA (ch : List α) (q : α) : Bool := ch.all fun p => !M p q
def apA : List α → List α → Nat
  | ch, [] => ch.length
  | ch, p :: t => max (if fitsA M ch p then apA (ch ++ [p]) t else ch.length) (apA ch t)
theorem apA_eq : ∀ (l ch : List α), apA M ch l = ch.length + mxA M (l.filter (fitsA M ch))
  | [], ch => by rw [apA, List.filter_nil, mxA_nil]; omega
  | p :: t, ch => by
    rw [apA, apA_eq t ch, apA_eq t (ch ++ [p]), List.filter_cons]
    split
    · rename_i h
      rw [mxA_cons, List.filter_filter]
      rw [show (fun a => !M p a && fitsA M ch a) = fitsA M (ch ++ [p]) from by funext a; rw [fitsA, fitsA, List.all_append, Bool.and_comm]; simp]
      simp only [List.length_append, List.length_singleton]; omega
    · omega
theorem apA_all (l : List α) : apA M [] l = mxA M l := by
  rw [apA_eq, List.filter_eq_self.2 (show ∀ a ∈ l, fitsA M [] a = true from fun _ _ => rfl)]; simp
theorem apA_bd (l ch : List α) : ch.length ≤ apA M ch l ∧ apA M ch l ≤ ch.length + l.length := by
  rw [apA_eq]; have := mxA_le M (l.filter (fitsA M ch)); have := List.length_filter_le (fitsA M ch) l; omega
end
theorem parts_comm (a b c d : Int × Int) : (partsS c d a b && partsS a b c d) = (partsS a b c d && partsS c d a b) := Bool.and_comm _ _
theorem cros_comm (a b c d : Int × Int) : crosS c d a b = crosS a b c d := by
  unfold crosS
  rw [show decide (c = a ∧ d = b) = decide (a = c ∧ b = d) from decide_eq_decide.2 ⟨fun h => ⟨h.1.symm, h.2.symm⟩, fun h => ⟨h.1.symm, h.2.symm⟩⟩]
  ac_rfl
/-- Two lines have a point in common. -/
def meetS (l m : Ln) : Bool := cr l m || (endsS l m.1 || endsS l m.2)
/-- The model's: two leaps have a point in common. -/
def meetB (W : Int) (p q : Int × Int) : Bool := doB W q.1 q.2 p.1 p.2 || (decide (q.1 = p.1 ∨ q.1 = p.2) || decide (q.2 = p.1 ∨ q.2 = p.2))
theorem do_comm (W p q r s : Int) (hpq : p ≠ q) (hrs : r ≠ s) : doB W r s p q = doB W p q r s := by
  rw [← cros_do hpq hrs, ← cros_do hrs hpq, crosL, crosL, cros_comm]
theorem meet_eq {W : Int} {p q : Int × Int} (hp : p.1 < p.2) (hq : q.1 < q.2) : meetS (lnL W p.1 p.2) (lnL W q.1 q.2) = meetB W p q := by
  have h1 : p.1 ≠ p.2 := by omega
  have h2 : q.1 ≠ q.2 := by omega
  rw [meetS, meetB, cr_do h1 h2, do_comm W p.1 p.2 q.1 q.2 h1 h2]
  simp only [endsS, lnL, Int.min_eq_left (Int.le_of_lt hp), Int.max_eq_right (Int.le_of_lt hp), Int.min_eq_left (Int.le_of_lt hq), Int.max_eq_right (Int.le_of_lt hq), dec_spot, Bool.decide_or]

end Go.Proofs.YtbpgkigoboobeaaGreat
