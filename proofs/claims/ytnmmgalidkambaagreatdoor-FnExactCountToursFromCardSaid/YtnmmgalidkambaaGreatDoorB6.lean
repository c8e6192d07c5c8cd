/-
  Contracts: leaps on plain boards, by the sizes alone; plain boards.
-/
import Derived.Test.YtnmmgalidkambaaGreatDoorB2
import Derived.Test.YtnmmgalidkambaaGreatDoorApp
import Derived.Deep.RegionHeld3
namespace Go.Proofs.YtnmmgalidkambaaGreatDoor
open Go.RowKit

def posV (x : Int) : Int := if x < 0 then 0 else x
def roomV (s t : Int) : Int := posV (s - t)
theorem roomV_le {s t : Int} (h1 : 1 ≤ s ∧ s ≤ 8) (h2 : 0 ≤ t) : 0 ≤ roomV s t ∧ roomV s t ≤ 8 := by unfold roomV posV; split <;> omega
theorem mul_le8 {x y : Int} (hx : 0 ≤ x ∧ x ≤ 8) (hy : 0 ≤ y ∧ y ≤ 8) : 0 ≤ x * y ∧ x * y ≤ 64 :=
  ⟨Int.mul_nonneg hx.1 hy.1, by have := Int.mul_le_mul hx.2 hy.2 hy.1 (by omega); omega⟩
def oneV (m n a b : Int) : Int := roomV m a * roomV n b
def plainLeapsV (m n a b : Int) : Int := if sizeB m && sizeB n && leaperB a b then (if a = 0 then oneV m n a b + oneV m n b a else if a = b then 2 * oneV m n a b else 2 * (oneV m n a b + oneV m n b a)) else 0
def plainLeapsB (m n a b : Int) : Bool := sizeB m && sizeB n && leaperB a b
theorem oneV_le {m n a b : Int} (hm : 1 ≤ m ∧ m ≤ 8) (hn : 1 ≤ n ∧ n ≤ 8) (ha : 0 ≤ a) (hb : 0 ≤ b) : 0 ≤ oneV m n a b ∧ oneV m n a b ≤ 64 := mul_le8 (roomV_le hm ha) (roomV_le hn hb)

theorem quiet_drew {P : Program} {f : FuncId} {args : Array Value} {w : World} {a n : Nat} {v : Value} (h : Calls P f args (w.drewN (a + n)) fun e w' => e = .returned v ∧ w.drewN (a + n) = w') :
    Calls P f args (w.drewN (a + n)) fun e w' => e = .returned v ∧ ∃ m, w' = w.drewN (a + m) := h.mono fun _ _ ⟨he, hw⟩ => ⟨he, n, hw.symm⟩
theorem quiet_same {P : Program} {f : FuncId} {args : Array Value} {w : World} {v : Value} (h : Calls P f args w fun e w' => e = .returned v ∧ w = w') : Calls P f args w fun e w' => e = .returned v ∧ w' = w :=
  h.mono fun _ _ ⟨he, hw⟩ => ⟨he, hw.symm⟩

set_option maxHeartbeats 400000 in
theorem l1Most_any (x : Int) (w : World) :
    Calls Tryz.prog 97 #[.int .i64 0, .int .i64 x] w fun e w' => e = .returned (.int .i64 (posV x)) ∧ w = w' := by
  by_cases h : x < 0
  · go_enter Tryz.func97, Tryz.ntmps97
    go_wp2
    go_ret
    exact ⟨ret_int (by unfold posV; split <;> omega), rfl⟩
  · go_enter Tryz.func97, Tryz.ntmps97
    go_wp2
    go_ret
    exact ⟨ret_int (by unfold posV; split <;> omega), rfl⟩

theorem plain_eq {m n a b : Int} (hs : (sizeB m && sizeB n) = true) (hl : leaperB a b = true) :
    plainLeapsV m n a b = (if 0 < a ∧ a < b then (oneV m n a b + oneV m n b a) * 2 else oneV m n a b + oneV m n b a) := by
  have l1 := leaperB_iff.1 hl
  rw [plainLeapsV, hs, hl]
  simp only [Bool.and_self, if_true]
  by_cases ha : a = 0
  · subst ha; simp
  · by_cases hab : a = b
    · subst hab; simp [ha]; omega
    · rw [if_neg ha, if_neg hab, if_pos (by omega)]; omega

/-! ### Plain boards -/
def plainB (m n : Int) : Bool := sizeB m && sizeB n
def PlainBoard_w (m n : Int) : Int := if plainB m n then m else 0
def PlainBoard_h (m n : Int) : Int := if plainB m n then n else 0

end Go.Proofs.YtnmmgalidkambaaGreatDoor
