/-
  Contracts: whether a leaper leaps from one cell to another one.
-/
import Derived.Test.YtaliknhfcdmohaaB8
import Derived.Test.YtaliknhfcdmohaaB6
import Derived.Deep.RegionWith
import Derived.Deep.DeepCutAuto
namespace Go.Proofs.Ytaliknhfcdmohaa
open Go.RowKit

def absV (x : Int) : Int := if x < 0 then -x else x
theorem absV_bd {x : Int} (h : -100 ≤ x ∧ x ≤ 100) : 0 ≤ absV x ∧ absV x ≤ 100 := by unfold absV; split <;> omega
theorem absV_sub (x y : Int) : absV (x - y) = absV (y - x) := by unfold absV; split <;> split <;> omega
def leapB (W a b p q : Int) : Bool := decide ((absV (p % W - q % W) = a ∧ absV (p / W - q / W) = b) ∨ (absV (p % W - q % W) = b ∧ absV (p / W - q / W) = a))

set_option maxHeartbeats 400000 in
theorem l1Abs_any (x : Int) (w : World) (h1 : -1000 ≤ x) (h2 : x ≤ 1000) :
    Calls Try.prog 104 #[.int .i64 x] w fun e w' => e = .returned (.int .i64 (absV x)) ∧ w = w' := by
  by_cases h : x < 0
  · have h3 : ¬ -x < x := by omega
    go_enter Try.func104, Try.ntmps104
    go_wp2
    go_ret
    exact ⟨ret_int (by unfold absV; split <;> omega), rfl⟩
  · by_cases h0 : x = 0
    · subst h0
      go_enter Try.func104, Try.ntmps104
      go_wp2
      go_ret
      exact ⟨ret_int (by unfold absV; split <;> omega), rfl⟩
    · have h3 : -x < x := by omega
      go_enter Try.func104, Try.ntmps104
      go_wp2
      go_ret
      exact ⟨ret_int (by unfold absV; split <;> omega), rfl⟩

set_option maxHeartbeats 400000 in
theorem apart_any (x y : Int) (w : World) (h1 : 0 ≤ x) (h2 : x ≤ 100) (h3 : 0 ≤ y) (h4 : y ≤ 100) :
    Calls Try.prog 103 #[.int .i64 x, .int .i64 y] w fun e w' => e = .returned (.int .i64 (absV (x - y))) ∧ w = w' := by
  go_enter Try.func103, Try.ntmps103
  go_wp2
  all_goals (go_ret; exact ⟨ret_int (by unfold absV; split <;> omega), rfl⟩)

theorem keep3 {w w' : World} {β : Nat} {u v x : Value} (h0 : w.cell? ⟨β, 0, none⟩ = some u) (h1 : w.cell? ⟨β, 1, none⟩ = some v) (h2 : w.cell? ⟨β, 2, none⟩ = some x) (hl : β < w.heap.size) (hb : Below w.heap.size w w') :
    w'.cell? ⟨β, 0, none⟩ = some u ∧ w'.cell? ⟨β, 1, none⟩ = some v ∧ w'.cell? ⟨β, 2, none⟩ = some x := ⟨cell_keep h0 hl hb, cell_keep h1 hl hb, cell_keep h2 hl hb⟩

theorem keep4 {w w' : World} {β γ : Nat} {u v x y : Value} (h0 : w.cell? ⟨β, 0, none⟩ = some u) (h1 : w.cell? ⟨β, 1, none⟩ = some v) (h2 : w.cell? ⟨γ, 0, none⟩ = some x) (h3 : w.cell? ⟨γ, 1, none⟩ = some y) (hl : β < w.heap.size) (hm : γ < w.heap.size) (hb : Below w.heap.size w w') :
    w'.cell? ⟨β, 0, none⟩ = some u ∧ w'.cell? ⟨β, 1, none⟩ = some v ∧ w'.cell? ⟨γ, 0, none⟩ = some x ∧ w'.cell? ⟨γ, 1, none⟩ = some y := ⟨cell_keep h0 hl hb, cell_keep h1 hl hb, cell_keep h2 hm hb, cell_keep h3 hm hb⟩

def SpotAt (wr : World) (g : Nat) (x y : Int) : Prop := wr.cell? ⟨g, 0, none⟩ = some (.int .i64 x) ∧ wr.cell? ⟨g, 1, none⟩ = some (.int .i64 y) ∧ g < wr.heap.size

end Go.Proofs.Ytaliknhfcdmohaa
