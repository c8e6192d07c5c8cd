/-
  Contracts: spots, turned and mirrored cells.
-/
import Derived.Test.YtnmmgalidkambaaGreatDoorB5
import Derived.Test.YtnmmgalidkambaaGreatDoorBN
import Derived.Deep.RegionHeld3
namespace Go.Proofs.YtnmmgalidkambaaGreatDoor
open Go.RowKit

theorem mod_bd {W c : Int} (hW : 1 ≤ W ∧ W ≤ 8) : 0 ≤ c % W ∧ c % W < W ∧ c % W ≤ 7 := by
  have h1 := Int.emod_nonneg c (b := W) (by omega)
  have h2 := Int.emod_lt_of_pos c (b := W) (by omega)
  omega
theorem div_bd {W H c : Int} (hW : 1 ≤ W ∧ W ≤ 8) (hc : 0 ≤ c ∧ c < W * H) : 0 ≤ c / W ∧ c / W < H := by
  constructor
  · exact Int.ediv_nonneg hc.1 (by omega)
  · exact Int.ediv_lt_of_lt_mul (by omega) (by rw [Int.mul_comm]; exact hc.2)
theorem mulN {x y : Int} (hx : 0 ≤ x ∧ x ≤ 8) (hy : 0 ≤ y ∧ y ≤ 8) : 0 ≤ x * y ∧ x * y ≤ 64 :=
  ⟨Int.mul_nonneg hx.1 hy.1, by have := Int.mul_le_mul hx.2 hy.2 hy.1 (by omega); omega⟩
def turnV (W H c : Int) : Int := (c % W) * H + H - 1 - c / W
def mirrorV (W c : Int) : Int := c - c % W + W - 1 - c % W

set_option maxHeartbeats 400000 in
theorem spotOf_any (W H : Int) (A : Option Addr) (n c : Nat) (q : Int) (w : World) (hW : 1 ≤ W ∧ W ≤ 8) (hq : 0 ≤ q ∧ q ≤ 64) :
    Calls Tryz.prog 89 #[brd W H A n c, .int .i64 q] w fun e w' => e = .returned (lpr (q % W) (q / W)) ∧ Below w.heap.size w w' := by
  go_enter Tryz.func89, Tryz.ntmps89
  go_wp2_with fail
  refine (numbered_exact q W _ hW hq).mono ?_
  rintro e wv ⟨rfl, m, rfl⟩
  go_wp2
  exact bodyPost_ret (v := lpr (q % W) (q / W)) (by simp [results, Tryz.results89, go_sem]) rfl ⟨rfl, (by repeat (first | exact Below.refl _ _ | refine Below.setCell ?_ (by simp) _ | refine Below.drew ?_ | refine below_drewN ?_ _ | refine below_new ?_ _))⟩

set_option maxHeartbeats 400000 in
theorem number_any (x y W : Int) (w : World) (hx : 0 ≤ x ∧ x ≤ 1000) (hyW : 0 ≤ y * W ∧ y * W ≤ 1000) :
    Calls Tryz.prog 76 #[lpr x y, .int .i64 W] w fun e w' => e = .returned (.int .i64 (y * W + x)) ∧ Below w.heap.size w w' := by
  obtain ⟨hx1, hx2⟩ := hx
  obtain ⟨hy1, hy2⟩ := hyW
  go_enter Tryz.func76, Tryz.ntmps76
  go_wp2
  go_ret
  exact ⟨rfl, below_new (Below.refl _ _) _⟩

/-! ### TurnCell, MirrorCell -/
def turnCellV (W H : Int) (xs : List Int) (q : Int) : Int := if hasV W H xs q then turnV W H q else 0
def mirrorCellV (W H : Int) (xs : List Int) (q : Int) : Int := if hasV W H xs q then mirrorV W q else 0
theorem hasV_facts {W H q : Int} {xs : List Int} (h : hasV W H xs q = true) : goodB W H xs = true ∧ (1 ≤ W ∧ W ≤ 8) ∧ (1 ≤ H ∧ H ≤ 8) ∧ (0 ≤ q ∧ q < W * H) ∧ W * H ≤ 64 ∧ hasB W H xs q = true := by
  simp only [hasV, Bool.and_eq_true] at h
  obtain ⟨hW, hH, _, _⟩ := goodB_iff.1 h.1
  exact ⟨h.1, hW, hH, (hasB_iff.1 h.2).1, (cells_le hW hH).2, h.2⟩

end Go.Proofs.YtnmmgalidkambaaGreatDoor
