/-
  Contracts: whether a spot is there.
-/
import Derived.Test.YtjplcnbifcpebaaDoorQ1
import Derived.Test.YtjplcnbifcpebaaDoorB9
import Derived.Deep.RegionHeld3
namespace Go.Proofs.YtjplcnbifcpebaaDoor
open Go.RowKit

set_option maxHeartbeats 400000 in
theorem number_gen (x y W : Int) (w : World) (hx : -5000 ≤ x ∧ x ≤ 5000) (hyW : -5000 ≤ y * W ∧ y * W ≤ 5000) :
    Calls Tryd.prog 56 #[lpr x y, .int .i64 W] w fun e w' => e = .returned (.int .i64 (y * W + x)) ∧ Below w.heap.size w w' := by
  obtain ⟨hx1, hx2⟩ := hx
  obtain ⟨hy1, hy2⟩ := hyW
  go_enter Tryd.func56, Tryd.ntmps56
  go_wp2
  go_ret
  exact ⟨rfl, below_new (Below.refl _ _) _⟩

theorem mul_bd {y W : Int} (hy : -100 ≤ y ∧ y ≤ 100) (hW : 1 ≤ W ∧ W ≤ 8) : -1000 ≤ y * W ∧ y * W ≤ 1000 := by
  have h : W = 1 ∨ W = 2 ∨ W = 3 ∨ W = 4 ∨ W = 5 ∨ W = 6 ∨ W = 7 ∨ W = 8 := by omega
  rcases h with rfl | rfl | rfl | rfl | rfl | rfl | rfl | rfl <;> omega

set_option maxRecDepth 100000 in
set_option maxHeartbeats 1000000 in
theorem isSpotThere_any (W H : Int) (A : Option Addr) (n c : Nat) (xs : List Int) (x y : Int) (w : World) (ha : Rd w A n xs) (hg : goodB W H xs = true) (hx : -300 ≤ x ∧ x ≤ 300) (hyW : -3000 ≤ y * W ∧ y * W ≤ 3000) :
    Calls Tryd.prog 68 #[brd W H A n c, lpr x y] w fun e w' => e = .returned (.bool (spotB W H xs x y)) ∧ Below w.heap.size w w' := by
  obtain ⟨W2, hW2⟩ : ∃ W2, W2 = (w.alloc (.cells #[.int .i64 W, .int .i64 H, .slice A n c] 30)).alloc (.cells #[.int .i64 x, .int .i64 y] 73) := ⟨_, rfl⟩
  have a0 : W2.cell? ⟨w.heap.size, 0, none⟩ = some (.int .i64 W) := by rw [hW2]; go_simp
  have a1 : W2.cell? ⟨w.heap.size, 1, none⟩ = some (.int .i64 H) := by rw [hW2]; go_simp
  have a2 : W2.cell? ⟨w.heap.size, 2, none⟩ = some (.slice A n c) := by rw [hW2]; go_simp
  have s0 : W2.cell? ⟨w.heap.size + 1, 0, none⟩ = some (.int .i64 x) := by rw [hW2]; go_simp
  have s1 : W2.cell? ⟨w.heap.size + 1, 1, none⟩ = some (.int .i64 y) := by rw [hW2]; go_simp
  have hsz : w.heap.size + 2 ≤ W2.heap.size := by rw [hW2]; simp
  have B := Lib.hid (show Below w.heap.size w W2 by rw [hW2]; exact below_new (below_new (Below.refl _ _) _) _)
  have R := Lib.hid (ha.keep B.out)
  have HG := Lib.hid hg
  have HX := Lib.hid hx; have HY := Lib.hid hyW
  clear hg hx hyW
  have ga : w.heap.size < W2.heap.size := by omega
  have gb : w.heap.size + 1 < W2.heap.size := by omega
  by_cases h0 : 0 ≤ x
  · by_cases h1 : x < W
    · go_enter Tryd.func68, Tryd.ntmps68
      go_wp2
      rw [← hW2]
      clear hW2
      go_region_held3 (fun w' => w'.cell? ⟨w.heap.size, 0, none⟩ = some (.int .i64 W) ∧ w'.cell? ⟨w.heap.size, 1, none⟩ = some (.int .i64 H) ∧ w'.cell? ⟨w.heap.size, 2, none⟩ = some (.slice A n c) ∧ w'.cell? ⟨w.heap.size + 1, 0, none⟩ = some (.int .i64 x) ∧ w'.cell? ⟨w.heap.size + 1, 1, none⟩ = some (.int .i64 y)) (first | exact ⟨a0, a1, a2, s0, s1⟩)
        (first
          | (go_at_call 56; refine (number_gen x y W _ ?_ ?_).mono ?_; (have := HX.out; omega); (have := HY.out; omega); rintro e wv ⟨rfl, hb⟩; (try replace hb := below_undrew hb); replace R := Lib.hid (R.out.keep hb); replace a0 := cell_keep a0 ga hb; replace a1 := cell_keep a1 ga hb; replace a2 := cell_keep a2 ga hb; replace s0 := cell_keep s0 gb hb; replace s1 := cell_keep s1 gb hb; replace ga := lt_keep ga hb; replace gb := lt_keep gb hb; replace B := Lib.hid (below_next B.out hb); clear hb)
          | (go_at_call 51; refine (isThere_any W H A n c (y * W + x) xs _ ?_ ?_).mono ?_; (exact R.out); (exact HG.out); rintro e wv ⟨rfl, hb⟩; replace a0 := cell_keep a0 ga hb; replace a1 := cell_keep a1 ga hb; replace a2 := cell_keep a2 ga hb; replace s0 := cell_keep s0 gb hb; replace s1 := cell_keep s1 gb hb; replace ga := lt_keep ga hb; replace gb := lt_keep gb hb; replace B := Lib.hid (below_next B.out hb); clear hb))
      all_goals go_wp2
      all_goals go_ret
      all_goals exact ⟨ret_bool (by rw [spotB, show decide (0 ≤ x ∧ x < W) = true by simp [h0, h1]]; rfl), B.out⟩
    · have h1' : decide (x < W) = false := by simpa using h1
      go_enter Tryd.func68, Tryd.ntmps68
      go_wp2
      rw [← hW2]
      clear hW2
      go_quiet (fail)
      go_wp2
      go_ret
      exact ⟨ret_bool (by rw [spotB, show decide (0 ≤ x ∧ x < W) = false by simp; omega]; rfl), below_drewN B.out _⟩
  · have h0' : decide (0 ≤ x) = false := by simpa using h0
    go_enter Tryd.func68, Tryd.ntmps68
    go_wp2
    rw [← hW2]
    clear hW2
    go_quiet (fail)
    go_wp2
    go_ret
    exact ⟨ret_bool (by rw [spotB, show decide (0 ≤ x ∧ x < W) = false by simp; omega]; rfl), below_drewN B.out _⟩

end Go.Proofs.YtjplcnbifcpebaaDoor
