/-
  Contracts: spots added and taken away, the opposite one.
-/
import Derived.Test.YtphjkmikleldcaaB9
namespace Go.Proofs.Ytphjkmikleldcaa
open Go.RowKit

set_option maxHeartbeats 400000 in
theorem minus_any (x y u v : Int) (w : World) (hx : -100 ≤ x ∧ x ≤ 100) (hy : -100 ≤ y ∧ y ≤ 100) (hu : -100 ≤ u ∧ u ≤ 100) (hv : -100 ≤ v ∧ v ≤ 100) :
    Calls Try.prog 87 #[lpr x y, lpr u v] w fun e w' => e = .returned (lpr (x - u) (y - v)) ∧ Below w.heap.size w w' := by
  obtain ⟨hx1, hx2⟩ := hx
  obtain ⟨hy1, hy2⟩ := hy
  obtain ⟨hu1, hu2⟩ := hu
  obtain ⟨hv1, hv2⟩ := hv
  have hw1 : IntKind.i64.wrap (x - u) = x - u := IntWalk.i64_in _ (by omega)
  have hw2 : IntKind.i64.wrap (y - v) = y - v := IntWalk.i64_in _ (by omega)
  go_enter Try.func87, Try.ntmps87
  go_wp2
  exact bodyPost_ret (v := lpr (x - u) (y - v)) (by simp [results, Try.results87, go_sem]) rfl ⟨rfl, (by repeat (first | exact Below.refl _ _ | refine Below.setCell ?_ (by simp) _ | refine below_new ?_ _ | refine Below.drew ?_))⟩

set_option maxHeartbeats 400000 in
theorem opposite_any (W H : Int) (A : Option Addr) (n c : Nat) (x y : Int) (w : World) (hW : 1 ≤ W ∧ W ≤ 8) (hH : 1 ≤ H ∧ H ≤ 8) (hx : -100 ≤ x ∧ x ≤ 100) (hy : -100 ≤ y ∧ y ≤ 100) :
    Calls Try.prog 84 #[lpr x y, brd W H A n c] w fun e w' => e = .returned (lpr (W - 1 - x) (H - 1 - y)) ∧ Below w.heap.size w w' := by
  obtain ⟨hW1, hW2⟩ := hW
  obtain ⟨hH1, hH2⟩ := hH
  have HX := Lib.hid hx; have HY := Lib.hid hy
  clear hx hy
  have hw1 : IntKind.i64.wrap (W - 1) = W - 1 := IntWalk.i64_in _ (by omega)
  have hw2 : IntKind.i64.wrap (H - 1) = H - 1 := IntWalk.i64_in _ (by omega)
  obtain ⟨W3, hW3⟩ : ∃ W3, W3 = ((w.alloc (.cells #[.int .i64 x, .int .i64 y] 71)).alloc (.cells #[.int .i64 W, .int .i64 H, .slice A n c] 30)).alloc (.cells #[.int .i64 0, .int .i64 0] 71) := ⟨_, rfl⟩
  have B := Lib.hid (show Below w.heap.size w W3 by rw [hW3]; exact below_new (below_new (below_new (Below.refl _ _) _) _) _)
  have s0 : W3.cell? ⟨w.heap.size + 1 + 1, 0, none⟩ = some (.int .i64 0) := by rw [hW3]; go_simp
  have s1 : W3.cell? ⟨w.heap.size + 1 + 1, 1, none⟩ = some (.int .i64 0) := by rw [hW3]; go_simp
  have z0 : W3.frozen? ⟨w.heap.size + 1 + 1, 0, none⟩ = false := by rw [hW3]; go_simp
  have z1 : W3.frozen? ⟨w.heap.size + 1 + 1, 1, none⟩ = false := by rw [hW3]; go_simp
  have hsz : W3.heap.size = w.heap.size + 3 := by rw [hW3]; simp
  go_enter Try.func84, Try.ntmps84
  go_wp2_with fail
  refine (minus_any (W - 1) (H - 1) x y _ (by omega) (by omega) HX.out HY.out).mono ?_
  rintro e wv ⟨rfl, hb⟩
  rw [← hW3] at hb
  have hl : w.heap.size + 1 + 1 < W3.heap.size := by omega
  have t0 := cell_keep s0 hl hb; have t1 := cell_keep s1 hl hb
  have f0 := ((bcell hb).2 _ 0 hl).trans z0; have f1 := ((bcell hb).2 _ 1 hl).trans z1
  replace hl := lt_keep hl hb
  replace B := Lib.hid (below_next B.out hb)
  clear hb hW3 s0 s1 z0 z1 hsz
  go_wp2
  exact bodyPost_ret (v := lpr (W - 1 - x) (H - 1 - y)) (by simp [results, Try.results84, go_sem, t0, t1]) rfl ⟨rfl, (by repeat (first | exact B.out | refine Below.setCell ?_ (by simp; try omega) _ | refine Below.drew ?_))⟩

end Go.Proofs.Ytphjkmikleldcaa
