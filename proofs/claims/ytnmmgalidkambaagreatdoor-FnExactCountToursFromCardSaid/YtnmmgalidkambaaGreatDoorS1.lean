/-
  Contracts: spots compared.
-/
import Derived.Test.YtnmmgalidkambaaGreatDoorMem2
import Derived.Test.YtnmmgalidkambaaGreatDoorShelf
import Derived.Test.YtnmmgalidkambaaGreatDoorSortf
import Derived.Test.YtnmmgalidkambaaGreatDoorB6
import Derived.Deep.RegionHeld3
import Derived.Outline
namespace Go.Proofs.YtnmmgalidkambaaGreatDoor
open Go.RowKit

/-- A world with draws and blocks more. -/
def Grown (W w : World) : Prop := ∃ q os, w = Go.Sort.grow (W.drewN q) os
theorem Grown.refl (W : World) : Grown W W := ⟨0, #[], by simp; rfl⟩
theorem Grown.alloc {W w : World} (h : Grown W w) (o : Obj) : Grown W (w.alloc o) := by
  obtain ⟨q, os, rfl⟩ := h
  exact ⟨q, os ++ #[o], by rw [Go.Sort.alloc_eq_grow, Go.Sort.grow_grow]⟩
theorem Grown.drewN {W w : World} (h : Grown W w) (k : Nat) : Grown W (w.drewN k) := by
  obtain ⟨q, os, rfl⟩ := h
  exact ⟨q + k, os, by rw [← World.drewN_drewN]; rfl⟩
theorem Grown.drew1 {W w : World} (h : Grown W w) : Grown W w.drew := h.drewN 1

def cmpP (p q : Int × Int) : Int := if Lib.compareInt p.1 q.1 = 0 then Lib.compareInt p.2 q.2 else Lib.compareInt p.1 q.1

set_option maxHeartbeats 400000 in
theorem or2_any (g : Nat) (u v : Int) (w : World) (h0 : w.cell? ⟨g, 0, none⟩ = some (.int .i64 u)) (h1 : w.cell? ⟨g, 1, none⟩ = some (.int .i64 v)) :
    Calls Tryz.prog 115 #[.slice (some ⟨g, 0, none⟩) 2 2] w fun e w' => e = .returned (.int .i64 (if u = 0 then v else u)) ∧ w = w' := by
  by_cases hu : u = 0
  · subst hu
    by_cases hv : v = 0
    · subst hv
      go_enter Tryz.func115, Tryz.ntmps115
      go_wp2
      go_loop [8] (fun i => ∃ k : Nat, k ≤ 2 ∧ i = .int .i64 k) (fun i => 2 - (intOf i).toNat)
      case atStart => exact ⟨0, by omega, rfl⟩
      case round =>
        obtain ⟨k, hk, rfl⟩ := hrel
        have hk2 : k = 0 ∨ k = 1 ∨ k = 2 := by omega
        rcases hk2 with rfl | rfl | rfl
        · go_wp2
          go_round
          case rel => exact ⟨1, by omega, rfl⟩
          case measure => simp [intOf]
        · go_wp2
          go_round
          case rel => exact ⟨2, by omega, rfl⟩
          case measure => simp [intOf]
        · go_wp2
          go_ret
          exact ⟨rfl, rfl⟩
    · have hv' : (v == 0) = false := by simpa using hv
      have hv2 : (v != 0) = true := by simpa using hv
      go_enter Tryz.func115, Tryz.ntmps115
      go_wp2
      go_loop [8] (fun i => ∃ k : Nat, k ≤ 1 ∧ i = .int .i64 k) (fun i => 2 - (intOf i).toNat)
      case atStart => exact ⟨0, by omega, rfl⟩
      case round =>
        obtain ⟨k, hk, rfl⟩ := hrel
        have hk2 : k = 0 ∨ k = 1 := by omega
        rcases hk2 with rfl | rfl
        · go_wp2
          go_round
          case rel => exact ⟨1, by omega, rfl⟩
          case measure => simp [intOf]
        · go_wp2
          go_ret
          exact ⟨ret_int (by first | rfl | simp), rfl⟩
  · have hu' : (u == 0) = false := by simpa using hu
    have hu2 : (u != 0) = true := by simpa using hu
    go_enter Tryz.func115, Tryz.ntmps115
    go_wp2
    go_loop [8] (fun i => i = .int .i64 ((0 : Nat) : Int)) (fun i => 2 - (intOf i).toNat)
    case atStart => rfl
    case round =>
      obtain rfl := hrel
      go_wp2
      go_ret
      exact ⟨ret_int (by first | rfl | simp [hu]), rfl⟩

def cI (x y : Int) : Int := Lib.compareInt x y
def orI (u v : Int) : Int := if u = 0 then v else u
theorem compI_any (x y : Int) (w : World) : Calls Tryz.prog 116 #[.int .i64 x, .int .i64 y] w fun e w' => e = .returned (.int .i64 (cI x y)) ∧ w = w' :=
  (Tryz.cmp_Compare_int x y w).mono fun _ _ ⟨he, hw⟩ => ⟨he, hw.symm⟩
theorem orI_any (g : Nat) (u v : Int) (w : World) (h0 : w.cell? ⟨g, 0, none⟩ = some (.int .i64 u)) (h1 : w.cell? ⟨g, 1, none⟩ = some (.int .i64 v)) :
    Calls Tryz.prog 115 #[.slice (some ⟨g, 0, none⟩) 2 2] w fun e w' => e = .returned (.int .i64 (orI u v)) ∧ w = w' := or2_any g u v w h0 h1

set_option maxRecDepth 100000 in
set_option maxHeartbeats 1000000 in
theorem compare_any (p q : Int × Int) (W : World) :
    Calls Tryz.prog 99 #[.agg #[.int .i64 p.1, .int .i64 p.2], .agg #[.int .i64 q.1, .int .i64 q.2]] W fun e w' => e = .returned (.int .i64 (cmpP p q)) ∧ Grown W w' := by
  obtain ⟨x, y⟩ := p
  obtain ⟨x2, y2⟩ := q
  have G : Hid (Grown W ((W.alloc (.cells #[.int .i64 x, .int .i64 y] 90)).alloc (.cells #[.int .i64 x2, .int .i64 y2] 90))) := Lib.hid (((Grown.refl W).alloc _).alloc _)
  rw [show cmpP (x, y) (x2, y2) = orI (cI x x2) (cI y y2) from rfl]
  obtain ⟨W2, hW2⟩ : ∃ W2, W2 = (W.alloc (.cells #[.int .i64 x, .int .i64 y] 90)).alloc (.cells #[.int .i64 x2, .int .i64 y2] 90) := ⟨_, rfl⟩
  have a0 : W2.cell? ⟨W.heap.size, 0, none⟩ = some (.int .i64 x) := by rw [hW2]; go_simp
  have a1 : W2.cell? ⟨W.heap.size, 1, none⟩ = some (.int .i64 y) := by rw [hW2]; go_simp
  have b0 : W2.cell? ⟨W.heap.size + 1, 0, none⟩ = some (.int .i64 x2) := by rw [hW2]; go_simp
  have b1 : W2.cell? ⟨W.heap.size + 1, 1, none⟩ = some (.int .i64 y2) := by rw [hW2]; go_simp
  rw [← hW2] at G
  go_enter Tryz.func99, Tryz.ntmps99
  go_wp2
  rw [← hW2]
  have hsz : (W.heap.size + 2) ≤ W2.heap.size := by rw [hW2]; simp
  clear hW2
  have ga : W.heap.size < W2.heap.size := by omega
  have gb : W.heap.size + 1 < W2.heap.size := by omega
  go_region_held3 (fun w' => w'.cell? ⟨W.heap.size, 0, none⟩ = some (.int .i64 x) ∧ w'.cell? ⟨W.heap.size, 1, none⟩ = some (.int .i64 y) ∧ w'.cell? ⟨W.heap.size + 1, 0, none⟩ = some (.int .i64 x2) ∧ w'.cell? ⟨W.heap.size + 1, 1, none⟩ = some (.int .i64 y2)) (first | exact ⟨a0, a1, b0, b1⟩ | (refine ⟨?_, ?_, ?_, ?_⟩ <;> (first | assumption | go_simp)))
    (first
      | (go_at_call 116; (with_reducible refine (compI_any _ _ _).mono ?_); rintro e wv ⟨rfl, rfl⟩)
      | (go_at_call 115; (with_reducible refine (orI_any W2.heap.size (cI x x2) (cI y y2) _ ?_ ?_).mono ?_); (go_simp); (go_simp); rintro e wv ⟨rfl, rfl⟩))
  all_goals go_wp2
  all_goals go_ret
  all_goals (refine ⟨rfl, ?_⟩)
  all_goals (repeat (first | exact G.out | refine Grown.alloc ?_ _ | refine Grown.drewN ?_ _ | refine Grown.drew1 ?_))

end Go.Proofs.YtnmmgalidkambaaGreatDoor
