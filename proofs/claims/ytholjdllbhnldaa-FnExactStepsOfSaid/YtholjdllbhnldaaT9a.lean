/-
  Contracts: the first of the greatest distances; FarthestFrom, the model.
-/
import Derived.Test.YtholjdllbhnldaaT8b
import Derived.Deep.RegionHeld3
namespace Go.Proofs.Ytholjdllbhnldaa
open Go.RowKit

theorem dist_bd {W H a b p : Int} {xs : List Int} {N : Nat} (h : OnFacts W H xs a b N) (hp : hasB W H xs p = true) : ∀ x ∈ distL W H xs a b p, -1 ≤ x ∧ x ≤ 64 := fun x hx => far_bd h hp x (by rw [far64 h hp]; exact List.mem_append_left _ hx)
theorem dist_self {W H a b p : Int} {xs : List Int} {N : Nat} (h : OnFacts W H xs a b N) (hp : hasB W H xs p = true) : (distL W H xs a b p).getD p.toNat (-1) = 0 := by
  have hr := (hasB_iff.1 hp).1
  have := h.wh
  rw [distL]
  exact far_start (by omega) (fun c _ y hy => by have := leaps_in h.wh hy; omega)
theorem dist_selfN {W H a b : Int} {s : Nat} {xs : List Int} {N : Nat} (h : OnFacts W H xs a b N) (hp : hasB W H xs (s : Int) = true) : (distL W H xs a b (s : Int)).getD s (-1) = 0 := dist_self h hp
theorem most_max {D L : List Int} {j m : Nat} (M : IsMost D j) (h : L = D ++ List.replicate m (-1)) : Go.Lib.maxOf L = D.getD j (-1) := by
  have hj := M.lt
  have e : D.getD j (-1) = D[j] := by rw [List.getD_eq_getElem?_getD, List.getElem?_eq_getElem hj]; rfl
  refine max_of ?_ ?_ ?_
  · intro h0; rw [h0] at h; have := congrArg List.length h; simp at this; omega
  · rw [h, e]; exact List.mem_append_left _ (List.getElem_mem hj)
  · intro x hx
    rw [h] at hx
    rcases List.mem_append.1 hx with hx | hx
    · obtain ⟨i, hi, rfl⟩ := List.getElem_of_mem hx
      have := M.le i
      rwa [List.getD_eq_getElem?_getD, List.getElem?_eq_getElem hi] at this
    · have := (List.mem_replicate.1 hx).2; have := M.nn; omega
theorem most_idx {D L : List Int} {j m : Nat} (M : IsMost D j) (h : L = D ++ List.replicate m (-1)) : Go.Lib.idxOf L (D.getD j (-1)) = (j : Int) := by
  have hj := M.lt
  have g : ∀ i, i < D.length → L.getD i 0 = D.getD i (-1) := fun i hi => by
    rw [h, List.getD_eq_getElem?_getD, List.getElem?_append_left hi, List.getD_eq_getElem?_getD, List.getElem?_eq_getElem hi]; rfl
  exact idx_of (by rw [h, List.length_append]; omega) (g j hj) (fun i hi => by rw [g i (by omega)]; have := M.first i hi; omega)
def farthAt (W H : Int) (xs : List Int) (a b p : Int) : Int := if onB W H xs a b [p] = true then mostTo (distL W H xs a b p) (W * H).toNat else 0
def farthBy (W H : Int) (xs : List Int) (a b p : Int) : Int := if onB W H xs a b [p] = true then (distL W H xs a b p).getD (mostTo (distL W H xs a b p) (W * H).toNat).toNat (-1) else 0

set_option maxRecDepth 100000 in
set_option maxHeartbeats 2000000 in
theorem faMost_any (A : Option Addr) (n c : Nat) (D : List Int) (w : World) (hr : Rd w A n D) (hb : ∀ x ∈ D, -1 ≤ x ∧ x ≤ 64) (hn64 : n ≤ 64) (k0 : Nat) (hk0 : k0 < n) (h00 : 0 ≤ D.getD k0 (-1)) :
    Calls Try.prog 28 #[.slice A n c] w fun e w' => e = .returned (.tuple #[.int .i64 (mostTo D n), .int .i64 (D.getD (mostTo D n).toNat (-1))]) ∧ Below w.heap.size w w' := by
  have HR := Lib.hid hr; have HB0 := Lib.hid hb; have HLEN := Lib.hid hr.1
  obtain ⟨j0, ej0, M0⟩ := most_is (L := D) (k := k0) (by rw [hr.1]; exact hk0) h00
  rw [hr.1] at ej0
  have EJ := Lib.hid ej0
  have hj0 : j0 < n := by have := M0.lt; rw [hr.1] at this; exact this
  obtain ⟨bb, oo, z0, rfl, hbl, hz0, zc⟩ := hr.at_ hj0
  have HZ := Lib.hid hz0
  have ZC := Lib.hid zc
  clear hr hb ej0 M0 h00 hz0 zc
  go_enter Try.func28, Try.ntmps28
  go_wp2
  go_loopw [4, 9] (fun v i wr => ∃ k : Nat, k ≤ n ∧ i = .int .i64 k ∧ v = .int .i64 (mostTo D k) ∧ Below w.heap.size w wr) (fun _ i _ => n - (intOf i).toNat)
  case atStart => exact ⟨0, by omega, rfl, rfl, Below.refl _ _⟩
  case round =>
    obtain ⟨k, hk, rfl, rfl, hbw⟩ := hrel
    have HB := Lib.hid hbw
    by_cases hlt : k < n
    · obtain ⟨b1, o1, x, he, _, hx, c0⟩ := (HR.out.keep hbw).at_ hlt
      injection he with he
      injection he with he1 he2
      subst he1 he2
      have hxb := HB0.out x (List.mem_of_getElem? hx)
      have gx : D.getD k (-1) = x := by rw [List.getD_eq_getElem?_getD, hx]; rfl
      have hm := mostTo_ok D k
      obtain ⟨m, em⟩ : ∃ m, m = mostTo D k := ⟨_, rfl⟩
      rw [← em] at hm ⊢
      have EM := Lib.hid em; have GX := Lib.hid gx
      clear hx em gx hbw
      by_cases hx0 : x < 0
      · clear hm
        go_wp2
        go_roundw
        case rel => exact ⟨k + 1, by omega, by go_num, by rw [mostTo, if_neg (by rw [GX.out]; omega), EM.out], HB.out⟩
        case measure => simp [intOf]; omega
      · rcases hm with ⟨rfl, _⟩ | ⟨j, rfl, hj, hjn, _⟩
        · go_wp2
          go_roundw
          case rel => exact ⟨k + 1, by omega, by go_num, by rw [mostTo, if_pos (by rw [GX.out, ← EM.out]; omega)], HB.out⟩
          case measure => simp [intOf]; omega
        · obtain ⟨b1, o1, y, he, _, hy, c1⟩ := (HR.out.keep HB.out).at_ (k := j) (by omega)
          injection he with he
          injection he with he1 he2
          subst he1 he2
          have gy : D.getD j (-1) = y := by rw [List.getD_eq_getElem?_getD, hy]; rfl
          have GY := Lib.hid gy
          clear hy gy hjn
          by_cases hxy : y < x
          · go_wp2
            go_roundw
            case rel => exact ⟨k + 1, by omega, by go_num, by rw [mostTo, if_pos (by rw [GX.out, ← EM.out, Int.toNat_natCast, GY.out]; exact ⟨by omega, .inr hxy⟩)], HB.out⟩
            case measure => simp [intOf]; omega
          · go_wp2
            go_roundw
            case rel => exact ⟨k + 1, by omega, by go_num, by rw [mostTo, if_neg (by rw [GX.out, ← EM.out, Int.toNat_natCast, GY.out]; omega), EM.out], HB.out⟩
            case measure => simp [intOf]; omega
    · obtain rfl : k = n := by omega
      have c1 := (HB.out.cell (p := ⟨bb, oo + j0, none⟩) hbl).trans ZC.out
      rw [EJ.out]
      have hj00 : (0 : Int) ≤ (j0 : Int) := by omega
      have hj01 : (j0 : Int) < (k : Int) := by omega
      clear hbw hlt
      go_wp2_with fail
      go_region_held3 (fun w' => w'.cell? ⟨bb, oo + j0, none⟩ = some (.int .i64 z0)) (first | exact c1) (first | fail)
      all_goals go_wp2
      all_goals go_ret2
      all_goals exact ⟨by rw [EJ.out, Int.toNat_natCast, show D.getD j0 (-1) = z0 by rw [List.getD_eq_getElem?_getD, HZ.out]; rfl]; rfl, ⟨HB.out.os, HB.out.tape, HB.out.output, HB.out.size, HB.out.block⟩⟩

end Go.Proofs.Ytholjdllbhnldaa
