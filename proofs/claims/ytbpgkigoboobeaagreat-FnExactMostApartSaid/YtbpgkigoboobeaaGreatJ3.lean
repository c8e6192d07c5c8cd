/-
  Contracts: lines in the program: turns, points on lines, lines that cross.
-/
import Derived.Test.YtbpgkigoboobeaaGreatB9
import Derived.Test.YtbpgkigoboobeaaGreatJ2
import Derived.Deep.DeepCutAuto
import Derived.Deep.RegionWith
import Derived.Deep.RegionHeld3
namespace Go.Proofs.YtbpgkigoboobeaaGreat
open Go.RowKit

abbrev lnv (x y u v : Int) : Value := .agg #[.int .i64 x, .int .i64 y, .int .i64 u, .int .i64 v]
set_option maxHeartbeats 400000 in
theorem minus_exact (x y u v : Int) (w : World) (hx : -100 ≤ x ∧ x ≤ 100) (hy : -100 ≤ y ∧ y ≤ 100) (hu : -100 ≤ u ∧ u ≤ 100) (hv : -100 ≤ v ∧ v ≤ 100) :
    Calls Tryz.prog 95 #[lpr x y, lpr u v] w fun e w' => e = .returned (lpr (x - u) (y - v)) ∧ w' = ((w.alloc (.cells #[.int .i64 x, .int .i64 y] 66)).alloc (.cells #[.int .i64 u, .int .i64 v] 66)).alloc (.cells #[.int .i64 (x - u), .int .i64 (y - v)] 66) := by
  obtain ⟨hx1, hx2⟩ := hx
  obtain ⟨hy1, hy2⟩ := hy
  obtain ⟨hu1, hu2⟩ := hu
  obtain ⟨hv1, hv2⟩ := hv
  have hw1 : IntKind.i64.wrap (x - u) = x - u := IntWalk.i64_in _ (by omega)
  have hw2 : IntKind.i64.wrap (y - v) = y - v := IntWalk.i64_in _ (by omega)
  go_enter Tryz.func95, Tryz.ntmps95
  go_wp2
  exact bodyPost_ret (v := lpr (x - u) (y - v)) (by simp [results, Tryz.results95, go_sem]) rfl ⟨rfl, by simp⟩
theorem mul64 {x y : Int} (hx : -64 ≤ x ∧ x ≤ 64) (hy : -64 ≤ y ∧ y ≤ 64) : -4096 ≤ x * y ∧ x * y ≤ 4096 := by
  constructor
  · have h1 := Int.mul_nonneg (show 0 ≤ 64 + x by omega) (show 0 ≤ 64 + y by omega)
    have h2 := Int.mul_nonneg (show 0 ≤ 64 - x by omega) (show 0 ≤ 64 - y by omega)
    rw [Int.add_mul, Int.mul_add, Int.mul_add] at h1
    rw [Int.sub_mul, Int.mul_sub, Int.mul_sub] at h2
    omega
  · have h1 := Int.mul_nonneg (show 0 ≤ 64 + x by omega) (show 0 ≤ 64 - y by omega)
    have h2 := Int.mul_nonneg (show 0 ≤ 64 - x by omega) (show 0 ≤ 64 + y by omega)
    rw [Int.add_mul, Int.mul_sub, Int.mul_sub] at h1
    rw [Int.sub_mul, Int.mul_add, Int.mul_add] at h2
    omega
theorem keep6 {w w' : World} {β γ δ : Nat} {u0 u1 u2 u3 u4 u5 : Value} (h0 : w.cell? ⟨β, 0, none⟩ = some u0) (h1 : w.cell? ⟨β, 1, none⟩ = some u1) (h2 : w.cell? ⟨γ, 0, none⟩ = some u2) (h3 : w.cell? ⟨γ, 1, none⟩ = some u3) (h4 : w.cell? ⟨δ, 0, none⟩ = some u4) (h5 : w.cell? ⟨δ, 1, none⟩ = some u5) (hl : β < w.heap.size) (hm : γ < w.heap.size) (hn : δ < w.heap.size) (hb : Below w.heap.size w w') :
    w'.cell? ⟨β, 0, none⟩ = some u0 ∧ w'.cell? ⟨β, 1, none⟩ = some u1 ∧ w'.cell? ⟨γ, 0, none⟩ = some u2 ∧ w'.cell? ⟨γ, 1, none⟩ = some u3 ∧ w'.cell? ⟨δ, 0, none⟩ = some u4 ∧ w'.cell? ⟨δ, 1, none⟩ = some u5 := ⟨cell_keep h0 hl hb, cell_keep h1 hl hb, cell_keep h2 hm hb, cell_keep h3 hm hb, cell_keep h4 hn hb, cell_keep h5 hn hb⟩
def Co (x : Int) : Prop := 0 ≤ x ∧ x ≤ 64
theorem turn_bd {x y u v s t : Int} (hx : Co x) (hy : Co y) (hu : Co u) (hv : Co v) (hs : Co s) (ht : Co t) : -8192 ≤ turnS (x, y) (u, v) (s, t) ∧ turnS (x, y) (u, v) (s, t) ≤ 8192 := by
  rw [turn_cross]; exact cross_bd ⟨hx, hy⟩ ⟨hu, hv⟩ ⟨hs, ht⟩

set_option maxRecDepth 100000 in
set_option maxHeartbeats 4000000 in
theorem turn_any (x y u v s t : Int) (w : World) (hx : Co x) (hy : Co y) (hu : Co u) (hv : Co v) (hs : Co s) (ht : Co t) :
    Calls Tryz.prog 94 #[lpr x y, lpr u v, lpr s t] w fun e w' => e = .returned (.int .i64 (turnS (x, y) (u, v) (s, t))) ∧ Below w.heap.size w w' := by
  have HX := Lib.hid hx; have HY := Lib.hid hy; have HU := Lib.hid hu; have HV := Lib.hid hv; have HS := Lib.hid hs; have HT := Lib.hid ht
  unfold Co at hx hy hu hv hs ht
  have M1 := Lib.hid (mul64 (x := u - x) (y := t - v) (by omega) (by omega))
  have M2 := Lib.hid (mul64 (x := v - y) (y := s - u) (by omega) (by omega))
  have D1 := Lib.hid (show (-100 ≤ u ∧ u ≤ 100) ∧ (-100 ≤ v ∧ v ≤ 100) ∧ (-100 ≤ x ∧ x ≤ 100) ∧ (-100 ≤ y ∧ y ≤ 100) ∧ (-100 ≤ s ∧ s ≤ 100) ∧ (-100 ≤ t ∧ t ≤ 100) by omega)
  clear hx hy hu hv hs ht
  go_enter Tryz.func94, Tryz.ntmps94
  have hAD : ∀ (w : World) (k : Nat) (o : Obj), (w.drewN k).alloc o = (w.alloc o).drewN k := fun _ _ _ => rfl
  have hSD : ∀ (w : World) (k : Nat) (p : Addr) (u : Value), (w.drewN k).setCell p u = (w.setCell p u).drewN k := fun _ _ _ _ => rfl
  go_upto_region 1 with fail
  obtain ⟨W2, hW2⟩ : ∃ W2, W2 = ((w.alloc (.cells #[.int .i64 x, .int .i64 y] 66)).alloc (.cells #[.int .i64 u, .int .i64 v] 66)).alloc (.cells #[.int .i64 s, .int .i64 t] 66) := ⟨_, rfl⟩
  have a0 : W2.cell? ⟨w.heap.size, 0, none⟩ = some (.int .i64 x) := by rw [hW2]; go_simp
  have a1 : W2.cell? ⟨w.heap.size, 1, none⟩ = some (.int .i64 y) := by rw [hW2]; go_simp
  have b0 : W2.cell? ⟨w.heap.size + 1, 0, none⟩ = some (.int .i64 u) := by rw [hW2]; go_simp
  have b1 : W2.cell? ⟨w.heap.size + 1, 1, none⟩ = some (.int .i64 v) := by rw [hW2]; go_simp
  have d0 : W2.cell? ⟨w.heap.size + 1 + 1, 0, none⟩ = some (.int .i64 s) := by rw [hW2]; go_simp
  have d1 : W2.cell? ⟨w.heap.size + 1 + 1, 1, none⟩ = some (.int .i64 t) := by rw [hW2]; go_simp
  have al : w.heap.size < W2.heap.size := by rw [hW2]; simp; omega
  have bl : w.heap.size + 1 < W2.heap.size := by rw [hW2]; simp
  have dl : w.heap.size + 1 + 1 < W2.heap.size := by rw [hW2]; simp
  have B := Lib.hid (show Below w.heap.size w W2 by rw [hW2]; exact below_new (below_new (below_new (Below.refl _ _) _) _) _)
  rw [← hW2]
  clear hW2
  go_cut [7, 8] (fun s7 s8 wx => ∃ gp gq : Nat, s7 = .pointer (some ⟨gp, 0, none⟩) ∧ s8 = .pointer (some ⟨gq, 0, none⟩) ∧ SpotAt wx gp (u - x) (v - y) ∧ SpotAt wx gq (s - u) (t - v) ∧ Below W2.heap.size W2 wx)
  case first =>
    go_region_held3 (fun w' => w'.cell? ⟨w.heap.size, 0, none⟩ = some (.int .i64 x) ∧ w'.cell? ⟨w.heap.size, 1, none⟩ = some (.int .i64 y) ∧ w'.cell? ⟨w.heap.size + 1, 0, none⟩ = some (.int .i64 u) ∧ w'.cell? ⟨w.heap.size + 1, 1, none⟩ = some (.int .i64 v) ∧ w'.cell? ⟨w.heap.size + 1 + 1, 0, none⟩ = some (.int .i64 s) ∧ w'.cell? ⟨w.heap.size + 1 + 1, 1, none⟩ = some (.int .i64 t)) (first | exact ⟨a0, a1, b0, b1, d0, d1⟩ | exact keep6 a0 a1 b0 b1 d0 d1 al bl dl (by repeat (first | exact Below.refl _ _ | refine below_drewN ?_ _ | refine Below.drew ?_ | refine Below.setCell ?_ (by first | (simp; done) | (simp; omega) | omega) _ | refine below_new ?_ _)))
      (first | (go_at_call 95; refine (minus_exact _ _ _ _ _ ?_ ?_ ?_ ?_).mono ?_; (first | exact D1.out.1 | exact D1.out.2.2.2.2.1); (first | exact D1.out.2.1 | exact D1.out.2.2.2.2.2); (first | exact D1.out.1 | exact D1.out.2.2.1); (first | exact D1.out.2.1 | exact D1.out.2.2.2.1); rintro e w' ⟨rfl, rfl⟩))
    all_goals (go_wp2_with fail; go_meet; exact ⟨_, _, rfl, rfl, ⟨by go_simp, by go_simp, by simp; try omega⟩, ⟨by go_simp, by go_simp, by simp; try omega⟩, (by repeat (first | exact Below.refl _ _ | refine below_drewN ?_ _ | refine Below.drew ?_ | refine Below.setCell ?_ (by first | (simp; done) | (simp; omega) | omega) _ | refine below_new ?_ _))⟩)
  case rest =>
    obtain ⟨gp, gq, rfl, rfl, ⟨p0, p1, pl⟩, ⟨q0, q1, ql⟩, hb⟩ := hcut
    replace B := Lib.hid (below_next B.out hb)
    have M3 := M1.out; have M4 := M2.out
    have w1 : IntKind.i64.wrap ((u - x) * (t - v)) = (u - x) * (t - v) := IntWalk.i64_in _ (by omega)
    have w2 : IntKind.i64.wrap ((v - y) * (s - u)) = (v - y) * (s - u) := IntWalk.i64_in _ (by omega)
    have w3 : IntKind.i64.wrap ((u - x) * (t - v) - (v - y) * (s - u)) = (u - x) * (t - v) - (v - y) * (s - u) := IntWalk.i64_in _ (by omega)
    clear hb hAD hSD a0 a1 b0 b1 d0 d1 al bl dl M3 M4
    go_wp2
    go_ret
    exact ⟨rfl, B.out⟩

end Go.Proofs.YtbpgkigoboobeaaGreat
