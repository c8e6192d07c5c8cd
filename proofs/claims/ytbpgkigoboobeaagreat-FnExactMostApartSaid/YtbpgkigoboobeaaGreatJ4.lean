/-
  Contracts: points on a line, in the program.
-/
import Derived.Test.YtbpgkigoboobeaaGreatJ3
namespace Go.Proofs.YtbpgkigoboobeaaGreat
open Go.RowKit

theorem keep42 {w w' : World} {β γ : Nat} {u0 u1 u2 u3 u4 u5 : Value} (h0 : w.cell? ⟨β, 0, none⟩ = some u0) (h1 : w.cell? ⟨β, 1, none⟩ = some u1) (h2 : w.cell? ⟨β, 2, none⟩ = some u2) (h3 : w.cell? ⟨β, 3, none⟩ = some u3) (h4 : w.cell? ⟨γ, 0, none⟩ = some u4) (h5 : w.cell? ⟨γ, 1, none⟩ = some u5) (hl : β < w.heap.size) (hm : γ < w.heap.size) (hb : Below w.heap.size w w') :
    w'.cell? ⟨β, 0, none⟩ = some u0 ∧ w'.cell? ⟨β, 1, none⟩ = some u1 ∧ w'.cell? ⟨β, 2, none⟩ = some u2 ∧ w'.cell? ⟨β, 3, none⟩ = some u3 ∧ w'.cell? ⟨γ, 0, none⟩ = some u4 ∧ w'.cell? ⟨γ, 1, none⟩ = some u5 := ⟨cell_keep h0 hl hb, cell_keep h1 hl hb, cell_keep h2 hl hb, cell_keep h3 hl hb, cell_keep h4 hm hb, cell_keep h5 hm hb⟩

set_option maxRecDepth 100000 in
set_option maxHeartbeats 4000000 in
theorem passes_any (x y u v s t : Int) (w : World) (hx : Co x) (hy : Co y) (hu : Co u) (hv : Co v) (hs : Co s) (ht : Co t) :
    Calls Tryz.prog 70 #[lnv x y u v, lpr s t] w fun e w' => e = .returned (.bool (passS (x, y) (u, v) (s, t))) ∧ Below w.heap.size w w' := by
  have HX := Lib.hid hx; have HY := Lib.hid hy; have HU := Lib.hid hu; have HV := Lib.hid hv; have HS := Lib.hid hs; have HT := Lib.hid ht
  unfold Co at hx hy hu hv hs ht
  have M1 := Lib.hid (mul64 (x := x - s) (y := u - s) (by omega) (by omega))
  have M2 := Lib.hid (mul64 (x := y - t) (y := v - t) (by omega) (by omega))
  have D1 := Lib.hid (show (-100 ≤ u ∧ u ≤ 100) ∧ (-100 ≤ v ∧ v ≤ 100) ∧ (-100 ≤ x ∧ x ≤ 100) ∧ (-100 ≤ y ∧ y ≤ 100) ∧ (-100 ≤ s ∧ s ≤ 100) ∧ (-100 ≤ t ∧ t ≤ 100) by omega)
  clear hx hy hu hv hs ht
  go_enter Tryz.func70, Tryz.ntmps70
  have hAD : ∀ (w : World) (k : Nat) (o : Obj), (w.drewN k).alloc o = (w.alloc o).drewN k := fun _ _ _ => rfl
  have hSD : ∀ (w : World) (k : Nat) (p : Addr) (u : Value), (w.drewN k).setCell p u = (w.setCell p u).drewN k := fun _ _ _ _ => rfl
  go_upto_region 1 with fail
  obtain ⟨W2, hW2⟩ : ∃ W2, W2 = (w.alloc (.cells #[.int .i64 x, .int .i64 y, .int .i64 u, .int .i64 v] 68)).alloc (.cells #[.int .i64 s, .int .i64 t] 66) := ⟨_, rfl⟩
  have a0 : W2.cell? ⟨w.heap.size, 0, none⟩ = some (.int .i64 x) := by rw [hW2]; go_simp
  have a1 : W2.cell? ⟨w.heap.size, 1, none⟩ = some (.int .i64 y) := by rw [hW2]; go_simp
  have a2 : W2.cell? ⟨w.heap.size, 2, none⟩ = some (.int .i64 u) := by rw [hW2]; go_simp
  have a3 : W2.cell? ⟨w.heap.size, 3, none⟩ = some (.int .i64 v) := by rw [hW2]; go_simp
  have d0 : W2.cell? ⟨w.heap.size + 1, 0, none⟩ = some (.int .i64 s) := by rw [hW2]; go_simp
  have d1 : W2.cell? ⟨w.heap.size + 1, 1, none⟩ = some (.int .i64 t) := by rw [hW2]; go_simp
  have al : w.heap.size < W2.heap.size := by rw [hW2]; simp; omega
  have dl : w.heap.size + 1 < W2.heap.size := by rw [hW2]; simp
  have B := Lib.hid (show Below w.heap.size w W2 by rw [hW2]; exact below_new (below_new (Below.refl _ _) _) _)
  rw [← hW2]
  clear hW2
  go_cut [5, 6] (fun s7 s8 wx => ∃ gp gq : Nat, s7 = .pointer (some ⟨gp, 0, none⟩) ∧ s8 = .pointer (some ⟨gq, 0, none⟩) ∧ SpotAt wx gp (x - s) (y - t) ∧ SpotAt wx gq (u - s) (v - t) ∧ Below W2.heap.size W2 wx)
  case first =>
    go_region_held3 (fun w' => w'.cell? ⟨w.heap.size, 0, none⟩ = some (.int .i64 x) ∧ w'.cell? ⟨w.heap.size, 1, none⟩ = some (.int .i64 y) ∧ w'.cell? ⟨w.heap.size, 2, none⟩ = some (.int .i64 u) ∧ w'.cell? ⟨w.heap.size, 3, none⟩ = some (.int .i64 v) ∧ w'.cell? ⟨w.heap.size + 1, 0, none⟩ = some (.int .i64 s) ∧ w'.cell? ⟨w.heap.size + 1, 1, none⟩ = some (.int .i64 t)) (first | exact ⟨a0, a1, a2, a3, d0, d1⟩ | exact keep42 a0 a1 a2 a3 d0 d1 al dl (by repeat (first | exact Below.refl _ _ | refine below_drewN ?_ _ | refine Below.drew ?_ | refine Below.setCell ?_ (by first | (simp; done) | (simp; omega) | omega) _ | refine below_new ?_ _)))
      (first | (go_at_call 95; refine (minus_exact _ _ _ _ _ ?_ ?_ ?_ ?_).mono ?_; (first | exact D1.out.2.2.1 | exact D1.out.1); (first | exact D1.out.2.2.2.1 | exact D1.out.2.1); (exact D1.out.2.2.2.2.1); (exact D1.out.2.2.2.2.2); rintro e w' ⟨rfl, rfl⟩))
    all_goals (go_wp2_with fail; go_meet; exact ⟨_, _, rfl, rfl, ⟨by go_simp, by go_simp, by simp; try omega⟩, ⟨by go_simp, by go_simp, by simp; try omega⟩, (by repeat (first | exact Below.refl _ _ | refine below_drewN ?_ _ | refine Below.drew ?_ | refine Below.setCell ?_ (by first | (simp; done) | (simp; omega) | omega) _ | refine below_new ?_ _))⟩)
  case rest =>
    obtain ⟨gp, gq, rfl, rfl, ⟨p0, p1, pl⟩, ⟨q0, q1, ql⟩, hb⟩ := hcut
    replace a0 := cell_keep a0 al hb; replace a1 := cell_keep a1 al hb; replace a2 := cell_keep a2 al hb; replace a3 := cell_keep a3 al hb
    replace d0 := cell_keep d0 dl hb; replace d1 := cell_keep d1 dl hb; replace al := lt_keep al hb; replace dl := lt_keep dl hb
    replace B := Lib.hid (below_next B.out hb)
    clear hb hAD hSD
    by_cases hz : turnS (x, y) (u, v) (s, t) = 0
    · have HZ := Lib.hid hz
      clear hz
      go_wp2_with fail
      refine (turn_any x y u v s t _ HX.out HY.out HU.out HV.out HS.out HT.out).mono ?_
      rw [HZ.out]
      rintro e wz ⟨rfl, hb⟩
      replace p0 := cell_keep p0 pl hb; replace p1 := cell_keep p1 pl hb; replace q0 := cell_keep q0 ql hb; replace q1 := cell_keep q1 ql hb
      replace B := Lib.hid (below_next B.out hb)
      have M3 := M1.out; have M4 := M2.out
      have w1 : IntKind.i64.wrap ((x - s) * (u - s)) = (x - s) * (u - s) := IntWalk.i64_in _ (by omega)
      have w2 : IntKind.i64.wrap ((y - t) * (v - t)) = (y - t) * (v - t) := IntWalk.i64_in _ (by omega)
      have w3 : IntKind.i64.wrap ((x - s) * (u - s) + (y - t) * (v - t)) = (x - s) * (u - s) + (y - t) * (v - t) := IntWalk.i64_in _ (by omega)
      clear hb a0 a1 a2 a3 d0 d1 al dl M3 M4
      go_wp2
      go_ret
      exact ⟨ret_bool (by rw [passS, HZ.out]; simp), B.out⟩
    · have HZ := Lib.hid hz
      have hz2 : (turnS (x, y) (u, v) (s, t) == 0) = false := by simpa using hz
      go_wp2_with fail
      refine (turn_any x y u v s t _ HX.out HY.out HU.out HV.out HS.out HT.out).mono ?_
      rintro e wz ⟨rfl, hb⟩
      replace B := Lib.hid (below_next B.out hb)
      clear hb a0 a1 a2 a3 d0 d1 al dl p0 p1 q0 q1
      go_wp2
      go_ret
      exact ⟨ret_bool (by rw [passS, decide_eq_false HZ.out]; simp), B.out⟩

end Go.Proofs.YtbpgkigoboobeaaGreat
