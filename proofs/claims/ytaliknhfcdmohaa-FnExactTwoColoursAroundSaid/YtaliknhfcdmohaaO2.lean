/-
  Contracts: where a step around leads, in the model and in the program.
-/
import Derived.Test.YtaliknhfcdmohaaO1
import Derived.Test.YtaliknhfcdmohaaY0
namespace Go.Proofs.Ytaliknhfcdmohaa
open Go.RowKit

/-- The box of a board around. -/
def ArdAt (w : World) (g : Nat) (W H : Int) (ac up : Bool) : Prop := w.cell? ⟨g, 0, none⟩ = some (.int .i64 W) ∧ w.cell? ⟨g, 1, none⟩ = some (.int .i64 H) ∧ w.cell? ⟨g, 2, none⟩ = some (.bool ac) ∧ w.cell? ⟨g, 3, none⟩ = some (.bool up) ∧ g < w.heap.size
theorem ArdAt.keep {w w' : World} {g : Nat} {W H : Int} {ac up : Bool} (h : ArdAt w g W H ac up) (hb : Below w.heap.size w w') : ArdAt w' g W H ac up :=
  ⟨cell_keep h.1 h.2.2.2.2 hb, cell_keep h.2.1 h.2.2.2.2 hb, cell_keep h.2.2.1 h.2.2.2.2 hb, cell_keep h.2.2.2.1 h.2.2.2.2 hb, lt_keep h.2.2.2.2 hb⟩
theorem tmod_facts {p n : Int} (hn : 1 ≤ n ∧ n ≤ 12) : -12 ≤ p.tmod n ∧ p.tmod n ≤ 12 ∧ 0 ≤ p.tmod n + n ∧ (p.tmod n + n) % n = p % n := by
  have h1 := Int.lt_tmod_of_pos p (show 0 < n by omega); have h2 := Int.tmod_lt_of_pos p (show 0 < n by omega)
  have h3 : 0 ≤ p.tmod n + n := by omega
  have h4 := wrap_tmod (p := p) hn.1
  rw [Int.tmod_eq_emod_of_nonneg h3] at h4
  exact ⟨by omega, by omega, h3, h4⟩

set_option maxRecDepth 100000 in
set_option maxHeartbeats 2000000 in
theorem arStep_any (W H : Int) (ac up : Bool) (q x y : Int) (w : World) (hg : goodA W H = true) (hq : 0 ≤ q ∧ q < W * H) (hx : -20 ≤ x ∧ x ≤ 20) (hy : -20 ≤ y ∧ y ≤ 20) :
    Calls Try.prog 54 #[ard W H ac up, .int .i64 q, .int .i64 x, .int .i64 y] w fun e w' => e = .returned (.int .i64 (stepA W H ac up q x y)) ∧ Below w.heap.size w w' := by
  obtain ⟨⟨hW1, hW2⟩, hH1, hH2⟩ := goodA_iff.1 hg
  have hA := areaA hg
  have hm := mod_bdA (W := W) (q := q) ⟨hW1, hW2⟩
  have hd := div_bdA (W := W) (H := H) (q := q) hW1 hq
  obtain ⟨m1, m2, m3⟩ := hm
  obtain ⟨d1, d2⟩ := hd
  obtain ⟨q1, q2⟩ := hq
  obtain ⟨x1, x2⟩ := hx
  obtain ⟨y1, y2⟩ := hy
  have q3 : q ≤ 144 := by omega
  have HS := Lib.hid (show stepA W H ac up q x y = if inA W H (colA ac W (q % W + x)) (colA up H (q / W + y)) then colA up H (q / W + y) * W + colA ac W (q % W + x) else -1 from rfl)
  obtain ⟨S, hS⟩ : ∃ S, stepA W H ac up q x y = S := ⟨_, rfl⟩
  rw [hS] at HS ⊢
  clear hS hg hA q2
  obtain ⟨M, hM⟩ : ∃ M, q % W = M := ⟨_, rfl⟩
  obtain ⟨D, hD⟩ : ∃ D, q / W = D := ⟨_, rfl⟩
  rw [hM] at m1 m2 m3 HS
  rw [hD] at d1 d2 HS
  obtain ⟨X, hX⟩ : ∃ X, M + x = X := ⟨_, rfl⟩
  obtain ⟨Y, hY⟩ : ∃ Y, D + y = Y := ⟨_, rfl⟩
  rw [hX, hY] at HS
  have X1 : -50 ≤ X := by omega
  have X2 : X ≤ 50 := by omega
  have Y1 : -50 ≤ Y := by omega
  have Y2 : Y ≤ 50 := by omega
  have TX := tmod_facts (p := X) ⟨hW1, hW2⟩
  have TY := tmod_facts (p := Y) ⟨hH1, hH2⟩
  have PX := mod_bdA (W := W) (q := X) ⟨hW1, hW2⟩
  have PY := mod_bdA (W := H) (q := Y) ⟨hH1, hH2⟩
  obtain ⟨t, ht⟩ : ∃ t, X.tmod W = t := ⟨_, rfl⟩
  obtain ⟨u, hu⟩ : ∃ u, Y.tmod H = u := ⟨_, rfl⟩
  rw [ht] at TX
  rw [hu] at TY
  obtain ⟨t1, t2, t3, t4⟩ := TX
  obtain ⟨u1, u2, u3, u4⟩ := TY
  obtain ⟨W2, hW2'⟩ : ∃ W2, W2 = w.alloc (.cells #[.int .i64 W, .int .i64 H, .bool ac, .bool up] 25) := ⟨_, rfl⟩
  have a0 : W2.cell? ⟨w.heap.size, 0, none⟩ = some (.int .i64 W) := by rw [hW2']; go_simp
  have a1 : W2.cell? ⟨w.heap.size, 1, none⟩ = some (.int .i64 H) := by rw [hW2']; go_simp
  have a2 : W2.cell? ⟨w.heap.size, 2, none⟩ = some (.bool ac) := by rw [hW2']; go_simp
  have a3 : W2.cell? ⟨w.heap.size, 3, none⟩ = some (.bool up) := by rw [hW2']; go_simp
  have B := Lib.hid (show Below w.heap.size w W2 by rw [hW2']; exact below_new (Below.refl _ _) _)
  cases ac <;> cases up
  · obtain ⟨P, hP⟩ : ∃ P, X = P := ⟨_, rfl⟩
    subst hP
    have e1 : colA false W X = X := rfl
    obtain ⟨R, hR⟩ : ∃ R, Y = R := ⟨_, rfl⟩
    subst hR
    have e2 : colA false H Y = Y := rfl
    rw [e1, e2] at HS
    clear e1 e2 ht t1 t2 t3 t4 PX hu u1 u2 u3 u4 PY
    cases h1 : inB X 0 (W - 1)
    · go_enter Try.func54, Try.ntmps54
      go_wp2_with fail
      rw [← hW2']
      clear hW2'
      go_region
      go_wp2_with fail
      refine (l1In_any _ _ _ _).mono ?_
      rw [h1]
      rintro e wv ⟨rfl, rfl⟩
      go_wp2
      go_ret
      exact ⟨by rw [show S = -1 by have := HS.out; rw [inA, h1] at this; exact this]; rfl, (by repeat (first | exact B.out | refine below_drewN ?_ _ | refine Below.drew ?_))⟩
    cases h2 : inB Y 0 (H - 1)
    · go_enter Try.func54, Try.ntmps54
      go_wp2_with fail
      rw [← hW2']
      clear hW2'
      go_region
      go_wp2_with fail
      refine (l1In_any _ _ _ _).mono ?_
      rw [h1]
      rintro e wv ⟨rfl, rfl⟩
      go_wp2_with fail
      refine (l1In_any _ _ _ _).mono ?_
      rw [h2]
      rintro e wv ⟨rfl, rfl⟩
      go_wp2
      go_ret
      exact ⟨by rw [show S = -1 by have := HS.out; rw [inA, h1, h2] at this; exact this]; rfl, (by repeat (first | exact B.out | refine below_drewN ?_ _ | refine Below.drew ?_))⟩
    · have hn := numA (W := W) (H := H) (p := X) (q := Y) (by rw [inA, h1, h2]; rfl)
      have hin := inA_iff.1 (show inA W H X Y = true by rw [inA, h1, h2]; rfl)
      have hmu := mul12 (x := Y) (y := W) ⟨by omega, by omega⟩ ⟨by omega, by omega⟩
      obtain ⟨v1, v2⟩ := hmu
      obtain ⟨⟨i1, i2⟩, i3, i4⟩ := hin
      go_enter Try.func54, Try.ntmps54
      go_wp2_with fail
      rw [← hW2']
      clear hW2'
      go_region
      go_wp2_with fail
      refine (l1In_any _ _ _ _).mono ?_
      rw [h1]
      rintro e wv ⟨rfl, rfl⟩
      go_wp2_with fail
      refine (l1In_any _ _ _ _).mono ?_
      rw [h2]
      rintro e wv ⟨rfl, rfl⟩
      go_wp2
      go_ret
      exact ⟨by rw [show S = Y * W + X by have := HS.out; rw [inA, h1, h2] at this; exact this]; rfl, (by repeat (first | exact B.out | refine below_drewN ?_ _ | refine Below.drew ?_))⟩
  · obtain ⟨P, hP⟩ : ∃ P, X = P := ⟨_, rfl⟩
    subst hP
    have e1 : colA false W X = X := rfl
    obtain ⟨R, hR⟩ : ∃ R, Y % H = R := ⟨_, rfl⟩
    have e2 : colA true H Y = R := hR
    rw [hR] at u4 PY
    rw [e1, e2] at HS
    clear e1 e2 ht t1 t2 t3 t4 PX hR
    cases h1 : inB X 0 (W - 1)
    · go_enter Try.func54, Try.ntmps54
      go_wp2_with fail
      rw [← hW2']
      clear hW2'
      go_region
      go_wp2_with fail
      go_region
      go_wp2_with fail
      refine (l1In_any _ _ _ _).mono ?_
      rw [h1]
      rintro e wv ⟨rfl, rfl⟩
      go_wp2
      go_ret
      exact ⟨by rw [show S = -1 by have := HS.out; rw [inA, h1] at this; exact this]; rfl, (by repeat (first | exact B.out | refine below_drewN ?_ _ | refine Below.drew ?_))⟩
    cases h2 : inB R 0 (H - 1)
    · go_enter Try.func54, Try.ntmps54
      go_wp2_with fail
      rw [← hW2']
      clear hW2'
      go_region
      go_wp2_with fail
      go_region
      go_wp2_with fail
      refine (l1In_any _ _ _ _).mono ?_
      rw [h1]
      rintro e wv ⟨rfl, rfl⟩
      go_wp2_with fail
      refine (l1In_any _ _ _ _).mono ?_
      rw [h2]
      rintro e wv ⟨rfl, rfl⟩
      go_wp2
      go_ret
      exact ⟨by rw [show S = -1 by have := HS.out; rw [inA, h1, h2] at this; exact this]; rfl, (by repeat (first | exact B.out | refine below_drewN ?_ _ | refine Below.drew ?_))⟩
    · have hn := numA (W := W) (H := H) (p := X) (q := R) (by rw [inA, h1, h2]; rfl)
      have hin := inA_iff.1 (show inA W H X R = true by rw [inA, h1, h2]; rfl)
      have hmu := mul12 (x := R) (y := W) ⟨by omega, by omega⟩ ⟨by omega, by omega⟩
      obtain ⟨v1, v2⟩ := hmu
      obtain ⟨⟨i1, i2⟩, i3, i4⟩ := hin
      go_enter Try.func54, Try.ntmps54
      go_wp2_with fail
      rw [← hW2']
      clear hW2'
      go_region
      go_wp2_with fail
      go_region
      go_wp2_with fail
      refine (l1In_any _ _ _ _).mono ?_
      rw [h1]
      rintro e wv ⟨rfl, rfl⟩
      go_wp2_with fail
      refine (l1In_any _ _ _ _).mono ?_
      rw [h2]
      rintro e wv ⟨rfl, rfl⟩
      go_wp2
      go_ret
      exact ⟨by rw [show S = R * W + X by have := HS.out; rw [inA, h1, h2] at this; exact this]; rfl, (by repeat (first | exact B.out | refine below_drewN ?_ _ | refine Below.drew ?_))⟩
  · obtain ⟨P, hP⟩ : ∃ P, X % W = P := ⟨_, rfl⟩
    have e1 : colA true W X = P := hP
    rw [hP] at t4 PX
    obtain ⟨R, hR⟩ : ∃ R, Y = R := ⟨_, rfl⟩
    subst hR
    have e2 : colA false H Y = Y := rfl
    rw [e1, e2] at HS
    clear e1 e2 hP hu u1 u2 u3 u4 PY
    cases h1 : inB P 0 (W - 1)
    · go_enter Try.func54, Try.ntmps54
      go_wp2_with fail
      rw [← hW2']
      clear hW2'
      go_region
      go_wp2_with fail
      go_region
      go_wp2_with fail
      refine (l1In_any _ _ _ _).mono ?_
      rw [h1]
      rintro e wv ⟨rfl, rfl⟩
      go_wp2
      go_ret
      exact ⟨by rw [show S = -1 by have := HS.out; rw [inA, h1] at this; exact this]; rfl, (by repeat (first | exact B.out | refine below_drewN ?_ _ | refine Below.drew ?_))⟩
    cases h2 : inB Y 0 (H - 1)
    · go_enter Try.func54, Try.ntmps54
      go_wp2_with fail
      rw [← hW2']
      clear hW2'
      go_region
      go_wp2_with fail
      go_region
      go_wp2_with fail
      refine (l1In_any _ _ _ _).mono ?_
      rw [h1]
      rintro e wv ⟨rfl, rfl⟩
      go_wp2_with fail
      refine (l1In_any _ _ _ _).mono ?_
      rw [h2]
      rintro e wv ⟨rfl, rfl⟩
      go_wp2
      go_ret
      exact ⟨by rw [show S = -1 by have := HS.out; rw [inA, h1, h2] at this; exact this]; rfl, (by repeat (first | exact B.out | refine below_drewN ?_ _ | refine Below.drew ?_))⟩
    · have hn := numA (W := W) (H := H) (p := P) (q := Y) (by rw [inA, h1, h2]; rfl)
      have hin := inA_iff.1 (show inA W H P Y = true by rw [inA, h1, h2]; rfl)
      have hmu := mul12 (x := Y) (y := W) ⟨by omega, by omega⟩ ⟨by omega, by omega⟩
      obtain ⟨v1, v2⟩ := hmu
      obtain ⟨⟨i1, i2⟩, i3, i4⟩ := hin
      go_enter Try.func54, Try.ntmps54
      go_wp2_with fail
      rw [← hW2']
      clear hW2'
      go_region
      go_wp2_with fail
      go_region
      go_wp2_with fail
      refine (l1In_any _ _ _ _).mono ?_
      rw [h1]
      rintro e wv ⟨rfl, rfl⟩
      go_wp2_with fail
      refine (l1In_any _ _ _ _).mono ?_
      rw [h2]
      rintro e wv ⟨rfl, rfl⟩
      go_wp2
      go_ret
      exact ⟨by rw [show S = Y * W + P by have := HS.out; rw [inA, h1, h2] at this; exact this]; rfl, (by repeat (first | exact B.out | refine below_drewN ?_ _ | refine Below.drew ?_))⟩
  · obtain ⟨P, hP⟩ : ∃ P, X % W = P := ⟨_, rfl⟩
    have e1 : colA true W X = P := hP
    rw [hP] at t4 PX
    obtain ⟨R, hR⟩ : ∃ R, Y % H = R := ⟨_, rfl⟩
    have e2 : colA true H Y = R := hR
    rw [hR] at u4 PY
    rw [e1, e2] at HS
    clear e1 e2 hP hR
    cases h1 : inB P 0 (W - 1)
    · go_enter Try.func54, Try.ntmps54
      go_wp2_with fail
      rw [← hW2']
      clear hW2'
      go_region
      go_wp2_with fail
      go_region
      go_wp2_with fail
      go_region
      go_wp2_with fail
      refine (l1In_any _ _ _ _).mono ?_
      rw [h1]
      rintro e wv ⟨rfl, rfl⟩
      go_wp2
      go_ret
      exact ⟨by rw [show S = -1 by have := HS.out; rw [inA, h1] at this; exact this]; rfl, (by repeat (first | exact B.out | refine below_drewN ?_ _ | refine Below.drew ?_))⟩
    cases h2 : inB R 0 (H - 1)
    · go_enter Try.func54, Try.ntmps54
      go_wp2_with fail
      rw [← hW2']
      clear hW2'
      go_region
      go_wp2_with fail
      go_region
      go_wp2_with fail
      go_region
      go_wp2_with fail
      refine (l1In_any _ _ _ _).mono ?_
      rw [h1]
      rintro e wv ⟨rfl, rfl⟩
      go_wp2_with fail
      refine (l1In_any _ _ _ _).mono ?_
      rw [h2]
      rintro e wv ⟨rfl, rfl⟩
      go_wp2
      go_ret
      exact ⟨by rw [show S = -1 by have := HS.out; rw [inA, h1, h2] at this; exact this]; rfl, (by repeat (first | exact B.out | refine below_drewN ?_ _ | refine Below.drew ?_))⟩
    · have hn := numA (W := W) (H := H) (p := P) (q := R) (by rw [inA, h1, h2]; rfl)
      have hin := inA_iff.1 (show inA W H P R = true by rw [inA, h1, h2]; rfl)
      have hmu := mul12 (x := R) (y := W) ⟨by omega, by omega⟩ ⟨by omega, by omega⟩
      obtain ⟨v1, v2⟩ := hmu
      obtain ⟨⟨i1, i2⟩, i3, i4⟩ := hin
      go_enter Try.func54, Try.ntmps54
      go_wp2_with fail
      rw [← hW2']
      clear hW2'
      go_region
      go_wp2_with fail
      go_region
      go_wp2_with fail
      go_region
      go_wp2_with fail
      refine (l1In_any _ _ _ _).mono ?_
      rw [h1]
      rintro e wv ⟨rfl, rfl⟩
      go_wp2_with fail
      refine (l1In_any _ _ _ _).mono ?_
      rw [h2]
      rintro e wv ⟨rfl, rfl⟩
      go_wp2
      go_ret
      exact ⟨by rw [show S = R * W + P by have := HS.out; rw [inA, h1, h2] at this; exact this]; rfl, (by repeat (first | exact B.out | refine below_drewN ?_ _ | refine Below.drew ?_))⟩

end Go.Proofs.Ytaliknhfcdmohaa
