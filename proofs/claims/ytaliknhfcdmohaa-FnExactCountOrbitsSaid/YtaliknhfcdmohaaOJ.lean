/-
  Contracts: OrbitLength and CountOrbits, in the model and in the program.
-/
import Derived.Test.YtaliknhfcdmohaaO5
import Derived.Test.YtaliknhfcdmohaaOI
import Derived.Test.YtaliknhfcdmohaaApp
namespace Go.Proofs.Ytaliknhfcdmohaa
open Go.RowKit

theorem own_one (w : World) (q : Int) (lo : Nat) (h : lo ≤ w.heap.size) : OwnI 3 (w.alloc (.cells #[.int .i64 q] 3)) lo (some ⟨w.heap.size, 0, none⟩) 1 1 [q] :=
  World.ownsRow_lit (base := lo) (e := 3) w (#[.int .i64 q] : Array Value) 1 (size := 1) h (by decide) rfl

set_option maxRecDepth 100000 in
set_option maxHeartbeats 1000000 in
theorem arJoined_any (W H : Int) (ac up : Bool) (x y : Int) (w : World) :
    Calls Try.prog 72 #[ard W H ac up, .int .i64 x, .int .i64 y] w fun e w' => e = .returned (.bool (joinB W H ac up x y)) ∧ Below w.heap.size w w' := by
  obtain ⟨W2, hW2⟩ : ∃ W2, W2 = w.alloc (.cells #[.int .i64 W, .int .i64 H, .bool ac, .bool up] 25) := ⟨_, rfl⟩
  have hsz : W2.heap.size = w.heap.size + 1 := by rw [hW2]; simp
  have a0 : W2.cell? ⟨w.heap.size, 0, none⟩ = some (.int .i64 W) := by rw [hW2]; go_simp
  have a1 : W2.cell? ⟨w.heap.size, 1, none⟩ = some (.int .i64 H) := by rw [hW2]; go_simp
  have a2 : W2.cell? ⟨w.heap.size, 2, none⟩ = some (.bool ac) := by rw [hW2]; go_simp
  have a3 : W2.cell? ⟨w.heap.size, 3, none⟩ = some (.bool up) := by rw [hW2]; go_simp
  have al : w.heap.size < W2.heap.size := by omega
  have B := Lib.hid (show Below w.heap.size w W2 by rw [hW2]; repeat (first | exact Below.refl _ _ | refine below_new ?_ _))
  cases hg : goodA W H
  · go_enter Try.func72, Try.ntmps72
    go_wp2_with fail
    rw [← hW2]
    clear hW2
    refine (arGood_any _ _ _ _ _).mono ?_
    rw [hg]
    rintro e wv ⟨rfl, hb⟩
    replace a0 := cell_keep a0 al hb
    replace a1 := cell_keep a1 al hb
    replace a2 := cell_keep a2 al hb
    replace a3 := cell_keep a3 al hb
    replace al := lt_keep al hb
    replace B := Lib.hid (below_next B.out hb)
    clear hb
    clear a0 a1 a2 a3 al
    go_wp2
    go_ret
    exact ⟨ret_bool (by rw [joinB, hg]; rfl), B.out⟩
  · cases ac
    · go_enter Try.func72, Try.ntmps72
      go_wp2_with fail
      rw [← hW2]
      clear hW2
      refine (arGood_any _ _ _ _ _).mono ?_
      rw [hg]
      rintro e wv ⟨rfl, hb⟩
      replace a0 := cell_keep a0 al hb
      replace a1 := cell_keep a1 al hb
      replace a2 := cell_keep a2 al hb
      replace a3 := cell_keep a3 al hb
      replace al := lt_keep al hb
      replace B := Lib.hid (below_next B.out hb)
      clear hb
      skip -- a0 a1 a2 a3 al
      go_wp2
      go_ret
      exact ⟨ret_bool (by rw [joinB, hg]; rfl), B.out⟩
    cases up
    · go_enter Try.func72, Try.ntmps72
      go_wp2_with fail
      rw [← hW2]
      clear hW2
      refine (arGood_any _ _ _ _ _).mono ?_
      rw [hg]
      rintro e wv ⟨rfl, hb⟩
      replace a0 := cell_keep a0 al hb
      replace a1 := cell_keep a1 al hb
      replace a2 := cell_keep a2 al hb
      replace a3 := cell_keep a3 al hb
      replace al := lt_keep al hb
      replace B := Lib.hid (below_next B.out hb)
      clear hb
      go_wp2
      go_ret
      exact ⟨ret_bool (by rw [joinB, hg]; rfl), B.out⟩
    · go_enter Try.func72, Try.ntmps72
      go_wp2_with fail
      rw [← hW2]
      clear hW2
      refine (arGood_any _ _ _ _ _).mono ?_
      rw [hg]
      rintro e wv ⟨rfl, hb⟩
      replace a0 := cell_keep a0 al hb
      replace a1 := cell_keep a1 al hb
      replace a2 := cell_keep a2 al hb
      replace a3 := cell_keep a3 al hb
      replace al := lt_keep al hb
      replace B := Lib.hid (below_next B.out hb)
      clear hb
      go_wp2_with fail
      refine (arBy_bl _ _ _).mono ?_
      rintro e wv ⟨rfl, hb⟩
      replace a0 := cell_keep a0 al hb
      replace a1 := cell_keep a1 al hb
      replace a2 := cell_keep a2 al hb
      replace a3 := cell_keep a3 al hb
      replace al := lt_keep al hb
      replace B := Lib.hid (below_next B.out hb)
      clear hb
      clear a0 a1 a2 a3 al
      go_wp2
      go_ret
      exact ⟨ret_bool (by rw [joinB, hg]; simp), B.out⟩
def lenS : Value → Nat
  | .slice _ n _ => n
  | _ => 0

set_option maxRecDepth 100000 in
set_option maxHeartbeats 2000000 in
theorem arOrbit_any (W H q x y : Int) (w : World) (hg : goodA W H = true) (hq : 0 ≤ q ∧ q < W * H) (hby' : byA x y = true) :
    Calls Try.prog 73 #[ard W H true true, .int .i64 q, .int .i64 x, .int .i64 y] w fun e w' => ∃ A' n' c', e = .returned (.slice A' n' c') ∧ OwnI 3 w' w.heap.size A' n' c' (orbL W H q x y (orbN W H x y)) ∧ Below w.heap.size w w' := by
  have HG := Lib.hid hg; have HQ := Lib.hid hq
  have hby := byA_iff.1 hby'
  have HST := Lib.hid (fun k w' => arStep_any W H true true (posA W H q x y k) x y w' hg (posA_rng hg) hby.1 hby.2)
  have HS1 := Lib.hid (fun w' => arStep_any W H true true q x y w' hg hq hby.1 hby.2)
  have HP1 := Lib.hid (stepA_one (x := x) (y := y) hg hq); have HPS := Lib.hid (fun k => posA_step (q := q) (x := x) (y := y) (k := k) hg)
  obtain ⟨L1, L2⟩ := orbN_rng (x := x) (y := y) hg
  have HNE := Lib.hid (fun k => posA_ne (k := k) (x := x) (y := y) hg hq); have HEND := Lib.hid (posA_end (x := x) (y := y) hg hq)
  have HZ := Lib.hid (posA_zero (x := x) (y := y) hg hq)
  obtain ⟨LN, hLN⟩ : ∃ LN, orbN W H x y = LN := ⟨_, rfl⟩
  rw [hLN] at L1 L2 HNE HEND ⊢
  obtain ⟨i0, hi, hz0, hz1, hz2⟩ := info_parts infoI
  have HI := Lib.hid hi; have HZ0 := Lib.hid hz0; have HZ1 := Lib.hid hz1; have HZ2 := Lib.hid hz2
  clear hi hz0 hz1 hz2 hg hq hby' hby hLN
  obtain ⟨W2, hW2⟩ : ∃ W2, W2 = w.alloc (.cells #[.int .i64 W, .int .i64 H, .bool true, .bool true] 25) := ⟨_, rfl⟩
  have hsz : W2.heap.size = w.heap.size + 1 := by rw [hW2]; simp
  have a0 : W2.cell? ⟨w.heap.size, 0, none⟩ = some (.int .i64 W) := by rw [hW2]; go_simp
  have a1 : W2.cell? ⟨w.heap.size, 1, none⟩ = some (.int .i64 H) := by rw [hW2]; go_simp
  have a2 : W2.cell? ⟨w.heap.size, 2, none⟩ = some (.bool true) := by rw [hW2]; go_simp
  have a3 : W2.cell? ⟨w.heap.size, 3, none⟩ = some (.bool true) := by rw [hW2]; go_simp
  have al : w.heap.size < W2.heap.size := by omega
  have B := Lib.hid (show Below w.heap.size w W2 by rw [hW2]; repeat (first | exact Below.refl _ _ | refine below_new ?_ _))
  obtain ⟨W3, hW3⟩ : ∃ W3, W3 = W2.alloc (.cells #[.int .i64 q] 3) := ⟨_, rfl⟩
  have O3 := Lib.hid (show OwnI 3 W3 W2.heap.size (some ⟨W2.heap.size, 0, none⟩) 1 1 [q] by rw [hW3]; exact own_one _ _ _ (Nat.le_refl _))
  have hb3 : Below W2.heap.size W2 W3 := by rw [hW3]; exact below_new (Below.refl _ _) _
  have e2 := hsz
  replace a0 := cell_keep a0 al hb3; replace a1 := cell_keep a1 al hb3; replace a2 := cell_keep a2 al hb3; replace a3 := cell_keep a3 al hb3; replace al := lt_keep al hb3
  have B3 := Lib.hid (below_next B.out hb3)
  have hWW : W3 = (w.alloc (.cells #[.int .i64 W, .int .i64 H, .bool true, .bool true] 25)).alloc (.cells #[.int .i64 q] 3) := by rw [hW3, hW2]
  have HS2 := Lib.hid (show W2.heap.size = w.heap.size + 1 from hsz)
  rw [hsz] at O3
  clear hW2 hW3 hb3 e2 hsz
  go_enter Try.func73, Try.ntmps73
  go_wp2_with fail
  rw [← hWW]
  clear hWW
  refine (HS1.out _).mono ?_
  rw [HP1.out]
  rintro e ws ⟨rfl, hb⟩
  replace a0 := cell_keep a0 al hb; replace a1 := cell_keep a1 al hb; replace a2 := cell_keep a2 al hb; replace a3 := cell_keep a3 al hb; replace al := lt_keep al hb
  replace O3 := Lib.hid (O3.out.keep hb)
  replace B3 := Lib.hid (below_next B3.out hb)
  have hlo : w.heap.size + 1 ≤ ws.heap.size := by omega
  clear hb
  go_wp2
  go_loopw [9, 10] (fun v u wr => ∃ (k n' c' : Nat) (A' : Option Addr), 1 ≤ k ∧ k ≤ LN ∧ u = .int .i64 (posA W H q x y k) ∧ v = .slice A' n' c' ∧ OwnI 3 wr (w.heap.size + 1) A' n' c' (orbL W H q x y k) ∧ Below (w.heap.size + 1) ws wr) (fun v _ _ => LN - lenS v)
  case atStart => exact ⟨1, 1, 1, _, Nat.le_refl _, L1, rfl, rfl, by rw [show orbL W H q x y 1 = [q] by rw [orbL_succ, HZ.out]; rfl]; exact O3.out, Below.refl _ _⟩
  case round =>
    clear O3
    obtain ⟨k, n', c', A', hk1, hk2, rfl, rfl, hown, hbw⟩ := hrel
    have HO := Lib.hid hown; have HB := Lib.hid hbw
    have HNK := Lib.hid (show n' = k by have := hown.len; rw [orbL_len] at this; omega)
    have hsw := hbw.size
    have b0 := (hbw.cell (p := ⟨w.heap.size, 0, none⟩) (by simp)).trans a0; have b1 := (hbw.cell (p := ⟨w.heap.size, 1, none⟩) (by simp)).trans a1; have b2 := (hbw.cell (p := ⟨w.heap.size, 2, none⟩) (by simp)).trans a2; have b3 := (hbw.cell (p := ⟨w.heap.size, 3, none⟩) (by simp)).trans a3
    have bl : w.heap.size < wr.heap.size := by omega
    clear hown hbw
    by_cases hlt : k < LN
    · have hne := HNE.out k hk1 hlt
      have hnb : (posA W H q x y k != q) = true := by simpa using hne
      have HST1 := Lib.hid (HST.out k)
      rw [HPS.out] at HST1
      have HSU := Lib.hid (orbL_succ W H q x y k)
      obtain ⟨P, hP⟩ : ∃ P, posA W H q x y k = P := ⟨_, rfl⟩
      rw [hP] at HST1 HSU hnb ⊢
      have hn9 : n' ≤ 1000000 := by have := HNK.out; omega
      have hlo2 : w.heap.size + 1 ≤ wr.heap.size := by omega
      have HPP := Lib.hid hP
      clear hne hP
      go_wp2_with (at_builtin; refine wpList_app1 rfl (.tmp 26) (.tmp 28) 33 3 rfl i0 Try.underlying33 HI.out HZ0.out HZ1.out HZ2.out (w.heap.size + 1) A' n' c' (orbL W H q x y k) P rfl HO.out rfl hn9 hlo2 ?_; intro A3 c3 w5 hown3 hb5; have O5 := Lib.hid hown3; replace b0 := (hb5.cell (p := ⟨w.heap.size, 0, none⟩) (by simp)).trans b0; replace b1 := (hb5.cell (p := ⟨w.heap.size, 1, none⟩) (by simp)).trans b1; replace b2 := (hb5.cell (p := ⟨w.heap.size, 2, none⟩) (by simp)).trans b2; replace b3 := (hb5.cell (p := ⟨w.heap.size, 3, none⟩) (by simp)).trans b3; replace HB := Lib.hid (HB.out.trans hb5); clear hown3 hb5 HO)
      refine (HST1.out _).mono ?_
      rintro e w6 ⟨rfl, hb⟩
      replace O5 := Lib.hid (O5.out.keep hb)
      replace HB := Lib.hid (HB.out.trans (hb.mono (by have := HB.out.size; omega)))
      clear hb b0 b1 b2 b3 bl
      go_wp2
      go_roundw
      case rel => exact ⟨k + 1, n' + 1, c3, A3, by omega, by omega, rfl, rfl, by rw [HSU.out]; exact O5.out, HB.out⟩
      case measure => have := HNK.out; simp [lenS]; omega
    · have ek : k = LN := by omega
      subst ek
      rw [HEND.out]
      clear b0 b1 b2 b3 bl
      go_wp2
      go_ret
      exact ⟨A', n', c', rfl, HO.out.lower (by omega), B3.out.trans (HB.out.mono (by omega))⟩

end Go.Proofs.Ytaliknhfcdmohaa
