/-
  Contracts: the distance of two cells (the program's).
-/
import Derived.Test.YtoangjjikmjkgaaT9c
namespace Go.Proofs.Ytoangjjikmjkgaa
open Go.RowKit

def dAns (d : Int) : Int := if d = -1 then 0 else d
def dOk (d : Int) : Bool := !(d == -1)
theorem dOk_eq {d : Int} (h : -1 ≤ d) : dOk d = decide (0 ≤ d) := by rw [dOk, Bool.eq_iff_iff]; simp; omega
theorem dAns_eq {d : Int} (h : -1 ≤ d) : dAns d = if decide (0 ≤ d) = true then d else 0 := by
  unfold dAns
  by_cases h2 : d = -1
  · rw [if_pos h2, if_neg (by simp; omega)]
  · rw [if_neg h2, if_pos (by simp; omega)]

set_option maxRecDepth 100000 in
set_option maxHeartbeats 600000 in
theorem distance_any (lo0 mb : Nat) (cells : List Int) (adj : Int → List Int) (s t : Nat) (d : Int) (w : World) (hm : OnMap w lo0 mb cells adj) (hs : s < 144) (hsc : (s : Int) ∈ cells) (hcl : ∀ x ∈ cells, 0 ≤ x ∧ x < 144) (hadj : ∀ x, ∀ y ∈ adj x, y ∈ cells) (ht : t < 144) (hlen : (farL adj 144 s).length = 144) (hd : (farL adj 144 s)[t]? = some d) (hd0 : -1 ≤ d ∧ d ≤ 144) :
    Calls Try.prog 38 #[.map (some mb), .int .i64 (s : Int), .int .i64 (t : Int)] w fun e w' => e = .returned (.tuple #[.int .i64 (dAns d), .bool (dOk d)]) ∧ Below w.heap.size w w' := by
  have HFL := Lib.hid hlen; have HAT := Lib.hid (fun w' => run_farK (farL adj 144 s) hlen t ht d hd w')
  have HDF := Lib.hid (fun w' (hm' : OnMap w' lo0 mb cells adj) => distancesFrom_any lo0 mb cells adj s w' hm' hs hsc hcl hadj)
  have HM := Lib.hid hm
  have hd' := hd0
  obtain ⟨d1, d2⟩ := hd0
  have t0 : (0 : Int) ≤ (t : Int) := by omega
  have t1 : (t : Int) < 144 := by omega
  obtain ⟨L, hL⟩ : ∃ L, L = Value.agg ((farL adj 144 s).map (Value.int .i64)).toArray := ⟨_, rfl⟩
  rw [← hL] at HAT HDF
  clear hm hs hsc hcl hadj hd hlen hL hd' ht
  have DO := Lib.hid (show dOk d = !(d == -1) from rfl); have DA := Lib.hid (show dAns d = if d = -1 then 0 else d from rfl)
  obtain ⟨x, hx⟩ : ∃ x, dAns d = x := ⟨_, rfl⟩
  obtain ⟨y, hy⟩ : ∃ y, dOk d = y := ⟨_, rfl⟩
  rw [hx, hy]
  have HX := Lib.hid hx; have HY := Lib.hid hy
  clear hx hy
  by_cases hneg : d = -1
  · have hne : (d == -1) = true := by simpa using hneg
    go_enter Try.func38, Try.ntmps38
    go_wp2_with fail
    refine (HDF.out _ HM.out).mono ?_
    rintro e wv ⟨rfl, hb⟩
    have hix := HAT.out
    have HB := Lib.hid hb
    clear hb
    go_wp2
    go_ret2
    exact ⟨by rw [show x = 0 by rw [← HX.out, DA.out, if_pos hneg], show y = false by rw [← HY.out, DO.out, hne]; rfl]; rfl, HB.out⟩
  · have hne : (d == -1) = false := by simpa using hneg
    go_enter Try.func38, Try.ntmps38
    go_wp2_with fail
    refine (HDF.out _ HM.out).mono ?_
    rintro e wv ⟨rfl, hb⟩
    have hix := HAT.out
    have HB := Lib.hid hb
    clear hb
    go_wp2
    go_ret2
    exact ⟨by rw [show x = d by rw [← HX.out, DA.out, if_neg hneg], show y = true by rw [← HY.out, DO.out, hne]; rfl]; rfl, HB.out⟩

end Go.Proofs.Ytoangjjikmjkgaa
