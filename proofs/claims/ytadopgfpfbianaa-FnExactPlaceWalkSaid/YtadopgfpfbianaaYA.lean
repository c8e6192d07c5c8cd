/-
  PlaceWalk: the pure side; areDifferent and plus.
-/
import Derived.Test.YtadopgfpfbianaaY2
import Derived.Test.YtadopgfpfbianaaS5
import Derived.Test.YtadopgfpfbianaaK2
import Derived.Test.YtadopgfpfbianaaY0
namespace Go.Proofs.Ytadopgfpfbianaa
open Go.RowKit

theorem nodup_le64 {ps : List Int} (h : ∀ x ∈ ps, 0 ≤ x ∧ x < 64) (hn : ps.Nodup) : ps.length ≤ 64 := by
  rw [← (pop_walk h).2 hn]; exact popN_le 64 _
def difB (W H : Int) (xs ps : List Int) : Bool := decide (1 ≤ ps.length) && ps.all (hasB W H xs) && decide ps.Nodup
theorem dif_64 {W H : Int} {xs ps : List Int} (hg : goodB W H xs = true) (h : ps.all (hasB W H xs) = true) : ∀ x ∈ ps, 0 ≤ x ∧ x < 64 := fun x hx => by
  have h1 := (hasB_iff.1 (List.all_eq_true.1 h x hx)).1
  obtain ⟨hW, hH, _, _⟩ := goodB_iff.1 hg
  have := cells_le hW hH
  omega
theorem plain_good {m n : Int} (h : plainB m n = true) : goodB m n [] = true := by
  simp only [plainB, Bool.and_eq_true] at h
  have h1 := sizeB_iff.1 h.1; have h2 := sizeB_iff.1 h.2
  have := cells_le h1 h2
  exact goodB_iff.2 ⟨h1, h2, by simp; omega, rfl⟩
theorem int_rng {n : Int} (h : (Lit.int .i64 n).wf = true) : -9223372036854775808 ≤ n ∧ n ≤ 9223372036854775807 := by
  simp [Lit.wf, IntKind.min, IntKind.max, IntKind.signed, IntKind.bits] at h
  omega
theorem plain_iff {m n : Int} : plainB m n = true ↔ (1 ≤ m ∧ m ≤ 8) ∧ (1 ≤ n ∧ n ≤ 8) := by simp [plainB, sizeB]
/-- The guards of the model, and of the program. -/
def plcG (w0 h0 : Int) (ps : List Int) (W H : Int) (xs : List Int) (x y : Int) : Bool := plainB w0 h0 && goodB W H xs && decide (0 ≤ x) && decide (0 ≤ y) && decide (1 ≤ ps.length ∧ ps.length ≤ 64) && inAll 0 (w0 * h0 - 1) ps
def plcSp (W H : Int) (xs : List Int) (w0 x y q : Int) : Bool := spotB W H xs (q % w0 + x) (q / w0 + y)
def plcTo (W w0 x y q : Int) : Int := (q / w0 + y) * W + (q % w0 + x)
def plcB (w0 h0 : Int) (ps : List Int) (W H : Int) (xs : List Int) (x y : Int) : Bool := plcG w0 h0 ps W H xs x y && decide ps.Nodup && ps.all (plcSp W H xs w0 x y)
def plcV (w0 h0 : Int) (ps : List Int) (W H : Int) (xs : List Int) (x y : Int) : List Int := if plcB w0 h0 ps W H xs x y then ps.map (plcTo W w0 x y) else []
theorem plc_none {w0 h0 W H x y : Int} {ps xs : List Int} (h : plcG w0 h0 ps W H xs x y = false) : plcB w0 h0 ps W H xs x y = false := by rw [plcB, h]; rfl
theorem plc_dup {w0 h0 W H x y : Int} {ps xs : List Int} (h : ¬ ps.Nodup) : plcB w0 h0 ps W H xs x y = false := by rw [plcB, decide_eq_false h, Bool.and_false, Bool.false_and]
theorem plc_off {w0 h0 W H x y q : Int} {ps xs : List Int} {k : Nat} (hq : ps[k]? = some q) (h : plcSp W H xs w0 x y q = false) : plcB w0 h0 ps W H xs x y = false := by
  have : ps.all (plcSp W H xs w0 x y) = false := by
    rw [List.all_eq_false]; exact ⟨q, List.mem_of_getElem? hq, by rw [h]; simp⟩
  rw [plcB, this, Bool.and_false]
theorem plc_no {w0 h0 W H x y : Int} {ps xs : List Int} (h : plcB w0 h0 ps W H xs x y = false) : plcV w0 h0 ps W H xs x y = [] := by rw [plcV, h]; rfl
theorem len_PlaceWalk (w0 h0 : Int) (ps : List Int) (W H : Int) (xs : List Int) (x y : Int) : (plcV w0 h0 ps W H xs x y).length ≤ 1000000 := by
  unfold plcV; split
  · rename_i h
    simp only [plcB, plcG, Bool.and_eq_true, decide_eq_true_eq] at h
    have := h.1.1.1.2.2
    rw [List.length_map]; omega
  · simp
theorem in_has {w0 h0 : Int} {ps : List Int} : ps.all (hasB w0 h0 []) = inAll 0 (w0 * h0 - 1) ps := by
  rw [Bool.eq_iff_iff, List.all_eq_true, inAll_iff]
  constructor
  · intro h x hx; have := (hasB_iff.1 (h x hx)).1; omega
  · intro h x hx; exact hasB_iff.2 ⟨by have := h x hx; omega, by simp⟩
/-- The program's guards say what the model's do, with the doubles. -/
theorem plc_dif {w0 h0 W H x y : Int} {ps xs : List Int} : plcB w0 h0 ps W H xs x y = (plainB w0 h0 && difB w0 h0 [] ps && goodB W H xs && decide (0 ≤ x) && decide (0 ≤ y) && ps.all (plcSp W H xs w0 x y)) := by
  rw [plcB, plcG, difB, in_has]
  cases hp : plainB w0 h0 with
  | false => rfl
  | true =>
    cases hi : inAll 0 (w0 * h0 - 1) ps with
    | false => simp
    | true =>
      by_cases hn : ps.Nodup
      · have h64 : ps.length ≤ 64 := nodup_le64 (dif_64 (plain_good hp) (in_has.trans hi)) hn
        rw [decide_eq_true hn, show decide (1 ≤ ps.length ∧ ps.length ≤ 64) = decide (1 ≤ ps.length) by simp [h64]]
        cases goodB W H xs <;> cases decide (0 ≤ x) <;> cases decide (0 ≤ y) <;> cases decide (1 ≤ ps.length) <;> rfl
      · rw [decide_eq_false hn]; simp
theorem map_step {f : Int → Int} {ps : List Int} {k : Nat} {q : Int} (h : ps[k]? = some q) : (ps.take (k + 1)).map f = (ps.take k).map f ++ [f q] := by rw [List.take_add_one, h]; simp
theorem all_step {f : Int → Bool} {ps : List Int} {k : Nat} {q : Int} (h : ps[k]? = some q) (h1 : (ps.take k).all f = true) (h2 : f q = true) : (ps.take (k + 1)).all f = true := by rw [List.take_add_one, h]; simp [h1, h2]
theorem wrap_off {W H a b x y : Int} {xs : List Int} (hW : 1 ≤ W ∧ W ≤ 8) (ha : 0 ≤ a ∧ a ≤ 7) (hb : 0 ≤ b ∧ b ≤ 7) (hH : 1 ≤ H ∧ H ≤ 8) (hx : 0 ≤ x ∧ x ≤ 9223372036854775807) (hy : 0 ≤ y ∧ y ≤ 9223372036854775807) :
    spotB W H xs (IntKind.i64.wrap (a + x)) (IntKind.i64.wrap (b + y)) = spotB W H xs (a + x) (b + y) := by
  by_cases h1 : a + x < W
  · rw [show IntKind.i64.wrap (a + x) = a + x from IntWalk.i64_in _ (by omega)]
    by_cases h2 : b + y < H
    · rw [show IntKind.i64.wrap (b + y) = b + y from IntWalk.i64_in _ (by omega)]
    · rw [spotB_no hW (fun h => h2 h.2.2.2), spotB_no hW (fun h => by
        have h3 := h.2.2
        rw [IntKind.wrap_i64] at h3
        omega)]
  · rw [spotB_no hW (fun h => h1 h.2.1), spotB_no hW (fun h => by
      have h3 := h
      rw [IntKind.wrap_i64] at h3
      omega)]

set_option maxHeartbeats 400000 in
theorem plus_gen (x y u v : Int) (w : World) :
    Calls Try.prog 84 #[lpr x y, lpr u v] w fun e w' => e = .returned (lpr (IntKind.i64.wrap (x + u)) (IntKind.i64.wrap (y + v))) ∧ Below w.heap.size w w' := by
  obtain ⟨X, hX⟩ : ∃ X, X = IntKind.i64.wrap (x + u) := ⟨_, rfl⟩
  obtain ⟨Y, hY⟩ : ∃ Y, Y = IntKind.i64.wrap (y + v) := ⟨_, rfl⟩
  rw [← hX, ← hY]
  replace hX := hX.symm; replace hY := hY.symm
  go_enter Try.func84, Try.ntmps84
  go_wp2
  exact bodyPost_ret (v := lpr X Y) (by simp [results, Try.results84, go_sem]) rfl ⟨rfl, (by repeat (first | exact Below.refl _ _ | refine Below.setCell ?_ (by simp) _ | refine below_new ?_ _ | refine Below.drew ?_))⟩

set_option maxRecDepth 100000 in
set_option maxHeartbeats 2000000 in
theorem areDifferent_any (W H : Int) (A : Option Addr) (n c : Nat) (xs : List Int) (A2 : Option Addr) (m c2 : Nat) (ps : List Int) (w : World) (ha : Rd w A n xs) (hp : Rd w A2 m ps) (hg : goodB W H xs = true) :
    Calls Try.prog 83 #[brd W H A n c, .slice A2 m c2] w fun e w' => e = .returned (.bool (difB W H xs ps)) ∧ Below w.heap.size w w' := by
  have HPL := Lib.hid hp.1
  have m9 := hp.2.1
  have HG := Lib.hid hg
  obtain ⟨W2, hW2⟩ : ∃ W2, W2 = w.alloc (.cells #[.int .i64 W, .int .i64 H, .slice A n c] 24) := ⟨_, rfl⟩
  have a0 : W2.cell? ⟨w.heap.size, 0, none⟩ = some (.int .i64 W) := by rw [hW2]; go_simp
  have a1 : W2.cell? ⟨w.heap.size, 1, none⟩ = some (.int .i64 H) := by rw [hW2]; go_simp
  have a2 : W2.cell? ⟨w.heap.size, 2, none⟩ = some (.slice A n c) := by rw [hW2]; go_simp
  have B := Lib.hid (show Below w.heap.size w W2 by rw [hW2]; exact below_new (Below.refl _ _) _)
  have R := Lib.hid (ha.keep B.out); have RP := Lib.hid (hp.keep B.out)
  clear ha hp hg
  by_cases hm : 0 < m
  · have HM := Lib.hid (decide_eq_true (show 1 ≤ ps.length by have := HPL.out; omega))
    have hmi : (0 : Int) < (m : Int) := by omega
    cases hA : ps.all (hasB W H xs) with
    | true =>
      have HA := Lib.hid hA
      have H64 := Lib.hid (dif_64 HG.out hA)
      clear hA
      go_enter Try.func83, Try.ntmps83
      go_wp2_with fail
      rw [← hW2]
      clear hW2
      refine (areThere_any W H A n c xs A2 m c2 ps _ R.out RP.out HG.out).mono ?_
      rw [HA.out]
      rintro e wv ⟨rfl, hb⟩
      replace RP := Lib.hid (RP.out.keep hb)
      replace B := Lib.hid (below_next B.out hb)
      clear hb a0 a1 a2
      go_wp2_with fail
      refine (setOf_any A2 m c2 ps _ RP.out H64.out).mono ?_
      rintro e wv ⟨rfl, hb⟩
      replace B := Lib.hid (below_next B.out hb)
      clear hb
      have HSL := Lib.hid (set_lt H64.out)
      obtain ⟨S, hS⟩ : ∃ S, S = setBits (ps.map Int.toNat) := ⟨_, rfl⟩
      rw [← hS] at HSL ⊢
      have HS := Lib.hid hS
      clear hS
      go_wp2_with fail
      refine (size_any S HSL.out _).mono ?_
      rintro e wv ⟨rfl, hb⟩
      replace B := Lib.hid (below_next B.out hb)
      clear hb
      have hpw := pop_walk H64.out
      rw [← HS.out, HPL.out] at hpw
      obtain ⟨Q, hQ⟩ : ∃ Q, Q = popN 64 S := ⟨_, rfl⟩
      rw [← hQ] at hpw ⊢
      clear hQ
      by_cases hq : Q = m
      · have HN := Lib.hid (hpw.1 hq)
        have hqe : ((Q : Int) == (m : Int)) = true := by simp; omega
        clear hpw hq
        go_wp2
        go_ret
        exact ⟨ret_bool (by rw [difB, HM.out, HA.out]; symm; exact decide_eq_true HN.out), B.out⟩
      · have HN := Lib.hid (fun h => hq (hpw.2 h))
        have hqe : ((Q : Int) == (m : Int)) = false := by simp; omega
        clear hpw hq
        go_wp2
        go_ret
        exact ⟨ret_bool (by rw [difB, HM.out, HA.out]; symm; exact decide_eq_false HN.out), B.out⟩
    | false =>
      have HA := Lib.hid hA
      clear hA
      go_enter Try.func83, Try.ntmps83
      go_wp2_with fail
      rw [← hW2]
      clear hW2
      refine (areThere_any W H A n c xs A2 m c2 ps _ R.out RP.out HG.out).mono ?_
      rw [HA.out]
      rintro e wv ⟨rfl, hb⟩
      replace B := Lib.hid (below_next B.out hb)
      clear hb a0 a1 a2
      go_wp2
      go_ret
      exact ⟨ret_bool (by rw [difB, HA.out, Bool.and_false]; rfl), B.out⟩
  · have HM := Lib.hid (decide_eq_false (show ¬ 1 ≤ ps.length by have := HPL.out; omega))
    have hmi : ¬ (0 : Int) < (m : Int) := by omega
    go_enter Try.func83, Try.ntmps83
    go_wp2
    (try rw [← hW2])
    go_ret
    exact ⟨ret_bool (by rw [difB, HM.out]; rfl), by first | exact B.out | (rw [← hW2]; exact B.out)⟩

end Go.Proofs.Ytadopgfpfbianaa
