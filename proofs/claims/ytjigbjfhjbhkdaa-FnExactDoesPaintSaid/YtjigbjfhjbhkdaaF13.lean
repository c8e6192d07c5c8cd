/-
  Contracts: DoesPaint, in the model.
-/
import Derived.Test.YtjigbjfhjbhkdaaF12
import Derived.Test.YtjigbjfhjbhkdaaV1
namespace Go.Proofs.Ytjigbjfhjbhkdaa
open Go.RowKit

theorem OwnI.capF {E : TypeId} {w : World} {lo : Nat} {A : Option Addr} {n c : Nat} {xs : List Int} (h : OwnI E w lo A n c xs) : n ≤ c := by
  rcases h.2 with ⟨hv, rfl⟩ | ⟨g, cap, cur, hv, h1, _⟩
  · omega
  · cases hv; omega

theorem paMany_any (m : Int) (w : World) :
    Calls Try.prog 34 #[.int .i64 m] w fun e w' => e = .returned (.bool (inB m 1 9)) ∧ w = w' := by
  go_enter Try.func34, Try.ntmps34
  go_wp2_with fail
  refine (l1In_any _ _ _ _).mono ?_
  rintro e w1 ⟨rfl, rfl⟩
  go_wp2
  go_ret
  exact ⟨rfl, rfl⟩

theorem steps_split (p q m : Int) : stepsOk p q m = (inB m 1 9 && (inB p 0 (m - 1) && inB q 0 (m - 1))) := by
  rw [Bool.eq_iff_iff]; simp [stepsOk, inB]; omega

set_option maxRecDepth 100000 in
set_option maxHeartbeats 4000000 in
theorem spec_DoesPaint (a b p q m : Int) (w : World) :
    Calls Try.prog 10 #[lpr a b, .int .i64 p, .int .i64 q, .int .i64 m] w fun e w' => e = .returned (.tuple #[.bool (doesV a b p q m), .bool (doesOk a b p q m)]) ∧ Below w.heap.size w w' := by
  by_cases hl : leaperB a b = true
  rotate_left
  · have hl' : leaperB a b = false := by simpa using hl
    go_enter Try.func10, Try.ntmps10
    go_wp2_with fail
    refine (boLeaper_any _ _ _).mono ?_
    rw [hl']
    rintro e w1 ⟨rfl, hb1⟩
    have B := Lib.hid (below_box hb1)
    clear hb1
    go_wp2
    go_ret2
    exact ⟨by rw [doesV, doesOk, hl']; rfl, B.out⟩
  have HL := Lib.hid hl
  go_enter Try.func10, Try.ntmps10
  go_wp2_with fail
  refine (boLeaper_any _ _ _).mono ?_
  rw [hl]
  rintro e w1 ⟨rfl, hb1⟩
  have c0 := newbox hb1 0; have c1 := newbox hb1 1; have hlt := newbox_lt hb1
  simp only [List.getElem?_toArray, List.getElem?_cons_zero, List.getElem?_cons_succ] at c0 c1
  have B := Lib.hid (below_box hb1)
  clear hb1 hl
  go_wp2_with fail
  refine (paMany_any _ _).mono ?_
  rintro e w1 ⟨rfl, rfl⟩
  cases hm : inB m 1 9 with
  | false =>
    go_wp2
    go_ret2
    exact ⟨by rw [doesV, doesOk, steps_split, hm]; simp, B.out⟩
  | true =>
    have HM := Lib.hid hm
    obtain ⟨hm1, hm2⟩ := inB_iff.1 hm
    clear hm
    go_wp2_with fail
    refine (l1In_any _ _ _ _).mono ?_
    rintro e w1 ⟨rfl, rfl⟩
    cases hp : inB p 0 (m - 1) with
    | false =>
      go_wp2
      go_ret2
      exact ⟨by rw [doesV, doesOk, steps_split, hp]; simp, B.out⟩
    | true =>
      have HP := Lib.hid hp
      obtain ⟨hp1, hp2⟩ := inB_iff.1 hp
      clear hp
      go_wp2_with fail
      refine (l1In_any _ _ _ _).mono ?_
      rintro e w1 ⟨rfl, rfl⟩
      cases hq : inB q 0 (m - 1) with
      | false =>
        go_wp2
        go_ret2
        exact ⟨by rw [doesV, doesOk, steps_split, hq]; simp, B.out⟩
      | true =>
        have HS := Lib.hid (show stepsOk p q m = true by rw [steps_split, HM.out, HP.out, hq]; rfl)
        obtain ⟨hq1, hq2⟩ := inB_iff.1 hq
        clear hq
        have hS := boSteps_any a b w1 HL.out
        go_wp2_with fail
        refine hS.mono ?_
        rintro e w2 ⟨A1, n1, c1', top, rfl, hown, hb⟩
        have ST := Lib.hid (OwnSS.of hown)
        have SL := Lib.hid (OwnSS.of hown).len
        have n8 : n1 ≤ 8 := by have := (OwnSS.of hown).len; rw [List.length_map] at this; have := stepsL_len HL.out; omega
        replace B := Lib.hid (below_next B.out hb)
        clear hS hown hb c0 c1 hlt
        go_wp2
        go_loopw [37] (fun i wr => ∃ k : Nat, k ≤ n1 ∧ i = .int .i64 k ∧ ((stepsL a b).take k).all (fun s => !sameB p q m s) = true ∧ Below w2.heap.size w2 wr) (fun i _ => n1 - (intOf i).toNat)
        case atStart => exact ⟨0, Nat.zero_le _, rfl, by simp, Below.refl _ _⟩
        case round =>
          obtain ⟨k, hk, rfl, hall, hbw⟩ := hrel
          have HALL := Lib.hid hall
          have HB := Lib.hid hbw
          clear hall
          by_cases hlt : k < n1
          · obtain ⟨g, V, mm, kk, pp, rfl, hg, hcl, hpp, hrow, -, -⟩ := (ST.out.keep hbw).at_ hlt
            have hkl : k < (stepsL a b).length := by have := SL.out; rw [List.length_map] at this; omega
            obtain ⟨⟨dx, dy⟩, hx⟩ : ∃ s, (stepsL a b)[k]? = some s := ⟨_, List.getElem?_eq_getElem hkl⟩
            have hpe : pp = [dx, dy] := by rw [List.getElem?_map, hx] at hpp; simp [pairL] at hpp; exact hpp.symm
            subst hpe
            have hmm : mm = 2 := by have := hrow.len; simp at this; omega
            subst hmm
            obtain ⟨gv, rfl, hgv, hgv2⟩ := hrow.some_ (k := 0) (by omega)
            have x0 := hrow.cell (k := 0) (x := dx) rfl
            have x1 := hrow.cell (k := 1) (x := dy) rfl
            have hkk : 2 ≤ kk := OwnI.capF hrow
            obtain ⟨d1, d2, d3, d4⟩ := stepsL_bd HL.out (List.mem_of_getElem? hx)
            simp only at d1 d2 d3 d4
            have HX := Lib.hid hx
            have hpx : -40 ≤ p * dx ∧ p * dx ≤ 40 := by
              constructor
              · have := Int.mul_le_mul_of_nonneg_left d1 hp1; omega
              · have := Int.mul_le_mul_of_nonneg_left d2 hp1; omega
            have hqy : -40 ≤ q * dy ∧ q * dy ≤ 40 := by
              constructor
              · have := Int.mul_le_mul_of_nonneg_left d3 hq1; omega
              · have := Int.mul_le_mul_of_nonneg_left d4 hq1; omega
            obtain ⟨hpx1, hpx2⟩ := hpx
            obtain ⟨hqy1, hqy2⟩ := hqy
            have hm0 : (m == 0) = false := by simp; omega
            clear hx hbw hpp hrow hkl d1 d2 d3 d4
            cases hsm : ((p * dx + q * dy).tmod m == 0) with
            | true =>
              have HSM := Lib.hid (show sameB p q m (dx, dy) = true from hsm)
              go_wp2
              go_quiet (fail)
              go_wp2
              go_ret2
              exact ⟨by rw [doesV, doesOk, HL.out, HS.out, doesB, show (stepsL a b).all (fun s => !sameB p q m s) = false by (rw [Bool.eq_false_iff]; intro h; have := List.all_eq_true.1 h _ (List.mem_of_getElem? HX.out); rw [HSM.out] at this; cases this)]; rfl, below_drewN (B.out.trans (HB.out.mono B.out.size)) _⟩
            | false =>
              have HSM := Lib.hid (show sameB p q m (dx, dy) = false from hsm)
              go_wp2
              go_quiet (fail)
              go_wp2
              go_roundw
              case rel => exact ⟨k + 1, by omega, by go_num, by rw [List.take_add_one, HX.out, List.all_append, HALL.out]; simp [HSM.out], below_drewN HB.out _⟩
              case measure => simp [intOf]; omega
          · have hkn : k = n1 := by omega
            subst hkn
            clear hbw
            go_wp2
            go_ret2
            exact ⟨by have h := HALL.out; rw [List.take_of_length_le (by have := SL.out; rw [List.length_map] at this; omega)] at h; rw [doesV, doesOk, HL.out, HS.out, doesB, h]; rfl, B.out.trans (HB.out.mono B.out.size)⟩
end Go.Proofs.Ytjigbjfhjbhkdaa
