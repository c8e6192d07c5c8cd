/-
  Contracts: DoesPaint, in the program.
-/
import Derived.Test.YtjigbjfhjbhkdaaF11
import Derived.Test.YtjigbjfhjbhkdaaS4
import Derived.Test.YtjigbjfhjbhkdaaS5
import Derived.Deep.RegionHeld3
import Derived.Deep.WholeRow
namespace Go.Proofs.Ytjigbjfhjbhkdaa
open Go.RowKit

/-- A step that leads to cells of the same colour. -/
def sameB (p q m : Int) (s : Int × Int) : Bool := (p * s.1 + q * s.2).tmod m == 0
def doesB (a b p q m : Int) : Bool := (stepsL a b).all fun s => !sameB p q m s
def doesOk (a b p q m : Int) : Bool := leaperB a b && stepsOk p q m
def doesV (a b p q m : Int) : Bool := doesOk a b p q m && doesB a b p q m
def KeepAt (w : World) (gc gp gq gm : Nat) (p q m : Int) : Prop := w.cell? ⟨gc, 0, none⟩ = some (colFn gp gq gm) ∧ gc < w.heap.size ∧ ByAt w gp gq gm p q m
theorem KeepAt.keep {w w' : World} {gc gp gq gm : Nat} {p q m : Int} (h : KeepAt w gc gp gq gm p q m) (hb : Below w.heap.size w w') : KeepAt w' gc gp gq gm p q m :=
  ⟨cell_keep h.1 h.2.1 hb, lt_keep h.2.1 hb, h.2.2.keep hb⟩

set_option maxHeartbeats 1000000 in
theorem keeps_any (gc gp gq gm : Nat) (p q m x y : Int) (w : World) (hat : KeepAt w gc gp gq gm p q m) (hs : stepsOk p q m = true) (hx1 : -100 ≤ x) (hx2 : x ≤ 100) (hy1 : -100 ≤ y) (hy2 : y ≤ 100) :
    Calls Try.prog 40 #[lpr x y, .pointer (some ⟨gc, 0, none⟩)] w fun e w' => e = .returned (.bool (sameB p q m (x, y))) ∧ Below w.heap.size w w' := by
  have HAT := Lib.hid hat
  obtain ⟨c0, -, -⟩ := hat
  unfold colFn at c0
  have hgc := HAT.out.2.1
  have hb1 : Below w.heap.size w (w.alloc (.cells #[.int .i64 x, .int .i64 y] 60)) := below_new (Below.refl _ _) _
  have hC := colour_any gp gq gm p q m x y (w.alloc (.cells #[.int .i64 x, .int .i64 y] 60)) (HAT.out.keep hb1).2.2 hs hx1 hx2 hy1 hy2
  go_enter Try.func40, Try.ntmps40
  go_wp2_with fail
  refine hC.mono ?_
  rintro e wv ⟨rfl, hb⟩
  replace hb1 := below_next hb1 hb
  clear hC hb
  go_wp2
  go_ret
  exact ⟨rfl, hb1⟩

set_option maxRecDepth 100000 in
set_option maxHeartbeats 2000000 in
theorem indexFunc_any (lo : Nat) (A : Option Addr) (n c : Nat) (a b : Int) (gc gp gq gm : Nat) (p q m : Int) (w : World) (hl : leaperB a b = true) (hst : OwnP 60 w lo A n c (stepsL a b)) (hat : KeepAt w gc gp gq gm p q m) (hs : stepsOk p q m = true) :
    Calls Try.prog 59 #[.slice A n c, .func (.func 40) #[] #[.pointer (some ⟨gc, 0, none⟩)]] w fun e w' => ∃ r : Int, e = .returned (.int .i64 r) ∧ -1 ≤ r ∧ r ≤ 100 ∧ decide (0 ≤ r) = (stepsL a b).any (sameB p q m) ∧ Below w.heap.size w w' := by
  have ST := Lib.hid hst
  have SL := Lib.hid hst.len
  have HL := Lib.hid hl
  have n8 : n ≤ 8 := by have := stepsL_len hl; have := hst.len; omega
  have HAT := Lib.hid hat
  clear hst hat hl
  go_enter Try.func59, Try.ntmps59
  go_wp2
  go_loopw [8] (fun i wr => ∃ k : Nat, k ≤ n ∧ i = .int .i64 k ∧ ((stepsL a b).take k).any (sameB p q m) = false ∧ Below w.heap.size w wr) (fun i _ => n - (intOf i).toNat)
  case atStart => exact ⟨0, Nat.zero_le _, rfl, by simp, Below.refl _ _⟩
  case round =>
    obtain ⟨k, hk, rfl, hno, hbw⟩ := hrel
    have HNO := Lib.hid hno
    have HB := Lib.hid hbw
    clear hno
    by_cases hlt : k < n
    · obtain ⟨⟨dx, dy⟩, hx⟩ : ∃ p, (stepsL a b)[k]? = some p := ⟨_, List.getElem?_eq_getElem (show k < (stepsL a b).length by have := SL.out; omega)⟩
      obtain ⟨g1, rfl, _, hg1⟩ := ST.out.some_ hlt
      obtain ⟨x0, x1⟩ := pair_at ST.out hx
      have hbd := stepsL_bd HL.out (List.mem_of_getElem? hx)
      simp only at x0 x1 hbd
      have HX := Lib.hid hx
      replace x0 := cell_keep x0 hg1 hbw; replace x1 := cell_keep x1 hg1 hbw
      obtain ⟨d1, d2, d3, d4⟩ := hbd
      have hK := keeps_any gc gp gq gm p q m dx dy wr (HAT.out.keep hbw) hs (by omega) (by omega) (by omega) (by omega)
      clear hx hbw hg1
      cases hsm : sameB p q m (dx, dy) with
      | true =>
        have HS := Lib.hid hsm
        go_wp2_with fail
        refine hK.mono ?_
        rw [hsm]
        rintro e wv ⟨rfl, hb⟩
        replace HB := Lib.hid (HB.out.trans (hb.mono HB.out.size))
        clear hb hK hsm x0 x1
        go_wp2
        go_ret
        exact ⟨(k : Int), rfl, by omega, by omega, by rw [show (stepsL a b).any (sameB p q m) = true from List.any_eq_true.2 ⟨_, List.mem_of_getElem? HX.out, HS.out⟩]; simp, HB.out⟩
      | false =>
        have HS := Lib.hid hsm
        go_wp2_with fail
        refine hK.mono ?_
        rw [hsm]
        rintro e wv ⟨rfl, hb⟩
        replace HB := Lib.hid (HB.out.trans (hb.mono HB.out.size))
        clear hb hK hsm x0 x1
        go_wp2
        go_roundw
        case rel => exact ⟨k + 1, by omega, by go_num, by rw [List.take_add_one, HX.out, List.any_append, HNO.out]; simp [HS.out], HB.out⟩
        case measure => simp [intOf]; omega
    · have hkn : k = n := by omega
      subst hkn
      clear hbw
      go_wp2
      go_ret
      exact ⟨-1, rfl, by omega, by omega, by have h := HNO.out; rw [List.take_of_length_le (by have := SL.out; omega)] at h; rw [h]; simp, HB.out⟩

set_option maxRecDepth 100000 in
set_option maxHeartbeats 2000000 in
theorem containsFunc_any (lo : Nat) (A : Option Addr) (n c : Nat) (a b : Int) (gc gp gq gm : Nat) (p q m : Int) (w : World) (hl : leaperB a b = true) (hst : OwnP 60 w lo A n c (stepsL a b)) (hat : KeepAt w gc gp gq gm p q m) (hs : stepsOk p q m = true) :
    Calls Try.prog 41 #[.slice A n c, .func (.func 40) #[] #[.pointer (some ⟨gc, 0, none⟩)]] w fun e w' => e = .returned (.bool ((stepsL a b).any (sameB p q m))) ∧ Below w.heap.size w w' := by
  have hI := indexFunc_any lo A n c a b gc gp gq gm p q m w hl hst hat hs
  clear hst hat hs hl
  go_enter Try.func41, Try.ntmps41
  go_wp2_with fail
  refine hI.mono ?_
  rintro e wv ⟨r, rfl, hr1, hr2, hr3, hb⟩
  have HR := Lib.hid hr3
  clear hI hr3
  go_wp2
  go_ret
  exact ⟨ret_bool (by rw [← HR.out]), hb⟩

set_option maxRecDepth 100000 in
set_option maxHeartbeats 4000000 in
theorem impl_DoesPaint (a b p q m : Int) (w : World) :
    Calls Try.prog 12 #[lpr a b, .int .i64 p, .int .i64 q, .int .i64 m] w fun e w' => e = .returned (.tuple #[.bool (doesV a b p q m), .bool (doesOk a b p q m)]) ∧ Below w.heap.size w w' := by
  by_cases hl : leaperB a b = true
  · have HL := Lib.hid hl
    cases hs : stepsOk p q m with
    | true =>
      have HS := Lib.hid hs
      go_enter Try.func12, Try.ntmps12
      go_wp2_with fail
      refine (isLeaper_any _ _ _).mono ?_
      rw [hl]
      rintro e w1 ⟨rfl, hb1⟩
      have c0 := newbox hb1 0; have c1 := newbox hb1 1; have hlt := newbox_lt hb1
      simp only [List.getElem?_toArray, List.getElem?_cons_zero, List.getElem?_cons_succ] at c0 c1
      have B := Lib.hid (below_box hb1)
      clear hb1 hl
      go_wp2_with fail
      refine (areSteps_any _ _ _ _).mono ?_
      rw [hs]
      rintro e w1 ⟨rfl, rfl⟩
      clear hs
      go_wp2_with fail
      refine (colourBySteps_any p q m _).mono ?_
      rintro e w2 ⟨gp, gq, gm, rfl, hat, hb⟩
      replace c0 := cell_keep c0 hlt hb; replace c1 := cell_keep c1 hlt hb; replace hlt := lt_keep hlt hb
      replace B := Lib.hid (below_next B.out hb)
      have HAT := Lib.hid hat
      clear hb hat
      have hsf := fun (a : Addr) (c : Array Value) (w : World) => run_store Try.prog w a (.func (.func 58) #[] c) .plain rfl
      obtain ⟨W3, hW3⟩ : ∃ W3, W3 = w2.alloc (.cells #[colFn gp gq gm] 57) := ⟨_, rfl⟩
      have hb3 : Below w2.heap.size w2 W3 := by rw [hW3]; exact below_new (Below.refl _ _) _
      have HK := Lib.hid (show KeepAt W3 w2.heap.size gp gq gm p q m from ⟨by rw [hW3]; go_simp, by rw [hW3]; simp, HAT.out.keep hb3⟩)
      replace B := Lib.hid (below_next B.out hb3)
      clear hb3
      have hS := stepsOf_any a b W3 HL.out
      unfold colFn at hW3 ⊢
      go_wp2_with fail
      rw [← hW3]
      clear hW3
      refine hS.mono ?_
      rintro e w4 ⟨A4, n4, c4, rfl, hst, hb⟩
      replace B := Lib.hid (below_next B.out hb)
      have hC := containsFunc_any W3.heap.size A4 n4 c4 a b w2.heap.size gp gq gm p q m w4 HL.out hst (HK.out.keep hb) HS.out
      clear hS hst hb hsf c0 c1 hlt
      go_wp2_with fail
      refine hC.mono ?_
      rintro e w5 ⟨rfl, hb⟩
      replace B := Lib.hid (below_next B.out hb)
      clear hC hb
      go_wp2
      go_ret2
      exact ⟨by rw [doesV, doesOk, HL.out, HS.out, doesB]; simp [List.not_any_eq_all_not], B.out⟩
    | false =>
      have hs2 := hs
      have HS2 := Lib.hid hs2
      clear hs2
      go_enter Try.func12, Try.ntmps12
      go_wp2_with fail
      refine (isLeaper_any _ _ _).mono ?_
      rw [hl]
      rintro e w1 ⟨rfl, hb1⟩
      have c0 := newbox hb1 0; have c1 := newbox hb1 1; have hlt := newbox_lt hb1
      simp only [List.getElem?_toArray, List.getElem?_cons_zero, List.getElem?_cons_succ] at c0 c1
      have B := Lib.hid (below_box hb1)
      clear hb1 hl
      go_wp2_with fail
      refine (areSteps_any _ _ _ _).mono ?_
      rw [hs]
      rintro e w1 ⟨rfl, rfl⟩
      clear hs
      go_wp2
      go_ret2
      exact ⟨by rw [doesV, doesOk, HS2.out]; simp, B.out⟩
  · have hl' : leaperB a b = false := by simpa using hl
    go_enter Try.func12, Try.ntmps12
    go_wp2_with fail
    refine (isLeaper_any _ _ _).mono ?_
    rw [hl']
    rintro e w1 ⟨rfl, hb1⟩
    have B := Lib.hid (below_box hb1)
    clear hb1
    go_wp2
    go_ret2
    exact ⟨by rw [doesV, doesOk, hl']; rfl, B.out⟩
end Go.Proofs.Ytjigbjfhjbhkdaa
