/-
  Contracts: cells of boards around, in the model and in the program.
-/
import Derived.Test.YtaliknhfcdmohaaO2
namespace Go.Proofs.Ytaliknhfcdmohaa
open Go.RowKit

def aroundB (W H : Int) (ps : List Int) : Bool := goodA W H && ps.all fun q => inB q 0 (W * H - 1)
theorem aroundB_one {W H q : Int} : aroundB W H [q] = cellA W H q := by simp [aroundB, cellA]
theorem aroundB_nil {W H : Int} : aroundB W H [] = goodA W H := by simp [aroundB]
theorem arBy_bl (x y : Int) (w : World) :
    Calls Try.prog 53 #[.int .i64 x, .int .i64 y] w fun e w' => e = .returned (.bool (byA x y)) ∧ Below w.heap.size w w' :=
  (arBy_any x y w).mono fun e w' h => ⟨h.1, by rw [← h.2]; exact Below.refl _ _⟩

set_option maxRecDepth 100000 in
set_option maxHeartbeats 1000000 in
theorem arCell_any (W H : Int) (ac up : Bool) (q : Int) (w : World) :
    Calls Try.prog 52 #[ard W H ac up, .int .i64 q] w fun e w' => e = .returned (.bool (cellA W H q)) ∧ Below w.heap.size w w' := by
  obtain ⟨W2, hW2⟩ : ∃ W2, W2 = w.alloc (.cells #[.int .i64 W, .int .i64 H, .bool ac, .bool up] 25) := ⟨_, rfl⟩
  have hsz : W2.heap.size = w.heap.size + 1 := by rw [hW2]; simp
  have a0 : W2.cell? ⟨w.heap.size, 0, none⟩ = some (.int .i64 W) := by rw [hW2]; go_simp
  have a1 : W2.cell? ⟨w.heap.size, 1, none⟩ = some (.int .i64 H) := by rw [hW2]; go_simp
  have a2 : W2.cell? ⟨w.heap.size, 2, none⟩ = some (.bool ac) := by rw [hW2]; go_simp
  have a3 : W2.cell? ⟨w.heap.size, 3, none⟩ = some (.bool up) := by rw [hW2]; go_simp
  have al : w.heap.size < W2.heap.size := by omega
  have B := Lib.hid (show Below w.heap.size w W2 by rw [hW2]; repeat (first | exact Below.refl _ _ | refine below_new ?_ _))
  cases hg : goodA W H
  · go_enter Try.func52, Try.ntmps52
    go_wp2_with fail
    rw [← hW2]
    clear hW2
    refine (arGood_any _ _ _ _ _).mono ?_
    rw [hg]
    rintro e wv ⟨rfl, hb⟩
    replace a0 := cell_keep a0 al hb
    replace a1 := cell_keep a1 al hb
    replace a2 := cell_keep a2 al hb
    replace a3 := cell_keep a3 al hb
    replace al := lt_keep al hb
    replace B := Lib.hid (below_next B.out hb)
    clear hb
    clear a0 a1 a2 a3 al
    go_wp2
    go_ret
    exact ⟨ret_bool (by rw [cellA, hg]; rfl), B.out⟩
  · have HG := Lib.hid hg
    clear hg
    have hA := areaA HG.out
    obtain ⟨⟨hW1, hW2b⟩, hH1, hH2⟩ := goodA_iff.1 HG.out
    obtain ⟨A1, A2⟩ := hA
    go_enter Try.func52, Try.ntmps52
    go_wp2_with fail
    rw [← hW2]
    clear hW2
    refine (arGood_any _ _ _ _ _).mono ?_
    rw [HG.out]
    rintro e wv ⟨rfl, hb⟩
    replace a0 := cell_keep a0 al hb
    replace a1 := cell_keep a1 al hb
    replace a2 := cell_keep a2 al hb
    replace a3 := cell_keep a3 al hb
    replace al := lt_keep al hb
    replace B := Lib.hid (below_next B.out hb)
    clear hb
    go_wp2_with fail
    refine (l1In_any _ _ _ _).mono ?_
    rintro e w9 ⟨rfl, rfl⟩
    go_wp2
    go_ret
    exact ⟨ret_bool (by rw [cellA, HG.out]; simp), B.out⟩

set_option maxRecDepth 100000 in
set_option maxHeartbeats 1000000 in
theorem sizeA_any (W H : Int) (ac up : Bool) (w : World) (hg : goodA W H = true) :
    Calls Try.prog 76 #[ard W H ac up] w fun e w' => e = .returned (.int .i64 (W * H)) ∧ Below w.heap.size w w' := by
  have hA := areaA hg
  obtain ⟨⟨hW1, hW2b⟩, hH1, hH2⟩ := goodA_iff.1 hg
  obtain ⟨A1, A2⟩ := hA
  go_enter Try.func76, Try.ntmps76
  go_wp2
  go_ret
  exact ⟨rfl, below_new (Below.refl _ _) _⟩

set_option maxRecDepth 100000 in
set_option maxHeartbeats 1000000 in
theorem notAround_any (g : Nat) (W H : Int) (ac up : Bool) (q : Int) (w : World) (hat : ArdAt w g W H ac up) (hg : goodA W H = true) :
    Calls Try.prog 87 #[.int .i64 q, .pointer (some ⟨g, 0, none⟩)] w fun e w' => e = .returned (.bool (!inB q 0 (W * H - 1))) ∧ Below w.heap.size w w' := by
  obtain ⟨b0, b1, b2, b3, bl⟩ := hat
  have HG := Lib.hid hg
  clear hg
  have hA := areaA HG.out
  obtain ⟨⟨hW1, hW2b⟩, hH1, hH2⟩ := goodA_iff.1 HG.out
  obtain ⟨A1, A2⟩ := hA
  by_cases hq : q < 0
  · go_enter Try.func87, Try.ntmps87
    go_wp2
    go_ret
    exact ⟨ret_bool (by simp [inB]; omega), Below.refl _ _⟩
  · go_enter Try.func87, Try.ntmps87
    go_wp2_with fail
    refine (sizeA_any W H ac up _ HG.out).mono ?_
    rintro e wv ⟨rfl, hb⟩
    go_wp2
    go_ret
    exact ⟨ret_bool (by rw [Bool.eq_iff_iff]; simp [inB]; omega), hb⟩

set_option maxRecDepth 100000 in
set_option maxHeartbeats 2000000 in
theorem indexAround_any (g : Nat) (W H : Int) (ac up : Bool) (A2 : Option Addr) (m c2 : Nat) (ps : List Int) (w : World) (hat : ArdAt w g W H ac up) (hp : Rd w A2 m ps) (hg : goodA W H = true) :
    Calls Try.prog 109 #[.slice A2 m c2, .func (.func 87) #[] #[.pointer (some ⟨g, 0, none⟩)]] w fun e w' => ∃ r : Int, e = .returned (.int .i64 r) ∧ -1 ≤ r ∧ decide (0 ≤ r) = (!ps.all (fun q => inB q 0 (W * H - 1))) ∧ Below w.heap.size w w' := by
  have HAT := Lib.hid hat; have HP := Lib.hid hp; have HG := Lib.hid hg
  have HPL := Lib.hid hp.1
  have m9 := hp.2.1
  clear hat hp hg
  go_enter Try.func109, Try.ntmps109
  go_wp2
  go_loopw [8] (fun i wr => ∃ k : Nat, k ≤ m ∧ i = .int .i64 k ∧ (ps.take k).all (fun q => inB q 0 (W * H - 1)) = true ∧ Below w.heap.size w wr) (fun i _ => m - (intOf i).toNat)
  case atStart => exact ⟨0, Nat.zero_le _, rfl, by simp, Below.refl _ _⟩
  case round =>
    obtain ⟨k, hk, rfl, hno, hbw⟩ := hrel
    have HNO := Lib.hid hno
    have HB := Lib.hid hbw
    clear hno
    by_cases hlt : k < m
    · obtain ⟨bb, oo, x, rfl, hg1, hx, x0⟩ := HP.out.at_ hlt
      have HX := Lib.hid hx
      replace x0 := cell_keep x0 hg1 hbw
      have hK := notAround_any g W H ac up x wr (HAT.out.keep hbw) HG.out
      clear hx hbw hg1
      cases hsm : inB x 0 (W * H - 1) with
      | true =>
        have HS := Lib.hid hsm
        go_wp2_with fail
        refine hK.mono ?_
        rw [hsm]
        rintro e wv ⟨rfl, hb⟩
        replace HB := Lib.hid (HB.out.trans (hb.mono HB.out.size))
        clear hb hK hsm x0
        go_wp2
        go_roundw
        case rel => exact ⟨k + 1, by omega, by go_num, by rw [List.take_add_one, HX.out, List.all_append, HNO.out]; simp [HS.out], HB.out⟩
        case measure => simp [intOf]; omega
      | false =>
        have HS := Lib.hid hsm
        go_wp2_with fail
        refine hK.mono ?_
        rw [hsm]
        rintro e wv ⟨rfl, hb⟩
        replace HB := Lib.hid (HB.out.trans (hb.mono HB.out.size))
        clear hb hK hsm x0
        go_wp2
        go_ret
        exact ⟨(k : Int), rfl, by omega, by rw [show ps.all (fun q => inB q 0 (W * H - 1)) = false from List.all_eq_false.2 ⟨x, List.mem_of_getElem? HX.out, by simp [HS.out]⟩]; simp, HB.out⟩
    · have hkn : k = m := by omega
      subst hkn
      clear hbw
      go_wp2
      go_ret
      exact ⟨-1, rfl, by omega, by have h := HNO.out; rw [List.take_of_length_le (by have := HPL.out; omega)] at h; rw [h]; simp, HB.out⟩

set_option maxRecDepth 100000 in
set_option maxHeartbeats 2000000 in
theorem containsAround_any (g : Nat) (W H : Int) (ac up : Bool) (A2 : Option Addr) (m c2 : Nat) (ps : List Int) (w : World) (hat : ArdAt w g W H ac up) (hp : Rd w A2 m ps) (hg : goodA W H = true) :
    Calls Try.prog 86 #[.slice A2 m c2, .func (.func 87) #[] #[.pointer (some ⟨g, 0, none⟩)]] w fun e w' => e = .returned (.bool (!ps.all (fun q => inB q 0 (W * H - 1)))) ∧ Below w.heap.size w w' := by
  have hI := indexAround_any g W H ac up A2 m c2 ps w hat hp hg
  clear hat hp hg
  go_enter Try.func86, Try.ntmps86
  go_wp2_with fail
  refine hI.mono ?_
  rintro e wv ⟨r, rfl, hr1, hr3, hb⟩
  have HR := Lib.hid hr3
  clear hI hr3
  go_wp2
  go_ret
  exact ⟨ret_bool (by rw [← HR.out]), hb⟩

set_option maxRecDepth 100000 in
set_option maxHeartbeats 1000000 in
theorem isAroundWith_any (W H : Int) (ac up : Bool) (A2 : Option Addr) (m c2 : Nat) (ps : List Int) (w : World) (hp : Rd w A2 m ps) :
    Calls Try.prog 55 #[ard W H ac up, .slice A2 m c2] w fun e w' => e = .returned (.bool (aroundB W H ps)) ∧ Below w.heap.size w w' := by
  obtain ⟨W2, hW2⟩ : ∃ W2, W2 = w.alloc (.cells #[.int .i64 W, .int .i64 H, .bool ac, .bool up] 25) := ⟨_, rfl⟩
  have hsz : W2.heap.size = w.heap.size + 1 := by rw [hW2]; simp
  have a0 : W2.cell? ⟨w.heap.size, 0, none⟩ = some (.int .i64 W) := by rw [hW2]; go_simp
  have a1 : W2.cell? ⟨w.heap.size, 1, none⟩ = some (.int .i64 H) := by rw [hW2]; go_simp
  have a2 : W2.cell? ⟨w.heap.size, 2, none⟩ = some (.bool ac) := by rw [hW2]; go_simp
  have a3 : W2.cell? ⟨w.heap.size, 3, none⟩ = some (.bool up) := by rw [hW2]; go_simp
  have al : w.heap.size < W2.heap.size := by omega
  have B := Lib.hid (show Below w.heap.size w W2 by rw [hW2]; repeat (first | exact Below.refl _ _ | refine below_new ?_ _))
  have RP := Lib.hid (hp.keep B.out)
  clear hp
  cases hg : goodA W H
  · go_enter Try.func55, Try.ntmps55
    go_wp2_with fail
    rw [← hW2]
    clear hW2
    refine (impl_IsAround _ _ _ _ _).mono ?_
    rw [hg]
    rintro e wv ⟨rfl, hb⟩
    replace a0 := cell_keep a0 al hb
    replace a1 := cell_keep a1 al hb
    replace a2 := cell_keep a2 al hb
    replace a3 := cell_keep a3 al hb
    replace al := lt_keep al hb
    replace B := Lib.hid (below_next B.out hb)
    clear hb
    clear a0 a1 a2 a3 al
    go_wp2
    go_ret
    exact ⟨ret_bool (by rw [aroundB, hg]; rfl), B.out⟩
  · have HG := Lib.hid hg
    clear hg
    go_enter Try.func55, Try.ntmps55
    go_wp2_with fail
    rw [← hW2]
    clear hW2
    refine (impl_IsAround _ _ _ _ _).mono ?_
    rw [HG.out]
    rintro e wv ⟨rfl, hb⟩
    replace a0 := cell_keep a0 al hb
    replace a1 := cell_keep a1 al hb
    replace a2 := cell_keep a2 al hb
    replace a3 := cell_keep a3 al hb
    replace al := lt_keep al hb
    replace RP := Lib.hid (RP.out.keep hb)
    replace B := Lib.hid (below_next B.out hb)
    clear hb
    have HC := Lib.hid (containsAround_any w.heap.size W H ac up A2 m c2 ps wv ⟨a0, a1, a2, a3, al⟩ RP.out HG.out)
    go_wp2_with fail
    refine HC.out.mono ?_
    rintro e w9 ⟨rfl, hb⟩
    replace B := Lib.hid (below_next B.out hb)
    clear hb HC
    clear a0 a1 a2 a3 al
    go_wp2
    go_ret
    exact ⟨ret_bool (by rw [aroundB, HG.out]; simp), B.out⟩

set_option maxRecDepth 100000 in
set_option maxHeartbeats 1000000 in
theorem isLeaperAround_any (W H : Int) (ac up : Bool) (a b : Int) (A2 : Option Addr) (m c2 : Nat) (ps : List Int) (w : World) (hp : Rd w A2 m ps) :
    Calls Try.prog 62 #[ard W H ac up, lpr a b, .slice A2 m c2] w fun e w' => e = .returned (.bool (leaperB a b && aroundB W H ps)) ∧ Below w.heap.size w w' := by
  obtain ⟨W2, hW2⟩ : ∃ W2, W2 = (w.alloc (.cells #[.int .i64 W, .int .i64 H, .bool ac, .bool up] 25)).alloc (.cells #[.int .i64 a, .int .i64 b] 36) := ⟨_, rfl⟩
  have hsz : W2.heap.size = w.heap.size + 2 := by rw [hW2]; simp
  have a0 : W2.cell? ⟨w.heap.size, 0, none⟩ = some (.int .i64 W) := by rw [hW2]; go_simp
  have a1 : W2.cell? ⟨w.heap.size, 1, none⟩ = some (.int .i64 H) := by rw [hW2]; go_simp
  have a2 : W2.cell? ⟨w.heap.size, 2, none⟩ = some (.bool ac) := by rw [hW2]; go_simp
  have a3 : W2.cell? ⟨w.heap.size, 3, none⟩ = some (.bool up) := by rw [hW2]; go_simp
  have al : w.heap.size < W2.heap.size := by omega
  have l0 : W2.cell? ⟨w.heap.size + 1, 0, none⟩ = some (.int .i64 a) := by rw [hW2]; go_simp
  have l1 : W2.cell? ⟨w.heap.size + 1, 1, none⟩ = some (.int .i64 b) := by rw [hW2]; go_simp
  have ll : w.heap.size + 1 < W2.heap.size := by omega
  have B := Lib.hid (show Below w.heap.size w W2 by rw [hW2]; repeat (first | exact Below.refl _ _ | refine below_new ?_ _))
  have RP := Lib.hid (hp.keep B.out)
  clear hp
  cases hl : leaperB a b
  · go_enter Try.func62, Try.ntmps62
    go_wp2_with fail
    rw [← hW2]
    clear hW2
    refine (isLeaper_any _ _ _).mono ?_
    rw [hl]
    rintro e wv ⟨rfl, hb⟩
    replace a0 := cell_keep a0 al hb
    replace a1 := cell_keep a1 al hb
    replace a2 := cell_keep a2 al hb
    replace a3 := cell_keep a3 al hb
    replace al := lt_keep al hb
    replace l0 := cell_keep l0 ll hb
    replace l1 := cell_keep l1 ll hb
    replace ll := lt_keep ll hb
    replace B := Lib.hid (below_next B.out hb)
    clear hb
    clear a0 a1 a2 a3 l0 l1 al ll
    go_wp2
    go_ret
    exact ⟨ret_bool rfl, B.out⟩
  · go_enter Try.func62, Try.ntmps62
    go_wp2_with fail
    rw [← hW2]
    clear hW2
    refine (isLeaper_any _ _ _).mono ?_
    rw [hl]
    rintro e wv ⟨rfl, hb⟩
    replace a0 := cell_keep a0 al hb
    replace a1 := cell_keep a1 al hb
    replace a2 := cell_keep a2 al hb
    replace a3 := cell_keep a3 al hb
    replace al := lt_keep al hb
    replace l0 := cell_keep l0 ll hb
    replace l1 := cell_keep l1 ll hb
    replace ll := lt_keep ll hb
    replace RP := Lib.hid (RP.out.keep hb)
    replace B := Lib.hid (below_next B.out hb)
    clear hb
    go_wp2_with fail
    refine (isAroundWith_any W H ac up A2 m c2 ps _ RP.out).mono ?_
    rintro e w9 ⟨rfl, hb⟩
    replace B := Lib.hid (below_next B.out hb)
    clear hb
    clear a0 a1 a2 a3 l0 l1 al ll
    go_wp2
    go_ret
    exact ⟨ret_bool (by simp), B.out⟩

end Go.Proofs.Ytaliknhfcdmohaa
