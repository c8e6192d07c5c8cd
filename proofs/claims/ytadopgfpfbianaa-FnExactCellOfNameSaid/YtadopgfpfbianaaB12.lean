/-
  Contracts: names of cells, in the model and in the program.
-/
import Derived.Test.YtadopgfpfbianaaB10
namespace Go.Proofs.Ytadopgfpfbianaa
open Go.RowKit

theorem name_end0 {y : Int} (h1 : 0 ≤ y) (h2 : y ≤ 7) : ({ data := #[97, 98, 99, 100, 101, 102, 103, 104] } : ByteArray).extract 0 1 ++ digS (y + 1) = nameS 0 y := by
  have hy : y = 0 ∨ y = 1 ∨ y = 2 ∨ y = 3 ∨ y = 4 ∨ y = 5 ∨ y = 6 ∨ y = 7 := by omega
  rcases hy with rfl | rfl | rfl | rfl | rfl | rfl | rfl | rfl <;> rfl

set_option maxRecDepth 100000 in
set_option maxHeartbeats 1000000 in
theorem boName_0 (W H : Int) (A : Option Addr) (n c : Nat) (q : Int) (w : World) (hW : 1 ≤ W ∧ W ≤ 8) (hq : 0 ≤ q ∧ q ≤ 64) (hy : 0 ≤ q / W ∧ q / W ≤ 7) (hx : q % W = 0) :
    Calls Try.prog 101 #[brd W H A n c, .int .i64 q] w fun e w' => e = .returned (.string (nameS 0 (q / W))) ∧ Below w.heap.size w w' := by
  obtain ⟨hW1, hW2⟩ := hW
  obtain ⟨hq1, hq2⟩ := hq
  obtain ⟨hy1, hy2⟩ := hy
  go_enter Try.func101, Try.ntmps101
  go_wp2_with fail
  have hb := Below.refl (w.alloc (.cells #[.int .i64 W, .int .i64 H, .slice A n c] 24)).heap.size (w.alloc (.cells #[.int .i64 W, .int .i64 H, .slice A n c] 24))
  have a0 := newbox hb 0; have al := newbox_lt hb
  simp only [List.getElem?_toArray, List.getElem?_cons_zero] at a0
  have B := Lib.hid (below_box hb)
  clear hb
  generalize w.alloc (.cells #[.int .i64 W, .int .i64 H, .slice A n c] 24) = w1 at *
  have g1 : 1 ≤ q / W + 1 := by omega
  have g2 : q / W + 1 ≤ 8 := by omega
  have g3 : (W == 0) = false := by simp; omega
  have e1 : IntKind.i64.wrap (q / W + 1) = q / W + 1 := IntWalk.i64_in _ (by omega)
  have e2 : q.tdiv W = q / W := Int.tdiv_eq_ediv_of_nonneg hq1
  have e3 : IntKind.i64.wrap (q / W) = q / W := IntWalk.i64_in _ (by omega)
  have e4 : IntKind.i64.wrap 1 = 1 := by decide
  have e5 : ¬ W = 0 := by omega
  have e6 : (digS (q / W + 1)).size = 1 := rfl
  go_region_held3 (fun w' => w'.cell? ⟨w.heap.size, 0, none⟩ = some (.int .i64 W)) (first | exact a0)
    (first | (go_at_call 133; refine (l1Num_any _ _ ?_ ?_).mono ?_; (exact g1); (exact g2); rintro e wv ⟨rfl, hb⟩; (try replace hb := below_undrew hb); replace a0 := cell_keep a0 al hb; replace al := lt_keep al hb; replace B := Lib.hid (below_next B.out hb); clear hb))
  go_wp2
  go_ret
  exact ⟨congrArg (fun s => Ending.returned (.string s)) (name_end0 hy1 hy2), B.out⟩

theorem name_end1 {y : Int} (h1 : 0 ≤ y) (h2 : y ≤ 7) : ({ data := #[97, 98, 99, 100, 101, 102, 103, 104] } : ByteArray).extract 1 2 ++ digS (y + 1) = nameS 1 y := by
  have hy : y = 0 ∨ y = 1 ∨ y = 2 ∨ y = 3 ∨ y = 4 ∨ y = 5 ∨ y = 6 ∨ y = 7 := by omega
  rcases hy with rfl | rfl | rfl | rfl | rfl | rfl | rfl | rfl <;> rfl

set_option maxRecDepth 100000 in
set_option maxHeartbeats 1000000 in
theorem boName_1 (W H : Int) (A : Option Addr) (n c : Nat) (q : Int) (w : World) (hW : 1 ≤ W ∧ W ≤ 8) (hq : 0 ≤ q ∧ q ≤ 64) (hy : 0 ≤ q / W ∧ q / W ≤ 7) (hx : q % W = 1) :
    Calls Try.prog 101 #[brd W H A n c, .int .i64 q] w fun e w' => e = .returned (.string (nameS 1 (q / W))) ∧ Below w.heap.size w w' := by
  obtain ⟨hW1, hW2⟩ := hW
  obtain ⟨hq1, hq2⟩ := hq
  obtain ⟨hy1, hy2⟩ := hy
  go_enter Try.func101, Try.ntmps101
  go_wp2_with fail
  have hb := Below.refl (w.alloc (.cells #[.int .i64 W, .int .i64 H, .slice A n c] 24)).heap.size (w.alloc (.cells #[.int .i64 W, .int .i64 H, .slice A n c] 24))
  have a0 := newbox hb 0; have al := newbox_lt hb
  simp only [List.getElem?_toArray, List.getElem?_cons_zero] at a0
  have B := Lib.hid (below_box hb)
  clear hb
  generalize w.alloc (.cells #[.int .i64 W, .int .i64 H, .slice A n c] 24) = w1 at *
  have g1 : 1 ≤ q / W + 1 := by omega
  have g2 : q / W + 1 ≤ 8 := by omega
  have g3 : (W == 0) = false := by simp; omega
  have e1 : IntKind.i64.wrap (q / W + 1) = q / W + 1 := IntWalk.i64_in _ (by omega)
  have e2 : q.tdiv W = q / W := Int.tdiv_eq_ediv_of_nonneg hq1
  have e3 : IntKind.i64.wrap (q / W) = q / W := IntWalk.i64_in _ (by omega)
  have e4 : IntKind.i64.wrap 2 = 2 := by decide
  have e5 : ¬ W = 0 := by omega
  have e6 : (digS (q / W + 1)).size = 1 := rfl
  go_region_held3 (fun w' => w'.cell? ⟨w.heap.size, 0, none⟩ = some (.int .i64 W)) (first | exact a0)
    (first | (go_at_call 133; refine (l1Num_any _ _ ?_ ?_).mono ?_; (exact g1); (exact g2); rintro e wv ⟨rfl, hb⟩; (try replace hb := below_undrew hb); replace a0 := cell_keep a0 al hb; replace al := lt_keep al hb; replace B := Lib.hid (below_next B.out hb); clear hb))
  go_wp2
  go_ret
  exact ⟨congrArg (fun s => Ending.returned (.string s)) (name_end1 hy1 hy2), B.out⟩

theorem name_end2 {y : Int} (h1 : 0 ≤ y) (h2 : y ≤ 7) : ({ data := #[97, 98, 99, 100, 101, 102, 103, 104] } : ByteArray).extract 2 3 ++ digS (y + 1) = nameS 2 y := by
  have hy : y = 0 ∨ y = 1 ∨ y = 2 ∨ y = 3 ∨ y = 4 ∨ y = 5 ∨ y = 6 ∨ y = 7 := by omega
  rcases hy with rfl | rfl | rfl | rfl | rfl | rfl | rfl | rfl <;> rfl

set_option maxRecDepth 100000 in
set_option maxHeartbeats 1000000 in
theorem boName_2 (W H : Int) (A : Option Addr) (n c : Nat) (q : Int) (w : World) (hW : 1 ≤ W ∧ W ≤ 8) (hq : 0 ≤ q ∧ q ≤ 64) (hy : 0 ≤ q / W ∧ q / W ≤ 7) (hx : q % W = 2) :
    Calls Try.prog 101 #[brd W H A n c, .int .i64 q] w fun e w' => e = .returned (.string (nameS 2 (q / W))) ∧ Below w.heap.size w w' := by
  obtain ⟨hW1, hW2⟩ := hW
  obtain ⟨hq1, hq2⟩ := hq
  obtain ⟨hy1, hy2⟩ := hy
  go_enter Try.func101, Try.ntmps101
  go_wp2_with fail
  have hb := Below.refl (w.alloc (.cells #[.int .i64 W, .int .i64 H, .slice A n c] 24)).heap.size (w.alloc (.cells #[.int .i64 W, .int .i64 H, .slice A n c] 24))
  have a0 := newbox hb 0; have al := newbox_lt hb
  simp only [List.getElem?_toArray, List.getElem?_cons_zero] at a0
  have B := Lib.hid (below_box hb)
  clear hb
  generalize w.alloc (.cells #[.int .i64 W, .int .i64 H, .slice A n c] 24) = w1 at *
  have g1 : 1 ≤ q / W + 1 := by omega
  have g2 : q / W + 1 ≤ 8 := by omega
  have g3 : (W == 0) = false := by simp; omega
  have e1 : IntKind.i64.wrap (q / W + 1) = q / W + 1 := IntWalk.i64_in _ (by omega)
  have e2 : q.tdiv W = q / W := Int.tdiv_eq_ediv_of_nonneg hq1
  have e3 : IntKind.i64.wrap (q / W) = q / W := IntWalk.i64_in _ (by omega)
  have e4 : IntKind.i64.wrap 3 = 3 := by decide
  have e5 : ¬ W = 0 := by omega
  have e6 : (digS (q / W + 1)).size = 1 := rfl
  go_region_held3 (fun w' => w'.cell? ⟨w.heap.size, 0, none⟩ = some (.int .i64 W)) (first | exact a0)
    (first | (go_at_call 133; refine (l1Num_any _ _ ?_ ?_).mono ?_; (exact g1); (exact g2); rintro e wv ⟨rfl, hb⟩; (try replace hb := below_undrew hb); replace a0 := cell_keep a0 al hb; replace al := lt_keep al hb; replace B := Lib.hid (below_next B.out hb); clear hb))
  go_wp2
  go_ret
  exact ⟨congrArg (fun s => Ending.returned (.string s)) (name_end2 hy1 hy2), B.out⟩

theorem name_end3 {y : Int} (h1 : 0 ≤ y) (h2 : y ≤ 7) : ({ data := #[97, 98, 99, 100, 101, 102, 103, 104] } : ByteArray).extract 3 4 ++ digS (y + 1) = nameS 3 y := by
  have hy : y = 0 ∨ y = 1 ∨ y = 2 ∨ y = 3 ∨ y = 4 ∨ y = 5 ∨ y = 6 ∨ y = 7 := by omega
  rcases hy with rfl | rfl | rfl | rfl | rfl | rfl | rfl | rfl <;> rfl

set_option maxRecDepth 100000 in
set_option maxHeartbeats 1000000 in
theorem boName_3 (W H : Int) (A : Option Addr) (n c : Nat) (q : Int) (w : World) (hW : 1 ≤ W ∧ W ≤ 8) (hq : 0 ≤ q ∧ q ≤ 64) (hy : 0 ≤ q / W ∧ q / W ≤ 7) (hx : q % W = 3) :
    Calls Try.prog 101 #[brd W H A n c, .int .i64 q] w fun e w' => e = .returned (.string (nameS 3 (q / W))) ∧ Below w.heap.size w w' := by
  obtain ⟨hW1, hW2⟩ := hW
  obtain ⟨hq1, hq2⟩ := hq
  obtain ⟨hy1, hy2⟩ := hy
  go_enter Try.func101, Try.ntmps101
  go_wp2_with fail
  have hb := Below.refl (w.alloc (.cells #[.int .i64 W, .int .i64 H, .slice A n c] 24)).heap.size (w.alloc (.cells #[.int .i64 W, .int .i64 H, .slice A n c] 24))
  have a0 := newbox hb 0; have al := newbox_lt hb
  simp only [List.getElem?_toArray, List.getElem?_cons_zero] at a0
  have B := Lib.hid (below_box hb)
  clear hb
  generalize w.alloc (.cells #[.int .i64 W, .int .i64 H, .slice A n c] 24) = w1 at *
  have g1 : 1 ≤ q / W + 1 := by omega
  have g2 : q / W + 1 ≤ 8 := by omega
  have g3 : (W == 0) = false := by simp; omega
  have e1 : IntKind.i64.wrap (q / W + 1) = q / W + 1 := IntWalk.i64_in _ (by omega)
  have e2 : q.tdiv W = q / W := Int.tdiv_eq_ediv_of_nonneg hq1
  have e3 : IntKind.i64.wrap (q / W) = q / W := IntWalk.i64_in _ (by omega)
  have e4 : IntKind.i64.wrap 4 = 4 := by decide
  have e5 : ¬ W = 0 := by omega
  have e6 : (digS (q / W + 1)).size = 1 := rfl
  go_region_held3 (fun w' => w'.cell? ⟨w.heap.size, 0, none⟩ = some (.int .i64 W)) (first | exact a0)
    (first | (go_at_call 133; refine (l1Num_any _ _ ?_ ?_).mono ?_; (exact g1); (exact g2); rintro e wv ⟨rfl, hb⟩; (try replace hb := below_undrew hb); replace a0 := cell_keep a0 al hb; replace al := lt_keep al hb; replace B := Lib.hid (below_next B.out hb); clear hb))
  go_wp2
  go_ret
  exact ⟨congrArg (fun s => Ending.returned (.string s)) (name_end3 hy1 hy2), B.out⟩

theorem name_end4 {y : Int} (h1 : 0 ≤ y) (h2 : y ≤ 7) : ({ data := #[97, 98, 99, 100, 101, 102, 103, 104] } : ByteArray).extract 4 5 ++ digS (y + 1) = nameS 4 y := by
  have hy : y = 0 ∨ y = 1 ∨ y = 2 ∨ y = 3 ∨ y = 4 ∨ y = 5 ∨ y = 6 ∨ y = 7 := by omega
  rcases hy with rfl | rfl | rfl | rfl | rfl | rfl | rfl | rfl <;> rfl

set_option maxRecDepth 100000 in
set_option maxHeartbeats 1000000 in
theorem boName_4 (W H : Int) (A : Option Addr) (n c : Nat) (q : Int) (w : World) (hW : 1 ≤ W ∧ W ≤ 8) (hq : 0 ≤ q ∧ q ≤ 64) (hy : 0 ≤ q / W ∧ q / W ≤ 7) (hx : q % W = 4) :
    Calls Try.prog 101 #[brd W H A n c, .int .i64 q] w fun e w' => e = .returned (.string (nameS 4 (q / W))) ∧ Below w.heap.size w w' := by
  obtain ⟨hW1, hW2⟩ := hW
  obtain ⟨hq1, hq2⟩ := hq
  obtain ⟨hy1, hy2⟩ := hy
  go_enter Try.func101, Try.ntmps101
  go_wp2_with fail
  have hb := Below.refl (w.alloc (.cells #[.int .i64 W, .int .i64 H, .slice A n c] 24)).heap.size (w.alloc (.cells #[.int .i64 W, .int .i64 H, .slice A n c] 24))
  have a0 := newbox hb 0; have al := newbox_lt hb
  simp only [List.getElem?_toArray, List.getElem?_cons_zero] at a0
  have B := Lib.hid (below_box hb)
  clear hb
  generalize w.alloc (.cells #[.int .i64 W, .int .i64 H, .slice A n c] 24) = w1 at *
  have g1 : 1 ≤ q / W + 1 := by omega
  have g2 : q / W + 1 ≤ 8 := by omega
  have g3 : (W == 0) = false := by simp; omega
  have e1 : IntKind.i64.wrap (q / W + 1) = q / W + 1 := IntWalk.i64_in _ (by omega)
  have e2 : q.tdiv W = q / W := Int.tdiv_eq_ediv_of_nonneg hq1
  have e3 : IntKind.i64.wrap (q / W) = q / W := IntWalk.i64_in _ (by omega)
  have e4 : IntKind.i64.wrap 5 = 5 := by decide
  have e5 : ¬ W = 0 := by omega
  have e6 : (digS (q / W + 1)).size = 1 := rfl
  go_region_held3 (fun w' => w'.cell? ⟨w.heap.size, 0, none⟩ = some (.int .i64 W)) (first | exact a0)
    (first | (go_at_call 133; refine (l1Num_any _ _ ?_ ?_).mono ?_; (exact g1); (exact g2); rintro e wv ⟨rfl, hb⟩; (try replace hb := below_undrew hb); replace a0 := cell_keep a0 al hb; replace al := lt_keep al hb; replace B := Lib.hid (below_next B.out hb); clear hb))
  go_wp2
  go_ret
  exact ⟨congrArg (fun s => Ending.returned (.string s)) (name_end4 hy1 hy2), B.out⟩

theorem name_end5 {y : Int} (h1 : 0 ≤ y) (h2 : y ≤ 7) : ({ data := #[97, 98, 99, 100, 101, 102, 103, 104] } : ByteArray).extract 5 6 ++ digS (y + 1) = nameS 5 y := by
  have hy : y = 0 ∨ y = 1 ∨ y = 2 ∨ y = 3 ∨ y = 4 ∨ y = 5 ∨ y = 6 ∨ y = 7 := by omega
  rcases hy with rfl | rfl | rfl | rfl | rfl | rfl | rfl | rfl <;> rfl

set_option maxRecDepth 100000 in
set_option maxHeartbeats 1000000 in
theorem boName_5 (W H : Int) (A : Option Addr) (n c : Nat) (q : Int) (w : World) (hW : 1 ≤ W ∧ W ≤ 8) (hq : 0 ≤ q ∧ q ≤ 64) (hy : 0 ≤ q / W ∧ q / W ≤ 7) (hx : q % W = 5) :
    Calls Try.prog 101 #[brd W H A n c, .int .i64 q] w fun e w' => e = .returned (.string (nameS 5 (q / W))) ∧ Below w.heap.size w w' := by
  obtain ⟨hW1, hW2⟩ := hW
  obtain ⟨hq1, hq2⟩ := hq
  obtain ⟨hy1, hy2⟩ := hy
  go_enter Try.func101, Try.ntmps101
  go_wp2_with fail
  have hb := Below.refl (w.alloc (.cells #[.int .i64 W, .int .i64 H, .slice A n c] 24)).heap.size (w.alloc (.cells #[.int .i64 W, .int .i64 H, .slice A n c] 24))
  have a0 := newbox hb 0; have al := newbox_lt hb
  simp only [List.getElem?_toArray, List.getElem?_cons_zero] at a0
  have B := Lib.hid (below_box hb)
  clear hb
  generalize w.alloc (.cells #[.int .i64 W, .int .i64 H, .slice A n c] 24) = w1 at *
  have g1 : 1 ≤ q / W + 1 := by omega
  have g2 : q / W + 1 ≤ 8 := by omega
  have g3 : (W == 0) = false := by simp; omega
  have e1 : IntKind.i64.wrap (q / W + 1) = q / W + 1 := IntWalk.i64_in _ (by omega)
  have e2 : q.tdiv W = q / W := Int.tdiv_eq_ediv_of_nonneg hq1
  have e3 : IntKind.i64.wrap (q / W) = q / W := IntWalk.i64_in _ (by omega)
  have e4 : IntKind.i64.wrap 6 = 6 := by decide
  have e5 : ¬ W = 0 := by omega
  have e6 : (digS (q / W + 1)).size = 1 := rfl
  go_region_held3 (fun w' => w'.cell? ⟨w.heap.size, 0, none⟩ = some (.int .i64 W)) (first | exact a0)
    (first | (go_at_call 133; refine (l1Num_any _ _ ?_ ?_).mono ?_; (exact g1); (exact g2); rintro e wv ⟨rfl, hb⟩; (try replace hb := below_undrew hb); replace a0 := cell_keep a0 al hb; replace al := lt_keep al hb; replace B := Lib.hid (below_next B.out hb); clear hb))
  go_wp2
  go_ret
  exact ⟨congrArg (fun s => Ending.returned (.string s)) (name_end5 hy1 hy2), B.out⟩

theorem name_end6 {y : Int} (h1 : 0 ≤ y) (h2 : y ≤ 7) : ({ data := #[97, 98, 99, 100, 101, 102, 103, 104] } : ByteArray).extract 6 7 ++ digS (y + 1) = nameS 6 y := by
  have hy : y = 0 ∨ y = 1 ∨ y = 2 ∨ y = 3 ∨ y = 4 ∨ y = 5 ∨ y = 6 ∨ y = 7 := by omega
  rcases hy with rfl | rfl | rfl | rfl | rfl | rfl | rfl | rfl <;> rfl

set_option maxRecDepth 100000 in
set_option maxHeartbeats 1000000 in
theorem boName_6 (W H : Int) (A : Option Addr) (n c : Nat) (q : Int) (w : World) (hW : 1 ≤ W ∧ W ≤ 8) (hq : 0 ≤ q ∧ q ≤ 64) (hy : 0 ≤ q / W ∧ q / W ≤ 7) (hx : q % W = 6) :
    Calls Try.prog 101 #[brd W H A n c, .int .i64 q] w fun e w' => e = .returned (.string (nameS 6 (q / W))) ∧ Below w.heap.size w w' := by
  obtain ⟨hW1, hW2⟩ := hW
  obtain ⟨hq1, hq2⟩ := hq
  obtain ⟨hy1, hy2⟩ := hy
  go_enter Try.func101, Try.ntmps101
  go_wp2_with fail
  have hb := Below.refl (w.alloc (.cells #[.int .i64 W, .int .i64 H, .slice A n c] 24)).heap.size (w.alloc (.cells #[.int .i64 W, .int .i64 H, .slice A n c] 24))
  have a0 := newbox hb 0; have al := newbox_lt hb
  simp only [List.getElem?_toArray, List.getElem?_cons_zero] at a0
  have B := Lib.hid (below_box hb)
  clear hb
  generalize w.alloc (.cells #[.int .i64 W, .int .i64 H, .slice A n c] 24) = w1 at *
  have g1 : 1 ≤ q / W + 1 := by omega
  have g2 : q / W + 1 ≤ 8 := by omega
  have g3 : (W == 0) = false := by simp; omega
  have e1 : IntKind.i64.wrap (q / W + 1) = q / W + 1 := IntWalk.i64_in _ (by omega)
  have e2 : q.tdiv W = q / W := Int.tdiv_eq_ediv_of_nonneg hq1
  have e3 : IntKind.i64.wrap (q / W) = q / W := IntWalk.i64_in _ (by omega)
  have e4 : IntKind.i64.wrap 7 = 7 := by decide
  have e5 : ¬ W = 0 := by omega
  have e6 : (digS (q / W + 1)).size = 1 := rfl
  go_region_held3 (fun w' => w'.cell? ⟨w.heap.size, 0, none⟩ = some (.int .i64 W)) (first | exact a0)
    (first | (go_at_call 133; refine (l1Num_any _ _ ?_ ?_).mono ?_; (exact g1); (exact g2); rintro e wv ⟨rfl, hb⟩; (try replace hb := below_undrew hb); replace a0 := cell_keep a0 al hb; replace al := lt_keep al hb; replace B := Lib.hid (below_next B.out hb); clear hb))
  go_wp2
  go_ret
  exact ⟨congrArg (fun s => Ending.returned (.string s)) (name_end6 hy1 hy2), B.out⟩

theorem name_end7 {y : Int} (h1 : 0 ≤ y) (h2 : y ≤ 7) : ({ data := #[97, 98, 99, 100, 101, 102, 103, 104] } : ByteArray).extract 7 8 ++ digS (y + 1) = nameS 7 y := by
  have hy : y = 0 ∨ y = 1 ∨ y = 2 ∨ y = 3 ∨ y = 4 ∨ y = 5 ∨ y = 6 ∨ y = 7 := by omega
  rcases hy with rfl | rfl | rfl | rfl | rfl | rfl | rfl | rfl <;> rfl

set_option maxRecDepth 100000 in
set_option maxHeartbeats 1000000 in
theorem boName_7 (W H : Int) (A : Option Addr) (n c : Nat) (q : Int) (w : World) (hW : 1 ≤ W ∧ W ≤ 8) (hq : 0 ≤ q ∧ q ≤ 64) (hy : 0 ≤ q / W ∧ q / W ≤ 7) (hx : q % W = 7) :
    Calls Try.prog 101 #[brd W H A n c, .int .i64 q] w fun e w' => e = .returned (.string (nameS 7 (q / W))) ∧ Below w.heap.size w w' := by
  obtain ⟨hW1, hW2⟩ := hW
  obtain ⟨hq1, hq2⟩ := hq
  obtain ⟨hy1, hy2⟩ := hy
  go_enter Try.func101, Try.ntmps101
  go_wp2_with fail
  have hb := Below.refl (w.alloc (.cells #[.int .i64 W, .int .i64 H, .slice A n c] 24)).heap.size (w.alloc (.cells #[.int .i64 W, .int .i64 H, .slice A n c] 24))
  have a0 := newbox hb 0; have al := newbox_lt hb
  simp only [List.getElem?_toArray, List.getElem?_cons_zero] at a0
  have B := Lib.hid (below_box hb)
  clear hb
  generalize w.alloc (.cells #[.int .i64 W, .int .i64 H, .slice A n c] 24) = w1 at *
  have g1 : 1 ≤ q / W + 1 := by omega
  have g2 : q / W + 1 ≤ 8 := by omega
  have g3 : (W == 0) = false := by simp; omega
  have e1 : IntKind.i64.wrap (q / W + 1) = q / W + 1 := IntWalk.i64_in _ (by omega)
  have e2 : q.tdiv W = q / W := Int.tdiv_eq_ediv_of_nonneg hq1
  have e3 : IntKind.i64.wrap (q / W) = q / W := IntWalk.i64_in _ (by omega)
  have e4 : IntKind.i64.wrap 8 = 8 := by decide
  have e5 : ¬ W = 0 := by omega
  have e6 : (digS (q / W + 1)).size = 1 := rfl
  go_region_held3 (fun w' => w'.cell? ⟨w.heap.size, 0, none⟩ = some (.int .i64 W)) (first | exact a0)
    (first | (go_at_call 133; refine (l1Num_any _ _ ?_ ?_).mono ?_; (exact g1); (exact g2); rintro e wv ⟨rfl, hb⟩; (try replace hb := below_undrew hb); replace a0 := cell_keep a0 al hb; replace al := lt_keep al hb; replace B := Lib.hid (below_next B.out hb); clear hb))
  go_wp2
  go_ret
  exact ⟨congrArg (fun s => Ending.returned (.string s)) (name_end7 hy1 hy2), B.out⟩

theorem boName_any (W H : Int) (A : Option Addr) (n c : Nat) (q : Int) (w : World) (hW : 1 ≤ W ∧ W ≤ 8) (hq : 0 ≤ q ∧ q ≤ 64) (hy : 0 ≤ q / W ∧ q / W ≤ 7) (hx : 0 ≤ q % W ∧ q % W ≤ 7) :
    Calls Try.prog 101 #[brd W H A n c, .int .i64 q] w fun e w' => e = .returned (.string (nameS (q % W) (q / W))) ∧ Below w.heap.size w w' := by
  have h : q % W = 0 ∨ q % W = 1 ∨ q % W = 2 ∨ q % W = 3 ∨ q % W = 4 ∨ q % W = 5 ∨ q % W = 6 ∨ q % W = 7 := by omega
  rcases h with h | h | h | h | h | h | h | h
  · rw [h]; exact boName_0 W H A n c q w hW hq hy h
  · rw [h]; exact boName_1 W H A n c q w hW hq hy h
  · rw [h]; exact boName_2 W H A n c q w hW hq hy h
  · rw [h]; exact boName_3 W H A n c q w hW hq hy h
  · rw [h]; exact boName_4 W H A n c q w hW hq hy h
  · rw [h]; exact boName_5 W H A n c q w hW hq hy h
  · rw [h]; exact boName_6 W H A n c q w hW hq hy h
  · rw [h]; exact boName_7 W H A n c q w hW hq hy h

end Go.Proofs.Ytadopgfpfbianaa
