/-
  Contracts: ColoursForbid.
-/
import Derived.Test.YtmghjohpmlhdlaaK5
import Derived.Test.YtmghjohpmlhdlaaK7a
namespace Go.Proofs.Ytmghjohpmlhdlaa
open Go.RowKit

def okCol (W H : Int) (xs : List Int) (a b : Int) : Bool := twoV W H xs a b && !((a + b) % 2 == 0)
def col1 (W H : Int) (xs : List Int) (a b : Int) : Bool := okCol W H xs a b && decide (1 < absV ((eN W (cellsL W H xs) : Int) - (oN W (cellsL W H xs) : Int)))
def col2 (W H : Int) (xs : List Int) (a b : Int) : Bool := okCol W H xs a b && decide (eN W (cellsL W H xs) ≠ oN W (cellsL W H xs))
theorem two_lK {W H a b : Int} {xs : List Int} (h : twoV W H xs a b = true) : 0 ≤ a ∧ a ≤ b ∧ 1 ≤ b ∧ b ≤ 5 := by simp only [twoV, Bool.and_eq_true, leaperB, decide_eq_true_eq] at h; exact h.2
set_option maxRecDepth 100000 in
set_option maxHeartbeats 4000000 in
theorem spec_ColoursForbid (W H : Int) (A : Option Addr) (n c : Nat) (xs : List Int) (a b : Int) (w : World) (ha : Rd w A n xs) :
    Calls Try.prog 53 #[brd W H A n c, lpr a b] w fun e w' => e = .returned (.tuple #[.bool (col1 W H xs a b), .bool (col2 W H xs a b), .bool (okCol W H xs a b)]) ∧ Below w.heap.size w w' := by
  by_cases ht : twoV W H xs a b = true
  · go_enter Try.func53, Try.ntmps53
    go_wp2_with fail
    refine (boTwoV_any _ _ _ _ _ _ _ _ _ ((ha.alloc _).alloc _)).mono ?_
    rw [ht]
    rintro e wv ⟨rfl, hb⟩
    have hbx0 := below_box hb
    have a0 : wv.cell? ⟨w.heap.size, 0, none⟩ = some (.int .i64 W) := by simpa using newbox hbx0 0
    have a1 : wv.cell? ⟨w.heap.size, 1, none⟩ = some (.int .i64 H) := by simpa using newbox hbx0 1
    have a2 : wv.cell? ⟨w.heap.size, 2, none⟩ = some (.slice A n c) := by simpa using newbox hbx0 2
    have al : w.heap.size < wv.heap.size := by simpa using newbox_lt hbx0
    have l0 : wv.cell? ⟨w.heap.size + 1, 0, none⟩ = some (.int .i64 a) := by simpa using newbox hb 0
    have l1 : wv.cell? ⟨w.heap.size + 1, 1, none⟩ = some (.int .i64 b) := by simpa using newbox hb 1
    have ll : w.heap.size + 1 < wv.heap.size := by simpa using newbox_lt hb
    have B := Lib.hid (below_box hbx0)
    clear hb hbx0
    have HT := Lib.hid ht
    obtain ⟨hl1, hl2, hl3, hl4⟩ := two_lK ht
    have ho9 : 0 ≤ a + b := by omega
    have ho8 : a + b ≤ 10 := by omega
    clear ht
    by_cases hev : (a + b) % 2 = 0
    · have hpe : ((a + b) % 2 == 0) = true := by simpa using hev
      have HE := Lib.hid hpe
      go_wp2
      go_ret3
      have hk : okCol W H xs a b = false := by rw [okCol, HE.out]; simp
      exact ⟨by rw [col1, col2, hk]; rfl, B.out⟩
    · have hpe : ((a + b) % 2 == 0) = false := by simpa using hev
      have HO := Lib.hid (show okCol W H xs a b = true by rw [okCol, HT.out, hpe]; rfl)
      have HW : Hid (1 ≤ W ∧ W ≤ 8) := Lib.hid (goodB_iff.1 (two_gK HT.out)).1
      have HN := Lib.hid (good_N (two_gK HT.out))
      have HG := Lib.hid (two_gK HT.out)
      go_wp2_with fail
      refine (boCells_any W H A n c xs _ (ha.keep B.out) HN.out).mono ?_
      rintro e wv ⟨A', n', c', rfl, own, hb⟩
      replace a0 := cell_keep a0 al hb
      replace al := lt_keep al hb
      replace B := Lib.hid (below_next B.out hb)
      have HL := Lib.hid own.len
      have RC := Lib.hid own.rd
      have hn8 : n' ≤ 64 := by have := own.len; have := cells_64 HG.out; omega
      clear own hb a1 a2 l0 l1 ll hev hpe ho8 ho9 hl1 hl2 hl3 hl4
      go_wp2
      go_loopw [7, 26] (fun s i wr => ∃ (k : Nat) (M : Int), k ≤ n' ∧ i = .int .i64 k ∧ s = .int .i64 M ∧ M = (eN W ((cellsL W H xs).take k) : Int) - (oN W ((cellsL W H xs).take k) : Int) ∧ Below wv.heap.size wv wr) (fun _ i _ => n' - (intOf i).toNat)
      case atStart => exact ⟨0, 0, Nat.zero_le _, rfl, rfl, by simp [eN, oN], Below.refl _ _⟩
      case round =>
        obtain ⟨k, M, hk, rfl, rfl, hM, hbw⟩ := hrel
        have HM := Lib.hid hM
        have hM1 : -64 ≤ M ∧ M ≤ 64 := by
          have := eo_len W ((cellsL W H xs).take k)
          rw [List.length_take, HL.out] at this; omega
        obtain ⟨hM2, hM3⟩ := hM1
        clear hM
        by_cases hlt : k < n'
        · obtain ⟨bb, oo, x, rfl, hg1, hx, x0⟩ := RC.out.at_ hlt
          have HX := Lib.hid hx
          replace x0 := cell_keep x0 hg1 hbw
          have b0 := cell_keep a0 al hbw
          have HB := Lib.hid hbw
          obtain ⟨hx0, hx1⟩ := cells_rng HG.out x (List.mem_of_getElem? hx)
          obtain ⟨hr1, hr2, hr3, hr4⟩ := row_facts HW.out ⟨hx0, hx1⟩
          obtain ⟨hW1, hW2⟩ := HW.out
          clear hx hbw
          cases hs : evB W x with
          | true =>
            have HS := Lib.hid hs
            have hpv : (x % W + x / W) % 2 = 0 := by simpa [evB] using hs
            clear hs
            go_wp2
            go_quiet (fail)
            go_wp2
            go_roundw
            case rel => exact ⟨k + 1, M + 1, by omega, by go_num, by go_num, by have h := e_step HX.out HS.out; rw [h.1, h.2, HM.out]; omega, below_drewN HB.out _⟩
            case measure => simp [intOf]; omega
          | false =>
            have HS := Lib.hid hs
            have hpv : (x % W + x / W) % 2 = 1 := by have := hs; simp [evB] at this; omega
            clear hs
            go_wp2
            go_quiet (fail)
            go_wp2
            go_roundw
            case rel => exact ⟨k + 1, M - 1, by omega, by go_num, by go_num, by have h := o_step HX.out HS.out; rw [h.1, h.2, HM.out]; omega, below_drewN HB.out _⟩
            case measure => simp [intOf]; omega
        · have HE := Lib.hid (show M = (eN W (cellsL W H xs) : Int) - (oN W (cellsL W H xs) : Int) by have h := HM.out; rw [List.take_of_length_le (by have := HL.out; omega)] at h; exact h)
          have HB := Lib.hid hbw
          clear hbw
          go_wp2_with fail
          refine (l1Abs_any M _ (by omega) (by omega)).mono ?_
          rintro e wz ⟨rfl, rfl⟩
          obtain ⟨z, hz⟩ : ∃ z, z = absV M := ⟨_, rfl⟩
          rw [← hz]
          have HZ := Lib.hid hz
          clear hz
          go_wp2
          go_ret3
          exact ⟨by rw [col1, col2, HO.out, ← HE.out, ← HZ.out]; have hh := HE.out; by_cases h2 : eN W (cellsL W H xs) = oN W (cellsL W H xs) <;> (first | (have h3 : M = 0 := by omega) | (have h3 : M ≠ 0 := by omega)) <;> simp [h2, h3], B.out.trans (HB.out.mono B.out.size)⟩
  · have ht' : twoV W H xs a b = false := by simpa using ht
    go_enter Try.func53, Try.ntmps53
    go_wp2_with fail
    refine (boTwoV_any _ _ _ _ _ _ _ _ _ ((ha.alloc _).alloc _)).mono ?_
    rw [ht']
    rintro e wv ⟨rfl, hb⟩
    have hbx0 := below_box hb
    have a0 : wv.cell? ⟨w.heap.size, 0, none⟩ = some (.int .i64 W) := by simpa using newbox hbx0 0
    have a1 : wv.cell? ⟨w.heap.size, 1, none⟩ = some (.int .i64 H) := by simpa using newbox hbx0 1
    have a2 : wv.cell? ⟨w.heap.size, 2, none⟩ = some (.slice A n c) := by simpa using newbox hbx0 2
    have al : w.heap.size < wv.heap.size := by simpa using newbox_lt hbx0
    have l0 : wv.cell? ⟨w.heap.size + 1, 0, none⟩ = some (.int .i64 a) := by simpa using newbox hb 0
    have l1 : wv.cell? ⟨w.heap.size + 1, 1, none⟩ = some (.int .i64 b) := by simpa using newbox hb 1
    have ll : w.heap.size + 1 < wv.heap.size := by simpa using newbox_lt hb
    have B := Lib.hid (below_box hbx0)
    clear hb hbx0
    go_wp2
    go_ret3
    exact ⟨by rw [show okCol W H xs a b = false by rw [okCol, ht']; rfl, col1, col2, show okCol W H xs a b = false by rw [okCol, ht']; rfl]; rfl, B.out⟩

set_option maxRecDepth 100000 in
set_option maxHeartbeats 4000000 in
theorem impl_ColoursForbid (W H : Int) (A : Option Addr) (n c : Nat) (xs : List Int) (a b : Int) (w : World) (ha : Rd w A n xs) :
    Calls Try.prog 54 #[brd W H A n c, lpr a b] w fun e w' => e = .returned (.tuple #[.bool (col1 W H xs a b), .bool (col2 W H xs a b), .bool (okCol W H xs a b)]) ∧ Below w.heap.size w w' := by
  by_cases ht : twoV W H xs a b = true
  · go_enter Try.func54, Try.ntmps54
    go_wp2_with fail
    refine (isOn0_any _ _ _ _ _ _ _ _ _ ((ha.alloc _).alloc _)).mono ?_
    rw [ht]
    rintro e wv ⟨rfl, hb⟩
    have hbx0 := below_box hb
    have a0 : wv.cell? ⟨w.heap.size, 0, none⟩ = some (.int .i64 W) := by simpa using newbox hbx0 0
    have a1 : wv.cell? ⟨w.heap.size, 1, none⟩ = some (.int .i64 H) := by simpa using newbox hbx0 1
    have a2 : wv.cell? ⟨w.heap.size, 2, none⟩ = some (.slice A n c) := by simpa using newbox hbx0 2
    have al : w.heap.size < wv.heap.size := by simpa using newbox_lt hbx0
    have l0 : wv.cell? ⟨w.heap.size + 1, 0, none⟩ = some (.int .i64 a) := by simpa using newbox hb 0
    have l1 : wv.cell? ⟨w.heap.size + 1, 1, none⟩ = some (.int .i64 b) := by simpa using newbox hb 1
    have ll : w.heap.size + 1 < wv.heap.size := by simpa using newbox_lt hb
    have B := Lib.hid (below_box hbx0)
    clear hb hbx0
    have HT := Lib.hid ht
    obtain ⟨hl1, hl2, hl3, hl4⟩ := two_lK ht
    have ho9 : 0 ≤ a + b := by omega
    have ho8 : a + b ≤ 10 := by omega
    clear ht
    by_cases hev : (a + b) % 2 = 0
    · have hpe : ((a + b) % 2 == 0) = true := by simpa using hev
      have HE := Lib.hid hpe
      go_wp2
      go_ret3
      have hk : okCol W H xs a b = false := by rw [okCol, HE.out]; simp
      exact ⟨by rw [col1, col2, hk]; rfl, B.out⟩
    · have hpe : ((a + b) % 2 == 0) = false := by simpa using hev
      have HO := Lib.hid (show okCol W H xs a b = true by rw [okCol, HT.out, hpe]; rfl)
      have HW : Hid (1 ≤ W ∧ W ≤ 8) := Lib.hid (goodB_iff.1 (two_gK HT.out)).1
      have HN := Lib.hid (good_N (two_gK HT.out))
      have HG := Lib.hid (two_gK HT.out)
      go_wp2_with fail
      refine (balanceOf_any W H A n c xs _ (ha.keep B.out) HG.out).mono ?_
      rintro e wv ⟨rfl, hb⟩
      replace B := Lib.hid (below_next B.out hb)
      clear hb a0 a1 a2 al l0 l1 ll hev hpe ho8 ho9 hl1 hl2 hl3 hl4
      obtain ⟨E, hE⟩ : ∃ E, E = eN W (cellsL W H xs) := ⟨_, rfl⟩
      obtain ⟨O, hO⟩ : ∃ O, O = oN W (cellsL W H xs) := ⟨_, rfl⟩
      have h9 : E + O ≤ 64 := by rw [hE, hO, eo_len]; exact cells_64 HG.out
      have hE9 : E ≤ 64 := by omega
      have hO9 : O ≤ 64 := by omega
      rw [← hE, ← hO]
      have HE := Lib.hid hE; have HO2 := Lib.hid hO
      clear hE hO h9
      go_wp2_with fail
      refine (apart_any (E : Int) (O : Int) _ (by omega) (by omega) (by omega) (by omega)).mono ?_
      rintro e wz ⟨rfl, rfl⟩
      obtain ⟨z, hz⟩ : ∃ z, z = absV ((E : Int) - (O : Int)) := ⟨_, rfl⟩
      rw [← hz]
      have HZ := Lib.hid hz
      clear hz
      go_wp2
      go_ret3
      exact ⟨by rw [col1, col2, HO.out, ← HE.out, ← HO2.out, ← HZ.out]; by_cases h2 : E = O <;> (first | (have h3 : (E : Int) = (O : Int) := by omega) | (have h3 : (E : Int) ≠ (O : Int) := by omega)) <;> simp [h2, h3], B.out⟩
  · have ht' : twoV W H xs a b = false := by simpa using ht
    go_enter Try.func54, Try.ntmps54
    go_wp2_with fail
    refine (isOn0_any _ _ _ _ _ _ _ _ _ ((ha.alloc _).alloc _)).mono ?_
    rw [ht']
    rintro e wv ⟨rfl, hb⟩
    have hbx0 := below_box hb
    have a0 : wv.cell? ⟨w.heap.size, 0, none⟩ = some (.int .i64 W) := by simpa using newbox hbx0 0
    have a1 : wv.cell? ⟨w.heap.size, 1, none⟩ = some (.int .i64 H) := by simpa using newbox hbx0 1
    have a2 : wv.cell? ⟨w.heap.size, 2, none⟩ = some (.slice A n c) := by simpa using newbox hbx0 2
    have al : w.heap.size < wv.heap.size := by simpa using newbox_lt hbx0
    have l0 : wv.cell? ⟨w.heap.size + 1, 0, none⟩ = some (.int .i64 a) := by simpa using newbox hb 0
    have l1 : wv.cell? ⟨w.heap.size + 1, 1, none⟩ = some (.int .i64 b) := by simpa using newbox hb 1
    have ll : w.heap.size + 1 < wv.heap.size := by simpa using newbox_lt hb
    have B := Lib.hid (below_box hbx0)
    clear hb hbx0
    go_wp2
    go_ret3
    exact ⟨by rw [show okCol W H xs a b = false by rw [okCol, ht']; rfl, col1, col2, show okCol W H xs a b = false by rw [okCol, ht']; rfl]; rfl, B.out⟩

end Go.Proofs.Ytmghjohpmlhdlaa
