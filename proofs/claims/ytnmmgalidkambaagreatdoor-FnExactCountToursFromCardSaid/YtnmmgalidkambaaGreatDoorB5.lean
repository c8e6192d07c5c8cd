/-
  Contracts: cells in order, in the program; CellsOf, CountCells, HasCell, PlainBoard.
-/
import Derived.Test.YtnmmgalidkambaaGreatDoorB4
namespace Go.Proofs.YtnmmgalidkambaaGreatDoor
open Go.RowKit

set_option maxHeartbeats 800000 in
theorem cellsThere_any (W H : Int) (A : Option Addr) (n c : Nat) (xs : List Int) (w : World) (ha : Rd w A n xs) (hg : goodB W H xs = true) :
    Calls Tryz.prog 50 #[brd W H A n c] w fun e w' => ∃ A' n' c', e = .returned (.slice A' n' c') ∧ OwnI 3 w' w.heap.size A' n' c' (cellsL W H xs) ∧ Below w.heap.size w w' := by
  obtain ⟨hW, hH, _, _⟩ := goodB_iff.1 hg
  obtain ⟨hN1, hN2⟩ := cells_le hW hH
  have HG := Lib.hid hg
  clear hg hW hH
  obtain ⟨i0, hi, hz0, hz1, hz2⟩ := info_parts infoI
  have HI := Lib.hid hi; have HZ0 := Lib.hid hz0; have HZ1 := Lib.hid hz1; have HZ2 := Lib.hid hz2
  clear hi hz0 hz1 hz2
  go_enter Tryz.func50, Tryz.ntmps50
  go_wp2
  go_loopw [3, 10] (fun v i wr => ∃ (k n' c' : Nat) (A' : Option Addr), (k : Int) ≤ W * H ∧ i = .int .i64 k ∧ v = .slice A' n' c' ∧ OwnI 3 wr (w.heap.size + 1) A' n' c' (cellsTo W H xs k) ∧ Below (w.heap.size + 1) (w.alloc (.cells #[.int .i64 W, .int .i64 H, .slice A n c] 30)) wr) (fun _ i _ => (W * H).toNat - (intOf i).toNat)
  case atStart => exact ⟨0, 0, 0, none, by omega, rfl, rfl, OwnI.none_ _ _ _, Below.refl _ _⟩
  case round =>
    obtain ⟨k, n', c', A', hk, rfl, rfl, hown, hbw⟩ := hrel
    have hb0 := box_cell hbw 0; have hb1 := box_cell hbw 1; have hb2 := box_cell hbw 2
    simp only [List.getElem?_toArray, List.getElem?_cons_zero, List.getElem?_cons_succ] at hb0 hb1 hb2
    have hsz := box_size hbw
    by_cases hlt : (k : Int) < W * H
    · by_cases hh : hasB W H xs k = true
      · have hn' : n' ≤ 64 := by have := cellsTo_len (W := W) (H := H) (hs := xs) k; have := hown.len; omega
        have HO := Lib.hid hown; have HB := Lib.hid hbw
        clear hown hbw
        go_wp2_with fail
        refine (isThere_any _ _ _ _ _ _ _ _ (ha.keep (box_below HB.out)) HG.out).mono ?_
        rintro e w1 ⟨rfl, hbh⟩
        have HO1 := Lib.hid (HO.out.keep hbh)
        have HB1 := Lib.hid (HB.out.trans (hbh.mono (by omega)))
        clear hbh HO HB
        go_wp2_with (at_builtin; refine wpList_app1 rfl (.tmp 16) (.tmp 18) 22 3 rfl i0 Tryz.underlying22 HI.out HZ0.out HZ1.out HZ2.out (w.heap.size + 1) A' n' c' (cellsTo W H xs k) (k : Int) rfl HO1.out rfl (by omega) (by have := box_size HB1.out; omega) ?_; intro A2 c2 w2 hown2 hb2')
        have HO2 := Lib.hid hown2; have HB2 := Lib.hid (HB1.out.trans hb2')
        clear hown2 hb2'
        go_wp2
        go_roundw
        case rel => exact ⟨k + 1, n' + 1, c2, A2, by omega, by go_num, rfl, by rw [cellsTo_yes hh]; exact HO2.out, HB2.out⟩
        case measure => simp [intOf]; omega
      · have hh' : hasB W H xs k = false := by simpa using hh
        clear hh
        have HO := Lib.hid hown; have HB := Lib.hid hbw
        clear hown hbw
        go_wp2_with fail
        refine (isThere_any _ _ _ _ _ _ _ _ (ha.keep (box_below HB.out)) HG.out).mono ?_
        rintro e w1 ⟨rfl, hbh⟩
        have HO1 := Lib.hid (HO.out.keep hbh)
        have HB1 := Lib.hid (HB.out.trans (hbh.mono (by omega)))
        clear hbh HO HB
        go_wp2
        go_roundw
        case rel => exact ⟨k + 1, n', c', A', by omega, by go_num, rfl, by rw [cellsTo_no hh']; exact HO1.out, HB1.out⟩
        case measure => simp [intOf]; omega
    · go_wp2
      go_ret
      have e : (W * H).toNat = k := by omega
      exact ⟨A', n', c', rfl, by rw [cellsL, e]; exact hown.lower (by omega), box_below hbw⟩


def cellsV (W H : Int) (xs : List Int) : List Int := if goodB W H xs then cellsL W H xs else []
def countV (W H : Int) (xs : List Int) : Int := if goodB W H xs then (cellsL W H xs).length else 0
def hasV (W H : Int) (xs : List Int) (q : Int) : Bool := goodB W H xs && hasB W H xs q

end Go.Proofs.YtnmmgalidkambaaGreatDoor
