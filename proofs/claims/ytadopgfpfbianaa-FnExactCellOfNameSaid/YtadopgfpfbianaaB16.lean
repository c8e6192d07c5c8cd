/-
  Contracts: CellOfName, the model's side.
-/
import Derived.Test.YtadopgfpfbianaaB13
namespace Go.Proofs.Ytadopgfpfbianaa
open Go.RowKit

def findL (W : Int) (s : ByteArray) : List Int → Int
  | [] => -1
  | q :: t => if nameS (q % W) (q / W) = s then q else findL W s t
theorem find_hit {W q : Int} {s : ByteArray} {l : List Int} {k : Nat} (hx : l[k]? = some q) (h : nameS (q % W) (q / W) = s) : findL W s (l.drop k) = q := by
  rw [drop_cons_of hx, findL, if_pos h]
theorem find_step {W q : Int} {s : ByteArray} {l : List Int} {k : Nat} (hx : l[k]? = some q) (h : nameS (q % W) (q / W) ≠ s) : findL W s (l.drop k) = findL W s (l.drop (k + 1)) := by
  rw [drop_cons_of hx, findL, if_neg h]

theorem bytes_ne {a b : ByteArray} (h : ¬ a = b) : (a.toList == b.toList) = false := by
  rw [beq_eq_false_iff_ne]
  intro he
  rw [ByteArray.toList_eq, ByteArray.toList_eq] at he
  exact h (by cases a; cases b; simp only [ByteArray.mk.injEq]; exact Array.ext' he)

set_option maxHeartbeats 1000000 in
theorem boFind_any (W H : Int) (A : Option Addr) (n c : Nat) (xs : List Int) (s : ByteArray) (w : World) (ha : Rd w A n xs) (hg : goodB W H xs = true) :
    Calls Try.prog 57 #[brd W H A n c, .string s] w fun e w' => e = .returned (.int .i64 (findL W s (cellsL W H xs))) ∧ Below w.heap.size w w' := by
  obtain ⟨hW, hH, _, _⟩ := goodB_iff.1 hg
  have HN := Lib.hid (cells_le hW hH)
  have HW := Lib.hid hW
  have HH := Lib.hid hH
  have HG := Lib.hid hg
  clear hW hH hg
  go_enter Try.func57, Try.ntmps57
  go_wp2_with fail
  refine (boCells_any _ _ _ _ _ _ _ (ha.alloc _) HN.out).mono ?_
  rintro e wv ⟨A', n', c', rfl, own, hb⟩
  have a0 := newbox hb 0; have a1 := newbox hb 1; have a2 := newbox hb 2; have al := newbox_lt hb
  simp only [List.getElem?_toArray, List.getElem?_cons_zero, List.getElem?_cons_succ] at a0 a1 a2
  have B := Lib.hid (below_box hb)
  have hp := own.rd
  have hn9 := hp.2.1
  have HL := Lib.hid hp.1
  clear hb own
  go_wp2
  go_loopw [10] (fun i wr => ∃ k : Nat, k ≤ n' ∧ i = .int .i64 k ∧ findL W s (cellsL W H xs) = findL W s ((cellsL W H xs).drop k) ∧ Below wv.heap.size wv wr) (fun i _ => n' - (intOf i).toNat)
  case atStart => exact ⟨0, Nat.zero_le _, rfl, rfl, Below.refl _ _⟩
  case round =>
    obtain ⟨k, hk, rfl, hr, hbw⟩ := hrel
    have HK := Lib.hid hr
    clear hr
    replace a0 := cell_keep a0 al hbw; replace a1 := cell_keep a1 al hbw; replace a2 := cell_keep a2 al hbw; replace al := lt_keep al hbw
    have D := Lib.hid hbw
    by_cases hlt : k < n'
    · obtain ⟨b1, o1, q, rfl, lc, hx, c1⟩ := (hp.keep hbw).at_ hlt
      have HX := Lib.hid hx
      have hq := cellsL_mem.1 (List.mem_of_getElem? hx)
      have HF := Lib.hid (hasV_facts (show hasV W H xs q = true by rw [hasV, HG.out, hq]; rfl))
      clear hx hbw hq
      by_cases hin : nameS (q % W) (q / W) = s
      · go_wp2_with fail
        refine (boName_any W H A n c q _ HW.out (by have := HF.out; omega) (div7 HW.out HH.out HF.out.2.2.2.1) (by have := mod_bd (c := q) HW.out; omega)).mono ?_
        rw [hin]
        rintro e wv2 ⟨rfl, hb⟩
        replace D := Lib.hid (below_next D.out hb)
        clear hb
        all_goals go_wp2
        all_goals go_ret
        all_goals exact ⟨ret_int (by rw [HK.out, find_hit HX.out hin]), B.out.trans (D.out.mono B.out.size)⟩
      · have hne : ((nameS (q % W) (q / W)).toList == s.toList) = false := bytes_ne hin
        go_wp2_with fail
        refine (boName_any W H A n c q _ HW.out (by have := HF.out; omega) (div7 HW.out HH.out HF.out.2.2.2.1) (by have := mod_bd (c := q) HW.out; omega)).mono ?_
        rintro e wv2 ⟨rfl, hb⟩
        replace D := Lib.hid (below_next D.out hb)
        clear hb
        all_goals go_wp2
        all_goals go_roundw
        case rel => exact ⟨k + 1, by omega, by go_num, by rw [HK.out, find_step HX.out hin], D.out⟩
        case measure => simp [intOf]; omega
    · go_wp2
      go_ret
      exact ⟨ret_int (by rw [HK.out, List.drop_of_length_le (by have := HL.out; omega)]; rfl), B.out.trans (hbw.mono B.out.size)⟩

def findV (W H : Int) (xs : List Int) (s : ByteArray) : Int := if goodB W H xs then findL W s (cellsL W H xs) else -1

set_option maxHeartbeats 1000000 in
theorem spec0_CellOfName (W H : Int) (A : Option Addr) (n c : Nat) (xs : List Int) (s : ByteArray) (w : World) (ha : Rd w A n xs) :
    Calls Try.prog 24 #[brd W H A n c, .string s] w fun e w' => e = .returned (.tuple #[.int .i64 (if findV W H xs s < 0 then 0 else findV W H xs s), .bool (decide (0 ≤ findV W H xs s))]) ∧ Below w.heap.size w w' := by
  by_cases hg : goodB W H xs = true
  · rw [show findV W H xs s = findL W s (cellsL W H xs) by rw [findV, if_pos hg]]
    obtain ⟨f, hfe0⟩ : ∃ f, findL W s (cellsL W H xs) = f := ⟨_, rfl⟩
    rw [hfe0]
    have hfe := Lib.hid hfe0
    clear hfe0
    by_cases hf : f < 0
    · rw [if_pos hf, show decide (0 ≤ f) = false by simp; omega]
      go_enter Try.func24, Try.ntmps24
      go_wp2_with fail
      refine (boGood_any _ _ _ _ _ _ _ (ha.alloc _)).mono ?_
      rw [hg]
      rintro e wv ⟨rfl, hb⟩
      have a0 := newbox hb 0; have a1 := newbox hb 1; have a2 := newbox hb 2; have al := newbox_lt hb
      simp only [List.getElem?_toArray, List.getElem?_cons_zero, List.getElem?_cons_succ] at a0 a1 a2
      have B := Lib.hid (below_box hb)
      clear hb
      go_wp2_with fail
      refine (boFind_any _ _ _ _ _ _ _ _ (ha.keep B.out) hg).mono ?_
      rw [hfe.out]
      rintro e wv2 ⟨rfl, hb⟩
      replace B := Lib.hid (below_next B.out hb)
      clear hb
      go_wp2
      go_ret2
      exact ⟨rfl, B.out⟩
    · rw [if_neg hf, show decide (0 ≤ f) = true by simp; omega]
      go_enter Try.func24, Try.ntmps24
      go_wp2_with fail
      refine (boGood_any _ _ _ _ _ _ _ (ha.alloc _)).mono ?_
      rw [hg]
      rintro e wv ⟨rfl, hb⟩
      have a0 := newbox hb 0; have a1 := newbox hb 1; have a2 := newbox hb 2; have al := newbox_lt hb
      simp only [List.getElem?_toArray, List.getElem?_cons_zero, List.getElem?_cons_succ] at a0 a1 a2
      have B := Lib.hid (below_box hb)
      clear hb
      go_wp2_with fail
      refine (boFind_any _ _ _ _ _ _ _ _ (ha.keep B.out) hg).mono ?_
      rw [hfe.out]
      rintro e wv2 ⟨rfl, hb⟩
      replace B := Lib.hid (below_next B.out hb)
      clear hb
      go_wp2
      go_ret2
      exact ⟨rfl, B.out⟩
  · have hg' : goodB W H xs = false := by simpa using hg
    rw [show findV W H xs s = -1 by rw [findV, if_neg hg], if_pos (by omega), show decide ((0 : Int) ≤ -1) = false by decide]
    go_enter Try.func24, Try.ntmps24
    go_wp2_with fail
    refine (boGood_any _ _ _ _ _ _ _ (ha.alloc _)).mono ?_
    rw [hg']
    rintro e wv ⟨rfl, hb⟩
    have a0 := newbox hb 0; have a1 := newbox hb 1; have a2 := newbox hb 2; have al := newbox_lt hb
    simp only [List.getElem?_toArray, List.getElem?_cons_zero, List.getElem?_cons_succ] at a0 a1 a2
    have B := Lib.hid (below_box hb)
    clear hb
    go_wp2
    go_ret2
    exact ⟨rfl, B.out⟩

end Go.Proofs.Ytadopgfpfbianaa
