/-
  Contracts: which cells are there.
  append of one int onto a row of the call's own, as one law.
  Contracts: the cells that are there, in order.
  Contracts: cells in order, in the program; CellsOf, CountCells, HasCell, PlainBoard.
  Contracts: spots, turned and mirrored cells.
  Contracts: MirrorCell; TurnCell and MirrorCell in the model.
  Contracts: leaps on plain boards, by the sizes alone; plain boards.
  Contracts: whether a leaper leaps from one cell to another one.
  Plain functions and facts: the steps of a leaper, the cells to which it leaps, pairs of leaps, holes that are carried to another board.
  Pure: the number of one bits of a word as bits.OnesCount64 counts them, and of a set of cells.
  DERIVED: THE SHELF's CONTRACTS AT THIS DUMP, IN PLAIN WORDS (tools/lay-plain.mjs out of 'TryzTzfShelf.lean', which tools/lay-shelf.mjs wrote): THE SAME DECLARATIONS UNDER THE SAME NAMES: 'import', 'namespace', 'open', 'def', 'theorem' AND NOTHING ELSE: no command of the shelf's: FOR A HAND-IN. Each laying: the table of numbers ('.._ren') and one theorem, a field a fact of the dump's own or the kernel's comparison; each contract: ONE APPLICATION.
-/
import Derived.Test.YtjplcnbifcpebaaGreatDoorBunHFillPeaceful1
import Derived.Deep.RegionHeld3
import Derived.Deep.RegionWith
import Derived.Deep.DeepCutAuto
import Derived.Lib.SlicesCompact
import Derived.Shelf.Spec.TrailingZeros
import Derived.Ground.Names7Prog
import Derived.Test.YtjplcnbifcpebaaGreatDoorProg
namespace Go.Proofs.YtjplcnbifcpebaaGreatDoor
open Go.RowKit

set_option maxHeartbeats 400000 in
theorem l1Has_any (A : Option Addr) (n c : Nat) (q : Int) (xs : List Int) (w : World) (ha : Rd w A n xs) :
    Calls Tryz.prog 21 #[.slice A n c, .int .i64 q] w fun e w' => e = .returned (.bool (xs.contains q)) ∧ Below w.heap.size w w' := by
  have h3 := ha.2.1
  have H1 := Lib.hid ha.1
  go_enter Tryz.func21, Tryz.ntmps21
  go_wp2
  go_loopw [9] (fun i wr => ∃ k : Nat, k ≤ n ∧ i = .int .i64 k ∧ xs.contains q = (xs.drop k).contains q ∧ Below w.heap.size w wr) (fun i _ => n - (intOf i).toNat)
  case atStart => exact ⟨0, Nat.zero_le _, rfl, rfl, Below.refl _ _⟩
  case round =>
    obtain ⟨k, hk, rfl, hr, hbw⟩ := hrel
    have HR := Lib.hid hr
    clear hr
    by_cases hlt : k < n
    · obtain ⟨b1, o1, x, rfl, hl1, hx, hc1⟩ := (ha.keep hbw).at_ hlt
      have HX := Lib.hid hx
      clear hx
      by_cases hin : x = q
      · subst hin
        go_wp2
        go_ret
        exact ⟨ret_bool (by rw [HR.out, has_hit HX.out]), hbw⟩
      · have hne : (x == q) = false := by simpa using hin
        go_wp2
        go_roundw
        case rel => exact ⟨k + 1, by omega, by go_num, by rw [HR.out, has_step HX.out hin], hbw⟩
        case measure => simp [intOf]; omega
    · go_wp2
      go_ret
      exact ⟨ret_bool (by rw [HR.out, List.drop_of_length_le (by have := H1.out; omega)]; rfl), hbw⟩

/-- slices.BinarySearch of a sorted list: whether the target is among the elements. -/
theorem search_any (A : Option Addr) (n c : Nat) (q : Int) (xs : List Int) (w : World) (ha : Rd w A n xs) (hn : n < 4611686018427387904) (hs : xs.Pairwise (· < ·)) :
    Calls Tryz.prog 60 #[.slice A n c, .int .i64 q] w fun e w' => ∃ p : Nat, e = .returned (.tuple #[.int .i64 p, .bool (xs.contains q)]) ∧ Below w.heap.size w w' := by
  by_cases h0 : n = 0
  · subst h0
    obtain rfl : xs = [] := List.eq_nil_of_length_eq_zero ha.1
    exact (Tryz.slices_BinarySearch_int_empty A c q w).mono fun e w' ⟨he, hw⟩ => ⟨0, he, by rw [hw]; exact Below.refl _ _⟩
  · obtain ⟨b, off, x, rfl, _, _, _⟩ := ha.at_ (k := 0) (by omega)
    have hl := ha.1
    refine (Tryz.slices_BinarySearch_int b off n c xs q w (by omega) hn (fun j hj => ?_) ?_).mono fun e w' ⟨he, m, hw⟩ => ⟨(xs.take n).countP (· < q), by rw [he, List.take_of_length_le (by omega)], by rw [hw]; exact below_drewN (Below.refl _ _) _⟩
    · obtain ⟨b', off', y, hA, _, hy, hc⟩ := ha.at_ (k := j) (by omega)
      injection hA with hA
      injection hA with e1 e2 _
      subst e1 e2
      rw [hc, List.getD_eq_getElem?_getD, hy]; rfl
    · exact (hs.imp (fun h => Int.le_of_lt h)).sublist (List.take_sublist _ _)

set_option maxHeartbeats 400000 in
theorem boHas_any (W H : Int) (A : Option Addr) (n c : Nat) (q : Int) (xs : List Int) (w : World) (ha : Rd w A n xs) (hN : 1 ≤ W * H ∧ W * H ≤ 64) :
    Calls Tryz.prog 31 #[brd W H A n c, .int .i64 q] w fun e w' => e = .returned (.bool (hasB W H xs q)) ∧ Below w.heap.size w w' := by
  obtain ⟨hN1, hN2⟩ := hN
  by_cases hin : inB q 0 (W * H - 1) = true
  · go_enter Tryz.func31, Tryz.ntmps31
    go_wp2_with (first | (go_at_call 45; refine (l1In_any _ _ _ _).mono ?_; rintro e w1 ⟨rfl, rfl⟩) | (go_at_call 21; refine (l1Has_any _ _ _ _ _ _ (ha.alloc _)).mono ?_; rintro e w1 ⟨rfl, hb1⟩))
    go_ret
    exact ⟨ret_bool (by rw [Bool.eq_iff_iff, hasB_iff]; have := inB_iff.1 hin; simp; omega), below_next (below_new (Below.refl _ _) _) hb1⟩
  · have hin' : inB q 0 (W * H - 1) = false := by simpa using hin
    clear hin
    go_enter Tryz.func31, Tryz.ntmps31
    go_wp2_with (first | (go_at_call 45; refine (l1In_any _ _ _ _).mono ?_; rintro e w1 ⟨rfl, rfl⟩))
    go_ret
    exact ⟨ret_bool (by symm; rw [Bool.eq_false_iff]; intro h; have := hasB_iff.1 h; have := inB_false.1 hin'; omega), below_new (Below.refl _ _) _⟩

set_option maxHeartbeats 400000 in
theorem isThere_any (W H : Int) (A : Option Addr) (n c : Nat) (q : Int) (xs : List Int) (w : World) (ha : Rd w A n xs) (hg : goodB W H xs = true) :
    Calls Tryz.prog 48 #[brd W H A n c, .int .i64 q] w fun e w' => e = .returned (.bool (hasB W H xs q)) ∧ Below w.heap.size w w' := by
  obtain ⟨hW, hH, hlen, hri⟩ := goodB_iff.1 hg
  have HG := Lib.hid hri
  obtain ⟨hN1, hN2⟩ := cells_le hW hH
  have hn : n < 4611686018427387904 := by have := ha.1; omega
  clear hri hg hlen hW hH
  by_cases hq0 : q < 0
  · go_enter Tryz.func48, Tryz.ntmps48
    go_wp2
    go_ret
    exact ⟨ret_bool (by symm; rw [Bool.eq_false_iff]; intro h; have := hasB_iff.1 h; omega), below_new (Below.refl _ _) _⟩
  · by_cases hq1 : W * H ≤ q
    · go_enter Tryz.func48, Tryz.ntmps48
      go_wp2
      go_ret
      exact ⟨ret_bool (by symm; rw [Bool.eq_false_iff]; intro h; have := hasB_iff.1 h; omega), below_new (Below.refl _ _) _⟩
    · go_enter Tryz.func48, Tryz.ntmps48
      go_wp2_with fail
      refine (search_any A n c q xs _ (ha.alloc _) hn (risesB_pairwise HG.out)).mono ?_
      rintro e w1 ⟨p, rfl, hb1⟩
      go_wp2
      go_ret
      exact ⟨ret_bool (by rw [Bool.eq_iff_iff, hasB_iff]; simp; omega), below_next (below_new (Below.refl _ _) _) hb1⟩

end Go.Proofs.YtjplcnbifcpebaaGreatDoor

namespace Go.Proofs.YtjplcnbifcpebaaGreatDoor
open Go.RowKit

theorem below_box {w w' : World} {o : Obj} (h : Below (w.alloc o).heap.size (w.alloc o) w') : Below w.heap.size w w' := (below_new (Below.refl _ _) o).trans (h.mono (by simp))
theorem newbox {w w' : World} {cs : Array Value} {t : TypeId} (h : Below (w.alloc (.cells cs t)).heap.size (w.alloc (.cells cs t)) w') (i : Nat) : w'.cell? ⟨w.heap.size, i, none⟩ = cs[i]? :=
  box_cell (by simpa using h) i
theorem newbox_lt {w w' : World} {o : Obj} (h : Below (w.alloc o).heap.size (w.alloc o) w') : w.heap.size < w'.heap.size := box_size h
theorem cell_keep {w w' : World} {b i : Nat} {v : Value} (h : w.cell? ⟨b, i, none⟩ = some v) (lt : b < w.heap.size) (hb : Below w.heap.size w w') : w'.cell? ⟨b, i, none⟩ = some v := (hb.cell (p := ⟨b, i, none⟩) lt).trans h
theorem lt_keep {w w' : World} {b : Nat} (lt : b < w.heap.size) (hb : Below w.heap.size w w') : b < w'.heap.size := Nat.lt_of_lt_of_le lt hb.size

theorem below_undrew {w w' : World} (h : Below w.drew.heap.size w.drew w') : Below w.heap.size w w' := ⟨h.os, h.tape, h.output, h.size, h.block⟩
theorem Rd.drew1 {w : World} {A : Option Addr} {n : Nat} {xs : List Int} (h : Rd w A n xs) : Rd w.drew A n xs := h
theorem OwnI.drew1 {E : TypeId} {w : World} {lo : Nat} {A : Option Addr} {n c : Nat} {xs : List Int} (h : OwnI E w lo A n c xs) : OwnI E w.drew lo A n c xs := h

theorem own_form {E : TypeId} {w : World} {lo n : Nat} {v : Value} {xs : List Int} (h : w.ownsRow lo E 1 v n (xs.map (Value.int .i64))) : ∃ A c, v = .slice A n c ∧ OwnI E w lo A n c xs := by
  have h2 := h.2
  rcases h2 with ⟨rfl, rfl⟩ | ⟨g, cap, cur, rfl, _⟩
  · exact ⟨none, 0, rfl, h⟩
  · exact ⟨_, cap, rfl, h⟩

theorem wpList_app1 {P : Program} {w : World} {ops : Array Oper} {rest : List Oper} {o : Oper} {a : Act} {Q : Exit → Act → World → Prop} (hgd : o.guard = none) (s x : Operand) (T E : TypeId)
    (ho : o.op = .call { callee := .builtin .append, args := #[s, x], argTypes := #[T, T] }) (i0 : TypeInfo)
    (hT : P.underlying T = some (.slice E)) (hi : P.info? E = some i0) (hz0 : i0.zero = some (.int .i64 0)) (hz1 : i0.size = 1) (hz2 : i0.bytes = 8)
    (lo : Nat) (A : Option Addr) (n c : Nat) (xs : List Int) (q : Int) (hs : a.eval s = .slice A n c) (hown : OwnI E w lo A n c xs) (hx : a.eval x = .slice (some ⟨w.heap.size, 0, none⟩) 1 1)
    (hn : n ≤ 1000000) (hlo : lo ≤ w.heap.size)
    (h : ∀ A' c' w', OwnI E w' lo A' (n + 1) c' (xs ++ [q]) → Below lo w w' → wpList P ops Q rest (a.put o.dst (.slice A' (n + 1) c')) w') :
    wpList P ops Q (o :: rest) a (w.alloc (.cells #[.int .i64 q] E)) := by
  refine wpList_append_own (w.alloc (.cells #[.int .i64 q] E)) hgd s x T ho lo E i0 (.int .i64 0) 1 8 hT hi hz0 hz1 hz2 rfl (by decide) (.slice A n c) n (xs.map (Value.int .i64)) hs (World.ownsRow.alloc hown _)
    ⟨w.heap.size, 0, none⟩ 1 1 [.int .i64 q] hx rfl ?_ ?_ (by unfold maxLen; omega) (by omega) (by simp; omega) ?_
  · intro j u hj
    match j, hj with
    | 0, hj =>
      simp at hj; subst hj
      exact cell_of_row (w.alloc (.cells #[.int .i64 q] E)) w.heap.size 0 #[.int .i64 q] E (0, 0) (heap_alloc_new w _)
  · intro u hu; simp at hu; subst hu; rfl
  · intro v' w' hown' hgrow _
    have e : xs.map (Value.int .i64) ++ [.int .i64 q] = (xs ++ [q]).map (Value.int .i64) := by simp
    rw [e] at hown'
    obtain ⟨A', c', rfl, hO⟩ := own_form hown'
    refine h A' c' w' hO ?_
    have hb : Below lo w (w.alloc (.cells #[.int .i64 q] E)) := (Below.refl _ _).alloc hlo _
    refine hb.grown hgrow (by simp; omega) (fun k hk => ?_)
    exact (World.ownsRow.lt hown k hk).1

end Go.Proofs.YtjplcnbifcpebaaGreatDoor

namespace Go.Proofs.YtjplcnbifcpebaaGreatDoor
open Go.RowKit

set_option maxHeartbeats 800000 in
theorem boCells_any (W H : Int) (A : Option Addr) (n c : Nat) (xs : List Int) (w : World) (ha : Rd w A n xs) (hN : 1 ≤ W * H ∧ W * H ≤ 64) :
    Calls Tryz.prog 19 #[brd W H A n c] w fun e w' => ∃ A' n' c', e = .returned (.slice A' n' c') ∧ OwnI 3 w' w.heap.size A' n' c' (cellsL W H xs) ∧ Below w.heap.size w w' := by
  have hN' := hN
  obtain ⟨hN1, hN2⟩ := hN
  obtain ⟨i0, hi, hz0, hz1, hz2⟩ := info_parts infoI
  have HI := Lib.hid hi; have HZ0 := Lib.hid hz0; have HZ1 := Lib.hid hz1; have HZ2 := Lib.hid hz2
  clear hi hz0 hz1 hz2
  go_enter Tryz.func19, Tryz.ntmps19
  go_wp2
  go_loopw [3, 4] (fun v i wr => ∃ (k n' c' : Nat) (A' : Option Addr), (k : Int) ≤ W * H ∧ i = .int .i64 k ∧ v = .slice A' n' c' ∧ OwnI 3 wr (w.heap.size + 1) A' n' c' (cellsTo W H xs k) ∧ Below (w.heap.size + 1) (w.alloc (.cells #[.int .i64 W, .int .i64 H, .slice A n c] 30)) wr) (fun _ i _ => (W * H).toNat - (intOf i).toNat)
  case atStart => exact ⟨0, 0, 0, none, by omega, rfl, rfl, OwnI.none_ _ _ _, Below.refl _ _⟩
  case round =>
    obtain ⟨k, n', c', A', hk, rfl, rfl, hown, hbw⟩ := hrel
    have hb0 := box_cell hbw 0; have hb1 := box_cell hbw 1; have hb2 := box_cell hbw 2
    simp only [List.getElem?_toArray, List.getElem?_cons_zero, List.getElem?_cons_succ] at hb0 hb1 hb2
    have hsz := box_size hbw
    by_cases hlt : (k : Int) < W * H
    · by_cases hh : hasB W H xs k = true
      · have hn' : n' ≤ 64 := by have := cellsTo_len (W := W) (H := H) (hs := xs) k; have := hown.len; omega
        have HO := Lib.hid hown; have HB := Lib.hid hbw
        clear hown hbw
        go_wp2_with fail
        refine (boHas_any _ _ _ _ _ _ _ _ (ha.keep (box_below HB.out)) hN').mono ?_
        rintro e w1 ⟨rfl, hbh⟩
        have HO1 := Lib.hid (HO.out.keep hbh)
        have HB1 := Lib.hid (HB.out.trans (hbh.mono (by omega)))
        clear hbh HO HB
        go_wp2_with (at_builtin; refine wpList_app1 rfl (.tmp 17) (.tmp 19) 22 3 rfl i0 Tryz.underlying22 HI.out HZ0.out HZ1.out HZ2.out (w.heap.size + 1) A' n' c' (cellsTo W H xs k) (k : Int) rfl HO1.out rfl (by omega) (by have := box_size HB1.out; omega) ?_; intro A2 c2 w2 hown2 hb2')
        have HO2 := Lib.hid hown2; have HB2 := Lib.hid (HB1.out.trans hb2')
        clear hown2 hb2'
        go_wp2
        go_roundw
        case rel => exact ⟨k + 1, n' + 1, c2, A2, by omega, by go_num, rfl, by rw [cellsTo_yes hh]; exact HO2.out, HB2.out⟩
        case measure => simp [intOf]; omega
      · have hh' : hasB W H xs k = false := by simpa using hh
        clear hh
        have HO := Lib.hid hown; have HB := Lib.hid hbw
        clear hown hbw
        go_wp2_with fail
        refine (boHas_any _ _ _ _ _ _ _ _ (ha.keep (box_below HB.out)) hN').mono ?_
        rintro e w1 ⟨rfl, hbh⟩
        have HO1 := Lib.hid (HO.out.keep hbh)
        have HB1 := Lib.hid (HB.out.trans (hbh.mono (by omega)))
        clear hbh HO HB
        go_wp2
        go_roundw
        case rel => exact ⟨k + 1, n', c', A', by omega, by go_num, rfl, by rw [cellsTo_no hh']; exact HO1.out, HB1.out⟩
        case measure => simp [intOf]; omega
    · go_wp2
      go_ret
      have e : (W * H).toNat = k := by omega
      exact ⟨A', n', c', rfl, by rw [cellsL, e]; exact hown.lower (by omega), box_below hbw⟩

end Go.Proofs.YtjplcnbifcpebaaGreatDoor

namespace Go.Proofs.YtjplcnbifcpebaaGreatDoor
open Go.RowKit

set_option maxHeartbeats 800000 in
theorem cellsThere_any (W H : Int) (A : Option Addr) (n c : Nat) (xs : List Int) (w : World) (ha : Rd w A n xs) (hg : goodB W H xs = true) :
    Calls Tryz.prog 34 #[brd W H A n c] w fun e w' => ∃ A' n' c', e = .returned (.slice A' n' c') ∧ OwnI 3 w' w.heap.size A' n' c' (cellsL W H xs) ∧ Below w.heap.size w w' := by
  obtain ⟨hW, hH, _, _⟩ := goodB_iff.1 hg
  obtain ⟨hN1, hN2⟩ := cells_le hW hH
  have HG := Lib.hid hg
  clear hg hW hH
  obtain ⟨i0, hi, hz0, hz1, hz2⟩ := info_parts infoI
  have HI := Lib.hid hi; have HZ0 := Lib.hid hz0; have HZ1 := Lib.hid hz1; have HZ2 := Lib.hid hz2
  clear hi hz0 hz1 hz2
  go_enter Tryz.func34, Tryz.ntmps34
  go_wp2
  go_loopw [3, 10] (fun v i wr => ∃ (k n' c' : Nat) (A' : Option Addr), (k : Int) ≤ W * H ∧ i = .int .i64 k ∧ v = .slice A' n' c' ∧ OwnI 3 wr (w.heap.size + 1) A' n' c' (cellsTo W H xs k) ∧ Below (w.heap.size + 1) (w.alloc (.cells #[.int .i64 W, .int .i64 H, .slice A n c] 30)) wr) (fun _ i _ => (W * H).toNat - (intOf i).toNat)
  case atStart => exact ⟨0, 0, 0, none, by omega, rfl, rfl, OwnI.none_ _ _ _, Below.refl _ _⟩
  case round =>
    obtain ⟨k, n', c', A', hk, rfl, rfl, hown, hbw⟩ := hrel
    have hb0 := box_cell hbw 0; have hb1 := box_cell hbw 1; have hb2 := box_cell hbw 2
    simp only [List.getElem?_toArray, List.getElem?_cons_zero, List.getElem?_cons_succ] at hb0 hb1 hb2
    have hsz := box_size hbw
    by_cases hlt : (k : Int) < W * H
    · by_cases hh : hasB W H xs k = true
      · have hn' : n' ≤ 64 := by have := cellsTo_len (W := W) (H := H) (hs := xs) k; have := hown.len; omega
        have HO := Lib.hid hown; have HB := Lib.hid hbw
        clear hown hbw
        go_wp2_with fail
        refine (isThere_any _ _ _ _ _ _ _ _ (ha.keep (box_below HB.out)) HG.out).mono ?_
        rintro e w1 ⟨rfl, hbh⟩
        have HO1 := Lib.hid (HO.out.keep hbh)
        have HB1 := Lib.hid (HB.out.trans (hbh.mono (by omega)))
        clear hbh HO HB
        go_wp2_with (at_builtin; refine wpList_app1 rfl (.tmp 16) (.tmp 18) 22 3 rfl i0 Tryz.underlying22 HI.out HZ0.out HZ1.out HZ2.out (w.heap.size + 1) A' n' c' (cellsTo W H xs k) (k : Int) rfl HO1.out rfl (by omega) (by have := box_size HB1.out; omega) ?_; intro A2 c2 w2 hown2 hb2')
        have HO2 := Lib.hid hown2; have HB2 := Lib.hid (HB1.out.trans hb2')
        clear hown2 hb2'
        go_wp2
        go_roundw
        case rel => exact ⟨k + 1, n' + 1, c2, A2, by omega, by go_num, rfl, by rw [cellsTo_yes hh]; exact HO2.out, HB2.out⟩
        case measure => simp [intOf]; omega
      · have hh' : hasB W H xs k = false := by simpa using hh
        clear hh
        have HO := Lib.hid hown; have HB := Lib.hid hbw
        clear hown hbw
        go_wp2_with fail
        refine (isThere_any _ _ _ _ _ _ _ _ (ha.keep (box_below HB.out)) HG.out).mono ?_
        rintro e w1 ⟨rfl, hbh⟩
        have HO1 := Lib.hid (HO.out.keep hbh)
        have HB1 := Lib.hid (HB.out.trans (hbh.mono (by omega)))
        clear hbh HO HB
        go_wp2
        go_roundw
        case rel => exact ⟨k + 1, n', c', A', by omega, by go_num, rfl, by rw [cellsTo_no hh']; exact HO1.out, HB1.out⟩
        case measure => simp [intOf]; omega
    · go_wp2
      go_ret
      have e : (W * H).toNat = k := by omega
      exact ⟨A', n', c', rfl, by rw [cellsL, e]; exact hown.lower (by omega), box_below hbw⟩


def cellsV (W H : Int) (xs : List Int) : List Int := if goodB W H xs then cellsL W H xs else []
def countV (W H : Int) (xs : List Int) : Int := if goodB W H xs then (cellsL W H xs).length else 0
def hasV (W H : Int) (xs : List Int) (q : Int) : Bool := goodB W H xs && hasB W H xs q

end Go.Proofs.YtjplcnbifcpebaaGreatDoor

namespace Go.Proofs.YtjplcnbifcpebaaGreatDoor
open Go.RowKit

theorem mod_bd {W c : Int} (hW : 1 ≤ W ∧ W ≤ 8) : 0 ≤ c % W ∧ c % W < W ∧ c % W ≤ 7 := by
  have h1 := Int.emod_nonneg c (b := W) (by omega)
  have h2 := Int.emod_lt_of_pos c (b := W) (by omega)
  omega
theorem div_bd {W H c : Int} (hW : 1 ≤ W ∧ W ≤ 8) (hc : 0 ≤ c ∧ c < W * H) : 0 ≤ c / W ∧ c / W < H := by
  constructor
  · exact Int.ediv_nonneg hc.1 (by omega)
  · exact Int.ediv_lt_of_lt_mul (by omega) (by rw [Int.mul_comm]; exact hc.2)
theorem mulN {x y : Int} (hx : 0 ≤ x ∧ x ≤ 8) (hy : 0 ≤ y ∧ y ≤ 8) : 0 ≤ x * y ∧ x * y ≤ 64 :=
  ⟨Int.mul_nonneg hx.1 hy.1, by have := Int.mul_le_mul hx.2 hy.2 hy.1 (by omega); omega⟩
def turnV (W H c : Int) : Int := (c % W) * H + H - 1 - c / W
def mirrorV (W c : Int) : Int := c - c % W + W - 1 - c % W

set_option maxHeartbeats 400000 in
theorem spotOf_any (W H : Int) (A : Option Addr) (n c : Nat) (q : Int) (w : World) (hW : 1 ≤ W ∧ W ≤ 8) (hq : 0 ≤ q ∧ q ≤ 64) :
    Calls Tryz.prog 62 #[brd W H A n c, .int .i64 q] w fun e w' => e = .returned (lpr (q % W) (q / W)) ∧ Below w.heap.size w w' := by
  obtain ⟨hW1, hW2⟩ := hW
  obtain ⟨hq1, hq2⟩ := hq
  go_enter Tryz.func62, Tryz.ntmps62
  go_wp2
  go_region
  all_goals go_wp2
  exact bodyPost_ret (v := lpr (q % W) (q / W)) (by simp [results, Tryz.results62, go_sem]) rfl ⟨rfl, (by repeat (first | exact Below.refl _ _ | refine Below.setCell ?_ (by simp) _ | refine Below.drew ?_ | refine below_drewN ?_ _ | refine below_new ?_ _))⟩

set_option maxHeartbeats 400000 in
theorem number_any (x y W : Int) (w : World) (hx : 0 ≤ x ∧ x ≤ 1000) (hyW : 0 ≤ y * W ∧ y * W ≤ 1000) :
    Calls Tryz.prog 52 #[lpr x y, .int .i64 W] w fun e w' => e = .returned (.int .i64 (y * W + x)) ∧ Below w.heap.size w w' := by
  obtain ⟨hx1, hx2⟩ := hx
  obtain ⟨hy1, hy2⟩ := hyW
  go_enter Tryz.func52, Tryz.ntmps52
  go_wp2
  go_ret
  exact ⟨rfl, below_new (Below.refl _ _) _⟩

/-! ### TurnCell, MirrorCell -/
def turnCellV (W H : Int) (xs : List Int) (q : Int) : Int := if hasV W H xs q then turnV W H q else 0
def mirrorCellV (W H : Int) (xs : List Int) (q : Int) : Int := if hasV W H xs q then mirrorV W q else 0
theorem hasV_facts {W H q : Int} {xs : List Int} (h : hasV W H xs q = true) : goodB W H xs = true ∧ (1 ≤ W ∧ W ≤ 8) ∧ (1 ≤ H ∧ H ≤ 8) ∧ (0 ≤ q ∧ q < W * H) ∧ W * H ≤ 64 ∧ hasB W H xs q = true := by
  simp only [hasV, Bool.and_eq_true] at h
  obtain ⟨hW, hH, _, _⟩ := goodB_iff.1 h.1
  exact ⟨h.1, hW, hH, (hasB_iff.1 h.2).1, (cells_le hW hH).2, h.2⟩

end Go.Proofs.YtjplcnbifcpebaaGreatDoor

namespace Go.Proofs.YtjplcnbifcpebaaGreatDoor
open Go.RowKit

theorem div7 {W H c : Int} (hW : 1 ≤ W ∧ W ≤ 8) (hH : 1 ≤ H ∧ H ≤ 8) (hc : 0 ≤ c ∧ c < W * H) : 0 ≤ c / W ∧ c / W ≤ 7 := by
  have := div_bd hW hc; omega


end Go.Proofs.YtjplcnbifcpebaaGreatDoor

namespace Go.Proofs.YtjplcnbifcpebaaGreatDoor
open Go.RowKit

def posV (x : Int) : Int := if x < 0 then 0 else x
def roomV (s t : Int) : Int := posV (s - t)
theorem roomV_le {s t : Int} (h1 : 1 ≤ s ∧ s ≤ 8) (h2 : 0 ≤ t) : 0 ≤ roomV s t ∧ roomV s t ≤ 8 := by unfold roomV posV; split <;> omega
theorem mul_le8 {x y : Int} (hx : 0 ≤ x ∧ x ≤ 8) (hy : 0 ≤ y ∧ y ≤ 8) : 0 ≤ x * y ∧ x * y ≤ 64 :=
  ⟨Int.mul_nonneg hx.1 hy.1, by have := Int.mul_le_mul hx.2 hy.2 hy.1 (by omega); omega⟩
def oneV (m n a b : Int) : Int := roomV m a * roomV n b
def plainLeapsV (m n a b : Int) : Int := if sizeB m && sizeB n && leaperB a b then (if a = 0 then oneV m n a b + oneV m n b a else if a = b then 2 * oneV m n a b else 2 * (oneV m n a b + oneV m n b a)) else 0
def plainLeapsB (m n a b : Int) : Bool := sizeB m && sizeB n && leaperB a b
theorem oneV_le {m n a b : Int} (hm : 1 ≤ m ∧ m ≤ 8) (hn : 1 ≤ n ∧ n ≤ 8) (ha : 0 ≤ a) (hb : 0 ≤ b) : 0 ≤ oneV m n a b ∧ oneV m n a b ≤ 64 := mul_le8 (roomV_le hm ha) (roomV_le hn hb)

theorem quiet_drew {P : Program} {f : FuncId} {args : Array Value} {w : World} {a n : Nat} {v : Value} (h : Calls P f args (w.drewN (a + n)) fun e w' => e = .returned v ∧ w.drewN (a + n) = w') :
    Calls P f args (w.drewN (a + n)) fun e w' => e = .returned v ∧ ∃ m, w' = w.drewN (a + m) := h.mono fun _ _ ⟨he, hw⟩ => ⟨he, n, hw.symm⟩
theorem quiet_same {P : Program} {f : FuncId} {args : Array Value} {w : World} {v : Value} (h : Calls P f args w fun e w' => e = .returned v ∧ w = w') : Calls P f args w fun e w' => e = .returned v ∧ w' = w :=
  h.mono fun _ _ ⟨he, hw⟩ => ⟨he, hw.symm⟩

set_option maxHeartbeats 400000 in
theorem l1Most_any (x : Int) (w : World) :
    Calls Tryz.prog 58 #[.int .i64 0, .int .i64 x] w fun e w' => e = .returned (.int .i64 (posV x)) ∧ w = w' := by
  by_cases h : x < 0
  · go_enter Tryz.func58, Tryz.ntmps58
    go_wp2
    go_ret
    exact ⟨ret_int (by unfold posV; split <;> omega), rfl⟩
  · go_enter Tryz.func58, Tryz.ntmps58
    go_wp2
    go_ret
    exact ⟨ret_int (by unfold posV; split <;> omega), rfl⟩

theorem plain_eq {m n a b : Int} (hs : (sizeB m && sizeB n) = true) (hl : leaperB a b = true) :
    plainLeapsV m n a b = (if 0 < a ∧ a < b then (oneV m n a b + oneV m n b a) * 2 else oneV m n a b + oneV m n b a) := by
  have l1 := leaperB_iff.1 hl
  rw [plainLeapsV, hs, hl]
  simp only [Bool.and_self, if_true]
  by_cases ha : a = 0
  · subst ha; simp
  · by_cases hab : a = b
    · subst hab; simp [ha]; omega
    · rw [if_neg ha, if_neg hab, if_pos (by omega)]; omega

/-! ### Plain boards -/
def plainB (m n : Int) : Bool := sizeB m && sizeB n
def PlainBoard_w (m n : Int) : Int := if plainB m n then m else 0
def PlainBoard_h (m n : Int) : Int := if plainB m n then n else 0

end Go.Proofs.YtjplcnbifcpebaaGreatDoor

namespace Go.Proofs.YtjplcnbifcpebaaGreatDoor
open Go.RowKit

def absV (x : Int) : Int := if x < 0 then -x else x
theorem absV_bd {x : Int} (h : -100 ≤ x ∧ x ≤ 100) : 0 ≤ absV x ∧ absV x ≤ 100 := by unfold absV; split <;> omega
theorem absV_sub (x y : Int) : absV (x - y) = absV (y - x) := by unfold absV; split <;> split <;> omega
def leapB (W a b p q : Int) : Bool := decide ((absV (p % W - q % W) = a ∧ absV (p / W - q / W) = b) ∨ (absV (p % W - q % W) = b ∧ absV (p / W - q / W) = a))

set_option maxHeartbeats 400000 in
theorem l1Abs_any (x : Int) (w : World) (h1 : -1000 ≤ x) (h2 : x ≤ 1000) :
    Calls Tryz.prog 44 #[.int .i64 x] w fun e w' => e = .returned (.int .i64 (absV x)) ∧ w = w' := by
  by_cases h : x < 0
  · have h3 : ¬ -x < x := by omega
    go_enter Tryz.func44, Tryz.ntmps44
    go_wp2
    go_ret
    exact ⟨ret_int (by unfold absV; split <;> omega), rfl⟩
  · by_cases h0 : x = 0
    · subst h0
      go_enter Tryz.func44, Tryz.ntmps44
      go_wp2
      go_ret
      exact ⟨ret_int (by unfold absV; split <;> omega), rfl⟩
    · have h3 : -x < x := by omega
      go_enter Tryz.func44, Tryz.ntmps44
      go_wp2
      go_ret
      exact ⟨ret_int (by unfold absV; split <;> omega), rfl⟩

set_option maxHeartbeats 1000000 in
theorem boIs_any (W H : Int) (A : Option Addr) (n c : Nat) (a b p q : Int) (w : World) (hW : 1 ≤ W ∧ W ≤ 8) (hp : 0 ≤ p ∧ p ≤ 64) (hq : 0 ≤ q ∧ q ≤ 64) :
    Calls Tryz.prog 30 #[brd W H A n c, lpr a b, .int .i64 p, .int .i64 q] w fun e w' => e = .returned (.bool (leapB W a b p q)) ∧ Below w.heap.size w w' := by
  have hm := mod_bd (c := p) hW
  have hm' := mod_bd (c := q) hW
  have hd : 0 ≤ p / W ∧ p / W ≤ 64 := ⟨Int.ediv_nonneg hp.1 (by omega), Int.le_trans (Int.ediv_le_self _ hp.1) hp.2⟩
  have hd' : 0 ≤ q / W ∧ q / W ≤ 64 := ⟨Int.ediv_nonneg hq.1 (by omega), Int.le_trans (Int.ediv_le_self _ hq.1) hq.2⟩
  obtain ⟨hW1, hW2⟩ := hW
  obtain ⟨hp1, hp2⟩ := hp
  obtain ⟨hq1, hq2⟩ := hq
  obtain ⟨hm1, hm2, hm3⟩ := hm
  obtain ⟨hm4, hm5, hm6⟩ := hm'
  obtain ⟨hd1, hd2⟩ := hd
  obtain ⟨hd3, hd4⟩ := hd'
  go_enter Tryz.func30, Tryz.ntmps30
  go_wp2
  go_quiet ((go_at_call 44; exact Calls.quiet_of_same (quiet_same (l1Abs_any _ _ (by omega) (by omega)))))
  go_wp2
  all_goals (go_ret; refine ⟨ret_bool ?_, below_drewN (below_new (below_new (Below.refl _ _) _) _) _⟩)
  all_goals (rw [Bool.eq_iff_iff]; simp only [leapB, beq_iff_eq, decide_eq_true_eq, reduceCtorEq, true_iff, false_iff]; omega)

set_option maxHeartbeats 400000 in
theorem spotOf_exact (W H : Int) (A : Option Addr) (n c : Nat) (q : Int) (w : World) (hW : 1 ≤ W ∧ W ≤ 8) (hq : 0 ≤ q ∧ q ≤ 64) :
    Calls Tryz.prog 62 #[brd W H A n c, .int .i64 q] w fun e w' => e = .returned (lpr (q % W) (q / W)) ∧ ∃ m, w' = ((w.alloc (.cells #[.int .i64 W, .int .i64 H, .slice A n c] 30)).alloc (.cells #[.int .i64 (q % W), .int .i64 (q / W)] 72)).drewN m := by
  obtain ⟨hW1, hW2⟩ := hW
  obtain ⟨hq1, hq2⟩ := hq
  go_enter Tryz.func62, Tryz.ntmps62
  go_wp2
  go_region
  all_goals go_wp2
  exact bodyPost_ret (v := lpr (q % W) (q / W)) (by simp [results, Tryz.results62, go_sem]) rfl ⟨rfl, 1, rfl⟩

theorem keep3 {w w' : World} {β : Nat} {u v x : Value} (h0 : w.cell? ⟨β, 0, none⟩ = some u) (h1 : w.cell? ⟨β, 1, none⟩ = some v) (h2 : w.cell? ⟨β, 2, none⟩ = some x) (hl : β < w.heap.size) (hb : Below w.heap.size w w') :
    w'.cell? ⟨β, 0, none⟩ = some u ∧ w'.cell? ⟨β, 1, none⟩ = some v ∧ w'.cell? ⟨β, 2, none⟩ = some x := ⟨cell_keep h0 hl hb, cell_keep h1 hl hb, cell_keep h2 hl hb⟩

theorem keep4 {w w' : World} {β γ : Nat} {u v x y : Value} (h0 : w.cell? ⟨β, 0, none⟩ = some u) (h1 : w.cell? ⟨β, 1, none⟩ = some v) (h2 : w.cell? ⟨γ, 0, none⟩ = some x) (h3 : w.cell? ⟨γ, 1, none⟩ = some y) (hl : β < w.heap.size) (hm : γ < w.heap.size) (hb : Below w.heap.size w w') :
    w'.cell? ⟨β, 0, none⟩ = some u ∧ w'.cell? ⟨β, 1, none⟩ = some v ∧ w'.cell? ⟨γ, 0, none⟩ = some x ∧ w'.cell? ⟨γ, 1, none⟩ = some y := ⟨cell_keep h0 hl hb, cell_keep h1 hl hb, cell_keep h2 hm hb, cell_keep h3 hm hb⟩

def SpotAt (wr : World) (g : Nat) (x y : Int) : Prop := wr.cell? ⟨g, 0, none⟩ = some (.int .i64 x) ∧ wr.cell? ⟨g, 1, none⟩ = some (.int .i64 y) ∧ g < wr.heap.size

end Go.Proofs.YtjplcnbifcpebaaGreatDoor

namespace Go.Proofs.YtjplcnbifcpebaaGreatDoor
open Go.RowKit

def rangeI (b : Int) : List Int := (List.range (2 * b + 1).toNat).map fun i : Nat => (i : Int) - b
def stepB (a b x y : Int) : Bool := decide ((absV x = a ∧ absV y = b) ∨ (absV x = b ∧ absV y = a))
def stepsL (a b : Int) : List (Int × Int) := (rangeI b).flatMap fun x => ((rangeI b).filter (stepB a b x)).map fun y => (x, y)
def eightL (a b : Int) : List (Int × Int) := [(a, b), (-a, b), (a, -b), (-a, -b), (b, a), (-b, a), (b, -a), (-b, -a)]
def lexB (p q : Int × Int) : Bool := decide (p.1 < q.1 ∨ (p.1 = q.1 ∧ p.2 < q.2))
/-- insertion into a list in order -/
def insL (p : Int × Int) : List (Int × Int) → List (Int × Int)
  | [] => [p]
  | q :: t => if lexB q p then q :: insL p t else p :: q :: t
def sortL (l : List (Int × Int)) : List (Int × Int) := l.foldr insL []
theorem leaper_cases {a b : Int} (h : leaperB a b = true) {P : Int → Int → Prop} (hP : ∀ a ∈ [0,1,2,3,4,5], ∀ b ∈ [1,2,3,4,5], a ≤ b → P a b) : P a b := by
  simp [leaperB] at h
  obtain ⟨h1, h2, h3, h4⟩ := h
  refine hP a ?_ b ?_ h2 <;> simp <;> omega
theorem ins_perm (p : Int × Int) (l : List (Int × Int)) : (insL p l).Perm (p :: l) := by
  induction l with
  | nil => exact List.Perm.refl _
  | cons q t ih =>
    unfold insL
    split
    · exact (ih.cons q).trans (List.Perm.swap _ _ _)
    · exact List.Perm.refl _
theorem sort_perm (l : List (Int × Int)) : (sortL l).Perm l := by
  induction l with
  | nil => exact List.Perm.refl _
  | cons p t ih => exact (ins_perm p _).trans (ih.cons p)
def lexLe (p q : Int × Int) : Prop := lexB q p = false
theorem lexB_iff {p q : Int × Int} : lexB p q = true ↔ p.1 < q.1 ∨ (p.1 = q.1 ∧ p.2 < q.2) := by simp [lexB]
theorem lexLe_iff {p q : Int × Int} : lexLe p q ↔ p.1 < q.1 ∨ (p.1 = q.1 ∧ p.2 ≤ q.2) := by
  simp [lexLe, lexB]; omega
theorem ins_sorted {p : Int × Int} {l : List (Int × Int)} (h : l.Pairwise lexLe) : (insL p l).Pairwise lexLe := by
  induction l with
  | nil => simp [insL]
  | cons q t ih =>
    rw [List.pairwise_cons] at h
    unfold insL
    split
    · rename_i hq
      refine List.Pairwise.cons (fun x hx => ?_) (ih h.2)
      rcases List.mem_cons.1 ((ins_perm p t).mem_iff.1 hx) with rfl | hx
      · rw [lexLe_iff]; have := lexB_iff.1 hq; omega
      · exact h.1 x hx
    · rename_i hq
      have hpq : lexLe p q := by simpa [lexLe] using hq
      refine List.Pairwise.cons (fun x hx => ?_) (List.Pairwise.cons h.1 h.2)
      rcases List.mem_cons.1 hx with rfl | hx
      · exact hpq
      · have := h.1 x hx; rw [lexLe_iff] at *; omega
theorem sort_sorted (l : List (Int × Int)) : (sortL l).Pairwise lexLe := by
  induction l with
  | nil => exact List.Pairwise.nil
  | cons p t ih => exact ins_sorted ih
theorem lexLe_antisymm {p q : Int × Int} (h1 : lexLe p q) (h2 : lexLe q p) : p = q := by
  rw [lexLe_iff] at *
  ext <;> omega
theorem sorted_unique {l m : List (Int × Int)} (hp : l.Perm m) (hl : l.Pairwise lexLe) (hm : m.Pairwise lexLe) : l = m := by
  induction l generalizing m with
  | nil => exact (List.Perm.nil_eq hp)
  | cons p t ih =>
    cases m with
    | nil => exact absurd hp.length_eq (by simp)
    | cons q r =>
      rw [List.pairwise_cons] at hl hm
      have e : p = q := by
        have h1 : q ∈ p :: t := hp.mem_iff.2 List.mem_cons_self
        have h2 : p ∈ q :: r := hp.mem_iff.1 List.mem_cons_self
        rcases List.mem_cons.1 h1 with e | h1
        · exact e.symm
        · rcases List.mem_cons.1 h2 with e | h2
          · exact e
          · exact lexLe_antisymm (hl.1 q h1) (hm.1 p h2)
      subst e
      rw [ih (List.Perm.cons_inv hp) hl.2 hm.2]

theorem comp_sort_eight {a b : Int} (h : leaperB a b = true) : Lib.compactUpTo (sortL (eightL a b)).toArray 8 = stepsL a b :=
  leaper_cases h (P := fun a b => Lib.compactUpTo (sortL (eightL a b)).toArray 8 = stepsL a b) (by decide)
theorem stepB_iff {a b x y : Int} : stepB a b x y = true ↔ (absV x = a ∧ absV y = b) ∨ (absV x = b ∧ absV y = a) := by simp [stepB]
theorem rangeI_mem {b x : Int} : x ∈ rangeI b ↔ -b ≤ x ∧ x ≤ b := by
  simp only [rangeI, List.mem_map, List.mem_range]
  constructor
  · rintro ⟨i, hi, rfl⟩; omega
  · intro h; exact ⟨(x + b).toNat, by omega, by omega⟩
theorem stepsL_mem {a b : Int} {p : Int × Int} (h : leaperB a b = true) : p ∈ stepsL a b ↔ stepB a b p.1 p.2 = true := by
  simp only [leaperB, decide_eq_true_eq] at h
  simp only [stepsL, List.mem_flatMap, List.mem_map, List.mem_filter]
  constructor
  · rintro ⟨x, hx, y, ⟨hy, hs⟩, rfl⟩; exact hs
  · intro hs
    have h1 : -b ≤ p.1 ∧ p.1 ≤ b ∧ -b ≤ p.2 ∧ p.2 ≤ b := by
      rw [stepB_iff] at hs; unfold absV at hs
      split at hs <;> split at hs <;> omega
    exact ⟨p.1, rangeI_mem.2 (by omega), p.2, ⟨rangeI_mem.2 (by omega), hs⟩, rfl⟩
theorem rangeI_nodup (b : Int) : (rangeI b).Nodup := by
  rw [rangeI, List.Nodup, List.pairwise_map]
  exact List.nodup_range.imp (fun h => by omega)
theorem stepsL_nodup {a b : Int} (h : leaperB a b = true) : (stepsL a b).Nodup :=
  leaper_cases h (P := fun a b => (stepsL a b).Nodup) (by decide)
theorem stepsL_len {a b : Int} (h : leaperB a b = true) : (stepsL a b).length ≤ 8 :=
  leaper_cases h (P := fun a b => (stepsL a b).length ≤ 8) (by decide)
theorem stepsL_bd {a b : Int} {p : Int × Int} (h : leaperB a b = true) (hp : p ∈ stepsL a b) : -5 ≤ p.1 ∧ p.1 ≤ 5 ∧ -5 ≤ p.2 ∧ p.2 ≤ 5 := by
  have hs := (stepsL_mem h).1 hp
  simp only [leaperB, decide_eq_true_eq] at h
  rw [stepB_iff] at hs; unfold absV at hs
  split at hs <;> split at hs <;> omega
/-! ### The cells to which a leaper leaps -/
def leapsL (W H : Int) (hs : List Int) (a b c : Int) : List Int := (cellsL W H hs).filter (leapB W a b c)
def spotB (W H : Int) (hs : List Int) (x y : Int) : Bool := decide (0 ≤ x ∧ x < W) && hasB W H hs (y * W + x)
def endN (W c : Int) (p : Int × Int) : Int := (c / W + p.2) * W + (c % W + p.1)
def goesL (W H : Int) (hs : List Int) (a b c : Int) : List (Int × Int) := (stepsL a b).filter fun p => spotB W H hs (c % W + p.1) (c / W + p.2)
theorem spotB_iff {W H x y : Int} {hs : List Int} : spotB W H hs x y = true ↔ (0 ≤ x ∧ x < W) ∧ hasB W H hs (y * W + x) = true := by simp [spotB]
theorem rise_unique : ∀ {l m : List Int}, l.Pairwise (· < ·) → m.Pairwise (· < ·) → (∀ x, x ∈ l ↔ x ∈ m) → l = m
  | [], [], _, _, _ => rfl
  | [], y :: m, _, _, h => absurd ((h y).2 List.mem_cons_self) (by simp)
  | x :: l, [], _, _, h => absurd ((h x).1 List.mem_cons_self) (by simp)
  | x :: l, y :: m, hl, hm, h => by
    rw [List.pairwise_cons] at hl hm
    have e : x = y := by
      have h1 := (h x).1 List.mem_cons_self
      have h2 := (h y).2 List.mem_cons_self
      rcases List.mem_cons.1 h1 with e | h1
      · exact e
      · rcases List.mem_cons.1 h2 with e | h2
        · exact e.symm
        · have := hl.1 y h2; have := hm.1 x h1; omega
    subst e
    rw [rise_unique hl.2 hm.2 fun z => ?_]
    constructor
    · intro hz
      rcases List.mem_cons.1 ((h z).1 (List.mem_cons_of_mem _ hz)) with e | h'
      · have := hl.1 z hz; omega
      · exact h'
    · intro hz
      rcases List.mem_cons.1 ((h z).2 (List.mem_cons_of_mem _ hz)) with e | h'
      · have := hm.1 z hz; omega
      · exact h'
theorem rise_of_sorted : ∀ {l : List Int}, l.Pairwise (· ≤ ·) → l.Nodup → l.Pairwise (· < ·)
  | [], _, _ => List.Pairwise.nil
  | x :: l, h, hn => by
    rw [List.pairwise_cons] at h
    rw [List.nodup_cons] at hn
    exact List.Pairwise.cons (fun y hy => by have := h.1 y hy; have : x ≠ y := fun e => hn.1 (e ▸ hy); omega) (rise_of_sorted h.2 hn.2)
theorem mod_of {W x y : Int} (hx : 0 ≤ x ∧ x < W) : (y * W + x) % W = x ∧ (y * W + x) / W = y := by
  constructor
  · rw [Int.add_comm, Int.add_mul_emod_self_right]; exact Int.emod_eq_of_lt hx.1 hx.2
  · rw [Int.add_comm, Int.add_mul_ediv_right _ _ (by omega), Int.ediv_eq_zero_of_lt hx.1 hx.2]; omega
theorem num_of (W q : Int) : q / W * W + q % W = q := by have := Int.emod_add_mul_ediv q W; rw [Int.mul_comm]; omega
theorem end_parts {W H c : Int} {hs : List Int} {p : Int × Int} (h : spotB W H hs (c % W + p.1) (c / W + p.2) = true) : endN W c p % W = c % W + p.1 ∧ endN W c p / W = c / W + p.2 :=
  mod_of (spotB_iff.1 h).1
theorem ends_mem {W H a b c q : Int} {hs : List Int} (hW : 1 ≤ W) (hl : leaperB a b = true) : q ∈ (goesL W H hs a b c).map (endN W c) ↔ q ∈ leapsL W H hs a b c := by
  simp only [List.mem_map, goesL, leapsL, List.mem_filter, cellsL_mem]
  constructor
  · rintro ⟨p, ⟨hp, hs'⟩, rfl⟩
    obtain ⟨e1, e2⟩ := end_parts hs'
    refine ⟨(spotB_iff.1 hs').2, ?_⟩
    have := stepB_iff.1 ((stepsL_mem hl).1 hp)
    rw [leapB, e1, e2, decide_eq_true_eq, absV_sub _ (c % W + p.1), absV_sub _ (c / W + p.2), show c % W + p.1 - c % W = p.1 by omega, show c / W + p.2 - c / W = p.2 by omega]
    exact this
  · rintro ⟨hq, hlp⟩
    have hx0 := Int.emod_nonneg q (show W ≠ 0 by omega)
    have hx1 := Int.emod_lt_of_pos q (show 0 < W by omega)
    have e1 : c % W + (q % W - c % W) = q % W := by omega
    have e2 : c / W + (q / W - c / W) = q / W := by omega
    refine ⟨(q % W - c % W, q / W - c / W), ⟨(stepsL_mem hl).2 (stepB_iff.2 ?_), ?_⟩, ?_⟩
    · rw [leapB, decide_eq_true_eq, absV_sub (c % W), absV_sub (c / W)] at hlp; exact hlp
    · rw [e1, e2]; exact spotB_iff.2 ⟨⟨hx0, hx1⟩, by rw [num_of]; exact hq⟩
    · show (c / W + (q / W - c / W)) * W + (c % W + (q % W - c % W)) = q
      rw [e1, e2, num_of]
theorem ends_nodup {W H a b c : Int} {hs : List Int} (hl : leaperB a b = true) : ((goesL W H hs a b c).map (endN W c)).Nodup := by
  rw [List.Nodup, List.pairwise_map]
  have h := (stepsL_nodup hl).filter fun p => spotB W H hs (c % W + p.1) (c / W + p.2)
  refine List.Pairwise.imp_of_mem (fun {p q} hp hq hne he => hne ?_) h
  obtain ⟨e1, e2⟩ := end_parts (List.mem_filter.1 hp).2
  obtain ⟨e3, e4⟩ := end_parts (List.mem_filter.1 hq).2
  rw [he] at e1 e2
  ext <;> omega
theorem leapsL_rise (W H : Int) (hs : List Int) (a b c : Int) : (leapsL W H hs a b c).Pairwise (· < ·) := (cellsL_pairwise W H hs).filter _
theorem ends_sorted {W H a b c : Int} {hs l : List Int} (hW : 1 ≤ W) (hl : leaperB a b = true) (hp : l.Perm ((goesL W H hs a b c).map (endN W c))) (hs' : l.Pairwise (· ≤ ·)) : l = leapsL W H hs a b c :=
  rise_unique (rise_of_sorted hs' ((hp.nodup_iff).2 (ends_nodup hl))) (leapsL_rise ..) fun _ => (hp.mem_iff).trans (ends_mem hW hl)
theorem goesL_len {W H a b c : Int} {hs : List Int} (hW : 1 ≤ W) (hl : leaperB a b = true) : (goesL W H hs a b c).length = (leapsL W H hs a b c).length := by
  have h := (List.perm_ext_iff_of_nodup (ends_nodup (c := c) hl) ((leapsL_rise W H hs a b c).imp (fun h => by omega))).2 (fun x => ends_mem hW hl)
  have := h.length_eq
  rwa [List.length_map] at this

/-! ### Pairs -/
def leadsB (p : Int × Int) : Bool := decide (0 < p.2 ∨ (p.2 = 0 ∧ 0 < p.1))
theorem leads_iff {W H a b c : Int} {hs : List Int} {p : Int × Int} (hW : 1 ≤ W) (hp : p ∈ goesL W H hs a b c) : leadsB p = decide (c < endN W c p) := by
  obtain ⟨e1, e2⟩ := end_parts (List.mem_filter.1 hp).2
  have hb := (spotB_iff.1 (List.mem_filter.1 hp).2).1
  have hx0 := Int.emod_nonneg c (show W ≠ 0 by omega)
  have hx1 := Int.emod_lt_of_pos c (show 0 < W by omega)
  have hn := num_of W c
  have he : endN W c p = c / W * W + p.2 * W + (c % W + p.1) := by rw [endN, Int.add_mul]
  rw [leadsB, Bool.eq_iff_iff, decide_eq_true_eq, decide_eq_true_eq, he]
  have : p.2 * W + p.1 > 0 ↔ (0 < p.2 ∨ (p.2 = 0 ∧ 0 < p.1)) := by
    constructor
    · intro h
      rcases Int.lt_trichotomy p.2 0 with h2 | h2 | h2
      · have : p.2 * W ≤ (-1) * W := Int.mul_le_mul_of_nonneg_right (by omega) (by omega)
        omega
      · rw [h2] at h; omega
      · omega
    · rintro (h | ⟨h1, h2⟩)
      · have : 1 * W ≤ p.2 * W := Int.mul_le_mul_of_nonneg_right (by omega) (by omega)
        omega
      · rw [h1]; omega
  rw [← this]; omega
theorem leads_count {W H a b c : Int} {hs : List Int} (hW : 1 ≤ W) (hl : leaperB a b = true) : ((goesL W H hs a b c).filter leadsB).length = ((leapsL W H hs a b c).filter fun q => decide (c < q)).length := by
  have h := (List.perm_ext_iff_of_nodup (ends_nodup (c := c) hl) ((leapsL_rise W H hs a b c).imp (fun h => by omega))).2 (fun x => ends_mem hW hl)
  have h2 := (h.filter fun q => decide (c < q)).length_eq
  rw [List.filter_map, List.length_map] at h2
  rw [← h2]
  congr 1
  exact List.filter_congr fun p hp => leads_iff hW hp
theorem leapB_comm (W a b p q : Int) : leapB W a b p q = leapB W a b q p := by
  rw [leapB, leapB, absV_sub (p % W), absV_sub (p / W)]
theorem leapB_irr {W a b p : Int} (hl : leaperB a b = true) : leapB W a b p p = false := by
  simp only [leaperB, decide_eq_true_eq] at hl
  rw [leapB, decide_eq_false_iff_not, Int.sub_self, Int.sub_self]
  unfold absV; simp; omega
def sumL (l : List Int) : Int := l.foldl (· + ·) 0
theorem foldl_add (l : List Int) (z : Int) : l.foldl (· + ·) z = z + sumL l := by
  induction l generalizing z with
  | nil => simp [sumL]
  | cons x t ih =>
    have h : sumL (x :: t) = (0 + x) + sumL t := by rw [sumL, List.foldl_cons, ih]
    rw [List.foldl_cons, ih, h]; omega
theorem sumL_cons (x : Int) (t : List Int) : sumL (x :: t) = x + sumL t := by rw [sumL, List.foldl_cons, foldl_add]; omega
theorem sumL_snoc (x : Int) (t : List Int) : sumL (t ++ [x]) = sumL t + x := by rw [sumL, List.foldl_append]; rfl
theorem sumL_map_add (f g : Int → Int) (l : List Int) : sumL (l.map fun c => f c + g c) = sumL (l.map f) + sumL (l.map g) := by
  induction l with
  | nil => rfl
  | cons x t ih => simp only [List.map_cons, sumL_cons, ih]; omega
theorem count_as_sum (p : Int → Bool) (l : List Int) : ((l.filter p).length : Int) = sumL (l.map fun c => if p c then 1 else 0) := by
  induction l with
  | nil => rfl
  | cons x t ih =>
    rw [List.map_cons, sumL_cons, List.filter_cons]
    cases p x with
    | true => simp; omega
    | false => simp; omega
/-- Both directions of a relation: half of all pairs lead on. -/
theorem twice_pairs (R : Int → Int → Bool) (hR : ∀ p q, R p q = R q p) (hI : ∀ p, R p p = false) : ∀ {l : List Int}, l.Pairwise (· < ·) →
    2 * sumL (l.map fun c => (((l.filter (R c)).filter fun q => decide (c < q)).length : Int)) = sumL (l.map fun c => ((l.filter (R c)).length : Int))
  | [], _ => rfl
  | x :: t, h => by
    rw [List.pairwise_cons] at h
    have ih := twice_pairs R hR hI h.2
    simp only [List.map_cons, sumL_cons]
    have e1 : (((x :: t).filter (R x)).filter fun q => decide (x < q)) = t.filter (R x) := by
      rw [List.filter_cons, hI x, if_neg (by simp), List.filter_eq_self]
      intro q hq; simpa using h.1 q (List.mem_filter.1 hq).1
    have e2 : (x :: t).filter (R x) = t.filter (R x) := by rw [List.filter_cons, hI x, if_neg (by simp)]
    have e3 : (t.map fun c => ((((x :: t).filter (R c)).filter fun q => decide (c < q)).length : Int)) = t.map fun c => (((t.filter (R c)).filter fun q => decide (c < q)).length : Int) := by
      apply List.map_congr_left
      intro c hc
      have hxc := h.1 c hc
      rw [List.filter_cons]
      split
      · rw [List.filter_cons, if_neg (by simp; omega)]
      · rfl
    have e4 : (t.map fun c => (((x :: t).filter (R c)).length : Int)) = t.map fun c => (if R x c then 1 else 0) + ((t.filter (R c)).length : Int) := by
      apply List.map_congr_left
      intro c _
      rw [List.filter_cons, hR c x]
      cases R x c with
      | true => simp; omega
      | false => simp
    rw [e1, e2, e3, e4, sumL_map_add, ← count_as_sum]
    omega
theorem pairs_half {W H a b : Int} {hs : List Int} (hW : 1 ≤ W) (hl : leaperB a b = true) :
    sumL ((cellsL W H hs).map fun c => (((goesL W H hs a b c).filter leadsB).length : Int)) = sumL ((cellsL W H hs).map fun c => ((leapsL W H hs a b c).length : Int)) / 2 := by
  have h := twice_pairs (leapB W a b) (leapB_comm W a b) (fun p => leapB_irr hl) (cellsL_pairwise W H hs)
  have e : ((cellsL W H hs).map fun c => (((goesL W H hs a b c).filter leadsB).length : Int)) = (cellsL W H hs).map fun c => (((leapsL W H hs a b c).filter fun q => decide (c < q)).length : Int) := by
    apply List.map_congr_left
    intro c _
    rw [leads_count hW hl]
  rw [e]
  unfold leapsL
  omega
/-! ### Holes that are carried to another board -/
def insI (n : Int) : List Int → List Int
  | [] => [n]
  | x :: t => if x < n then x :: insI n t else if x = n then x :: t else n :: x :: t
def movedL (l : List Int) : List Int := l.foldl (fun acc n => insI n acc) []
theorem insI_mem (n : Int) (l : List Int) (x : Int) : x ∈ insI n l ↔ x = n ∨ x ∈ l := by
  induction l with
  | nil => simp [insI]
  | cons y t ih =>
    unfold insI
    split
    · simp only [List.mem_cons, ih]
      constructor
      · rintro (h | h | h) <;> simp [h]
      · rintro (h | h | h) <;> simp [h]
    · split
      · rename_i e; subst e; simp
      · simp
theorem insI_rise (n : Int) (l : List Int) (h : l.Pairwise (· < ·)) : (insI n l).Pairwise (· < ·) := by
  induction l with
  | nil => simp [insI]
  | cons y t ih =>
    rw [List.pairwise_cons] at h
    unfold insI
    split
    · refine List.Pairwise.cons (fun x hx => ?_) (ih h.2)
      rcases (insI_mem n t x).1 hx with rfl | hx
      · assumption
      · exact h.1 x hx
    · split
      · exact List.Pairwise.cons h.1 h.2
      · refine List.Pairwise.cons (fun x hx => ?_) (List.Pairwise.cons h.1 h.2)
        rcases List.mem_cons.1 hx with rfl | hx
        · omega
        · have := h.1 x hx; omega
theorem insI_len (n : Int) (l : List Int) : (insI n l).length ≤ l.length + 1 := by
  induction l with
  | nil => simp [insI]
  | cons y t ih =>
    unfold insI
    split
    · simp; omega
    · split <;> simp
theorem insI_pass {n : Int} {l : List Int} {k : Nat} (h : ∀ j, j < k → ∀ x, l[j]? = some x → x < n) : insI n l = l.take k ++ insI n (l.drop k) := by
  induction k generalizing l with
  | zero => simp
  | succ k ih =>
    cases l with
    | nil => simp
    | cons y t =>
      have hy : y < n := h 0 (by omega) y rfl
      rw [insI, if_pos hy, ih (l := t) (fun j hj x hx => h (j + 1) (by omega) x (by simpa using hx))]
      simp
theorem foldl_ins_rise (l acc : List Int) (h : acc.Pairwise (· < ·)) : (l.foldl (fun acc n => insI n acc) acc).Pairwise (· < ·) := by
  induction l generalizing acc with
  | nil => exact h
  | cons n t ih => exact ih _ (insI_rise n acc h)
theorem foldl_ins_mem (l acc : List Int) (x : Int) : x ∈ l.foldl (fun acc n => insI n acc) acc ↔ x ∈ l ∨ x ∈ acc := by
  induction l generalizing acc with
  | nil => simp
  | cons n t ih =>
    rw [List.foldl_cons, ih, insI_mem, List.mem_cons]
    constructor
    · rintro (h | h | h) <;> simp [h]
    · rintro ((h | h) | h) <;> simp [h]
theorem movedL_rise (l : List Int) : (movedL l).Pairwise (· < ·) := foldl_ins_rise l [] List.Pairwise.nil
theorem movedL_mem (l : List Int) (x : Int) : x ∈ movedL l ↔ x ∈ l := by rw [movedL, foldl_ins_mem]; simp
theorem movedL_len (l : List Int) : (movedL l).length ≤ l.length := by
  have : ∀ acc : List Int, (l.foldl (fun acc n => insI n acc) acc).length ≤ l.length + acc.length := by
    intro acc
    induction l generalizing acc with
    | nil => simp
    | cons n t ih => have h1 := ih (insI n acc); have h2 := insI_len n acc; rw [List.foldl_cons, List.length_cons]; omega
  have h := this []
  simp only [List.length_nil, Nat.add_zero] at h
  exact h
theorem movedL_snoc (l : List Int) (n : Int) : movedL (l ++ [n]) = insI n (movedL l) := by simp [movedL]
theorem moved_of_sorted {l m : List Int} (hp : m.Perm l) (hn : l.Nodup) (hs : m.Pairwise (· ≤ ·)) : m = movedL l :=
  rise_unique (rise_of_sorted hs (hp.nodup_iff.2 hn)) (movedL_rise l) fun x => hp.mem_iff.trans (movedL_mem l x).symm
theorem turn_inj {W H c d : Int} (hc : 0 ≤ c ∧ c < W * H) (hd : 0 ≤ d ∧ d < W * H) (hW : 1 ≤ W) (h : turnV W H c = turnV W H d) : c = d := by
  have b1 : 0 ≤ c / W ∧ c / W < H := ⟨Int.ediv_nonneg hc.1 (by omega), Int.ediv_lt_of_lt_mul (by omega) (by rw [Int.mul_comm]; exact hc.2)⟩
  have b2 : 0 ≤ d / W ∧ d / W < H := ⟨Int.ediv_nonneg hd.1 (by omega), Int.ediv_lt_of_lt_mul (by omega) (by rw [Int.mul_comm]; exact hd.2)⟩
  have e1 := mod_of (W := H) (x := H - 1 - c / W) (y := c % W) (by omega)
  have e2 := mod_of (W := H) (x := H - 1 - d / W) (y := d % W) (by omega)
  rw [show c % W * H + (H - 1 - c / W) = d % W * H + (H - 1 - d / W) by unfold turnV at h; omega] at e1
  have n1 := num_of W c; have n2 := num_of W d
  have f1 : c % W = d % W := e1.2.symm.trans e2.2
  have f2 : c / W = d / W := by have := e1.1.symm.trans e2.1; omega
  rw [← n1, ← n2, f1, f2]
theorem mirror_inj {W c d : Int} (hW : 1 ≤ W) (h : mirrorV W c = mirrorV W d) : c = d := by
  have x0 := Int.emod_nonneg c (show W ≠ 0 by omega)
  have x1 := Int.emod_lt_of_pos c (show 0 < W by omega)
  have y0 := Int.emod_nonneg d (show W ≠ 0 by omega)
  have y1 := Int.emod_lt_of_pos d (show 0 < W by omega)
  have n1 := num_of W c; have n2 := num_of W d
  have e1 := mod_of (W := W) (x := W - 1 - c % W) (y := c / W) (by omega)
  have e2 := mod_of (W := W) (x := W - 1 - d % W) (y := d / W) (by omega)
  rw [show c / W * W + (W - 1 - c % W) = d / W * W + (W - 1 - d % W) by unfold mirrorV at h; omega] at e1
  have f1 : c % W = d % W := by have := e1.1.symm.trans e2.1; omega
  have f2 : c / W = d / W := e1.2.symm.trans e2.2
  rw [← n1, ← n2, f1, f2]
theorem nodup_map_on {f : Int → Int} {l : List Int} (hn : l.Nodup) (hf : ∀ x ∈ l, ∀ y ∈ l, f x = f y → x = y) : (l.map f).Nodup := by
  rw [List.Nodup, List.pairwise_map]
  exact hn.imp_of_mem fun hx hy hne he => hne (hf _ hx _ hy he)

end Go.Proofs.YtjplcnbifcpebaaGreatDoor

namespace Go.Proofs.YtjplcnbifcpebaaGreatDoor

/-- The number of one bits among the lowest n. -/
def popN : Nat → Nat → Nat
  | 0, _ => 0
  | n + 1, x => x % 2 + popN n (x / 2)

theorem popN_append : ∀ (a b x : Nat), popN (a + b) x = popN a (x % 2 ^ a) + popN b (x / 2 ^ a)
  | 0, b, x => by simp [popN]
  | a + 1, b, x => by
    rw [show a + 1 + b = (a + b) + 1 by omega]
    simp only [popN]
    rw [popN_append a b (x / 2)]
    have e1 : x % 2 ^ (a + 1) % 2 = x % 2 := by
      rw [Nat.pow_succ, Nat.mul_comm]
      rw [Nat.mod_mul_right_mod]
    have e2 : x % 2 ^ (a + 1) / 2 = x / 2 % 2 ^ a := by
      rw [Nat.pow_succ, Nat.mul_comm, Nat.mod_mul_right_div_self]
    have e3 : x / 2 / 2 ^ a = x / 2 ^ (a + 1) := by
      rw [Nat.div_div_eq_div_mul, Nat.pow_succ, Nat.mul_comm]
    rw [e1, e2, e3]; omega

theorem and_split (q r m c : Nat) (hr : r < 256) (hc : c < 256) : (256 * q + r) &&& (256 * m + c) = 256 * (q &&& m) + (r &&& c) := by
  have h1 := Nat.and_div_two_pow (a := 256 * q + r) (b := 256 * m + c) (n := 8)
  have h2 := Nat.and_mod_two_pow (a := 256 * q + r) (b := 256 * m + c) (n := 8)
  have e1 : (256 * q + r) / 2 ^ 8 = q := by omega
  have e2 : (256 * m + c) / 2 ^ 8 = m := by omega
  have e3 : (256 * q + r) % 2 ^ 8 = r := by omega
  have e4 : (256 * m + c) % 2 ^ 8 = c := by omega
  rw [e1, e2] at h1; rw [e3, e4] at h2
  omega

theorem shr_split (k q r m c : Nat) (hk : k ≤ 8) (hr : r < 256) (hc : c < 2 ^ (8 - k)) : ((256 * q + r) / 2 ^ k) &&& (256 * m + c) = 256 * ((q / 2 ^ k) &&& m) + ((r / 2 ^ k) &&& c) := by
  have hp : 2 ^ k * 2 ^ (8 - k) = 256 := by rw [← Nat.pow_add, show k + (8 - k) = 8 by omega]
  have hc8 : c < 256 := Nat.lt_of_lt_of_le hc (by rw [← hp]; exact Nat.le_mul_of_pos_left _ (Nat.two_pow_pos k))
  have hX : (256 * q + r) / 2 ^ k = 256 * (q / 2 ^ k) + ((256 * q + r) / 2 ^ k) % 256 := by
    have h1 : (256 * q + r) / 2 ^ k / 256 = q / 2 ^ k := by
      have e0 : (256 * q + r) / 256 = q := by omega
      rw [Nat.div_div_eq_div_mul, Nat.mul_comm (2 ^ k), ← Nat.div_div_eq_div_mul, e0]
    have := Nat.div_add_mod ((256 * q + r) / 2 ^ k) 256
    rw [h1] at this; omega
  rw [hX, and_split _ _ _ _ (Nat.mod_lt _ (by decide)) hc8]
  congr 1
  -- the low byte behind the mask
  have hz : ∀ y, y &&& c = (y % 2 ^ (8 - k)) &&& c := by
    intro y
    have h2 := Nat.and_mod_two_pow (a := y) (b := c) (n := 8 - k)
    rw [Nat.mod_eq_of_lt hc, Nat.mod_eq_of_lt (Nat.lt_of_le_of_lt Nat.and_le_right hc)] at h2
    exact h2
  rw [hz ((256 * q + r) / 2 ^ k % 256)]
  have e5 : (256 * q + r) / 2 ^ k % 256 % 2 ^ (8 - k) = r / 2 ^ k := by
    rw [Nat.mod_mod_of_dvd _ ⟨2 ^ k, by rw [Nat.mul_comm, hp]⟩]
    rw [← Nat.mod_mul_right_div_self, hp]
    congr 1; omega
  rw [e5]

/-- A mask of n bytes. -/
def maskN (c : Nat) : Nat → Nat
  | 0 => 0
  | n + 1 => 256 * maskN c n + c

def sw1 (n x : Nat) : Nat := ((x / 2) &&& maskN 85 n) + (x &&& maskN 85 n)
def sw2 (n x : Nat) : Nat := ((x / 4) &&& maskN 51 n) + (x &&& maskN 51 n)
def sw3 (n x : Nat) : Nat := ((x / 16) + x) &&& maskN 15 n
def b1 (r : Nat) : Nat := ((r / 2) &&& 85) + (r &&& 85)
def b2 (r : Nat) : Nat := ((r / 4) &&& 51) + (r &&& 51)

theorem sw1_step (n q r : Nat) (hr : r < 256) : sw1 (n + 1) (256 * q + r) = 256 * sw1 n q + b1 r := by
  have hm : maskN 85 (n + 1) = 256 * maskN 85 n + 85 := rfl
  unfold sw1 b1
  rw [hm]
  have h1 := shr_split 1 q r (maskN 85 n) 85 (by decide) hr (by decide)
  have h2 := and_split q r (maskN 85 n) 85 hr (by decide)
  simp only [Nat.pow_one] at h1
  rw [h1, h2]; omega

theorem sw2_step (n q r : Nat) (hr : r < 256) : sw2 (n + 1) (256 * q + r) = 256 * sw2 n q + b2 r := by
  have hm : maskN 51 (n + 1) = 256 * maskN 51 n + 51 := rfl
  unfold sw2 b2
  rw [hm]
  have h1 := shr_split 2 q r (maskN 51 n) 51 (by decide) hr (by decide)
  have h2 := and_split q r (maskN 51 n) 51 hr (by decide)
  simp only [show (2:Nat) ^ 2 = 4 by decide] at h1
  rw [h1, h2]; omega

theorem and15 (x : Nat) : x &&& 15 = x % 16 := Nat.and_two_pow_sub_one_eq_mod x 4

theorem sw3_step (n q r : Nat) (hr : r < 256) (h0 : r % 16 ≤ 4) (h1 : r / 16 ≤ 4) (h2 : q % 16 ≤ 4) : sw3 (n + 1) (256 * q + r) = 256 * sw3 n q + (r / 16 + r % 16) := by
  have hm : maskN 15 (n + 1) = 256 * maskN 15 n + 15 := rfl
  unfold sw3
  rw [hm]
  have e : (256 * q + r) / 16 + (256 * q + r) = 256 * (q / 16 + q) + (16 * (q % 16 + r / 16) + (r / 16 + r % 16)) := by omega
  rw [e, and_split _ _ _ _ (by omega) (by decide), and15]
  congr 1
  omega

theorem byte_fact : ∀ r : Fin 256, b1 r.val < 256 ∧ b2 (b1 r.val) % 16 ≤ 4 ∧ b2 (b1 r.val) / 16 ≤ 4 ∧ b2 (b1 r.val) / 16 + b2 (b1 r.val) % 16 = popN 8 r.val := by decide +kernel

/-- The three steps, byte by byte. -/
theorem sw_step (n q r : Nat) (hr : r < 256) (hq : sw2 n (sw1 n q) % 16 ≤ 4) :
    sw2 (n + 1) (sw1 (n + 1) (256 * q + r)) % 16 ≤ 4 ∧ sw3 (n + 1) (sw2 (n + 1) (sw1 (n + 1) (256 * q + r))) = 256 * sw3 n (sw2 n (sw1 n q)) + popN 8 r := by
  obtain ⟨f1, f2, f3, f4⟩ := byte_fact ⟨r, hr⟩
  simp only at f1 f2 f3 f4
  rw [sw1_step n q r hr, sw2_step n _ _ f1]
  refine ⟨by omega, ?_⟩
  rw [sw3_step n _ _ (by omega) f2 f3 hq, f4]

theorem popN_le : ∀ n x, popN n x ≤ n
  | 0, _ => by simp [popN]
  | n + 1, x => by simp only [popN]; have := popN_le n (x / 2); omega

/-- All bytes. -/
def bytesOf : Nat → Nat → Nat
  | 0, _ => 0
  | n + 1, x => 256 * bytesOf n (x / 256) + popN 8 (x % 256)

theorem bytesOf_zero (x : Nat) : bytesOf 0 x = 0 := rfl
theorem bytesOf_succ (n x : Nat) : bytesOf (n + 1) x = 256 * bytesOf n (x / 256) + popN 8 (x % 256) := rfl

theorem sw_all : ∀ n x, x < 256 ^ n → sw2 n (sw1 n x) % 16 ≤ 4 ∧ sw3 n (sw2 n (sw1 n x)) = bytesOf n x
  | 0, x, h => by
    have : x = 0 := by simpa using h
    subst this; decide
  | n + 1, x, h => by
    have hx : x = 256 * (x / 256) + x % 256 := by omega
    obtain ⟨i1, i2⟩ := sw_all n (x / 256) (by rw [Nat.pow_succ] at h; exact Nat.div_lt_of_lt_mul (by omega))
    obtain ⟨j1, j2⟩ := sw_step n (x / 256) (x % 256) (by omega) i1
    rw [← hx] at j1 j2
    exact ⟨j1, by rw [j2, i2, bytesOf]⟩

theorem popN_bytes (n x : Nat) (k : Nat) (h : n = 8 + k) : popN n x = popN 8 (x % 256) + popN k (x / 256) := by
  subst h; exact popN_append 8 k x

theorem div_of_split (M a q X : Nat) (e : X = a + M * q) (h : a < M) : X / M = q := by
  rw [e, Nat.add_mul_div_left _ _ (by omega), Nat.div_eq_of_lt h]; omega

theorem swar_sum (B0 B1 B2 B3 B4 B5 B6 B7 x x1 x2 x3 : Nat) (h0 : B0 ≤ 8) (h1 : B1 ≤ 8) (h2 : B2 ≤ 8) (h3 : B3 ≤ 8) (h4 : B4 ≤ 8) (h5 : B5 ≤ 8) (h6 : B6 ≤ 8) (h7 : B7 ≤ 8)
    (e : x = B0 + 256 * (B1 + 256 * (B2 + 256 * (B3 + 256 * (B4 + 256 * (B5 + 256 * (B6 + 256 * B7)))))))
    (e1 : x1 = x + x / 256) (e2 : x2 = x1 + x1 / 65536) (e3 : x3 = x2 + x2 / 4294967296) :
    x3 % 128 = B0 + B1 + B2 + B3 + B4 + B5 + B6 + B7 ∧ x3 < 9223372036854775808 := by
  have d1 := div_of_split 256 B0 _ x e (by omega)
  rw [d1] at e1
  have d2 := div_of_split 65536 ((B0 + B1) + 256 * (B1 + B2)) ((B2 + B3) + 256 * ((B3 + B4) + 256 * ((B4 + B5) + 256 * ((B5 + B6) + 256 * ((B6 + B7) + 256 * B7))))) x1 (by omega) (by omega)
  rw [d2] at e2
  have d3 := div_of_split 4294967296 ((B0 + B1 + (B2 + B3)) + 256 * ((B1 + B2 + (B3 + B4)) + 256 * ((B2 + B3 + (B4 + B5)) + 256 * (B3 + B4 + (B5 + B6))))) ((B4 + B5 + (B6 + B7)) + 256 * ((B5 + B6 + B7) + 256 * ((B6 + B7) + 256 * B7))) x2 (by omega) (by omega)
  rw [d3] at e3
  clear d1 d2 d3
  have f : x3 = (B0 + B1 + B2 + B3 + B4 + B5 + B6 + B7) + 256 * ((B1 + B2 + (B3 + B4) + (B5 + B6 + B7)) + 256 * ((B2 + B3 + (B4 + B5) + (B6 + B7)) + 256 * ((B3 + B4 + (B5 + B6) + B7) + 256 * ((B4 + B5 + (B6 + B7)) + 256 * ((B5 + B6 + B7) + 256 * ((B6 + B7) + 256 * B7)))))) := by omega
  clear e e1 e2 e3
  subst f
  constructor
  · rw [Nat.add_mod, Nat.mod_eq_of_lt (b := 128) (a := B0 + B1 + B2 + B3 + B4 + B5 + B6 + B7) (by omega), show (256 : Nat) = 128 * 2 by rfl, Nat.mul_assoc 128 2, Nat.mul_mod_right, Nat.add_zero, Nat.mod_eq_of_lt (by omega)]
  · omega

/-- Go's text of bits.OnesCount64. -/
theorem onesCount64 (x y1 y2 y3 x1 x2 x3 : Nat) (hx : x < 18446744073709551616)
    (e1 : y1 = ((x / 2) &&& 6148914691236517205) + (x &&& 6148914691236517205))
    (e2 : y2 = ((y1 / 4) &&& 3689348814741910323) + (y1 &&& 3689348814741910323))
    (e3 : y3 = ((y2 / 16) + y2) &&& 1085102592571150095)
    (f1 : x1 = y3 + y3 / 256) (f2 : x2 = x1 + x1 / 65536) (f3 : x3 = x2 + x2 / 4294967296) :
    x3 % 128 = popN 64 x ∧ x3 < 9223372036854775808 := by
  have m0 : maskN 85 8 = 6148914691236517205 := by decide
  have m1 : maskN 51 8 = 3689348814741910323 := by decide
  have m2 : maskN 15 8 = 1085102592571150095 := by decide
  have hy : y3 = bytesOf 8 x := by
    have := (sw_all 8 x (by omega)).2
    rw [← this, e3, e2, e1]
    unfold sw3 sw2 sw1
    rw [m0, m1, m2]
  have hp : popN 64 x = popN 8 (x % 256) + (popN 8 (x / 256 % 256) + (popN 8 (x / 256 / 256 % 256) + (popN 8 (x / 256 / 256 / 256 % 256) + (popN 8 (x / 256 / 256 / 256 / 256 % 256) + (popN 8 (x / 256 / 256 / 256 / 256 / 256 % 256) + (popN 8 (x / 256 / 256 / 256 / 256 / 256 / 256 % 256) + (popN 8 (x / 256 / 256 / 256 / 256 / 256 / 256 / 256 % 256)))))))) := by
    rw [popN_bytes 64 x 56 rfl, popN_bytes 56 _ 48 rfl, popN_bytes 48 _ 40 rfl, popN_bytes 40 _ 32 rfl, popN_bytes 32 _ 24 rfl, popN_bytes 24 _ 16 rfl, popN_bytes 16 _ 8 rfl]
    rw [popN_bytes 8 (x / 256 / 256 / 256 / 256 / 256 / 256 / 256) 0 rfl]; exact congrArg _ (congrArg _ (congrArg _ (congrArg _ (congrArg _ (congrArg _ (congrArg _ (Nat.add_zero _)))))))
  have l := fun r => popN_le 8 r
  rw [hp]
  have hb : bytesOf 8 x = popN 8 (x % 256) + 256 * (popN 8 (x / 256 % 256) + 256 * (popN 8 (x / 256 / 256 % 256) + 256 * (popN 8 (x / 256 / 256 / 256 % 256) + 256 * (popN 8 (x / 256 / 256 / 256 / 256 % 256) + 256 * (popN 8 (x / 256 / 256 / 256 / 256 / 256 % 256) + 256 * (popN 8 (x / 256 / 256 / 256 / 256 / 256 / 256 % 256) + 256 * popN 8 (x / 256 / 256 / 256 / 256 / 256 / 256 / 256 % 256))))))) := by
    rw [bytesOf_succ 7, bytesOf_succ 6, bytesOf_succ 5, bytesOf_succ 4, bytesOf_succ 3, bytesOf_succ 2, bytesOf_succ 1, bytesOf_succ 0, bytesOf_zero]
    simp only [Nat.mul_zero, Nat.zero_add, Nat.add_comm]
  rw [hb] at hy
  have hl := swar_sum _ _ _ _ _ _ _ _ y3 x1 x2 x3 (l (x % 256)) (l (x / 256 % 256)) (l (x / 256 / 256 % 256)) (l (x / 256 / 256 / 256 % 256)) (l (x / 256 / 256 / 256 / 256 % 256)) (l (x / 256 / 256 / 256 / 256 / 256 % 256)) (l (x / 256 / 256 / 256 / 256 / 256 / 256 % 256)) (l (x / 256 / 256 / 256 / 256 / 256 / 256 / 256 % 256)) hy f1 f2 f3
  refine ⟨?_, hl.2⟩
  rw [hl.1]
  simp only [Nat.add_assoc]

theorem popN_or : ∀ (n x c : Nat), c < n → popN n (x ||| 2 ^ c) = popN n x + if x.testBit c then 0 else 1
  | 0, _, _, h => by omega
  | n + 1, x, 0, _ => by
    simp only [popN, Nat.pow_zero]
    have e1 : (x ||| 1) % 2 = 1 := by
      have h := Nat.or_mod_two_pow (a := x) (b := 1) (n := 1)
      rcases Nat.mod_two_eq_zero_or_one x with h0 | h0
      · rw [Nat.pow_one, h0] at h; exact h
      · rw [Nat.pow_one, h0] at h; exact h
    have e2 : (x ||| 1) / 2 = x / 2 := by
      have := Nat.or_div_two_pow (a := x) (b := 1) (n := 1)
      simpa using this
    rw [e1, e2, Nat.testBit_zero]
    by_cases h : x % 2 = 1
    · simp [h]
    · have : x % 2 = 0 := by omega
      simp [this]; omega
  | n + 1, x, c + 1, h => by
    simp only [popN]
    have e1 : (x ||| 2 ^ (c + 1)) % 2 = x % 2 := by
      have h := Nat.or_mod_two_pow (a := x) (b := 2 ^ (c + 1)) (n := 1)
      have hz : 2 ^ (c + 1) % 2 = 0 := by rw [Nat.pow_succ]; omega
      simpa [hz] using h
    have e2 : (x ||| 2 ^ (c + 1)) / 2 = x / 2 ||| 2 ^ c := by
      have h := Nat.or_div_two_pow (a := x) (b := 2 ^ (c + 1)) (n := 1)
      have hz : 2 ^ (c + 1) / 2 = 2 ^ c := by rw [Nat.pow_succ]; omega
      simpa [hz] using h
    rw [e1, e2, popN_or n (x / 2) c (by omega), Nat.testBit_succ]
    omega

/-- The set of a list of cells. -/
def setBits (xs : List Nat) : Nat := xs.foldl (fun s c => s ||| 2 ^ c) 0

theorem setBits_snoc (xs : List Nat) (c : Nat) : setBits (xs ++ [c]) = setBits xs ||| 2 ^ c := by
  simp [setBits, List.foldl_append]

theorem setBits_test (c : Nat) : ∀ (n : Nat) (xs : List Nat), xs.length = n → ((setBits xs).testBit c = true ↔ c ∈ xs)
  | 0, xs, h => by
    have : xs = [] := List.eq_nil_of_length_eq_zero h
    subst this; simp [setBits]
  | n + 1, xs, h => by
    obtain ⟨ys, y, rfl⟩ : ∃ ys y, xs = ys ++ [y] := ⟨xs.dropLast, xs.getLast (by intro e; simp [e] at h), (List.dropLast_concat_getLast _).symm⟩
    rw [setBits_snoc, Nat.testBit_or, Bool.or_eq_true, setBits_test c n ys (by simpa using h), Nat.testBit_two_pow]
    simp [eq_comm]

theorem setBits_lt (xs : List Nat) (h : ∀ c ∈ xs, c < 64) : setBits xs < 18446744073709551616 := by
  apply Nat.lt_pow_two_of_testBit (n := 64)
  intro i hi
  by_cases hm : (setBits xs).testBit i = true
  · have := (setBits_test i _ xs rfl).1 hm
    have := h i this; omega
  · simpa using hm

/-- A list has a bit for each of its cells just where none stands in it twice. -/
theorem popN_set : ∀ (n : Nat) (xs : List Nat), xs.length = n → (∀ c ∈ xs, c < 64) → popN 64 (setBits xs) ≤ xs.length ∧ (popN 64 (setBits xs) = xs.length ↔ xs.Nodup)
  | 0, xs, h, _ => by
    have : xs = [] := List.eq_nil_of_length_eq_zero h
    subst this; simp [setBits]; decide
  | n + 1, xs, h, hc => by
    obtain ⟨ys, y, rfl⟩ : ∃ ys y, xs = ys ++ [y] := ⟨xs.dropLast, xs.getLast (by intro e; simp [e] at h), (List.dropLast_concat_getLast _).symm⟩
    obtain ⟨i1, i2⟩ := popN_set n ys (by simpa using h) (fun c hm => hc c (by simp [hm]))
    rw [setBits_snoc, popN_or 64 _ y (hc y (by simp))]
    have ht := setBits_test y _ ys rfl
    have hn : (ys ++ [y]).Nodup ↔ ys.Nodup ∧ y ∉ ys := by
      rw [List.nodup_append]
      simp
      intro _
      constructor
      · intro h hm; exact h y hm rfl
      · intro h a ha e; exact h (e ▸ ha)
    rw [hn]
    by_cases hm : (setBits ys).testBit y = true
    · have := ht.1 hm
      simp [hm]
      constructor
      · omega
      · constructor
        · intro h; omega
        · intro h; exact absurd this h.2
    · have hm' : y ∉ ys := fun h => hm (ht.2 h)
      simp [hm]
      constructor
      · omega
      · rw [i2]; constructor
        · intro h; exact ⟨h, hm'⟩
        · intro h; exact h.1
end Go.Proofs.YtjplcnbifcpebaaGreatDoor

namespace Go.Proofs
open Go.Shelf
def Tryz.tz64_ren : Go.Shelf.Ren := ⟨fun | 29 => 54 | n => n, fun | 22 => 44 | 3 => 3 | 4 => 4 | 25 => 91 | 54 => 92 | 0 => 0 | 5 => 5 | n => n, fun | 1 => 0 | n => n⟩
theorem Tryz.tz64 : Go.Proofs.Lays7.n29 Tryz.prog Tryz.tz64_ren := {
  mixed := by kernel_rfl
  f29 := Tryz.func54.trans (congrArg some (by kernel_rfl))
  t0 := Tryz.underlying0
  a0 := Tryz.isAgg0
  z0 := Tryz.sizeOf0
  v0 := Tryz.zeroValue0
  i0 := by kernel_rfl
  t3 := Tryz.underlying3
  a3 := Tryz.isAgg3
  z3 := Tryz.sizeOf3
  v3 := Tryz.zeroValue3
  i3 := by kernel_rfl
  t4 := Tryz.underlying4
  a4 := Tryz.isAgg4
  z4 := Tryz.sizeOf4
  v4 := Tryz.zeroValue4
  i4 := by kernel_rfl
  t5 := Tryz.underlying5
  a5 := Tryz.isAgg5
  z5 := Tryz.sizeOf5
  v5 := Tryz.zeroValue5
  i5 := by kernel_rfl
  t22 := Tryz.underlying44
  a22 := Tryz.isAgg44
  z22 := Tryz.sizeOf44
  v22 := Tryz.zeroValue44
  i22 := by kernel_rfl
  t25 := Tryz.underlying91
  a25 := Tryz.isAgg91
  z25 := Tryz.sizeOf91
  v25 := Tryz.zeroValue91
  i25 := by kernel_rfl
  t54 := Tryz.underlying92
  a54 := Tryz.isAgg92
  z54 := Tryz.sizeOf92
  g1 := by kernel_rfl }
end Go.Proofs
