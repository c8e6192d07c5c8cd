/-
  Cells picked by their distances; the contract of CellsWithin, the model.
-/
import Derived.Test.YtagdmdjofcjilaaT6b
import Derived.Test.YtagdmdjofcjilaaQ4
import Derived.Deep.MidRow
namespace Go.Proofs.Ytagdmdjofcjilaa
open Go.RowKit

theorem range_laid (w : World) (L : List Int) (E : TypeId) : (w.alloc (.cells (L.map (Value.int .i64)).toArray E)).rangeAt w.heap.size 0 (L.map (Value.int .i64)) := fun j v hv => by
  have h := newbox (w := w) (w' := w.alloc (.cells (L.map (Value.int .i64)).toArray E)) (cs := (L.map (Value.int .i64)).toArray) (t := E) (Below.refl _ _) j
  rw [Nat.zero_add, h, ← Array.getElem?_toList, List.toList_toArray]; exact hv
theorem range_keep {w w' : World} {g o : Nat} {cs : List Value} (h : w.rangeAt g o cs) (hg : g < w.heap.size) (hb : Below w.heap.size w w') : w'.rangeAt g o cs := fun j v hv => cell_keep (h j v hv) hg hb
theorem l1In_b (n lo hi : Int) (w : World) : Calls Try.prog 61 #[.int .i64 n, .int .i64 lo, .int .i64 hi] w fun e w' => e = .returned (.bool (inB n lo hi)) ∧ Below w.heap.size w w' :=
  (l1In_any n lo hi w).mono fun _ _ h => ⟨h.1, h.2 ▸ Below.refl _ _⟩
/-- Whether place i of the list has a distance of at most q. -/
def nearB (L : List Int) (q : Int) (i : Nat) : Bool := inB (L.getD i (-1)) 0 q
theorem near_in {L : List Int} {q x : Int} {i : Nat} (h : L[i]? = some x) : nearB L q i = inB x 0 q := by rw [nearB, List.getD_eq_getElem?_getD, h]; rfl
theorem getD_pad (L : List Int) (m i : Nat) : (L ++ List.replicate m (-1)).getD i (-1) = L.getD i (-1) := by
  rw [List.getD_eq_getElem?_getD, List.getD_eq_getElem?_getD]
  rcases Nat.lt_or_ge i L.length with h | h
  · rw [List.getElem?_append_left h]
  · rw [List.getElem?_append_right h, List.getElem?_eq_none h, List.getElem?_replicate]
    split <;> rfl
def okWithin (W H : Int) (xs : List Int) (a b p q : Int) : Bool := onB W H xs a b [p] && inB q 0 12
def withinV (W H : Int) (xs : List Int) (a b p q : Int) : List Int := if okWithin W H xs a b p q = true then selTo (nearB (distL W H xs a b p) q) (W * H).toNat else []

set_option maxRecDepth 100000 in
set_option maxHeartbeats 2000000 in
theorem spec_CellsWithin (W H : Int) (A : Option Addr) (n c : Nat) (xs : List Int) (a b : Int) (p : Int) (q : Int) (w : World) (ha : Rd w A n xs) :
    Calls Try.prog 30 #[brd W H A n c, lpr a b, .int .i64 p, .int .i64 q] w fun e w' => ∃ A' n' c', e = .returned (.tuple #[.slice A' n' c', .bool (okWithin W H xs a b p q)]) ∧ OwnI 3 w' w.heap.size A' n' c' (withinV W H xs a b p q) ∧ Below w.heap.size w w' := by
  obtain ⟨i0, hi, hz0, hz1, hz2⟩ := info_parts infoI
  have HI := Lib.hid hi; have HZ0 := Lib.hid hz0; have HZ1 := Lib.hid hz1; have HZ2 := Lib.hid hz2
  clear hi hz0 hz1 hz2
  by_cases hoo : onB W H xs a b [p, p] = true
  · by_cases hiq : inB q 0 12 = true
    · have ho := hoo; rw [onB_same] at ho
      have FO := on_facts (onB_one ho).1
      have HP := Lib.hid (onB_one ho).2
      obtain ⟨N, hN⟩ : ∃ N, N = (W * H).toNat := ⟨_, rfl⟩
      rw [← hN] at FO
      have hp0 := (hasB_iff.1 HP.out).1
      rw [FO.wh] at hp0
      obtain ⟨s, rfl⟩ : ∃ s : Nat, p = (s : Int) := ⟨p.toNat, by omega⟩
      have hs : s < N := by omega
      have HF := Lib.hid FO
      have n64 := FO.n.2
      have HO9 := Lib.hid ho
      have hWN : (W * H).toNat = N := hN.symm
      have HWN := Lib.hid hWN
      have hL : farL (leapsL W H xs a b) N (s : Int) = distL W H xs a b (s : Int) := by rw [distL, hN]
      have HL := Lib.hid hL
      clear FO hp0 hN hL hWN
      go_enter Try.func30, Try.ntmps30
      go_wp2_with fail
      refine (faAsked_any _ _ _ _ _ _ _ _ _ _ _ ((ha.alloc _).alloc _)).mono ?_
      rw [hoo]
      rintro e wv ⟨rfl, hb⟩
      have hbx0 := below_box hb
      have a0 : wv.cell? ⟨w.heap.size, 0, none⟩ = some (.int .i64 W) := by simpa using newbox hbx0 0
      have a1 : wv.cell? ⟨w.heap.size, 1, none⟩ = some (.int .i64 H) := by simpa using newbox hbx0 1
      have a2 : wv.cell? ⟨w.heap.size, 2, none⟩ = some (.slice A n c) := by simpa using newbox hbx0 2
      have al : w.heap.size < wv.heap.size := by simpa using newbox_lt hbx0
      have l0 : wv.cell? ⟨w.heap.size + 1, 0, none⟩ = some (.int .i64 a) := by simpa using newbox hb 0
      have l1 : wv.cell? ⟨w.heap.size + 1, 1, none⟩ = some (.int .i64 b) := by simpa using newbox hb 1
      have ll : w.heap.size + 1 < wv.heap.size := by simpa using newbox_lt hb
      have B := Lib.hid (below_box hbx0)
      clear hb hbx0
      go_wp2_with fail
      refine (l1In_b _ _ _ _).mono ?_
      rw [hiq]
      rintro e wv ⟨rfl, hb⟩
      replace a0 := cell_keep a0 al hb
      replace a1 := cell_keep a1 al hb
      replace a2 := cell_keep a2 al hb
      replace al := lt_keep al hb
      replace l0 := cell_keep l0 ll hb
      replace l1 := cell_keep l1 ll hb
      replace ll := lt_keep ll hb
      replace B := Lib.hid (below_next B.out hb)
      clear hb
      go_wp2_with fail
      refine (faFrom_any W H A n c xs a b s N _ (ha.keep B.out) HF.out.g HF.out.wh hs).mono ?_
      rintro e wx ⟨g, rfl, own, hb⟩
      rw [HL.out] at own
      have O := Lib.hid own
      have hog := own.some_ (k := 0) (by omega)
      replace B := Lib.hid (below_next B.out hb)
      have DLEN := Lib.hid own.len
      clear own hb
      obtain ⟨D, hD⟩ : ∃ D, D = distL W H xs a b (s : Int) := ⟨_, rfl⟩
      rw [← hD] at O DLEN
      have HDD := Lib.hid hD
      have glt : g < wx.heap.size := by obtain ⟨g9, h1, _, h2⟩ := hog; injection h1 with h1; injection h1 with h1; omega
      clear hD hog
      go_wp2
      go_loopw [10, 29] (fun v i wr => ∃ (k n' c' : Nat) (A' : Option Addr), k ≤ N ∧ i = .int .i64 k ∧ v = .slice A' n' c' ∧ OwnI 3 wr wx.heap.size A' n' c' (selTo (nearB D q) k) ∧ Below wx.heap.size wx wr) (fun _ i _ => N - (intOf i).toNat)
      case atStart => exact ⟨0, 0, 0, none, by omega, rfl, rfl, OwnI.none_ _ _ _, Below.refl _ _⟩
      case round =>
        obtain ⟨k, n', c', A', hk, rfl, rfl, hown, hbw⟩ := hrel
        have hbsz := hbw.size
        by_cases hlt : k < N
        · obtain ⟨x, hx⟩ : ∃ x, D[k]? = some x := ⟨_, List.getElem?_eq_getElem (show k < D.length by have := DLEN.out; omega)⟩
          have c0 := (O.out.keep hbw).cell hx
          have hn' : n' ≤ 64 := by have := selTo_len (nearB D q) k; have := hown.len; omega
          have HX := Lib.hid hx; have HO := Lib.hid hown; have HB := Lib.hid hbw
          clear hx hown hbw
          by_cases hin : inB x 0 q = true
          · go_wp2_with fail
            refine (l1In_any _ _ _ _).mono ?_
            rw [hin]
            rintro e w1 ⟨rfl, rfl⟩
            go_wp2_with (at_builtin; refine wpList_app1 rfl (.tmp 37) (.tmp 39) 22 3 rfl i0 Try.underlying22 HI.out HZ0.out HZ1.out HZ2.out wx.heap.size A' n' c' (selTo (nearB D q) k) (k : Int) rfl HO.out rfl (by omega) hbsz ?_; intro A2 c2 w2 hown2 hb2')
            have HO2 := Lib.hid hown2; have HB2 := Lib.hid (HB.out.trans hb2')
            clear hown2 hb2'
            go_wp2
            go_roundw
            case rel => exact ⟨k + 1, n' + 1, c2, A2, by omega, by go_num, rfl, by rw [selTo_yes (by rw [near_in HX.out]; exact hin)]; exact HO2.out, HB2.out⟩
            case measure => simp [intOf]; omega
          · have hin' : inB x 0 q = false := by simpa using hin
            go_wp2_with fail
            refine (l1In_any _ _ _ _).mono ?_
            rw [hin']
            rintro e w1 ⟨rfl, rfl⟩
            go_wp2
            go_roundw
            case rel => exact ⟨k + 1, n', c', A', by omega, by go_num, rfl, by rw [selTo_no (by rw [near_in HX.out]; exact hin')]; exact HO.out, HB.out⟩
            case measure => simp [intOf]; omega
        · obtain rfl : k = N := by omega
          have HO := Lib.hid (hown.lower B.out.size); have HB := Lib.hid (below_next B.out hbw)
          clear hown hbw
          go_wp2
          go_ret2
          exact ⟨_, _, _, by rw [show okWithin W H xs a b (s : Int) q = true by rw [okWithin, HO9.out, hiq]; rfl]; rfl, by rw [withinV, if_pos (by rw [okWithin, HO9.out, hiq]; rfl), ← HDD.out, HWN.out]; exact HO.out, HB.out⟩
    · have hiq' : inB q 0 12 = false := by simpa using hiq
      go_enter Try.func30, Try.ntmps30
      go_wp2_with fail
      refine (faAsked_any _ _ _ _ _ _ _ _ _ _ _ ((ha.alloc _).alloc _)).mono ?_
      rw [hoo]
      rintro e wv ⟨rfl, hb⟩
      have hbx0 := below_box hb
      have a0 : wv.cell? ⟨w.heap.size, 0, none⟩ = some (.int .i64 W) := by simpa using newbox hbx0 0
      have a1 : wv.cell? ⟨w.heap.size, 1, none⟩ = some (.int .i64 H) := by simpa using newbox hbx0 1
      have a2 : wv.cell? ⟨w.heap.size, 2, none⟩ = some (.slice A n c) := by simpa using newbox hbx0 2
      have al : w.heap.size < wv.heap.size := by simpa using newbox_lt hbx0
      have l0 : wv.cell? ⟨w.heap.size + 1, 0, none⟩ = some (.int .i64 a) := by simpa using newbox hb 0
      have l1 : wv.cell? ⟨w.heap.size + 1, 1, none⟩ = some (.int .i64 b) := by simpa using newbox hb 1
      have ll : w.heap.size + 1 < wv.heap.size := by simpa using newbox_lt hb
      have B := Lib.hid (below_box hbx0)
      clear hb hbx0
      go_wp2_with fail
      refine (l1In_b _ _ _ _).mono ?_
      rw [hiq']
      rintro e wv ⟨rfl, hb⟩
      replace a0 := cell_keep a0 al hb
      replace a1 := cell_keep a1 al hb
      replace a2 := cell_keep a2 al hb
      replace al := lt_keep al hb
      replace l0 := cell_keep l0 ll hb
      replace l1 := cell_keep l1 ll hb
      replace ll := lt_keep ll hb
      replace B := Lib.hid (below_next B.out hb)
      clear hb
      go_wp2
      go_ret2
      exact ⟨none, 0, 0, by rw [show okWithin W H xs a b p q = false by rw [okWithin, hiq']; simp]; rfl, by rw [withinV, if_neg (by rw [okWithin, hiq']; simp)]; exact OwnI.none_ _ _ _, B.out⟩
  · have hoo' : onB W H xs a b [p, p] = false := by simpa using hoo
    go_enter Try.func30, Try.ntmps30
    go_wp2_with fail
    refine (faAsked_any _ _ _ _ _ _ _ _ _ _ _ ((ha.alloc _).alloc _)).mono ?_
    rw [hoo']
    rintro e wv ⟨rfl, hb⟩
    have hbx0 := below_box hb
    have a0 : wv.cell? ⟨w.heap.size, 0, none⟩ = some (.int .i64 W) := by simpa using newbox hbx0 0
    have a1 : wv.cell? ⟨w.heap.size, 1, none⟩ = some (.int .i64 H) := by simpa using newbox hbx0 1
    have a2 : wv.cell? ⟨w.heap.size, 2, none⟩ = some (.slice A n c) := by simpa using newbox hbx0 2
    have al : w.heap.size < wv.heap.size := by simpa using newbox_lt hbx0
    have l0 : wv.cell? ⟨w.heap.size + 1, 0, none⟩ = some (.int .i64 a) := by simpa using newbox hb 0
    have l1 : wv.cell? ⟨w.heap.size + 1, 1, none⟩ = some (.int .i64 b) := by simpa using newbox hb 1
    have ll : w.heap.size + 1 < wv.heap.size := by simpa using newbox_lt hb
    have B := Lib.hid (below_box hbx0)
    clear hb hbx0
    go_wp2
    go_ret2
    exact ⟨none, 0, 0, by rw [show okWithin W H xs a b p q = false by rw [okWithin, ← onB_same, hoo']; simp]; rfl, by rw [withinV, if_neg (by rw [okWithin, ← onB_same, hoo']; simp)]; exact OwnI.none_ _ _ _, B.out⟩

end Go.Proofs.Ytagdmdjofcjilaa
