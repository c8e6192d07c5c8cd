/-
  Contracts: slices.Concat of three lists; what two joined walks are.
-/
import Derived.Test.YtphjkmikleldcaaZF
import Derived.Test.YtphjkmikleldcaaZ4
namespace Go.Proofs.Ytphjkmikleldcaa
open Go.RowKit

set_option maxRecDepth 100000 in
/-- slices.Concat of three lists that lie beside each other in a block. -/
theorem concat3_any (gS : Nat) (a1 a2 a3 : Addr) (n c m d r e9 : Nat) (ys zs us : List Int) (w : World) (hg : gS < w.heap.size) (s0 : w.cell? ⟨gS, 0, none⟩ = some (.slice (some a1) n c)) (s1 : w.cell? ⟨gS, 1, none⟩ = some (.slice (some a2) m d)) (s2 : w.cell? ⟨gS, 2, none⟩ = some (.slice (some a3) r e9))
    (hy : Rd w (some a1) n ys) (hz : Rd w (some a2) m zs) (hu : Rd w (some a3) r us) (h1 : 1 ≤ n + m + r) (h64 : n + m + r ≤ 200) :
    Calls Try.prog 74 #[.slice (some ⟨gS, 0, none⟩) 3 3] w fun e w' => ∃ A' c', e = .returned (.slice A' (n + m + r) c') ∧ OwnI 3 w' w.heap.size A' (n + m + r) c' (ys ++ zs ++ us) ∧ Below w.heap.size w w' := by
  obtain ⟨i0, hi, hz0, hz1, hz2⟩ := info_parts infoI
  have HI := Lib.hid hi; have HZ0 := Lib.hid hz0; have HZ1 := Lib.hid hz1; have HZ2 := Lib.hid hz2
  have HY := Lib.hid hy; have HZ := Lib.hid hz; have HU := Lib.hid hu
  have H64 := Lib.hid h64
  have hn9 : (n : Int) ≤ 200 := by omega
  have hm9 : (m : Int) ≤ 200 := by omega
  have hr9 : (r : Int) ≤ 200 := by omega
  have hnm9 : (n : Int) + (m : Int) + (r : Int) ≤ 200 := by omega
  have H1 := Lib.hid h1
  clear hi hz0 hz1 hz2 hy hz hu h64 h1
  go_enter Try.func74, Try.ntmps74
  go_wp2
  go_loopw [3, 11] (fun s i wr => ∃ (k p : Nat), i = .int .i64 k ∧ s = .int .i64 p ∧ ((k = 0 ∧ p = 0) ∨ (k = 1 ∧ p = n) ∨ (k = 2 ∧ p = n + m) ∨ (k = 3 ∧ p = n + m + r)) ∧ w = wr) (fun _ i _ => 3 - (intOf i).toNat)
  case atStart => exact ⟨0, 0, rfl, rfl, Or.inl ⟨rfl, rfl⟩, rfl⟩
  case round =>
    obtain ⟨k, p, rfl, rfl, hkp, rfl⟩ := hrel
    rcases hkp with ⟨rfl, rfl⟩ | ⟨rfl, rfl⟩ | ⟨rfl, rfl⟩ | ⟨rfl, rfl⟩
    · go_wp2
      go_roundw
      case rel => exact ⟨1, n, by go_num, by go_num, Or.inr (Or.inl ⟨rfl, rfl⟩), by trivial⟩
      case measure => simp [intOf]
    · go_wp2
      go_roundw
      case rel => exact ⟨2, p + m, by go_num, by go_num, Or.inr (Or.inr (Or.inl ⟨rfl, rfl⟩)), by trivial⟩
      case measure => simp [intOf]
    · go_wp2
      go_roundw
      case rel => exact ⟨3, n + m + r, by go_num, by go_num, Or.inr (Or.inr (Or.inr ⟨rfl, rfl⟩)), by trivial⟩
      case measure => simp [intOf]
    · go_wp2_with fail
      refine (Any8.slices_Grow_grow Try.growI i0 (.int .i64 0) HI.out HZ0.out (by rw [HZ1.out]; decide) none 0 0 (n + m + r) [] _ (Nat.le_refl _) (by have := H1.out; omega) (by rw [HZ2.out]; have := H64.out; omega) (by have := H64.out; omega) (by simp) (fun _ => rfl) (fun _ h => by cases h)).mono ?_
      rintro e wg ⟨rfl, hwg⟩
      have hwg' : wg = w.drew.alloc (.cells ((Builtin.zeroCells (Value.cells (.int .i64 0)) (n + m + r)) ++ Builtin.zeroCells (Value.cells (.int .i64 0)) (grownCap w (0 + (n + m + r)) 0 3 - (0 + (n + m + r)))) 3) := by
        rw [hwg]; simp [Try.growI_ren]
      obtain ⟨cs, hcs⟩ : ∃ cs, cs = ((Builtin.zeroCells (Value.cells (.int .i64 0)) (n + m + r)) ++ Builtin.zeroCells (Value.cells (.int .i64 0)) (grownCap w (0 + (n + m + r)) 0 3 - (0 + (n + m + r)))) := ⟨_, rfl⟩
      obtain ⟨cap, hcap⟩ : ∃ cap, cap = grownCap w (0 + (n + m + r)) 0 3 := ⟨_, rfl⟩
      rw [show (grownCap w (0 + (n + m + r)) 0 (Try.growI_ren.t 25)) = cap from hcap.symm]
      rw [← hcs] at hwg'
      have hc1 : n + m + r ≤ cap := by rw [hcap]; have := grownCap_ge w (0 + (n + m + r)) 0 3; omega
      have hc2 : cap ≤ maxLen := by rw [hcap]; exact grownCap_le_maxLen w _ 0 3 (by unfold maxLen; have := H64.out; omega)
      have hcsz : cs.size = cap * 1 := by
        rw [hcs, ← hcap, Array.size_append, size_zeroCells, size_zeroCells]
        simp [Value.cells]; omega
      have hown : OwnI 3 wg w.heap.size (some ⟨w.heap.size, 0, none⟩) 0 cap [] := by
        rw [hwg']
        exact World.ownsRow_made (base := w.heap.size) (e := 3) (size := 1) w.drew cs cap (Nat.le_refl _) hc2 hcsz
      have hb0 : Below w.heap.size w wg := by rw [hwg']; exact ((Below.refl _ w).drew).alloc (Nat.le_refl _) _
      obtain ⟨gN, hgN⟩ : ∃ gN, gN = w.heap.size := ⟨_, rfl⟩
      rw [← hgN] at hown
      rw [show (w.heap.size : Nat) = gN from hgN.symm]
      have OW := Lib.hid hown; have B := Lib.hid hb0; have HGN := Lib.hid hgN
      have S0 := Lib.hid s0; have S1 := Lib.hid s1; have S2 := Lib.hid s2; have HGS := Lib.hid hg
      clear hwg hwg' hcs hcap hc1 hc2 hcsz hown hb0 s0 s1 s2 hg hgN
      go_wp2
      go_loopw [6, 27] (fun s i wr => ∃ (k p c' : Nat) (A' : Option Addr) (acc : List Int), i = .int .i64 k ∧ s = .slice A' p c' ∧ OwnI 3 wr gN A' p c' acc ∧ ((k = 0 ∧ p = 0 ∧ acc = []) ∨ (k = 1 ∧ p = n ∧ acc = ys) ∨ (k = 2 ∧ p = n + m ∧ acc = ys ++ zs) ∨ (k = 3 ∧ p = n + m + r ∧ acc = ys ++ zs ++ us)) ∧ Below gN w wr) (fun _ i _ => 3 - (intOf i).toNat)
      case atStart => exact ⟨0, 0, cap, _, [], rfl, rfl, OW.out, Or.inl ⟨rfl, rfl, rfl⟩, by rw [HGN.out]; exact B.out⟩
      case round =>
        obtain ⟨k, p, c', A', acc, rfl, rfl, hown, hkp, hbw⟩ := hrel
        have hlo : gN ≤ wr.heap.size := by rw [HGN.out]; rw [HGN.out] at hbw; exact hbw.size
        have hbw2 : Below w.heap.size w wr := by rw [← HGN.out]; exact hbw
        have s0 := cell_keep S0.out HGS.out hbw2
        have s1 := cell_keep S1.out HGS.out hbw2
        have s2 := cell_keep S2.out HGS.out hbw2
        have hgl := lt_keep HGS.out hbw2
        have RY := Lib.hid (HY.out.keep hbw2); have RZ := Lib.hid (HZ.out.keep hbw2); have RU := Lib.hid (HU.out.keep hbw2)
        have HB := Lib.hid hbw; have OWN := Lib.hid hown
        clear hbw hbw2 hown
        rcases hkp with ⟨rfl, rfl, rfl⟩ | ⟨rfl, rfl, rfl⟩ | ⟨rfl, rfl, rfl⟩ | ⟨rfl, rfl, rfl⟩
        · go_wp2_with (at_builtin; refine wpList_appN rfl (.tmp 31) (.tmp 32) 22 3 rfl i0 Try.underlying22 HI.out HZ0.out HZ1.out HZ2.out gN A' 0 c' [] a1 n c ys rfl OWN.out rfl RY.out.1 (fun j y hj => RY.out.cell_ hj) (by omega) hlo ?_; intro A9 c9 w9 hown9 hb9)
          go_roundw
          case rel => exact ⟨1, n, c9, A9, ys, by go_num, rfl, by simpa using hown9, Or.inr (Or.inl ⟨rfl, rfl, rfl⟩), HB.out.trans hb9⟩
          case measure => simp [intOf]
        · go_wp2_with (at_builtin; refine wpList_appN rfl (.tmp 31) (.tmp 32) 22 3 rfl i0 Try.underlying22 HI.out HZ0.out HZ1.out HZ2.out gN A' _ c' _ a2 m d zs rfl OWN.out rfl RZ.out.1 (fun j y hj => RZ.out.cell_ hj) (by omega) hlo ?_; intro A9 c9 w9 hown9 hb9)
          go_roundw
          case rel => exact ⟨2, _, c9, A9, _, by go_num, rfl, hown9, Or.inr (Or.inr (Or.inl ⟨rfl, rfl, rfl⟩)), HB.out.trans hb9⟩
          case measure => simp [intOf]
        · go_wp2_with (at_builtin; refine wpList_appN rfl (.tmp 31) (.tmp 32) 22 3 rfl i0 Try.underlying22 HI.out HZ0.out HZ1.out HZ2.out gN A' _ c' _ a3 r e9 us rfl OWN.out rfl RU.out.1 (fun j y hj => RU.out.cell_ hj) (by omega) hlo ?_; intro A9 c9 w9 hown9 hb9)
          go_roundw
          case rel => exact ⟨3, _, c9, A9, _, by go_num, rfl, hown9, Or.inr (Or.inr (Or.inr ⟨rfl, rfl, rfl⟩)), HB.out.trans hb9⟩
          case measure => simp [intOf]
        · go_wp2
          go_ret
          exact ⟨A', c', rfl, by rw [← HGN.out]; exact OWN.out, by rw [← HGN.out]; exact HB.out⟩

/-- A closed walk from its index j on around. -/
def roundL (qs : List Int) (j : Nat) : List Int := qs.drop j ++ qs.take j
def innerL (qs : List Int) (j : Nat) (back : Bool) : List Int := if back then turnL (roundL qs j) 1 else roundL qs j
def joinedL (ps qs : List Int) (t : Trip) : List Int := ps.take (t.1 + 1) ++ innerL qs t.2.1 t.2.2 ++ ps.drop (t.1 + 1)
theorem round_len (qs : List Int) (j : Nat) : (roundL qs j).length = qs.length := by simp [roundL]; omega
theorem inner_len (qs : List Int) (j : Nat) (back : Bool) : (innerL qs j back).length = qs.length := by
  unfold innerL; split
  · rw [turnL_len, round_len]
  · exact round_len _ _
theorem joined_len (ps qs : List Int) (t : Trip) : (joinedL ps qs t).length = ps.length + qs.length := by
  rw [joinedL, List.length_append, List.length_append, inner_len, List.length_take, List.length_drop]; omega
theorem mod_lt2 {a m : Nat} (h : a < m + m) : a % m = if a < m then a else a - m := by
  split
  · exact Nat.mod_eq_of_lt (by omega)
  · rw [Nat.mod_eq_sub_mod (by omega), Nat.mod_eq_of_lt (by omega)]
theorem round_at {qs : List Int} {j s : Nat} (hj : j < qs.length) (hs : s < qs.length) : (roundL qs j)[s]? = qs[(j + s) % qs.length]? := by
  rw [roundL, mod_lt2 (by omega)]
  by_cases h : j + s < qs.length
  · rw [if_pos h, List.getElem?_append_left (by rw [List.length_drop]; omega), List.getElem?_drop]
  · rw [if_neg h, List.getElem?_append_right (by rw [List.length_drop]; omega), List.length_drop, List.getElem?_take_of_lt (by omega), show s - (qs.length - j) = j + s - qs.length by omega]
def idxJ (n j : Nat) (back : Bool) (s : Nat) : Nat := if back then (j + n - s) % n else (j + s) % n
theorem inner_at {qs : List Int} {j s : Nat} {back : Bool} (hj : j < qs.length) (hs : s < qs.length) : (innerL qs j back)[s]? = qs[idxJ qs.length j back s]? := by
  cases back with
  | false => exact round_at hj hs
  | true =>
    show (turnL (roundL qs j) 1)[s]? = qs[(j + qs.length - s) % qs.length]?
    rw [turnL]
    have hl := round_len qs j
    rcases s with _ | s
    · rw [List.getElem?_append_left (by rw [List.length_take]; omega), List.getElem?_take_of_lt (by omega), round_at hj hs, Nat.add_zero, Nat.sub_zero, Nat.add_mod_right]
    · rw [List.getElem?_append_right (by rw [List.length_take]; omega), List.length_take, hl, show s + 1 - min 1 qs.length = s by omega, List.getElem?_reverse (by rw [List.length_drop, hl]; omega), List.length_drop, hl, List.getElem?_drop, round_at hj (by omega), show j + (1 + (qs.length - 1 - 1 - s)) = j + qs.length - (s + 1) by omega]
/-- The first s cells of the inner walk. -/
theorem inner_take {qs : List Int} {j s : Nat} {x : Int} {back : Bool} (hj : j < qs.length) (hs : s < qs.length) (hx : qs[idxJ qs.length j back s]? = some x) : (innerL qs j back).take (s + 1) = (innerL qs j back).take s ++ [x] := by
  rw [List.take_add_one, inner_at hj hs, hx]; rfl
theorem row_pre (W a b : Int) (ps qs : List Int) (i : Nat) {j n : Nat} (h : j ≤ n) : ∃ R, rowTo W a b ps qs i n = rowTo W a b ps qs i j ++ R := by
  obtain ⟨r, rfl⟩ : ∃ r, n = j + r := ⟨n - j, by omega⟩
  exact ⟨_, by rw [rowTo, List.range_add, List.flatMap_append]; rfl⟩
theorem all_pre (W a b : Int) (ps qs : List Int) {j n : Nat} (h : j ≤ n) : ∃ R, allTo W a b ps qs n = allTo W a b ps qs j ++ R := by
  obtain ⟨r, rfl⟩ : ∃ r, n = j + r := ⟨n - j, by omega⟩
  exact ⟨_, by rw [allTo, List.range_add, List.flatMap_append]; rfl⟩
theorem trip_pre (W a b : Int) (ps qs : List Int) (i j : Nat) {t : Nat} (h : t ≤ 2) : ∃ R, tripTo W a b ps qs i j 2 = tripTo W a b ps qs i j t ++ R := by
  have h3 : t = 0 ∨ t = 1 ∨ t = 2 := by omega
  rcases h3 with rfl | rfl | rfl
  · exact ⟨_, rfl⟩
  · exact ⟨_, rfl⟩
  · exact ⟨[], by rw [List.append_nil]⟩
theorem acc_pre {W a b : Int} {ps qs : List Int} {i j t : Nat} (hi : i < ps.length) (hj : j < qs.length) (ht : t ≤ 2) : ∃ R, joinsL W a b ps qs = accL W a b ps qs i j t ++ R := by
  obtain ⟨R1, h1⟩ := trip_pre W a b ps qs i j ht
  obtain ⟨R2, h2⟩ := row_pre W a b ps qs i (show j + 1 ≤ qs.length by omega)
  obtain ⟨R3, h3⟩ := all_pre W a b ps qs (show i + 1 ≤ ps.length by omega)
  rw [row_succ, h1] at h2
  rw [all_succ, h2] at h3
  exact ⟨R1 ++ R2 ++ R3, by rw [joinsL, h3, accL]; simp only [List.append_assoc]⟩
def okJoin (W H : Int) (xs : List Int) (a b : Int) (ps qs : List Int) : Bool := okTwo2 W H xs a b ps qs && (joinsL W a b ps qs).head?.isSome
def joinJ (W H : Int) (xs : List Int) (a b : Int) (ps qs : List Int) : List Int := if okTwo2 W H xs a b ps qs then (match (joinsL W a b ps qs).head? with | some t => joinedL ps qs t | none => []) else []
theorem len_JoinClosed (W H : Int) (xs : List Int) (a b : Int) (ps qs : List Int) : (joinJ W H xs a b ps qs).length ≤ 1000000 := by
  unfold joinJ; split
  · rename_i h
    have := ok_len (two_p h); have := ok_len (two_q h)
    split
    · rw [joined_len]; omega
    · simp
  · simp

end Go.Proofs.Ytphjkmikleldcaa
