/-
  Contracts: boards, in the program and in its model.
-/
import Derived.Test.YtnmmgalidkambaaGreatDoorB1
namespace Go.Proofs.YtnmmgalidkambaaGreatDoor
open Go.RowKit

set_option maxHeartbeats 400000 in
theorem l1All_any (A : Option Addr) (n c : Nat) (lo hi : Int) (xs : List Int) (w : World) (ha : Rd w A n xs) :
    Calls Tryz.prog 82 #[.slice A n c, .int .i64 lo, .int .i64 hi] w fun e w' => e = .returned (.bool (inAll lo hi xs)) ∧ Below w.heap.size w w' := by
  have h3 := ha.2.1
  have H1 := Lib.hid ha.1
  go_enter Tryz.func82, Tryz.ntmps82
  go_wp2
  go_loopw [11] (fun i wr => ∃ k : Nat, k ≤ n ∧ i = .int .i64 k ∧ inAll lo hi xs = inAll lo hi (xs.drop k) ∧ Below w.heap.size w wr) (fun i _ => n - (intOf i).toNat)
  case atStart => exact ⟨0, Nat.zero_le _, rfl, rfl, Below.refl _ _⟩
  case round =>
    obtain ⟨k, hk, rfl, hr, hbw⟩ := hrel
    have HR := Lib.hid hr
    clear hr
    by_cases hlt : k < n
    · obtain ⟨b1, o1, x, rfl, hl1, hx, hc1⟩ := (ha.keep hbw).at_ hlt
      have HX := Lib.hid hx
      clear hx
      by_cases hin : inB x lo hi = true
      · go_wp2_with (go_at_call 58; refine (l1In_any _ _ _ _).mono ?_; rintro e w1 ⟨rfl, rfl⟩)
        go_roundw
        case rel => exact ⟨k + 1, by omega, by go_num, by rw [HR.out, inAll_drop HX.out, hin]; rfl, hbw⟩
        case measure => simp [intOf]; omega
      · have hin' : inB x lo hi = false := by simpa using hin
        clear hin
        go_wp2_with (go_at_call 58; refine (l1In_any _ _ _ _).mono ?_; rintro e w1 ⟨rfl, rfl⟩)
        go_ret
        exact ⟨ret_bool (by rw [HR.out, inAll_drop HX.out, hin']; rfl), hbw⟩
    · go_wp2
      go_ret
      exact ⟨ret_bool (by rw [HR.out, List.drop_of_length_le (by have := H1.out; omega)]; rfl), hbw⟩

set_option maxHeartbeats 400000 in
theorem isBoard_any (W H : Int) (A : Option Addr) (n c : Nat) (xs : List Int) (w : World) (ha : Rd w A n xs) :
    Calls Tryz.prog 66 #[brd W H A n c] w fun e w' => e = .returned (.bool (goodB W H xs)) ∧ Below w.heap.size w w' := by
  have h3 := ha.2.1
  have H1 := Lib.hid ha.1
  by_cases hW : sizeB W = true
  · by_cases hH : sizeB H = true
    · have hcl := cells_le (sizeB_iff.1 hW) (sizeB_iff.1 hH)
      obtain ⟨hN1, hN2⟩ := hcl
      by_cases hlen : (n : Int) < W * H
      · go_enter Tryz.func66, Tryz.ntmps66
        go_wp2_with (go_at_call 83; refine (isSize_any _ _).mono ?_; rintro e w1 ⟨rfl, rfl⟩)
        go_loopw [30, 3] (fun i bf wr => ∃ (k : Nat) (q : Int), k ≤ n ∧ i = .int .i64 k ∧ bf = .int .i64 q ∧ risesB (-1) (W * H) xs = risesB q (W * H) (xs.drop k) ∧ Below (w.heap.size + 1) (w.alloc (.cells #[.int .i64 W, .int .i64 H, .slice A n c] 30)) wr) (fun i _ _ => n - (intOf i).toNat)
        case atStart => exact ⟨0, -1, Nat.zero_le _, rfl, rfl, rfl, Below.refl _ _⟩
        case round =>
          obtain ⟨k, q, hk, rfl, rfl, hr, hbw⟩ := hrel
          have HR := Lib.hid hr
          clear hr
          have hb0 := box_cell hbw 0; have hb1 := box_cell hbw 1; have hb2 := box_cell hbw 2
          simp only [List.getElem?_toArray, List.getElem?_cons_zero, List.getElem?_cons_succ] at hb0 hb1 hb2
          by_cases hlt : k < n
          · obtain ⟨b1, o1, x, rfl, hl1, hx, hc1⟩ := (ha.keep (box_below hbw)).at_ hlt
            have HX := Lib.hid hx
            clear hx
            by_cases hxq : x ≤ q
            · go_wp2
              go_ret
              exact ⟨ret_bool (by rw [goodB, hW, hH, HR.out, rises_drop HX.out]; simp; omega), box_below hbw⟩
            · by_cases hxh : W * H ≤ x
              · go_wp2
                go_ret
                exact ⟨ret_bool (by rw [goodB, hW, hH, HR.out, rises_drop HX.out]; simp; omega), box_below hbw⟩
              · go_wp2
                go_roundw
                case rel => exact ⟨k + 1, x, by omega, by go_num, rfl, by rw [HR.out, rises_drop HX.out]; simp; omega, hbw⟩
                case measure => simp [intOf]; omega
          · go_wp2
            go_ret
            exact ⟨ret_bool (by rw [goodB, hW, hH, HR.out, List.drop_of_length_le (by have := H1.out; omega), H1.out]; simp [risesB, hlen]), box_below hbw⟩
      · go_enter Tryz.func66, Tryz.ntmps66
        go_wp2_with (go_at_call 83; refine (isSize_any _ _).mono ?_; rintro e w1 ⟨rfl, rfl⟩)
        go_ret
        exact ⟨ret_bool (by rw [goodB, H1.out]; simp; omega), below_new (Below.refl _ _) _⟩
    · have hH' : sizeB H = false := by simpa using hH
      clear hH
      go_enter Tryz.func66, Tryz.ntmps66
      go_wp2_with (go_at_call 83; refine (isSize_any _ _).mono ?_; rintro e w1 ⟨rfl, rfl⟩)
      go_ret
      exact ⟨ret_bool (by rw [goodB, hH']; simp), below_new (Below.refl _ _) _⟩
  · have hW' : sizeB W = false := by simpa using hW
    clear hW
    go_enter Tryz.func66, Tryz.ntmps66
    go_wp2_with (go_at_call 83; refine (isSize_any _ _).mono ?_; rintro e w1 ⟨rfl, rfl⟩)
    go_ret
    exact ⟨ret_bool (by rw [goodB, hW']; simp), below_new (Below.refl _ _) _⟩

set_option maxHeartbeats 1000000 in
theorem boGood_any (W H : Int) (A : Option Addr) (n c : Nat) (xs : List Int) (w : World) (ha : Rd w A n xs) :
    Calls Tryz.prog 62 #[brd W H A n c] w fun e w' => e = .returned (.bool (goodB W H xs)) ∧ Below w.heap.size w w' := by
  have h3 := ha.2.1
  have H1 := Lib.hid ha.1
  by_cases hWH : (sizeB W && sizeB H) = true
  · have hW : sizeB W = true := by simp at hWH; exact hWH.1
    have hH : sizeB H = true := by simp at hWH; exact hWH.2
    obtain ⟨hN1, hN2⟩ := cells_le (sizeB_iff.1 hW) (sizeB_iff.1 hH)
    by_cases hlen : (n : Int) < W * H
    · by_cases hall : inAll 0 (W * H - 1) xs = true
      · go_enter Tryz.func62, Tryz.ntmps62
        go_wp2_with (first | (go_at_call 81; refine (boSize_any _ _ _).mono ?_; rintro e w1 ⟨rfl, rfl⟩) | (go_at_call 82; refine (l1All_any _ _ _ _ _ _ _ (ha.alloc _)).mono ?_; rintro e w1 ⟨rfl, hb1⟩))
        have hbs : Below (w.heap.size + 1) (w.alloc (.cells #[.int .i64 W, .int .i64 H, .slice A n c] 30)) w1 := by simpa using hb1
        have HBS := Lib.hid hbs
        clear hbs hb1
        go_loopw [3] (fun i wr => ∃ m : Nat, i = .int .i64 ((m : Int) + 1) ∧ (∀ j x y, j < m → xs[j]? = some x → xs[j + 1]? = some y → x < y) ∧ Below (w.heap.size + 1) (w.alloc (.cells #[.int .i64 W, .int .i64 H, .slice A n c] 30)) wr) (fun i _ => n - (intOf i).toNat)
        case atStart => exact ⟨0, rfl, fun j x y h => absurd h (by omega), HBS.out⟩
        case round =>
          clear HBS
          obtain ⟨m, rfl, hr, hbw⟩ := hrel
          have HR := Lib.hid hr
          clear hr
          have hb0 := box_cell hbw 0; have hb1 := box_cell hbw 1; have hb2 := box_cell hbw 2
          simp only [List.getElem?_toArray, List.getElem?_cons_zero, List.getElem?_cons_succ] at hb0 hb1 hb2
          by_cases hlt : m + 1 < n
          · obtain ⟨b1, o1, x, rfl, hl1, hx, hc1⟩ := (ha.keep (box_below hbw)).at_ (k := m) (by omega)
            obtain ⟨b2, o2, y, hA2, hl2, hy, hc2⟩ := (ha.keep (box_below hbw)).at_ (k := m + 1) hlt
            injection hA2 with hA2
            injection hA2 with e1 e2 _
            subst e1 e2
            have HX := Lib.hid hx; have HY := Lib.hid hy
            clear hx hy
            by_cases hxy : y ≤ x
            · go_wp2
              go_quiet (fail)
              go_wp2
              go_ret
              exact ⟨ret_bool (by rw [goodB, hW, hH, rises_false HX.out HY.out hxy]; simp), below_drewN (box_below hbw) _⟩
            · go_wp2
              go_quiet (fail)
              go_wp2
              go_roundw
              case rel => exact ⟨m + 1, by go_num, fun j x' y' hj h1 h2 => by
                rcases Nat.lt_or_ge j m with h | h
                · exact HR.out j x' y' h h1 h2
                · obtain rfl : j = m := by omega
                  rw [HX.out] at h1; rw [HY.out] at h2
                  injection h1 with h1; injection h2 with h2; omega, below_drewN hbw _⟩
              case measure => simp [intOf]; omega
          · go_wp2
            go_ret
            exact ⟨ret_bool (by rw [goodB, hW, hH, H1.out, rises_of_in hall (fun k x y hk hx hy => HR.out k x y (by have := H1.out; omega) hx hy)]; simp [hlen]), box_below hbw⟩
      · have hall' : inAll 0 (W * H - 1) xs = false := by simpa using hall
        clear hall
        go_enter Tryz.func62, Tryz.ntmps62
        go_wp2_with (first | (go_at_call 81; refine (boSize_any _ _ _).mono ?_; rintro e w1 ⟨rfl, rfl⟩) | (go_at_call 82; refine (l1All_any _ _ _ _ _ _ _ (ha.alloc _)).mono ?_; rintro e w1 ⟨rfl, hb1⟩))
        go_ret
        exact ⟨ret_bool (by rw [goodB, hW, hH]; cases hr : risesB (-1) (W * H) xs with | true => rw [rises_in hr] at hall'; cases hall' | false => simp), below_next (below_new (Below.refl _ _) _) hb1⟩
    · go_enter Tryz.func62, Tryz.ntmps62
      go_wp2_with (first | (go_at_call 81; refine (boSize_any _ _ _).mono ?_; rintro e w1 ⟨rfl, rfl⟩) | (go_at_call 82; refine (l1All_any _ _ _ _ _ _ _ (ha.alloc _)).mono ?_; rintro e w1 ⟨rfl, hb1⟩))
      go_ret
      exact ⟨ret_bool (by rw [goodB, H1.out]; simp; omega), below_new (Below.refl _ _) _⟩
  · have hWH' : (sizeB W && sizeB H) = false := by simpa using hWH
    clear hWH
    go_enter Tryz.func62, Tryz.ntmps62
    go_wp2_with (first | (go_at_call 81; refine (boSize_any _ _ _).mono ?_; rintro e w1 ⟨rfl, rfl⟩) | (go_at_call 82; refine (l1All_any _ _ _ _ _ _ _ (ha.alloc _)).mono ?_; rintro e w1 ⟨rfl, hb1⟩))
    go_ret
    exact ⟨ret_bool (by rw [goodB, hWH']; simp), below_new (Below.refl _ _) _⟩

end Go.Proofs.YtnmmgalidkambaaGreatDoor
