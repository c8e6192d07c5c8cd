/-
  Contracts of the laws' own helpers: what copies, compares, marks and looks at slices of ints and boards.
-/
import Derived.Test.YtnmmgalidkambaaGreatDoorProg
import Derived.Test.YtnmmgalidkambaaGreatDoorMem
namespace Go.Proofs.YtnmmgalidkambaaGreatDoor
open Go.RowKit

theorem infoI : (Tryz.prog.info? 3).map (fun i => (i.zero, i.size, i.bytes)) = some (some (.int .i64 0), 1, 8) := by kernel_rfl

set_option maxHeartbeats 400000 in
theorem eqIntS_any (A B : Option Addr) (n m c d : Nat) (xs ys : List Int) (w : World) (ha : Rd w A n xs) (hb : Rd w B m ys) :
    Calls Tryz.prog 15 #[.slice A n c, .slice B m d] w fun e w' => e = .returned (.bool (decide (xs = ys))) ∧ Below w.heap.size w w' := by
  have h1 := ha.1; have h2 := hb.1; have h3 := ha.2.1; have h4 := hb.2.1
  by_cases hnm : n = m
  · subst hnm
    have H1 := Lib.hid h1; have H2 := Lib.hid h2
    clear h1 h2
    go_enter Tryz.func15, Tryz.ntmps15
    go_wp2
    go_loopw [5] (fun i wr => ∃ k : Nat, k ≤ n ∧ i = .int .i64 k ∧ xs.take k = ys.take k ∧ Below w.heap.size w wr) (fun i _ => n - (intOf i).toNat)
    case atStart => exact ⟨0, Nat.zero_le _, rfl, rfl, Below.refl _ _⟩
    case round =>
      obtain ⟨k, hk, rfl, htk, hbw⟩ := hrel
      have HT := Lib.hid htk
      clear htk
      by_cases hlt : k < n
      · obtain ⟨b1, o1, x, rfl, hl1, hx, hc1⟩ := (ha.keep hbw).at_ hlt
        obtain ⟨b2, o2, y, rfl, hl2, hy, hc2⟩ := (hb.keep hbw).at_ hlt
        have HX := Lib.hid hx; have HY := Lib.hid hy
        clear hx hy
        by_cases hxy : x = y
        · subst hxy
          go_wp2
          go_quiet (fail)
          go_wp2
          go_roundw
          case rel => exact ⟨k + 1, by omega, by go_num, take_same_succ HT.out HX.out HY.out, below_drewN hbw _⟩
          case measure => simp [intOf]; omega
        · have hne : (x != y) = true := by simpa using hxy
          go_wp2
          go_quiet (fail)
          go_wp2
          go_ret
          exact ⟨ret_bool (by simpa using ne_of_at HX.out HY.out hxy), below_drewN hbw _⟩
      · go_wp2
        go_ret
        have := HT.out
        have e1 := H1.out; have e2 := H2.out
        exact ⟨ret_bool (by rw [List.take_of_length_le (by omega), List.take_of_length_le (by omega)] at this; simpa using this), hbw⟩
  · have hne : ((n : Int) != (m : Int)) = true := by simp; omega
    go_enter Tryz.func15, Tryz.ntmps15
    go_wp2
    go_ret
    exact ⟨ret_bool (by simp; intro e; subst e; omega), Below.refl _ _⟩

set_option maxHeartbeats 400000 in
theorem szIntS_any (A : Option Addr) (n c : Nat) (left : Int) (w : World) (hn : n ≤ 9223372036854775807) (h0 : 0 ≤ left) (hl : left ≤ 4611686018427387904) :
    Calls Tryz.prog 32 #[.slice A n c, .int .i64 left] w fun e w' => e = .returned (.int .i64 (if (n : Int) ≤ left then left - n else -1)) ∧ w = w' := by
  by_cases h : (n : Int) ≤ left
  · go_enter Tryz.func32, Tryz.ntmps32
    go_wp2
    go_ret
    exact ⟨rfl, rfl⟩
  · go_enter Tryz.func32, Tryz.ntmps32
    go_wp2
    go_ret
    exact ⟨rfl, rfl⟩

set_option maxHeartbeats 400000 in
theorem toIntS_any (A : Option Addr) (n c : Nat) (xs : List Int) (w : World) (ha : Rd w A n xs) (hn : n ≤ 17179869184) :
    Calls Tryz.prog 36 #[.slice A n c] w fun e w' => ∃ g, e = .returned (.slice (some ⟨g, 0, none⟩) n n) ∧ OwnI 3 w' w.heap.size (some ⟨g, 0, none⟩) n n xs ∧ Below w.heap.size w w' := by
  obtain ⟨i0, hi, hz0, hz1, hz2⟩ := info_parts infoI
  have H1 := Lib.hid ha.1
  go_enter Tryz.func36, Tryz.ntmps36
  go_wp2_with (at_make; refine wpList_make_full _ rfl _ _ 22 rfl w.heap.size 3 i0 (.int .i64 0) 1 Tryz.underlying22 hi hz0 hz1 .i64 .i64 _ _ n rfl rfl rfl rfl (by rw [hz2]; omega) (by unfold maxLen; omega) (Nat.le_refl _) ?_; intro w1 hown1 hg1)
  have hb1 : Below w.heap.size w w1 := below_of_grown hg1 (Nat.le_refl _) (by simp)
  have hs1 : w.heap.size < w1.heap.size := by
    have hb := (World.ownsRow.lt hown1) w.heap.size (by simp [Value.ownBlock])
    exact hb.2
  have hO1 : OwnI 3 w1 w.heap.size (some ⟨w.heap.size, 0, none⟩) n n (xs.take 0 ++ List.replicate (n - 0) 0) := by
    unfold OwnI
    rw [show n * 1 = n from by omega] at hown1
    have e : (madeCells (Value.cells (.int .i64 0)) n).toList = List.replicate n (.int .i64 0) := toList_madeCells_one (.int .i64 0) n
    rw [e] at hown1
    simpa using hown1
  clear hown1
  generalize hg : w.heap.size = g at *
  go_loopw [4] (fun i wr => ∃ k : Nat, k ≤ n ∧ i = .int .i64 k ∧ OwnI 3 wr g (some ⟨g, 0, none⟩) n n (xs.take k ++ List.replicate (n - k) 0) ∧ Below g w wr) (fun i _ => n - (intOf i).toNat)
  case atStart => exact ⟨0, Nat.zero_le _, rfl, hO1, hb1⟩
  case round =>
    obtain ⟨k, hk, rfl, hown, hbw⟩ := hrel
    by_cases hlt : k < n
    · obtain ⟨b1, o1, x, rfl, hl1, hx, hc1⟩ := ha.at_ hlt
      have hc2 : wr.cell? ⟨b1, o1 + k, none⟩ = some (.int .i64 x) := (hbw.cell (p := ⟨b1, o1 + k, none⟩) (by simp; omega)).trans hc1
      have hc3 : wr.cell? ⟨g, k, none⟩ = some (.int .i64 0) := hown.cell (copy_at H1.out hlt)
      have hf3 : wr.frozen? ⟨g, k, none⟩ = false := hown.frozen k
      have hst := (hown.stored k x).1
      rw [copy_set H1.out hx] at hst
      have hbs : Below g w (wr.setCell ⟨g, k, none⟩ (.int .i64 x)) := hbw.setCell (by simp) _
      have HX := Lib.hid hx; have HS := Lib.hid hst; have HB := Lib.hid hbs
      clear hx hst hbs hown hbw
      go_wp2
      go_roundw
      case rel => exact ⟨k + 1, by omega, by go_num, HS.out, HB.out⟩
      case measure => simp [intOf]; omega
    · go_wp2
      go_ret
      have e : k = n := by omega
      subst e
      rw [Nat.sub_self, List.take_of_length_le (by have := H1.out; omega)] at hown
      subst hg
      exact ⟨_, rfl, by simpa using hown, hbw⟩

/-- A board's value. -/
abbrev brd (W H : Int) (A : Option Addr) (n c : Nat) : Value := .agg #[.int .i64 W, .int .i64 H, .slice A n c]
abbrev lpr (a b : Int) : Value := .agg #[.int .i64 a, .int .i64 b]

set_option maxHeartbeats 400000 in
theorem szBoard_any (W H : Int) (A : Option Addr) (n c : Nat) (left : Int) (w : World) (hn : n ≤ 9223372036854775807) (h0 : 0 ≤ left) (hl : left ≤ 4611686018427387904) :
    Calls Tryz.prog 10 #[brd W H A n c, .int .i64 left] w fun e w' => e = .returned (.int .i64 (if (n : Int) ≤ left then left - n else -1)) ∧ Below w.heap.size w w' := by
  by_cases h : (n : Int) ≤ left
  · go_enter Tryz.func10, Tryz.ntmps10
    go_wp2_with (go_at_call 32; refine (szIntS_any _ _ _ _ _ hn h0 hl).mono ?_; rintro e w1 ⟨rfl, rfl⟩)
    go_ret
    exact ⟨rfl, below_new (Below.refl _ _) _⟩
  · go_enter Tryz.func10, Tryz.ntmps10
    go_wp2_with (go_at_call 32; refine (szIntS_any _ _ _ _ _ hn h0 hl).mono ?_; rintro e w1 ⟨rfl, rfl⟩)
    go_ret
    exact ⟨rfl, below_new (Below.refl _ _) _⟩

set_option maxHeartbeats 400000 in
theorem toLeaper_any (a b : Int) (w : World) :
    Calls Tryz.prog 13 #[lpr a b] w fun e w' => e = .returned (lpr a b) ∧ Below w.heap.size w w' := by
  go_enter Tryz.func13, Tryz.ntmps13
  go_wp2
  exact bodyPost_ret (v := lpr a b) (by simp [results, Tryz.results13, go_sem]) rfl ⟨rfl, below_new (below_new (below_new (Below.refl _ _) _) _) _⟩

set_option maxHeartbeats 400000 in
theorem toBoard_any (W H : Int) (A : Option Addr) (n c : Nat) (xs : List Int) (w : World) (ha : Rd w A n xs) (hn : n ≤ 17179869184) :
    Calls Tryz.prog 12 #[brd W H A n c] w fun e w' => ∃ g, e = .returned (brd W H (some ⟨g, 0, none⟩) n n) ∧ OwnI 3 w' w.heap.size (some ⟨g, 0, none⟩) n n xs ∧ Below w.heap.size w w' := by
  go_enter Tryz.func12, Tryz.ntmps12
  go_wp2_with fail
  refine (toIntS_any A n c xs _ (((ha.alloc _).alloc _).alloc _) hn).mono ?_
  rintro e w1 ⟨g, rfl, hown, hb1⟩
  obtain ⟨hc, hf⟩ := bcell hb1
  have hz : w.heap.size + 1 + 1 < w1.heap.size := by have := hb1.size; simp at this; omega
  have hown' : OwnI 3 w1 (w.heap.size + 1 + 1 + 1) (some ⟨g, 0, none⟩) n n xs := by simpa using hown
  have hbw : Below w.heap.size w w1 := (below_new (below_new (below_new (Below.refl _ _) _) _) _).trans (hb1.mono (by simp; omega))
  have HO := Lib.hid hown'; have HB := Lib.hid hbw
  clear hown hown' hbw hb1
  go_wp2
  refine bodyPost_ret (v := brd W H (some ⟨g, 0, none⟩) n n) (by simp [results, Tryz.results12, go_sem, hc]) rfl ⟨g, rfl, ?_, ?_⟩
  · exact ((((HO.out.set_ (by simp) _).set_ (by simp) _).set_ (by simp) _).set_ (by simp) _).lower (by omega)
  · exact (((HB.out.setCell (by simp; omega) _).setCell (by simp) _).setCell (by simp) _).setCell (by simp) _

set_option maxHeartbeats 400000 in
theorem eqBoard_any (W H : Int) (A B : Option Addr) (n m c d : Nat) (xs ys : List Int) (w : World) (ha : Rd w A n xs) (hb : Rd w B m ys) :
    Calls Tryz.prog 16 #[brd W H A n c, brd W H B m d] w fun e w' => e = .returned (.bool (decide (xs = ys))) ∧ Below w.heap.size w w' := by
  by_cases hxy : xs = ys
  · have hd : decide (xs = ys) = true := by simpa using hxy
    rw [hd]
    clear hxy
    go_enter Tryz.func16, Tryz.ntmps16
    go_wp2_with fail
    refine (eqIntS_any A B n m c d xs ys _ ((ha.alloc _).alloc _) ((hb.alloc _).alloc _)).mono ?_
    rw [hd]
    rintro e w1 ⟨rfl, hb1⟩
    have HB := Lib.hid ((below_new (below_new (Below.refl _ _) _) _).trans (hb1.mono (by simp; omega)))
    clear hb1
    go_wp2
    go_ret
    exact ⟨rfl, HB.out⟩
  · have hd : decide (xs = ys) = false := by simpa using hxy
    rw [hd]
    clear hxy
    go_enter Tryz.func16, Tryz.ntmps16
    go_wp2_with fail
    refine (eqIntS_any A B n m c d xs ys _ ((ha.alloc _).alloc _) ((hb.alloc _).alloc _)).mono ?_
    rw [hd]
    rintro e w1 ⟨rfl, hb1⟩
    have HB := Lib.hid ((below_new (below_new (Below.refl _ _) _) _).trans (hb1.mono (by simp; omega)))
    clear hb1
    go_wp2
    go_ret
    exact ⟨rfl, HB.out⟩

set_option maxHeartbeats 400000 in
theorem markIntS_any (A : Option Addr) (n c lo : Nat) (k0 : Int) (xs : List Int) (w : World) (ha : OwnI 3 w lo A n c xs) (h0 : 0 ≤ k0) (hk0 : k0 + n ≤ 4611686018427387904) :
    Calls Tryz.prog 18 #[.slice A n c, .int .i64 k0] w fun e w' => e = .returned (.int .i64 (k0 + n)) ∧ OwnI 3 w' lo A n c (marks k0 n) ∧ w.grownBy w' (rowOf A) := by
  have HL := Lib.hid ha.len
  go_enter Tryz.func18, Tryz.ntmps18
  go_wp2
  go_loopw [1, 5] (fun kk i wr => ∃ k : Nat, k ≤ n ∧ i = .int .i64 k ∧ kk = .int .i64 (k0 + k) ∧ OwnI 3 wr lo A n c (marks k0 k ++ xs.drop k) ∧ w.grownBy wr (rowOf A)) (fun _ i _ => n - (intOf i).toNat)
  case atStart => exact ⟨0, Nat.zero_le _, rfl, by go_num, by simpa [marks] using ha, grown_refl _ _⟩
  case round =>
    obtain ⟨k, hk, rfl, rfl, hown, hbw⟩ := hrel
    by_cases hlt : k < n
    · obtain ⟨g, rfl, hg1, hg2⟩ := hown.some_ hlt
      obtain ⟨x, hx1, hx2⟩ := marks_app_at (k := k0) HL.out hlt
      have hc3 := hown.cell hx2
      have hf3 : wr.frozen? ⟨g, k, none⟩ = false := hown.frozen k
      have hst := hown.stored k (k0 + k)
      rw [marks_set hx1] at hst
      have HB := Lib.hid (grown_next hbw hst.2)
      have HS := Lib.hid hst.1
      clear hst hbw hown hx1 hx2
      go_wp2
      go_roundw
      case rel => exact ⟨k + 1, by omega, by go_num, by go_num, HS.out, HB.out⟩
      case measure => simp [intOf]; omega
    · go_wp2
      go_ret
      obtain rfl : k = n := by omega
      exact ⟨rfl, by rw [List.drop_of_length_le (by have := HL.out; omega), List.append_nil] at hown; exact hown, hbw⟩

set_option maxHeartbeats 400000 in
theorem heldIntS_any (A : Option Addr) (n c : Nat) (k0 : Int) (w : World) (ha : Rd w A n (marks k0 n)) (h0 : 0 ≤ k0) (hk0 : k0 + n ≤ 4611686018427387904) :
    Calls Tryz.prog 19 #[.slice A n c, .int .i64 k0] w fun e w' => e = .returned (.int .i64 (k0 + n)) ∧ Below w.heap.size w w' := by
  go_enter Tryz.func19, Tryz.ntmps19
  go_wp2
  go_loopw [1, 5] (fun kk i wr => ∃ k : Nat, k ≤ n ∧ i = .int .i64 k ∧ kk = .int .i64 (k0 + k) ∧ Below w.heap.size w wr) (fun _ i _ => n - (intOf i).toNat)
  case atStart => exact ⟨0, Nat.zero_le _, rfl, by go_num, Below.refl _ _⟩
  case round =>
    obtain ⟨k, hk, rfl, rfl, hbw⟩ := hrel
    by_cases hlt : k < n
    · obtain ⟨b1, o1, x, rfl, hl1, hx, hc1⟩ := (ha.keep hbw).at_ hlt
      rw [marks_at hlt] at hx
      injection hx with hx
      subst hx
      go_wp2
      go_roundw
      case rel => exact ⟨k + 1, by omega, by go_num, by go_num, hbw⟩
      case measure => simp [intOf]; omega
    · go_wp2
      go_ret
      obtain rfl : k = n := by omega
      exact ⟨rfl, hbw⟩

set_option maxHeartbeats 400000 in
theorem markBoard_any (W H : Int) (A : Option Addr) (n c lo : Nat) (k0 : Int) (xs : List Int) (w : World) (ha : OwnI 3 w lo A n c xs) (h0 : 0 ≤ k0) (hk0 : k0 + n ≤ 4611686018427387904) :
    Calls Tryz.prog 17 #[brd W H A n c, .int .i64 k0] w fun e w' => e = .returned (.int .i64 (k0 + n)) ∧ OwnI 3 w' lo A n c (marks k0 n) ∧ w.grownBy w' (rowOf A) := by
  go_enter Tryz.func17, Tryz.ntmps17
  go_wp2_with fail
  refine (markIntS_any A n c lo k0 xs _ (ha.alloc _) h0 hk0).mono ?_
  rintro e w1 ⟨rfl, hown, hg⟩
  have HG := Lib.hid (grown_next (grown_of_below (below_new (Below.refl _ _) _) _) hg)
  clear hg
  go_wp2
  go_ret
  exact ⟨rfl, hown, HG.out⟩

end Go.Proofs.YtnmmgalidkambaaGreatDoor
