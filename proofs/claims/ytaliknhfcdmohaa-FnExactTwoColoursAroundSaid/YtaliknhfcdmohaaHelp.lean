/-
  Contracts of the laws' own helpers: what copies, compares, marks and looks at slices of ints and boards.
-/
import Derived.Test.YtaliknhfcdmohaaProg
import Derived.Test.YtaliknhfcdmohaaMem
namespace Go.Proofs.Ytaliknhfcdmohaa
open Go.RowKit

theorem infoI : (Try.prog.info? 3).map (fun i => (i.zero, i.size, i.bytes)) = some (some (.int .i64 0), 1, 8) := by kernel_rfl

set_option maxHeartbeats 400000 in
theorem eqIntS_any (A B : Option Addr) (n m c d : Nat) (xs ys : List Int) (w : World) (ha : Rd w A n xs) (hb : Rd w B m ys) :
    Calls Try.prog 25 #[.slice A n c, .slice B m d] w fun e w' => e = .returned (.bool (decide (xs = ys))) ∧ Below w.heap.size w w' := by
  have h1 := ha.1; have h2 := hb.1; have h3 := ha.2.1; have h4 := hb.2.1
  by_cases hnm : n = m
  · subst hnm
    have H1 := Lib.hid h1; have H2 := Lib.hid h2
    clear h1 h2
    go_enter Try.func25, Try.ntmps25
    go_wp2
    go_loopw [5] (fun i wr => ∃ k : Nat, k ≤ n ∧ i = .int .i64 k ∧ xs.take k = ys.take k ∧ Below w.heap.size w wr) (fun i _ => n - (intOf i).toNat)
    case atStart => exact ⟨0, Nat.zero_le _, rfl, rfl, Below.refl _ _⟩
    case round =>
      obtain ⟨k, hk, rfl, htk, hbw⟩ := hrel
      have HT := Lib.hid htk
      clear htk
      by_cases hlt : k < n
      · obtain ⟨b1, o1, x, rfl, hl1, hx, hc1⟩ := (ha.keep hbw).at_ hlt
        obtain ⟨b2, o2, y, rfl, hl2, hy, hc2⟩ := (hb.keep hbw).at_ hlt
        have HX := Lib.hid hx; have HY := Lib.hid hy
        clear hx hy
        by_cases hxy : x = y
        · subst hxy
          go_wp2
          go_quiet (fail)
          go_wp2
          go_roundw
          case rel => exact ⟨k + 1, by omega, by go_num, take_same_succ HT.out HX.out HY.out, below_drewN hbw _⟩
          case measure => simp [intOf]; omega
        · have hne : (x != y) = true := by simpa using hxy
          go_wp2
          go_quiet (fail)
          go_wp2
          go_ret
          exact ⟨ret_bool (by simpa using ne_of_at HX.out HY.out hxy), below_drewN hbw _⟩
      · go_wp2
        go_ret
        have := HT.out
        have e1 := H1.out; have e2 := H2.out
        exact ⟨ret_bool (by rw [List.take_of_length_le (by omega), List.take_of_length_le (by omega)] at this; simpa using this), hbw⟩
  · have hne : ((n : Int) != (m : Int)) = true := by simp; omega
    go_enter Try.func25, Try.ntmps25
    go_wp2
    go_ret
    exact ⟨ret_bool (by simp; intro e; subst e; omega), Below.refl _ _⟩

/-- A board's value. -/
abbrev brd (W H : Int) (A : Option Addr) (n c : Nat) : Value := .agg #[.int .i64 W, .int .i64 H, .slice A n c]
abbrev lpr (a b : Int) : Value := .agg #[.int .i64 a, .int .i64 b]

set_option maxHeartbeats 400000 in
theorem toLeaper_any (a b : Int) (w : World) :
    Calls Try.prog 23 #[lpr a b] w fun e w' => e = .returned (lpr a b) ∧ Below w.heap.size w w' := by
  go_enter Try.func23, Try.ntmps23
  go_wp2
  exact bodyPost_ret (v := lpr a b) (by simp [results, Try.results23, go_sem]) rfl ⟨rfl, below_new (below_new (below_new (Below.refl _ _) _) _) _⟩

set_option maxHeartbeats 400000 in
theorem markIntS_any (A : Option Addr) (n c lo : Nat) (k0 : Int) (xs : List Int) (w : World) (ha : OwnI 3 w lo A n c xs) (h0 : 0 ≤ k0) (hk0 : k0 + n ≤ 4611686018427387904) :
    Calls Try.prog 26 #[.slice A n c, .int .i64 k0] w fun e w' => e = .returned (.int .i64 (k0 + n)) ∧ OwnI 3 w' lo A n c (marks k0 n) ∧ w.grownBy w' (rowOf A) := by
  have HL := Lib.hid ha.len
  go_enter Try.func26, Try.ntmps26
  go_wp2
  go_loopw [1, 5] (fun kk i wr => ∃ k : Nat, k ≤ n ∧ i = .int .i64 k ∧ kk = .int .i64 (k0 + k) ∧ OwnI 3 wr lo A n c (marks k0 k ++ xs.drop k) ∧ w.grownBy wr (rowOf A)) (fun _ i _ => n - (intOf i).toNat)
  case atStart => exact ⟨0, Nat.zero_le _, rfl, by go_num, by simpa [marks] using ha, grown_refl _ _⟩
  case round =>
    obtain ⟨k, hk, rfl, rfl, hown, hbw⟩ := hrel
    by_cases hlt : k < n
    · obtain ⟨g, rfl, hg1, hg2⟩ := hown.some_ hlt
      obtain ⟨x, hx1, hx2⟩ := marks_app_at (k := k0) HL.out hlt
      have hc3 := hown.cell hx2
      have hf3 : wr.frozen? ⟨g, k, none⟩ = false := hown.frozen k
      have hst := hown.stored k (k0 + k)
      rw [marks_set hx1] at hst
      have HB := Lib.hid (grown_next hbw hst.2)
      have HS := Lib.hid hst.1
      clear hst hbw hown hx1 hx2
      go_wp2
      go_roundw
      case rel => exact ⟨k + 1, by omega, by go_num, by go_num, HS.out, HB.out⟩
      case measure => simp [intOf]; omega
    · go_wp2
      go_ret
      obtain rfl : k = n := by omega
      exact ⟨rfl, by rw [List.drop_of_length_le (by have := HL.out; omega), List.append_nil] at hown; exact hown, hbw⟩

set_option maxHeartbeats 400000 in
theorem heldIntS_any (A : Option Addr) (n c : Nat) (k0 : Int) (w : World) (ha : Rd w A n (marks k0 n)) (h0 : 0 ≤ k0) (hk0 : k0 + n ≤ 4611686018427387904) :
    Calls Try.prog 27 #[.slice A n c, .int .i64 k0] w fun e w' => e = .returned (.int .i64 (k0 + n)) ∧ Below w.heap.size w w' := by
  go_enter Try.func27, Try.ntmps27
  go_wp2
  go_loopw [1, 5] (fun kk i wr => ∃ k : Nat, k ≤ n ∧ i = .int .i64 k ∧ kk = .int .i64 (k0 + k) ∧ Below w.heap.size w wr) (fun _ i _ => n - (intOf i).toNat)
  case atStart => exact ⟨0, Nat.zero_le _, rfl, by go_num, Below.refl _ _⟩
  case round =>
    obtain ⟨k, hk, rfl, rfl, hbw⟩ := hrel
    by_cases hlt : k < n
    · obtain ⟨b1, o1, x, rfl, hl1, hx, hc1⟩ := (ha.keep hbw).at_ hlt
      rw [marks_at hlt] at hx
      injection hx with hx
      subst hx
      go_wp2
      go_roundw
      case rel => exact ⟨k + 1, by omega, by go_num, by go_num, hbw⟩
      case measure => simp [intOf]; omega
    · go_wp2
      go_ret
      obtain rfl : k = n := by omega
      exact ⟨rfl, hbw⟩

end Go.Proofs.Ytaliknhfcdmohaa
