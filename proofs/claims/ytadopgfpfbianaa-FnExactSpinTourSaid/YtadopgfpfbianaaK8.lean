/-
  Contracts: slices.Concat of two lists.
-/
import Derived.Test.YtadopgfpfbianaaB15
import Derived.Test.YtadopgfpfbianaaApp2
import Derived.Test.YtadopgfpfbianaaGrowf
namespace Go.Proofs.Ytadopgfpfbianaa
open Go.RowKit

set_option maxRecDepth 100000 in
/-- slices.Concat of two lists that lie one beside the other in a block. -/
theorem concat2_any (gS : Nat) (a1 a2 : Addr) (n c m d : Nat) (ys zs : List Int) (w : World) (hg : gS < w.heap.size) (s0 : w.cell? ⟨gS, 0, none⟩ = some (.slice (some a1) n c)) (s1 : w.cell? ⟨gS, 1, none⟩ = some (.slice (some a2) m d))
    (hy : Rd w (some a1) n ys) (hz : Rd w (some a2) m zs) (h1 : 1 ≤ n + m) (h64 : n + m ≤ 64) :
    Calls Try.prog 78 #[.slice (some ⟨gS, 0, none⟩) 2 2] w fun e w' => ∃ A' c', e = .returned (.slice A' (n + m) c') ∧ OwnI 3 w' w.heap.size A' (n + m) c' (ys ++ zs) ∧ Below w.heap.size w w' := by
  obtain ⟨i0, hi, hz0, hz1, hz2⟩ := info_parts infoI
  have HI := Lib.hid hi; have HZ0 := Lib.hid hz0; have HZ1 := Lib.hid hz1; have HZ2 := Lib.hid hz2
  have HY := Lib.hid hy; have HZ := Lib.hid hz
  have H64 := Lib.hid h64
  have hn9 : (n : Int) ≤ 64 := by omega
  have hm9 : (m : Int) ≤ 64 := by omega
  have H1 := Lib.hid h1
  clear hi hz0 hz1 hz2 hy hz h64 h1
  go_enter Try.func78, Try.ntmps78
  go_wp2
  go_loopw [3, 11] (fun s i wr => ∃ (k p : Nat), i = .int .i64 k ∧ s = .int .i64 p ∧ ((k = 0 ∧ p = 0) ∨ (k = 1 ∧ p = n) ∨ (k = 2 ∧ p = n + m)) ∧ w = wr) (fun _ i _ => 2 - (intOf i).toNat)
  case atStart => exact ⟨0, 0, rfl, rfl, Or.inl ⟨rfl, rfl⟩, rfl⟩
  case round =>
    obtain ⟨k, p, rfl, rfl, hkp, rfl⟩ := hrel
    rcases hkp with ⟨rfl, rfl⟩ | ⟨rfl, rfl⟩ | ⟨rfl, rfl⟩
    · go_wp2
      go_roundw
      case rel => exact ⟨1, n, by go_num, by go_num, Or.inr (Or.inl ⟨rfl, rfl⟩), by trivial⟩
      case measure => simp [intOf]
    · go_wp2
      go_roundw
      case rel => exact ⟨2, p + m, by go_num, by go_num, Or.inr (Or.inr ⟨rfl, rfl⟩), by trivial⟩
      case measure => simp [intOf]
    · go_wp2_with fail
      refine (Any8.slices_Grow_grow Try.growI i0 (.int .i64 0) HI.out HZ0.out (by rw [HZ1.out]; decide) none 0 0 (n + m) [] _ (Nat.le_refl _) (by have := H1.out; omega) (by rw [HZ2.out]; have := H64.out; omega) (by have := H64.out; omega) (by simp) (fun _ => rfl) (fun _ h => by cases h)).mono ?_
      rintro e wg ⟨rfl, hwg⟩
      have hwg' : wg = w.drew.alloc (.cells ((Builtin.zeroCells (Value.cells (.int .i64 0)) (n + m)) ++ Builtin.zeroCells (Value.cells (.int .i64 0)) (grownCap w (0 + (n + m)) 0 3 - (0 + (n + m)))) 3) := by
        rw [hwg]; simp [Try.growI_ren]
      obtain ⟨cs, hcs⟩ : ∃ cs, cs = ((Builtin.zeroCells (Value.cells (.int .i64 0)) (n + m)) ++ Builtin.zeroCells (Value.cells (.int .i64 0)) (grownCap w (0 + (n + m)) 0 3 - (0 + (n + m)))) := ⟨_, rfl⟩
      obtain ⟨cap, hcap⟩ : ∃ cap, cap = grownCap w (0 + (n + m)) 0 3 := ⟨_, rfl⟩
      rw [show (grownCap w (0 + (n + m)) 0 (Try.growI_ren.t 25)) = cap from hcap.symm]
      rw [← hcs] at hwg'
      have hc1 : n + m ≤ cap := by rw [hcap]; have := grownCap_ge w (0 + (n + m)) 0 3; omega
      have hc2 : cap ≤ maxLen := by rw [hcap]; exact grownCap_le_maxLen w _ 0 3 (by unfold maxLen; have := H64.out; omega)
      have hcsz : cs.size = cap * 1 := by
        rw [hcs, ← hcap, Array.size_append, size_zeroCells, size_zeroCells]
        simp [Value.cells]; omega
      have hown : OwnI 3 wg w.heap.size (some ⟨w.heap.size, 0, none⟩) 0 cap [] := by
        rw [hwg']
        exact World.ownsRow_made (base := w.heap.size) (e := 3) (size := 1) w.drew cs cap (Nat.le_refl _) hc2 hcsz
      have hb0 : Below w.heap.size w wg := by rw [hwg']; exact ((Below.refl _ w).drew).alloc (Nat.le_refl _) _
      obtain ⟨gN, hgN⟩ : ∃ gN, gN = w.heap.size := ⟨_, rfl⟩
      rw [← hgN] at hown
      rw [show (w.heap.size : Nat) = gN from hgN.symm]
      have OW := Lib.hid hown; have B := Lib.hid hb0; have HGN := Lib.hid hgN
      have S0 := Lib.hid s0; have S1 := Lib.hid s1; have HGS := Lib.hid hg
      clear hwg hwg' hcs hcap hc1 hc2 hcsz hown hb0 s0 s1 hg hgN
      go_wp2
      go_loopw [6, 27] (fun s i wr => ∃ (k p c' : Nat) (A' : Option Addr) (acc : List Int), i = .int .i64 k ∧ s = .slice A' p c' ∧ OwnI 3 wr gN A' p c' acc ∧ ((k = 0 ∧ p = 0 ∧ acc = []) ∨ (k = 1 ∧ p = n ∧ acc = ys) ∨ (k = 2 ∧ p = n + m ∧ acc = ys ++ zs)) ∧ Below gN w wr) (fun _ i _ => 2 - (intOf i).toNat)
      case atStart => exact ⟨0, 0, cap, _, [], rfl, rfl, OW.out, Or.inl ⟨rfl, rfl, rfl⟩, by rw [HGN.out]; exact B.out⟩
      case round =>
        obtain ⟨k, p, c', A', acc, rfl, rfl, hown, hkp, hbw⟩ := hrel
        have hlo : gN ≤ wr.heap.size := by rw [HGN.out]; rw [HGN.out] at hbw; exact hbw.size
        have hbw2 : Below w.heap.size w wr := by rw [← HGN.out]; exact hbw
        have s0 := cell_keep S0.out HGS.out hbw2
        have s1 := cell_keep S1.out HGS.out hbw2
        have hgl := lt_keep HGS.out hbw2
        have RY := Lib.hid (HY.out.keep hbw2); have RZ := Lib.hid (HZ.out.keep hbw2)
        have HB := Lib.hid hbw; have OWN := Lib.hid hown
        clear hbw hbw2 hown
        rcases hkp with ⟨rfl, rfl, rfl⟩ | ⟨rfl, rfl, rfl⟩ | ⟨rfl, rfl, rfl⟩
        · go_wp2_with (at_builtin; refine wpList_appN rfl (.tmp 31) (.tmp 32) 22 3 rfl i0 Try.underlying22 HI.out HZ0.out HZ1.out HZ2.out gN A' 0 c' [] a1 n c ys rfl OWN.out rfl RY.out.1 (fun j y hj => RY.out.cell_ hj) (by omega) hlo ?_; intro A9 c9 w9 hown9 hb9)
          go_roundw
          case rel => exact ⟨1, n, c9, A9, ys, by go_num, rfl, by simpa using hown9, Or.inr (Or.inl ⟨rfl, rfl, rfl⟩), HB.out.trans hb9⟩
          case measure => simp [intOf]
        · go_wp2_with (at_builtin; refine wpList_appN rfl (.tmp 31) (.tmp 32) 22 3 rfl i0 Try.underlying22 HI.out HZ0.out HZ1.out HZ2.out gN A' _ c' _ a2 m d zs rfl OWN.out rfl RZ.out.1 (fun j y hj => RZ.out.cell_ hj) (by omega) hlo ?_; intro A9 c9 w9 hown9 hb9)
          go_roundw
          case rel => exact ⟨2, _, c9, A9, _, by go_num, rfl, hown9, Or.inr (Or.inr ⟨rfl, rfl, rfl⟩), HB.out.trans hb9⟩
          case measure => simp [intOf]
        · go_wp2
          go_ret
          exact ⟨A', c', rfl, by rw [← HGN.out]; exact OWN.out, by rw [← HGN.out]; exact HB.out⟩
end Go.Proofs.Ytadopgfpfbianaa
