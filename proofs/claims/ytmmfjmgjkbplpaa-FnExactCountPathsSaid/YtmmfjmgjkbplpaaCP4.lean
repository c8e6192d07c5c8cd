/-
  Contracts: CountPaths.
-/
import Derived.Test.YtmmfjmgjkbplpaaCP2
import Derived.Test.YtmmfjmgjkbplpaaCP3
import Derived.Test.YtmmfjmgjkbplpaaT1
import Derived.Test.YtmmfjmgjkbplpaaT2
namespace Go.Proofs.Ytmmfjmgjkbplpaa
open Go.RowKit

set_option maxRecDepth 100000 in
set_option maxHeartbeats 2000000 in
theorem impl_CountPaths (W H : Int) (A : Option Addr) (n c : Nat) (xs : List Int) (a b : Int) (p : Int) (q : Int) (lp : Int) (w : World) (ha : Rd w A n xs) :
    Calls Try.prog 10 #[brd W H A n c, lpr a b, .int .i64 p, .int .i64 q, .int .i64 lp] w fun e w' => e = .returned (.tuple #[.int .i64 (cpV W H xs a b p q lp), .bool (okCP W H xs a b p q lp)]) ∧ Below w.heap.size w w' := by
  by_cases ho : onB W H xs a b [p, q] = true
  · by_cases hin : inB lp 0 12 = true
    · have FO := on_facts (onB_two ho).1
      have HP := Lib.hid (onB_two ho).2.1
      have HQ := Lib.hid (onB_two ho).2.2
      have hq0 := (hasB_iff.1 HQ.out).1
      have hqw : 0 ≤ q ∧ q ≤ 144 := by have := FO.wh; have := FO.n; omega
      have HQW := Lib.hid hqw
      have HF := Lib.hid FO
      have hi12 := hin
      rw [inB] at hi12
      have hl12 : 0 ≤ lp ∧ lp ≤ 12 := by simpa using hi12
      obtain ⟨L, rfl⟩ : ∃ L : Nat, lp = (L : Int) := ⟨lp.toNat, by omega⟩
      have hL12 : L ≤ 12 := by omega
      have HO := Lib.hid ho
      have HIN := Lib.hid hin
      clear FO hq0 hqw hi12 hl12
      obtain ⟨W2, hW2⟩ : ∃ W2, W2 = ((w.alloc (.cells #[.int .i64 W, .int .i64 H, .slice A n c] 30)).alloc (.cells #[.int .i64 a, .int .i64 b] 32)).alloc (.cells #[.int .i64 p, .int .i64 q] 3) := ⟨_, rfl⟩
      have hsz : W2.heap.size = w.heap.size + 3 := by rw [hW2]; simp
      have a0 : W2.cell? ⟨w.heap.size, 0, none⟩ = some (.int .i64 W) := by rw [hW2]; go_simp
      have a1 : W2.cell? ⟨w.heap.size, 1, none⟩ = some (.int .i64 H) := by rw [hW2]; go_simp
      have a2 : W2.cell? ⟨w.heap.size, 2, none⟩ = some (.slice A n c) := by rw [hW2]; go_simp
      have l0 : W2.cell? ⟨w.heap.size + 1, 0, none⟩ = some (.int .i64 a) := by rw [hW2]; go_simp
      have l1 : W2.cell? ⟨w.heap.size + 1, 1, none⟩ = some (.int .i64 b) := by rw [hW2]; go_simp
      have q0 : W2.cell? ⟨w.heap.size + 1 + 1, 0, none⟩ = some (.int .i64 p) := by rw [hW2]; go_simp
      have q1 : W2.cell? ⟨w.heap.size + 1 + 1, 1, none⟩ = some (.int .i64 q) := by rw [hW2]; go_simp
      have al : w.heap.size < W2.heap.size := by omega
      have ll : w.heap.size + 1 < W2.heap.size := by omega
      have B := Lib.hid (show Below w.heap.size w W2 by rw [hW2]; exact (((Below.refl _ _).alloc (Nat.le_refl _) _).alloc (by simp) _).alloc (by simp; omega) _)
      have RP := Lib.hid (show Rd W2 (some ⟨w.heap.size + 1 + 1, 0, none⟩) 2 [p, q] from ⟨rfl, by omega, fun k hk => by
        have h2 : k = 0 ∨ k = 1 := by omega
        rcases h2 with rfl | rfl
        · exact ⟨_, 0, _, rfl, by omega, rfl, q0⟩
        · exact ⟨_, 0, _, rfl, by omega, rfl, q1⟩⟩)
      clear q0 q1
      go_enter Try.func10, Try.ntmps10
      go_wp2_with fail
      rw [← hW2]
      clear hW2
      refine (isLeaperOn_any W H A n c xs a b _ 2 2 _ W2 (ha.keep B.out) RP.out).mono ?_
      rw [ho]
      rintro e wv ⟨rfl, hb⟩
      replace a0 := cell_keep a0 al hb; replace a1 := cell_keep a1 al hb; replace a2 := cell_keep a2 al hb; replace l0 := cell_keep l0 ll hb; replace l1 := cell_keep l1 ll hb; replace al := lt_keep al hb; replace ll := lt_keep ll hb
      replace B := Lib.hid (below_next B.out hb)
      clear hb RP hsz
      go_wp2_with fail
      refine (isNumberOfLeaps_any _ _).mono ?_
      rw [hin]
      rintro e wv ⟨rfl, hb⟩
      replace a0 := cell_keep a0 al hb; replace a1 := cell_keep a1 al hb; replace a2 := cell_keep a2 al hb; replace l0 := cell_keep l0 ll hb; replace l1 := cell_keep l1 ll hb; replace al := lt_keep al hb; replace ll := lt_keep ll hb
      replace B := Lib.hid (below_next B.out hb)
      clear hb ho hin
      go_wp2_with fail
      refine (onwardOf_any W H A n c xs a b _ (ha.keep B.out) HF.out.g HF.out.l).mono ?_
      rintro e wx ⟨mb, rfl, hom, hb⟩
      replace B := Lib.hid (below_next B.out hb)
      clear hb
      go_wp2_with fail
      refine (countPaths_any _ mb (cellsL W H xs) (leapsL W H xs a b) p q L _ hom (cellsL_nodup W H xs) (cellsL_mem.2 HP.out) (fun x hx => by have := cells_in HF.out x hx; have := HF.out.n; omega) adj_in (fun c => leapsL_nodup W H xs a b c) (leaps_in8 W H xs a b) hL12 HQW.out).mono ?_
      rintro e wy ⟨rfl, hb⟩
      replace B := Lib.hid (below_next B.out hb)
      clear hb hom
      go_wp2
      go_ret2
      exact ⟨by rw [cpV, show okCP W H xs a b p q (L : Int) = true by rw [okCP, HO.out, HIN.out]; rfl, if_pos rfl, Int.toNat_natCast]; rfl, B.out⟩
    · have hin' : inB lp 0 12 = false := by simpa using hin
      obtain ⟨W2, hW2⟩ : ∃ W2, W2 = ((w.alloc (.cells #[.int .i64 W, .int .i64 H, .slice A n c] 30)).alloc (.cells #[.int .i64 a, .int .i64 b] 32)).alloc (.cells #[.int .i64 p, .int .i64 q] 3) := ⟨_, rfl⟩
      have hsz : W2.heap.size = w.heap.size + 3 := by rw [hW2]; simp
      have a0 : W2.cell? ⟨w.heap.size, 0, none⟩ = some (.int .i64 W) := by rw [hW2]; go_simp
      have a1 : W2.cell? ⟨w.heap.size, 1, none⟩ = some (.int .i64 H) := by rw [hW2]; go_simp
      have a2 : W2.cell? ⟨w.heap.size, 2, none⟩ = some (.slice A n c) := by rw [hW2]; go_simp
      have l0 : W2.cell? ⟨w.heap.size + 1, 0, none⟩ = some (.int .i64 a) := by rw [hW2]; go_simp
      have l1 : W2.cell? ⟨w.heap.size + 1, 1, none⟩ = some (.int .i64 b) := by rw [hW2]; go_simp
      have q0 : W2.cell? ⟨w.heap.size + 1 + 1, 0, none⟩ = some (.int .i64 p) := by rw [hW2]; go_simp
      have q1 : W2.cell? ⟨w.heap.size + 1 + 1, 1, none⟩ = some (.int .i64 q) := by rw [hW2]; go_simp
      have al : w.heap.size < W2.heap.size := by omega
      have ll : w.heap.size + 1 < W2.heap.size := by omega
      have B := Lib.hid (show Below w.heap.size w W2 by rw [hW2]; exact (((Below.refl _ _).alloc (Nat.le_refl _) _).alloc (by simp) _).alloc (by simp; omega) _)
      have RP := Lib.hid (show Rd W2 (some ⟨w.heap.size + 1 + 1, 0, none⟩) 2 [p, q] from ⟨rfl, by omega, fun k hk => by
        have h2 : k = 0 ∨ k = 1 := by omega
        rcases h2 with rfl | rfl
        · exact ⟨_, 0, _, rfl, by omega, rfl, q0⟩
        · exact ⟨_, 0, _, rfl, by omega, rfl, q1⟩⟩)
      clear q0 q1
      go_enter Try.func10, Try.ntmps10
      go_wp2_with fail
      rw [← hW2]
      clear hW2
      refine (isLeaperOn_any W H A n c xs a b _ 2 2 _ W2 (ha.keep B.out) RP.out).mono ?_
      rw [ho]
      rintro e wv ⟨rfl, hb⟩
      replace a0 := cell_keep a0 al hb; replace a1 := cell_keep a1 al hb; replace a2 := cell_keep a2 al hb; replace l0 := cell_keep l0 ll hb; replace l1 := cell_keep l1 ll hb; replace al := lt_keep al hb; replace ll := lt_keep ll hb
      replace B := Lib.hid (below_next B.out hb)
      clear hb RP hsz
      go_wp2_with fail
      refine (isNumberOfLeaps_any _ _).mono ?_
      rw [hin']
      rintro e wv ⟨rfl, hb⟩
      replace a0 := cell_keep a0 al hb; replace a1 := cell_keep a1 al hb; replace a2 := cell_keep a2 al hb; replace l0 := cell_keep l0 ll hb; replace l1 := cell_keep l1 ll hb; replace al := lt_keep al hb; replace ll := lt_keep ll hb
      replace B := Lib.hid (below_next B.out hb)
      clear hb
      go_wp2
      go_ret2
      exact ⟨by rw [show okCP W H xs a b p q lp = false by rw [okCP, hin']; simp, cpV, if_neg (by rw [okCP, hin']; simp)]; rfl, B.out⟩
  · have ho' : onB W H xs a b [p, q] = false := by simpa using ho
    obtain ⟨W2, hW2⟩ : ∃ W2, W2 = ((w.alloc (.cells #[.int .i64 W, .int .i64 H, .slice A n c] 30)).alloc (.cells #[.int .i64 a, .int .i64 b] 32)).alloc (.cells #[.int .i64 p, .int .i64 q] 3) := ⟨_, rfl⟩
    have hsz : W2.heap.size = w.heap.size + 3 := by rw [hW2]; simp
    have a0 : W2.cell? ⟨w.heap.size, 0, none⟩ = some (.int .i64 W) := by rw [hW2]; go_simp
    have a1 : W2.cell? ⟨w.heap.size, 1, none⟩ = some (.int .i64 H) := by rw [hW2]; go_simp
    have a2 : W2.cell? ⟨w.heap.size, 2, none⟩ = some (.slice A n c) := by rw [hW2]; go_simp
    have l0 : W2.cell? ⟨w.heap.size + 1, 0, none⟩ = some (.int .i64 a) := by rw [hW2]; go_simp
    have l1 : W2.cell? ⟨w.heap.size + 1, 1, none⟩ = some (.int .i64 b) := by rw [hW2]; go_simp
    have q0 : W2.cell? ⟨w.heap.size + 1 + 1, 0, none⟩ = some (.int .i64 p) := by rw [hW2]; go_simp
    have q1 : W2.cell? ⟨w.heap.size + 1 + 1, 1, none⟩ = some (.int .i64 q) := by rw [hW2]; go_simp
    have al : w.heap.size < W2.heap.size := by omega
    have ll : w.heap.size + 1 < W2.heap.size := by omega
    have B := Lib.hid (show Below w.heap.size w W2 by rw [hW2]; exact (((Below.refl _ _).alloc (Nat.le_refl _) _).alloc (by simp) _).alloc (by simp; omega) _)
    have RP := Lib.hid (show Rd W2 (some ⟨w.heap.size + 1 + 1, 0, none⟩) 2 [p, q] from ⟨rfl, by omega, fun k hk => by
      have h2 : k = 0 ∨ k = 1 := by omega
      rcases h2 with rfl | rfl
      · exact ⟨_, 0, _, rfl, by omega, rfl, q0⟩
      · exact ⟨_, 0, _, rfl, by omega, rfl, q1⟩⟩)
    clear q0 q1
    go_enter Try.func10, Try.ntmps10
    go_wp2_with fail
    rw [← hW2]
    clear hW2
    refine (isLeaperOn_any W H A n c xs a b _ 2 2 _ W2 (ha.keep B.out) RP.out).mono ?_
    rw [ho']
    rintro e wv ⟨rfl, hb⟩
    replace a0 := cell_keep a0 al hb; replace a1 := cell_keep a1 al hb; replace a2 := cell_keep a2 al hb; replace l0 := cell_keep l0 ll hb; replace l1 := cell_keep l1 ll hb; replace al := lt_keep al hb; replace ll := lt_keep ll hb
    replace B := Lib.hid (below_next B.out hb)
    clear hb RP hsz
    go_wp2
    go_ret2
    exact ⟨by rw [show okCP W H xs a b p q lp = false by rw [okCP, ho']; rfl, cpV, if_neg (by rw [okCP, ho']; simp)]; rfl, B.out⟩

end Go.Proofs.Ytmmfjmgjkbplpaa
