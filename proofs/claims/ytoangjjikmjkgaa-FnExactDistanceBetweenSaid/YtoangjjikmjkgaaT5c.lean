/-
  Contracts: DistanceBetween.
-/
import Derived.Test.YtoangjjikmjkgaaT5b
import Derived.Test.YtoangjjikmjkgaaT9d
namespace Go.Proofs.Ytoangjjikmjkgaa
open Go.RowKit

set_option maxRecDepth 100000 in
set_option maxHeartbeats 2000000 in
theorem impl_DistanceBetween (W H : Int) (A : Option Addr) (n c : Nat) (xs : List Int) (a b : Int) (p : Int) (q : Int) (w : World) (ha : Rd w A n xs) :
    Calls Try.prog 14 #[brd W H A n c, lpr a b, .int .i64 p, .int .i64 q] w fun e w' => e = .returned (.tuple #[.int .i64 (distBV W H xs a b p q), .bool (okDist W H xs a b p q)]) ∧ Below w.heap.size w w' := by
  by_cases ho : onB W H xs a b [p, q] = true
  · have FO := on_facts (onB_two ho).1
    have HP := Lib.hid (onB_two ho).2.1
    have HQ := Lib.hid (onB_two ho).2.2
    obtain ⟨N, hN⟩ : ∃ N, N = (W * H).toNat := ⟨_, rfl⟩
    rw [← hN] at FO
    have hp0 := (hasB_iff.1 HP.out).1
    have hq0 := (hasB_iff.1 HQ.out).1
    rw [FO.wh] at hp0 hq0
    obtain ⟨s, rfl⟩ : ∃ s : Nat, p = (s : Int) := ⟨p.toNat, by omega⟩
    obtain ⟨t, rfl⟩ : ∃ t : Nat, q = (t : Int) := ⟨q.toNat, by omega⟩
    have hs : s < N := by omega
    have ht : t < N := by omega
    have HF := Lib.hid FO
    have n64 := FO.n.2
    have HD := Lib.hid (dist_at FO HP.out ht)
    have DLO := HD.out.2.1
    have DHI := HD.out.2.2
    have HO := Lib.hid ho
    obtain ⟨dv, hdv⟩ : ∃ dv, dv = distV W H xs a b (s : Int) (t : Int) := ⟨_, rfl⟩
    rw [← hdv] at DLO DHI
    have HDV := Lib.hid hdv
    have hL : farL (leapsL W H xs a b) N (s : Int) = distL W H xs a b (s : Int) := by rw [distL, hN]
    have HL := Lib.hid hL
    clear FO hp0 hq0 hN hdv hL
    obtain ⟨W2, hW2⟩ : ∃ W2, W2 = ((w.alloc (.cells #[.int .i64 W, .int .i64 H, .slice A n c] 30)).alloc (.cells #[.int .i64 a, .int .i64 b] 32)).alloc (.cells #[.int .i64 (s : Int), .int .i64 (t : Int)] 3) := ⟨_, rfl⟩
    have hsz : W2.heap.size = w.heap.size + 3 := by rw [hW2]; simp
    have a0 : W2.cell? ⟨w.heap.size, 0, none⟩ = some (.int .i64 W) := by rw [hW2]; go_simp
    have a1 : W2.cell? ⟨w.heap.size, 1, none⟩ = some (.int .i64 H) := by rw [hW2]; go_simp
    have a2 : W2.cell? ⟨w.heap.size, 2, none⟩ = some (.slice A n c) := by rw [hW2]; go_simp
    have l0 : W2.cell? ⟨w.heap.size + 1, 0, none⟩ = some (.int .i64 a) := by rw [hW2]; go_simp
    have l1 : W2.cell? ⟨w.heap.size + 1, 1, none⟩ = some (.int .i64 b) := by rw [hW2]; go_simp
    have q0 : W2.cell? ⟨w.heap.size + 1 + 1, 0, none⟩ = some (.int .i64 (s : Int)) := by rw [hW2]; go_simp
    have q1 : W2.cell? ⟨w.heap.size + 1 + 1, 1, none⟩ = some (.int .i64 (t : Int)) := by rw [hW2]; go_simp
    have al : w.heap.size < W2.heap.size := by omega
    have ll : w.heap.size + 1 < W2.heap.size := by omega
    have B := Lib.hid (show Below w.heap.size w W2 by rw [hW2]; exact (((Below.refl _ _).alloc (Nat.le_refl _) _).alloc (by simp) _).alloc (by simp; omega) _)
    have RP := Lib.hid (show Rd W2 (some ⟨w.heap.size + 1 + 1, 0, none⟩) 2 [(s : Int), (t : Int)] from ⟨rfl, by omega, fun k hk => by
      have h2 : k = 0 ∨ k = 1 := by omega
      rcases h2 with rfl | rfl
      · exact ⟨_, 0, _, rfl, by omega, rfl, q0⟩
      · exact ⟨_, 0, _, rfl, by omega, rfl, q1⟩⟩)
    clear q0 q1
    go_enter Try.func14, Try.ntmps14
    go_wp2_with fail
    rw [← hW2]
    clear hW2
    refine (isLeaperOn_any W H A n c xs a b _ 2 2 _ W2 (ha.keep B.out) RP.out).mono ?_
    rw [ho]
    rintro e wv ⟨rfl, hb⟩
    replace a0 := cell_keep a0 al hb; replace a1 := cell_keep a1 al hb; replace a2 := cell_keep a2 al hb; replace l0 := cell_keep l0 ll hb; replace l1 := cell_keep l1 ll hb; replace al := lt_keep al hb; replace ll := lt_keep ll hb
    replace B := Lib.hid (below_next B.out hb)
    clear hb RP hsz
    go_wp2_with fail
    refine (onwardOf_any W H A n c xs a b _ (ha.keep B.out) HF.out.g HF.out.l).mono ?_
    rintro e wx ⟨mb, rfl, hom, hb⟩
    replace B := Lib.hid (below_next B.out hb)
    clear hb
    go_wp2_with fail
    refine (distance_any _ mb (cellsL W H xs) (leapsL W H xs a b) s t dv _ hom (by omega) (cellsL_mem.2 HP.out) (cells_in HF.out) adj_in (by omega) (by rw [far64 HF.out HP.out, List.length_append, dist_len HF.out HP.out, List.length_replicate]; omega) (by rw [far64 HF.out HP.out, List.getElem?_append_left (by rw [dist_len HF.out HP.out]; exact ht), HDV.out]; exact HD.out.1) ⟨DLO, by omega⟩).mono ?_
    rintro e wy ⟨rfl, hb⟩
    replace B := Lib.hid (below_next B.out hb)
    clear hb hom
    go_wp2
    go_ret2
    exact ⟨by rw [distBV, okDist, ← HDV.out, HO.out, Bool.true_and, ← dAns_eq DLO, ← dOk_eq DLO]; rfl, B.out⟩
  · have ho' : onB W H xs a b [p, q] = false := by simpa using ho
    obtain ⟨W2, hW2⟩ : ∃ W2, W2 = ((w.alloc (.cells #[.int .i64 W, .int .i64 H, .slice A n c] 30)).alloc (.cells #[.int .i64 a, .int .i64 b] 32)).alloc (.cells #[.int .i64 p, .int .i64 q] 3) := ⟨_, rfl⟩
    have hsz : W2.heap.size = w.heap.size + 3 := by rw [hW2]; simp
    have a0 : W2.cell? ⟨w.heap.size, 0, none⟩ = some (.int .i64 W) := by rw [hW2]; go_simp
    have a1 : W2.cell? ⟨w.heap.size, 1, none⟩ = some (.int .i64 H) := by rw [hW2]; go_simp
    have a2 : W2.cell? ⟨w.heap.size, 2, none⟩ = some (.slice A n c) := by rw [hW2]; go_simp
    have l0 : W2.cell? ⟨w.heap.size + 1, 0, none⟩ = some (.int .i64 a) := by rw [hW2]; go_simp
    have l1 : W2.cell? ⟨w.heap.size + 1, 1, none⟩ = some (.int .i64 b) := by rw [hW2]; go_simp
    have q0 : W2.cell? ⟨w.heap.size + 1 + 1, 0, none⟩ = some (.int .i64 p) := by rw [hW2]; go_simp
    have q1 : W2.cell? ⟨w.heap.size + 1 + 1, 1, none⟩ = some (.int .i64 q) := by rw [hW2]; go_simp
    have al : w.heap.size < W2.heap.size := by omega
    have ll : w.heap.size + 1 < W2.heap.size := by omega
    have B := Lib.hid (show Below w.heap.size w W2 by rw [hW2]; exact (((Below.refl _ _).alloc (Nat.le_refl _) _).alloc (by simp) _).alloc (by simp; omega) _)
    have RP := Lib.hid (show Rd W2 (some ⟨w.heap.size + 1 + 1, 0, none⟩) 2 [p, q] from ⟨rfl, by omega, fun k hk => by
      have h2 : k = 0 ∨ k = 1 := by omega
      rcases h2 with rfl | rfl
      · exact ⟨_, 0, _, rfl, by omega, rfl, q0⟩
      · exact ⟨_, 0, _, rfl, by omega, rfl, q1⟩⟩)
    clear q0 q1
    go_enter Try.func14, Try.ntmps14
    go_wp2_with fail
    rw [← hW2]
    clear hW2
    refine (isLeaperOn_any W H A n c xs a b _ 2 2 _ W2 (ha.keep B.out) RP.out).mono ?_
    rw [ho']
    rintro e wv ⟨rfl, hb⟩
    replace a0 := cell_keep a0 al hb; replace a1 := cell_keep a1 al hb; replace a2 := cell_keep a2 al hb; replace l0 := cell_keep l0 ll hb; replace l1 := cell_keep l1 ll hb; replace al := lt_keep al hb; replace ll := lt_keep ll hb
    replace B := Lib.hid (below_next B.out hb)
    clear hb RP hsz
    go_wp2
    go_ret2
    exact ⟨by rw [show okDist W H xs a b p q = false by rw [okDist, ho']; rfl, distBV, if_neg (by rw [okDist, ho']; simp)]; rfl, B.out⟩

end Go.Proofs.Ytoangjjikmjkgaa
