/-
  Contracts: DistancesFrom, the program.
-/
import Derived.Test.YtoangjjikmjkgaaT6a
import Derived.Test.YtoangjjikmjkgaaT5d
namespace Go.Proofs.Ytoangjjikmjkgaa
open Go.RowKit

theorem far_len64 {W H a b p : Int} {xs : List Int} {N : Nat} (h : OnFacts W H xs a b N) (hp : hasB W H xs p = true) : (farL (leapsL W H xs a b) 144 p).length = 144 := by
  rw [far64 h hp, List.length_append, dist_len h hp, List.length_replicate]; have := h.n; omega

set_option maxRecDepth 100000 in
set_option maxHeartbeats 2000000 in
theorem impl_DistancesFrom (W H : Int) (A : Option Addr) (n c : Nat) (xs : List Int) (a b : Int) (p : Int) (w : World) (ha : Rd w A n xs) :
    Calls Try.prog 17 #[brd W H A n c, lpr a b, .int .i64 p] w fun e w' => ∃ A' n' c', e = .returned (.tuple #[.slice A' n' c', .bool (onB W H xs a b [p])]) ∧ OwnI 3 w' w.heap.size A' n' c' (distFromV W H xs a b p) ∧ Below w.heap.size w w' := by
  by_cases ho : onB W H xs a b [p] = true
  · have FO := on_facts (onB_one ho).1
    have HP := Lib.hid (onB_one ho).2
    obtain ⟨N, hN⟩ : ∃ N, N = (W * H).toNat := ⟨_, rfl⟩
    rw [← hN] at FO
    have hp0 := (hasB_iff.1 HP.out).1
    rw [FO.wh] at hp0
    obtain ⟨s, rfl⟩ : ∃ s : Nat, p = (s : Int) := ⟨p.toNat, by omega⟩
    have hs : s < N := by omega
    have HF := Lib.hid FO
    have n64 := FO.n.2
    have HO := Lib.hid ho
    have hL : farL (leapsL W H xs a b) N (s : Int) = distL W H xs a b (s : Int) := by rw [distL, hN]
    have HL := Lib.hid hL
    clear FO hp0 hN hL
    obtain ⟨W2, hW2⟩ : ∃ W2, W2 = ((w.alloc (.cells #[.int .i64 W, .int .i64 H, .slice A n c] 30)).alloc (.cells #[.int .i64 a, .int .i64 b] 32)).alloc (.cells #[.int .i64 (s : Int)] 3) := ⟨_, rfl⟩
    have hsz : W2.heap.size = w.heap.size + 3 := by rw [hW2]; simp
    have a0 : W2.cell? ⟨w.heap.size, 0, none⟩ = some (.int .i64 W) := by rw [hW2]; go_simp
    have a1 : W2.cell? ⟨w.heap.size, 1, none⟩ = some (.int .i64 H) := by rw [hW2]; go_simp
    have a2 : W2.cell? ⟨w.heap.size, 2, none⟩ = some (.slice A n c) := by rw [hW2]; go_simp
    have l0 : W2.cell? ⟨w.heap.size + 1, 0, none⟩ = some (.int .i64 a) := by rw [hW2]; go_simp
    have l1 : W2.cell? ⟨w.heap.size + 1, 1, none⟩ = some (.int .i64 b) := by rw [hW2]; go_simp
    have q0 : W2.cell? ⟨w.heap.size + 1 + 1, 0, none⟩ = some (.int .i64 (s : Int)) := by rw [hW2]; go_simp
    have al : w.heap.size < W2.heap.size := by omega
    have ll : w.heap.size + 1 < W2.heap.size := by omega
    have B := Lib.hid (show Below w.heap.size w W2 by rw [hW2]; exact (((Below.refl _ _).alloc (Nat.le_refl _) _).alloc (by simp) _).alloc (by simp; omega) _)
    have RP := Lib.hid (show Rd W2 (some ⟨w.heap.size + 1 + 1, 0, none⟩) 1 [(s : Int)] from ⟨rfl, by omega, fun k hk => by
      obtain rfl : k = 0 := by omega
      exact ⟨_, 0, _, rfl, by omega, rfl, q0⟩⟩)
    clear q0
    go_enter Try.func17, Try.ntmps17
    go_wp2_with fail
    rw [← hW2]
    clear hW2
    refine (isLeaperOn_any W H A n c xs a b _ 1 1 _ W2 (ha.keep B.out) RP.out).mono ?_
    rw [ho]
    rintro e wv ⟨rfl, hb⟩
    replace a0 := cell_keep a0 al hb; replace a1 := cell_keep a1 al hb; replace a2 := cell_keep a2 al hb; replace l0 := cell_keep l0 ll hb; replace l1 := cell_keep l1 ll hb; replace al := lt_keep al hb; replace ll := lt_keep ll hb
    replace B := Lib.hid (below_next B.out hb)
    clear hb RP hsz
    go_wp2_with fail
    refine (onwardOf_any W H A n c xs a b _ (ha.keep B.out) HF.out.g HF.out.l).mono ?_
    rintro e wx ⟨mb, rfl, hom, hb⟩
    replace a0 := cell_keep a0 al hb; replace a1 := cell_keep a1 al hb; replace a2 := cell_keep a2 al hb; replace l0 := cell_keep l0 ll hb; replace l1 := cell_keep l1 ll hb; replace al := lt_keep al hb; replace ll := lt_keep ll hb
    replace B := Lib.hid (below_next B.out hb)
    clear hb
    go_wp2_with fail
    refine (distancesFrom_any _ mb (cellsL W H xs) (leapsL W H xs a b) s _ hom (by omega) (cellsL_mem.2 HP.out) (cells_in HF.out) adj_in).mono ?_
    rintro e wy ⟨rfl, hb⟩
    replace a0 := cell_keep a0 al hb; replace a1 := cell_keep a1 al hb; replace a2 := cell_keep a2 al hb; replace l0 := cell_keep l0 ll hb; replace l1 := cell_keep l1 ll hb; replace al := lt_keep al hb; replace ll := lt_keep ll hb
    replace B := Lib.hid (below_next B.out hb)
    clear hb hom
    have h64 : (farL (leapsL W H xs a b) 144 (s : Int)).length = 144 := far_len64 HF.out HP.out
    generalize hfl : farL (leapsL W H xs a b) 144 (s : Int) = L at h64 ⊢
    have HFL := Lib.hid hfl
    clear hfl
    have hWN := HF.out.wh
    have hsl := fun w' => run_cut wy.heap.size N (by omega) w'
    go_wp2_with (refine wpList_store64 L h64 rfl _ _ rfl rfl rfl rfl _ _ rfl ?_)
    have hcs := cell_laid wy L 57
    obtain ⟨W3, hW3⟩ : ∃ W3, W3 = wy.alloc (.cells (L.map (Value.int .i64)).toArray 57) := ⟨_, rfl⟩
    rw [← hW3] at hcs ⊢
    replace B := Lib.hid (show Below w.heap.size w W3 by rw [hW3]; exact below_new B.out _)
    clear hW3
    refine (Try.slices_Clone_int wy.heap.size 0 N 144 L W3 (by omega) (by omega) hcs).mono ?_
    rintro e wz ⟨v', rfl, own, -, hb⟩
    obtain ⟨A9, c9, rfl, own9⟩ := own_slice own
    have hLv : L.take N = distFromV W H xs a b (s : Int) := by rw [distFromV, if_pos HO.out, ← HFL.out, far64 HF.out HP.out, List.take_append_of_le_length (by rw [dist_len HF.out HP.out]; exact Nat.le_refl _), List.take_of_length_le (by rw [dist_len HF.out HP.out]; exact Nat.le_refl _)]
    rw [hLv] at own9
    have O := Lib.hid (own9.lower B.out.size)
    replace B := Lib.hid (below_next B.out hb)
    clear own own9 hb hLv
    go_wp2
    go_ret2
    exact ⟨_, _, _, by rw [HO.out]; rfl, O.out, B.out⟩
  · have ho' : onB W H xs a b [p] = false := by simpa using ho
    obtain ⟨W2, hW2⟩ : ∃ W2, W2 = ((w.alloc (.cells #[.int .i64 W, .int .i64 H, .slice A n c] 30)).alloc (.cells #[.int .i64 a, .int .i64 b] 32)).alloc (.cells #[.int .i64 p] 3) := ⟨_, rfl⟩
    have hsz : W2.heap.size = w.heap.size + 3 := by rw [hW2]; simp
    have a0 : W2.cell? ⟨w.heap.size, 0, none⟩ = some (.int .i64 W) := by rw [hW2]; go_simp
    have a1 : W2.cell? ⟨w.heap.size, 1, none⟩ = some (.int .i64 H) := by rw [hW2]; go_simp
    have a2 : W2.cell? ⟨w.heap.size, 2, none⟩ = some (.slice A n c) := by rw [hW2]; go_simp
    have l0 : W2.cell? ⟨w.heap.size + 1, 0, none⟩ = some (.int .i64 a) := by rw [hW2]; go_simp
    have l1 : W2.cell? ⟨w.heap.size + 1, 1, none⟩ = some (.int .i64 b) := by rw [hW2]; go_simp
    have q0 : W2.cell? ⟨w.heap.size + 1 + 1, 0, none⟩ = some (.int .i64 p) := by rw [hW2]; go_simp
    have al : w.heap.size < W2.heap.size := by omega
    have ll : w.heap.size + 1 < W2.heap.size := by omega
    have B := Lib.hid (show Below w.heap.size w W2 by rw [hW2]; exact (((Below.refl _ _).alloc (Nat.le_refl _) _).alloc (by simp) _).alloc (by simp; omega) _)
    have RP := Lib.hid (show Rd W2 (some ⟨w.heap.size + 1 + 1, 0, none⟩) 1 [p] from ⟨rfl, by omega, fun k hk => by
      obtain rfl : k = 0 := by omega
      exact ⟨_, 0, _, rfl, by omega, rfl, q0⟩⟩)
    clear q0
    go_enter Try.func17, Try.ntmps17
    go_wp2_with fail
    rw [← hW2]
    clear hW2
    refine (isLeaperOn_any W H A n c xs a b _ 1 1 _ W2 (ha.keep B.out) RP.out).mono ?_
    rw [ho']
    rintro e wv ⟨rfl, hb⟩
    replace a0 := cell_keep a0 al hb; replace a1 := cell_keep a1 al hb; replace a2 := cell_keep a2 al hb; replace l0 := cell_keep l0 ll hb; replace l1 := cell_keep l1 ll hb; replace al := lt_keep al hb; replace ll := lt_keep ll hb
    replace B := Lib.hid (below_next B.out hb)
    clear hb RP hsz
    go_wp2
    go_ret2
    exact ⟨none, 0, 0, by rw [ho']; rfl, by rw [distFromV, if_neg (by rw [ho']; simp)]; exact OwnI.none_ _ _ _, B.out⟩

end Go.Proofs.Ytoangjjikmjkgaa
