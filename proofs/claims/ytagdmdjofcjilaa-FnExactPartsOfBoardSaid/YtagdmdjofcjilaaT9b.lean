/-
  Contracts: FarthestFrom, the program.
-/
import Derived.Test.YtagdmdjofcjilaaT9a
namespace Go.Proofs.Ytagdmdjofcjilaa
open Go.RowKit

theorem run_whole (g : Nat) (w : World) :
    (Instr.sliceAt 73 (.pointer (some ⟨g, 0, none⟩)) none none none).run Try.prog w = .ok (.slice (some ⟨g, 0, none⟩) 64 64) w := by
  have hl : Try.prog.arrayLen 73 = 64 := by kernel_rfl
  have he : Try.prog.elem 73 = 3 := by kernel_rfl
  have hu : Try.prog.underlying 73 = some (.array (Try.prog.arrayLen 73) (Try.prog.elem 73)) := by rw [hl, he]; exact Try.underlying73
  rw [run_sliceAt_array_all w _ _ hu, he, Try.sizeOf3, hl]
  simp [slicedAt]
  rfl

set_option maxRecDepth 100000 in
set_option maxHeartbeats 2000000 in
theorem greatest_any (L : List Int) (h64 : L.length = 64) (w : World) :
    Calls Try.prog 60 #[.agg (L.map (Value.int .i64)).toArray] w fun e w' => e = .returned (.int .i64 (Go.Lib.maxOf L)) ∧ Below w.heap.size w w' := by
  obtain ⟨W1, hW1⟩ : ∃ W1, W1 = w.alloc (.cells (L.map (Value.int .i64)).toArray 73) := ⟨_, rfl⟩
  have hcs := cell_laid w L 73
  rw [← hW1] at hcs
  have HCS := Lib.hid hcs; have HL := Lib.hid h64
  have B := Lib.hid (show Below w.heap.size w W1 by rw [hW1]; exact below_new (Below.refl _ _) _)
  have hsl := fun w' => run_whole w.heap.size w'
  obtain ⟨V, hV⟩ : ∃ V, V = L.map (Value.int .i64) := ⟨_, rfl⟩
  rw [← hV] at hW1 ⊢
  clear hcs h64 hV
  go_enter Try.func60, Try.ntmps60
  go_wp2_with fail
  rw [← hW1]
  clear hW1
  refine (Try.slices_Max_int w.heap.size 0 64 64 L _ (by omega) (by have := HL.out; omega) (by omega) HCS.out).mono ?_
  rintro e wz ⟨rfl, rfl⟩
  go_wp2
  go_ret
  exact ⟨ret_int (by rw [List.take_of_length_le (by have := HL.out; omega)]), B.out⟩

set_option maxRecDepth 100000 in
set_option maxHeartbeats 2000000 in
theorem impl_FarthestFrom (W H : Int) (A : Option Addr) (n c : Nat) (xs : List Int) (a b : Int) (p : Int) (w : World) (ha : Rd w A n xs) :
    Calls Try.prog 33 #[brd W H A n c, lpr a b, .int .i64 p] w fun e w' => e = .returned (.tuple #[.int .i64 (farthAt W H xs a b p), .int .i64 (farthBy W H xs a b p), .bool (onB W H xs a b [p])]) ∧ Below w.heap.size w w' := by
  by_cases ho : onB W H xs a b [p] = true
  · have FO := on_facts (onB_one ho).1
    have HP := Lib.hid (onB_one ho).2
    obtain ⟨N, hN⟩ : ∃ N, N = (W * H).toNat := ⟨_, rfl⟩
    rw [← hN] at FO
    have hp0 := (hasB_iff.1 HP.out).1
    rw [FO.wh] at hp0
    obtain ⟨s, rfl⟩ : ∃ s : Nat, p = (s : Int) := ⟨p.toNat, by omega⟩
    have hs : s < N := by omega
    have HF := Lib.hid FO
    have n64 := FO.n.2
    have HO9 := Lib.hid ho
    have hWN : (W * H).toNat = N := hN.symm
    have HWN := Lib.hid hWN
    have hL : farL (leapsL W H xs a b) N (s : Int) = distL W H xs a b (s : Int) := by rw [distL, hN]
    have HL := Lib.hid hL
    clear FO hp0 hN hL hWN
    obtain ⟨W2, hW2⟩ : ∃ W2, W2 = ((w.alloc (.cells #[.int .i64 W, .int .i64 H, .slice A n c] 26)).alloc (.cells #[.int .i64 a, .int .i64 b] 37)).alloc (.cells #[.int .i64 (s : Int)] 3) := ⟨_, rfl⟩
    have hsz : W2.heap.size = w.heap.size + 3 := by rw [hW2]; simp
    have a0 : W2.cell? ⟨w.heap.size, 0, none⟩ = some (.int .i64 W) := by rw [hW2]; go_simp
    have a1 : W2.cell? ⟨w.heap.size, 1, none⟩ = some (.int .i64 H) := by rw [hW2]; go_simp
    have a2 : W2.cell? ⟨w.heap.size, 2, none⟩ = some (.slice A n c) := by rw [hW2]; go_simp
    have l0 : W2.cell? ⟨w.heap.size + 1, 0, none⟩ = some (.int .i64 a) := by rw [hW2]; go_simp
    have l1 : W2.cell? ⟨w.heap.size + 1, 1, none⟩ = some (.int .i64 b) := by rw [hW2]; go_simp
    have q0 : W2.cell? ⟨w.heap.size + 1 + 1, 0, none⟩ = some (.int .i64 (s : Int)) := by rw [hW2]; go_simp
    have al : w.heap.size < W2.heap.size := by omega
    have ll : w.heap.size + 1 < W2.heap.size := by omega
    have B := Lib.hid (show Below w.heap.size w W2 by rw [hW2]; exact (((Below.refl _ _).alloc (Nat.le_refl _) _).alloc (by simp) _).alloc (by simp; omega) _)
    have RP := Lib.hid (show Rd W2 (some ⟨w.heap.size + 1 + 1, 0, none⟩) 1 [(s : Int)] from ⟨rfl, by omega, fun k hk => by
      obtain rfl : k = 0 := by omega
      exact ⟨_, 0, _, rfl, by omega, rfl, q0⟩⟩)
    clear q0
    go_enter Try.func33, Try.ntmps33
    go_wp2_with fail
    rw [← hW2]
    clear hW2
    refine (isLeaperOn_any W H A n c xs a b _ 1 1 _ W2 (ha.keep B.out) RP.out).mono ?_
    rw [ho]
    rintro e wv ⟨rfl, hb⟩
    replace a0 := cell_keep a0 al hb; replace a1 := cell_keep a1 al hb; replace a2 := cell_keep a2 al hb; replace l0 := cell_keep l0 ll hb; replace l1 := cell_keep l1 ll hb; replace al := lt_keep al hb; replace ll := lt_keep ll hb
    replace B := Lib.hid (below_next B.out hb)
    clear hb RP hsz
    go_wp2_with fail
    refine (onwardOf_any W H A n c xs a b _ (ha.keep B.out) HF.out.g HF.out.l).mono ?_
    rintro e wx ⟨mb, rfl, hom, hb⟩
    replace a0 := cell_keep a0 al hb; replace a1 := cell_keep a1 al hb; replace a2 := cell_keep a2 al hb; replace l0 := cell_keep l0 ll hb; replace l1 := cell_keep l1 ll hb; replace al := lt_keep al hb; replace ll := lt_keep ll hb
    replace B := Lib.hid (below_next B.out hb)
    clear hb
    go_wp2_with fail
    refine (distancesFrom_any _ mb (cellsL W H xs) (leapsL W H xs a b) s _ hom (by omega) (cellsL_mem.2 HP.out) (cells_in HF.out) adj_in).mono ?_
    rintro e wy ⟨rfl, hb⟩
    replace a0 := cell_keep a0 al hb; replace a1 := cell_keep a1 al hb; replace a2 := cell_keep a2 al hb; replace l0 := cell_keep l0 ll hb; replace l1 := cell_keep l1 ll hb; replace al := lt_keep al hb; replace ll := lt_keep ll hb
    replace B := Lib.hid (below_next B.out hb)
    clear hb hom
    have h64 : (farL (leapsL W H xs a b) 64 (s : Int)).length = 64 := far_len64 HF.out HP.out
    generalize hfl : farL (leapsL W H xs a b) 64 (s : Int) = L at h64 ⊢
    have HFL := Lib.hid hfl
    clear hfl
    have hsl := fun w' => run_whole wy.heap.size w'
    go_wp2_with (first | (refine wpList_store64 L h64 rfl _ _ rfl rfl rfl rfl _ _ rfl ?_) | (refine wpList_load_mid rfl 73 (.tmp 9) rfl wy.heap.size 0 rfl (L.map (Value.int .i64)) _ (range_laid wy L _) Try.underlying73 rfl (infoD.trans (by rw [List.length_map, h64])) ?_))
    have hcs := cell_laid wy L 73
    obtain ⟨W3, hW3⟩ : ∃ W3, W3 = wy.alloc (.cells (L.map (Value.int .i64)).toArray 73) := ⟨_, rfl⟩
    have hsz3 : W3.heap.size = wy.heap.size + 1 := by rw [hW3]; simp
    rw [← hW3] at hcs ⊢
    replace B := Lib.hid (show Below w.heap.size w W3 by rw [hW3]; exact below_new B.out _)
    clear hW3
    refine (greatest_any L h64 W3).mono ?_
    rintro e w5 ⟨rfl, hb⟩
    have hcs5 : ∀ j, j < L.length → w5.cell? ⟨wy.heap.size, 0 + j, none⟩ = some (.int .i64 (L.getD j 0)) := fun j hj => cell_keep (hcs j hj) (by omega) hb
    have HCS := Lib.hid hcs5
    replace B := Lib.hid (below_next B.out hb)
    clear hb hcs hcs5
    obtain ⟨j, ej, M⟩ := most_is (L := distL W H xs a b (s : Int)) (k := s) (by rw [dist_len HF.out HP.out]; exact hs) (by rw [dist_selfN HF.out HP.out]; omega)
    rw [dist_len HF.out HP.out] at ej
    have hLe : L = distL W H xs a b (s : Int) ++ List.replicate (64 - N) (-1) := by rw [← HFL.out, far64 HF.out HP.out]
    have hmx : Go.Lib.maxOf L = (distL W H xs a b (s : Int)).getD j (-1) := most_max M hLe
    have hix9 : Go.Lib.idxOf L ((distL W H xs a b (s : Int)).getD j (-1)) = (j : Int) := most_idx M hLe
    have HMX := Lib.hid hmx; have HIX := Lib.hid hix9; have EJ := Lib.hid ej; have H64 := Lib.hid h64
    obtain ⟨gv, hgv⟩ : ∃ gv, gv = (distL W H xs a b (s : Int)).getD j (-1) := ⟨_, rfl⟩
    rw [← hgv] at HIX HMX
    rw [hmx, ← hgv]
    have HGV := Lib.hid hgv
    clear M hLe hmx hix9 ej h64 hgv
    go_wp2_with fail
    refine (Try.slices_Index_int wy.heap.size 0 64 64 L _ w5 (by have := H64.out; omega) (by omega) HCS.out).mono ?_
    rintro e w6 ⟨rfl, rfl⟩
    rw [List.take_of_length_le (by have := H64.out; omega), HIX.out]
    go_wp2
    go_ret3
    exact ⟨by rw [HO9.out, farthAt, farthBy, if_pos HO9.out, if_pos HO9.out, HWN.out, EJ.out, Int.toNat_natCast, ← HGV.out]; rfl, B.out⟩
  · have ho' : onB W H xs a b [p] = false := by simpa using ho
    obtain ⟨W2, hW2⟩ : ∃ W2, W2 = ((w.alloc (.cells #[.int .i64 W, .int .i64 H, .slice A n c] 26)).alloc (.cells #[.int .i64 a, .int .i64 b] 37)).alloc (.cells #[.int .i64 p] 3) := ⟨_, rfl⟩
    have hsz : W2.heap.size = w.heap.size + 3 := by rw [hW2]; simp
    have a0 : W2.cell? ⟨w.heap.size, 0, none⟩ = some (.int .i64 W) := by rw [hW2]; go_simp
    have a1 : W2.cell? ⟨w.heap.size, 1, none⟩ = some (.int .i64 H) := by rw [hW2]; go_simp
    have a2 : W2.cell? ⟨w.heap.size, 2, none⟩ = some (.slice A n c) := by rw [hW2]; go_simp
    have l0 : W2.cell? ⟨w.heap.size + 1, 0, none⟩ = some (.int .i64 a) := by rw [hW2]; go_simp
    have l1 : W2.cell? ⟨w.heap.size + 1, 1, none⟩ = some (.int .i64 b) := by rw [hW2]; go_simp
    have q0 : W2.cell? ⟨w.heap.size + 1 + 1, 0, none⟩ = some (.int .i64 p) := by rw [hW2]; go_simp
    have al : w.heap.size < W2.heap.size := by omega
    have ll : w.heap.size + 1 < W2.heap.size := by omega
    have B := Lib.hid (show Below w.heap.size w W2 by rw [hW2]; exact (((Below.refl _ _).alloc (Nat.le_refl _) _).alloc (by simp) _).alloc (by simp; omega) _)
    have RP := Lib.hid (show Rd W2 (some ⟨w.heap.size + 1 + 1, 0, none⟩) 1 [p] from ⟨rfl, by omega, fun k hk => by
      obtain rfl : k = 0 := by omega
      exact ⟨_, 0, _, rfl, by omega, rfl, q0⟩⟩)
    clear q0
    go_enter Try.func33, Try.ntmps33
    go_wp2_with fail
    rw [← hW2]
    clear hW2
    refine (isLeaperOn_any W H A n c xs a b _ 1 1 _ W2 (ha.keep B.out) RP.out).mono ?_
    rw [ho']
    rintro e wv ⟨rfl, hb⟩
    replace a0 := cell_keep a0 al hb; replace a1 := cell_keep a1 al hb; replace a2 := cell_keep a2 al hb; replace l0 := cell_keep l0 ll hb; replace l1 := cell_keep l1 ll hb; replace al := lt_keep al hb; replace ll := lt_keep ll hb
    replace B := Lib.hid (below_next B.out hb)
    clear hb RP hsz
    go_wp2
    go_ret3
    exact ⟨by rw [show onB W H xs a b [p] = false by rw [ho'], farthAt, farthBy, if_neg (by rw [ho']; simp), if_neg (by rw [ho']; simp)]; rfl, B.out⟩

end Go.Proofs.Ytagdmdjofcjilaa
