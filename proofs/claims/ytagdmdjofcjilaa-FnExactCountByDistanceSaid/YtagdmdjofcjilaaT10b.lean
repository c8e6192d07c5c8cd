/-
  Contracts: CountByDistance, the program.
-/
import Derived.Test.YtagdmdjofcjilaaT10a
namespace Go.Proofs.Ytagdmdjofcjilaa
open Go.RowKit

theorem range_cells {w : World} {g : Nat} {L : List Int} (h : ∀ j, j < L.length → w.cell? ⟨g, 0 + j, none⟩ = some (.int .i64 (L.getD j 0))) : w.rangeAt g 0 (L.map (Value.int .i64)) := fun j v hv => by
  rw [List.getElem?_map] at hv
  cases hj : L[j]? with
  | none => rw [hj] at hv; cases hv
  | some y =>
    rw [hj] at hv
    injection hv with hv
    have hjl : j < L.length := (List.getElem?_eq_some_iff.1 hj).1
    rw [← hv, h j hjl, List.getD_eq_getElem?_getD, hj]; rfl
theorem bump_bd (D : List Int) (m : Nat) : ∀ (k : Nat) (v : Int), v ∈ (D.take k).foldl bumpStep (List.replicate m 0) → 0 ≤ v ∧ v ≤ (k : Int)
  | 0, v, h => by
    rw [List.take_zero] at h
    have := (List.mem_replicate.1 h).2; omega
  | k + 1, v, h => by
    cases hx : D[k]? with
    | none =>
      rw [List.take_add_one, hx] at h
      have := bump_bd D m k v (by simpa using h); omega
    | some x =>
      rw [take_foldl bumpStep hx] at h
      have key : ∀ u, u ∈ (D.take k).foldl bumpStep (List.replicate m 0) → 0 ≤ u ∧ u ≤ (k : Int) := bump_bd D m k
      generalize (D.take k).foldl bumpStep (List.replicate m 0) = O0 at h key
      rw [bumpStep] at h
      split at h
      · have := key v h; omega
      · rw [bump] at h
        rcases List.mem_or_eq_of_mem_set h with h | h
        · have := key v h; omega
        · rw [List.getD_eq_getElem?_getD] at h
          cases he : O0[x.toNat]? with
          | none => rw [he] at h; simp at h; omega
          | some u => rw [he] at h; simp at h; have := key u (List.mem_of_getElem? he); omega

set_option maxRecDepth 100000 in
set_option maxHeartbeats 4000000 in
theorem impl_CountByDistance (W H : Int) (A : Option Addr) (n c : Nat) (xs : List Int) (a b : Int) (p : Int) (w : World) (ha : Rd w A n xs) :
    Calls Try.prog 29 #[brd W H A n c, lpr a b, .int .i64 p] w fun e w' => ∃ A' n' c', e = .returned (.tuple #[.slice A' n' c', .bool (onB W H xs a b [p])]) ∧ OwnI 3 w' w.heap.size A' n' c' (countsV W H xs a b p) ∧ Below w.heap.size w w' := by
  obtain ⟨i0, hi, hz0, hz1, hz2⟩ := info_parts infoI
  have HI := Lib.hid hi; have HZ0 := Lib.hid hz0; have HZ1 := Lib.hid hz1; have HZ2 := Lib.hid hz2
  clear hi hz0 hz1 hz2
  by_cases ho : onB W H xs a b [p] = true
  · have FO := on_facts (onB_one ho).1
    have HP := Lib.hid (onB_one ho).2
    obtain ⟨N, hN⟩ : ∃ N, N = (W * H).toNat := ⟨_, rfl⟩
    rw [← hN] at FO
    have hp0 := (hasB_iff.1 HP.out).1
    rw [FO.wh] at hp0
    obtain ⟨s, rfl⟩ : ∃ s : Nat, p = (s : Int) := ⟨p.toNat, by omega⟩
    have hs : s < N := by omega
    have HF := Lib.hid FO
    have n64 := FO.n.2
    have HO9 := Lib.hid ho
    have hWN : (W * H).toNat = N := hN.symm
    have HWN := Lib.hid hWN
    have hL : farL (leapsL W H xs a b) N (s : Int) = distL W H xs a b (s : Int) := by rw [distL, hN]
    have HL := Lib.hid hL
    clear FO hp0 hN hL hWN
    obtain ⟨W2, hW2⟩ : ∃ W2, W2 = ((w.alloc (.cells #[.int .i64 W, .int .i64 H, .slice A n c] 26)).alloc (.cells #[.int .i64 a, .int .i64 b] 37)).alloc (.cells #[.int .i64 (s : Int)] 3) := ⟨_, rfl⟩
    have hsz : W2.heap.size = w.heap.size + 3 := by rw [hW2]; simp
    have a0 : W2.cell? ⟨w.heap.size, 0, none⟩ = some (.int .i64 W) := by rw [hW2]; go_simp
    have a1 : W2.cell? ⟨w.heap.size, 1, none⟩ = some (.int .i64 H) := by rw [hW2]; go_simp
    have a2 : W2.cell? ⟨w.heap.size, 2, none⟩ = some (.slice A n c) := by rw [hW2]; go_simp
    have l0 : W2.cell? ⟨w.heap.size + 1, 0, none⟩ = some (.int .i64 a) := by rw [hW2]; go_simp
    have l1 : W2.cell? ⟨w.heap.size + 1, 1, none⟩ = some (.int .i64 b) := by rw [hW2]; go_simp
    have q0 : W2.cell? ⟨w.heap.size + 1 + 1, 0, none⟩ = some (.int .i64 (s : Int)) := by rw [hW2]; go_simp
    have al : w.heap.size < W2.heap.size := by omega
    have ll : w.heap.size + 1 < W2.heap.size := by omega
    have B := Lib.hid (show Below w.heap.size w W2 by rw [hW2]; exact (((Below.refl _ _).alloc (Nat.le_refl _) _).alloc (by simp) _).alloc (by simp; omega) _)
    have RP := Lib.hid (show Rd W2 (some ⟨w.heap.size + 1 + 1, 0, none⟩) 1 [(s : Int)] from ⟨rfl, by omega, fun k hk => by
      obtain rfl : k = 0 := by omega
      exact ⟨_, 0, _, rfl, by omega, rfl, q0⟩⟩)
    clear q0
    go_enter Try.func29, Try.ntmps29
    go_wp2_with fail
    rw [← hW2]
    clear hW2
    refine (isLeaperOn_any W H A n c xs a b _ 1 1 _ W2 (ha.keep B.out) RP.out).mono ?_
    rw [ho]
    rintro e wv ⟨rfl, hb⟩
    replace a0 := cell_keep a0 al hb; replace a1 := cell_keep a1 al hb; replace a2 := cell_keep a2 al hb; replace l0 := cell_keep l0 ll hb; replace l1 := cell_keep l1 ll hb; replace al := lt_keep al hb; replace ll := lt_keep ll hb
    replace B := Lib.hid (below_next B.out hb)
    clear hb RP hsz
    go_wp2_with fail
    refine (onwardOf_any W H A n c xs a b _ (ha.keep B.out) HF.out.g HF.out.l).mono ?_
    rintro e wx ⟨mb, rfl, hom, hb⟩
    replace a0 := cell_keep a0 al hb; replace a1 := cell_keep a1 al hb; replace a2 := cell_keep a2 al hb; replace l0 := cell_keep l0 ll hb; replace l1 := cell_keep l1 ll hb; replace al := lt_keep al hb; replace ll := lt_keep ll hb
    replace B := Lib.hid (below_next B.out hb)
    clear hb
    go_wp2_with fail
    refine (distancesFrom_any _ mb (cellsL W H xs) (leapsL W H xs a b) s _ hom (by omega) (cellsL_mem.2 HP.out) (cells_in HF.out) adj_in).mono ?_
    rintro e wy ⟨rfl, hb⟩
    replace a0 := cell_keep a0 al hb; replace a1 := cell_keep a1 al hb; replace a2 := cell_keep a2 al hb; replace l0 := cell_keep l0 ll hb; replace l1 := cell_keep l1 ll hb; replace al := lt_keep al hb; replace ll := lt_keep ll hb
    replace B := Lib.hid (below_next B.out hb)
    clear hb hom
    have h64 : (farL (leapsL W H xs a b) 64 (s : Int)).length = 64 := far_len64 HF.out HP.out
    generalize hfl : farL (leapsL W H xs a b) 64 (s : Int) = L at h64 ⊢
    have HFL := Lib.hid hfl
    clear hfl
    have hsl := fun w' => run_whole wy.heap.size w'
    go_wp2_with (first | (refine wpList_store64 L h64 rfl _ _ rfl rfl rfl rfl _ _ rfl ?_) | (refine wpList_load_mid rfl 73 (.tmp 8) rfl wy.heap.size 0 rfl (L.map (Value.int .i64)) _ (range_laid wy L _) Try.underlying73 rfl (infoD.trans (by rw [List.length_map, h64])) ?_))
    have hcs := cell_laid wy L 73
    obtain ⟨W3, hW3⟩ : ∃ W3, W3 = wy.alloc (.cells (L.map (Value.int .i64)).toArray 73) := ⟨_, rfl⟩
    have hsz3 : W3.heap.size = wy.heap.size + 1 := by rw [hW3]; simp
    rw [← hW3] at hcs ⊢
    replace B := Lib.hid (show Below w.heap.size w W3 by rw [hW3]; exact below_new B.out _)
    clear hW3
    have hix := fun (k : Nat) (hk : k < 64) (x : Int) (hx : L[k]? = some x) (w' : World) => run_far L h64 k hk x hx w'
    have HIX := Lib.hid hix
    obtain ⟨V, hV⟩ : ∃ V, V = L.map (Value.int .i64) := ⟨_, rfl⟩
    refine (greatest_any L h64 W3).mono ?_
    rintro e w5 ⟨rfl, hb⟩
    have hrg5 : w5.rangeAt wy.heap.size 0 (L.map (Value.int .i64)) := range_keep (range_cells hcs) (by omega) hb
    replace B := Lib.hid (below_next B.out hb)
    have hbnd := far_bd HF.out HP.out
    rw [HFL.out] at hbnd
    obtain ⟨j, ej, M⟩ := most_is (L := distL W H xs a b (s : Int)) (k := s) (by rw [dist_len HF.out HP.out]; exact hs) (by rw [dist_selfN HF.out HP.out]; omega)
    have hLe : L = distL W H xs a b (s : Int) ++ List.replicate (64 - N) (-1) := by rw [← HFL.out, far64 HF.out HP.out]
    have hmx : Go.Lib.maxOf L = (distL W H xs a b (s : Int)).getD j (-1) := most_max M hLe
    have hjn := M.nn
    have hgj : (distL W H xs a b (s : Int))[j]? = some ((distL W H xs a b (s : Int)).getD j (-1)) := by rw [List.getD_eq_getElem?_getD, List.getElem?_eq_getElem M.lt]; rfl
    have hjb := dist_bd HF.out HP.out _ (List.mem_of_getElem? hgj)
    obtain ⟨gn, hgn⟩ : ∃ gn : Nat, (distL W H xs a b (s : Int)).getD j (-1) = (gn : Int) := ⟨((distL W H xs a b (s : Int)).getD j (-1)).toNat, by omega⟩
    have hle : ∀ x ∈ distL W H xs a b (s : Int), x ≤ (gn : Int) := fun x hx => by
      obtain ⟨i, hi, rfl⟩ := List.getElem_of_mem hx
      have := M.le i
      rw [hgn, List.getD_eq_getElem?_getD, List.getElem?_eq_getElem hi] at this
      exact this
    rw [hgn] at hmx hgj hjb
    have CB := Lib.hid (cnt_both (List.mem_of_getElem? hgj) hle (64 - N))
    rw [← hLe] at CB
    have hLM : ∀ x ∈ L, -1 ≤ x ∧ x ≤ (gn : Int) := fun x hx => ⟨(hbnd x hx).1, by
      rw [hLe] at hx
      rcases List.mem_append.1 hx with hx | hx
      · exact hle x hx
      · have := (List.mem_replicate.1 hx).2; omega⟩
    have HLM := Lib.hid hLM
    have hg64 : gn ≤ 64 := by omega
    rw [hmx]
    have HRG := Lib.hid hrg5; have H64 := Lib.hid h64
    have HIN := Lib.hid (show (Try.prog.info? 73).map (·.size) = some (L.map (Value.int .i64)).length from infoD.trans (by rw [List.length_map, h64]))
    rw [← hV] at HRG HIN HIX
    have hsz5 := hb.size
    clear hb hcs hbnd ej M hLe hmx hjn hgj hjb hgn hle hLM h64 hix hrg5 hV
    go_wp2_with (first | (at_make; refine wpList_make_full _ rfl _ _ 22 rfl w5.heap.size 3 i0 (.int .i64 0) 1 Try.underlying22 HI.out HZ0.out HZ1.out .i64 .i64 _ _ (gn + 1) rfl rfl (by first | rfl | omega) (by first | rfl | omega) (by rw [HZ2.out]; omega) (by unfold maxLen; omega) (by simp) ?_; intro w6 hown6 hg6; have hrg6 : w6.rangeAt wy.heap.size 0 V := range_keep HRG.out (by omega) (below_of_grown hg6 (Nat.le_refl _) (fun g h => by cases h))) | (refine wpList_load_mid rfl 73 (.tmp 8) rfl wy.heap.size 0 rfl V _ hrg6 Try.underlying73 rfl HIN.out ?_))
    have hO6 : OwnI 3 w6 w5.heap.size (some ⟨w5.heap.size, 0, none⟩) (gn + 1) (gn + 1) (List.replicate (gn + 1) 0) := by
      unfold OwnI
      rw [show (gn + 1) * 1 = gn + 1 from by omega] at hown6
      have e : (madeCells (Value.cells (.int .i64 0)) (gn + 1)).toList = List.replicate (gn + 1) (.int .i64 0) := toList_madeCells_one (.int .i64 0) (gn + 1)
      rw [e] at hown6
      simpa using hown6
    have HO6 := Lib.hid hO6
    have HB6 := Lib.hid (below_of_grown hg6 (Nat.le_refl _) (fun g h => by cases h))
    clear HFL hsz3 hsz5 hown6 hO6 hg6 hsl hrg6 HRG HIN a0 a1 a2 l0 l1 al ll
    generalize (Value.agg (List.map (Value.int .i64) L).toArray) = LV
    go_loopw [28] (fun i wr => ∃ k : Nat, k ≤ 64 ∧ i = .int .i64 k ∧ OwnI 3 wr w5.heap.size (some ⟨w5.heap.size, 0, none⟩) (gn + 1) (gn + 1) ((L.take k).foldl bumpStep (List.replicate (gn + 1) 0)) ∧ Below w5.heap.size w5 wr) (fun i _ => 64 - (intOf i).toNat)
    case atStart => exact ⟨0, by omega, rfl, by rw [List.take_zero, List.foldl_nil]; exact HO6.out, HB6.out⟩
    case round =>
      clear HB6 HO6
      obtain ⟨k, hk, rfl, hown, hbw⟩ := hrel
      have hbsz := hbw.size
      by_cases hlt : k < 64
      · obtain ⟨x, hx⟩ : ∃ x, L[k]? = some x := ⟨_, List.getElem?_eq_getElem (show k < L.length by have := H64.out; omega)⟩
        have HXB := Lib.hid (HLM.out x (List.mem_of_getElem? hx))
        have hix := HIX.out k hlt x hx
        have hst := take_foldl bumpStep hx (List.replicate (gn + 1) 0)
        have hbd : ∀ v, v ∈ (L.take k).foldl bumpStep (List.replicate (gn + 1) 0) → 0 ≤ v ∧ v ≤ (k : Int) := bump_bd L (gn + 1) k
        obtain ⟨O0, hO0⟩ : ∃ O0, O0 = (L.take k).foldl bumpStep (List.replicate (gn + 1) 0) := ⟨_, rfl⟩
        rw [← hO0] at hown hst hbd
        have ST := Lib.hid hst
        clear hx hst hO0
        by_cases hm : x = -1
        · subst hm
          have HO := Lib.hid hown; have HB := Lib.hid hbw
          clear hown hbw hbd
          go_wp2
          go_roundw
          case rel => exact ⟨k + 1, by omega, by go_num, by rw [ST.out, bumpStep, if_pos (by omega)]; exact HO.out, HB.out⟩
          case measure => simp [intOf]; omega
        · have hm' : (x != -1) = true := by simpa using hm
          obtain ⟨xn, rfl⟩ : ∃ xn : Nat, x = (xn : Int) := ⟨x.toNat, by have := HXB.out; omega⟩
          have hx0 : (0 : Int) ≤ (xn : Int) := by omega
          have hx1 : (xn : Int) < ((gn + 1 : Nat) : Int) := by have := HXB.out; omega
          obtain ⟨v, hv⟩ : ∃ v, O0[xn]? = some v := ⟨_, List.getElem?_eq_getElem (by have := HXB.out; have := hown.len; omega)⟩
          have cv := hown.cell hv
          have fv := hown.frozen xn
          obtain ⟨o1, g1⟩ := hown.stored xn (v + 1)
          have hvb := hbd v (List.mem_of_getElem? hv)
          have HO3 := Lib.hid o1
          have HB3 := Lib.hid (hbw.trans (below_of_grown g1 hbsz (fun g h => by injection h with h; omega)))
          have ES : Hid (O0.set xn (v + 1) = (L.take (k + 1)).foldl bumpStep (List.replicate (gn + 1) 0)) := Lib.hid (by rw [ST.out, bumpStep, if_neg (by omega), bump, Int.toNat_natCast, List.getD_eq_getElem?_getD, hv]; rfl)
          clear hown hbw o1 g1 hv hbd
          go_wp2
          go_roundw
          case rel => exact ⟨k + 1, by omega, by go_num, by rw [← ES.out]; exact HO3.out, HB3.out⟩
          case measure => simp [intOf]; omega
      · obtain rfl : k = 64 := by omega
        have eL : (L.take 64).foldl bumpStep (List.replicate (gn + 1) 0) = countsV W H xs a b (s : Int) := by rw [countsV, if_pos HO9.out, List.take_of_length_le (by have := H64.out; omega), CB.out.1]
        rw [eL] at hown
        have HO := Lib.hid (hown.lower (show w.heap.size ≤ w5.heap.size by have := B.out.size; omega)); have HB := Lib.hid (below_next B.out hbw)
        clear hown hbw eL
        go_wp2
        go_ret2
        exact ⟨_, _, _, by rw [HO9.out]; rfl, HO.out, HB.out⟩
  · have ho' : onB W H xs a b [p] = false := by simpa using ho
    obtain ⟨W2, hW2⟩ : ∃ W2, W2 = ((w.alloc (.cells #[.int .i64 W, .int .i64 H, .slice A n c] 26)).alloc (.cells #[.int .i64 a, .int .i64 b] 37)).alloc (.cells #[.int .i64 p] 3) := ⟨_, rfl⟩
    have hsz : W2.heap.size = w.heap.size + 3 := by rw [hW2]; simp
    have a0 : W2.cell? ⟨w.heap.size, 0, none⟩ = some (.int .i64 W) := by rw [hW2]; go_simp
    have a1 : W2.cell? ⟨w.heap.size, 1, none⟩ = some (.int .i64 H) := by rw [hW2]; go_simp
    have a2 : W2.cell? ⟨w.heap.size, 2, none⟩ = some (.slice A n c) := by rw [hW2]; go_simp
    have l0 : W2.cell? ⟨w.heap.size + 1, 0, none⟩ = some (.int .i64 a) := by rw [hW2]; go_simp
    have l1 : W2.cell? ⟨w.heap.size + 1, 1, none⟩ = some (.int .i64 b) := by rw [hW2]; go_simp
    have q0 : W2.cell? ⟨w.heap.size + 1 + 1, 0, none⟩ = some (.int .i64 p) := by rw [hW2]; go_simp
    have al : w.heap.size < W2.heap.size := by omega
    have ll : w.heap.size + 1 < W2.heap.size := by omega
    have B := Lib.hid (show Below w.heap.size w W2 by rw [hW2]; exact (((Below.refl _ _).alloc (Nat.le_refl _) _).alloc (by simp) _).alloc (by simp; omega) _)
    have RP := Lib.hid (show Rd W2 (some ⟨w.heap.size + 1 + 1, 0, none⟩) 1 [p] from ⟨rfl, by omega, fun k hk => by
      obtain rfl : k = 0 := by omega
      exact ⟨_, 0, _, rfl, by omega, rfl, q0⟩⟩)
    clear q0
    go_enter Try.func29, Try.ntmps29
    go_wp2_with fail
    rw [← hW2]
    clear hW2
    refine (isLeaperOn_any W H A n c xs a b _ 1 1 _ W2 (ha.keep B.out) RP.out).mono ?_
    rw [ho']
    rintro e wv ⟨rfl, hb⟩
    replace a0 := cell_keep a0 al hb; replace a1 := cell_keep a1 al hb; replace a2 := cell_keep a2 al hb; replace l0 := cell_keep l0 ll hb; replace l1 := cell_keep l1 ll hb; replace al := lt_keep al hb; replace ll := lt_keep ll hb
    replace B := Lib.hid (below_next B.out hb)
    clear hb RP hsz
    go_wp2
    go_ret2
    exact ⟨none, 0, 0, by rw [show onB W H xs a b [p] = false by rw [ho']]; rfl, by rw [countsV, if_neg (by rw [ho']; simp)]; exact OwnI.none_ _ _ _, B.out⟩

end Go.Proofs.Ytagdmdjofcjilaa
