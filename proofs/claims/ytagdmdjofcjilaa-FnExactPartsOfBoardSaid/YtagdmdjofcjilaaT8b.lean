/-
  Contracts: CellsWithin, the program.
-/
import Derived.Test.YtagdmdjofcjilaaT8a
namespace Go.Proofs.Ytagdmdjofcjilaa
open Go.RowKit

theorem far_bd {W H a b p : Int} {xs : List Int} {N : Nat} (h : OnFacts W H xs a b N) (hp : hasB W H xs p = true) : ∀ x ∈ farL (leapsL W H xs a b) 64 p, -1 ≤ x ∧ x ≤ 64 := fun x hx => by
  have hr := (hasB_iff.1 hp).1
  have := h.wh; have := h.n
  obtain ⟨i, hi, rfl⟩ := List.getElem_of_mem hx
  have hb := (bfs_ok (adj := leapsL W H xs a b) (N := 64) (start := p) (by omega) (fun c _ y hy => by have := leaps_in h.wh hy; omega) 64).lo i _ (List.getElem?_eq_getElem hi)
  omega

set_option maxRecDepth 100000 in
set_option maxHeartbeats 2000000 in
theorem cellsWithin_any (L : List Int) (h64 : L.length = 64) (hb0 : ∀ x ∈ L, -1 ≤ x ∧ x ≤ 64) (q : Int) (w : World) :
    Calls Try.prog 63 #[.agg (L.map (Value.int .i64)).toArray, .int .i64 q] w fun e w' => ∃ A' n' c', e = .returned (.slice A' n' c') ∧ OwnI 3 w' w.heap.size A' n' c' (selTo (nearB L q) 64) ∧ Below w.heap.size w w' := by
  obtain ⟨i0, hi, hz0, hz1, hz2⟩ := info_parts infoI
  have HI := Lib.hid hi; have HZ0 := Lib.hid hz0; have HZ1 := Lib.hid hz1; have HZ2 := Lib.hid hz2
  clear hi hz0 hz1 hz2
  have HL := Lib.hid h64; have HB0 := Lib.hid hb0
  obtain ⟨W1, hW1⟩ : ∃ W1, W1 = w.alloc (.cells (L.map (Value.int .i64)).toArray 73) := ⟨_, rfl⟩
  have hrg := range_laid w L 73
  have HIN := Lib.hid (show (Try.prog.info? 73).map (·.size) = some (L.map (Value.int .i64)).length from infoD.trans (by rw [List.length_map, h64]))
  have hsz : W1.heap.size = w.heap.size + 1 := by rw [hW1]; simp
  have B := Lib.hid (show Below w.heap.size w W1 by rw [hW1]; exact below_new (Below.refl _ _) _)
  have hix := fun (k : Nat) (hk : k < 64) (x : Int) (hx : L[k]? = some x) (w' : World) => run_far L h64 k hk x hx w'
  obtain ⟨V, hV⟩ : ∃ V, V = L.map (Value.int .i64) := ⟨_, rfl⟩
  rw [← hV] at hW1 hrg HIN hix ⊢
  have HRG := Lib.hid hrg
  have HIX := Lib.hid hix
  clear hrg h64 hb0 hix hV
  go_enter Try.func63, Try.ntmps63
  go_wp2_with (refine wpList_load_mid rfl 73 (.tmp 2) rfl w.heap.size 0 rfl V _ HRG.out Try.underlying73 rfl HIN.out ?_)
  rw [← hW1]
  clear hW1 HRG
  go_loopw [5, 9] (fun v i wr => ∃ (k n' c' : Nat) (A' : Option Addr), k ≤ 64 ∧ i = .int .i64 k ∧ v = .slice A' n' c' ∧ OwnI 3 wr W1.heap.size A' n' c' (selTo (nearB L q) k) ∧ Below W1.heap.size W1 wr) (fun _ i _ => 64 - (intOf i).toNat)
  case atStart => exact ⟨0, 0, 0, none, by omega, rfl, rfl, OwnI.none_ _ _ _, Below.refl _ _⟩
  case round =>
    obtain ⟨k, n', c', A', hk, rfl, rfl, hown, hbw⟩ := hrel
    have hbsz := hbw.size
    by_cases hlt : k < 64
    · obtain ⟨x, hx⟩ : ∃ x, L[k]? = some x := ⟨_, List.getElem?_eq_getElem (show k < L.length by have := HL.out; omega)⟩
      have hxb := HB0.out x (List.mem_of_getElem? hx)
      have hix := HIX.out k hlt x hx
      have hn' : n' ≤ 64 := by have := selTo_len (nearB L q) k; have := hown.len; omega
      have hnb : nearB L q k = inB x 0 q := near_in hx
      have HX := Lib.hid hx; have HO := Lib.hid hown; have HB := Lib.hid hbw; have HNB := Lib.hid hnb
      clear hx hown hbw hnb
      by_cases hm : x = -1
      · subst hm
        go_wp2
        go_roundw
        case rel => exact ⟨k + 1, n', c', A', by omega, by go_num, rfl, by rw [selTo_no (by rw [HNB.out]; rfl)]; exact HO.out, HB.out⟩
        case measure => simp [intOf]; omega
      · have hm' : (x != -1) = true := by simpa using hm
        by_cases hq : x ≤ q
        · go_wp2_with (at_builtin; refine wpList_app1 rfl (.tmp 20) (.tmp 22) 22 3 rfl i0 Try.underlying22 HI.out HZ0.out HZ1.out HZ2.out W1.heap.size A' n' c' (selTo (nearB L q) k) (k : Int) rfl HO.out rfl (by omega) hbsz ?_; intro A2 c2 w2 hown2 hb2')
          have HO2 := Lib.hid hown2; have HB2 := Lib.hid (HB.out.trans hb2')
          clear hown2 hb2'
          go_wp2
          go_roundw
          case rel => exact ⟨k + 1, n' + 1, c2, A2, by omega, by go_num, rfl, by rw [selTo_yes (by rw [HNB.out, inB]; simp; omega)]; exact HO2.out, HB2.out⟩
          case measure => simp [intOf]; omega
        · go_wp2
          go_roundw
          case rel => exact ⟨k + 1, n', c', A', by omega, by go_num, rfl, by rw [selTo_no (by rw [HNB.out, inB]; simp; omega)]; exact HO.out, HB.out⟩
          case measure => simp [intOf]; omega
    · obtain rfl : k = 64 := by omega
      have HO := Lib.hid (hown.lower (show w.heap.size ≤ W1.heap.size by omega)); have HB := Lib.hid (below_next B.out hbw)
      clear hown hbw
      go_wp2
      go_ret
      exact ⟨_, _, _, rfl, HO.out, HB.out⟩

set_option maxRecDepth 100000 in
set_option maxHeartbeats 400000 in
theorem isNumberOfLeaps_any (q : Int) (w : World) :
    Calls Try.prog 62 #[.int .i64 q] w fun e w' => e = .returned (.bool (inB q 0 12)) ∧ Below w.heap.size w w' := by
  by_cases h1 : 0 ≤ q
  · go_enter Try.func62, Try.ntmps62
    go_wp2
    all_goals go_ret
    all_goals exact ⟨ret_bool (by simp [inB]; omega), Below.refl _ _⟩
  · go_enter Try.func62, Try.ntmps62
    go_wp2
    all_goals go_ret
    all_goals exact ⟨ret_bool (by simp [inB]; omega), Below.refl _ _⟩

set_option maxRecDepth 100000 in
set_option maxHeartbeats 2000000 in
theorem impl_CellsWithin (W H : Int) (A : Option Addr) (n c : Nat) (xs : List Int) (a b : Int) (p : Int) (q : Int) (w : World) (ha : Rd w A n xs) :
    Calls Try.prog 31 #[brd W H A n c, lpr a b, .int .i64 p, .int .i64 q] w fun e w' => ∃ A' n' c', e = .returned (.tuple #[.slice A' n' c', .bool (okWithin W H xs a b p q)]) ∧ OwnI 3 w' w.heap.size A' n' c' (withinV W H xs a b p q) ∧ Below w.heap.size w w' := by
  by_cases ho : onB W H xs a b [p] = true
  · by_cases hiq : inB q 0 12 = true
    · have FO := on_facts (onB_one ho).1
      have HP := Lib.hid (onB_one ho).2
      obtain ⟨N, hN⟩ : ∃ N, N = (W * H).toNat := ⟨_, rfl⟩
      rw [← hN] at FO
      have hp0 := (hasB_iff.1 HP.out).1
      rw [FO.wh] at hp0
      obtain ⟨s, rfl⟩ : ∃ s : Nat, p = (s : Int) := ⟨p.toNat, by omega⟩
      have hs : s < N := by omega
      have HF := Lib.hid FO
      have n64 := FO.n.2
      have HO9 := Lib.hid ho
      have hWN : (W * H).toNat = N := hN.symm
      have HWN := Lib.hid hWN
      have hL : farL (leapsL W H xs a b) N (s : Int) = distL W H xs a b (s : Int) := by rw [distL, hN]
      have HL := Lib.hid hL
      clear FO hp0 hN hL hWN
      obtain ⟨W2, hW2⟩ : ∃ W2, W2 = ((w.alloc (.cells #[.int .i64 W, .int .i64 H, .slice A n c] 26)).alloc (.cells #[.int .i64 a, .int .i64 b] 37)).alloc (.cells #[.int .i64 (s : Int)] 3) := ⟨_, rfl⟩
      have hsz : W2.heap.size = w.heap.size + 3 := by rw [hW2]; simp
      have a0 : W2.cell? ⟨w.heap.size, 0, none⟩ = some (.int .i64 W) := by rw [hW2]; go_simp
      have a1 : W2.cell? ⟨w.heap.size, 1, none⟩ = some (.int .i64 H) := by rw [hW2]; go_simp
      have a2 : W2.cell? ⟨w.heap.size, 2, none⟩ = some (.slice A n c) := by rw [hW2]; go_simp
      have l0 : W2.cell? ⟨w.heap.size + 1, 0, none⟩ = some (.int .i64 a) := by rw [hW2]; go_simp
      have l1 : W2.cell? ⟨w.heap.size + 1, 1, none⟩ = some (.int .i64 b) := by rw [hW2]; go_simp
      have q0 : W2.cell? ⟨w.heap.size + 1 + 1, 0, none⟩ = some (.int .i64 (s : Int)) := by rw [hW2]; go_simp
      have al : w.heap.size < W2.heap.size := by omega
      have ll : w.heap.size + 1 < W2.heap.size := by omega
      have B := Lib.hid (show Below w.heap.size w W2 by rw [hW2]; exact (((Below.refl _ _).alloc (Nat.le_refl _) _).alloc (by simp) _).alloc (by simp; omega) _)
      have RP := Lib.hid (show Rd W2 (some ⟨w.heap.size + 1 + 1, 0, none⟩) 1 [(s : Int)] from ⟨rfl, by omega, fun k hk => by
        obtain rfl : k = 0 := by omega
        exact ⟨_, 0, _, rfl, by omega, rfl, q0⟩⟩)
      clear q0
      go_enter Try.func31, Try.ntmps31
      go_wp2_with fail
      rw [← hW2]
      clear hW2
      refine (isLeaperOn_any W H A n c xs a b _ 1 1 _ W2 (ha.keep B.out) RP.out).mono ?_
      rw [ho]
      rintro e wv ⟨rfl, hb⟩
      replace a0 := cell_keep a0 al hb; replace a1 := cell_keep a1 al hb; replace a2 := cell_keep a2 al hb; replace l0 := cell_keep l0 ll hb; replace l1 := cell_keep l1 ll hb; replace al := lt_keep al hb; replace ll := lt_keep ll hb
      replace B := Lib.hid (below_next B.out hb)
      clear hb RP hsz
      go_wp2_with fail
      refine (isNumberOfLeaps_any q _).mono ?_
      rw [hiq]
      rintro e wq ⟨rfl, hb⟩
      replace a0 := cell_keep a0 al hb; replace a1 := cell_keep a1 al hb; replace a2 := cell_keep a2 al hb; replace l0 := cell_keep l0 ll hb; replace l1 := cell_keep l1 ll hb; replace al := lt_keep al hb; replace ll := lt_keep ll hb
      replace B := Lib.hid (below_next B.out hb)
      clear hb
      go_wp2_with fail
      refine (onwardOf_any W H A n c xs a b _ (ha.keep B.out) HF.out.g HF.out.l).mono ?_
      rintro e wx ⟨mb, rfl, hom, hb⟩
      replace a0 := cell_keep a0 al hb; replace a1 := cell_keep a1 al hb; replace a2 := cell_keep a2 al hb; replace l0 := cell_keep l0 ll hb; replace l1 := cell_keep l1 ll hb; replace al := lt_keep al hb; replace ll := lt_keep ll hb
      replace B := Lib.hid (below_next B.out hb)
      clear hb
      go_wp2_with fail
      refine (distancesFrom_any _ mb (cellsL W H xs) (leapsL W H xs a b) s _ hom (by omega) (cellsL_mem.2 HP.out) (cells_in HF.out) adj_in).mono ?_
      rintro e wy ⟨rfl, hb⟩
      replace a0 := cell_keep a0 al hb; replace a1 := cell_keep a1 al hb; replace a2 := cell_keep a2 al hb; replace l0 := cell_keep l0 ll hb; replace l1 := cell_keep l1 ll hb; replace al := lt_keep al hb; replace ll := lt_keep ll hb
      replace B := Lib.hid (below_next B.out hb)
      clear hb hom
      have h64 : (farL (leapsL W H xs a b) 64 (s : Int)).length = 64 := far_len64 HF.out HP.out
      have hbd : ∀ x ∈ farL (leapsL W H xs a b) 64 (s : Int), -1 ≤ x ∧ x ≤ 64 := far_bd HF.out HP.out
      go_wp2_with fail
      refine (cellsWithin_any _ h64 hbd q _).mono ?_
      rintro e wz ⟨A', n', c', rfl, own, hb⟩
      have e9 : selTo (nearB (farL (leapsL W H xs a b) 64 (s : Int)) q) 64 = withinV W H xs a b (s : Int) q := by
        rw [withinV, if_pos (by rw [okWithin, HO9.out, hiq]; rfl), HWN.out, far64 HF.out HP.out]
        rw [selTo_congr 64 (g := nearB (distL W H xs a b (s : Int)) q) (fun i _ => by rw [nearB, getD_pad]; rfl)]
        exact selTo_stop (fun i hi => by rw [nearB, List.getD_eq_getElem?_getD, List.getElem?_eq_none (by rw [dist_len HF.out HP.out]; exact hi)]; rfl) n64
      rw [e9] at own
      have O := Lib.hid (own.lower B.out.size)
      replace B := Lib.hid (below_next B.out hb)
      clear own hb e9 h64 hbd
      go_wp2
      go_ret2
      exact ⟨_, _, _, by rw [show okWithin W H xs a b (s : Int) q = true by rw [okWithin, HO9.out, hiq]; rfl]; rfl, O.out, B.out⟩
    · have hiq' : inB q 0 12 = false := by simpa using hiq
      obtain ⟨W2, hW2⟩ : ∃ W2, W2 = ((w.alloc (.cells #[.int .i64 W, .int .i64 H, .slice A n c] 26)).alloc (.cells #[.int .i64 a, .int .i64 b] 37)).alloc (.cells #[.int .i64 p] 3) := ⟨_, rfl⟩
      have hsz : W2.heap.size = w.heap.size + 3 := by rw [hW2]; simp
      have a0 : W2.cell? ⟨w.heap.size, 0, none⟩ = some (.int .i64 W) := by rw [hW2]; go_simp
      have a1 : W2.cell? ⟨w.heap.size, 1, none⟩ = some (.int .i64 H) := by rw [hW2]; go_simp
      have a2 : W2.cell? ⟨w.heap.size, 2, none⟩ = some (.slice A n c) := by rw [hW2]; go_simp
      have l0 : W2.cell? ⟨w.heap.size + 1, 0, none⟩ = some (.int .i64 a) := by rw [hW2]; go_simp
      have l1 : W2.cell? ⟨w.heap.size + 1, 1, none⟩ = some (.int .i64 b) := by rw [hW2]; go_simp
      have q0 : W2.cell? ⟨w.heap.size + 1 + 1, 0, none⟩ = some (.int .i64 p) := by rw [hW2]; go_simp
      have al : w.heap.size < W2.heap.size := by omega
      have ll : w.heap.size + 1 < W2.heap.size := by omega
      have B := Lib.hid (show Below w.heap.size w W2 by rw [hW2]; exact (((Below.refl _ _).alloc (Nat.le_refl _) _).alloc (by simp) _).alloc (by simp; omega) _)
      have RP := Lib.hid (show Rd W2 (some ⟨w.heap.size + 1 + 1, 0, none⟩) 1 [p] from ⟨rfl, by omega, fun k hk => by
        obtain rfl : k = 0 := by omega
        exact ⟨_, 0, _, rfl, by omega, rfl, q0⟩⟩)
      clear q0
      go_enter Try.func31, Try.ntmps31
      go_wp2_with fail
      rw [← hW2]
      clear hW2
      refine (isLeaperOn_any W H A n c xs a b _ 1 1 _ W2 (ha.keep B.out) RP.out).mono ?_
      rw [ho]
      rintro e wv ⟨rfl, hb⟩
      replace a0 := cell_keep a0 al hb; replace a1 := cell_keep a1 al hb; replace a2 := cell_keep a2 al hb; replace l0 := cell_keep l0 ll hb; replace l1 := cell_keep l1 ll hb; replace al := lt_keep al hb; replace ll := lt_keep ll hb
      replace B := Lib.hid (below_next B.out hb)
      clear hb RP hsz
      go_wp2_with fail
      refine (isNumberOfLeaps_any q _).mono ?_
      rw [hiq']
      rintro e wq ⟨rfl, hb⟩
      replace a0 := cell_keep a0 al hb; replace a1 := cell_keep a1 al hb; replace a2 := cell_keep a2 al hb; replace l0 := cell_keep l0 ll hb; replace l1 := cell_keep l1 ll hb; replace al := lt_keep al hb; replace ll := lt_keep ll hb
      replace B := Lib.hid (below_next B.out hb)
      clear hb
      go_wp2
      go_ret2
      exact ⟨none, 0, 0, by rw [show okWithin W H xs a b p q = false by rw [okWithin, hiq']; simp]; rfl, by rw [withinV, if_neg (by rw [okWithin, hiq']; simp)]; exact OwnI.none_ _ _ _, B.out⟩
  · have ho' : onB W H xs a b [p] = false := by simpa using ho
    obtain ⟨W2, hW2⟩ : ∃ W2, W2 = ((w.alloc (.cells #[.int .i64 W, .int .i64 H, .slice A n c] 26)).alloc (.cells #[.int .i64 a, .int .i64 b] 37)).alloc (.cells #[.int .i64 p] 3) := ⟨_, rfl⟩
    have hsz : W2.heap.size = w.heap.size + 3 := by rw [hW2]; simp
    have a0 : W2.cell? ⟨w.heap.size, 0, none⟩ = some (.int .i64 W) := by rw [hW2]; go_simp
    have a1 : W2.cell? ⟨w.heap.size, 1, none⟩ = some (.int .i64 H) := by rw [hW2]; go_simp
    have a2 : W2.cell? ⟨w.heap.size, 2, none⟩ = some (.slice A n c) := by rw [hW2]; go_simp
    have l0 : W2.cell? ⟨w.heap.size + 1, 0, none⟩ = some (.int .i64 a) := by rw [hW2]; go_simp
    have l1 : W2.cell? ⟨w.heap.size + 1, 1, none⟩ = some (.int .i64 b) := by rw [hW2]; go_simp
    have q0 : W2.cell? ⟨w.heap.size + 1 + 1, 0, none⟩ = some (.int .i64 p) := by rw [hW2]; go_simp
    have al : w.heap.size < W2.heap.size := by omega
    have ll : w.heap.size + 1 < W2.heap.size := by omega
    have B := Lib.hid (show Below w.heap.size w W2 by rw [hW2]; exact (((Below.refl _ _).alloc (Nat.le_refl _) _).alloc (by simp) _).alloc (by simp; omega) _)
    have RP := Lib.hid (show Rd W2 (some ⟨w.heap.size + 1 + 1, 0, none⟩) 1 [p] from ⟨rfl, by omega, fun k hk => by
      obtain rfl : k = 0 := by omega
      exact ⟨_, 0, _, rfl, by omega, rfl, q0⟩⟩)
    clear q0
    go_enter Try.func31, Try.ntmps31
    go_wp2_with fail
    rw [← hW2]
    clear hW2
    refine (isLeaperOn_any W H A n c xs a b _ 1 1 _ W2 (ha.keep B.out) RP.out).mono ?_
    rw [ho']
    rintro e wv ⟨rfl, hb⟩
    replace a0 := cell_keep a0 al hb; replace a1 := cell_keep a1 al hb; replace a2 := cell_keep a2 al hb; replace l0 := cell_keep l0 ll hb; replace l1 := cell_keep l1 ll hb; replace al := lt_keep al hb; replace ll := lt_keep ll hb
    replace B := Lib.hid (below_next B.out hb)
    clear hb RP hsz
    go_wp2
    go_ret2
    exact ⟨none, 0, 0, by rw [show okWithin W H xs a b p q = false by rw [okWithin, ho']; simp]; rfl, by rw [withinV, if_neg (by rw [okWithin, ho']; simp)]; exact OwnI.none_ _ _ _, B.out⟩

end Go.Proofs.Ytagdmdjofcjilaa
