/-
  The walk of the exact law on MakePuzzle: it answers true, and what was there stays.
-/
import Derived.Test.YtkdfilhiljfanaaLaw0
import Derived.Test.YtkdfilhiljfanaaA1
import Derived.Test.YtkdfilhiljfanaaAC
namespace Go.Proofs.Ytkdfilhiljfanaa
open Go.RowKit

set_option maxHeartbeats 2500000 in
set_option maxRecDepth 100000 in
theorem law_MakePuzzle (w : World) (W H : Int) (A : Option Addr) (n c : Nat) (xs : List Int) (ha : Rd w A n xs) (a b : Int) (A3 : Option Addr) (m3 c3 : Nat) (ps : List Int) (hq : Rd w A3 m3 ps) (q : Int) :
    Calls Try.prog 10 #[brd W H A n c, lpr a b, .slice A3 m3 c3, .int .i64 q] w fun e w' => e = .returned (.bool true) ∧ Below w.heap.size w w' := by
  have hn9 := ha.2.1; have hq9 := hq.2.1
  by_cases hQ : (m3 : Int) ≤ 1048576
  rotate_left
  · go_enter Try.func10, Try.ntmps10
    go_wp2
    go_ret
    exact ⟨rfl, below_new (below_new (Below.refl _ _) _) _⟩
  by_cases hB : (n : Int) ≤ 1048576
  rotate_left
  · go_enter Try.func10, Try.ntmps10
    go_wp2_with fail
    refine (szBoard_any _ _ _ _ _ _ _ hn9 (by omega) (by omega)).mono ?_
    rw [if_neg (show ¬ (n : Int) ≤ 1048576 by omega)]
    rintro e wv ⟨rfl, hb⟩
    have B := Lib.hid (below_box (below_box hb))
    clear hb
    go_wp2
    go_ret
    exact ⟨rfl, B.out⟩
  · have HnB := Lib.hid hB; have HQ9 := Lib.hid hQ
    have RA0 := Lib.hid ha; have RQ0 := Lib.hid hq
    clear ha hq
    obtain ⟨W2, hW2⟩ : ∃ W2, W2 = (w.alloc (.cells #[.int .i64 W, .int .i64 H, .slice A n c] 24)).alloc (.cells #[.int .i64 a, .int .i64 b] 26) := ⟨_, rfl⟩
    have BA := Lib.hid (show Bx W2 (w.heap.size) #[.int .i64 W, .int .i64 H, .slice A n c] 24 by rw [hW2]; exact (Bx.new (w) #[.int .i64 W, .int .i64 H, .slice A n c] 24).keep (below_new (Below.refl _ _) (.cells #[.int .i64 a, .int .i64 b] 26)))
    have BLp := Lib.hid (show Bx W2 (w.heap.size + 1) #[.int .i64 a, .int .i64 b] 26 by rw [hW2]; have := Bx.new (w.alloc (.cells #[.int .i64 W, .int .i64 H, .slice A n c] 24)) #[.int .i64 a, .int .i64 b] 26; simpa using this)
    have B := Lib.hid (show Below w.heap.size w W2 by rw [hW2]; repeat (first | exact Below.refl _ _ | refine below_new ?_ _))
    have HSZ := Lib.hid (show w.heap.size + 2 ≤ W2.heap.size by rw [hW2]; simp)
    have p0 := BA.out.cell (j := 0) (v := .int .i64 W) rfl
    have p1 := BA.out.cell (j := 1) (v := .int .i64 H) rfl
    have p2 := BA.out.cell (j := 2) (v := .slice A n c) rfl
    have pl := BA.out.lt
    go_enter Try.func10, Try.ntmps10
    go_wp2_with fail
    rw [← hW2]
    clear hW2
    clear p0 p1 p2 pl
    refine (szBoard_any _ _ _ _ _ _ _ hn9 (by omega) (by omega)).mono ?_
    rw [if_pos hB]
    rintro e wv ⟨rfl, hb⟩
    replace BA := Lib.hid (BA.out.keep hb)
    replace BLp := Lib.hid (BLp.out.keep hb)
    replace HSZ := Lib.hid (Nat.le_trans HSZ.out hb.size)
    replace B := Lib.hid (below_next B.out hb)
    clear hb
    have hge : (0 : Int) ≤ 1048576 - n := by omega
    go_upto_region 7 with fail
    obtain ⟨lW, hB0⟩ : ∃ lW, lW = wv.heap.size := ⟨_, rfl⟩
    have HBW := Lib.hid (show lW ≤ wv.heap.size by omega)
    have HBBW := Lib.hid (show w.heap.size + 1 + 1 ≤ lW by have := HSZ.out; omega)
    have VBA := Lib.hid (show w.heap.size < lW by have := BA.out.lt; omega)
    have VBLp := Lib.hid (show w.heap.size + 1 < lW by have := BLp.out.lt; omega)
    clear hB0
    go_cut [10, 11] (fun s10 s11 wx => ∃ (kw : Nat) (AW : Option Addr) (nW cW : Nat) (AW2 : Option Addr) (nW2 cW2 : Nat), s10 = .pointer (some ⟨kw, 0, none⟩) ∧ s11 = .bool (MakePuzzle_ok W H xs a b ps q) ∧ Bx wx (w.heap.size) #[.int .i64 W, .int .i64 H, .slice A n c] 24 ∧ Bx wx (w.heap.size + 1) #[.int .i64 a, .int .i64 b] 26 ∧ OwnI 3 wx lW AW nW cW (zl (MakePuzzle_ok W H xs a b ps q) (MakePuzzle_xs W H xs a b ps q)) ∧ OwnI 3 wx lW AW2 nW2 cW2 (zl (MakePuzzle_ok W H xs a b ps q) (MakePuzzle_ns W H xs a b ps q)) ∧ Apart AW AW2 ∧ (∀ y, AW = some y → y.block ≠ kw) ∧ (∀ y, AW2 = some y → y.block ≠ kw) ∧ lW ≤ kw ∧ lW ≤ wx.heap.size ∧ Bx wx kw #[.int .i64 (zi (MakePuzzle_ok W H xs a b ps q) W), .int .i64 (zi (MakePuzzle_ok W H xs a b ps q) H), .slice AW nW cW, .int .i64 (zi (MakePuzzle_ok W H xs a b ps q) a), .int .i64 (zi (MakePuzzle_ok W H xs a b ps q) b), .slice AW2 nW2 cW2] 34 ∧ w.heap.size + 1 + 1 ≤ wx.heap.size ∧ Below w.heap.size w wx)
    case first =>
      refine wp_region_held_drew (S := fun w' => w'.cell? ⟨w.heap.size, 0, none⟩ = some (.int .i64 W) ∧ w'.cell? ⟨w.heap.size, 1, none⟩ = some (.int .i64 H) ∧ w'.cell? ⟨w.heap.size, 2, none⟩ = some (.slice A n c) ∧ w'.cell? ⟨w.heap.size + 1, 0, none⟩ = some (.int .i64 a) ∧ w'.cell? ⟨w.heap.size + 1, 1, none⟩ = some (.int .i64 b)) (by kernel_rfl) ?_ (fun hHeld => ?_)
      · (try dsimp only)
        exact ⟨BA.out.cell rfl, BA.out.cell rfl, BA.out.cell rfl, BLp.out.cell rfl, BLp.out.cell rfl⟩
      refine wpAnyH_take (i := 0) (oi := ⟨_, _, _, _, _, _⟩) (v := ?_) rfl (by kernel_rfl) (by kernel_rfl) (by kernel_rfl) (fun _ _ _ h => h) (Or.inl ⟨by rfl, ?_⟩) (by assumption) ?_
      rotate_left
      · intro w hSw
        (try dsimp only at hSw)
        go_simp
        (try with_reducible rfl)
      (try simp only [Act.put, List.setIfInBounds_toArray, List.set_cons_zero, List.set_cons_succ])
      refine wpAnyH_take (i := 2) (oi := ⟨_, _, _, _, _, _⟩) (v := ?_) rfl (by kernel_rfl) (by kernel_rfl) (by kernel_rfl) (fun _ _ _ h => h) (Or.inl ⟨by rfl, ?_⟩) (by assumption) ?_
      rotate_left
      · intro w hSw
        (try dsimp only at hSw)
        go_simp
        (try with_reducible rfl)
      (try simp only [Act.put, List.setIfInBounds_toArray, List.set_cons_zero, List.set_cons_succ])
      refine wpAnyH_take (i := 4) (oi := ⟨_, _, _, _, _, _⟩) (v := ?_) rfl (by kernel_rfl) (by kernel_rfl) (by kernel_rfl) (fun _ _ _ h => h) (Or.inl ⟨by rfl, ?_⟩) (by assumption) ?_
      rotate_left
      · intro w hSw
        (try dsimp only at hSw)
        go_simp
        (try with_reducible rfl)
      (try simp only [Act.put, List.setIfInBounds_toArray, List.set_cons_zero, List.set_cons_succ])
      refine wpAnyH_take (i := 6) (oi := ⟨_, _, _, _, _, _⟩) (v := ?_) rfl (by kernel_rfl) (by kernel_rfl) (by kernel_rfl) (fun _ _ _ h => h) (Or.inl ⟨by rfl, ?_⟩) (by assumption) ?_
      rotate_left
      · intro w hSw
        (try dsimp only at hSw)
        go_simp
        (try with_reducible rfl)
      (try simp only [Act.put, List.setIfInBounds_toArray, List.set_cons_zero, List.set_cons_succ])
      refine wpAnyH_ready (rs := [1, 11]) (by kernel_rfl) (by simp) ?_
      refine AllReadyH.cons (o := ⟨_, _, _, _, _, _⟩) rfl (fun K hK => ?_) (AllReadyH.cons (o := ⟨_, _, _, _, _, _⟩) rfl (fun K hK => ?_) AllReadyH.nil)
      · go_simp
        (go_at_call 34; refine (toBoard_any W H A n c xs _ (by exact (RA0.out.keep B.out).drew1) (by have := HnB.out; omega)).mono ?_; rintro e wy ⟨gs, rfl, own, hb⟩; (repeat (first | replace hb := below_undrew hb | replace hb := below_undrewN hb)); have Os := Lib.hid own; replace HBW := Lib.hid (Nat.le_trans HBW.out hb.size); clear own; replace BA := Lib.hid (BA.out.keep hb); replace BLp := Lib.hid (BLp.out.keep hb); replace HSZ := Lib.hid (Nat.le_trans HSZ.out hb.size); replace B := Lib.hid (below_next B.out hb); clear hb)
        (try go_wp2_with fail)
        refine hK.out _ _ ?_ (fun hHeld => ?_)
        · (try dsimp only)
          exact ⟨BA.out.cell rfl, BA.out.cell rfl, BA.out.cell rfl, BLp.out.cell rfl, BLp.out.cell rfl⟩
        clear hK K
        (try simp only [Act.put, List.setIfInBounds_toArray, List.set_cons_zero, List.set_cons_succ])
        refine wpAnyH_ready (rs := [3, 11]) (by kernel_rfl) (by simp) ?_
        refine AllReadyH.cons (o := ⟨_, _, _, _, _, _⟩) rfl (fun K hK => ?_) (AllReadyH.cons (o := ⟨_, _, _, _, _, _⟩) rfl (fun K hK => ?_) AllReadyH.nil)
        · go_simp
          (go_at_call 35; refine (toLeaper_any a b _).mono ?_; rintro e wl ⟨rfl, hb⟩; (repeat (first | replace hb := below_undrew hb | replace hb := below_undrewN hb)); replace HBW := Lib.hid (Nat.le_trans HBW.out hb.size); replace BA := Lib.hid (BA.out.keep hb); replace BLp := Lib.hid (BLp.out.keep hb); replace Os := Lib.hid (Os.out.keep hb); replace HSZ := Lib.hid (Nat.le_trans HSZ.out hb.size); replace B := Lib.hid (below_next B.out hb); clear hb)
          (try go_wp2_with fail)
          refine hK.out _ _ ?_ (fun hHeld => ?_)
          · (try dsimp only)
            exact ⟨BA.out.cell rfl, BA.out.cell rfl, BA.out.cell rfl, BLp.out.cell rfl, BLp.out.cell rfl⟩
          clear hK K
          (try simp only [Act.put, List.setIfInBounds_toArray, List.set_cons_zero, List.set_cons_succ])
          refine wpAnyH_ready (rs := [5, 11]) (by kernel_rfl) (by simp) ?_
          refine AllReadyH.cons (o := ⟨_, _, _, _, _, _⟩) rfl (fun K hK => ?_) (AllReadyH.cons (o := ⟨_, _, _, _, _, _⟩) rfl (fun K hK => ?_) AllReadyH.nil)
          · go_simp
            (go_at_call 19; refine (toIntS_any A3 m3 c3 ps _ (by exact (RQ0.out.keep B.out).drew1) (by have := HQ9.out; omega)).mono ?_; rintro e wz ⟨gp, rfl, own, hb⟩; (repeat (first | replace hb := below_undrew hb | replace hb := below_undrewN hb)); have Op := Lib.hid own; replace HBW := Lib.hid (Nat.le_trans HBW.out hb.size); clear own; replace BA := Lib.hid (BA.out.keep hb); replace BLp := Lib.hid (BLp.out.keep hb); replace Os := Lib.hid (Os.out.keep hb); replace HSZ := Lib.hid (Nat.le_trans HSZ.out hb.size); replace B := Lib.hid (below_next B.out hb); clear hb)
            (try go_wp2_with fail)
            refine hK.out _ _ ?_ (fun hHeld => ?_)
            · (try dsimp only)
              exact ⟨BA.out.cell rfl, BA.out.cell rfl, BA.out.cell rfl, BLp.out.cell rfl, BLp.out.cell rfl⟩
            clear hK K
            (try simp only [Act.put, List.setIfInBounds_toArray, List.set_cons_zero, List.set_cons_succ])
            refine wpAnyH_ready (rs := [7, 11]) (by kernel_rfl) (by simp) ?_
            refine AllReadyH.cons (o := ⟨_, _, _, _, _, _⟩) rfl (fun K hK => ?_) (AllReadyH.cons (o := ⟨_, _, _, _, _, _⟩) rfl (fun K hK => ?_) AllReadyH.nil)
            · go_simp
              (go_at_call 33; refine (spec_MakePuzzle W H _ _ _ xs a b _ _ _ ps q _ (by exact Os.out.rd) (by exact Op.out.rd) (Nat.le_refl _)).mono ?_; rintro e wc ⟨AW, nW, cW, AW2, nW2, cW2, rfl, o1, o2, hap, hb⟩; (repeat (first | replace hb := below_undrew hb | replace hb := below_undrewN hb)); have On1 := Lib.hid (o1.lower (show lW ≤ wz.heap.size from HBW.out)); have On2 := Lib.hid (o2.lower (show lW ≤ wz.heap.size from HBW.out)); have HAPn := Lib.hid hap; replace HBW := Lib.hid (Nat.le_trans HBW.out hb.size); clear o1 o2 hap; replace BA := Lib.hid (BA.out.keep hb); replace BLp := Lib.hid (BLp.out.keep hb); replace HSZ := Lib.hid (Nat.le_trans HSZ.out hb.size); replace B := Lib.hid (below_next B.out hb); clear hb)
              (try go_wp2_with fail)
              refine hK.out _ _ ?_ (fun hHeld => ?_)
              · (try dsimp only)
                exact ⟨BA.out.cell rfl, BA.out.cell rfl, BA.out.cell rfl, BLp.out.cell rfl, BLp.out.cell rfl⟩
              clear hK K
              (try simp only [Act.put, List.setIfInBounds_toArray, List.set_cons_zero, List.set_cons_succ])
              refine wpAnyH_take (i := 8) (oi := ⟨_, _, _, _, _, _⟩) (v := ?_) rfl (by kernel_rfl) (by kernel_rfl) (by kernel_rfl) (fun _ _ _ h => h) (Or.inl ⟨by rfl, ?_⟩) (by assumption) ?_
              rotate_left
              · intro w hSw
                (try dsimp only at hSw)
                go_simp
                (try with_reducible rfl)
              (try simp only [Act.put, List.setIfInBounds_toArray, List.set_cons_zero, List.set_cons_succ])
              refine wpAnyH_take (i := 9) (oi := ⟨_, _, _, _, _, _⟩) (v := ?_) rfl (by kernel_rfl) (by kernel_rfl) (by kernel_rfl) (fun _ _ _ h => h) (Or.inl ⟨by rfl, ?_⟩) (by assumption) ?_
              rotate_left
              · intro w hSw
                (try dsimp only at hSw)
                go_simp
                (try with_reducible rfl)
              (try simp only [Act.put, List.setIfInBounds_toArray, List.set_cons_zero, List.set_cons_succ])
              refine wpAnyH_take (i := 10) (oi := ⟨_, _, _, _, _, _⟩) (v := ?_) rfl (by kernel_rfl) (by kernel_rfl) (by kernel_rfl) (fun _ _ _ h => h) (Or.inl ⟨by rfl, ?_⟩) (by assumption) ?_
              rotate_left
              · intro w hSw
                (try dsimp only at hSw)
                go_simp
                (try with_reducible rfl)
              (try simp only [Act.put, List.setIfInBounds_toArray, List.set_cons_zero, List.set_cons_succ])
              refine wpAnyH_ready (rs := [11]) (by kernel_rfl) (by simp) ?_
              refine AllReadyH.cons (o := ⟨_, _, _, _, _, _⟩) rfl (fun K hK => ?_) AllReadyH.nil
              go_simp
              obtain ⟨wt, hWn⟩ : ∃ W5, W5 = wc.alloc (.cells #[.int .i64 0, .int .i64 0, .slice none 0 0, .int .i64 0, .int .i64 0, .slice none 0 0] 34) := ⟨_, rfl⟩
              have hb : Below wc.heap.size wc wt := by rw [hWn]; exact below_new (Below.refl _ _) _
              obtain ⟨kw, hgp⟩ : ∃ gp, gp = wc.heap.size := ⟨_, rfl⟩
              have BN := Lib.hid (show Bx wt kw #[.int .i64 0, .int .i64 0, .slice none 0 0, .int .i64 0, .int .i64 0, .slice none 0 0] 34 by rw [hWn, hgp]; exact Bx.new _ _ _)
              have Hkw := Lib.hid (show lW ≤ kw by rw [hgp]; exact HBW.out)
              replace HBW := Lib.hid (Nat.le_trans HBW.out hb.size)
              have HNE1 := Lib.hid (show ∀ y, AW = some y → y.block ≠ kw from fun y hy => by have := (On1.out.span y hy).2; omega); have HNE2 := Lib.hid (show ∀ y, AW2 = some y → y.block ≠ kw from fun y hy => by have := (On2.out.span y hy).2; omega)
              rw [← hWn]
              (try rw [← hgp])
              clear hWn hgp
              replace BA := Lib.hid (BA.out.keep hb)
              replace BLp := Lib.hid (BLp.out.keep hb)
              replace On1 := Lib.hid (On1.out.keep hb)
              replace On2 := Lib.hid (On2.out.keep hb)
              replace HSZ := Lib.hid (Nat.le_trans HSZ.out hb.size)
              replace B := Lib.hid (below_next B.out hb)
              clear hb
              refine hK.out _ _ ?_ (fun hHeld => ?_)
              · (try dsimp only)
                exact ⟨BA.out.cell rfl, BA.out.cell rfl, BA.out.cell rfl, BLp.out.cell rfl, BLp.out.cell rfl⟩
              clear hK K
              (try simp only [Act.put, List.setIfInBounds_toArray, List.set_cons_zero, List.set_cons_succ])
              refine wpAnyH_ready (rs := [12]) (by kernel_rfl) (by simp) ?_
              refine AllReadyH.cons (o := ⟨_, _, _, _, _, _⟩) rfl (fun K hK => ?_) AllReadyH.nil
              have z0 : wt.cell? ⟨kw, 0, none⟩ = some (.int .i64 0) := BN.out.cell rfl
              have z1 : wt.cell? ⟨kw, 1, none⟩ = some (.int .i64 0) := BN.out.cell rfl
              have z2 : wt.cell? ⟨kw, 2, none⟩ = some (.slice none 0 0) := BN.out.cell rfl
              have z3 : wt.cell? ⟨kw, 3, none⟩ = some (.int .i64 0) := BN.out.cell rfl
              have z4 : wt.cell? ⟨kw, 4, none⟩ = some (.int .i64 0) := BN.out.cell rfl
              have z5 : wt.cell? ⟨kw, 5, none⟩ = some (.slice none 0 0) := BN.out.cell rfl
              have f0 : wt.frozen? ⟨kw, 0, none⟩ = false := BN.out.frozen 0
              have f1 : wt.frozen? ⟨kw, 1, none⟩ = false := BN.out.frozen 1
              have f2 : wt.frozen? ⟨kw, 2, none⟩ = false := BN.out.frozen 2
              have f3 : wt.frozen? ⟨kw, 3, none⟩ = false := BN.out.frozen 3
              have f4 : wt.frozen? ⟨kw, 4, none⟩ = false := BN.out.frozen 4
              have f5 : wt.frozen? ⟨kw, 5, none⟩ = false := BN.out.frozen 5
              go_simp
              obtain ⟨wq, hWn⟩ : ∃ W5, W5 = (((((wt.setCell ⟨kw, 0, none⟩ (.int .i64 (zi (MakePuzzle_ok W H xs a b ps q) W))).setCell ⟨kw, 1, none⟩ (.int .i64 (zi (MakePuzzle_ok W H xs a b ps q) H))).setCell ⟨kw, 2, none⟩ (.slice AW nW cW)).setCell ⟨kw, 3, none⟩ (.int .i64 (zi (MakePuzzle_ok W H xs a b ps q) a))).setCell ⟨kw, 4, none⟩ (.int .i64 (zi (MakePuzzle_ok W H xs a b ps q) b))).setCell ⟨kw, 5, none⟩ (.slice AW2 nW2 cW2) := ⟨_, rfl⟩
              have hgr : wt.grownBy wq (some (kw)) := by rw [hWn]; exact (grown_next (grown_next (grown_next (grown_next (grown_next (grownSet1 wt ⟨kw, 0, none⟩ (.int .i64 (zi (MakePuzzle_ok W H xs a b ps q) W))) (grownSet1 _ ⟨kw, 1, none⟩ (.int .i64 (zi (MakePuzzle_ok W H xs a b ps q) H)))) (grownSet1 _ ⟨kw, 2, none⟩ (.slice AW nW cW))) (grownSet1 _ ⟨kw, 3, none⟩ (.int .i64 (zi (MakePuzzle_ok W H xs a b ps q) a)))) (grownSet1 _ ⟨kw, 4, none⟩ (.int .i64 (zi (MakePuzzle_ok W H xs a b ps q) b)))) (grownSet1 _ ⟨kw, 5, none⟩ (.slice AW2 nW2 cW2)))
              replace BN := Lib.hid (show Bx wq (kw) #[.int .i64 (zi (MakePuzzle_ok W H xs a b ps q) W), .int .i64 (zi (MakePuzzle_ok W H xs a b ps q) H), .slice AW nW cW, .int .i64 (zi (MakePuzzle_ok W H xs a b ps q) a), .int .i64 (zi (MakePuzzle_ok W H xs a b ps q) b), .slice AW2 nW2 cW2] 34 by rw [hWn]; exact ((((((BN.out.set 0 (.int .i64 (zi (MakePuzzle_ok W H xs a b ps q) W))).set 1 (.int .i64 (zi (MakePuzzle_ok W H xs a b ps q) H))).set 2 (.slice AW nW cW)).set 3 (.int .i64 (zi (MakePuzzle_ok W H xs a b ps q) a))).set 4 (.int .i64 (zi (MakePuzzle_ok W H xs a b ps q) b))).set 5 (.slice AW2 nW2 cW2)))
              replace BA := Lib.hid (BA.out.grown hgr (by have := VBA.out; have := Hkw.out; simp; omega))
              replace BLp := Lib.hid (BLp.out.grown hgr (by have := VBLp.out; have := Hkw.out; simp; omega))
              replace On1 := Lib.hid (On1.out.other hgr (fun a9 ha9 he => by injection he with he; exact HNE1.out a9 ha9 he))
              replace On2 := Lib.hid (On2.out.other hgr (fun a9 ha9 he => by injection he with he; exact HNE2.out a9 ha9 he))
              replace HSZ := Lib.hid (Nat.le_trans HSZ.out hgr.size)
              replace B := Lib.hid (B.out.grown hgr B.out.size (fun g9 h9 => by injection h9 with h9; have := Hkw.out; have := HBBW.out; omega))
              replace HBW := Lib.hid (Nat.le_trans HBW.out hgr.size)
              rw [← hWn]
              clear hWn hgr z0 f0 z1 f1 z2 f2 z3 f3 z4 f4 z5 f5
              refine hK.out _ _ ?_ (fun hHeld => ?_)
              · (try dsimp only)
                exact ⟨BA.out.cell rfl, BA.out.cell rfl, BA.out.cell rfl, BLp.out.cell rfl, BLp.out.cell rfl⟩
              clear hK K
              (try simp only [Act.put, List.setIfInBounds_toArray, List.set_cons_zero, List.set_cons_succ])
              refine wpAnyH_take (i := 13) (oi := ⟨_, _, _, _, _, _⟩) (v := ?_) rfl (by kernel_rfl) (by kernel_rfl) (by kernel_rfl) (fun _ _ _ h => h) (Or.inl ⟨by rfl, ?_⟩) (by assumption) ?_
              rotate_left
              · intro w hSw
                (try dsimp only at hSw)
                go_simp
                (try with_reducible rfl)
              (try simp only [Act.put, List.setIfInBounds_toArray, List.set_cons_zero, List.set_cons_succ])
              refine wpAnyH_done (by kernel_rfl) ?_ _
              clear hHeld
              (try go_wp2_with fail)
              go_meet
              exact ⟨kw, AW, nW, cW, AW2, nW2, cW2, rfl, rfl, BA.out, BLp.out, On1.out, On2.out, HAPn.out, HNE1.out, HNE2.out, Hkw.out, HBW.out, BN.out, HSZ.out, B.out⟩
            · go_simp
              obtain ⟨wt, hWn⟩ : ∃ W5, W5 = wz.alloc (.cells #[.int .i64 0, .int .i64 0, .slice none 0 0, .int .i64 0, .int .i64 0, .slice none 0 0] 34) := ⟨_, rfl⟩
              have hb : Below wz.heap.size wz wt := by rw [hWn]; exact below_new (Below.refl _ _) _
              obtain ⟨kw, hgp⟩ : ∃ gp, gp = wz.heap.size := ⟨_, rfl⟩
              have BN := Lib.hid (show Bx wt kw #[.int .i64 0, .int .i64 0, .slice none 0 0, .int .i64 0, .int .i64 0, .slice none 0 0] 34 by rw [hWn, hgp]; exact Bx.new _ _ _)
              have Hkw := Lib.hid (show lW ≤ kw by rw [hgp]; exact HBW.out)
              replace HBW := Lib.hid (Nat.le_trans HBW.out hb.size)
              rw [← hWn]
              (try rw [← hgp])
              clear hWn hgp
              replace BA := Lib.hid (BA.out.keep hb)
              replace BLp := Lib.hid (BLp.out.keep hb)
              replace Os := Lib.hid (Os.out.keep hb)
              replace Op := Lib.hid (Op.out.keep hb)
              replace HSZ := Lib.hid (Nat.le_trans HSZ.out hb.size)
              replace B := Lib.hid (below_next B.out hb)
              clear hb
              refine hK.out _ _ ?_ (fun hHeld => ?_)
              · (try dsimp only)
                exact ⟨BA.out.cell rfl, BA.out.cell rfl, BA.out.cell rfl, BLp.out.cell rfl, BLp.out.cell rfl⟩
              clear hK K
              (try simp only [Act.put, List.setIfInBounds_toArray, List.set_cons_zero, List.set_cons_succ])
              refine wpAnyH_ready (rs := [7]) (by kernel_rfl) (by simp) ?_
              refine AllReadyH.cons (o := ⟨_, _, _, _, _, _⟩) rfl (fun K hK => ?_) AllReadyH.nil
              go_simp
              (go_at_call 33; refine (spec_MakePuzzle W H _ _ _ xs a b _ _ _ ps q _ (by exact Os.out.rd) (by exact Op.out.rd) (Nat.le_refl _)).mono ?_; rintro e wc ⟨AW, nW, cW, AW2, nW2, cW2, rfl, o1, o2, hap, hb⟩; (repeat (first | replace hb := below_undrew hb | replace hb := below_undrewN hb)); have On1 := Lib.hid (o1.lower (show lW ≤ wt.heap.size from HBW.out)); have On2 := Lib.hid (o2.lower (show lW ≤ wt.heap.size from HBW.out)); have HAPn := Lib.hid hap; have HNE1 := Lib.hid (show ∀ y, AW = some y → y.block ≠ kw from fun y hy => by have h8 : wt.heap.size ≤ y.block := (o1.span y hy).1; have h9 := BN.out.lt; omega); have HNE2 := Lib.hid (show ∀ y, AW2 = some y → y.block ≠ kw from fun y hy => by have h8 : wt.heap.size ≤ y.block := (o2.span y hy).1; have h9 := BN.out.lt; omega); replace HBW := Lib.hid (Nat.le_trans HBW.out hb.size); clear o1 o2 hap; replace BA := Lib.hid (BA.out.keep hb); replace BLp := Lib.hid (BLp.out.keep hb); replace BN := Lib.hid (BN.out.keep hb); replace HSZ := Lib.hid (Nat.le_trans HSZ.out hb.size); replace B := Lib.hid (below_next B.out hb); clear hb)
              (try go_wp2_with fail)
              refine hK.out _ _ ?_ (fun hHeld => ?_)
              · (try dsimp only)
                exact ⟨BA.out.cell rfl, BA.out.cell rfl, BA.out.cell rfl, BLp.out.cell rfl, BLp.out.cell rfl⟩
              clear hK K
              (try simp only [Act.put, List.setIfInBounds_toArray, List.set_cons_zero, List.set_cons_succ])
              refine wpAnyH_take (i := 8) (oi := ⟨_, _, _, _, _, _⟩) (v := ?_) rfl (by kernel_rfl) (by kernel_rfl) (by kernel_rfl) (fun _ _ _ h => h) (Or.inl ⟨by rfl, ?_⟩) (by assumption) ?_
              rotate_left
              · intro w hSw
                (try dsimp only at hSw)
                go_simp
                (try with_reducible rfl)
              (try simp only [Act.put, List.setIfInBounds_toArray, List.set_cons_zero, List.set_cons_succ])
              refine wpAnyH_take (i := 9) (oi := ⟨_, _, _, _, _, _⟩) (v := ?_) rfl (by kernel_rfl) (by kernel_rfl) (by kernel_rfl) (fun _ _ _ h => h) (Or.inl ⟨by rfl, ?_⟩) (by assumption) ?_
              rotate_left
              · intro w hSw
                (try dsimp only at hSw)
                go_simp
                (try with_reducible rfl)
              (try simp only [Act.put, List.setIfInBounds_toArray, List.set_cons_zero, List.set_cons_succ])
              refine wpAnyH_take (i := 10) (oi := ⟨_, _, _, _, _, _⟩) (v := ?_) rfl (by kernel_rfl) (by kernel_rfl) (by kernel_rfl) (fun _ _ _ h => h) (Or.inl ⟨by rfl, ?_⟩) (by assumption) ?_
              rotate_left
              · intro w hSw
                (try dsimp only at hSw)
                go_simp
                (try with_reducible rfl)
              (try simp only [Act.put, List.setIfInBounds_toArray, List.set_cons_zero, List.set_cons_succ])
              refine wpAnyH_ready (rs := [12]) (by kernel_rfl) (by simp) ?_
              refine AllReadyH.cons (o := ⟨_, _, _, _, _, _⟩) rfl (fun K hK => ?_) AllReadyH.nil
              have z0 : wc.cell? ⟨kw, 0, none⟩ = some (.int .i64 0) := BN.out.cell rfl
              have z1 : wc.cell? ⟨kw, 1, none⟩ = some (.int .i64 0) := BN.out.cell rfl
              have z2 : wc.cell? ⟨kw, 2, none⟩ = some (.slice none 0 0) := BN.out.cell rfl
              have z3 : wc.cell? ⟨kw, 3, none⟩ = some (.int .i64 0) := BN.out.cell rfl
              have z4 : wc.cell? ⟨kw, 4, none⟩ = some (.int .i64 0) := BN.out.cell rfl
              have z5 : wc.cell? ⟨kw, 5, none⟩ = some (.slice none 0 0) := BN.out.cell rfl
              have f0 : wc.frozen? ⟨kw, 0, none⟩ = false := BN.out.frozen 0
              have f1 : wc.frozen? ⟨kw, 1, none⟩ = false := BN.out.frozen 1
              have f2 : wc.frozen? ⟨kw, 2, none⟩ = false := BN.out.frozen 2
              have f3 : wc.frozen? ⟨kw, 3, none⟩ = false := BN.out.frozen 3
              have f4 : wc.frozen? ⟨kw, 4, none⟩ = false := BN.out.frozen 4
              have f5 : wc.frozen? ⟨kw, 5, none⟩ = false := BN.out.frozen 5
              go_simp
              obtain ⟨wq, hWn⟩ : ∃ W5, W5 = (((((wc.setCell ⟨kw, 0, none⟩ (.int .i64 (zi (MakePuzzle_ok W H xs a b ps q) W))).setCell ⟨kw, 1, none⟩ (.int .i64 (zi (MakePuzzle_ok W H xs a b ps q) H))).setCell ⟨kw, 2, none⟩ (.slice AW nW cW)).setCell ⟨kw, 3, none⟩ (.int .i64 (zi (MakePuzzle_ok W H xs a b ps q) a))).setCell ⟨kw, 4, none⟩ (.int .i64 (zi (MakePuzzle_ok W H xs a b ps q) b))).setCell ⟨kw, 5, none⟩ (.slice AW2 nW2 cW2) := ⟨_, rfl⟩
              have hgr : wc.grownBy wq (some (kw)) := by rw [hWn]; exact (grown_next (grown_next (grown_next (grown_next (grown_next (grownSet1 wc ⟨kw, 0, none⟩ (.int .i64 (zi (MakePuzzle_ok W H xs a b ps q) W))) (grownSet1 _ ⟨kw, 1, none⟩ (.int .i64 (zi (MakePuzzle_ok W H xs a b ps q) H)))) (grownSet1 _ ⟨kw, 2, none⟩ (.slice AW nW cW))) (grownSet1 _ ⟨kw, 3, none⟩ (.int .i64 (zi (MakePuzzle_ok W H xs a b ps q) a)))) (grownSet1 _ ⟨kw, 4, none⟩ (.int .i64 (zi (MakePuzzle_ok W H xs a b ps q) b)))) (grownSet1 _ ⟨kw, 5, none⟩ (.slice AW2 nW2 cW2)))
              replace BN := Lib.hid (show Bx wq (kw) #[.int .i64 (zi (MakePuzzle_ok W H xs a b ps q) W), .int .i64 (zi (MakePuzzle_ok W H xs a b ps q) H), .slice AW nW cW, .int .i64 (zi (MakePuzzle_ok W H xs a b ps q) a), .int .i64 (zi (MakePuzzle_ok W H xs a b ps q) b), .slice AW2 nW2 cW2] 34 by rw [hWn]; exact ((((((BN.out.set 0 (.int .i64 (zi (MakePuzzle_ok W H xs a b ps q) W))).set 1 (.int .i64 (zi (MakePuzzle_ok W H xs a b ps q) H))).set 2 (.slice AW nW cW)).set 3 (.int .i64 (zi (MakePuzzle_ok W H xs a b ps q) a))).set 4 (.int .i64 (zi (MakePuzzle_ok W H xs a b ps q) b))).set 5 (.slice AW2 nW2 cW2)))
              replace BA := Lib.hid (BA.out.grown hgr (by have := VBA.out; have := Hkw.out; simp; omega))
              replace BLp := Lib.hid (BLp.out.grown hgr (by have := VBLp.out; have := Hkw.out; simp; omega))
              replace On1 := Lib.hid (On1.out.other hgr (fun a9 ha9 he => by injection he with he; exact HNE1.out a9 ha9 he))
              replace On2 := Lib.hid (On2.out.other hgr (fun a9 ha9 he => by injection he with he; exact HNE2.out a9 ha9 he))
              replace HSZ := Lib.hid (Nat.le_trans HSZ.out hgr.size)
              replace B := Lib.hid (B.out.grown hgr B.out.size (fun g9 h9 => by injection h9 with h9; have := Hkw.out; have := HBBW.out; omega))
              replace HBW := Lib.hid (Nat.le_trans HBW.out hgr.size)
              rw [← hWn]
              clear hWn hgr z0 f0 z1 f1 z2 f2 z3 f3 z4 f4 z5 f5
              refine hK.out _ _ ?_ (fun hHeld => ?_)
              · (try dsimp only)
                exact ⟨BA.out.cell rfl, BA.out.cell rfl, BA.out.cell rfl, BLp.out.cell rfl, BLp.out.cell rfl⟩
              clear hK K
              (try simp only [Act.put, List.setIfInBounds_toArray, List.set_cons_zero, List.set_cons_succ])
              refine wpAnyH_take (i := 13) (oi := ⟨_, _, _, _, _, _⟩) (v := ?_) rfl (by kernel_rfl) (by kernel_rfl) (by kernel_rfl) (fun _ _ _ h => h) (Or.inl ⟨by rfl, ?_⟩) (by assumption) ?_
              rotate_left
              · intro w hSw
                (try dsimp only at hSw)
                go_simp
                (try with_reducible rfl)
              (try simp only [Act.put, List.setIfInBounds_toArray, List.set_cons_zero, List.set_cons_succ])
              refine wpAnyH_done (by kernel_rfl) ?_ _
              clear hHeld
              (try go_wp2_with fail)
              go_meet
              exact ⟨kw, AW, nW, cW, AW2, nW2, cW2, rfl, rfl, BA.out, BLp.out, On1.out, On2.out, HAPn.out, HNE1.out, HNE2.out, Hkw.out, HBW.out, BN.out, HSZ.out, B.out⟩
          · go_simp
            obtain ⟨wt, hWn⟩ : ∃ W5, W5 = wl.alloc (.cells #[.int .i64 0, .int .i64 0, .slice none 0 0, .int .i64 0, .int .i64 0, .slice none 0 0] 34) := ⟨_, rfl⟩
            have hb : Below wl.heap.size wl wt := by rw [hWn]; exact below_new (Below.refl _ _) _
            obtain ⟨kw, hgp⟩ : ∃ gp, gp = wl.heap.size := ⟨_, rfl⟩
            have BN := Lib.hid (show Bx wt kw #[.int .i64 0, .int .i64 0, .slice none 0 0, .int .i64 0, .int .i64 0, .slice none 0 0] 34 by rw [hWn, hgp]; exact Bx.new _ _ _)
            have Hkw := Lib.hid (show lW ≤ kw by rw [hgp]; exact HBW.out)
            replace HBW := Lib.hid (Nat.le_trans HBW.out hb.size)
            rw [← hWn]
            (try rw [← hgp])
            clear hWn hgp
            replace BA := Lib.hid (BA.out.keep hb)
            replace BLp := Lib.hid (BLp.out.keep hb)
            replace Os := Lib.hid (Os.out.keep hb)
            replace HSZ := Lib.hid (Nat.le_trans HSZ.out hb.size)
            replace B := Lib.hid (below_next B.out hb)
            clear hb
            refine hK.out _ _ ?_ (fun hHeld => ?_)
            · (try dsimp only)
              exact ⟨BA.out.cell rfl, BA.out.cell rfl, BA.out.cell rfl, BLp.out.cell rfl, BLp.out.cell rfl⟩
            clear hK K
            (try simp only [Act.put, List.setIfInBounds_toArray, List.set_cons_zero, List.set_cons_succ])
            refine wpAnyH_ready (rs := [5]) (by kernel_rfl) (by simp) ?_
            refine AllReadyH.cons (o := ⟨_, _, _, _, _, _⟩) rfl (fun K hK => ?_) AllReadyH.nil
            go_simp
            (go_at_call 19; refine (toIntS_any A3 m3 c3 ps _ (by exact (RQ0.out.keep B.out).drew1) (by have := HQ9.out; omega)).mono ?_; rintro e wz ⟨gp, rfl, own, hb⟩; (repeat (first | replace hb := below_undrew hb | replace hb := below_undrewN hb)); have Op := Lib.hid own; replace HBW := Lib.hid (Nat.le_trans HBW.out hb.size); clear own; replace BA := Lib.hid (BA.out.keep hb); replace BLp := Lib.hid (BLp.out.keep hb); replace Os := Lib.hid (Os.out.keep hb); replace BN := Lib.hid (BN.out.keep hb); replace HSZ := Lib.hid (Nat.le_trans HSZ.out hb.size); replace B := Lib.hid (below_next B.out hb); clear hb)
            (try go_wp2_with fail)
            refine hK.out _ _ ?_ (fun hHeld => ?_)
            · (try dsimp only)
              exact ⟨BA.out.cell rfl, BA.out.cell rfl, BA.out.cell rfl, BLp.out.cell rfl, BLp.out.cell rfl⟩
            clear hK K
            (try simp only [Act.put, List.setIfInBounds_toArray, List.set_cons_zero, List.set_cons_succ])
            refine wpAnyH_ready (rs := [7]) (by kernel_rfl) (by simp) ?_
            refine AllReadyH.cons (o := ⟨_, _, _, _, _, _⟩) rfl (fun K hK => ?_) AllReadyH.nil
            go_simp
            (go_at_call 33; refine (spec_MakePuzzle W H _ _ _ xs a b _ _ _ ps q _ (by exact Os.out.rd) (by exact Op.out.rd) (Nat.le_refl _)).mono ?_; rintro e wc ⟨AW, nW, cW, AW2, nW2, cW2, rfl, o1, o2, hap, hb⟩; (repeat (first | replace hb := below_undrew hb | replace hb := below_undrewN hb)); have On1 := Lib.hid (o1.lower (show lW ≤ wz.heap.size from HBW.out)); have On2 := Lib.hid (o2.lower (show lW ≤ wz.heap.size from HBW.out)); have HAPn := Lib.hid hap; have HNE1 := Lib.hid (show ∀ y, AW = some y → y.block ≠ kw from fun y hy => by have h8 : wz.heap.size ≤ y.block := (o1.span y hy).1; have h9 := BN.out.lt; omega); have HNE2 := Lib.hid (show ∀ y, AW2 = some y → y.block ≠ kw from fun y hy => by have h8 : wz.heap.size ≤ y.block := (o2.span y hy).1; have h9 := BN.out.lt; omega); replace HBW := Lib.hid (Nat.le_trans HBW.out hb.size); clear o1 o2 hap; replace BA := Lib.hid (BA.out.keep hb); replace BLp := Lib.hid (BLp.out.keep hb); replace BN := Lib.hid (BN.out.keep hb); replace HSZ := Lib.hid (Nat.le_trans HSZ.out hb.size); replace B := Lib.hid (below_next B.out hb); clear hb)
            (try go_wp2_with fail)
            refine hK.out _ _ ?_ (fun hHeld => ?_)
            · (try dsimp only)
              exact ⟨BA.out.cell rfl, BA.out.cell rfl, BA.out.cell rfl, BLp.out.cell rfl, BLp.out.cell rfl⟩
            clear hK K
            (try simp only [Act.put, List.setIfInBounds_toArray, List.set_cons_zero, List.set_cons_succ])
            refine wpAnyH_take (i := 8) (oi := ⟨_, _, _, _, _, _⟩) (v := ?_) rfl (by kernel_rfl) (by kernel_rfl) (by kernel_rfl) (fun _ _ _ h => h) (Or.inl ⟨by rfl, ?_⟩) (by assumption) ?_
            rotate_left
            · intro w hSw
              (try dsimp only at hSw)
              go_simp
              (try with_reducible rfl)
            (try simp only [Act.put, List.setIfInBounds_toArray, List.set_cons_zero, List.set_cons_succ])
            refine wpAnyH_take (i := 9) (oi := ⟨_, _, _, _, _, _⟩) (v := ?_) rfl (by kernel_rfl) (by kernel_rfl) (by kernel_rfl) (fun _ _ _ h => h) (Or.inl ⟨by rfl, ?_⟩) (by assumption) ?_
            rotate_left
            · intro w hSw
              (try dsimp only at hSw)
              go_simp
              (try with_reducible rfl)
            (try simp only [Act.put, List.setIfInBounds_toArray, List.set_cons_zero, List.set_cons_succ])
            refine wpAnyH_take (i := 10) (oi := ⟨_, _, _, _, _, _⟩) (v := ?_) rfl (by kernel_rfl) (by kernel_rfl) (by kernel_rfl) (fun _ _ _ h => h) (Or.inl ⟨by rfl, ?_⟩) (by assumption) ?_
            rotate_left
            · intro w hSw
              (try dsimp only at hSw)
              go_simp
              (try with_reducible rfl)
            (try simp only [Act.put, List.setIfInBounds_toArray, List.set_cons_zero, List.set_cons_succ])
            refine wpAnyH_ready (rs := [12]) (by kernel_rfl) (by simp) ?_
            refine AllReadyH.cons (o := ⟨_, _, _, _, _, _⟩) rfl (fun K hK => ?_) AllReadyH.nil
            have z0 : wc.cell? ⟨kw, 0, none⟩ = some (.int .i64 0) := BN.out.cell rfl
            have z1 : wc.cell? ⟨kw, 1, none⟩ = some (.int .i64 0) := BN.out.cell rfl
            have z2 : wc.cell? ⟨kw, 2, none⟩ = some (.slice none 0 0) := BN.out.cell rfl
            have z3 : wc.cell? ⟨kw, 3, none⟩ = some (.int .i64 0) := BN.out.cell rfl
            have z4 : wc.cell? ⟨kw, 4, none⟩ = some (.int .i64 0) := BN.out.cell rfl
            have z5 : wc.cell? ⟨kw, 5, none⟩ = some (.slice none 0 0) := BN.out.cell rfl
            have f0 : wc.frozen? ⟨kw, 0, none⟩ = false := BN.out.frozen 0
            have f1 : wc.frozen? ⟨kw, 1, none⟩ = false := BN.out.frozen 1
            have f2 : wc.frozen? ⟨kw, 2, none⟩ = false := BN.out.frozen 2
            have f3 : wc.frozen? ⟨kw, 3, none⟩ = false := BN.out.frozen 3
            have f4 : wc.frozen? ⟨kw, 4, none⟩ = false := BN.out.frozen 4
            have f5 : wc.frozen? ⟨kw, 5, none⟩ = false := BN.out.frozen 5
            go_simp
            obtain ⟨wq, hWn⟩ : ∃ W5, W5 = (((((wc.setCell ⟨kw, 0, none⟩ (.int .i64 (zi (MakePuzzle_ok W H xs a b ps q) W))).setCell ⟨kw, 1, none⟩ (.int .i64 (zi (MakePuzzle_ok W H xs a b ps q) H))).setCell ⟨kw, 2, none⟩ (.slice AW nW cW)).setCell ⟨kw, 3, none⟩ (.int .i64 (zi (MakePuzzle_ok W H xs a b ps q) a))).setCell ⟨kw, 4, none⟩ (.int .i64 (zi (MakePuzzle_ok W H xs a b ps q) b))).setCell ⟨kw, 5, none⟩ (.slice AW2 nW2 cW2) := ⟨_, rfl⟩
            have hgr : wc.grownBy wq (some (kw)) := by rw [hWn]; exact (grown_next (grown_next (grown_next (grown_next (grown_next (grownSet1 wc ⟨kw, 0, none⟩ (.int .i64 (zi (MakePuzzle_ok W H xs a b ps q) W))) (grownSet1 _ ⟨kw, 1, none⟩ (.int .i64 (zi (MakePuzzle_ok W H xs a b ps q) H)))) (grownSet1 _ ⟨kw, 2, none⟩ (.slice AW nW cW))) (grownSet1 _ ⟨kw, 3, none⟩ (.int .i64 (zi (MakePuzzle_ok W H xs a b ps q) a)))) (grownSet1 _ ⟨kw, 4, none⟩ (.int .i64 (zi (MakePuzzle_ok W H xs a b ps q) b)))) (grownSet1 _ ⟨kw, 5, none⟩ (.slice AW2 nW2 cW2)))
            replace BN := Lib.hid (show Bx wq (kw) #[.int .i64 (zi (MakePuzzle_ok W H xs a b ps q) W), .int .i64 (zi (MakePuzzle_ok W H xs a b ps q) H), .slice AW nW cW, .int .i64 (zi (MakePuzzle_ok W H xs a b ps q) a), .int .i64 (zi (MakePuzzle_ok W H xs a b ps q) b), .slice AW2 nW2 cW2] 34 by rw [hWn]; exact ((((((BN.out.set 0 (.int .i64 (zi (MakePuzzle_ok W H xs a b ps q) W))).set 1 (.int .i64 (zi (MakePuzzle_ok W H xs a b ps q) H))).set 2 (.slice AW nW cW)).set 3 (.int .i64 (zi (MakePuzzle_ok W H xs a b ps q) a))).set 4 (.int .i64 (zi (MakePuzzle_ok W H xs a b ps q) b))).set 5 (.slice AW2 nW2 cW2)))
            replace BA := Lib.hid (BA.out.grown hgr (by have := VBA.out; have := Hkw.out; simp; omega))
            replace BLp := Lib.hid (BLp.out.grown hgr (by have := VBLp.out; have := Hkw.out; simp; omega))
            replace On1 := Lib.hid (On1.out.other hgr (fun a9 ha9 he => by injection he with he; exact HNE1.out a9 ha9 he))
            replace On2 := Lib.hid (On2.out.other hgr (fun a9 ha9 he => by injection he with he; exact HNE2.out a9 ha9 he))
            replace HSZ := Lib.hid (Nat.le_trans HSZ.out hgr.size)
            replace B := Lib.hid (B.out.grown hgr B.out.size (fun g9 h9 => by injection h9 with h9; have := Hkw.out; have := HBBW.out; omega))
            replace HBW := Lib.hid (Nat.le_trans HBW.out hgr.size)
            rw [← hWn]
            clear hWn hgr z0 f0 z1 f1 z2 f2 z3 f3 z4 f4 z5 f5
            refine hK.out _ _ ?_ (fun hHeld => ?_)
            · (try dsimp only)
              exact ⟨BA.out.cell rfl, BA.out.cell rfl, BA.out.cell rfl, BLp.out.cell rfl, BLp.out.cell rfl⟩
            clear hK K
            (try simp only [Act.put, List.setIfInBounds_toArray, List.set_cons_zero, List.set_cons_succ])
            refine wpAnyH_take (i := 13) (oi := ⟨_, _, _, _, _, _⟩) (v := ?_) rfl (by kernel_rfl) (by kernel_rfl) (by kernel_rfl) (fun _ _ _ h => h) (Or.inl ⟨by rfl, ?_⟩) (by assumption) ?_
            rotate_left
            · intro w hSw
              (try dsimp only at hSw)
              go_simp
              (try with_reducible rfl)
            (try simp only [Act.put, List.setIfInBounds_toArray, List.set_cons_zero, List.set_cons_succ])
            refine wpAnyH_done (by kernel_rfl) ?_ _
            clear hHeld
            (try go_wp2_with fail)
            go_meet
            exact ⟨kw, AW, nW, cW, AW2, nW2, cW2, rfl, rfl, BA.out, BLp.out, On1.out, On2.out, HAPn.out, HNE1.out, HNE2.out, Hkw.out, HBW.out, BN.out, HSZ.out, B.out⟩
        · go_simp
          obtain ⟨wt, hWn⟩ : ∃ W5, W5 = wy.alloc (.cells #[.int .i64 0, .int .i64 0, .slice none 0 0, .int .i64 0, .int .i64 0, .slice none 0 0] 34) := ⟨_, rfl⟩
          have hb : Below wy.heap.size wy wt := by rw [hWn]; exact below_new (Below.refl _ _) _
          obtain ⟨kw, hgp⟩ : ∃ gp, gp = wy.heap.size := ⟨_, rfl⟩
          have BN := Lib.hid (show Bx wt kw #[.int .i64 0, .int .i64 0, .slice none 0 0, .int .i64 0, .int .i64 0, .slice none 0 0] 34 by rw [hWn, hgp]; exact Bx.new _ _ _)
          have Hkw := Lib.hid (show lW ≤ kw by rw [hgp]; exact HBW.out)
          replace HBW := Lib.hid (Nat.le_trans HBW.out hb.size)
          rw [← hWn]
          (try rw [← hgp])
          clear hWn hgp
          replace BA := Lib.hid (BA.out.keep hb)
          replace BLp := Lib.hid (BLp.out.keep hb)
          replace Os := Lib.hid (Os.out.keep hb)
          replace HSZ := Lib.hid (Nat.le_trans HSZ.out hb.size)
          replace B := Lib.hid (below_next B.out hb)
          clear hb
          refine hK.out _ _ ?_ (fun hHeld => ?_)
          · (try dsimp only)
            exact ⟨BA.out.cell rfl, BA.out.cell rfl, BA.out.cell rfl, BLp.out.cell rfl, BLp.out.cell rfl⟩
          clear hK K
          (try simp only [Act.put, List.setIfInBounds_toArray, List.set_cons_zero, List.set_cons_succ])
          refine wpAnyH_ready (rs := [3]) (by kernel_rfl) (by simp) ?_
          refine AllReadyH.cons (o := ⟨_, _, _, _, _, _⟩) rfl (fun K hK => ?_) AllReadyH.nil
          go_simp
          (go_at_call 35; refine (toLeaper_any a b _).mono ?_; rintro e wl ⟨rfl, hb⟩; (repeat (first | replace hb := below_undrew hb | replace hb := below_undrewN hb)); replace HBW := Lib.hid (Nat.le_trans HBW.out hb.size); replace BA := Lib.hid (BA.out.keep hb); replace BLp := Lib.hid (BLp.out.keep hb); replace Os := Lib.hid (Os.out.keep hb); replace BN := Lib.hid (BN.out.keep hb); replace HSZ := Lib.hid (Nat.le_trans HSZ.out hb.size); replace B := Lib.hid (below_next B.out hb); clear hb)
          (try go_wp2_with fail)
          refine hK.out _ _ ?_ (fun hHeld => ?_)
          · (try dsimp only)
            exact ⟨BA.out.cell rfl, BA.out.cell rfl, BA.out.cell rfl, BLp.out.cell rfl, BLp.out.cell rfl⟩
          clear hK K
          (try simp only [Act.put, List.setIfInBounds_toArray, List.set_cons_zero, List.set_cons_succ])
          refine wpAnyH_ready (rs := [5]) (by kernel_rfl) (by simp) ?_
          refine AllReadyH.cons (o := ⟨_, _, _, _, _, _⟩) rfl (fun K hK => ?_) AllReadyH.nil
          go_simp
          (go_at_call 19; refine (toIntS_any A3 m3 c3 ps _ (by exact (RQ0.out.keep B.out).drew1) (by have := HQ9.out; omega)).mono ?_; rintro e wz ⟨gp, rfl, own, hb⟩; (repeat (first | replace hb := below_undrew hb | replace hb := below_undrewN hb)); have Op := Lib.hid own; replace HBW := Lib.hid (Nat.le_trans HBW.out hb.size); clear own; replace BA := Lib.hid (BA.out.keep hb); replace BLp := Lib.hid (BLp.out.keep hb); replace Os := Lib.hid (Os.out.keep hb); replace BN := Lib.hid (BN.out.keep hb); replace HSZ := Lib.hid (Nat.le_trans HSZ.out hb.size); replace B := Lib.hid (below_next B.out hb); clear hb)
          (try go_wp2_with fail)
          refine hK.out _ _ ?_ (fun hHeld => ?_)
          · (try dsimp only)
            exact ⟨BA.out.cell rfl, BA.out.cell rfl, BA.out.cell rfl, BLp.out.cell rfl, BLp.out.cell rfl⟩
          clear hK K
          (try simp only [Act.put, List.setIfInBounds_toArray, List.set_cons_zero, List.set_cons_succ])
          refine wpAnyH_ready (rs := [7]) (by kernel_rfl) (by simp) ?_
          refine AllReadyH.cons (o := ⟨_, _, _, _, _, _⟩) rfl (fun K hK => ?_) AllReadyH.nil
          go_simp
          (go_at_call 33; refine (spec_MakePuzzle W H _ _ _ xs a b _ _ _ ps q _ (by exact Os.out.rd) (by exact Op.out.rd) (Nat.le_refl _)).mono ?_; rintro e wc ⟨AW, nW, cW, AW2, nW2, cW2, rfl, o1, o2, hap, hb⟩; (repeat (first | replace hb := below_undrew hb | replace hb := below_undrewN hb)); have On1 := Lib.hid (o1.lower (show lW ≤ wz.heap.size from HBW.out)); have On2 := Lib.hid (o2.lower (show lW ≤ wz.heap.size from HBW.out)); have HAPn := Lib.hid hap; have HNE1 := Lib.hid (show ∀ y, AW = some y → y.block ≠ kw from fun y hy => by have h8 : wz.heap.size ≤ y.block := (o1.span y hy).1; have h9 := BN.out.lt; omega); have HNE2 := Lib.hid (show ∀ y, AW2 = some y → y.block ≠ kw from fun y hy => by have h8 : wz.heap.size ≤ y.block := (o2.span y hy).1; have h9 := BN.out.lt; omega); replace HBW := Lib.hid (Nat.le_trans HBW.out hb.size); clear o1 o2 hap; replace BA := Lib.hid (BA.out.keep hb); replace BLp := Lib.hid (BLp.out.keep hb); replace BN := Lib.hid (BN.out.keep hb); replace HSZ := Lib.hid (Nat.le_trans HSZ.out hb.size); replace B := Lib.hid (below_next B.out hb); clear hb)
          (try go_wp2_with fail)
          refine hK.out _ _ ?_ (fun hHeld => ?_)
          · (try dsimp only)
            exact ⟨BA.out.cell rfl, BA.out.cell rfl, BA.out.cell rfl, BLp.out.cell rfl, BLp.out.cell rfl⟩
          clear hK K
          (try simp only [Act.put, List.setIfInBounds_toArray, List.set_cons_zero, List.set_cons_succ])
          refine wpAnyH_take (i := 8) (oi := ⟨_, _, _, _, _, _⟩) (v := ?_) rfl (by kernel_rfl) (by kernel_rfl) (by kernel_rfl) (fun _ _ _ h => h) (Or.inl ⟨by rfl, ?_⟩) (by assumption) ?_
          rotate_left
          · intro w hSw
            (try dsimp only at hSw)
            go_simp
            (try with_reducible rfl)
          (try simp only [Act.put, List.setIfInBounds_toArray, List.set_cons_zero, List.set_cons_succ])
          refine wpAnyH_take (i := 9) (oi := ⟨_, _, _, _, _, _⟩) (v := ?_) rfl (by kernel_rfl) (by kernel_rfl) (by kernel_rfl) (fun _ _ _ h => h) (Or.inl ⟨by rfl, ?_⟩) (by assumption) ?_
          rotate_left
          · intro w hSw
            (try dsimp only at hSw)
            go_simp
            (try with_reducible rfl)
          (try simp only [Act.put, List.setIfInBounds_toArray, List.set_cons_zero, List.set_cons_succ])
          refine wpAnyH_take (i := 10) (oi := ⟨_, _, _, _, _, _⟩) (v := ?_) rfl (by kernel_rfl) (by kernel_rfl) (by kernel_rfl) (fun _ _ _ h => h) (Or.inl ⟨by rfl, ?_⟩) (by assumption) ?_
          rotate_left
          · intro w hSw
            (try dsimp only at hSw)
            go_simp
            (try with_reducible rfl)
          (try simp only [Act.put, List.setIfInBounds_toArray, List.set_cons_zero, List.set_cons_succ])
          refine wpAnyH_ready (rs := [12]) (by kernel_rfl) (by simp) ?_
          refine AllReadyH.cons (o := ⟨_, _, _, _, _, _⟩) rfl (fun K hK => ?_) AllReadyH.nil
          have z0 : wc.cell? ⟨kw, 0, none⟩ = some (.int .i64 0) := BN.out.cell rfl
          have z1 : wc.cell? ⟨kw, 1, none⟩ = some (.int .i64 0) := BN.out.cell rfl
          have z2 : wc.cell? ⟨kw, 2, none⟩ = some (.slice none 0 0) := BN.out.cell rfl
          have z3 : wc.cell? ⟨kw, 3, none⟩ = some (.int .i64 0) := BN.out.cell rfl
          have z4 : wc.cell? ⟨kw, 4, none⟩ = some (.int .i64 0) := BN.out.cell rfl
          have z5 : wc.cell? ⟨kw, 5, none⟩ = some (.slice none 0 0) := BN.out.cell rfl
          have f0 : wc.frozen? ⟨kw, 0, none⟩ = false := BN.out.frozen 0
          have f1 : wc.frozen? ⟨kw, 1, none⟩ = false := BN.out.frozen 1
          have f2 : wc.frozen? ⟨kw, 2, none⟩ = false := BN.out.frozen 2
          have f3 : wc.frozen? ⟨kw, 3, none⟩ = false := BN.out.frozen 3
          have f4 : wc.frozen? ⟨kw, 4, none⟩ = false := BN.out.frozen 4
          have f5 : wc.frozen? ⟨kw, 5, none⟩ = false := BN.out.frozen 5
          go_simp
          obtain ⟨wq, hWn⟩ : ∃ W5, W5 = (((((wc.setCell ⟨kw, 0, none⟩ (.int .i64 (zi (MakePuzzle_ok W H xs a b ps q) W))).setCell ⟨kw, 1, none⟩ (.int .i64 (zi (MakePuzzle_ok W H xs a b ps q) H))).setCell ⟨kw, 2, none⟩ (.slice AW nW cW)).setCell ⟨kw, 3, none⟩ (.int .i64 (zi (MakePuzzle_ok W H xs a b ps q) a))).setCell ⟨kw, 4, none⟩ (.int .i64 (zi (MakePuzzle_ok W H xs a b ps q) b))).setCell ⟨kw, 5, none⟩ (.slice AW2 nW2 cW2) := ⟨_, rfl⟩
          have hgr : wc.grownBy wq (some (kw)) := by rw [hWn]; exact (grown_next (grown_next (grown_next (grown_next (grown_next (grownSet1 wc ⟨kw, 0, none⟩ (.int .i64 (zi (MakePuzzle_ok W H xs a b ps q) W))) (grownSet1 _ ⟨kw, 1, none⟩ (.int .i64 (zi (MakePuzzle_ok W H xs a b ps q) H)))) (grownSet1 _ ⟨kw, 2, none⟩ (.slice AW nW cW))) (grownSet1 _ ⟨kw, 3, none⟩ (.int .i64 (zi (MakePuzzle_ok W H xs a b ps q) a)))) (grownSet1 _ ⟨kw, 4, none⟩ (.int .i64 (zi (MakePuzzle_ok W H xs a b ps q) b)))) (grownSet1 _ ⟨kw, 5, none⟩ (.slice AW2 nW2 cW2)))
          replace BN := Lib.hid (show Bx wq (kw) #[.int .i64 (zi (MakePuzzle_ok W H xs a b ps q) W), .int .i64 (zi (MakePuzzle_ok W H xs a b ps q) H), .slice AW nW cW, .int .i64 (zi (MakePuzzle_ok W H xs a b ps q) a), .int .i64 (zi (MakePuzzle_ok W H xs a b ps q) b), .slice AW2 nW2 cW2] 34 by rw [hWn]; exact ((((((BN.out.set 0 (.int .i64 (zi (MakePuzzle_ok W H xs a b ps q) W))).set 1 (.int .i64 (zi (MakePuzzle_ok W H xs a b ps q) H))).set 2 (.slice AW nW cW)).set 3 (.int .i64 (zi (MakePuzzle_ok W H xs a b ps q) a))).set 4 (.int .i64 (zi (MakePuzzle_ok W H xs a b ps q) b))).set 5 (.slice AW2 nW2 cW2)))
          replace BA := Lib.hid (BA.out.grown hgr (by have := VBA.out; have := Hkw.out; simp; omega))
          replace BLp := Lib.hid (BLp.out.grown hgr (by have := VBLp.out; have := Hkw.out; simp; omega))
          replace On1 := Lib.hid (On1.out.other hgr (fun a9 ha9 he => by injection he with he; exact HNE1.out a9 ha9 he))
          replace On2 := Lib.hid (On2.out.other hgr (fun a9 ha9 he => by injection he with he; exact HNE2.out a9 ha9 he))
          replace HSZ := Lib.hid (Nat.le_trans HSZ.out hgr.size)
          replace B := Lib.hid (B.out.grown hgr B.out.size (fun g9 h9 => by injection h9 with h9; have := Hkw.out; have := HBBW.out; omega))
          replace HBW := Lib.hid (Nat.le_trans HBW.out hgr.size)
          rw [← hWn]
          clear hWn hgr z0 f0 z1 f1 z2 f2 z3 f3 z4 f4 z5 f5
          refine hK.out _ _ ?_ (fun hHeld => ?_)
          · (try dsimp only)
            exact ⟨BA.out.cell rfl, BA.out.cell rfl, BA.out.cell rfl, BLp.out.cell rfl, BLp.out.cell rfl⟩
          clear hK K
          (try simp only [Act.put, List.setIfInBounds_toArray, List.set_cons_zero, List.set_cons_succ])
          refine wpAnyH_take (i := 13) (oi := ⟨_, _, _, _, _, _⟩) (v := ?_) rfl (by kernel_rfl) (by kernel_rfl) (by kernel_rfl) (fun _ _ _ h => h) (Or.inl ⟨by rfl, ?_⟩) (by assumption) ?_
          rotate_left
          · intro w hSw
            (try dsimp only at hSw)
            go_simp
            (try with_reducible rfl)
          (try simp only [Act.put, List.setIfInBounds_toArray, List.set_cons_zero, List.set_cons_succ])
          refine wpAnyH_done (by kernel_rfl) ?_ _
          clear hHeld
          (try go_wp2_with fail)
          go_meet
          exact ⟨kw, AW, nW, cW, AW2, nW2, cW2, rfl, rfl, BA.out, BLp.out, On1.out, On2.out, HAPn.out, HNE1.out, HNE2.out, Hkw.out, HBW.out, BN.out, HSZ.out, B.out⟩
      · go_simp
        obtain ⟨wt, hWn⟩ : ∃ W5, W5 = wv.alloc (.cells #[.int .i64 0, .int .i64 0, .slice none 0 0, .int .i64 0, .int .i64 0, .slice none 0 0] 34) := ⟨_, rfl⟩
        have hb : Below wv.heap.size wv wt := by rw [hWn]; exact below_new (Below.refl _ _) _
        obtain ⟨kw, hgp⟩ : ∃ gp, gp = wv.heap.size := ⟨_, rfl⟩
        have BN := Lib.hid (show Bx wt kw #[.int .i64 0, .int .i64 0, .slice none 0 0, .int .i64 0, .int .i64 0, .slice none 0 0] 34 by rw [hWn, hgp]; exact Bx.new _ _ _)
        have Hkw := Lib.hid (show lW ≤ kw by rw [hgp]; exact HBW.out)
        replace HBW := Lib.hid (Nat.le_trans HBW.out hb.size)
        rw [← hWn]
        (try rw [← hgp])
        clear hWn hgp
        replace BA := Lib.hid (BA.out.keep hb)
        replace BLp := Lib.hid (BLp.out.keep hb)
        replace HSZ := Lib.hid (Nat.le_trans HSZ.out hb.size)
        replace B := Lib.hid (below_next B.out hb)
        clear hb
        refine hK.out _ _ ?_ (fun hHeld => ?_)
        · (try dsimp only)
          exact ⟨BA.out.cell rfl, BA.out.cell rfl, BA.out.cell rfl, BLp.out.cell rfl, BLp.out.cell rfl⟩
        clear hK K
        (try simp only [Act.put, List.setIfInBounds_toArray, List.set_cons_zero, List.set_cons_succ])
        refine wpAnyH_ready (rs := [1]) (by kernel_rfl) (by simp) ?_
        refine AllReadyH.cons (o := ⟨_, _, _, _, _, _⟩) rfl (fun K hK => ?_) AllReadyH.nil
        go_simp
        (go_at_call 34; refine (toBoard_any W H A n c xs _ (by exact (RA0.out.keep B.out).drew1) (by have := HnB.out; omega)).mono ?_; rintro e wy ⟨gs, rfl, own, hb⟩; (repeat (first | replace hb := below_undrew hb | replace hb := below_undrewN hb)); have Os := Lib.hid own; replace HBW := Lib.hid (Nat.le_trans HBW.out hb.size); clear own; replace BA := Lib.hid (BA.out.keep hb); replace BLp := Lib.hid (BLp.out.keep hb); replace BN := Lib.hid (BN.out.keep hb); replace HSZ := Lib.hid (Nat.le_trans HSZ.out hb.size); replace B := Lib.hid (below_next B.out hb); clear hb)
        (try go_wp2_with fail)
        refine hK.out _ _ ?_ (fun hHeld => ?_)
        · (try dsimp only)
          exact ⟨BA.out.cell rfl, BA.out.cell rfl, BA.out.cell rfl, BLp.out.cell rfl, BLp.out.cell rfl⟩
        clear hK K
        (try simp only [Act.put, List.setIfInBounds_toArray, List.set_cons_zero, List.set_cons_succ])
        refine wpAnyH_ready (rs := [3]) (by kernel_rfl) (by simp) ?_
        refine AllReadyH.cons (o := ⟨_, _, _, _, _, _⟩) rfl (fun K hK => ?_) AllReadyH.nil
        go_simp
        (go_at_call 35; refine (toLeaper_any a b _).mono ?_; rintro e wl ⟨rfl, hb⟩; (repeat (first | replace hb := below_undrew hb | replace hb := below_undrewN hb)); replace HBW := Lib.hid (Nat.le_trans HBW.out hb.size); replace BA := Lib.hid (BA.out.keep hb); replace BLp := Lib.hid (BLp.out.keep hb); replace Os := Lib.hid (Os.out.keep hb); replace BN := Lib.hid (BN.out.keep hb); replace HSZ := Lib.hid (Nat.le_trans HSZ.out hb.size); replace B := Lib.hid (below_next B.out hb); clear hb)
        (try go_wp2_with fail)
        refine hK.out _ _ ?_ (fun hHeld => ?_)
        · (try dsimp only)
          exact ⟨BA.out.cell rfl, BA.out.cell rfl, BA.out.cell rfl, BLp.out.cell rfl, BLp.out.cell rfl⟩
        clear hK K
        (try simp only [Act.put, List.setIfInBounds_toArray, List.set_cons_zero, List.set_cons_succ])
        refine wpAnyH_ready (rs := [5]) (by kernel_rfl) (by simp) ?_
        refine AllReadyH.cons (o := ⟨_, _, _, _, _, _⟩) rfl (fun K hK => ?_) AllReadyH.nil
        go_simp
        (go_at_call 19; refine (toIntS_any A3 m3 c3 ps _ (by exact (RQ0.out.keep B.out).drew1) (by have := HQ9.out; omega)).mono ?_; rintro e wz ⟨gp, rfl, own, hb⟩; (repeat (first | replace hb := below_undrew hb | replace hb := below_undrewN hb)); have Op := Lib.hid own; replace HBW := Lib.hid (Nat.le_trans HBW.out hb.size); clear own; replace BA := Lib.hid (BA.out.keep hb); replace BLp := Lib.hid (BLp.out.keep hb); replace Os := Lib.hid (Os.out.keep hb); replace BN := Lib.hid (BN.out.keep hb); replace HSZ := Lib.hid (Nat.le_trans HSZ.out hb.size); replace B := Lib.hid (below_next B.out hb); clear hb)
        (try go_wp2_with fail)
        refine hK.out _ _ ?_ (fun hHeld => ?_)
        · (try dsimp only)
          exact ⟨BA.out.cell rfl, BA.out.cell rfl, BA.out.cell rfl, BLp.out.cell rfl, BLp.out.cell rfl⟩
        clear hK K
        (try simp only [Act.put, List.setIfInBounds_toArray, List.set_cons_zero, List.set_cons_succ])
        refine wpAnyH_ready (rs := [7]) (by kernel_rfl) (by simp) ?_
        refine AllReadyH.cons (o := ⟨_, _, _, _, _, _⟩) rfl (fun K hK => ?_) AllReadyH.nil
        go_simp
        (go_at_call 33; refine (spec_MakePuzzle W H _ _ _ xs a b _ _ _ ps q _ (by exact Os.out.rd) (by exact Op.out.rd) (Nat.le_refl _)).mono ?_; rintro e wc ⟨AW, nW, cW, AW2, nW2, cW2, rfl, o1, o2, hap, hb⟩; (repeat (first | replace hb := below_undrew hb | replace hb := below_undrewN hb)); have On1 := Lib.hid (o1.lower (show lW ≤ wz.heap.size from HBW.out)); have On2 := Lib.hid (o2.lower (show lW ≤ wz.heap.size from HBW.out)); have HAPn := Lib.hid hap; have HNE1 := Lib.hid (show ∀ y, AW = some y → y.block ≠ kw from fun y hy => by have h8 : wz.heap.size ≤ y.block := (o1.span y hy).1; have h9 := BN.out.lt; omega); have HNE2 := Lib.hid (show ∀ y, AW2 = some y → y.block ≠ kw from fun y hy => by have h8 : wz.heap.size ≤ y.block := (o2.span y hy).1; have h9 := BN.out.lt; omega); replace HBW := Lib.hid (Nat.le_trans HBW.out hb.size); clear o1 o2 hap; replace BA := Lib.hid (BA.out.keep hb); replace BLp := Lib.hid (BLp.out.keep hb); replace BN := Lib.hid (BN.out.keep hb); replace HSZ := Lib.hid (Nat.le_trans HSZ.out hb.size); replace B := Lib.hid (below_next B.out hb); clear hb)
        (try go_wp2_with fail)
        refine hK.out _ _ ?_ (fun hHeld => ?_)
        · (try dsimp only)
          exact ⟨BA.out.cell rfl, BA.out.cell rfl, BA.out.cell rfl, BLp.out.cell rfl, BLp.out.cell rfl⟩
        clear hK K
        (try simp only [Act.put, List.setIfInBounds_toArray, List.set_cons_zero, List.set_cons_succ])
        refine wpAnyH_take (i := 8) (oi := ⟨_, _, _, _, _, _⟩) (v := ?_) rfl (by kernel_rfl) (by kernel_rfl) (by kernel_rfl) (fun _ _ _ h => h) (Or.inl ⟨by rfl, ?_⟩) (by assumption) ?_
        rotate_left
        · intro w hSw
          (try dsimp only at hSw)
          go_simp
          (try with_reducible rfl)
        (try simp only [Act.put, List.setIfInBounds_toArray, List.set_cons_zero, List.set_cons_succ])
        refine wpAnyH_take (i := 9) (oi := ⟨_, _, _, _, _, _⟩) (v := ?_) rfl (by kernel_rfl) (by kernel_rfl) (by kernel_rfl) (fun _ _ _ h => h) (Or.inl ⟨by rfl, ?_⟩) (by assumption) ?_
        rotate_left
        · intro w hSw
          (try dsimp only at hSw)
          go_simp
          (try with_reducible rfl)
        (try simp only [Act.put, List.setIfInBounds_toArray, List.set_cons_zero, List.set_cons_succ])
        refine wpAnyH_take (i := 10) (oi := ⟨_, _, _, _, _, _⟩) (v := ?_) rfl (by kernel_rfl) (by kernel_rfl) (by kernel_rfl) (fun _ _ _ h => h) (Or.inl ⟨by rfl, ?_⟩) (by assumption) ?_
        rotate_left
        · intro w hSw
          (try dsimp only at hSw)
          go_simp
          (try with_reducible rfl)
        (try simp only [Act.put, List.setIfInBounds_toArray, List.set_cons_zero, List.set_cons_succ])
        refine wpAnyH_ready (rs := [12]) (by kernel_rfl) (by simp) ?_
        refine AllReadyH.cons (o := ⟨_, _, _, _, _, _⟩) rfl (fun K hK => ?_) AllReadyH.nil
        have z0 : wc.cell? ⟨kw, 0, none⟩ = some (.int .i64 0) := BN.out.cell rfl
        have z1 : wc.cell? ⟨kw, 1, none⟩ = some (.int .i64 0) := BN.out.cell rfl
        have z2 : wc.cell? ⟨kw, 2, none⟩ = some (.slice none 0 0) := BN.out.cell rfl
        have z3 : wc.cell? ⟨kw, 3, none⟩ = some (.int .i64 0) := BN.out.cell rfl
        have z4 : wc.cell? ⟨kw, 4, none⟩ = some (.int .i64 0) := BN.out.cell rfl
        have z5 : wc.cell? ⟨kw, 5, none⟩ = some (.slice none 0 0) := BN.out.cell rfl
        have f0 : wc.frozen? ⟨kw, 0, none⟩ = false := BN.out.frozen 0
        have f1 : wc.frozen? ⟨kw, 1, none⟩ = false := BN.out.frozen 1
        have f2 : wc.frozen? ⟨kw, 2, none⟩ = false := BN.out.frozen 2
        have f3 : wc.frozen? ⟨kw, 3, none⟩ = false := BN.out.frozen 3
        have f4 : wc.frozen? ⟨kw, 4, none⟩ = false := BN.out.frozen 4
        have f5 : wc.frozen? ⟨kw, 5, none⟩ = false := BN.out.frozen 5
        go_simp
        obtain ⟨wq, hWn⟩ : ∃ W5, W5 = (((((wc.setCell ⟨kw, 0, none⟩ (.int .i64 (zi (MakePuzzle_ok W H xs a b ps q) W))).setCell ⟨kw, 1, none⟩ (.int .i64 (zi (MakePuzzle_ok W H xs a b ps q) H))).setCell ⟨kw, 2, none⟩ (.slice AW nW cW)).setCell ⟨kw, 3, none⟩ (.int .i64 (zi (MakePuzzle_ok W H xs a b ps q) a))).setCell ⟨kw, 4, none⟩ (.int .i64 (zi (MakePuzzle_ok W H xs a b ps q) b))).setCell ⟨kw, 5, none⟩ (.slice AW2 nW2 cW2) := ⟨_, rfl⟩
        have hgr : wc.grownBy wq (some (kw)) := by rw [hWn]; exact (grown_next (grown_next (grown_next (grown_next (grown_next (grownSet1 wc ⟨kw, 0, none⟩ (.int .i64 (zi (MakePuzzle_ok W H xs a b ps q) W))) (grownSet1 _ ⟨kw, 1, none⟩ (.int .i64 (zi (MakePuzzle_ok W H xs a b ps q) H)))) (grownSet1 _ ⟨kw, 2, none⟩ (.slice AW nW cW))) (grownSet1 _ ⟨kw, 3, none⟩ (.int .i64 (zi (MakePuzzle_ok W H xs a b ps q) a)))) (grownSet1 _ ⟨kw, 4, none⟩ (.int .i64 (zi (MakePuzzle_ok W H xs a b ps q) b)))) (grownSet1 _ ⟨kw, 5, none⟩ (.slice AW2 nW2 cW2)))
        replace BN := Lib.hid (show Bx wq (kw) #[.int .i64 (zi (MakePuzzle_ok W H xs a b ps q) W), .int .i64 (zi (MakePuzzle_ok W H xs a b ps q) H), .slice AW nW cW, .int .i64 (zi (MakePuzzle_ok W H xs a b ps q) a), .int .i64 (zi (MakePuzzle_ok W H xs a b ps q) b), .slice AW2 nW2 cW2] 34 by rw [hWn]; exact ((((((BN.out.set 0 (.int .i64 (zi (MakePuzzle_ok W H xs a b ps q) W))).set 1 (.int .i64 (zi (MakePuzzle_ok W H xs a b ps q) H))).set 2 (.slice AW nW cW)).set 3 (.int .i64 (zi (MakePuzzle_ok W H xs a b ps q) a))).set 4 (.int .i64 (zi (MakePuzzle_ok W H xs a b ps q) b))).set 5 (.slice AW2 nW2 cW2)))
        replace BA := Lib.hid (BA.out.grown hgr (by have := VBA.out; have := Hkw.out; simp; omega))
        replace BLp := Lib.hid (BLp.out.grown hgr (by have := VBLp.out; have := Hkw.out; simp; omega))
        replace On1 := Lib.hid (On1.out.other hgr (fun a9 ha9 he => by injection he with he; exact HNE1.out a9 ha9 he))
        replace On2 := Lib.hid (On2.out.other hgr (fun a9 ha9 he => by injection he with he; exact HNE2.out a9 ha9 he))
        replace HSZ := Lib.hid (Nat.le_trans HSZ.out hgr.size)
        replace B := Lib.hid (B.out.grown hgr B.out.size (fun g9 h9 => by injection h9 with h9; have := Hkw.out; have := HBBW.out; omega))
        replace HBW := Lib.hid (Nat.le_trans HBW.out hgr.size)
        rw [← hWn]
        clear hWn hgr z0 f0 z1 f1 z2 f2 z3 f3 z4 f4 z5 f5
        refine hK.out _ _ ?_ (fun hHeld => ?_)
        · (try dsimp only)
          exact ⟨BA.out.cell rfl, BA.out.cell rfl, BA.out.cell rfl, BLp.out.cell rfl, BLp.out.cell rfl⟩
        clear hK K
        (try simp only [Act.put, List.setIfInBounds_toArray, List.set_cons_zero, List.set_cons_succ])
        refine wpAnyH_take (i := 13) (oi := ⟨_, _, _, _, _, _⟩) (v := ?_) rfl (by kernel_rfl) (by kernel_rfl) (by kernel_rfl) (fun _ _ _ h => h) (Or.inl ⟨by rfl, ?_⟩) (by assumption) ?_
        rotate_left
        · intro w hSw
          (try dsimp only at hSw)
          go_simp
          (try with_reducible rfl)
        (try simp only [Act.put, List.setIfInBounds_toArray, List.set_cons_zero, List.set_cons_succ])
        refine wpAnyH_done (by kernel_rfl) ?_ _
        clear hHeld
        (try go_wp2_with fail)
        go_meet
        exact ⟨kw, AW, nW, cW, AW2, nW2, cW2, rfl, rfl, BA.out, BLp.out, On1.out, On2.out, HAPn.out, HNE1.out, HNE2.out, Hkw.out, HBW.out, BN.out, HSZ.out, B.out⟩
    case rest =>
      clear BA BLp HSZ B HBW
      obtain ⟨kw, AW, nW, cW, AW2, nW2, cW2, rfl, rfl, b_ba, b_blp, o1, o2, hap, hne1, hne2, hkn, hsz2, bn, hsz, hbw⟩ := hcut
      have BA := Lib.hid b_ba
      have BLp := Lib.hid b_blp
      have OW1 := Lib.hid o1; have OW2 := Lib.hid o2; have HAW := Lib.hid hap; have HEW1 := Lib.hid hne1; have HEW2 := Lib.hid hne2; have HKW := Lib.hid hkn; have BXw := Lib.hid bn; have HSZ := Lib.hid hsz; have B := Lib.hid hbw; have HZW := Lib.hid hsz2
      clear b_ba b_blp o1 o2 hap hne1 hne2 hkn hsz2 bn hsz hbw
      have p0 := BA.out.cell (j := 0) (v := .int .i64 W) rfl
      have p1 := BA.out.cell (j := 1) (v := .int .i64 H) rfl
      have p2 := BA.out.cell (j := 2) (v := .slice A n c) rfl
      have pl := BA.out.lt
      go_wp2_with fail
      clear p0 p1 p2 pl
      refine (toBoard_any W H A n c xs _ (RA0.out.keep B.out) (by have := HnB.out; omega)).mono ?_
      rintro e wv ⟨gx, rfl, own, hb⟩
      have HXW := Lib.hid (show kw < gx from Nat.lt_of_lt_of_le BXw.out.lt (own.span _ rfl).1)
      have HWX1 := Lib.hid (show ∀ y, AW = some y → y.block < gx from fun y hy => Nat.lt_of_lt_of_le (OW1.out.span y hy).2 (own.span _ rfl).1)
      have HWX2 := Lib.hid (show ∀ y, AW2 = some y → y.block < gx from fun y hy => Nat.lt_of_lt_of_le (OW2.out.span y hy).2 (own.span _ rfl).1)
      have HGX := Lib.hid (show w.heap.size + 1 + 1 ≤ gx from Nat.le_trans HSZ.out (own.span _ rfl).1)
      replace BA := Lib.hid (BA.out.keep hb)
      replace BLp := Lib.hid (BLp.out.keep hb)
      replace BXw := Lib.hid (BXw.out.keep hb)
      replace OW1 := Lib.hid (OW1.out.keep hb)
      replace OW2 := Lib.hid (OW2.out.keep hb)
      replace HSZ := Lib.hid (Nat.le_trans HSZ.out hb.size)
      replace B := Lib.hid (below_next B.out hb)
      have Ox := Lib.hid (own.lower (Nat.zero_le _))
      clear own hb
      go_wp2_with fail
      obtain ⟨wg, hWn⟩ : ∃ W5, W5 = wv.alloc (.cells #[.int .i64 W, .int .i64 H, .slice (some ⟨gx, 0, none⟩) n n] 31) := ⟨_, rfl⟩
      obtain ⟨kx, hkn⟩ : ∃ k5, k5 = wv.heap.size := ⟨_, rfl⟩
      have hb : Below wv.heap.size wv wg := by rw [hWn]; exact below_new (Below.refl _ _) _
      have BXx := Lib.hid (show Bx wg kx #[.int .i64 W, .int .i64 H, .slice (some ⟨gx, 0, none⟩) n n] 31 by rw [hWn, hkn]; exact Bx.new _ _ _)
      have HXK := Lib.hid (show gx < kx by rw [hkn]; exact (Ox.out.span _ rfl).2)
      rw [← hWn]
      (try rw [← hkn])
      clear hWn hkn
      replace BA := Lib.hid (BA.out.keep hb)
      replace BLp := Lib.hid (BLp.out.keep hb)
      replace BXw := Lib.hid (BXw.out.keep hb)
      replace OW1 := Lib.hid (OW1.out.keep hb)
      replace OW2 := Lib.hid (OW2.out.keep hb)
      replace Ox := Lib.hid (Ox.out.keep hb)
      replace HSZ := Lib.hid (Nat.le_trans HSZ.out hb.size)
      replace B := Lib.hid (below_next B.out hb)
      clear hb
      refine (toIntS_any A3 m3 c3 ps _ (RQ0.out.keep B.out) (by have := HQ9.out; omega)).mono ?_
      rintro e wv ⟨gq, rfl, own, hb⟩
      have HXQ := Lib.hid (show kx < gq from Nat.lt_of_lt_of_le BXx.out.lt (own.span _ rfl).1)
      replace BA := Lib.hid (BA.out.keep hb)
      replace BLp := Lib.hid (BLp.out.keep hb)
      replace BXw := Lib.hid (BXw.out.keep hb)
      replace BXx := Lib.hid (BXx.out.keep hb)
      replace OW1 := Lib.hid (OW1.out.keep hb)
      replace OW2 := Lib.hid (OW2.out.keep hb)
      replace Ox := Lib.hid (Ox.out.keep hb)
      replace HSZ := Lib.hid (Nat.le_trans HSZ.out hb.size)
      replace B := Lib.hid (below_next B.out hb)
      have Oq := Lib.hid (own.lower (Nat.zero_le _))
      clear own hb
      go_upto_region 10 with fail
      obtain ⟨lG, hB0⟩ : ∃ lG, lG = wv.heap.size := ⟨_, rfl⟩
      have HBG := Lib.hid (show lG ≤ wv.heap.size by omega)
      have HBBG := Lib.hid (show w.heap.size + 1 + 1 ≤ lG by have := HSZ.out; omega)
      have UOW1 := Lib.hid (show ∀ y, AW = some y → y.block < lG from fun y hy => by have := (OW1.out.span y hy).2; omega)
      have UOW2 := Lib.hid (show ∀ y, AW2 = some y → y.block < lG from fun y hy => by have := (OW2.out.span y hy).2; omega)
      have UOx := Lib.hid (show ∀ y, some (⟨gx, 0, none⟩ : Addr) = some y → y.block < lG from fun y hy => by have := (Ox.out.span y hy).2; omega)
      have UOq := Lib.hid (show ∀ y, some (⟨gq, 0, none⟩ : Addr) = some y → y.block < lG from fun y hy => by have := (Oq.out.span y hy).2; omega)
      have VBA := Lib.hid (show w.heap.size < lG by have := BA.out.lt; omega)
      have VBLp := Lib.hid (show w.heap.size + 1 < lG by have := BLp.out.lt; omega)
      have VBXw := Lib.hid (show kw < lG by have := BXw.out.lt; omega)
      have VBXx := Lib.hid (show kx < lG by have := BXx.out.lt; omega)
      clear hB0
      go_cut [14, 15] (fun s14 s15 wx => ∃ (kv : Nat) (AG : Option Addr) (nG cG : Nat) (AG2 : Option Addr) (nG2 cG2 : Nat), s14 = .pointer (some ⟨kv, 0, none⟩) ∧ s15 = .bool (MakePuzzle_ok W H xs a b ps q) ∧ Bx wx (w.heap.size) #[.int .i64 W, .int .i64 H, .slice A n c] 24 ∧ Bx wx (w.heap.size + 1) #[.int .i64 a, .int .i64 b] 26 ∧ Bx wx (kw) #[.int .i64 (zi (MakePuzzle_ok W H xs a b ps q) W), .int .i64 (zi (MakePuzzle_ok W H xs a b ps q) H), .slice AW nW cW, .int .i64 (zi (MakePuzzle_ok W H xs a b ps q) a), .int .i64 (zi (MakePuzzle_ok W H xs a b ps q) b), .slice AW2 nW2 cW2] 34 ∧ Bx wx (kx) #[.int .i64 W, .int .i64 H, .slice (some ⟨gx, 0, none⟩) n n] 31 ∧ OwnI 3 wx lW AW nW cW (zl (MakePuzzle_ok W H xs a b ps q) (MakePuzzle_xs W H xs a b ps q)) ∧ OwnI 3 wx lW AW2 nW2 cW2 (zl (MakePuzzle_ok W H xs a b ps q) (MakePuzzle_ns W H xs a b ps q)) ∧ OwnI 3 wx 0 (some ⟨gx, 0, none⟩) n n xs ∧ OwnI 3 wx 0 (some ⟨gq, 0, none⟩) m3 m3 ps ∧ OwnI 3 wx lG AG nG cG (zl (MakePuzzle_ok W H xs a b ps q) (MakePuzzle_xs W H xs a b ps q)) ∧ OwnI 3 wx lG AG2 nG2 cG2 (zl (MakePuzzle_ok W H xs a b ps q) (MakePuzzle_ns W H xs a b ps q)) ∧ Apart AG AG2 ∧ (∀ y, AG = some y → y.block ≠ kv) ∧ (∀ y, AG2 = some y → y.block ≠ kv) ∧ lG ≤ kv ∧ lG ≤ wx.heap.size ∧ Bx wx kv #[.int .i64 (zi (MakePuzzle_ok W H xs a b ps q) W), .int .i64 (zi (MakePuzzle_ok W H xs a b ps q) H), .slice AG nG cG, .int .i64 (zi (MakePuzzle_ok W H xs a b ps q) a), .int .i64 (zi (MakePuzzle_ok W H xs a b ps q) b), .slice AG2 nG2 cG2] 34 ∧ w.heap.size + 1 + 1 ≤ wx.heap.size ∧ Below w.heap.size w wx)
      case first =>
        refine wp_region_held_drew (S := fun w' => w'.cell? ⟨kx, 0, none⟩ = some (.int .i64 W) ∧ w'.cell? ⟨kx, 1, none⟩ = some (.int .i64 H) ∧ w'.cell? ⟨kx, 2, none⟩ = some (.slice (some ⟨gx, 0, none⟩) n n) ∧ w'.cell? ⟨w.heap.size + 1, 0, none⟩ = some (.int .i64 a) ∧ w'.cell? ⟨w.heap.size + 1, 1, none⟩ = some (.int .i64 b)) (by kernel_rfl) ?_ (fun hHeld => ?_)
        · (try dsimp only)
          exact ⟨BXx.out.cell rfl, BXx.out.cell rfl, BXx.out.cell rfl, BLp.out.cell rfl, BLp.out.cell rfl⟩
        refine wpAnyH_take (i := 0) (oi := ⟨_, _, _, _, _, _⟩) (v := ?_) rfl (by kernel_rfl) (by kernel_rfl) (by kernel_rfl) (fun _ _ _ h => h) (Or.inl ⟨by rfl, ?_⟩) (by assumption) ?_
        rotate_left
        · intro w hSw
          (try dsimp only at hSw)
          go_simp
          (try with_reducible rfl)
        (try simp only [Act.put, List.setIfInBounds_toArray, List.set_cons_zero, List.set_cons_succ])
        refine wpAnyH_take (i := 1) (oi := ⟨_, _, _, _, _, _⟩) (v := ?_) rfl (by kernel_rfl) (by kernel_rfl) (by kernel_rfl) (fun _ _ _ h => h) (Or.inl ⟨by rfl, ?_⟩) (by assumption) ?_
        rotate_left
        · intro w hSw
          (try dsimp only at hSw)
          go_simp
          (try with_reducible rfl)
        (try simp only [Act.put, List.setIfInBounds_toArray, List.set_cons_zero, List.set_cons_succ])
        refine wpAnyH_take (i := 3) (oi := ⟨_, _, _, _, _, _⟩) (v := ?_) rfl (by kernel_rfl) (by kernel_rfl) (by kernel_rfl) (fun _ _ _ h => h) (Or.inl ⟨by rfl, ?_⟩) (by assumption) ?_
        rotate_left
        · intro w hSw
          (try dsimp only at hSw)
          go_simp
          (try with_reducible rfl)
        (try simp only [Act.put, List.setIfInBounds_toArray, List.set_cons_zero, List.set_cons_succ])
        refine wpAnyH_take (i := 4) (oi := ⟨_, _, _, _, _, _⟩) (v := ?_) rfl (by kernel_rfl) (by kernel_rfl) (by kernel_rfl) (fun _ _ _ h => h) (Or.inl ⟨by rfl, ?_⟩) (by assumption) ?_
        rotate_left
        · intro w hSw
          (try dsimp only at hSw)
          go_simp
          (try with_reducible rfl)
        (try simp only [Act.put, List.setIfInBounds_toArray, List.set_cons_zero, List.set_cons_succ])
        refine wpAnyH_ready (rs := [2, 9]) (by kernel_rfl) (by simp) ?_
        refine AllReadyH.cons (o := ⟨_, _, _, _, _, _⟩) rfl (fun K hK => ?_) (AllReadyH.cons (o := ⟨_, _, _, _, _, _⟩) rfl (fun K hK => ?_) AllReadyH.nil)
        · go_simp
          (go_at_call 35; refine (toLeaper_any a b _).mono ?_; rintro e wl ⟨rfl, hb⟩; (repeat (first | replace hb := below_undrew hb | replace hb := below_undrewN hb)); replace HBG := Lib.hid (Nat.le_trans HBG.out hb.size); replace BA := Lib.hid (BA.out.keep hb); replace BLp := Lib.hid (BLp.out.keep hb); replace BXw := Lib.hid (BXw.out.keep hb); replace BXx := Lib.hid (BXx.out.keep hb); replace OW1 := Lib.hid (OW1.out.keep hb); replace OW2 := Lib.hid (OW2.out.keep hb); replace Ox := Lib.hid (Ox.out.keep hb); replace Oq := Lib.hid (Oq.out.keep hb); replace HSZ := Lib.hid (Nat.le_trans HSZ.out hb.size); replace B := Lib.hid (below_next B.out hb); clear hb)
          (try go_wp2_with fail)
          refine hK.out _ _ ?_ (fun hHeld => ?_)
          · (try dsimp only)
            exact ⟨BXx.out.cell rfl, BXx.out.cell rfl, BXx.out.cell rfl, BLp.out.cell rfl, BLp.out.cell rfl⟩
          clear hK K
          (try simp only [Act.put, List.setIfInBounds_toArray, List.set_cons_zero, List.set_cons_succ])
          refine wpAnyH_ready (rs := [5, 9]) (by kernel_rfl) (by simp) ?_
          refine AllReadyH.cons (o := ⟨_, _, _, _, _, _⟩) rfl (fun K hK => ?_) (AllReadyH.cons (o := ⟨_, _, _, _, _, _⟩) rfl (fun K hK => ?_) AllReadyH.nil)
          · go_simp
            (go_at_call 36; refine (impl_MakePuzzle W H _ _ _ xs a b _ _ _ ps q _ (by exact Ox.out.rd) (by exact Oq.out.rd)).mono ?_; rintro e wc ⟨AG, nG, cG, AG2, nG2, cG2, rfl, o1, o2, hap, hb⟩; (repeat (first | replace hb := below_undrew hb | replace hb := below_undrewN hb)); have On1 := Lib.hid (o1.lower (show lG ≤ wl.heap.size from HBG.out)); have On2 := Lib.hid (o2.lower (show lG ≤ wl.heap.size from HBG.out)); have HAPn := Lib.hid hap; replace HBG := Lib.hid (Nat.le_trans HBG.out hb.size); clear o1 o2 hap; replace BA := Lib.hid (BA.out.keep hb); replace BLp := Lib.hid (BLp.out.keep hb); replace BXw := Lib.hid (BXw.out.keep hb); replace BXx := Lib.hid (BXx.out.keep hb); replace OW1 := Lib.hid (OW1.out.keep hb); replace OW2 := Lib.hid (OW2.out.keep hb); replace Ox := Lib.hid (Ox.out.keep hb); replace Oq := Lib.hid (Oq.out.keep hb); replace HSZ := Lib.hid (Nat.le_trans HSZ.out hb.size); replace B := Lib.hid (below_next B.out hb); clear hb)
            (try go_wp2_with fail)
            refine hK.out _ _ ?_ (fun hHeld => ?_)
            · (try dsimp only)
              exact ⟨BXx.out.cell rfl, BXx.out.cell rfl, BXx.out.cell rfl, BLp.out.cell rfl, BLp.out.cell rfl⟩
            clear hK K
            (try simp only [Act.put, List.setIfInBounds_toArray, List.set_cons_zero, List.set_cons_succ])
            refine wpAnyH_take (i := 6) (oi := ⟨_, _, _, _, _, _⟩) (v := ?_) rfl (by kernel_rfl) (by kernel_rfl) (by kernel_rfl) (fun _ _ _ h => h) (Or.inl ⟨by rfl, ?_⟩) (by assumption) ?_
            rotate_left
            · intro w hSw
              (try dsimp only at hSw)
              go_simp
              (try with_reducible rfl)
            (try simp only [Act.put, List.setIfInBounds_toArray, List.set_cons_zero, List.set_cons_succ])
            refine wpAnyH_take (i := 7) (oi := ⟨_, _, _, _, _, _⟩) (v := ?_) rfl (by kernel_rfl) (by kernel_rfl) (by kernel_rfl) (fun _ _ _ h => h) (Or.inl ⟨by rfl, ?_⟩) (by assumption) ?_
            rotate_left
            · intro w hSw
              (try dsimp only at hSw)
              go_simp
              (try with_reducible rfl)
            (try simp only [Act.put, List.setIfInBounds_toArray, List.set_cons_zero, List.set_cons_succ])
            refine wpAnyH_take (i := 8) (oi := ⟨_, _, _, _, _, _⟩) (v := ?_) rfl (by kernel_rfl) (by kernel_rfl) (by kernel_rfl) (fun _ _ _ h => h) (Or.inl ⟨by rfl, ?_⟩) (by assumption) ?_
            rotate_left
            · intro w hSw
              (try dsimp only at hSw)
              go_simp
              (try with_reducible rfl)
            (try simp only [Act.put, List.setIfInBounds_toArray, List.set_cons_zero, List.set_cons_succ])
            refine wpAnyH_ready (rs := [9]) (by kernel_rfl) (by simp) ?_
            refine AllReadyH.cons (o := ⟨_, _, _, _, _, _⟩) rfl (fun K hK => ?_) AllReadyH.nil
            go_simp
            obtain ⟨wt, hWn⟩ : ∃ W5, W5 = wc.alloc (.cells #[.int .i64 0, .int .i64 0, .slice none 0 0, .int .i64 0, .int .i64 0, .slice none 0 0] 34) := ⟨_, rfl⟩
            have hb : Below wc.heap.size wc wt := by rw [hWn]; exact below_new (Below.refl _ _) _
            obtain ⟨kv, hgp⟩ : ∃ gp, gp = wc.heap.size := ⟨_, rfl⟩
            have BN := Lib.hid (show Bx wt kv #[.int .i64 0, .int .i64 0, .slice none 0 0, .int .i64 0, .int .i64 0, .slice none 0 0] 34 by rw [hWn, hgp]; exact Bx.new _ _ _)
            have Hkv := Lib.hid (show lG ≤ kv by rw [hgp]; exact HBG.out)
            replace HBG := Lib.hid (Nat.le_trans HBG.out hb.size)
            have HNE1 := Lib.hid (show ∀ y, AG = some y → y.block ≠ kv from fun y hy => by have := (On1.out.span y hy).2; omega); have HNE2 := Lib.hid (show ∀ y, AG2 = some y → y.block ≠ kv from fun y hy => by have := (On2.out.span y hy).2; omega)
            rw [← hWn]
            (try rw [← hgp])
            clear hWn hgp
            replace BA := Lib.hid (BA.out.keep hb)
            replace BLp := Lib.hid (BLp.out.keep hb)
            replace BXw := Lib.hid (BXw.out.keep hb)
            replace BXx := Lib.hid (BXx.out.keep hb)
            replace OW1 := Lib.hid (OW1.out.keep hb)
            replace OW2 := Lib.hid (OW2.out.keep hb)
            replace Ox := Lib.hid (Ox.out.keep hb)
            replace Oq := Lib.hid (Oq.out.keep hb)
            replace On1 := Lib.hid (On1.out.keep hb)
            replace On2 := Lib.hid (On2.out.keep hb)
            replace HSZ := Lib.hid (Nat.le_trans HSZ.out hb.size)
            replace B := Lib.hid (below_next B.out hb)
            clear hb
            refine hK.out _ _ ?_ (fun hHeld => ?_)
            · (try dsimp only)
              exact ⟨BXx.out.cell rfl, BXx.out.cell rfl, BXx.out.cell rfl, BLp.out.cell rfl, BLp.out.cell rfl⟩
            clear hK K
            (try simp only [Act.put, List.setIfInBounds_toArray, List.set_cons_zero, List.set_cons_succ])
            refine wpAnyH_ready (rs := [10]) (by kernel_rfl) (by simp) ?_
            refine AllReadyH.cons (o := ⟨_, _, _, _, _, _⟩) rfl (fun K hK => ?_) AllReadyH.nil
            have z0 : wt.cell? ⟨kv, 0, none⟩ = some (.int .i64 0) := BN.out.cell rfl
            have z1 : wt.cell? ⟨kv, 1, none⟩ = some (.int .i64 0) := BN.out.cell rfl
            have z2 : wt.cell? ⟨kv, 2, none⟩ = some (.slice none 0 0) := BN.out.cell rfl
            have z3 : wt.cell? ⟨kv, 3, none⟩ = some (.int .i64 0) := BN.out.cell rfl
            have z4 : wt.cell? ⟨kv, 4, none⟩ = some (.int .i64 0) := BN.out.cell rfl
            have z5 : wt.cell? ⟨kv, 5, none⟩ = some (.slice none 0 0) := BN.out.cell rfl
            have f0 : wt.frozen? ⟨kv, 0, none⟩ = false := BN.out.frozen 0
            have f1 : wt.frozen? ⟨kv, 1, none⟩ = false := BN.out.frozen 1
            have f2 : wt.frozen? ⟨kv, 2, none⟩ = false := BN.out.frozen 2
            have f3 : wt.frozen? ⟨kv, 3, none⟩ = false := BN.out.frozen 3
            have f4 : wt.frozen? ⟨kv, 4, none⟩ = false := BN.out.frozen 4
            have f5 : wt.frozen? ⟨kv, 5, none⟩ = false := BN.out.frozen 5
            go_simp
            obtain ⟨wq, hWn⟩ : ∃ W5, W5 = (((((wt.setCell ⟨kv, 0, none⟩ (.int .i64 (zi (MakePuzzle_ok W H xs a b ps q) W))).setCell ⟨kv, 1, none⟩ (.int .i64 (zi (MakePuzzle_ok W H xs a b ps q) H))).setCell ⟨kv, 2, none⟩ (.slice AG nG cG)).setCell ⟨kv, 3, none⟩ (.int .i64 (zi (MakePuzzle_ok W H xs a b ps q) a))).setCell ⟨kv, 4, none⟩ (.int .i64 (zi (MakePuzzle_ok W H xs a b ps q) b))).setCell ⟨kv, 5, none⟩ (.slice AG2 nG2 cG2) := ⟨_, rfl⟩
            have hgr : wt.grownBy wq (some (kv)) := by rw [hWn]; exact (grown_next (grown_next (grown_next (grown_next (grown_next (grownSet1 wt ⟨kv, 0, none⟩ (.int .i64 (zi (MakePuzzle_ok W H xs a b ps q) W))) (grownSet1 _ ⟨kv, 1, none⟩ (.int .i64 (zi (MakePuzzle_ok W H xs a b ps q) H)))) (grownSet1 _ ⟨kv, 2, none⟩ (.slice AG nG cG))) (grownSet1 _ ⟨kv, 3, none⟩ (.int .i64 (zi (MakePuzzle_ok W H xs a b ps q) a)))) (grownSet1 _ ⟨kv, 4, none⟩ (.int .i64 (zi (MakePuzzle_ok W H xs a b ps q) b)))) (grownSet1 _ ⟨kv, 5, none⟩ (.slice AG2 nG2 cG2)))
            replace BN := Lib.hid (show Bx wq (kv) #[.int .i64 (zi (MakePuzzle_ok W H xs a b ps q) W), .int .i64 (zi (MakePuzzle_ok W H xs a b ps q) H), .slice AG nG cG, .int .i64 (zi (MakePuzzle_ok W H xs a b ps q) a), .int .i64 (zi (MakePuzzle_ok W H xs a b ps q) b), .slice AG2 nG2 cG2] 34 by rw [hWn]; exact ((((((BN.out.set 0 (.int .i64 (zi (MakePuzzle_ok W H xs a b ps q) W))).set 1 (.int .i64 (zi (MakePuzzle_ok W H xs a b ps q) H))).set 2 (.slice AG nG cG)).set 3 (.int .i64 (zi (MakePuzzle_ok W H xs a b ps q) a))).set 4 (.int .i64 (zi (MakePuzzle_ok W H xs a b ps q) b))).set 5 (.slice AG2 nG2 cG2)))
            replace BA := Lib.hid (BA.out.grown hgr (by have := VBA.out; have := Hkv.out; simp; omega))
            replace BLp := Lib.hid (BLp.out.grown hgr (by have := VBLp.out; have := Hkv.out; simp; omega))
            replace BXw := Lib.hid (BXw.out.grown hgr (by have := VBXw.out; have := Hkv.out; simp; omega))
            replace BXx := Lib.hid (BXx.out.grown hgr (by have := VBXx.out; have := Hkv.out; simp; omega))
            replace OW1 := Lib.hid (OW1.out.other hgr (fun a9 ha9 he => by injection he with he; have := UOW1.out a9 ha9; have := Hkv.out; omega))
            replace OW2 := Lib.hid (OW2.out.other hgr (fun a9 ha9 he => by injection he with he; have := UOW2.out a9 ha9; have := Hkv.out; omega))
            replace Ox := Lib.hid (Ox.out.other hgr (fun a9 ha9 he => by injection he with he; have := UOx.out a9 ha9; have := Hkv.out; omega))
            replace Oq := Lib.hid (Oq.out.other hgr (fun a9 ha9 he => by injection he with he; have := UOq.out a9 ha9; have := Hkv.out; omega))
            replace On1 := Lib.hid (On1.out.other hgr (fun a9 ha9 he => by injection he with he; exact HNE1.out a9 ha9 he))
            replace On2 := Lib.hid (On2.out.other hgr (fun a9 ha9 he => by injection he with he; exact HNE2.out a9 ha9 he))
            replace HSZ := Lib.hid (Nat.le_trans HSZ.out hgr.size)
            replace B := Lib.hid (B.out.grown hgr B.out.size (fun g9 h9 => by injection h9 with h9; have := Hkv.out; have := HBBG.out; omega))
            replace HBG := Lib.hid (Nat.le_trans HBG.out hgr.size)
            rw [← hWn]
            clear hWn hgr z0 f0 z1 f1 z2 f2 z3 f3 z4 f4 z5 f5
            refine hK.out _ _ ?_ (fun hHeld => ?_)
            · (try dsimp only)
              exact ⟨BXx.out.cell rfl, BXx.out.cell rfl, BXx.out.cell rfl, BLp.out.cell rfl, BLp.out.cell rfl⟩
            clear hK K
            (try simp only [Act.put, List.setIfInBounds_toArray, List.set_cons_zero, List.set_cons_succ])
            refine wpAnyH_take (i := 11) (oi := ⟨_, _, _, _, _, _⟩) (v := ?_) rfl (by kernel_rfl) (by kernel_rfl) (by kernel_rfl) (fun _ _ _ h => h) (Or.inl ⟨by rfl, ?_⟩) (by assumption) ?_
            rotate_left
            · intro w hSw
              (try dsimp only at hSw)
              go_simp
              (try with_reducible rfl)
            (try simp only [Act.put, List.setIfInBounds_toArray, List.set_cons_zero, List.set_cons_succ])
            refine wpAnyH_done (by kernel_rfl) ?_ _
            clear hHeld
            (try go_wp2_with fail)
            go_meet
            exact ⟨kv, AG, nG, cG, AG2, nG2, cG2, rfl, rfl, BA.out, BLp.out, BXw.out, BXx.out, OW1.out, OW2.out, Ox.out, Oq.out, On1.out, On2.out, HAPn.out, HNE1.out, HNE2.out, Hkv.out, HBG.out, BN.out, HSZ.out, B.out⟩
          · go_simp
            obtain ⟨wt, hWn⟩ : ∃ W5, W5 = wl.alloc (.cells #[.int .i64 0, .int .i64 0, .slice none 0 0, .int .i64 0, .int .i64 0, .slice none 0 0] 34) := ⟨_, rfl⟩
            have hb : Below wl.heap.size wl wt := by rw [hWn]; exact below_new (Below.refl _ _) _
            obtain ⟨kv, hgp⟩ : ∃ gp, gp = wl.heap.size := ⟨_, rfl⟩
            have BN := Lib.hid (show Bx wt kv #[.int .i64 0, .int .i64 0, .slice none 0 0, .int .i64 0, .int .i64 0, .slice none 0 0] 34 by rw [hWn, hgp]; exact Bx.new _ _ _)
            have Hkv := Lib.hid (show lG ≤ kv by rw [hgp]; exact HBG.out)
            replace HBG := Lib.hid (Nat.le_trans HBG.out hb.size)
            rw [← hWn]
            (try rw [← hgp])
            clear hWn hgp
            replace BA := Lib.hid (BA.out.keep hb)
            replace BLp := Lib.hid (BLp.out.keep hb)
            replace BXw := Lib.hid (BXw.out.keep hb)
            replace BXx := Lib.hid (BXx.out.keep hb)
            replace OW1 := Lib.hid (OW1.out.keep hb)
            replace OW2 := Lib.hid (OW2.out.keep hb)
            replace Ox := Lib.hid (Ox.out.keep hb)
            replace Oq := Lib.hid (Oq.out.keep hb)
            replace HSZ := Lib.hid (Nat.le_trans HSZ.out hb.size)
            replace B := Lib.hid (below_next B.out hb)
            clear hb
            refine hK.out _ _ ?_ (fun hHeld => ?_)
            · (try dsimp only)
              exact ⟨BXx.out.cell rfl, BXx.out.cell rfl, BXx.out.cell rfl, BLp.out.cell rfl, BLp.out.cell rfl⟩
            clear hK K
            (try simp only [Act.put, List.setIfInBounds_toArray, List.set_cons_zero, List.set_cons_succ])
            refine wpAnyH_ready (rs := [5]) (by kernel_rfl) (by simp) ?_
            refine AllReadyH.cons (o := ⟨_, _, _, _, _, _⟩) rfl (fun K hK => ?_) AllReadyH.nil
            go_simp
            (go_at_call 36; refine (impl_MakePuzzle W H _ _ _ xs a b _ _ _ ps q _ (by exact Ox.out.rd) (by exact Oq.out.rd)).mono ?_; rintro e wc ⟨AG, nG, cG, AG2, nG2, cG2, rfl, o1, o2, hap, hb⟩; (repeat (first | replace hb := below_undrew hb | replace hb := below_undrewN hb)); have On1 := Lib.hid (o1.lower (show lG ≤ wt.heap.size from HBG.out)); have On2 := Lib.hid (o2.lower (show lG ≤ wt.heap.size from HBG.out)); have HAPn := Lib.hid hap; have HNE1 := Lib.hid (show ∀ y, AG = some y → y.block ≠ kv from fun y hy => by have h8 : wt.heap.size ≤ y.block := (o1.span y hy).1; have h9 := BN.out.lt; omega); have HNE2 := Lib.hid (show ∀ y, AG2 = some y → y.block ≠ kv from fun y hy => by have h8 : wt.heap.size ≤ y.block := (o2.span y hy).1; have h9 := BN.out.lt; omega); replace HBG := Lib.hid (Nat.le_trans HBG.out hb.size); clear o1 o2 hap; replace BA := Lib.hid (BA.out.keep hb); replace BLp := Lib.hid (BLp.out.keep hb); replace BXw := Lib.hid (BXw.out.keep hb); replace BXx := Lib.hid (BXx.out.keep hb); replace OW1 := Lib.hid (OW1.out.keep hb); replace OW2 := Lib.hid (OW2.out.keep hb); replace Ox := Lib.hid (Ox.out.keep hb); replace Oq := Lib.hid (Oq.out.keep hb); replace BN := Lib.hid (BN.out.keep hb); replace HSZ := Lib.hid (Nat.le_trans HSZ.out hb.size); replace B := Lib.hid (below_next B.out hb); clear hb)
            (try go_wp2_with fail)
            refine hK.out _ _ ?_ (fun hHeld => ?_)
            · (try dsimp only)
              exact ⟨BXx.out.cell rfl, BXx.out.cell rfl, BXx.out.cell rfl, BLp.out.cell rfl, BLp.out.cell rfl⟩
            clear hK K
            (try simp only [Act.put, List.setIfInBounds_toArray, List.set_cons_zero, List.set_cons_succ])
            refine wpAnyH_take (i := 6) (oi := ⟨_, _, _, _, _, _⟩) (v := ?_) rfl (by kernel_rfl) (by kernel_rfl) (by kernel_rfl) (fun _ _ _ h => h) (Or.inl ⟨by rfl, ?_⟩) (by assumption) ?_
            rotate_left
            · intro w hSw
              (try dsimp only at hSw)
              go_simp
              (try with_reducible rfl)
            (try simp only [Act.put, List.setIfInBounds_toArray, List.set_cons_zero, List.set_cons_succ])
            refine wpAnyH_take (i := 7) (oi := ⟨_, _, _, _, _, _⟩) (v := ?_) rfl (by kernel_rfl) (by kernel_rfl) (by kernel_rfl) (fun _ _ _ h => h) (Or.inl ⟨by rfl, ?_⟩) (by assumption) ?_
            rotate_left
            · intro w hSw
              (try dsimp only at hSw)
              go_simp
              (try with_reducible rfl)
            (try simp only [Act.put, List.setIfInBounds_toArray, List.set_cons_zero, List.set_cons_succ])
            refine wpAnyH_take (i := 8) (oi := ⟨_, _, _, _, _, _⟩) (v := ?_) rfl (by kernel_rfl) (by kernel_rfl) (by kernel_rfl) (fun _ _ _ h => h) (Or.inl ⟨by rfl, ?_⟩) (by assumption) ?_
            rotate_left
            · intro w hSw
              (try dsimp only at hSw)
              go_simp
              (try with_reducible rfl)
            (try simp only [Act.put, List.setIfInBounds_toArray, List.set_cons_zero, List.set_cons_succ])
            refine wpAnyH_ready (rs := [10]) (by kernel_rfl) (by simp) ?_
            refine AllReadyH.cons (o := ⟨_, _, _, _, _, _⟩) rfl (fun K hK => ?_) AllReadyH.nil
            have z0 : wc.cell? ⟨kv, 0, none⟩ = some (.int .i64 0) := BN.out.cell rfl
            have z1 : wc.cell? ⟨kv, 1, none⟩ = some (.int .i64 0) := BN.out.cell rfl
            have z2 : wc.cell? ⟨kv, 2, none⟩ = some (.slice none 0 0) := BN.out.cell rfl
            have z3 : wc.cell? ⟨kv, 3, none⟩ = some (.int .i64 0) := BN.out.cell rfl
            have z4 : wc.cell? ⟨kv, 4, none⟩ = some (.int .i64 0) := BN.out.cell rfl
            have z5 : wc.cell? ⟨kv, 5, none⟩ = some (.slice none 0 0) := BN.out.cell rfl
            have f0 : wc.frozen? ⟨kv, 0, none⟩ = false := BN.out.frozen 0
            have f1 : wc.frozen? ⟨kv, 1, none⟩ = false := BN.out.frozen 1
            have f2 : wc.frozen? ⟨kv, 2, none⟩ = false := BN.out.frozen 2
            have f3 : wc.frozen? ⟨kv, 3, none⟩ = false := BN.out.frozen 3
            have f4 : wc.frozen? ⟨kv, 4, none⟩ = false := BN.out.frozen 4
            have f5 : wc.frozen? ⟨kv, 5, none⟩ = false := BN.out.frozen 5
            go_simp
            obtain ⟨wq, hWn⟩ : ∃ W5, W5 = (((((wc.setCell ⟨kv, 0, none⟩ (.int .i64 (zi (MakePuzzle_ok W H xs a b ps q) W))).setCell ⟨kv, 1, none⟩ (.int .i64 (zi (MakePuzzle_ok W H xs a b ps q) H))).setCell ⟨kv, 2, none⟩ (.slice AG nG cG)).setCell ⟨kv, 3, none⟩ (.int .i64 (zi (MakePuzzle_ok W H xs a b ps q) a))).setCell ⟨kv, 4, none⟩ (.int .i64 (zi (MakePuzzle_ok W H xs a b ps q) b))).setCell ⟨kv, 5, none⟩ (.slice AG2 nG2 cG2) := ⟨_, rfl⟩
            have hgr : wc.grownBy wq (some (kv)) := by rw [hWn]; exact (grown_next (grown_next (grown_next (grown_next (grown_next (grownSet1 wc ⟨kv, 0, none⟩ (.int .i64 (zi (MakePuzzle_ok W H xs a b ps q) W))) (grownSet1 _ ⟨kv, 1, none⟩ (.int .i64 (zi (MakePuzzle_ok W H xs a b ps q) H)))) (grownSet1 _ ⟨kv, 2, none⟩ (.slice AG nG cG))) (grownSet1 _ ⟨kv, 3, none⟩ (.int .i64 (zi (MakePuzzle_ok W H xs a b ps q) a)))) (grownSet1 _ ⟨kv, 4, none⟩ (.int .i64 (zi (MakePuzzle_ok W H xs a b ps q) b)))) (grownSet1 _ ⟨kv, 5, none⟩ (.slice AG2 nG2 cG2)))
            replace BN := Lib.hid (show Bx wq (kv) #[.int .i64 (zi (MakePuzzle_ok W H xs a b ps q) W), .int .i64 (zi (MakePuzzle_ok W H xs a b ps q) H), .slice AG nG cG, .int .i64 (zi (MakePuzzle_ok W H xs a b ps q) a), .int .i64 (zi (MakePuzzle_ok W H xs a b ps q) b), .slice AG2 nG2 cG2] 34 by rw [hWn]; exact ((((((BN.out.set 0 (.int .i64 (zi (MakePuzzle_ok W H xs a b ps q) W))).set 1 (.int .i64 (zi (MakePuzzle_ok W H xs a b ps q) H))).set 2 (.slice AG nG cG)).set 3 (.int .i64 (zi (MakePuzzle_ok W H xs a b ps q) a))).set 4 (.int .i64 (zi (MakePuzzle_ok W H xs a b ps q) b))).set 5 (.slice AG2 nG2 cG2)))
            replace BA := Lib.hid (BA.out.grown hgr (by have := VBA.out; have := Hkv.out; simp; omega))
            replace BLp := Lib.hid (BLp.out.grown hgr (by have := VBLp.out; have := Hkv.out; simp; omega))
            replace BXw := Lib.hid (BXw.out.grown hgr (by have := VBXw.out; have := Hkv.out; simp; omega))
            replace BXx := Lib.hid (BXx.out.grown hgr (by have := VBXx.out; have := Hkv.out; simp; omega))
            replace OW1 := Lib.hid (OW1.out.other hgr (fun a9 ha9 he => by injection he with he; have := UOW1.out a9 ha9; have := Hkv.out; omega))
            replace OW2 := Lib.hid (OW2.out.other hgr (fun a9 ha9 he => by injection he with he; have := UOW2.out a9 ha9; have := Hkv.out; omega))
            replace Ox := Lib.hid (Ox.out.other hgr (fun a9 ha9 he => by injection he with he; have := UOx.out a9 ha9; have := Hkv.out; omega))
            replace Oq := Lib.hid (Oq.out.other hgr (fun a9 ha9 he => by injection he with he; have := UOq.out a9 ha9; have := Hkv.out; omega))
            replace On1 := Lib.hid (On1.out.other hgr (fun a9 ha9 he => by injection he with he; exact HNE1.out a9 ha9 he))
            replace On2 := Lib.hid (On2.out.other hgr (fun a9 ha9 he => by injection he with he; exact HNE2.out a9 ha9 he))
            replace HSZ := Lib.hid (Nat.le_trans HSZ.out hgr.size)
            replace B := Lib.hid (B.out.grown hgr B.out.size (fun g9 h9 => by injection h9 with h9; have := Hkv.out; have := HBBG.out; omega))
            replace HBG := Lib.hid (Nat.le_trans HBG.out hgr.size)
            rw [← hWn]
            clear hWn hgr z0 f0 z1 f1 z2 f2 z3 f3 z4 f4 z5 f5
            refine hK.out _ _ ?_ (fun hHeld => ?_)
            · (try dsimp only)
              exact ⟨BXx.out.cell rfl, BXx.out.cell rfl, BXx.out.cell rfl, BLp.out.cell rfl, BLp.out.cell rfl⟩
            clear hK K
            (try simp only [Act.put, List.setIfInBounds_toArray, List.set_cons_zero, List.set_cons_succ])
            refine wpAnyH_take (i := 11) (oi := ⟨_, _, _, _, _, _⟩) (v := ?_) rfl (by kernel_rfl) (by kernel_rfl) (by kernel_rfl) (fun _ _ _ h => h) (Or.inl ⟨by rfl, ?_⟩) (by assumption) ?_
            rotate_left
            · intro w hSw
              (try dsimp only at hSw)
              go_simp
              (try with_reducible rfl)
            (try simp only [Act.put, List.setIfInBounds_toArray, List.set_cons_zero, List.set_cons_succ])
            refine wpAnyH_done (by kernel_rfl) ?_ _
            clear hHeld
            (try go_wp2_with fail)
            go_meet
            exact ⟨kv, AG, nG, cG, AG2, nG2, cG2, rfl, rfl, BA.out, BLp.out, BXw.out, BXx.out, OW1.out, OW2.out, Ox.out, Oq.out, On1.out, On2.out, HAPn.out, HNE1.out, HNE2.out, Hkv.out, HBG.out, BN.out, HSZ.out, B.out⟩
        · go_simp
          obtain ⟨wt, hWn⟩ : ∃ W5, W5 = wv.alloc (.cells #[.int .i64 0, .int .i64 0, .slice none 0 0, .int .i64 0, .int .i64 0, .slice none 0 0] 34) := ⟨_, rfl⟩
          have hb : Below wv.heap.size wv wt := by rw [hWn]; exact below_new (Below.refl _ _) _
          obtain ⟨kv, hgp⟩ : ∃ gp, gp = wv.heap.size := ⟨_, rfl⟩
          have BN := Lib.hid (show Bx wt kv #[.int .i64 0, .int .i64 0, .slice none 0 0, .int .i64 0, .int .i64 0, .slice none 0 0] 34 by rw [hWn, hgp]; exact Bx.new _ _ _)
          have Hkv := Lib.hid (show lG ≤ kv by rw [hgp]; exact HBG.out)
          replace HBG := Lib.hid (Nat.le_trans HBG.out hb.size)
          rw [← hWn]
          (try rw [← hgp])
          clear hWn hgp
          replace BA := Lib.hid (BA.out.keep hb)
          replace BLp := Lib.hid (BLp.out.keep hb)
          replace BXw := Lib.hid (BXw.out.keep hb)
          replace BXx := Lib.hid (BXx.out.keep hb)
          replace OW1 := Lib.hid (OW1.out.keep hb)
          replace OW2 := Lib.hid (OW2.out.keep hb)
          replace Ox := Lib.hid (Ox.out.keep hb)
          replace Oq := Lib.hid (Oq.out.keep hb)
          replace HSZ := Lib.hid (Nat.le_trans HSZ.out hb.size)
          replace B := Lib.hid (below_next B.out hb)
          clear hb
          refine hK.out _ _ ?_ (fun hHeld => ?_)
          · (try dsimp only)
            exact ⟨BXx.out.cell rfl, BXx.out.cell rfl, BXx.out.cell rfl, BLp.out.cell rfl, BLp.out.cell rfl⟩
          clear hK K
          (try simp only [Act.put, List.setIfInBounds_toArray, List.set_cons_zero, List.set_cons_succ])
          refine wpAnyH_ready (rs := [2]) (by kernel_rfl) (by simp) ?_
          refine AllReadyH.cons (o := ⟨_, _, _, _, _, _⟩) rfl (fun K hK => ?_) AllReadyH.nil
          go_simp
          (go_at_call 35; refine (toLeaper_any a b _).mono ?_; rintro e wl ⟨rfl, hb⟩; (repeat (first | replace hb := below_undrew hb | replace hb := below_undrewN hb)); replace HBG := Lib.hid (Nat.le_trans HBG.out hb.size); replace BA := Lib.hid (BA.out.keep hb); replace BLp := Lib.hid (BLp.out.keep hb); replace BXw := Lib.hid (BXw.out.keep hb); replace BXx := Lib.hid (BXx.out.keep hb); replace OW1 := Lib.hid (OW1.out.keep hb); replace OW2 := Lib.hid (OW2.out.keep hb); replace Ox := Lib.hid (Ox.out.keep hb); replace Oq := Lib.hid (Oq.out.keep hb); replace BN := Lib.hid (BN.out.keep hb); replace HSZ := Lib.hid (Nat.le_trans HSZ.out hb.size); replace B := Lib.hid (below_next B.out hb); clear hb)
          (try go_wp2_with fail)
          refine hK.out _ _ ?_ (fun hHeld => ?_)
          · (try dsimp only)
            exact ⟨BXx.out.cell rfl, BXx.out.cell rfl, BXx.out.cell rfl, BLp.out.cell rfl, BLp.out.cell rfl⟩
          clear hK K
          (try simp only [Act.put, List.setIfInBounds_toArray, List.set_cons_zero, List.set_cons_succ])
          refine wpAnyH_ready (rs := [5]) (by kernel_rfl) (by simp) ?_
          refine AllReadyH.cons (o := ⟨_, _, _, _, _, _⟩) rfl (fun K hK => ?_) AllReadyH.nil
          go_simp
          (go_at_call 36; refine (impl_MakePuzzle W H _ _ _ xs a b _ _ _ ps q _ (by exact Ox.out.rd) (by exact Oq.out.rd)).mono ?_; rintro e wc ⟨AG, nG, cG, AG2, nG2, cG2, rfl, o1, o2, hap, hb⟩; (repeat (first | replace hb := below_undrew hb | replace hb := below_undrewN hb)); have On1 := Lib.hid (o1.lower (show lG ≤ wl.heap.size from HBG.out)); have On2 := Lib.hid (o2.lower (show lG ≤ wl.heap.size from HBG.out)); have HAPn := Lib.hid hap; have HNE1 := Lib.hid (show ∀ y, AG = some y → y.block ≠ kv from fun y hy => by have h8 : wl.heap.size ≤ y.block := (o1.span y hy).1; have h9 := BN.out.lt; omega); have HNE2 := Lib.hid (show ∀ y, AG2 = some y → y.block ≠ kv from fun y hy => by have h8 : wl.heap.size ≤ y.block := (o2.span y hy).1; have h9 := BN.out.lt; omega); replace HBG := Lib.hid (Nat.le_trans HBG.out hb.size); clear o1 o2 hap; replace BA := Lib.hid (BA.out.keep hb); replace BLp := Lib.hid (BLp.out.keep hb); replace BXw := Lib.hid (BXw.out.keep hb); replace BXx := Lib.hid (BXx.out.keep hb); replace OW1 := Lib.hid (OW1.out.keep hb); replace OW2 := Lib.hid (OW2.out.keep hb); replace Ox := Lib.hid (Ox.out.keep hb); replace Oq := Lib.hid (Oq.out.keep hb); replace BN := Lib.hid (BN.out.keep hb); replace HSZ := Lib.hid (Nat.le_trans HSZ.out hb.size); replace B := Lib.hid (below_next B.out hb); clear hb)
          (try go_wp2_with fail)
          refine hK.out _ _ ?_ (fun hHeld => ?_)
          · (try dsimp only)
            exact ⟨BXx.out.cell rfl, BXx.out.cell rfl, BXx.out.cell rfl, BLp.out.cell rfl, BLp.out.cell rfl⟩
          clear hK K
          (try simp only [Act.put, List.setIfInBounds_toArray, List.set_cons_zero, List.set_cons_succ])
          refine wpAnyH_take (i := 6) (oi := ⟨_, _, _, _, _, _⟩) (v := ?_) rfl (by kernel_rfl) (by kernel_rfl) (by kernel_rfl) (fun _ _ _ h => h) (Or.inl ⟨by rfl, ?_⟩) (by assumption) ?_
          rotate_left
          · intro w hSw
            (try dsimp only at hSw)
            go_simp
            (try with_reducible rfl)
          (try simp only [Act.put, List.setIfInBounds_toArray, List.set_cons_zero, List.set_cons_succ])
          refine wpAnyH_take (i := 7) (oi := ⟨_, _, _, _, _, _⟩) (v := ?_) rfl (by kernel_rfl) (by kernel_rfl) (by kernel_rfl) (fun _ _ _ h => h) (Or.inl ⟨by rfl, ?_⟩) (by assumption) ?_
          rotate_left
          · intro w hSw
            (try dsimp only at hSw)
            go_simp
            (try with_reducible rfl)
          (try simp only [Act.put, List.setIfInBounds_toArray, List.set_cons_zero, List.set_cons_succ])
          refine wpAnyH_take (i := 8) (oi := ⟨_, _, _, _, _, _⟩) (v := ?_) rfl (by kernel_rfl) (by kernel_rfl) (by kernel_rfl) (fun _ _ _ h => h) (Or.inl ⟨by rfl, ?_⟩) (by assumption) ?_
          rotate_left
          · intro w hSw
            (try dsimp only at hSw)
            go_simp
            (try with_reducible rfl)
          (try simp only [Act.put, List.setIfInBounds_toArray, List.set_cons_zero, List.set_cons_succ])
          refine wpAnyH_ready (rs := [10]) (by kernel_rfl) (by simp) ?_
          refine AllReadyH.cons (o := ⟨_, _, _, _, _, _⟩) rfl (fun K hK => ?_) AllReadyH.nil
          have z0 : wc.cell? ⟨kv, 0, none⟩ = some (.int .i64 0) := BN.out.cell rfl
          have z1 : wc.cell? ⟨kv, 1, none⟩ = some (.int .i64 0) := BN.out.cell rfl
          have z2 : wc.cell? ⟨kv, 2, none⟩ = some (.slice none 0 0) := BN.out.cell rfl
          have z3 : wc.cell? ⟨kv, 3, none⟩ = some (.int .i64 0) := BN.out.cell rfl
          have z4 : wc.cell? ⟨kv, 4, none⟩ = some (.int .i64 0) := BN.out.cell rfl
          have z5 : wc.cell? ⟨kv, 5, none⟩ = some (.slice none 0 0) := BN.out.cell rfl
          have f0 : wc.frozen? ⟨kv, 0, none⟩ = false := BN.out.frozen 0
          have f1 : wc.frozen? ⟨kv, 1, none⟩ = false := BN.out.frozen 1
          have f2 : wc.frozen? ⟨kv, 2, none⟩ = false := BN.out.frozen 2
          have f3 : wc.frozen? ⟨kv, 3, none⟩ = false := BN.out.frozen 3
          have f4 : wc.frozen? ⟨kv, 4, none⟩ = false := BN.out.frozen 4
          have f5 : wc.frozen? ⟨kv, 5, none⟩ = false := BN.out.frozen 5
          go_simp
          obtain ⟨wq, hWn⟩ : ∃ W5, W5 = (((((wc.setCell ⟨kv, 0, none⟩ (.int .i64 (zi (MakePuzzle_ok W H xs a b ps q) W))).setCell ⟨kv, 1, none⟩ (.int .i64 (zi (MakePuzzle_ok W H xs a b ps q) H))).setCell ⟨kv, 2, none⟩ (.slice AG nG cG)).setCell ⟨kv, 3, none⟩ (.int .i64 (zi (MakePuzzle_ok W H xs a b ps q) a))).setCell ⟨kv, 4, none⟩ (.int .i64 (zi (MakePuzzle_ok W H xs a b ps q) b))).setCell ⟨kv, 5, none⟩ (.slice AG2 nG2 cG2) := ⟨_, rfl⟩
          have hgr : wc.grownBy wq (some (kv)) := by rw [hWn]; exact (grown_next (grown_next (grown_next (grown_next (grown_next (grownSet1 wc ⟨kv, 0, none⟩ (.int .i64 (zi (MakePuzzle_ok W H xs a b ps q) W))) (grownSet1 _ ⟨kv, 1, none⟩ (.int .i64 (zi (MakePuzzle_ok W H xs a b ps q) H)))) (grownSet1 _ ⟨kv, 2, none⟩ (.slice AG nG cG))) (grownSet1 _ ⟨kv, 3, none⟩ (.int .i64 (zi (MakePuzzle_ok W H xs a b ps q) a)))) (grownSet1 _ ⟨kv, 4, none⟩ (.int .i64 (zi (MakePuzzle_ok W H xs a b ps q) b)))) (grownSet1 _ ⟨kv, 5, none⟩ (.slice AG2 nG2 cG2)))
          replace BN := Lib.hid (show Bx wq (kv) #[.int .i64 (zi (MakePuzzle_ok W H xs a b ps q) W), .int .i64 (zi (MakePuzzle_ok W H xs a b ps q) H), .slice AG nG cG, .int .i64 (zi (MakePuzzle_ok W H xs a b ps q) a), .int .i64 (zi (MakePuzzle_ok W H xs a b ps q) b), .slice AG2 nG2 cG2] 34 by rw [hWn]; exact ((((((BN.out.set 0 (.int .i64 (zi (MakePuzzle_ok W H xs a b ps q) W))).set 1 (.int .i64 (zi (MakePuzzle_ok W H xs a b ps q) H))).set 2 (.slice AG nG cG)).set 3 (.int .i64 (zi (MakePuzzle_ok W H xs a b ps q) a))).set 4 (.int .i64 (zi (MakePuzzle_ok W H xs a b ps q) b))).set 5 (.slice AG2 nG2 cG2)))
          replace BA := Lib.hid (BA.out.grown hgr (by have := VBA.out; have := Hkv.out; simp; omega))
          replace BLp := Lib.hid (BLp.out.grown hgr (by have := VBLp.out; have := Hkv.out; simp; omega))
          replace BXw := Lib.hid (BXw.out.grown hgr (by have := VBXw.out; have := Hkv.out; simp; omega))
          replace BXx := Lib.hid (BXx.out.grown hgr (by have := VBXx.out; have := Hkv.out; simp; omega))
          replace OW1 := Lib.hid (OW1.out.other hgr (fun a9 ha9 he => by injection he with he; have := UOW1.out a9 ha9; have := Hkv.out; omega))
          replace OW2 := Lib.hid (OW2.out.other hgr (fun a9 ha9 he => by injection he with he; have := UOW2.out a9 ha9; have := Hkv.out; omega))
          replace Ox := Lib.hid (Ox.out.other hgr (fun a9 ha9 he => by injection he with he; have := UOx.out a9 ha9; have := Hkv.out; omega))
          replace Oq := Lib.hid (Oq.out.other hgr (fun a9 ha9 he => by injection he with he; have := UOq.out a9 ha9; have := Hkv.out; omega))
          replace On1 := Lib.hid (On1.out.other hgr (fun a9 ha9 he => by injection he with he; exact HNE1.out a9 ha9 he))
          replace On2 := Lib.hid (On2.out.other hgr (fun a9 ha9 he => by injection he with he; exact HNE2.out a9 ha9 he))
          replace HSZ := Lib.hid (Nat.le_trans HSZ.out hgr.size)
          replace B := Lib.hid (B.out.grown hgr B.out.size (fun g9 h9 => by injection h9 with h9; have := Hkv.out; have := HBBG.out; omega))
          replace HBG := Lib.hid (Nat.le_trans HBG.out hgr.size)
          rw [← hWn]
          clear hWn hgr z0 f0 z1 f1 z2 f2 z3 f3 z4 f4 z5 f5
          refine hK.out _ _ ?_ (fun hHeld => ?_)
          · (try dsimp only)
            exact ⟨BXx.out.cell rfl, BXx.out.cell rfl, BXx.out.cell rfl, BLp.out.cell rfl, BLp.out.cell rfl⟩
          clear hK K
          (try simp only [Act.put, List.setIfInBounds_toArray, List.set_cons_zero, List.set_cons_succ])
          refine wpAnyH_take (i := 11) (oi := ⟨_, _, _, _, _, _⟩) (v := ?_) rfl (by kernel_rfl) (by kernel_rfl) (by kernel_rfl) (fun _ _ _ h => h) (Or.inl ⟨by rfl, ?_⟩) (by assumption) ?_
          rotate_left
          · intro w hSw
            (try dsimp only at hSw)
            go_simp
            (try with_reducible rfl)
          (try simp only [Act.put, List.setIfInBounds_toArray, List.set_cons_zero, List.set_cons_succ])
          refine wpAnyH_done (by kernel_rfl) ?_ _
          clear hHeld
          (try go_wp2_with fail)
          go_meet
          exact ⟨kv, AG, nG, cG, AG2, nG2, cG2, rfl, rfl, BA.out, BLp.out, BXw.out, BXx.out, OW1.out, OW2.out, Ox.out, Oq.out, On1.out, On2.out, HAPn.out, HNE1.out, HNE2.out, Hkv.out, HBG.out, BN.out, HSZ.out, B.out⟩
      case rest =>
        clear BA BLp BXw BXx OW1 OW2 Ox Oq HSZ B HBG
        obtain ⟨kv, AG, nG, cG, AG2, nG2, cG2, rfl, rfl, b_ba, b_blp, b_bxw, b_bxx, o_ow1, o_ow2, o_ox, o_oq, o1, o2, hap, hne1, hne2, hkn, hsz2, bn, hsz, hbw⟩ := hcut
        have BA := Lib.hid b_ba
        have BLp := Lib.hid b_blp
        have BXw := Lib.hid b_bxw
        have BXx := Lib.hid b_bxx
        have OW1 := Lib.hid o_ow1
        have OW2 := Lib.hid o_ow2
        have Ox := Lib.hid o_ox
        have Oq := Lib.hid o_oq
        have OG1 := Lib.hid o1; have OG2 := Lib.hid o2; have HAG := Lib.hid hap; have HEG1 := Lib.hid hne1; have HEG2 := Lib.hid hne2; have HKG := Lib.hid hkn; have BXv := Lib.hid bn; have HSZ := Lib.hid hsz; have B := Lib.hid hbw; have HZG := Lib.hid hsz2
        clear b_ba b_blp b_bxw b_bxx o_ow1 o_ow2 o_ox o_oq o1 o2 hap hne1 hne2 hkn hsz2 bn hsz hbw
        have LB := Lib.hid (len_MakePuzzle W H xs a b ps q)
        have HSG := Lib.hid (show nG ≤ 1000000 by rw [← OG1.out.len]; exact LB.out.1); have HSG2 := Lib.hid (show nG2 ≤ 1000000 by rw [← OG2.out.len]; exact LB.out.2)
        have v0 := BXv.out.cell (j := 0) (v := .int .i64 (zi (MakePuzzle_ok W H xs a b ps q) W)) rfl
        have v1 := BXv.out.cell (j := 1) (v := .int .i64 (zi (MakePuzzle_ok W H xs a b ps q) H)) rfl
        have v2 := BXv.out.cell (j := 2) (v := .slice AG nG cG) rfl
        have v3 := BXv.out.cell (j := 3) (v := .int .i64 (zi (MakePuzzle_ok W H xs a b ps q) a)) rfl
        have v4 := BXv.out.cell (j := 4) (v := .int .i64 (zi (MakePuzzle_ok W H xs a b ps q) b)) rfl
        have v5 := BXv.out.cell (j := 5) (v := .slice AG2 nG2 cG2) rfl
        have vl := BXv.out.lt
        have u0 := BXw.out.cell (j := 0) (v := .int .i64 (zi (MakePuzzle_ok W H xs a b ps q) W)) rfl
        have u1 := BXw.out.cell (j := 1) (v := .int .i64 (zi (MakePuzzle_ok W H xs a b ps q) H)) rfl
        have u2 := BXw.out.cell (j := 2) (v := .slice AW nW cW) rfl
        have u3 := BXw.out.cell (j := 3) (v := .int .i64 (zi (MakePuzzle_ok W H xs a b ps q) a)) rfl
        have u4 := BXw.out.cell (j := 4) (v := .int .i64 (zi (MakePuzzle_ok W H xs a b ps q) b)) rfl
        have u5 := BXw.out.cell (j := 5) (v := .slice AW2 nW2 cW2) rfl
        have ul := BXw.out.lt
        go_wp2_with fail
        clear v0 v1 v2 v3 v4 v5 vl
        clear u0 u1 u2 u3 u4 u5 ul
        refine (eqPuzzle_any (zi (MakePuzzle_ok W H xs a b ps q) W) (zi (MakePuzzle_ok W H xs a b ps q) H) _ _ _ (zi (MakePuzzle_ok W H xs a b ps q) a) (zi (MakePuzzle_ok W H xs a b ps q) b) _ _ _ _ _ _ _ _ _ (zl (MakePuzzle_ok W H xs a b ps q) (MakePuzzle_xs W H xs a b ps q)) (zl (MakePuzzle_ok W H xs a b ps q) (MakePuzzle_ns W H xs a b ps q)) (zl (MakePuzzle_ok W H xs a b ps q) (MakePuzzle_xs W H xs a b ps q)) (zl (MakePuzzle_ok W H xs a b ps q) (MakePuzzle_ns W H xs a b ps q)) _ OG1.out.rd OG2.out.rd OW1.out.rd OW2.out.rd).mono ?_
        simp only [decide_true, Bool.and_self]
        rintro e wv ⟨rfl, hb⟩
        replace BA := Lib.hid (BA.out.keep hb)
        replace BLp := Lib.hid (BLp.out.keep hb)
        replace BXw := Lib.hid (BXw.out.keep hb)
        replace BXx := Lib.hid (BXx.out.keep hb)
        replace BXv := Lib.hid (BXv.out.keep hb)
        replace OW1 := Lib.hid (OW1.out.keep hb)
        replace OW2 := Lib.hid (OW2.out.keep hb)
        replace Ox := Lib.hid (Ox.out.keep hb)
        replace Oq := Lib.hid (Oq.out.keep hb)
        replace OG1 := Lib.hid (OG1.out.keep hb)
        replace OG2 := Lib.hid (OG2.out.keep hb)
        replace HSZ := Lib.hid (Nat.le_trans HSZ.out hb.size)
        replace B := Lib.hid (below_next B.out hb)
        clear hb
        go_wp2_with fail
        refine wp_region_held_drew (S := fun w' => w'.cell? ⟨kx, 0, none⟩ = some (.int .i64 W) ∧ w'.cell? ⟨kx, 1, none⟩ = some (.int .i64 H) ∧ w'.cell? ⟨kx, 2, none⟩ = some (.slice (some ⟨gx, 0, none⟩) n n) ∧ w'.cell? ⟨w.heap.size, 0, none⟩ = some (.int .i64 W) ∧ w'.cell? ⟨w.heap.size, 1, none⟩ = some (.int .i64 H) ∧ w'.cell? ⟨w.heap.size, 2, none⟩ = some (.slice A n c)) (by kernel_rfl) ?_ (fun hHeld => ?_)
        · (try dsimp only)
          exact ⟨BXx.out.cell rfl, BXx.out.cell rfl, BXx.out.cell rfl, BA.out.cell rfl, BA.out.cell rfl, BA.out.cell rfl⟩
        refine wpAnyH_take (i := 0) (oi := ⟨_, _, _, _, _, _⟩) (v := ?_) rfl (by kernel_rfl) (by kernel_rfl) (by kernel_rfl) (fun _ _ _ h => h) (Or.inl ⟨by rfl, ?_⟩) (by assumption) ?_
        rotate_left
        · intro w hSw
          (try dsimp only at hSw)
          go_simp
          (try with_reducible rfl)
        (try simp only [Act.put, List.setIfInBounds_toArray, List.set_cons_zero, List.set_cons_succ])
        refine wpAnyH_take (i := 1) (oi := ⟨_, _, _, _, _, _⟩) (v := ?_) rfl (by kernel_rfl) (by kernel_rfl) (by kernel_rfl) (fun _ _ _ h => h) (Or.inl ⟨by rfl, ?_⟩) (by assumption) ?_
        rotate_left
        · intro w hSw
          (try dsimp only at hSw)
          go_simp
          (try with_reducible rfl)
        (try simp only [Act.put, List.setIfInBounds_toArray, List.set_cons_zero, List.set_cons_succ])
        refine wpAnyH_ready (rs := [2]) (by kernel_rfl) (by simp) ?_
        refine AllReadyH.cons (o := ⟨_, _, _, _, _, _⟩) rfl (fun K hK => ?_) AllReadyH.nil
        go_simp
        (go_at_call 34; refine (toBoard_any W H A n c xs _ (by exact (RA0.out.keep B.out).drew1) (by have := HnB.out; omega)).mono ?_; rintro e wy ⟨gy, rfl, own, hb⟩; (repeat (first | replace hb := below_undrew hb | replace hb := below_undrewN hb)); replace BA := Lib.hid (BA.out.keep hb); replace BLp := Lib.hid (BLp.out.keep hb); replace BXw := Lib.hid (BXw.out.keep hb); replace BXx := Lib.hid (BXx.out.keep hb); replace BXv := Lib.hid (BXv.out.keep hb); replace OW1 := Lib.hid (OW1.out.keep hb); replace OW2 := Lib.hid (OW2.out.keep hb); replace Ox := Lib.hid (Ox.out.keep hb); replace Oq := Lib.hid (Oq.out.keep hb); replace OG1 := Lib.hid (OG1.out.keep hb); replace OG2 := Lib.hid (OG2.out.keep hb); replace HSZ := Lib.hid (Nat.le_trans HSZ.out hb.size); replace B := Lib.hid (below_next B.out hb); have Oy := Lib.hid own; clear own hb)
        (try go_wp2_with fail)
        refine hK.out _ _ ?_ (fun hHeld => ?_)
        · (try dsimp only)
          exact ⟨BXx.out.cell rfl, BXx.out.cell rfl, BXx.out.cell rfl, BA.out.cell rfl, BA.out.cell rfl, BA.out.cell rfl⟩
        clear hK K
        (try simp only [Act.put, List.setIfInBounds_toArray, List.set_cons_zero, List.set_cons_succ])
        refine wpAnyH_ready (rs := [3]) (by kernel_rfl) (by simp) ?_
        refine AllReadyH.cons (o := ⟨_, _, _, _, _, _⟩) rfl (fun K hK => ?_) AllReadyH.nil
        go_simp
        (go_at_call 37; refine (eqBoard_any W H _ _ _ _ _ _ xs xs _ Ox.out.rd Oy.out.rd).mono ?_; simp only [decide_true]; rintro e wv ⟨rfl, hb⟩; (repeat (first | replace hb := below_undrew hb | replace hb := below_undrewN hb)); replace BA := Lib.hid (BA.out.keep hb); replace BLp := Lib.hid (BLp.out.keep hb); replace BXw := Lib.hid (BXw.out.keep hb); replace BXx := Lib.hid (BXx.out.keep hb); replace BXv := Lib.hid (BXv.out.keep hb); replace OW1 := Lib.hid (OW1.out.keep hb); replace OW2 := Lib.hid (OW2.out.keep hb); replace Ox := Lib.hid (Ox.out.keep hb); replace Oq := Lib.hid (Oq.out.keep hb); replace OG1 := Lib.hid (OG1.out.keep hb); replace OG2 := Lib.hid (OG2.out.keep hb); replace HSZ := Lib.hid (Nat.le_trans HSZ.out hb.size); replace B := Lib.hid (below_next B.out hb); clear hb; clear Oy)
        (try go_wp2_with fail)
        refine hK.out _ _ ?_ (fun hHeld => ?_)
        · (try dsimp only)
          exact ⟨BXx.out.cell rfl, BXx.out.cell rfl, BXx.out.cell rfl, BA.out.cell rfl, BA.out.cell rfl, BA.out.cell rfl⟩
        clear hK K
        (try simp only [Act.put, List.setIfInBounds_toArray, List.set_cons_zero, List.set_cons_succ])
        refine wpAnyH_take (i := 4) (oi := ⟨_, _, _, _, _, _⟩) (v := ?_) rfl (by kernel_rfl) (by kernel_rfl) (by kernel_rfl) (fun _ _ _ h => h) (Or.inl ⟨by rfl, ?_⟩) (by assumption) ?_
        rotate_left
        · intro w hSw
          (try dsimp only at hSw)
          go_simp
          (try with_reducible rfl)
        (try simp only [Act.put, List.setIfInBounds_toArray, List.set_cons_zero, List.set_cons_succ])
        refine wpAnyH_done (by kernel_rfl) ?_ _
        clear hHeld
        go_wp2_with fail
        refine (toIntS_any A3 m3 c3 ps _ (by first | exact (RQ0.out.keep B.out) | exact (RQ0.out.keep B.out).drew1) (by have := HQ9.out; omega)).mono ?_
        rintro e wv ⟨gy, rfl, own, hb⟩
        (repeat (first | replace hb := below_undrew hb | replace hb := below_undrewN hb))
        replace BA := Lib.hid (BA.out.keep hb)
        replace BLp := Lib.hid (BLp.out.keep hb)
        replace BXw := Lib.hid (BXw.out.keep hb)
        replace BXx := Lib.hid (BXx.out.keep hb)
        replace BXv := Lib.hid (BXv.out.keep hb)
        replace OW1 := Lib.hid (OW1.out.keep hb)
        replace OW2 := Lib.hid (OW2.out.keep hb)
        replace Ox := Lib.hid (Ox.out.keep hb)
        replace Oq := Lib.hid (Oq.out.keep hb)
        replace OG1 := Lib.hid (OG1.out.keep hb)
        replace OG2 := Lib.hid (OG2.out.keep hb)
        replace HSZ := Lib.hid (Nat.le_trans HSZ.out hb.size)
        replace B := Lib.hid (below_next B.out hb)
        have Oy := Lib.hid own
        clear own hb
        go_wp2_with fail
        refine (eqIntS_any _ _ _ _ _ _ ps ps _ Oq.out.rd Oy.out.rd).mono ?_
        simp only [decide_true]
        rintro e wv ⟨rfl, hb⟩
        replace BA := Lib.hid (BA.out.keep hb)
        replace BLp := Lib.hid (BLp.out.keep hb)
        replace BXw := Lib.hid (BXw.out.keep hb)
        replace BXx := Lib.hid (BXx.out.keep hb)
        replace BXv := Lib.hid (BXv.out.keep hb)
        replace OW1 := Lib.hid (OW1.out.keep hb)
        replace OW2 := Lib.hid (OW2.out.keep hb)
        replace Ox := Lib.hid (Ox.out.keep hb)
        replace Oq := Lib.hid (Oq.out.keep hb)
        replace OG1 := Lib.hid (OG1.out.keep hb)
        replace OG2 := Lib.hid (OG2.out.keep hb)
        replace HSZ := Lib.hid (Nat.le_trans HSZ.out hb.size)
        replace B := Lib.hid (below_next B.out hb)
        clear hb
        clear Oy
        have NE_BA_gx := Lib.hid (show w.heap.size ≠ gx by have h1 := HXK.out; have h2 := HXQ.out; have h3 := HXW.out; have h4 := HKG.out; have h5 := UOx.out _ rfl; have h6 := UOq.out _ rfl; have h9 := HGX.out; dsimp only at h5 h6; omega)
        have NE_BLp_gx := Lib.hid (show w.heap.size + 1 ≠ gx by have h1 := HXK.out; have h2 := HXQ.out; have h3 := HXW.out; have h4 := HKG.out; have h5 := UOx.out _ rfl; have h6 := UOq.out _ rfl; have h9 := HGX.out; dsimp only at h5 h6; omega)
        have NE_BXw_gx := Lib.hid (show kw ≠ gx by have h1 := HXK.out; have h2 := HXQ.out; have h3 := HXW.out; have h4 := HKG.out; have h5 := UOx.out _ rfl; have h6 := UOq.out _ rfl; have h9 := HGX.out; dsimp only at h5 h6; omega)
        have NE_BXv_gx := Lib.hid (show kv ≠ gx by have h1 := HXK.out; have h2 := HXQ.out; have h3 := HXW.out; have h4 := HKG.out; have h5 := UOx.out _ rfl; have h6 := UOq.out _ rfl; have h9 := HGX.out; dsimp only at h5 h6; omega)
        have NE_OG1_gx := Lib.hid (show ∀ y, AG = some y → y.block ≠ gx from fun y hy => by have h0 := (OG1.out.span y hy).1; have h5 := UOx.out _ rfl; have h6 := UOq.out _ rfl; dsimp only at h5 h6; omega)
        have NE_OG2_gx := Lib.hid (show ∀ y, AG2 = some y → y.block ≠ gx from fun y hy => by have h0 := (OG2.out.span y hy).1; have h5 := UOx.out _ rfl; have h6 := UOq.out _ rfl; dsimp only at h5 h6; omega)
        have NE_OW1_gx := Lib.hid (show ∀ y, AW = some y → y.block ≠ gx from fun y hy => by have h0 := HWX1.out y hy; have h1 := HXK.out; have h2 := HXQ.out; omega)
        have NE_OW2_gx := Lib.hid (show ∀ y, AW2 = some y → y.block ≠ gx from fun y hy => by have h0 := HWX2.out y hy; have h1 := HXK.out; have h2 := HXQ.out; omega)
        have NE_BA_gq := Lib.hid (show w.heap.size ≠ gq by have h1 := HXK.out; have h2 := HXQ.out; have h3 := HXW.out; have h4 := HKG.out; have h5 := UOx.out _ rfl; have h6 := UOq.out _ rfl; have h9 := HGX.out; dsimp only at h5 h6; omega)
        have NE_BLp_gq := Lib.hid (show w.heap.size + 1 ≠ gq by have h1 := HXK.out; have h2 := HXQ.out; have h3 := HXW.out; have h4 := HKG.out; have h5 := UOx.out _ rfl; have h6 := UOq.out _ rfl; have h9 := HGX.out; dsimp only at h5 h6; omega)
        have NE_BXw_gq := Lib.hid (show kw ≠ gq by have h1 := HXK.out; have h2 := HXQ.out; have h3 := HXW.out; have h4 := HKG.out; have h5 := UOx.out _ rfl; have h6 := UOq.out _ rfl; have h9 := HGX.out; dsimp only at h5 h6; omega)
        have NE_BXv_gq := Lib.hid (show kv ≠ gq by have h1 := HXK.out; have h2 := HXQ.out; have h3 := HXW.out; have h4 := HKG.out; have h5 := UOx.out _ rfl; have h6 := UOq.out _ rfl; have h9 := HGX.out; dsimp only at h5 h6; omega)
        have NE_OG1_gq := Lib.hid (show ∀ y, AG = some y → y.block ≠ gq from fun y hy => by have h0 := (OG1.out.span y hy).1; have h5 := UOx.out _ rfl; have h6 := UOq.out _ rfl; dsimp only at h5 h6; omega)
        have NE_OG2_gq := Lib.hid (show ∀ y, AG2 = some y → y.block ≠ gq from fun y hy => by have h0 := (OG2.out.span y hy).1; have h5 := UOx.out _ rfl; have h6 := UOq.out _ rfl; dsimp only at h5 h6; omega)
        have NE_OW1_gq := Lib.hid (show ∀ y, AW = some y → y.block ≠ gq from fun y hy => by have h0 := HWX1.out y hy; have h1 := HXK.out; have h2 := HXQ.out; omega)
        have NE_OW2_gq := Lib.hid (show ∀ y, AW2 = some y → y.block ≠ gq from fun y hy => by have h0 := HWX2.out y hy; have h1 := HXK.out; have h2 := HXQ.out; omega)
        have NE_Oq_gx := Lib.hid (show ∀ y, some (⟨gq, 0, none⟩ : Addr) = some y → y.block ≠ gx from fun y hy => by injection hy with hy; have h1 := HXK.out; have h2 := HXQ.out; rw [← hy]; dsimp only; omega)
        have x0 := BXx.out.cell (j := 0) (v := .int .i64 W) rfl
        have x1 := BXx.out.cell (j := 1) (v := .int .i64 H) rfl
        have x2 := BXx.out.cell (j := 2) (v := .slice (some ⟨gx, 0, none⟩) n n) rfl
        have xl := BXx.out.lt
        go_wp2_with fail
        clear x0 x1 x2 xl
        refine (markBoard_any _ _ _ _ _ _ 1 xs _ Ox.out (by omega) (by have := HnB.out; omega)).mono ?_
        rintro e wv' ⟨rfl, o1, hg⟩
        replace BA := Lib.hid (BA.out.grown hg (by have h9 := NE_BA_gx.out; simpa [rowOf] using h9))
        replace BLp := Lib.hid (BLp.out.grown hg (by have h9 := NE_BLp_gx.out; simpa [rowOf] using h9))
        replace BXw := Lib.hid (BXw.out.grown hg (by have h9 := NE_BXw_gx.out; simpa [rowOf] using h9))
        replace BXv := Lib.hid (BXv.out.grown hg (by have h9 := NE_BXv_gx.out; simpa [rowOf] using h9))
        replace OW1 := Lib.hid (OW1.out.other hg (fun a ha h9 => NE_OW1_gx.out a ha (by simpa [rowOf] using h9)))
        replace OW2 := Lib.hid (OW2.out.other hg (fun a ha h9 => NE_OW2_gx.out a ha (by simpa [rowOf] using h9)))
        replace Oq := Lib.hid (Oq.out.other hg (fun a ha h9 => NE_Oq_gx.out a ha (by simpa [rowOf] using h9)))
        replace OG1 := Lib.hid (OG1.out.other hg (fun a ha h9 => NE_OG1_gx.out a ha (by simpa [rowOf] using h9)))
        replace OG2 := Lib.hid (OG2.out.other hg (fun a ha h9 => NE_OG2_gx.out a ha (by simpa [rowOf] using h9)))
        replace B := Lib.hid (B.out.grown hg B.out.size (fun g9 h9 => by simp [rowOf] at h9; have := HGX.out; have := HXK.out; have := HXQ.out; omega))
        replace HSZ := Lib.hid (Nat.le_trans HSZ.out hg.size)
        clear o1 hg
        obtain ⟨wv, hwq⟩ : ∃ w5, w5 = wv' := ⟨_, rfl⟩
        subst hwq
        clear Ox BXx
        go_wp2_with fail
        refine (markIntS_any _ _ _ _ (1 + n) ps _ Oq.out (by omega) (by have := HnB.out; have := HQ9.out; omega)).mono ?_
        rintro e wv' ⟨rfl, o1, hg⟩
        replace BA := Lib.hid (BA.out.grown hg (by have h9 := NE_BA_gq.out; simpa [rowOf] using h9))
        replace BLp := Lib.hid (BLp.out.grown hg (by have h9 := NE_BLp_gq.out; simpa [rowOf] using h9))
        replace BXw := Lib.hid (BXw.out.grown hg (by have h9 := NE_BXw_gq.out; simpa [rowOf] using h9))
        replace BXv := Lib.hid (BXv.out.grown hg (by have h9 := NE_BXv_gq.out; simpa [rowOf] using h9))
        replace OW1 := Lib.hid (OW1.out.other hg (fun a ha h9 => NE_OW1_gq.out a ha (by simpa [rowOf] using h9)))
        replace OW2 := Lib.hid (OW2.out.other hg (fun a ha h9 => NE_OW2_gq.out a ha (by simpa [rowOf] using h9)))
        replace OG1 := Lib.hid (OG1.out.other hg (fun a ha h9 => NE_OG1_gq.out a ha (by simpa [rowOf] using h9)))
        replace OG2 := Lib.hid (OG2.out.other hg (fun a ha h9 => NE_OG2_gq.out a ha (by simpa [rowOf] using h9)))
        replace B := Lib.hid (B.out.grown hg B.out.size (fun g9 h9 => by simp [rowOf] at h9; have := HGX.out; have := HXK.out; have := HXQ.out; omega))
        replace HSZ := Lib.hid (Nat.le_trans HSZ.out hg.size)
        clear o1 hg
        obtain ⟨wv, hwq⟩ : ∃ w5, w5 = wv' := ⟨_, rfl⟩
        subst hwq
        clear Oq
        have hnz : ¬ ((1 : Int) + n + m3 < 0) := by omega
        have v0 := BXv.out.cell (j := 0) (v := .int .i64 (zi (MakePuzzle_ok W H xs a b ps q) W)) rfl
        have v1 := BXv.out.cell (j := 1) (v := .int .i64 (zi (MakePuzzle_ok W H xs a b ps q) H)) rfl
        have v2 := BXv.out.cell (j := 2) (v := .slice AG nG cG) rfl
        have v3 := BXv.out.cell (j := 3) (v := .int .i64 (zi (MakePuzzle_ok W H xs a b ps q) a)) rfl
        have v4 := BXv.out.cell (j := 4) (v := .int .i64 (zi (MakePuzzle_ok W H xs a b ps q) b)) rfl
        have v5 := BXv.out.cell (j := 5) (v := .slice AG2 nG2 cG2) rfl
        have vl := BXv.out.lt
        have u0 := BXw.out.cell (j := 0) (v := .int .i64 (zi (MakePuzzle_ok W H xs a b ps q) W)) rfl
        have u1 := BXw.out.cell (j := 1) (v := .int .i64 (zi (MakePuzzle_ok W H xs a b ps q) H)) rfl
        have u2 := BXw.out.cell (j := 2) (v := .slice AW nW cW) rfl
        have u3 := BXw.out.cell (j := 3) (v := .int .i64 (zi (MakePuzzle_ok W H xs a b ps q) a)) rfl
        have u4 := BXw.out.cell (j := 4) (v := .int .i64 (zi (MakePuzzle_ok W H xs a b ps q) b)) rfl
        have u5 := BXw.out.cell (j := 5) (v := .slice AW2 nW2 cW2) rfl
        have ul := BXw.out.lt
        go_wp2_with fail
        clear v0 v1 v2 v3 v4 v5 vl
        clear u0 u1 u2 u3 u4 u5 ul
        refine (eqPuzzle_any (zi (MakePuzzle_ok W H xs a b ps q) W) (zi (MakePuzzle_ok W H xs a b ps q) H) _ _ _ (zi (MakePuzzle_ok W H xs a b ps q) a) (zi (MakePuzzle_ok W H xs a b ps q) b) _ _ _ _ _ _ _ _ _ (zl (MakePuzzle_ok W H xs a b ps q) (MakePuzzle_xs W H xs a b ps q)) (zl (MakePuzzle_ok W H xs a b ps q) (MakePuzzle_ns W H xs a b ps q)) (zl (MakePuzzle_ok W H xs a b ps q) (MakePuzzle_xs W H xs a b ps q)) (zl (MakePuzzle_ok W H xs a b ps q) (MakePuzzle_ns W H xs a b ps q)) _ OG1.out.rd OG2.out.rd OW1.out.rd OW2.out.rd).mono ?_
        simp only [decide_true, Bool.and_self]
        rintro e wv ⟨rfl, hb⟩
        replace BA := Lib.hid (BA.out.keep hb)
        replace BLp := Lib.hid (BLp.out.keep hb)
        replace BXw := Lib.hid (BXw.out.keep hb)
        replace BXv := Lib.hid (BXv.out.keep hb)
        replace OW1 := Lib.hid (OW1.out.keep hb)
        replace OW2 := Lib.hid (OW2.out.keep hb)
        replace OG1 := Lib.hid (OG1.out.keep hb)
        replace OG2 := Lib.hid (OG2.out.keep hb)
        replace HSZ := Lib.hid (Nat.le_trans HSZ.out hb.size)
        replace B := Lib.hid (below_next B.out hb)
        clear hb
        have v0 := BXv.out.cell (j := 0) (v := .int .i64 (zi (MakePuzzle_ok W H xs a b ps q) W)) rfl
        have v1 := BXv.out.cell (j := 1) (v := .int .i64 (zi (MakePuzzle_ok W H xs a b ps q) H)) rfl
        have v2 := BXv.out.cell (j := 2) (v := .slice AG nG cG) rfl
        have v3 := BXv.out.cell (j := 3) (v := .int .i64 (zi (MakePuzzle_ok W H xs a b ps q) a)) rfl
        have v4 := BXv.out.cell (j := 4) (v := .int .i64 (zi (MakePuzzle_ok W H xs a b ps q) b)) rfl
        have v5 := BXv.out.cell (j := 5) (v := .slice AG2 nG2 cG2) rfl
        have vl := BXv.out.lt
        go_wp2_with fail
        clear v0 v1 v2 v3 v4 v5 vl
        refine (markPuzzle_any _ _ _ _ _ _ _ _ _ _ _ 1 _ _ _ OG1.out OG2.out HAG.out.ne HAG.out.ne2 (by omega) (by have := HSG.out; have := HSG2.out; omega)).mono ?_
        rintro e wv' ⟨rfl, o1, o2, w9, hg1, hg2⟩
        replace BA := Lib.hid ((BA.out.grown hg1 (row_ne fun b hb h9 => by have h0 := (OG1.out.span b hb).1; have := VBA.out; omega)).grown hg2 (row_ne fun b hb h9 => by have h0 := (OG2.out.span b hb).1; have := VBA.out; omega))
        replace BLp := Lib.hid ((BLp.out.grown hg1 (row_ne fun b hb h9 => by have h0 := (OG1.out.span b hb).1; have := VBLp.out; omega)).grown hg2 (row_ne fun b hb h9 => by have h0 := (OG2.out.span b hb).1; have := VBLp.out; omega))
        replace BXw := Lib.hid ((BXw.out.grown hg1 (row_ne fun b hb h9 => by have h0 := (OG1.out.span b hb).1; have := VBXw.out; omega)).grown hg2 (row_ne fun b hb h9 => by have h0 := (OG2.out.span b hb).1; have := VBXw.out; omega))
        replace BXv := Lib.hid ((BXv.out.grown hg1 (row_ne fun b hb h9 => by exact HEG1.out b hb h9.symm)).grown hg2 (row_ne fun b hb h9 => by exact HEG2.out b hb h9.symm))
        replace OW1 := Lib.hid ((OW1.out.other hg1 (fun a ha => row_ne fun b hb => by have h0 := (OG1.out.span b hb).1; have := UOW1.out a ha; omega)).other hg2 (fun a ha => row_ne fun b hb => by have h0 := (OG2.out.span b hb).1; have := UOW1.out a ha; omega))
        replace OW2 := Lib.hid ((OW2.out.other hg1 (fun a ha => row_ne fun b hb => by have h0 := (OG1.out.span b hb).1; have := UOW2.out a ha; omega)).other hg2 (fun a ha => row_ne fun b hb => by have h0 := (OG2.out.span b hb).1; have := UOW2.out a ha; omega))
        replace B := Lib.hid ((B.out.grown hg1 B.out.size (row_ge fun b hb => by have h0 := (OG1.out.span b hb).1; have := HBBG.out; omega)).grown hg2 (Nat.le_trans B.out.size hg1.size) (row_ge fun b hb => by have h0 := (OG2.out.span b hb).1; have := HBBG.out; omega))
        replace HSZ := Lib.hid (Nat.le_trans HSZ.out (Nat.le_trans hg1.size hg2.size))
        replace OG1 := Lib.hid o1; replace OG2 := Lib.hid o2
        clear o1 o2 hg1 hg2
        obtain ⟨wv, hwq⟩ : ∃ w5, w5 = wv' := ⟨_, rfl⟩
        subst hwq
        have v0 := BXv.out.cell (j := 0) (v := .int .i64 (zi (MakePuzzle_ok W H xs a b ps q) W)) rfl
        have v1 := BXv.out.cell (j := 1) (v := .int .i64 (zi (MakePuzzle_ok W H xs a b ps q) H)) rfl
        have v2 := BXv.out.cell (j := 2) (v := .slice AG nG cG) rfl
        have v3 := BXv.out.cell (j := 3) (v := .int .i64 (zi (MakePuzzle_ok W H xs a b ps q) a)) rfl
        have v4 := BXv.out.cell (j := 4) (v := .int .i64 (zi (MakePuzzle_ok W H xs a b ps q) b)) rfl
        have v5 := BXv.out.cell (j := 5) (v := .slice AG2 nG2 cG2) rfl
        have vl := BXv.out.lt
        go_wp2_with fail
        clear v0 v1 v2 v3 v4 v5 vl
        refine (heldPuzzle_any _ _ _ _ _ _ _ _ _ _ 1 _ OG1.out.rd OG2.out.rd (by omega) (by have := HSG.out; have := HSG2.out; omega)).mono ?_
        rintro e wv ⟨rfl, hb⟩
        replace BA := Lib.hid (BA.out.keep hb)
        replace BLp := Lib.hid (BLp.out.keep hb)
        replace BXw := Lib.hid (BXw.out.keep hb)
        replace BXv := Lib.hid (BXv.out.keep hb)
        replace OW1 := Lib.hid (OW1.out.keep hb)
        replace OW2 := Lib.hid (OW2.out.keep hb)
        replace OG1 := Lib.hid (OG1.out.keep hb)
        replace OG2 := Lib.hid (OG2.out.keep hb)
        replace HSZ := Lib.hid (Nat.le_trans HSZ.out hb.size)
        replace B := Lib.hid (below_next B.out hb)
        clear hb
        have hny : ¬ ((1 : Int) + nG + nG2 < 0) := by omega
        go_upto_region 30 with fail
        obtain ⟨lH, hB0⟩ : ∃ lH, lH = wv.heap.size := ⟨_, rfl⟩
        have HBH := Lib.hid (show lH ≤ wv.heap.size by omega)
        have HBBH := Lib.hid (show w.heap.size + 1 + 1 ≤ lH by have := HSZ.out; omega)
        have UOW1 := Lib.hid (show ∀ y, AW = some y → y.block < lH from fun y hy => by have := (OW1.out.span y hy).2; omega)
        have UOW2 := Lib.hid (show ∀ y, AW2 = some y → y.block < lH from fun y hy => by have := (OW2.out.span y hy).2; omega)
        have UOG1 := Lib.hid (show ∀ y, AG = some y → y.block < lH from fun y hy => by have := (OG1.out.span y hy).2; omega)
        have UOG2 := Lib.hid (show ∀ y, AG2 = some y → y.block < lH from fun y hy => by have := (OG2.out.span y hy).2; omega)
        have VBA := Lib.hid (show w.heap.size < lH by have := BA.out.lt; omega)
        have VBLp := Lib.hid (show w.heap.size + 1 < lH by have := BLp.out.lt; omega)
        have VBXw := Lib.hid (show kw < lH by have := BXw.out.lt; omega)
        have VBXv := Lib.hid (show kv < lH by have := BXv.out.lt; omega)
        clear hB0
        go_cut [19, 20] (fun s19 s20 wx => ∃ (kh : Nat) (AH : Option Addr) (nH cH : Nat) (AH2 : Option Addr) (nH2 cH2 : Nat), s19 = .pointer (some ⟨kh, 0, none⟩) ∧ s20 = .bool (MakePuzzle_ok W H xs a b ps q) ∧ Bx wx (w.heap.size) #[.int .i64 W, .int .i64 H, .slice A n c] 24 ∧ Bx wx (w.heap.size + 1) #[.int .i64 a, .int .i64 b] 26 ∧ Bx wx (kw) #[.int .i64 (zi (MakePuzzle_ok W H xs a b ps q) W), .int .i64 (zi (MakePuzzle_ok W H xs a b ps q) H), .slice AW nW cW, .int .i64 (zi (MakePuzzle_ok W H xs a b ps q) a), .int .i64 (zi (MakePuzzle_ok W H xs a b ps q) b), .slice AW2 nW2 cW2] 34 ∧ Bx wx (kv) #[.int .i64 (zi (MakePuzzle_ok W H xs a b ps q) W), .int .i64 (zi (MakePuzzle_ok W H xs a b ps q) H), .slice AG nG cG, .int .i64 (zi (MakePuzzle_ok W H xs a b ps q) a), .int .i64 (zi (MakePuzzle_ok W H xs a b ps q) b), .slice AG2 nG2 cG2] 34 ∧ OwnI 3 wx lW AW nW cW (zl (MakePuzzle_ok W H xs a b ps q) (MakePuzzle_xs W H xs a b ps q)) ∧ OwnI 3 wx lW AW2 nW2 cW2 (zl (MakePuzzle_ok W H xs a b ps q) (MakePuzzle_ns W H xs a b ps q)) ∧ OwnI 3 wx lG AG nG cG (marks 1 nG) ∧ OwnI 3 wx lG AG2 nG2 cG2 (marks (1 + nG) nG2) ∧ OwnI 3 wx lH AH nH cH (zl (MakePuzzle_ok W H xs a b ps q) (MakePuzzle_xs W H xs a b ps q)) ∧ OwnI 3 wx lH AH2 nH2 cH2 (zl (MakePuzzle_ok W H xs a b ps q) (MakePuzzle_ns W H xs a b ps q)) ∧ Apart AH AH2 ∧ (∀ y, AH = some y → y.block ≠ kh) ∧ (∀ y, AH2 = some y → y.block ≠ kh) ∧ lH ≤ kh ∧ lH ≤ wx.heap.size ∧ Bx wx kh #[.int .i64 (zi (MakePuzzle_ok W H xs a b ps q) W), .int .i64 (zi (MakePuzzle_ok W H xs a b ps q) H), .slice AH nH cH, .int .i64 (zi (MakePuzzle_ok W H xs a b ps q) a), .int .i64 (zi (MakePuzzle_ok W H xs a b ps q) b), .slice AH2 nH2 cH2] 34 ∧ w.heap.size + 1 + 1 ≤ wx.heap.size ∧ Below w.heap.size w wx)
        case first =>
          refine wp_region_held_drew (S := fun w' => w'.cell? ⟨w.heap.size, 0, none⟩ = some (.int .i64 W) ∧ w'.cell? ⟨w.heap.size, 1, none⟩ = some (.int .i64 H) ∧ w'.cell? ⟨w.heap.size, 2, none⟩ = some (.slice A n c) ∧ w'.cell? ⟨w.heap.size + 1, 0, none⟩ = some (.int .i64 a) ∧ w'.cell? ⟨w.heap.size + 1, 1, none⟩ = some (.int .i64 b)) (by kernel_rfl) ?_ (fun hHeld => ?_)
          · (try dsimp only)
            exact ⟨BA.out.cell rfl, BA.out.cell rfl, BA.out.cell rfl, BLp.out.cell rfl, BLp.out.cell rfl⟩
          refine wpAnyH_take (i := 0) (oi := ⟨_, _, _, _, _, _⟩) (v := ?_) rfl (by kernel_rfl) (by kernel_rfl) (by kernel_rfl) (fun _ _ _ h => h) (Or.inl ⟨by rfl, ?_⟩) (by assumption) ?_
          rotate_left
          · intro w hSw
            (try dsimp only at hSw)
            go_simp
            (try with_reducible rfl)
          (try simp only [Act.put, List.setIfInBounds_toArray, List.set_cons_zero, List.set_cons_succ])
          refine wpAnyH_take (i := 2) (oi := ⟨_, _, _, _, _, _⟩) (v := ?_) rfl (by kernel_rfl) (by kernel_rfl) (by kernel_rfl) (fun _ _ _ h => h) (Or.inl ⟨by rfl, ?_⟩) (by assumption) ?_
          rotate_left
          · intro w hSw
            (try dsimp only at hSw)
            go_simp
            (try with_reducible rfl)
          (try simp only [Act.put, List.setIfInBounds_toArray, List.set_cons_zero, List.set_cons_succ])
          refine wpAnyH_take (i := 4) (oi := ⟨_, _, _, _, _, _⟩) (v := ?_) rfl (by kernel_rfl) (by kernel_rfl) (by kernel_rfl) (fun _ _ _ h => h) (Or.inl ⟨by rfl, ?_⟩) (by assumption) ?_
          rotate_left
          · intro w hSw
            (try dsimp only at hSw)
            go_simp
            (try with_reducible rfl)
          (try simp only [Act.put, List.setIfInBounds_toArray, List.set_cons_zero, List.set_cons_succ])
          refine wpAnyH_take (i := 6) (oi := ⟨_, _, _, _, _, _⟩) (v := ?_) rfl (by kernel_rfl) (by kernel_rfl) (by kernel_rfl) (fun _ _ _ h => h) (Or.inl ⟨by rfl, ?_⟩) (by assumption) ?_
          rotate_left
          · intro w hSw
            (try dsimp only at hSw)
            go_simp
            (try with_reducible rfl)
          (try simp only [Act.put, List.setIfInBounds_toArray, List.set_cons_zero, List.set_cons_succ])
          refine wpAnyH_ready (rs := [1, 11]) (by kernel_rfl) (by simp) ?_
          refine AllReadyH.cons (o := ⟨_, _, _, _, _, _⟩) rfl (fun K hK => ?_) (AllReadyH.cons (o := ⟨_, _, _, _, _, _⟩) rfl (fun K hK => ?_) AllReadyH.nil)
          · go_simp
            (go_at_call 34; refine (toBoard_any W H A n c xs _ (by exact (RA0.out.keep B.out).drew1) (by have := HnB.out; omega)).mono ?_; rintro e wy ⟨gs, rfl, own, hb⟩; (repeat (first | replace hb := below_undrew hb | replace hb := below_undrewN hb)); have Os := Lib.hid own; replace HBH := Lib.hid (Nat.le_trans HBH.out hb.size); clear own; replace BA := Lib.hid (BA.out.keep hb); replace BLp := Lib.hid (BLp.out.keep hb); replace BXw := Lib.hid (BXw.out.keep hb); replace BXv := Lib.hid (BXv.out.keep hb); replace OW1 := Lib.hid (OW1.out.keep hb); replace OW2 := Lib.hid (OW2.out.keep hb); replace OG1 := Lib.hid (OG1.out.keep hb); replace OG2 := Lib.hid (OG2.out.keep hb); replace HSZ := Lib.hid (Nat.le_trans HSZ.out hb.size); replace B := Lib.hid (below_next B.out hb); clear hb)
            (try go_wp2_with fail)
            refine hK.out _ _ ?_ (fun hHeld => ?_)
            · (try dsimp only)
              exact ⟨BA.out.cell rfl, BA.out.cell rfl, BA.out.cell rfl, BLp.out.cell rfl, BLp.out.cell rfl⟩
            clear hK K
            (try simp only [Act.put, List.setIfInBounds_toArray, List.set_cons_zero, List.set_cons_succ])
            refine wpAnyH_ready (rs := [3, 11]) (by kernel_rfl) (by simp) ?_
            refine AllReadyH.cons (o := ⟨_, _, _, _, _, _⟩) rfl (fun K hK => ?_) (AllReadyH.cons (o := ⟨_, _, _, _, _, _⟩) rfl (fun K hK => ?_) AllReadyH.nil)
            · go_simp
              (go_at_call 35; refine (toLeaper_any a b _).mono ?_; rintro e wl ⟨rfl, hb⟩; (repeat (first | replace hb := below_undrew hb | replace hb := below_undrewN hb)); replace HBH := Lib.hid (Nat.le_trans HBH.out hb.size); replace BA := Lib.hid (BA.out.keep hb); replace BLp := Lib.hid (BLp.out.keep hb); replace BXw := Lib.hid (BXw.out.keep hb); replace BXv := Lib.hid (BXv.out.keep hb); replace OW1 := Lib.hid (OW1.out.keep hb); replace OW2 := Lib.hid (OW2.out.keep hb); replace OG1 := Lib.hid (OG1.out.keep hb); replace OG2 := Lib.hid (OG2.out.keep hb); replace Os := Lib.hid (Os.out.keep hb); replace HSZ := Lib.hid (Nat.le_trans HSZ.out hb.size); replace B := Lib.hid (below_next B.out hb); clear hb)
              (try go_wp2_with fail)
              refine hK.out _ _ ?_ (fun hHeld => ?_)
              · (try dsimp only)
                exact ⟨BA.out.cell rfl, BA.out.cell rfl, BA.out.cell rfl, BLp.out.cell rfl, BLp.out.cell rfl⟩
              clear hK K
              (try simp only [Act.put, List.setIfInBounds_toArray, List.set_cons_zero, List.set_cons_succ])
              refine wpAnyH_ready (rs := [5, 11]) (by kernel_rfl) (by simp) ?_
              refine AllReadyH.cons (o := ⟨_, _, _, _, _, _⟩) rfl (fun K hK => ?_) (AllReadyH.cons (o := ⟨_, _, _, _, _, _⟩) rfl (fun K hK => ?_) AllReadyH.nil)
              · go_simp
                (go_at_call 19; refine (toIntS_any A3 m3 c3 ps _ (by exact (RQ0.out.keep B.out).drew1) (by have := HQ9.out; omega)).mono ?_; rintro e wz ⟨gp, rfl, own, hb⟩; (repeat (first | replace hb := below_undrew hb | replace hb := below_undrewN hb)); have Op := Lib.hid own; replace HBH := Lib.hid (Nat.le_trans HBH.out hb.size); clear own; replace BA := Lib.hid (BA.out.keep hb); replace BLp := Lib.hid (BLp.out.keep hb); replace BXw := Lib.hid (BXw.out.keep hb); replace BXv := Lib.hid (BXv.out.keep hb); replace OW1 := Lib.hid (OW1.out.keep hb); replace OW2 := Lib.hid (OW2.out.keep hb); replace OG1 := Lib.hid (OG1.out.keep hb); replace OG2 := Lib.hid (OG2.out.keep hb); replace Os := Lib.hid (Os.out.keep hb); replace HSZ := Lib.hid (Nat.le_trans HSZ.out hb.size); replace B := Lib.hid (below_next B.out hb); clear hb)
                (try go_wp2_with fail)
                refine hK.out _ _ ?_ (fun hHeld => ?_)
                · (try dsimp only)
                  exact ⟨BA.out.cell rfl, BA.out.cell rfl, BA.out.cell rfl, BLp.out.cell rfl, BLp.out.cell rfl⟩
                clear hK K
                (try simp only [Act.put, List.setIfInBounds_toArray, List.set_cons_zero, List.set_cons_succ])
                refine wpAnyH_ready (rs := [7, 11]) (by kernel_rfl) (by simp) ?_
                refine AllReadyH.cons (o := ⟨_, _, _, _, _, _⟩) rfl (fun K hK => ?_) (AllReadyH.cons (o := ⟨_, _, _, _, _, _⟩) rfl (fun K hK => ?_) AllReadyH.nil)
                · go_simp
                  (go_at_call 36; refine (impl_MakePuzzle W H _ _ _ xs a b _ _ _ ps q _ (by exact Os.out.rd) (by exact Op.out.rd)).mono ?_; rintro e wc ⟨AH, nH, cH, AH2, nH2, cH2, rfl, o1, o2, hap, hb⟩; (repeat (first | replace hb := below_undrew hb | replace hb := below_undrewN hb)); have On1 := Lib.hid (o1.lower (show lH ≤ wz.heap.size from HBH.out)); have On2 := Lib.hid (o2.lower (show lH ≤ wz.heap.size from HBH.out)); have HAPn := Lib.hid hap; replace HBH := Lib.hid (Nat.le_trans HBH.out hb.size); clear o1 o2 hap; replace BA := Lib.hid (BA.out.keep hb); replace BLp := Lib.hid (BLp.out.keep hb); replace BXw := Lib.hid (BXw.out.keep hb); replace BXv := Lib.hid (BXv.out.keep hb); replace OW1 := Lib.hid (OW1.out.keep hb); replace OW2 := Lib.hid (OW2.out.keep hb); replace OG1 := Lib.hid (OG1.out.keep hb); replace OG2 := Lib.hid (OG2.out.keep hb); replace HSZ := Lib.hid (Nat.le_trans HSZ.out hb.size); replace B := Lib.hid (below_next B.out hb); clear hb)
                  (try go_wp2_with fail)
                  refine hK.out _ _ ?_ (fun hHeld => ?_)
                  · (try dsimp only)
                    exact ⟨BA.out.cell rfl, BA.out.cell rfl, BA.out.cell rfl, BLp.out.cell rfl, BLp.out.cell rfl⟩
                  clear hK K
                  (try simp only [Act.put, List.setIfInBounds_toArray, List.set_cons_zero, List.set_cons_succ])
                  refine wpAnyH_take (i := 8) (oi := ⟨_, _, _, _, _, _⟩) (v := ?_) rfl (by kernel_rfl) (by kernel_rfl) (by kernel_rfl) (fun _ _ _ h => h) (Or.inl ⟨by rfl, ?_⟩) (by assumption) ?_
                  rotate_left
                  · intro w hSw
                    (try dsimp only at hSw)
                    go_simp
                    (try with_reducible rfl)
                  (try simp only [Act.put, List.setIfInBounds_toArray, List.set_cons_zero, List.set_cons_succ])
                  refine wpAnyH_take (i := 9) (oi := ⟨_, _, _, _, _, _⟩) (v := ?_) rfl (by kernel_rfl) (by kernel_rfl) (by kernel_rfl) (fun _ _ _ h => h) (Or.inl ⟨by rfl, ?_⟩) (by assumption) ?_
                  rotate_left
                  · intro w hSw
                    (try dsimp only at hSw)
                    go_simp
                    (try with_reducible rfl)
                  (try simp only [Act.put, List.setIfInBounds_toArray, List.set_cons_zero, List.set_cons_succ])
                  refine wpAnyH_take (i := 10) (oi := ⟨_, _, _, _, _, _⟩) (v := ?_) rfl (by kernel_rfl) (by kernel_rfl) (by kernel_rfl) (fun _ _ _ h => h) (Or.inl ⟨by rfl, ?_⟩) (by assumption) ?_
                  rotate_left
                  · intro w hSw
                    (try dsimp only at hSw)
                    go_simp
                    (try with_reducible rfl)
                  (try simp only [Act.put, List.setIfInBounds_toArray, List.set_cons_zero, List.set_cons_succ])
                  refine wpAnyH_ready (rs := [11]) (by kernel_rfl) (by simp) ?_
                  refine AllReadyH.cons (o := ⟨_, _, _, _, _, _⟩) rfl (fun K hK => ?_) AllReadyH.nil
                  go_simp
                  obtain ⟨wt, hWn⟩ : ∃ W5, W5 = wc.alloc (.cells #[.int .i64 0, .int .i64 0, .slice none 0 0, .int .i64 0, .int .i64 0, .slice none 0 0] 34) := ⟨_, rfl⟩
                  have hb : Below wc.heap.size wc wt := by rw [hWn]; exact below_new (Below.refl _ _) _
                  obtain ⟨kh, hgp⟩ : ∃ gp, gp = wc.heap.size := ⟨_, rfl⟩
                  have BN := Lib.hid (show Bx wt kh #[.int .i64 0, .int .i64 0, .slice none 0 0, .int .i64 0, .int .i64 0, .slice none 0 0] 34 by rw [hWn, hgp]; exact Bx.new _ _ _)
                  have Hkh := Lib.hid (show lH ≤ kh by rw [hgp]; exact HBH.out)
                  replace HBH := Lib.hid (Nat.le_trans HBH.out hb.size)
                  have HNE1 := Lib.hid (show ∀ y, AH = some y → y.block ≠ kh from fun y hy => by have := (On1.out.span y hy).2; omega); have HNE2 := Lib.hid (show ∀ y, AH2 = some y → y.block ≠ kh from fun y hy => by have := (On2.out.span y hy).2; omega)
                  rw [← hWn]
                  (try rw [← hgp])
                  clear hWn hgp
                  replace BA := Lib.hid (BA.out.keep hb)
                  replace BLp := Lib.hid (BLp.out.keep hb)
                  replace BXw := Lib.hid (BXw.out.keep hb)
                  replace BXv := Lib.hid (BXv.out.keep hb)
                  replace OW1 := Lib.hid (OW1.out.keep hb)
                  replace OW2 := Lib.hid (OW2.out.keep hb)
                  replace OG1 := Lib.hid (OG1.out.keep hb)
                  replace OG2 := Lib.hid (OG2.out.keep hb)
                  replace On1 := Lib.hid (On1.out.keep hb)
                  replace On2 := Lib.hid (On2.out.keep hb)
                  replace HSZ := Lib.hid (Nat.le_trans HSZ.out hb.size)
                  replace B := Lib.hid (below_next B.out hb)
                  clear hb
                  refine hK.out _ _ ?_ (fun hHeld => ?_)
                  · (try dsimp only)
                    exact ⟨BA.out.cell rfl, BA.out.cell rfl, BA.out.cell rfl, BLp.out.cell rfl, BLp.out.cell rfl⟩
                  clear hK K
                  (try simp only [Act.put, List.setIfInBounds_toArray, List.set_cons_zero, List.set_cons_succ])
                  refine wpAnyH_ready (rs := [12]) (by kernel_rfl) (by simp) ?_
                  refine AllReadyH.cons (o := ⟨_, _, _, _, _, _⟩) rfl (fun K hK => ?_) AllReadyH.nil
                  have z0 : wt.cell? ⟨kh, 0, none⟩ = some (.int .i64 0) := BN.out.cell rfl
                  have z1 : wt.cell? ⟨kh, 1, none⟩ = some (.int .i64 0) := BN.out.cell rfl
                  have z2 : wt.cell? ⟨kh, 2, none⟩ = some (.slice none 0 0) := BN.out.cell rfl
                  have z3 : wt.cell? ⟨kh, 3, none⟩ = some (.int .i64 0) := BN.out.cell rfl
                  have z4 : wt.cell? ⟨kh, 4, none⟩ = some (.int .i64 0) := BN.out.cell rfl
                  have z5 : wt.cell? ⟨kh, 5, none⟩ = some (.slice none 0 0) := BN.out.cell rfl
                  have f0 : wt.frozen? ⟨kh, 0, none⟩ = false := BN.out.frozen 0
                  have f1 : wt.frozen? ⟨kh, 1, none⟩ = false := BN.out.frozen 1
                  have f2 : wt.frozen? ⟨kh, 2, none⟩ = false := BN.out.frozen 2
                  have f3 : wt.frozen? ⟨kh, 3, none⟩ = false := BN.out.frozen 3
                  have f4 : wt.frozen? ⟨kh, 4, none⟩ = false := BN.out.frozen 4
                  have f5 : wt.frozen? ⟨kh, 5, none⟩ = false := BN.out.frozen 5
                  go_simp
                  obtain ⟨wq, hWn⟩ : ∃ W5, W5 = (((((wt.setCell ⟨kh, 0, none⟩ (.int .i64 (zi (MakePuzzle_ok W H xs a b ps q) W))).setCell ⟨kh, 1, none⟩ (.int .i64 (zi (MakePuzzle_ok W H xs a b ps q) H))).setCell ⟨kh, 2, none⟩ (.slice AH nH cH)).setCell ⟨kh, 3, none⟩ (.int .i64 (zi (MakePuzzle_ok W H xs a b ps q) a))).setCell ⟨kh, 4, none⟩ (.int .i64 (zi (MakePuzzle_ok W H xs a b ps q) b))).setCell ⟨kh, 5, none⟩ (.slice AH2 nH2 cH2) := ⟨_, rfl⟩
                  have hgr : wt.grownBy wq (some (kh)) := by rw [hWn]; exact (grown_next (grown_next (grown_next (grown_next (grown_next (grownSet1 wt ⟨kh, 0, none⟩ (.int .i64 (zi (MakePuzzle_ok W H xs a b ps q) W))) (grownSet1 _ ⟨kh, 1, none⟩ (.int .i64 (zi (MakePuzzle_ok W H xs a b ps q) H)))) (grownSet1 _ ⟨kh, 2, none⟩ (.slice AH nH cH))) (grownSet1 _ ⟨kh, 3, none⟩ (.int .i64 (zi (MakePuzzle_ok W H xs a b ps q) a)))) (grownSet1 _ ⟨kh, 4, none⟩ (.int .i64 (zi (MakePuzzle_ok W H xs a b ps q) b)))) (grownSet1 _ ⟨kh, 5, none⟩ (.slice AH2 nH2 cH2)))
                  replace BN := Lib.hid (show Bx wq (kh) #[.int .i64 (zi (MakePuzzle_ok W H xs a b ps q) W), .int .i64 (zi (MakePuzzle_ok W H xs a b ps q) H), .slice AH nH cH, .int .i64 (zi (MakePuzzle_ok W H xs a b ps q) a), .int .i64 (zi (MakePuzzle_ok W H xs a b ps q) b), .slice AH2 nH2 cH2] 34 by rw [hWn]; exact ((((((BN.out.set 0 (.int .i64 (zi (MakePuzzle_ok W H xs a b ps q) W))).set 1 (.int .i64 (zi (MakePuzzle_ok W H xs a b ps q) H))).set 2 (.slice AH nH cH)).set 3 (.int .i64 (zi (MakePuzzle_ok W H xs a b ps q) a))).set 4 (.int .i64 (zi (MakePuzzle_ok W H xs a b ps q) b))).set 5 (.slice AH2 nH2 cH2)))
                  replace BA := Lib.hid (BA.out.grown hgr (by have := VBA.out; have := Hkh.out; simp; omega))
                  replace BLp := Lib.hid (BLp.out.grown hgr (by have := VBLp.out; have := Hkh.out; simp; omega))
                  replace BXw := Lib.hid (BXw.out.grown hgr (by have := VBXw.out; have := Hkh.out; simp; omega))
                  replace BXv := Lib.hid (BXv.out.grown hgr (by have := VBXv.out; have := Hkh.out; simp; omega))
                  replace OW1 := Lib.hid (OW1.out.other hgr (fun a9 ha9 he => by injection he with he; have := UOW1.out a9 ha9; have := Hkh.out; omega))
                  replace OW2 := Lib.hid (OW2.out.other hgr (fun a9 ha9 he => by injection he with he; have := UOW2.out a9 ha9; have := Hkh.out; omega))
                  replace OG1 := Lib.hid (OG1.out.other hgr (fun a9 ha9 he => by injection he with he; have := UOG1.out a9 ha9; have := Hkh.out; omega))
                  replace OG2 := Lib.hid (OG2.out.other hgr (fun a9 ha9 he => by injection he with he; have := UOG2.out a9 ha9; have := Hkh.out; omega))
                  replace On1 := Lib.hid (On1.out.other hgr (fun a9 ha9 he => by injection he with he; exact HNE1.out a9 ha9 he))
                  replace On2 := Lib.hid (On2.out.other hgr (fun a9 ha9 he => by injection he with he; exact HNE2.out a9 ha9 he))
                  replace HSZ := Lib.hid (Nat.le_trans HSZ.out hgr.size)
                  replace B := Lib.hid (B.out.grown hgr B.out.size (fun g9 h9 => by injection h9 with h9; have := Hkh.out; have := HBBH.out; omega))
                  replace HBH := Lib.hid (Nat.le_trans HBH.out hgr.size)
                  rw [← hWn]
                  clear hWn hgr z0 f0 z1 f1 z2 f2 z3 f3 z4 f4 z5 f5
                  refine hK.out _ _ ?_ (fun hHeld => ?_)
                  · (try dsimp only)
                    exact ⟨BA.out.cell rfl, BA.out.cell rfl, BA.out.cell rfl, BLp.out.cell rfl, BLp.out.cell rfl⟩
                  clear hK K
                  (try simp only [Act.put, List.setIfInBounds_toArray, List.set_cons_zero, List.set_cons_succ])
                  refine wpAnyH_take (i := 13) (oi := ⟨_, _, _, _, _, _⟩) (v := ?_) rfl (by kernel_rfl) (by kernel_rfl) (by kernel_rfl) (fun _ _ _ h => h) (Or.inl ⟨by rfl, ?_⟩) (by assumption) ?_
                  rotate_left
                  · intro w hSw
                    (try dsimp only at hSw)
                    go_simp
                    (try with_reducible rfl)
                  (try simp only [Act.put, List.setIfInBounds_toArray, List.set_cons_zero, List.set_cons_succ])
                  refine wpAnyH_done (by kernel_rfl) ?_ _
                  clear hHeld
                  (try go_wp2_with fail)
                  go_meet
                  exact ⟨kh, AH, nH, cH, AH2, nH2, cH2, rfl, rfl, BA.out, BLp.out, BXw.out, BXv.out, OW1.out, OW2.out, OG1.out, OG2.out, On1.out, On2.out, HAPn.out, HNE1.out, HNE2.out, Hkh.out, HBH.out, BN.out, HSZ.out, B.out⟩
                · go_simp
                  obtain ⟨wt, hWn⟩ : ∃ W5, W5 = wz.alloc (.cells #[.int .i64 0, .int .i64 0, .slice none 0 0, .int .i64 0, .int .i64 0, .slice none 0 0] 34) := ⟨_, rfl⟩
                  have hb : Below wz.heap.size wz wt := by rw [hWn]; exact below_new (Below.refl _ _) _
                  obtain ⟨kh, hgp⟩ : ∃ gp, gp = wz.heap.size := ⟨_, rfl⟩
                  have BN := Lib.hid (show Bx wt kh #[.int .i64 0, .int .i64 0, .slice none 0 0, .int .i64 0, .int .i64 0, .slice none 0 0] 34 by rw [hWn, hgp]; exact Bx.new _ _ _)
                  have Hkh := Lib.hid (show lH ≤ kh by rw [hgp]; exact HBH.out)
                  replace HBH := Lib.hid (Nat.le_trans HBH.out hb.size)
                  rw [← hWn]
                  (try rw [← hgp])
                  clear hWn hgp
                  replace BA := Lib.hid (BA.out.keep hb)
                  replace BLp := Lib.hid (BLp.out.keep hb)
                  replace BXw := Lib.hid (BXw.out.keep hb)
                  replace BXv := Lib.hid (BXv.out.keep hb)
                  replace OW1 := Lib.hid (OW1.out.keep hb)
                  replace OW2 := Lib.hid (OW2.out.keep hb)
                  replace OG1 := Lib.hid (OG1.out.keep hb)
                  replace OG2 := Lib.hid (OG2.out.keep hb)
                  replace Os := Lib.hid (Os.out.keep hb)
                  replace Op := Lib.hid (Op.out.keep hb)
                  replace HSZ := Lib.hid (Nat.le_trans HSZ.out hb.size)
                  replace B := Lib.hid (below_next B.out hb)
                  clear hb
                  refine hK.out _ _ ?_ (fun hHeld => ?_)
                  · (try dsimp only)
                    exact ⟨BA.out.cell rfl, BA.out.cell rfl, BA.out.cell rfl, BLp.out.cell rfl, BLp.out.cell rfl⟩
                  clear hK K
                  (try simp only [Act.put, List.setIfInBounds_toArray, List.set_cons_zero, List.set_cons_succ])
                  refine wpAnyH_ready (rs := [7]) (by kernel_rfl) (by simp) ?_
                  refine AllReadyH.cons (o := ⟨_, _, _, _, _, _⟩) rfl (fun K hK => ?_) AllReadyH.nil
                  go_simp
                  (go_at_call 36; refine (impl_MakePuzzle W H _ _ _ xs a b _ _ _ ps q _ (by exact Os.out.rd) (by exact Op.out.rd)).mono ?_; rintro e wc ⟨AH, nH, cH, AH2, nH2, cH2, rfl, o1, o2, hap, hb⟩; (repeat (first | replace hb := below_undrew hb | replace hb := below_undrewN hb)); have On1 := Lib.hid (o1.lower (show lH ≤ wt.heap.size from HBH.out)); have On2 := Lib.hid (o2.lower (show lH ≤ wt.heap.size from HBH.out)); have HAPn := Lib.hid hap; have HNE1 := Lib.hid (show ∀ y, AH = some y → y.block ≠ kh from fun y hy => by have h8 : wt.heap.size ≤ y.block := (o1.span y hy).1; have h9 := BN.out.lt; omega); have HNE2 := Lib.hid (show ∀ y, AH2 = some y → y.block ≠ kh from fun y hy => by have h8 : wt.heap.size ≤ y.block := (o2.span y hy).1; have h9 := BN.out.lt; omega); replace HBH := Lib.hid (Nat.le_trans HBH.out hb.size); clear o1 o2 hap; replace BA := Lib.hid (BA.out.keep hb); replace BLp := Lib.hid (BLp.out.keep hb); replace BXw := Lib.hid (BXw.out.keep hb); replace BXv := Lib.hid (BXv.out.keep hb); replace OW1 := Lib.hid (OW1.out.keep hb); replace OW2 := Lib.hid (OW2.out.keep hb); replace OG1 := Lib.hid (OG1.out.keep hb); replace OG2 := Lib.hid (OG2.out.keep hb); replace BN := Lib.hid (BN.out.keep hb); replace HSZ := Lib.hid (Nat.le_trans HSZ.out hb.size); replace B := Lib.hid (below_next B.out hb); clear hb)
                  (try go_wp2_with fail)
                  refine hK.out _ _ ?_ (fun hHeld => ?_)
                  · (try dsimp only)
                    exact ⟨BA.out.cell rfl, BA.out.cell rfl, BA.out.cell rfl, BLp.out.cell rfl, BLp.out.cell rfl⟩
                  clear hK K
                  (try simp only [Act.put, List.setIfInBounds_toArray, List.set_cons_zero, List.set_cons_succ])
                  refine wpAnyH_take (i := 8) (oi := ⟨_, _, _, _, _, _⟩) (v := ?_) rfl (by kernel_rfl) (by kernel_rfl) (by kernel_rfl) (fun _ _ _ h => h) (Or.inl ⟨by rfl, ?_⟩) (by assumption) ?_
                  rotate_left
                  · intro w hSw
                    (try dsimp only at hSw)
                    go_simp
                    (try with_reducible rfl)
                  (try simp only [Act.put, List.setIfInBounds_toArray, List.set_cons_zero, List.set_cons_succ])
                  refine wpAnyH_take (i := 9) (oi := ⟨_, _, _, _, _, _⟩) (v := ?_) rfl (by kernel_rfl) (by kernel_rfl) (by kernel_rfl) (fun _ _ _ h => h) (Or.inl ⟨by rfl, ?_⟩) (by assumption) ?_
                  rotate_left
                  · intro w hSw
                    (try dsimp only at hSw)
                    go_simp
                    (try with_reducible rfl)
                  (try simp only [Act.put, List.setIfInBounds_toArray, List.set_cons_zero, List.set_cons_succ])
                  refine wpAnyH_take (i := 10) (oi := ⟨_, _, _, _, _, _⟩) (v := ?_) rfl (by kernel_rfl) (by kernel_rfl) (by kernel_rfl) (fun _ _ _ h => h) (Or.inl ⟨by rfl, ?_⟩) (by assumption) ?_
                  rotate_left
                  · intro w hSw
                    (try dsimp only at hSw)
                    go_simp
                    (try with_reducible rfl)
                  (try simp only [Act.put, List.setIfInBounds_toArray, List.set_cons_zero, List.set_cons_succ])
                  refine wpAnyH_ready (rs := [12]) (by kernel_rfl) (by simp) ?_
                  refine AllReadyH.cons (o := ⟨_, _, _, _, _, _⟩) rfl (fun K hK => ?_) AllReadyH.nil
                  have z0 : wc.cell? ⟨kh, 0, none⟩ = some (.int .i64 0) := BN.out.cell rfl
                  have z1 : wc.cell? ⟨kh, 1, none⟩ = some (.int .i64 0) := BN.out.cell rfl
                  have z2 : wc.cell? ⟨kh, 2, none⟩ = some (.slice none 0 0) := BN.out.cell rfl
                  have z3 : wc.cell? ⟨kh, 3, none⟩ = some (.int .i64 0) := BN.out.cell rfl
                  have z4 : wc.cell? ⟨kh, 4, none⟩ = some (.int .i64 0) := BN.out.cell rfl
                  have z5 : wc.cell? ⟨kh, 5, none⟩ = some (.slice none 0 0) := BN.out.cell rfl
                  have f0 : wc.frozen? ⟨kh, 0, none⟩ = false := BN.out.frozen 0
                  have f1 : wc.frozen? ⟨kh, 1, none⟩ = false := BN.out.frozen 1
                  have f2 : wc.frozen? ⟨kh, 2, none⟩ = false := BN.out.frozen 2
                  have f3 : wc.frozen? ⟨kh, 3, none⟩ = false := BN.out.frozen 3
                  have f4 : wc.frozen? ⟨kh, 4, none⟩ = false := BN.out.frozen 4
                  have f5 : wc.frozen? ⟨kh, 5, none⟩ = false := BN.out.frozen 5
                  go_simp
                  obtain ⟨wq, hWn⟩ : ∃ W5, W5 = (((((wc.setCell ⟨kh, 0, none⟩ (.int .i64 (zi (MakePuzzle_ok W H xs a b ps q) W))).setCell ⟨kh, 1, none⟩ (.int .i64 (zi (MakePuzzle_ok W H xs a b ps q) H))).setCell ⟨kh, 2, none⟩ (.slice AH nH cH)).setCell ⟨kh, 3, none⟩ (.int .i64 (zi (MakePuzzle_ok W H xs a b ps q) a))).setCell ⟨kh, 4, none⟩ (.int .i64 (zi (MakePuzzle_ok W H xs a b ps q) b))).setCell ⟨kh, 5, none⟩ (.slice AH2 nH2 cH2) := ⟨_, rfl⟩
                  have hgr : wc.grownBy wq (some (kh)) := by rw [hWn]; exact (grown_next (grown_next (grown_next (grown_next (grown_next (grownSet1 wc ⟨kh, 0, none⟩ (.int .i64 (zi (MakePuzzle_ok W H xs a b ps q) W))) (grownSet1 _ ⟨kh, 1, none⟩ (.int .i64 (zi (MakePuzzle_ok W H xs a b ps q) H)))) (grownSet1 _ ⟨kh, 2, none⟩ (.slice AH nH cH))) (grownSet1 _ ⟨kh, 3, none⟩ (.int .i64 (zi (MakePuzzle_ok W H xs a b ps q) a)))) (grownSet1 _ ⟨kh, 4, none⟩ (.int .i64 (zi (MakePuzzle_ok W H xs a b ps q) b)))) (grownSet1 _ ⟨kh, 5, none⟩ (.slice AH2 nH2 cH2)))
                  replace BN := Lib.hid (show Bx wq (kh) #[.int .i64 (zi (MakePuzzle_ok W H xs a b ps q) W), .int .i64 (zi (MakePuzzle_ok W H xs a b ps q) H), .slice AH nH cH, .int .i64 (zi (MakePuzzle_ok W H xs a b ps q) a), .int .i64 (zi (MakePuzzle_ok W H xs a b ps q) b), .slice AH2 nH2 cH2] 34 by rw [hWn]; exact ((((((BN.out.set 0 (.int .i64 (zi (MakePuzzle_ok W H xs a b ps q) W))).set 1 (.int .i64 (zi (MakePuzzle_ok W H xs a b ps q) H))).set 2 (.slice AH nH cH)).set 3 (.int .i64 (zi (MakePuzzle_ok W H xs a b ps q) a))).set 4 (.int .i64 (zi (MakePuzzle_ok W H xs a b ps q) b))).set 5 (.slice AH2 nH2 cH2)))
                  replace BA := Lib.hid (BA.out.grown hgr (by have := VBA.out; have := Hkh.out; simp; omega))
                  replace BLp := Lib.hid (BLp.out.grown hgr (by have := VBLp.out; have := Hkh.out; simp; omega))
                  replace BXw := Lib.hid (BXw.out.grown hgr (by have := VBXw.out; have := Hkh.out; simp; omega))
                  replace BXv := Lib.hid (BXv.out.grown hgr (by have := VBXv.out; have := Hkh.out; simp; omega))
                  replace OW1 := Lib.hid (OW1.out.other hgr (fun a9 ha9 he => by injection he with he; have := UOW1.out a9 ha9; have := Hkh.out; omega))
                  replace OW2 := Lib.hid (OW2.out.other hgr (fun a9 ha9 he => by injection he with he; have := UOW2.out a9 ha9; have := Hkh.out; omega))
                  replace OG1 := Lib.hid (OG1.out.other hgr (fun a9 ha9 he => by injection he with he; have := UOG1.out a9 ha9; have := Hkh.out; omega))
                  replace OG2 := Lib.hid (OG2.out.other hgr (fun a9 ha9 he => by injection he with he; have := UOG2.out a9 ha9; have := Hkh.out; omega))
                  replace On1 := Lib.hid (On1.out.other hgr (fun a9 ha9 he => by injection he with he; exact HNE1.out a9 ha9 he))
                  replace On2 := Lib.hid (On2.out.other hgr (fun a9 ha9 he => by injection he with he; exact HNE2.out a9 ha9 he))
                  replace HSZ := Lib.hid (Nat.le_trans HSZ.out hgr.size)
                  replace B := Lib.hid (B.out.grown hgr B.out.size (fun g9 h9 => by injection h9 with h9; have := Hkh.out; have := HBBH.out; omega))
                  replace HBH := Lib.hid (Nat.le_trans HBH.out hgr.size)
                  rw [← hWn]
                  clear hWn hgr z0 f0 z1 f1 z2 f2 z3 f3 z4 f4 z5 f5
                  refine hK.out _ _ ?_ (fun hHeld => ?_)
                  · (try dsimp only)
                    exact ⟨BA.out.cell rfl, BA.out.cell rfl, BA.out.cell rfl, BLp.out.cell rfl, BLp.out.cell rfl⟩
                  clear hK K
                  (try simp only [Act.put, List.setIfInBounds_toArray, List.set_cons_zero, List.set_cons_succ])
                  refine wpAnyH_take (i := 13) (oi := ⟨_, _, _, _, _, _⟩) (v := ?_) rfl (by kernel_rfl) (by kernel_rfl) (by kernel_rfl) (fun _ _ _ h => h) (Or.inl ⟨by rfl, ?_⟩) (by assumption) ?_
                  rotate_left
                  · intro w hSw
                    (try dsimp only at hSw)
                    go_simp
                    (try with_reducible rfl)
                  (try simp only [Act.put, List.setIfInBounds_toArray, List.set_cons_zero, List.set_cons_succ])
                  refine wpAnyH_done (by kernel_rfl) ?_ _
                  clear hHeld
                  (try go_wp2_with fail)
                  go_meet
                  exact ⟨kh, AH, nH, cH, AH2, nH2, cH2, rfl, rfl, BA.out, BLp.out, BXw.out, BXv.out, OW1.out, OW2.out, OG1.out, OG2.out, On1.out, On2.out, HAPn.out, HNE1.out, HNE2.out, Hkh.out, HBH.out, BN.out, HSZ.out, B.out⟩
              · go_simp
                obtain ⟨wt, hWn⟩ : ∃ W5, W5 = wl.alloc (.cells #[.int .i64 0, .int .i64 0, .slice none 0 0, .int .i64 0, .int .i64 0, .slice none 0 0] 34) := ⟨_, rfl⟩
                have hb : Below wl.heap.size wl wt := by rw [hWn]; exact below_new (Below.refl _ _) _
                obtain ⟨kh, hgp⟩ : ∃ gp, gp = wl.heap.size := ⟨_, rfl⟩
                have BN := Lib.hid (show Bx wt kh #[.int .i64 0, .int .i64 0, .slice none 0 0, .int .i64 0, .int .i64 0, .slice none 0 0] 34 by rw [hWn, hgp]; exact Bx.new _ _ _)
                have Hkh := Lib.hid (show lH ≤ kh by rw [hgp]; exact HBH.out)
                replace HBH := Lib.hid (Nat.le_trans HBH.out hb.size)
                rw [← hWn]
                (try rw [← hgp])
                clear hWn hgp
                replace BA := Lib.hid (BA.out.keep hb)
                replace BLp := Lib.hid (BLp.out.keep hb)
                replace BXw := Lib.hid (BXw.out.keep hb)
                replace BXv := Lib.hid (BXv.out.keep hb)
                replace OW1 := Lib.hid (OW1.out.keep hb)
                replace OW2 := Lib.hid (OW2.out.keep hb)
                replace OG1 := Lib.hid (OG1.out.keep hb)
                replace OG2 := Lib.hid (OG2.out.keep hb)
                replace Os := Lib.hid (Os.out.keep hb)
                replace HSZ := Lib.hid (Nat.le_trans HSZ.out hb.size)
                replace B := Lib.hid (below_next B.out hb)
                clear hb
                refine hK.out _ _ ?_ (fun hHeld => ?_)
                · (try dsimp only)
                  exact ⟨BA.out.cell rfl, BA.out.cell rfl, BA.out.cell rfl, BLp.out.cell rfl, BLp.out.cell rfl⟩
                clear hK K
                (try simp only [Act.put, List.setIfInBounds_toArray, List.set_cons_zero, List.set_cons_succ])
                refine wpAnyH_ready (rs := [5]) (by kernel_rfl) (by simp) ?_
                refine AllReadyH.cons (o := ⟨_, _, _, _, _, _⟩) rfl (fun K hK => ?_) AllReadyH.nil
                go_simp
                (go_at_call 19; refine (toIntS_any A3 m3 c3 ps _ (by exact (RQ0.out.keep B.out).drew1) (by have := HQ9.out; omega)).mono ?_; rintro e wz ⟨gp, rfl, own, hb⟩; (repeat (first | replace hb := below_undrew hb | replace hb := below_undrewN hb)); have Op := Lib.hid own; replace HBH := Lib.hid (Nat.le_trans HBH.out hb.size); clear own; replace BA := Lib.hid (BA.out.keep hb); replace BLp := Lib.hid (BLp.out.keep hb); replace BXw := Lib.hid (BXw.out.keep hb); replace BXv := Lib.hid (BXv.out.keep hb); replace OW1 := Lib.hid (OW1.out.keep hb); replace OW2 := Lib.hid (OW2.out.keep hb); replace OG1 := Lib.hid (OG1.out.keep hb); replace OG2 := Lib.hid (OG2.out.keep hb); replace Os := Lib.hid (Os.out.keep hb); replace BN := Lib.hid (BN.out.keep hb); replace HSZ := Lib.hid (Nat.le_trans HSZ.out hb.size); replace B := Lib.hid (below_next B.out hb); clear hb)
                (try go_wp2_with fail)
                refine hK.out _ _ ?_ (fun hHeld => ?_)
                · (try dsimp only)
                  exact ⟨BA.out.cell rfl, BA.out.cell rfl, BA.out.cell rfl, BLp.out.cell rfl, BLp.out.cell rfl⟩
                clear hK K
                (try simp only [Act.put, List.setIfInBounds_toArray, List.set_cons_zero, List.set_cons_succ])
                refine wpAnyH_ready (rs := [7]) (by kernel_rfl) (by simp) ?_
                refine AllReadyH.cons (o := ⟨_, _, _, _, _, _⟩) rfl (fun K hK => ?_) AllReadyH.nil
                go_simp
                (go_at_call 36; refine (impl_MakePuzzle W H _ _ _ xs a b _ _ _ ps q _ (by exact Os.out.rd) (by exact Op.out.rd)).mono ?_; rintro e wc ⟨AH, nH, cH, AH2, nH2, cH2, rfl, o1, o2, hap, hb⟩; (repeat (first | replace hb := below_undrew hb | replace hb := below_undrewN hb)); have On1 := Lib.hid (o1.lower (show lH ≤ wz.heap.size from HBH.out)); have On2 := Lib.hid (o2.lower (show lH ≤ wz.heap.size from HBH.out)); have HAPn := Lib.hid hap; have HNE1 := Lib.hid (show ∀ y, AH = some y → y.block ≠ kh from fun y hy => by have h8 : wz.heap.size ≤ y.block := (o1.span y hy).1; have h9 := BN.out.lt; omega); have HNE2 := Lib.hid (show ∀ y, AH2 = some y → y.block ≠ kh from fun y hy => by have h8 : wz.heap.size ≤ y.block := (o2.span y hy).1; have h9 := BN.out.lt; omega); replace HBH := Lib.hid (Nat.le_trans HBH.out hb.size); clear o1 o2 hap; replace BA := Lib.hid (BA.out.keep hb); replace BLp := Lib.hid (BLp.out.keep hb); replace BXw := Lib.hid (BXw.out.keep hb); replace BXv := Lib.hid (BXv.out.keep hb); replace OW1 := Lib.hid (OW1.out.keep hb); replace OW2 := Lib.hid (OW2.out.keep hb); replace OG1 := Lib.hid (OG1.out.keep hb); replace OG2 := Lib.hid (OG2.out.keep hb); replace BN := Lib.hid (BN.out.keep hb); replace HSZ := Lib.hid (Nat.le_trans HSZ.out hb.size); replace B := Lib.hid (below_next B.out hb); clear hb)
                (try go_wp2_with fail)
                refine hK.out _ _ ?_ (fun hHeld => ?_)
                · (try dsimp only)
                  exact ⟨BA.out.cell rfl, BA.out.cell rfl, BA.out.cell rfl, BLp.out.cell rfl, BLp.out.cell rfl⟩
                clear hK K
                (try simp only [Act.put, List.setIfInBounds_toArray, List.set_cons_zero, List.set_cons_succ])
                refine wpAnyH_take (i := 8) (oi := ⟨_, _, _, _, _, _⟩) (v := ?_) rfl (by kernel_rfl) (by kernel_rfl) (by kernel_rfl) (fun _ _ _ h => h) (Or.inl ⟨by rfl, ?_⟩) (by assumption) ?_
                rotate_left
                · intro w hSw
                  (try dsimp only at hSw)
                  go_simp
                  (try with_reducible rfl)
                (try simp only [Act.put, List.setIfInBounds_toArray, List.set_cons_zero, List.set_cons_succ])
                refine wpAnyH_take (i := 9) (oi := ⟨_, _, _, _, _, _⟩) (v := ?_) rfl (by kernel_rfl) (by kernel_rfl) (by kernel_rfl) (fun _ _ _ h => h) (Or.inl ⟨by rfl, ?_⟩) (by assumption) ?_
                rotate_left
                · intro w hSw
                  (try dsimp only at hSw)
                  go_simp
                  (try with_reducible rfl)
                (try simp only [Act.put, List.setIfInBounds_toArray, List.set_cons_zero, List.set_cons_succ])
                refine wpAnyH_take (i := 10) (oi := ⟨_, _, _, _, _, _⟩) (v := ?_) rfl (by kernel_rfl) (by kernel_rfl) (by kernel_rfl) (fun _ _ _ h => h) (Or.inl ⟨by rfl, ?_⟩) (by assumption) ?_
                rotate_left
                · intro w hSw
                  (try dsimp only at hSw)
                  go_simp
                  (try with_reducible rfl)
                (try simp only [Act.put, List.setIfInBounds_toArray, List.set_cons_zero, List.set_cons_succ])
                refine wpAnyH_ready (rs := [12]) (by kernel_rfl) (by simp) ?_
                refine AllReadyH.cons (o := ⟨_, _, _, _, _, _⟩) rfl (fun K hK => ?_) AllReadyH.nil
                have z0 : wc.cell? ⟨kh, 0, none⟩ = some (.int .i64 0) := BN.out.cell rfl
                have z1 : wc.cell? ⟨kh, 1, none⟩ = some (.int .i64 0) := BN.out.cell rfl
                have z2 : wc.cell? ⟨kh, 2, none⟩ = some (.slice none 0 0) := BN.out.cell rfl
                have z3 : wc.cell? ⟨kh, 3, none⟩ = some (.int .i64 0) := BN.out.cell rfl
                have z4 : wc.cell? ⟨kh, 4, none⟩ = some (.int .i64 0) := BN.out.cell rfl
                have z5 : wc.cell? ⟨kh, 5, none⟩ = some (.slice none 0 0) := BN.out.cell rfl
                have f0 : wc.frozen? ⟨kh, 0, none⟩ = false := BN.out.frozen 0
                have f1 : wc.frozen? ⟨kh, 1, none⟩ = false := BN.out.frozen 1
                have f2 : wc.frozen? ⟨kh, 2, none⟩ = false := BN.out.frozen 2
                have f3 : wc.frozen? ⟨kh, 3, none⟩ = false := BN.out.frozen 3
                have f4 : wc.frozen? ⟨kh, 4, none⟩ = false := BN.out.frozen 4
                have f5 : wc.frozen? ⟨kh, 5, none⟩ = false := BN.out.frozen 5
                go_simp
                obtain ⟨wq, hWn⟩ : ∃ W5, W5 = (((((wc.setCell ⟨kh, 0, none⟩ (.int .i64 (zi (MakePuzzle_ok W H xs a b ps q) W))).setCell ⟨kh, 1, none⟩ (.int .i64 (zi (MakePuzzle_ok W H xs a b ps q) H))).setCell ⟨kh, 2, none⟩ (.slice AH nH cH)).setCell ⟨kh, 3, none⟩ (.int .i64 (zi (MakePuzzle_ok W H xs a b ps q) a))).setCell ⟨kh, 4, none⟩ (.int .i64 (zi (MakePuzzle_ok W H xs a b ps q) b))).setCell ⟨kh, 5, none⟩ (.slice AH2 nH2 cH2) := ⟨_, rfl⟩
                have hgr : wc.grownBy wq (some (kh)) := by rw [hWn]; exact (grown_next (grown_next (grown_next (grown_next (grown_next (grownSet1 wc ⟨kh, 0, none⟩ (.int .i64 (zi (MakePuzzle_ok W H xs a b ps q) W))) (grownSet1 _ ⟨kh, 1, none⟩ (.int .i64 (zi (MakePuzzle_ok W H xs a b ps q) H)))) (grownSet1 _ ⟨kh, 2, none⟩ (.slice AH nH cH))) (grownSet1 _ ⟨kh, 3, none⟩ (.int .i64 (zi (MakePuzzle_ok W H xs a b ps q) a)))) (grownSet1 _ ⟨kh, 4, none⟩ (.int .i64 (zi (MakePuzzle_ok W H xs a b ps q) b)))) (grownSet1 _ ⟨kh, 5, none⟩ (.slice AH2 nH2 cH2)))
                replace BN := Lib.hid (show Bx wq (kh) #[.int .i64 (zi (MakePuzzle_ok W H xs a b ps q) W), .int .i64 (zi (MakePuzzle_ok W H xs a b ps q) H), .slice AH nH cH, .int .i64 (zi (MakePuzzle_ok W H xs a b ps q) a), .int .i64 (zi (MakePuzzle_ok W H xs a b ps q) b), .slice AH2 nH2 cH2] 34 by rw [hWn]; exact ((((((BN.out.set 0 (.int .i64 (zi (MakePuzzle_ok W H xs a b ps q) W))).set 1 (.int .i64 (zi (MakePuzzle_ok W H xs a b ps q) H))).set 2 (.slice AH nH cH)).set 3 (.int .i64 (zi (MakePuzzle_ok W H xs a b ps q) a))).set 4 (.int .i64 (zi (MakePuzzle_ok W H xs a b ps q) b))).set 5 (.slice AH2 nH2 cH2)))
                replace BA := Lib.hid (BA.out.grown hgr (by have := VBA.out; have := Hkh.out; simp; omega))
                replace BLp := Lib.hid (BLp.out.grown hgr (by have := VBLp.out; have := Hkh.out; simp; omega))
                replace BXw := Lib.hid (BXw.out.grown hgr (by have := VBXw.out; have := Hkh.out; simp; omega))
                replace BXv := Lib.hid (BXv.out.grown hgr (by have := VBXv.out; have := Hkh.out; simp; omega))
                replace OW1 := Lib.hid (OW1.out.other hgr (fun a9 ha9 he => by injection he with he; have := UOW1.out a9 ha9; have := Hkh.out; omega))
                replace OW2 := Lib.hid (OW2.out.other hgr (fun a9 ha9 he => by injection he with he; have := UOW2.out a9 ha9; have := Hkh.out; omega))
                replace OG1 := Lib.hid (OG1.out.other hgr (fun a9 ha9 he => by injection he with he; have := UOG1.out a9 ha9; have := Hkh.out; omega))
                replace OG2 := Lib.hid (OG2.out.other hgr (fun a9 ha9 he => by injection he with he; have := UOG2.out a9 ha9; have := Hkh.out; omega))
                replace On1 := Lib.hid (On1.out.other hgr (fun a9 ha9 he => by injection he with he; exact HNE1.out a9 ha9 he))
                replace On2 := Lib.hid (On2.out.other hgr (fun a9 ha9 he => by injection he with he; exact HNE2.out a9 ha9 he))
                replace HSZ := Lib.hid (Nat.le_trans HSZ.out hgr.size)
                replace B := Lib.hid (B.out.grown hgr B.out.size (fun g9 h9 => by injection h9 with h9; have := Hkh.out; have := HBBH.out; omega))
                replace HBH := Lib.hid (Nat.le_trans HBH.out hgr.size)
                rw [← hWn]
                clear hWn hgr z0 f0 z1 f1 z2 f2 z3 f3 z4 f4 z5 f5
                refine hK.out _ _ ?_ (fun hHeld => ?_)
                · (try dsimp only)
                  exact ⟨BA.out.cell rfl, BA.out.cell rfl, BA.out.cell rfl, BLp.out.cell rfl, BLp.out.cell rfl⟩
                clear hK K
                (try simp only [Act.put, List.setIfInBounds_toArray, List.set_cons_zero, List.set_cons_succ])
                refine wpAnyH_take (i := 13) (oi := ⟨_, _, _, _, _, _⟩) (v := ?_) rfl (by kernel_rfl) (by kernel_rfl) (by kernel_rfl) (fun _ _ _ h => h) (Or.inl ⟨by rfl, ?_⟩) (by assumption) ?_
                rotate_left
                · intro w hSw
                  (try dsimp only at hSw)
                  go_simp
                  (try with_reducible rfl)
                (try simp only [Act.put, List.setIfInBounds_toArray, List.set_cons_zero, List.set_cons_succ])
                refine wpAnyH_done (by kernel_rfl) ?_ _
                clear hHeld
                (try go_wp2_with fail)
                go_meet
                exact ⟨kh, AH, nH, cH, AH2, nH2, cH2, rfl, rfl, BA.out, BLp.out, BXw.out, BXv.out, OW1.out, OW2.out, OG1.out, OG2.out, On1.out, On2.out, HAPn.out, HNE1.out, HNE2.out, Hkh.out, HBH.out, BN.out, HSZ.out, B.out⟩
            · go_simp
              obtain ⟨wt, hWn⟩ : ∃ W5, W5 = wy.alloc (.cells #[.int .i64 0, .int .i64 0, .slice none 0 0, .int .i64 0, .int .i64 0, .slice none 0 0] 34) := ⟨_, rfl⟩
              have hb : Below wy.heap.size wy wt := by rw [hWn]; exact below_new (Below.refl _ _) _
              obtain ⟨kh, hgp⟩ : ∃ gp, gp = wy.heap.size := ⟨_, rfl⟩
              have BN := Lib.hid (show Bx wt kh #[.int .i64 0, .int .i64 0, .slice none 0 0, .int .i64 0, .int .i64 0, .slice none 0 0] 34 by rw [hWn, hgp]; exact Bx.new _ _ _)
              have Hkh := Lib.hid (show lH ≤ kh by rw [hgp]; exact HBH.out)
              replace HBH := Lib.hid (Nat.le_trans HBH.out hb.size)
              rw [← hWn]
              (try rw [← hgp])
              clear hWn hgp
              replace BA := Lib.hid (BA.out.keep hb)
              replace BLp := Lib.hid (BLp.out.keep hb)
              replace BXw := Lib.hid (BXw.out.keep hb)
              replace BXv := Lib.hid (BXv.out.keep hb)
              replace OW1 := Lib.hid (OW1.out.keep hb)
              replace OW2 := Lib.hid (OW2.out.keep hb)
              replace OG1 := Lib.hid (OG1.out.keep hb)
              replace OG2 := Lib.hid (OG2.out.keep hb)
              replace Os := Lib.hid (Os.out.keep hb)
              replace HSZ := Lib.hid (Nat.le_trans HSZ.out hb.size)
              replace B := Lib.hid (below_next B.out hb)
              clear hb
              refine hK.out _ _ ?_ (fun hHeld => ?_)
              · (try dsimp only)
                exact ⟨BA.out.cell rfl, BA.out.cell rfl, BA.out.cell rfl, BLp.out.cell rfl, BLp.out.cell rfl⟩
              clear hK K
              (try simp only [Act.put, List.setIfInBounds_toArray, List.set_cons_zero, List.set_cons_succ])
              refine wpAnyH_ready (rs := [3]) (by kernel_rfl) (by simp) ?_
              refine AllReadyH.cons (o := ⟨_, _, _, _, _, _⟩) rfl (fun K hK => ?_) AllReadyH.nil
              go_simp
              (go_at_call 35; refine (toLeaper_any a b _).mono ?_; rintro e wl ⟨rfl, hb⟩; (repeat (first | replace hb := below_undrew hb | replace hb := below_undrewN hb)); replace HBH := Lib.hid (Nat.le_trans HBH.out hb.size); replace BA := Lib.hid (BA.out.keep hb); replace BLp := Lib.hid (BLp.out.keep hb); replace BXw := Lib.hid (BXw.out.keep hb); replace BXv := Lib.hid (BXv.out.keep hb); replace OW1 := Lib.hid (OW1.out.keep hb); replace OW2 := Lib.hid (OW2.out.keep hb); replace OG1 := Lib.hid (OG1.out.keep hb); replace OG2 := Lib.hid (OG2.out.keep hb); replace Os := Lib.hid (Os.out.keep hb); replace BN := Lib.hid (BN.out.keep hb); replace HSZ := Lib.hid (Nat.le_trans HSZ.out hb.size); replace B := Lib.hid (below_next B.out hb); clear hb)
              (try go_wp2_with fail)
              refine hK.out _ _ ?_ (fun hHeld => ?_)
              · (try dsimp only)
                exact ⟨BA.out.cell rfl, BA.out.cell rfl, BA.out.cell rfl, BLp.out.cell rfl, BLp.out.cell rfl⟩
              clear hK K
              (try simp only [Act.put, List.setIfInBounds_toArray, List.set_cons_zero, List.set_cons_succ])
              refine wpAnyH_ready (rs := [5]) (by kernel_rfl) (by simp) ?_
              refine AllReadyH.cons (o := ⟨_, _, _, _, _, _⟩) rfl (fun K hK => ?_) AllReadyH.nil
              go_simp
              (go_at_call 19; refine (toIntS_any A3 m3 c3 ps _ (by exact (RQ0.out.keep B.out).drew1) (by have := HQ9.out; omega)).mono ?_; rintro e wz ⟨gp, rfl, own, hb⟩; (repeat (first | replace hb := below_undrew hb | replace hb := below_undrewN hb)); have Op := Lib.hid own; replace HBH := Lib.hid (Nat.le_trans HBH.out hb.size); clear own; replace BA := Lib.hid (BA.out.keep hb); replace BLp := Lib.hid (BLp.out.keep hb); replace BXw := Lib.hid (BXw.out.keep hb); replace BXv := Lib.hid (BXv.out.keep hb); replace OW1 := Lib.hid (OW1.out.keep hb); replace OW2 := Lib.hid (OW2.out.keep hb); replace OG1 := Lib.hid (OG1.out.keep hb); replace OG2 := Lib.hid (OG2.out.keep hb); replace Os := Lib.hid (Os.out.keep hb); replace BN := Lib.hid (BN.out.keep hb); replace HSZ := Lib.hid (Nat.le_trans HSZ.out hb.size); replace B := Lib.hid (below_next B.out hb); clear hb)
              (try go_wp2_with fail)
              refine hK.out _ _ ?_ (fun hHeld => ?_)
              · (try dsimp only)
                exact ⟨BA.out.cell rfl, BA.out.cell rfl, BA.out.cell rfl, BLp.out.cell rfl, BLp.out.cell rfl⟩
              clear hK K
              (try simp only [Act.put, List.setIfInBounds_toArray, List.set_cons_zero, List.set_cons_succ])
              refine wpAnyH_ready (rs := [7]) (by kernel_rfl) (by simp) ?_
              refine AllReadyH.cons (o := ⟨_, _, _, _, _, _⟩) rfl (fun K hK => ?_) AllReadyH.nil
              go_simp
              (go_at_call 36; refine (impl_MakePuzzle W H _ _ _ xs a b _ _ _ ps q _ (by exact Os.out.rd) (by exact Op.out.rd)).mono ?_; rintro e wc ⟨AH, nH, cH, AH2, nH2, cH2, rfl, o1, o2, hap, hb⟩; (repeat (first | replace hb := below_undrew hb | replace hb := below_undrewN hb)); have On1 := Lib.hid (o1.lower (show lH ≤ wz.heap.size from HBH.out)); have On2 := Lib.hid (o2.lower (show lH ≤ wz.heap.size from HBH.out)); have HAPn := Lib.hid hap; have HNE1 := Lib.hid (show ∀ y, AH = some y → y.block ≠ kh from fun y hy => by have h8 : wz.heap.size ≤ y.block := (o1.span y hy).1; have h9 := BN.out.lt; omega); have HNE2 := Lib.hid (show ∀ y, AH2 = some y → y.block ≠ kh from fun y hy => by have h8 : wz.heap.size ≤ y.block := (o2.span y hy).1; have h9 := BN.out.lt; omega); replace HBH := Lib.hid (Nat.le_trans HBH.out hb.size); clear o1 o2 hap; replace BA := Lib.hid (BA.out.keep hb); replace BLp := Lib.hid (BLp.out.keep hb); replace BXw := Lib.hid (BXw.out.keep hb); replace BXv := Lib.hid (BXv.out.keep hb); replace OW1 := Lib.hid (OW1.out.keep hb); replace OW2 := Lib.hid (OW2.out.keep hb); replace OG1 := Lib.hid (OG1.out.keep hb); replace OG2 := Lib.hid (OG2.out.keep hb); replace BN := Lib.hid (BN.out.keep hb); replace HSZ := Lib.hid (Nat.le_trans HSZ.out hb.size); replace B := Lib.hid (below_next B.out hb); clear hb)
              (try go_wp2_with fail)
              refine hK.out _ _ ?_ (fun hHeld => ?_)
              · (try dsimp only)
                exact ⟨BA.out.cell rfl, BA.out.cell rfl, BA.out.cell rfl, BLp.out.cell rfl, BLp.out.cell rfl⟩
              clear hK K
              (try simp only [Act.put, List.setIfInBounds_toArray, List.set_cons_zero, List.set_cons_succ])
              refine wpAnyH_take (i := 8) (oi := ⟨_, _, _, _, _, _⟩) (v := ?_) rfl (by kernel_rfl) (by kernel_rfl) (by kernel_rfl) (fun _ _ _ h => h) (Or.inl ⟨by rfl, ?_⟩) (by assumption) ?_
              rotate_left
              · intro w hSw
                (try dsimp only at hSw)
                go_simp
                (try with_reducible rfl)
              (try simp only [Act.put, List.setIfInBounds_toArray, List.set_cons_zero, List.set_cons_succ])
              refine wpAnyH_take (i := 9) (oi := ⟨_, _, _, _, _, _⟩) (v := ?_) rfl (by kernel_rfl) (by kernel_rfl) (by kernel_rfl) (fun _ _ _ h => h) (Or.inl ⟨by rfl, ?_⟩) (by assumption) ?_
              rotate_left
              · intro w hSw
                (try dsimp only at hSw)
                go_simp
                (try with_reducible rfl)
              (try simp only [Act.put, List.setIfInBounds_toArray, List.set_cons_zero, List.set_cons_succ])
              refine wpAnyH_take (i := 10) (oi := ⟨_, _, _, _, _, _⟩) (v := ?_) rfl (by kernel_rfl) (by kernel_rfl) (by kernel_rfl) (fun _ _ _ h => h) (Or.inl ⟨by rfl, ?_⟩) (by assumption) ?_
              rotate_left
              · intro w hSw
                (try dsimp only at hSw)
                go_simp
                (try with_reducible rfl)
              (try simp only [Act.put, List.setIfInBounds_toArray, List.set_cons_zero, List.set_cons_succ])
              refine wpAnyH_ready (rs := [12]) (by kernel_rfl) (by simp) ?_
              refine AllReadyH.cons (o := ⟨_, _, _, _, _, _⟩) rfl (fun K hK => ?_) AllReadyH.nil
              have z0 : wc.cell? ⟨kh, 0, none⟩ = some (.int .i64 0) := BN.out.cell rfl
              have z1 : wc.cell? ⟨kh, 1, none⟩ = some (.int .i64 0) := BN.out.cell rfl
              have z2 : wc.cell? ⟨kh, 2, none⟩ = some (.slice none 0 0) := BN.out.cell rfl
              have z3 : wc.cell? ⟨kh, 3, none⟩ = some (.int .i64 0) := BN.out.cell rfl
              have z4 : wc.cell? ⟨kh, 4, none⟩ = some (.int .i64 0) := BN.out.cell rfl
              have z5 : wc.cell? ⟨kh, 5, none⟩ = some (.slice none 0 0) := BN.out.cell rfl
              have f0 : wc.frozen? ⟨kh, 0, none⟩ = false := BN.out.frozen 0
              have f1 : wc.frozen? ⟨kh, 1, none⟩ = false := BN.out.frozen 1
              have f2 : wc.frozen? ⟨kh, 2, none⟩ = false := BN.out.frozen 2
              have f3 : wc.frozen? ⟨kh, 3, none⟩ = false := BN.out.frozen 3
              have f4 : wc.frozen? ⟨kh, 4, none⟩ = false := BN.out.frozen 4
              have f5 : wc.frozen? ⟨kh, 5, none⟩ = false := BN.out.frozen 5
              go_simp
              obtain ⟨wq, hWn⟩ : ∃ W5, W5 = (((((wc.setCell ⟨kh, 0, none⟩ (.int .i64 (zi (MakePuzzle_ok W H xs a b ps q) W))).setCell ⟨kh, 1, none⟩ (.int .i64 (zi (MakePuzzle_ok W H xs a b ps q) H))).setCell ⟨kh, 2, none⟩ (.slice AH nH cH)).setCell ⟨kh, 3, none⟩ (.int .i64 (zi (MakePuzzle_ok W H xs a b ps q) a))).setCell ⟨kh, 4, none⟩ (.int .i64 (zi (MakePuzzle_ok W H xs a b ps q) b))).setCell ⟨kh, 5, none⟩ (.slice AH2 nH2 cH2) := ⟨_, rfl⟩
              have hgr : wc.grownBy wq (some (kh)) := by rw [hWn]; exact (grown_next (grown_next (grown_next (grown_next (grown_next (grownSet1 wc ⟨kh, 0, none⟩ (.int .i64 (zi (MakePuzzle_ok W H xs a b ps q) W))) (grownSet1 _ ⟨kh, 1, none⟩ (.int .i64 (zi (MakePuzzle_ok W H xs a b ps q) H)))) (grownSet1 _ ⟨kh, 2, none⟩ (.slice AH nH cH))) (grownSet1 _ ⟨kh, 3, none⟩ (.int .i64 (zi (MakePuzzle_ok W H xs a b ps q) a)))) (grownSet1 _ ⟨kh, 4, none⟩ (.int .i64 (zi (MakePuzzle_ok W H xs a b ps q) b)))) (grownSet1 _ ⟨kh, 5, none⟩ (.slice AH2 nH2 cH2)))
              replace BN := Lib.hid (show Bx wq (kh) #[.int .i64 (zi (MakePuzzle_ok W H xs a b ps q) W), .int .i64 (zi (MakePuzzle_ok W H xs a b ps q) H), .slice AH nH cH, .int .i64 (zi (MakePuzzle_ok W H xs a b ps q) a), .int .i64 (zi (MakePuzzle_ok W H xs a b ps q) b), .slice AH2 nH2 cH2] 34 by rw [hWn]; exact ((((((BN.out.set 0 (.int .i64 (zi (MakePuzzle_ok W H xs a b ps q) W))).set 1 (.int .i64 (zi (MakePuzzle_ok W H xs a b ps q) H))).set 2 (.slice AH nH cH)).set 3 (.int .i64 (zi (MakePuzzle_ok W H xs a b ps q) a))).set 4 (.int .i64 (zi (MakePuzzle_ok W H xs a b ps q) b))).set 5 (.slice AH2 nH2 cH2)))
              replace BA := Lib.hid (BA.out.grown hgr (by have := VBA.out; have := Hkh.out; simp; omega))
              replace BLp := Lib.hid (BLp.out.grown hgr (by have := VBLp.out; have := Hkh.out; simp; omega))
              replace BXw := Lib.hid (BXw.out.grown hgr (by have := VBXw.out; have := Hkh.out; simp; omega))
              replace BXv := Lib.hid (BXv.out.grown hgr (by have := VBXv.out; have := Hkh.out; simp; omega))
              replace OW1 := Lib.hid (OW1.out.other hgr (fun a9 ha9 he => by injection he with he; have := UOW1.out a9 ha9; have := Hkh.out; omega))
              replace OW2 := Lib.hid (OW2.out.other hgr (fun a9 ha9 he => by injection he with he; have := UOW2.out a9 ha9; have := Hkh.out; omega))
              replace OG1 := Lib.hid (OG1.out.other hgr (fun a9 ha9 he => by injection he with he; have := UOG1.out a9 ha9; have := Hkh.out; omega))
              replace OG2 := Lib.hid (OG2.out.other hgr (fun a9 ha9 he => by injection he with he; have := UOG2.out a9 ha9; have := Hkh.out; omega))
              replace On1 := Lib.hid (On1.out.other hgr (fun a9 ha9 he => by injection he with he; exact HNE1.out a9 ha9 he))
              replace On2 := Lib.hid (On2.out.other hgr (fun a9 ha9 he => by injection he with he; exact HNE2.out a9 ha9 he))
              replace HSZ := Lib.hid (Nat.le_trans HSZ.out hgr.size)
              replace B := Lib.hid (B.out.grown hgr B.out.size (fun g9 h9 => by injection h9 with h9; have := Hkh.out; have := HBBH.out; omega))
              replace HBH := Lib.hid (Nat.le_trans HBH.out hgr.size)
              rw [← hWn]
              clear hWn hgr z0 f0 z1 f1 z2 f2 z3 f3 z4 f4 z5 f5
              refine hK.out _ _ ?_ (fun hHeld => ?_)
              · (try dsimp only)
                exact ⟨BA.out.cell rfl, BA.out.cell rfl, BA.out.cell rfl, BLp.out.cell rfl, BLp.out.cell rfl⟩
              clear hK K
              (try simp only [Act.put, List.setIfInBounds_toArray, List.set_cons_zero, List.set_cons_succ])
              refine wpAnyH_take (i := 13) (oi := ⟨_, _, _, _, _, _⟩) (v := ?_) rfl (by kernel_rfl) (by kernel_rfl) (by kernel_rfl) (fun _ _ _ h => h) (Or.inl ⟨by rfl, ?_⟩) (by assumption) ?_
              rotate_left
              · intro w hSw
                (try dsimp only at hSw)
                go_simp
                (try with_reducible rfl)
              (try simp only [Act.put, List.setIfInBounds_toArray, List.set_cons_zero, List.set_cons_succ])
              refine wpAnyH_done (by kernel_rfl) ?_ _
              clear hHeld
              (try go_wp2_with fail)
              go_meet
              exact ⟨kh, AH, nH, cH, AH2, nH2, cH2, rfl, rfl, BA.out, BLp.out, BXw.out, BXv.out, OW1.out, OW2.out, OG1.out, OG2.out, On1.out, On2.out, HAPn.out, HNE1.out, HNE2.out, Hkh.out, HBH.out, BN.out, HSZ.out, B.out⟩
          · go_simp
            obtain ⟨wt, hWn⟩ : ∃ W5, W5 = wv.alloc (.cells #[.int .i64 0, .int .i64 0, .slice none 0 0, .int .i64 0, .int .i64 0, .slice none 0 0] 34) := ⟨_, rfl⟩
            have hb : Below wv.heap.size wv wt := by rw [hWn]; exact below_new (Below.refl _ _) _
            obtain ⟨kh, hgp⟩ : ∃ gp, gp = wv.heap.size := ⟨_, rfl⟩
            have BN := Lib.hid (show Bx wt kh #[.int .i64 0, .int .i64 0, .slice none 0 0, .int .i64 0, .int .i64 0, .slice none 0 0] 34 by rw [hWn, hgp]; exact Bx.new _ _ _)
            have Hkh := Lib.hid (show lH ≤ kh by rw [hgp]; exact HBH.out)
            replace HBH := Lib.hid (Nat.le_trans HBH.out hb.size)
            rw [← hWn]
            (try rw [← hgp])
            clear hWn hgp
            replace BA := Lib.hid (BA.out.keep hb)
            replace BLp := Lib.hid (BLp.out.keep hb)
            replace BXw := Lib.hid (BXw.out.keep hb)
            replace BXv := Lib.hid (BXv.out.keep hb)
            replace OW1 := Lib.hid (OW1.out.keep hb)
            replace OW2 := Lib.hid (OW2.out.keep hb)
            replace OG1 := Lib.hid (OG1.out.keep hb)
            replace OG2 := Lib.hid (OG2.out.keep hb)
            replace HSZ := Lib.hid (Nat.le_trans HSZ.out hb.size)
            replace B := Lib.hid (below_next B.out hb)
            clear hb
            refine hK.out _ _ ?_ (fun hHeld => ?_)
            · (try dsimp only)
              exact ⟨BA.out.cell rfl, BA.out.cell rfl, BA.out.cell rfl, BLp.out.cell rfl, BLp.out.cell rfl⟩
            clear hK K
            (try simp only [Act.put, List.setIfInBounds_toArray, List.set_cons_zero, List.set_cons_succ])
            refine wpAnyH_ready (rs := [1]) (by kernel_rfl) (by simp) ?_
            refine AllReadyH.cons (o := ⟨_, _, _, _, _, _⟩) rfl (fun K hK => ?_) AllReadyH.nil
            go_simp
            (go_at_call 34; refine (toBoard_any W H A n c xs _ (by exact (RA0.out.keep B.out).drew1) (by have := HnB.out; omega)).mono ?_; rintro e wy ⟨gs, rfl, own, hb⟩; (repeat (first | replace hb := below_undrew hb | replace hb := below_undrewN hb)); have Os := Lib.hid own; replace HBH := Lib.hid (Nat.le_trans HBH.out hb.size); clear own; replace BA := Lib.hid (BA.out.keep hb); replace BLp := Lib.hid (BLp.out.keep hb); replace BXw := Lib.hid (BXw.out.keep hb); replace BXv := Lib.hid (BXv.out.keep hb); replace OW1 := Lib.hid (OW1.out.keep hb); replace OW2 := Lib.hid (OW2.out.keep hb); replace OG1 := Lib.hid (OG1.out.keep hb); replace OG2 := Lib.hid (OG2.out.keep hb); replace BN := Lib.hid (BN.out.keep hb); replace HSZ := Lib.hid (Nat.le_trans HSZ.out hb.size); replace B := Lib.hid (below_next B.out hb); clear hb)
            (try go_wp2_with fail)
            refine hK.out _ _ ?_ (fun hHeld => ?_)
            · (try dsimp only)
              exact ⟨BA.out.cell rfl, BA.out.cell rfl, BA.out.cell rfl, BLp.out.cell rfl, BLp.out.cell rfl⟩
            clear hK K
            (try simp only [Act.put, List.setIfInBounds_toArray, List.set_cons_zero, List.set_cons_succ])
            refine wpAnyH_ready (rs := [3]) (by kernel_rfl) (by simp) ?_
            refine AllReadyH.cons (o := ⟨_, _, _, _, _, _⟩) rfl (fun K hK => ?_) AllReadyH.nil
            go_simp
            (go_at_call 35; refine (toLeaper_any a b _).mono ?_; rintro e wl ⟨rfl, hb⟩; (repeat (first | replace hb := below_undrew hb | replace hb := below_undrewN hb)); replace HBH := Lib.hid (Nat.le_trans HBH.out hb.size); replace BA := Lib.hid (BA.out.keep hb); replace BLp := Lib.hid (BLp.out.keep hb); replace BXw := Lib.hid (BXw.out.keep hb); replace BXv := Lib.hid (BXv.out.keep hb); replace OW1 := Lib.hid (OW1.out.keep hb); replace OW2 := Lib.hid (OW2.out.keep hb); replace OG1 := Lib.hid (OG1.out.keep hb); replace OG2 := Lib.hid (OG2.out.keep hb); replace Os := Lib.hid (Os.out.keep hb); replace BN := Lib.hid (BN.out.keep hb); replace HSZ := Lib.hid (Nat.le_trans HSZ.out hb.size); replace B := Lib.hid (below_next B.out hb); clear hb)
            (try go_wp2_with fail)
            refine hK.out _ _ ?_ (fun hHeld => ?_)
            · (try dsimp only)
              exact ⟨BA.out.cell rfl, BA.out.cell rfl, BA.out.cell rfl, BLp.out.cell rfl, BLp.out.cell rfl⟩
            clear hK K
            (try simp only [Act.put, List.setIfInBounds_toArray, List.set_cons_zero, List.set_cons_succ])
            refine wpAnyH_ready (rs := [5]) (by kernel_rfl) (by simp) ?_
            refine AllReadyH.cons (o := ⟨_, _, _, _, _, _⟩) rfl (fun K hK => ?_) AllReadyH.nil
            go_simp
            (go_at_call 19; refine (toIntS_any A3 m3 c3 ps _ (by exact (RQ0.out.keep B.out).drew1) (by have := HQ9.out; omega)).mono ?_; rintro e wz ⟨gp, rfl, own, hb⟩; (repeat (first | replace hb := below_undrew hb | replace hb := below_undrewN hb)); have Op := Lib.hid own; replace HBH := Lib.hid (Nat.le_trans HBH.out hb.size); clear own; replace BA := Lib.hid (BA.out.keep hb); replace BLp := Lib.hid (BLp.out.keep hb); replace BXw := Lib.hid (BXw.out.keep hb); replace BXv := Lib.hid (BXv.out.keep hb); replace OW1 := Lib.hid (OW1.out.keep hb); replace OW2 := Lib.hid (OW2.out.keep hb); replace OG1 := Lib.hid (OG1.out.keep hb); replace OG2 := Lib.hid (OG2.out.keep hb); replace Os := Lib.hid (Os.out.keep hb); replace BN := Lib.hid (BN.out.keep hb); replace HSZ := Lib.hid (Nat.le_trans HSZ.out hb.size); replace B := Lib.hid (below_next B.out hb); clear hb)
            (try go_wp2_with fail)
            refine hK.out _ _ ?_ (fun hHeld => ?_)
            · (try dsimp only)
              exact ⟨BA.out.cell rfl, BA.out.cell rfl, BA.out.cell rfl, BLp.out.cell rfl, BLp.out.cell rfl⟩
            clear hK K
            (try simp only [Act.put, List.setIfInBounds_toArray, List.set_cons_zero, List.set_cons_succ])
            refine wpAnyH_ready (rs := [7]) (by kernel_rfl) (by simp) ?_
            refine AllReadyH.cons (o := ⟨_, _, _, _, _, _⟩) rfl (fun K hK => ?_) AllReadyH.nil
            go_simp
            (go_at_call 36; refine (impl_MakePuzzle W H _ _ _ xs a b _ _ _ ps q _ (by exact Os.out.rd) (by exact Op.out.rd)).mono ?_; rintro e wc ⟨AH, nH, cH, AH2, nH2, cH2, rfl, o1, o2, hap, hb⟩; (repeat (first | replace hb := below_undrew hb | replace hb := below_undrewN hb)); have On1 := Lib.hid (o1.lower (show lH ≤ wz.heap.size from HBH.out)); have On2 := Lib.hid (o2.lower (show lH ≤ wz.heap.size from HBH.out)); have HAPn := Lib.hid hap; have HNE1 := Lib.hid (show ∀ y, AH = some y → y.block ≠ kh from fun y hy => by have h8 : wz.heap.size ≤ y.block := (o1.span y hy).1; have h9 := BN.out.lt; omega); have HNE2 := Lib.hid (show ∀ y, AH2 = some y → y.block ≠ kh from fun y hy => by have h8 : wz.heap.size ≤ y.block := (o2.span y hy).1; have h9 := BN.out.lt; omega); replace HBH := Lib.hid (Nat.le_trans HBH.out hb.size); clear o1 o2 hap; replace BA := Lib.hid (BA.out.keep hb); replace BLp := Lib.hid (BLp.out.keep hb); replace BXw := Lib.hid (BXw.out.keep hb); replace BXv := Lib.hid (BXv.out.keep hb); replace OW1 := Lib.hid (OW1.out.keep hb); replace OW2 := Lib.hid (OW2.out.keep hb); replace OG1 := Lib.hid (OG1.out.keep hb); replace OG2 := Lib.hid (OG2.out.keep hb); replace BN := Lib.hid (BN.out.keep hb); replace HSZ := Lib.hid (Nat.le_trans HSZ.out hb.size); replace B := Lib.hid (below_next B.out hb); clear hb)
            (try go_wp2_with fail)
            refine hK.out _ _ ?_ (fun hHeld => ?_)
            · (try dsimp only)
              exact ⟨BA.out.cell rfl, BA.out.cell rfl, BA.out.cell rfl, BLp.out.cell rfl, BLp.out.cell rfl⟩
            clear hK K
            (try simp only [Act.put, List.setIfInBounds_toArray, List.set_cons_zero, List.set_cons_succ])
            refine wpAnyH_take (i := 8) (oi := ⟨_, _, _, _, _, _⟩) (v := ?_) rfl (by kernel_rfl) (by kernel_rfl) (by kernel_rfl) (fun _ _ _ h => h) (Or.inl ⟨by rfl, ?_⟩) (by assumption) ?_
            rotate_left
            · intro w hSw
              (try dsimp only at hSw)
              go_simp
              (try with_reducible rfl)
            (try simp only [Act.put, List.setIfInBounds_toArray, List.set_cons_zero, List.set_cons_succ])
            refine wpAnyH_take (i := 9) (oi := ⟨_, _, _, _, _, _⟩) (v := ?_) rfl (by kernel_rfl) (by kernel_rfl) (by kernel_rfl) (fun _ _ _ h => h) (Or.inl ⟨by rfl, ?_⟩) (by assumption) ?_
            rotate_left
            · intro w hSw
              (try dsimp only at hSw)
              go_simp
              (try with_reducible rfl)
            (try simp only [Act.put, List.setIfInBounds_toArray, List.set_cons_zero, List.set_cons_succ])
            refine wpAnyH_take (i := 10) (oi := ⟨_, _, _, _, _, _⟩) (v := ?_) rfl (by kernel_rfl) (by kernel_rfl) (by kernel_rfl) (fun _ _ _ h => h) (Or.inl ⟨by rfl, ?_⟩) (by assumption) ?_
            rotate_left
            · intro w hSw
              (try dsimp only at hSw)
              go_simp
              (try with_reducible rfl)
            (try simp only [Act.put, List.setIfInBounds_toArray, List.set_cons_zero, List.set_cons_succ])
            refine wpAnyH_ready (rs := [12]) (by kernel_rfl) (by simp) ?_
            refine AllReadyH.cons (o := ⟨_, _, _, _, _, _⟩) rfl (fun K hK => ?_) AllReadyH.nil
            have z0 : wc.cell? ⟨kh, 0, none⟩ = some (.int .i64 0) := BN.out.cell rfl
            have z1 : wc.cell? ⟨kh, 1, none⟩ = some (.int .i64 0) := BN.out.cell rfl
            have z2 : wc.cell? ⟨kh, 2, none⟩ = some (.slice none 0 0) := BN.out.cell rfl
            have z3 : wc.cell? ⟨kh, 3, none⟩ = some (.int .i64 0) := BN.out.cell rfl
            have z4 : wc.cell? ⟨kh, 4, none⟩ = some (.int .i64 0) := BN.out.cell rfl
            have z5 : wc.cell? ⟨kh, 5, none⟩ = some (.slice none 0 0) := BN.out.cell rfl
            have f0 : wc.frozen? ⟨kh, 0, none⟩ = false := BN.out.frozen 0
            have f1 : wc.frozen? ⟨kh, 1, none⟩ = false := BN.out.frozen 1
            have f2 : wc.frozen? ⟨kh, 2, none⟩ = false := BN.out.frozen 2
            have f3 : wc.frozen? ⟨kh, 3, none⟩ = false := BN.out.frozen 3
            have f4 : wc.frozen? ⟨kh, 4, none⟩ = false := BN.out.frozen 4
            have f5 : wc.frozen? ⟨kh, 5, none⟩ = false := BN.out.frozen 5
            go_simp
            obtain ⟨wq, hWn⟩ : ∃ W5, W5 = (((((wc.setCell ⟨kh, 0, none⟩ (.int .i64 (zi (MakePuzzle_ok W H xs a b ps q) W))).setCell ⟨kh, 1, none⟩ (.int .i64 (zi (MakePuzzle_ok W H xs a b ps q) H))).setCell ⟨kh, 2, none⟩ (.slice AH nH cH)).setCell ⟨kh, 3, none⟩ (.int .i64 (zi (MakePuzzle_ok W H xs a b ps q) a))).setCell ⟨kh, 4, none⟩ (.int .i64 (zi (MakePuzzle_ok W H xs a b ps q) b))).setCell ⟨kh, 5, none⟩ (.slice AH2 nH2 cH2) := ⟨_, rfl⟩
            have hgr : wc.grownBy wq (some (kh)) := by rw [hWn]; exact (grown_next (grown_next (grown_next (grown_next (grown_next (grownSet1 wc ⟨kh, 0, none⟩ (.int .i64 (zi (MakePuzzle_ok W H xs a b ps q) W))) (grownSet1 _ ⟨kh, 1, none⟩ (.int .i64 (zi (MakePuzzle_ok W H xs a b ps q) H)))) (grownSet1 _ ⟨kh, 2, none⟩ (.slice AH nH cH))) (grownSet1 _ ⟨kh, 3, none⟩ (.int .i64 (zi (MakePuzzle_ok W H xs a b ps q) a)))) (grownSet1 _ ⟨kh, 4, none⟩ (.int .i64 (zi (MakePuzzle_ok W H xs a b ps q) b)))) (grownSet1 _ ⟨kh, 5, none⟩ (.slice AH2 nH2 cH2)))
            replace BN := Lib.hid (show Bx wq (kh) #[.int .i64 (zi (MakePuzzle_ok W H xs a b ps q) W), .int .i64 (zi (MakePuzzle_ok W H xs a b ps q) H), .slice AH nH cH, .int .i64 (zi (MakePuzzle_ok W H xs a b ps q) a), .int .i64 (zi (MakePuzzle_ok W H xs a b ps q) b), .slice AH2 nH2 cH2] 34 by rw [hWn]; exact ((((((BN.out.set 0 (.int .i64 (zi (MakePuzzle_ok W H xs a b ps q) W))).set 1 (.int .i64 (zi (MakePuzzle_ok W H xs a b ps q) H))).set 2 (.slice AH nH cH)).set 3 (.int .i64 (zi (MakePuzzle_ok W H xs a b ps q) a))).set 4 (.int .i64 (zi (MakePuzzle_ok W H xs a b ps q) b))).set 5 (.slice AH2 nH2 cH2)))
            replace BA := Lib.hid (BA.out.grown hgr (by have := VBA.out; have := Hkh.out; simp; omega))
            replace BLp := Lib.hid (BLp.out.grown hgr (by have := VBLp.out; have := Hkh.out; simp; omega))
            replace BXw := Lib.hid (BXw.out.grown hgr (by have := VBXw.out; have := Hkh.out; simp; omega))
            replace BXv := Lib.hid (BXv.out.grown hgr (by have := VBXv.out; have := Hkh.out; simp; omega))
            replace OW1 := Lib.hid (OW1.out.other hgr (fun a9 ha9 he => by injection he with he; have := UOW1.out a9 ha9; have := Hkh.out; omega))
            replace OW2 := Lib.hid (OW2.out.other hgr (fun a9 ha9 he => by injection he with he; have := UOW2.out a9 ha9; have := Hkh.out; omega))
            replace OG1 := Lib.hid (OG1.out.other hgr (fun a9 ha9 he => by injection he with he; have := UOG1.out a9 ha9; have := Hkh.out; omega))
            replace OG2 := Lib.hid (OG2.out.other hgr (fun a9 ha9 he => by injection he with he; have := UOG2.out a9 ha9; have := Hkh.out; omega))
            replace On1 := Lib.hid (On1.out.other hgr (fun a9 ha9 he => by injection he with he; exact HNE1.out a9 ha9 he))
            replace On2 := Lib.hid (On2.out.other hgr (fun a9 ha9 he => by injection he with he; exact HNE2.out a9 ha9 he))
            replace HSZ := Lib.hid (Nat.le_trans HSZ.out hgr.size)
            replace B := Lib.hid (B.out.grown hgr B.out.size (fun g9 h9 => by injection h9 with h9; have := Hkh.out; have := HBBH.out; omega))
            replace HBH := Lib.hid (Nat.le_trans HBH.out hgr.size)
            rw [← hWn]
            clear hWn hgr z0 f0 z1 f1 z2 f2 z3 f3 z4 f4 z5 f5
            refine hK.out _ _ ?_ (fun hHeld => ?_)
            · (try dsimp only)
              exact ⟨BA.out.cell rfl, BA.out.cell rfl, BA.out.cell rfl, BLp.out.cell rfl, BLp.out.cell rfl⟩
            clear hK K
            (try simp only [Act.put, List.setIfInBounds_toArray, List.set_cons_zero, List.set_cons_succ])
            refine wpAnyH_take (i := 13) (oi := ⟨_, _, _, _, _, _⟩) (v := ?_) rfl (by kernel_rfl) (by kernel_rfl) (by kernel_rfl) (fun _ _ _ h => h) (Or.inl ⟨by rfl, ?_⟩) (by assumption) ?_
            rotate_left
            · intro w hSw
              (try dsimp only at hSw)
              go_simp
              (try with_reducible rfl)
            (try simp only [Act.put, List.setIfInBounds_toArray, List.set_cons_zero, List.set_cons_succ])
            refine wpAnyH_done (by kernel_rfl) ?_ _
            clear hHeld
            (try go_wp2_with fail)
            go_meet
            exact ⟨kh, AH, nH, cH, AH2, nH2, cH2, rfl, rfl, BA.out, BLp.out, BXw.out, BXv.out, OW1.out, OW2.out, OG1.out, OG2.out, On1.out, On2.out, HAPn.out, HNE1.out, HNE2.out, Hkh.out, HBH.out, BN.out, HSZ.out, B.out⟩
        case rest =>
          clear BA BLp BXw BXv OW1 OW2 OG1 OG2 HSZ B HBH
          obtain ⟨kh, AH, nH, cH, AH2, nH2, cH2, rfl, rfl, b_ba, b_blp, b_bxw, b_bxv, o_ow1, o_ow2, o_og1, o_og2, o1, o2, hap, hne1, hne2, hkn, hsz2, bn, hsz, hbw⟩ := hcut
          have BA := Lib.hid b_ba
          have BLp := Lib.hid b_blp
          have BXw := Lib.hid b_bxw
          have BXv := Lib.hid b_bxv
          have OW1 := Lib.hid o_ow1
          have OW2 := Lib.hid o_ow2
          have OG1 := Lib.hid o_og1
          have OG2 := Lib.hid o_og2
          have OH1 := Lib.hid o1; have OH2 := Lib.hid o2; have HAH := Lib.hid hap; have HEH1 := Lib.hid hne1; have HEH2 := Lib.hid hne2; have HKH := Lib.hid hkn; have BXh := Lib.hid bn; have HSZ := Lib.hid hsz; have B := Lib.hid hbw; have HZH := Lib.hid hsz2
          clear b_ba b_blp b_bxw b_bxv o_ow1 o_ow2 o_og1 o_og2 o1 o2 hap hne1 hne2 hkn hsz2 bn hsz hbw
          have v0 := BXh.out.cell (j := 0) (v := .int .i64 (zi (MakePuzzle_ok W H xs a b ps q) W)) rfl
          have v1 := BXh.out.cell (j := 1) (v := .int .i64 (zi (MakePuzzle_ok W H xs a b ps q) H)) rfl
          have v2 := BXh.out.cell (j := 2) (v := .slice AH nH cH) rfl
          have v3 := BXh.out.cell (j := 3) (v := .int .i64 (zi (MakePuzzle_ok W H xs a b ps q) a)) rfl
          have v4 := BXh.out.cell (j := 4) (v := .int .i64 (zi (MakePuzzle_ok W H xs a b ps q) b)) rfl
          have v5 := BXh.out.cell (j := 5) (v := .slice AH2 nH2 cH2) rfl
          have vl := BXh.out.lt
          have u0 := BXw.out.cell (j := 0) (v := .int .i64 (zi (MakePuzzle_ok W H xs a b ps q) W)) rfl
          have u1 := BXw.out.cell (j := 1) (v := .int .i64 (zi (MakePuzzle_ok W H xs a b ps q) H)) rfl
          have u2 := BXw.out.cell (j := 2) (v := .slice AW nW cW) rfl
          have u3 := BXw.out.cell (j := 3) (v := .int .i64 (zi (MakePuzzle_ok W H xs a b ps q) a)) rfl
          have u4 := BXw.out.cell (j := 4) (v := .int .i64 (zi (MakePuzzle_ok W H xs a b ps q) b)) rfl
          have u5 := BXw.out.cell (j := 5) (v := .slice AW2 nW2 cW2) rfl
          have ul := BXw.out.lt
          go_wp2_with fail
          clear v0 v1 v2 v3 v4 v5 vl
          clear u0 u1 u2 u3 u4 u5 ul
          refine (eqPuzzle_any (zi (MakePuzzle_ok W H xs a b ps q) W) (zi (MakePuzzle_ok W H xs a b ps q) H) _ _ _ (zi (MakePuzzle_ok W H xs a b ps q) a) (zi (MakePuzzle_ok W H xs a b ps q) b) _ _ _ _ _ _ _ _ _ (zl (MakePuzzle_ok W H xs a b ps q) (MakePuzzle_xs W H xs a b ps q)) (zl (MakePuzzle_ok W H xs a b ps q) (MakePuzzle_ns W H xs a b ps q)) (zl (MakePuzzle_ok W H xs a b ps q) (MakePuzzle_xs W H xs a b ps q)) (zl (MakePuzzle_ok W H xs a b ps q) (MakePuzzle_ns W H xs a b ps q)) _ OH1.out.rd OH2.out.rd OW1.out.rd OW2.out.rd).mono ?_
          simp only [decide_true, Bool.and_self]
          rintro e wv ⟨rfl, hb⟩
          replace BA := Lib.hid (BA.out.keep hb)
          replace BLp := Lib.hid (BLp.out.keep hb)
          replace BXw := Lib.hid (BXw.out.keep hb)
          replace BXv := Lib.hid (BXv.out.keep hb)
          replace BXh := Lib.hid (BXh.out.keep hb)
          replace OW1 := Lib.hid (OW1.out.keep hb)
          replace OW2 := Lib.hid (OW2.out.keep hb)
          replace OG1 := Lib.hid (OG1.out.keep hb)
          replace OG2 := Lib.hid (OG2.out.keep hb)
          replace OH1 := Lib.hid (OH1.out.keep hb)
          replace OH2 := Lib.hid (OH2.out.keep hb)
          replace HSZ := Lib.hid (Nat.le_trans HSZ.out hb.size)
          replace B := Lib.hid (below_next B.out hb)
          clear hb
          have v0 := BXv.out.cell (j := 0) (v := .int .i64 (zi (MakePuzzle_ok W H xs a b ps q) W)) rfl
          have v1 := BXv.out.cell (j := 1) (v := .int .i64 (zi (MakePuzzle_ok W H xs a b ps q) H)) rfl
          have v2 := BXv.out.cell (j := 2) (v := .slice AG nG cG) rfl
          have v3 := BXv.out.cell (j := 3) (v := .int .i64 (zi (MakePuzzle_ok W H xs a b ps q) a)) rfl
          have v4 := BXv.out.cell (j := 4) (v := .int .i64 (zi (MakePuzzle_ok W H xs a b ps q) b)) rfl
          have v5 := BXv.out.cell (j := 5) (v := .slice AG2 nG2 cG2) rfl
          have vl := BXv.out.lt
          go_wp2_with fail
          clear v0 v1 v2 v3 v4 v5 vl
          refine (heldPuzzle_any _ _ _ _ _ _ _ _ _ _ 1 _ OG1.out.rd OG2.out.rd (by omega) (by have := HSG.out; have := HSG2.out; omega)).mono ?_
          rintro e wv ⟨rfl, hb⟩
          replace BA := Lib.hid (BA.out.keep hb)
          replace BLp := Lib.hid (BLp.out.keep hb)
          replace BXw := Lib.hid (BXw.out.keep hb)
          replace BXv := Lib.hid (BXv.out.keep hb)
          replace BXh := Lib.hid (BXh.out.keep hb)
          replace OW1 := Lib.hid (OW1.out.keep hb)
          replace OW2 := Lib.hid (OW2.out.keep hb)
          replace OG1 := Lib.hid (OG1.out.keep hb)
          replace OG2 := Lib.hid (OG2.out.keep hb)
          replace OH1 := Lib.hid (OH1.out.keep hb)
          replace OH2 := Lib.hid (OH2.out.keep hb)
          replace HSZ := Lib.hid (Nat.le_trans HSZ.out hb.size)
          replace B := Lib.hid (below_next B.out hb)
          clear hb
          go_wp2
          go_ret
          exact ⟨rfl, B.out⟩

end Go.Proofs.Ytkdfilhiljfanaa
