/-
  The walk of the exact law on IsDesk: it answers true, and what was there stays.
-/
import Derived.Test.YtadopgfpfbianaaLaw0
import Derived.Test.YtadopgfpfbianaaX1
import Derived.Test.YtadopgfpfbianaaX2
namespace Go.Proofs.Ytadopgfpfbianaa
open Go.RowKit

set_option maxHeartbeats 4000000 in
set_option maxRecDepth 100000 in
theorem law_IsDesk (w : World) (W H : Int) (A : Option Addr) (n c : Nat) (a b : Int) (A2 : Option Addr) (n2 c2 : Nat) (xs ns : List Int) (ha : Rd w A n xs) (hp : Rd w A2 n2 ns) :
    Calls Try.prog 4 #[pzv W H A n c a b A2 n2 c2] w fun e w' => e = .returned (.bool true) ∧ Below w.heap.size w w' := by
  have hn9 := ha.2.1; have hn92 := hp.2.1
  have RA0 := Lib.hid ha; have RN0 := Lib.hid hp
  clear ha hp
  obtain ⟨W2, hW2⟩ : ∃ W2, W2 = w.alloc (.cells #[.int .i64 W, .int .i64 H, .slice A n c, .int .i64 a, .int .i64 b, .slice A2 n2 c2] 36) := ⟨_, rfl⟩
  have BA := Lib.hid (show Bx W2 (w.heap.size) #[.int .i64 W, .int .i64 H, .slice A n c, .int .i64 a, .int .i64 b, .slice A2 n2 c2] 36 by rw [hW2]; exact Bx.new (w) #[.int .i64 W, .int .i64 H, .slice A n c, .int .i64 a, .int .i64 b, .slice A2 n2 c2] 36)
  have B := Lib.hid (show Below w.heap.size w W2 by rw [hW2]; repeat (first | exact Below.refl _ _ | refine below_new ?_ _))
  have HSZ := Lib.hid (show w.heap.size + 1 ≤ W2.heap.size by rw [hW2]; simp)
  have hs0 := HSZ
  have hz := Lib.hid (show w.heap.size < W2.heap.size by have := HSZ.out; omega)
  clear HSZ
  have p0 : W2.cell? ⟨w.heap.size, 0, none⟩ = some (.int .i64 W) := BA.out.cell rfl
  have p1 : W2.cell? ⟨w.heap.size, 1, none⟩ = some (.int .i64 H) := BA.out.cell rfl
  have p2 : W2.cell? ⟨w.heap.size, 2, none⟩ = some (.slice A n c) := BA.out.cell rfl
  have p3 : W2.cell? ⟨w.heap.size, 3, none⟩ = some (.int .i64 a) := BA.out.cell rfl
  have p4 : W2.cell? ⟨w.heap.size, 4, none⟩ = some (.int .i64 b) := BA.out.cell rfl
  have p5 : W2.cell? ⟨w.heap.size, 5, none⟩ = some (.slice A2 n2 c2) := BA.out.cell rfl
  have pl : w.heap.size < W2.heap.size := BA.out.lt
  by_cases hsz : (n : Int) ≤ 1048576 ∧ (n2 : Int) ≤ 1048576 - n
  rotate_left
  · go_enter Try.func4, Try.ntmps4
    go_wp2_with fail
    rw [← hW2]
    clear hW2
    clear p0 p1 p2 p3 p4 p5
    refine (szDesk_any W H A n c a b A2 n2 c2 1048576 _ hn9 hn92 (by omega) (by omega)).mono ?_
    rw [if_neg hsz]
    rintro e wv ⟨rfl, hb⟩
    replace B := Lib.hid (below_next B.out hb)
    clear hb
    go_wp2
    go_ret
    exact ⟨rfl, B.out⟩
  · have HZ := Lib.hid hsz
    go_enter Try.func4, Try.ntmps4
    go_wp2_with fail
    rw [← hW2]
    clear hW2
    clear p0 p1 p2 p3 p4 p5
    refine (szDesk_any W H A n c a b A2 n2 c2 1048576 _ hn9 hn92 (by omega) (by omega)).mono ?_
    rw [if_pos hsz]
    rintro e wv ⟨rfl, hb⟩
    replace BA := Lib.hid (BA.out.keep hb)
    have hs1 := Lib.hid hb.size
    replace B := Lib.hid (below_next B.out hb)
    clear hb
    have hge : (0 : Int) ≤ 1048576 - n - n2 := by omega
    clear hsz
    have p0 : wv.cell? ⟨w.heap.size, 0, none⟩ = some (.int .i64 W) := BA.out.cell rfl
    have p1 : wv.cell? ⟨w.heap.size, 1, none⟩ = some (.int .i64 H) := BA.out.cell rfl
    have p2 : wv.cell? ⟨w.heap.size, 2, none⟩ = some (.slice A n c) := BA.out.cell rfl
    have p3 : wv.cell? ⟨w.heap.size, 3, none⟩ = some (.int .i64 a) := BA.out.cell rfl
    have p4 : wv.cell? ⟨w.heap.size, 4, none⟩ = some (.int .i64 b) := BA.out.cell rfl
    have p5 : wv.cell? ⟨w.heap.size, 5, none⟩ = some (.slice A2 n2 c2) := BA.out.cell rfl
    have pl : w.heap.size < wv.heap.size := BA.out.lt
    go_wp2_with fail
    refine (toDesk_any W H A n c a b A2 n2 c2 xs ns _ (RA0.out.keep B.out) (RN0.out.keep B.out) (by have := HZ.out; omega) (by have := HZ.out; omega)).mono ?_
    rintro e wv ⟨gs1, gs2, rfl, hlts, o1, o2, hb⟩
    replace BA := Lib.hid (BA.out.keep hb)
    have hs2 := Lib.hid hb.size
    replace B := Lib.hid (below_next B.out hb)
    have Os1 := Lib.hid o1; have Ss1 := Lib.hid o1.span; have Os2 := Lib.hid o2; have Ss2 := Lib.hid o2.span; have HLTs := Lib.hid hlts
    clear hb o1 o2 hlts
    go_wp2_with fail
    refine (spec_IsDesk W H _ _ _ a b _ _ _ xs ns  _ Os1.out.rd Os2.out.rd (Nat.le_refl _)).mono ?_
    rintro e wv ⟨rfl, hb⟩
    replace BA := Lib.hid (BA.out.keep hb)
    have hs3 := Lib.hid hb.size
    replace B := Lib.hid (below_next B.out hb)
    clear hb
    clear Os1 Os2 Ss1 Ss2 HLTs
    clear p0 p1 p2 p3 p4 p5
    have p0 : wv.cell? ⟨w.heap.size, 0, none⟩ = some (.int .i64 W) := BA.out.cell rfl
    have p1 : wv.cell? ⟨w.heap.size, 1, none⟩ = some (.int .i64 H) := BA.out.cell rfl
    have p2 : wv.cell? ⟨w.heap.size, 2, none⟩ = some (.slice A n c) := BA.out.cell rfl
    have p3 : wv.cell? ⟨w.heap.size, 3, none⟩ = some (.int .i64 a) := BA.out.cell rfl
    have p4 : wv.cell? ⟨w.heap.size, 4, none⟩ = some (.int .i64 b) := BA.out.cell rfl
    have p5 : wv.cell? ⟨w.heap.size, 5, none⟩ = some (.slice A2 n2 c2) := BA.out.cell rfl
    have pl : w.heap.size < wv.heap.size := BA.out.lt
    go_wp2_with fail
    refine (toDesk_any W H A n c a b A2 n2 c2 xs ns _ (RA0.out.keep B.out) (RN0.out.keep B.out) (by have := HZ.out; omega) (by have := HZ.out; omega)).mono ?_
    rintro e wv ⟨gx1, gx2, rfl, hltx, o1, o2, hb⟩
    replace BA := Lib.hid (BA.out.keep hb)
    have hs4 := Lib.hid hb.size
    replace B := Lib.hid (below_next B.out hb)
    have Ox1 := Lib.hid o1; have Sx1 := Lib.hid o1.span; have Ox2 := Lib.hid o2; have Sx2 := Lib.hid o2.span; have HLTx := Lib.hid hltx
    clear hb o1 o2 hltx
    clear p0 p1 p2 p3 p4 p5
    go_wp2_with fail
    obtain ⟨wv3, hWn⟩ : ∃ W5, W5 = wv.alloc (.cells #[.int .i64 W, .int .i64 H, .slice (some ⟨gx1, 0, none⟩) n n, .int .i64 a, .int .i64 b, .slice (some ⟨gx2, 0, none⟩) n2 n2] 28) := ⟨_, rfl⟩
    obtain ⟨kx, hkn⟩ : ∃ k5, k5 = wv.heap.size := ⟨_, rfl⟩
    have hb : Below wv.heap.size wv wv3 := by rw [hWn]; exact below_new (Below.refl _ _) _
    have BXx := Lib.hid (show Bx wv3 kx #[.int .i64 W, .int .i64 H, .slice (some ⟨gx1, 0, none⟩) n n, .int .i64 a, .int .i64 b, .slice (some ⟨gx2, 0, none⟩) n2 n2] 28 by rw [hWn, hkn]; exact Bx.new _ _ _)
    have hkx := Lib.hid hkn; have hlx := Lib.hid BXx.out.lt
    rw [← hWn, ← hkn]
    clear hWn hkn
    replace BA := Lib.hid (BA.out.keep hb)
    replace Ox1 := Lib.hid (Ox1.out.keep hb)
    replace Ox2 := Lib.hid (Ox2.out.keep hb)
    have hs5 := Lib.hid hb.size
    replace B := Lib.hid (below_next B.out hb)
    clear hb
    refine (impl_IsDesk W H _ _ _ a b _ _ _ xs ns  _ Ox1.out.rd Ox2.out.rd).mono ?_
    rintro e wv ⟨rfl, hb⟩
    replace BA := Lib.hid (BA.out.keep hb)
    replace BXx := Lib.hid (BXx.out.keep hb)
    replace Ox1 := Lib.hid (Ox1.out.keep hb)
    replace Ox2 := Lib.hid (Ox2.out.keep hb)
    have hs6 := Lib.hid hb.size
    replace B := Lib.hid (below_next B.out hb)
    clear hb
    go_wp2_with fail
    refine wp_region_held_drew (S := fun w' => w'.cell? ⟨w.heap.size, 0, none⟩ = some (.int .i64 W) ∧ w'.cell? ⟨w.heap.size, 1, none⟩ = some (.int .i64 H) ∧ w'.cell? ⟨w.heap.size, 2, none⟩ = some (.slice A n c) ∧ w'.cell? ⟨w.heap.size, 3, none⟩ = some (.int .i64 a) ∧ w'.cell? ⟨w.heap.size, 4, none⟩ = some (.int .i64 b) ∧ w'.cell? ⟨w.heap.size, 5, none⟩ = some (.slice A2 n2 c2) ∧ w'.cell? ⟨kx, 0, none⟩ = some (.int .i64 W) ∧ w'.cell? ⟨kx, 1, none⟩ = some (.int .i64 H) ∧ w'.cell? ⟨kx, 2, none⟩ = some (.slice (some ⟨gx1, 0, none⟩) n n) ∧ w'.cell? ⟨kx, 3, none⟩ = some (.int .i64 a) ∧ w'.cell? ⟨kx, 4, none⟩ = some (.int .i64 b) ∧ w'.cell? ⟨kx, 5, none⟩ = some (.slice (some ⟨gx2, 0, none⟩) n2 n2)) (by kernel_rfl) ?_ (fun hHeld => ?_)
    · (try dsimp only)
      exact ⟨BA.out.cell rfl, BA.out.cell rfl, BA.out.cell rfl, BA.out.cell rfl, BA.out.cell rfl, BA.out.cell rfl, BXx.out.cell rfl, BXx.out.cell rfl, BXx.out.cell rfl, BXx.out.cell rfl, BXx.out.cell rfl, BXx.out.cell rfl⟩
    refine wpAnyH_take (i := 0) (oi := ⟨_, _, _, _, _, _⟩) (v := ?_) rfl (by kernel_rfl) (by kernel_rfl) (by kernel_rfl) (fun _ _ _ h => h) (Or.inl ⟨by rfl, ?_⟩) (by assumption) ?_
    rotate_left
    · intro w hSw
      (try dsimp only at hSw)
      go_simp
      (try with_reducible rfl)
    (try simp only [Act.put, List.setIfInBounds_toArray, List.set_cons_zero, List.set_cons_succ])
    refine wpAnyH_take (i := 1) (oi := ⟨_, _, _, _, _, _⟩) (v := ?_) rfl (by kernel_rfl) (by kernel_rfl) (by kernel_rfl) (fun _ _ _ h => h) (Or.inl ⟨by rfl, ?_⟩) (by assumption) ?_
    rotate_left
    · intro w hSw
      (try dsimp only at hSw)
      go_simp
      (try with_reducible rfl)
    (try simp only [Act.put, List.setIfInBounds_toArray, List.set_cons_zero, List.set_cons_succ])
    refine wpAnyH_ready (rs := [2]) (by kernel_rfl) (by simp) ?_
    refine AllReadyH.cons (o := ⟨_, _, _, _, _, _⟩) rfl (fun K hK => ?_) AllReadyH.nil
    go_simp
    (go_at_call 21; refine (toDesk_any W H A n c a b A2 n2 c2 xs ns _ (by exact ((RA0.out.keep B.out)).drew1) (by exact ((RN0.out.keep B.out)).drew1) (by have := HZ.out; omega) (by have := HZ.out; omega)).mono ?_; rintro e wv ⟨gy1, gy2, rfl, hlty, o1, o2, hb⟩; (repeat (first | replace hb := below_undrew hb | replace hb := below_undrewN hb)); replace BA := Lib.hid (BA.out.keep hb); replace BXx := Lib.hid (BXx.out.keep hb); replace Ox1 := Lib.hid (Ox1.out.keep hb); replace Ox2 := Lib.hid (Ox2.out.keep hb); have hs7 := Lib.hid hb.size; replace B := Lib.hid (below_next B.out hb); have Oy1 := Lib.hid o1; have Sy1 := Lib.hid o1.span; have Oy2 := Lib.hid o2; have Sy2 := Lib.hid o2.span; have HLTy := Lib.hid hlty; clear hb o1 o2 hlty)
    (try go_wp2_with fail)
    refine hK.out _ _ ?_ (fun hHeld => ?_)
    · (try dsimp only)
      exact ⟨BA.out.cell rfl, BA.out.cell rfl, BA.out.cell rfl, BA.out.cell rfl, BA.out.cell rfl, BA.out.cell rfl, BXx.out.cell rfl, BXx.out.cell rfl, BXx.out.cell rfl, BXx.out.cell rfl, BXx.out.cell rfl, BXx.out.cell rfl⟩
    clear hK K
    (try simp only [Act.put, List.setIfInBounds_toArray, List.set_cons_zero, List.set_cons_succ])
    refine wpAnyH_ready (rs := [3]) (by kernel_rfl) (by simp) ?_
    refine AllReadyH.cons (o := ⟨_, _, _, _, _, _⟩) rfl (fun K hK => ?_) AllReadyH.nil
    go_simp
    (go_at_call 16; refine (eqDesk_any W H _ _ _ a b _ _ _ _ _ _ _ _ _ xs ns xs ns _ Ox1.out.rd Ox2.out.rd Oy1.out.rd Oy2.out.rd).mono ?_; simp only [decide_true, Bool.and_self]; rintro e wv ⟨rfl, hb⟩; (repeat (first | replace hb := below_undrew hb | replace hb := below_undrewN hb)); replace BA := Lib.hid (BA.out.keep hb); replace BXx := Lib.hid (BXx.out.keep hb); replace Ox1 := Lib.hid (Ox1.out.keep hb); replace Ox2 := Lib.hid (Ox2.out.keep hb); have hs8 := Lib.hid hb.size; replace B := Lib.hid (below_next B.out hb); clear hb; clear Oy1 Oy2 Sy1 Sy2 HLTy)
    (try go_wp2_with fail)
    refine hK.out _ _ ?_ (fun hHeld => ?_)
    · (try dsimp only)
      exact ⟨BA.out.cell rfl, BA.out.cell rfl, BA.out.cell rfl, BA.out.cell rfl, BA.out.cell rfl, BA.out.cell rfl, BXx.out.cell rfl, BXx.out.cell rfl, BXx.out.cell rfl, BXx.out.cell rfl, BXx.out.cell rfl, BXx.out.cell rfl⟩
    clear hK K
    (try simp only [Act.put, List.setIfInBounds_toArray, List.set_cons_zero, List.set_cons_succ])
    refine wpAnyH_take (i := 4) (oi := ⟨_, _, _, _, _, _⟩) (v := ?_) rfl (by kernel_rfl) (by kernel_rfl) (by kernel_rfl) (fun _ _ _ h => h) (Or.inl ⟨by rfl, ?_⟩) (by assumption) ?_
    rotate_left
    · intro w hSw
      (try dsimp only at hSw)
      go_simp
      (try with_reducible rfl)
    (try simp only [Act.put, List.setIfInBounds_toArray, List.set_cons_zero, List.set_cons_succ])
    refine wpAnyH_done (by kernel_rfl) ?_ _
    clear hHeld
    go_wp2
    go_ret
    exact ⟨rfl, B.out⟩

end Go.Proofs.Ytadopgfpfbianaa
