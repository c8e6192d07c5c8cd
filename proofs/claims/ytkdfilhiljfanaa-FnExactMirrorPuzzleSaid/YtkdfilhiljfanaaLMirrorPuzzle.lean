/-
  The walk of the exact law on MirrorPuzzle: it answers true, and what was there stays.
-/
import Derived.Test.YtkdfilhiljfanaaLaw0
import Derived.Test.YtkdfilhiljfanaaA1
import Derived.Test.YtkdfilhiljfanaaAB
namespace Go.Proofs.Ytkdfilhiljfanaa
open Go.RowKit

set_option maxHeartbeats 4000000 in
set_option maxRecDepth 100000 in
theorem law_MirrorPuzzle (w : World) (W H : Int) (A : Option Addr) (n c : Nat) (a b : Int) (A2 : Option Addr) (n2 c2 : Nat) (xs ns : List Int) (ha : Rd w A n xs) (hp : Rd w A2 n2 ns) :
    Calls Try.prog 9 #[pzv W H A n c a b A2 n2 c2] w fun e w' => e = .returned (.bool true) ∧ Below w.heap.size w w' := by
  have hn9 := ha.2.1; have hn92 := hp.2.1
  have RA0 := Lib.hid ha; have RN0 := Lib.hid hp
  clear ha hp
  obtain ⟨W2, hW2⟩ : ∃ W2, W2 = w.alloc (.cells #[.int .i64 W, .int .i64 H, .slice A n c, .int .i64 a, .int .i64 b, .slice A2 n2 c2] 28) := ⟨_, rfl⟩
  have BA := Lib.hid (show Bx W2 (w.heap.size) #[.int .i64 W, .int .i64 H, .slice A n c, .int .i64 a, .int .i64 b, .slice A2 n2 c2] 28 by rw [hW2]; exact Bx.new (w) #[.int .i64 W, .int .i64 H, .slice A n c, .int .i64 a, .int .i64 b, .slice A2 n2 c2] 28)
  have B := Lib.hid (show Below w.heap.size w W2 by rw [hW2]; repeat (first | exact Below.refl _ _ | refine below_new ?_ _))
  have HSZ := Lib.hid (show w.heap.size + 1 ≤ W2.heap.size by rw [hW2]; simp)
  have hs0 := HSZ
  have hz := Lib.hid (show w.heap.size < W2.heap.size by have := HSZ.out; omega)
  clear HSZ
  have p0 : W2.cell? ⟨w.heap.size, 0, none⟩ = some (.int .i64 W) := BA.out.cell rfl
  have p1 : W2.cell? ⟨w.heap.size, 1, none⟩ = some (.int .i64 H) := BA.out.cell rfl
  have p2 : W2.cell? ⟨w.heap.size, 2, none⟩ = some (.slice A n c) := BA.out.cell rfl
  have p3 : W2.cell? ⟨w.heap.size, 3, none⟩ = some (.int .i64 a) := BA.out.cell rfl
  have p4 : W2.cell? ⟨w.heap.size, 4, none⟩ = some (.int .i64 b) := BA.out.cell rfl
  have p5 : W2.cell? ⟨w.heap.size, 5, none⟩ = some (.slice A2 n2 c2) := BA.out.cell rfl
  have pl : w.heap.size < W2.heap.size := BA.out.lt
  by_cases hsz : (n : Int) ≤ 1048576 ∧ (n2 : Int) ≤ 1048576 - n
  rotate_left
  · go_enter Try.func9, Try.ntmps9
    go_wp2_with fail
    rw [← hW2]
    clear hW2
    clear p0 p1 p2 p3 p4 p5
    refine (szPuzzle_any W H A n c a b A2 n2 c2 1048576 _ hn9 hn92 (by omega) (by omega)).mono ?_
    rw [if_neg hsz]
    rintro e wv ⟨rfl, hb⟩
    replace B := Lib.hid (below_next B.out hb)
    clear hb
    go_wp2
    go_ret
    exact ⟨rfl, B.out⟩
  · have HZ := Lib.hid hsz
    go_enter Try.func9, Try.ntmps9
    go_wp2_with fail
    rw [← hW2]
    clear hW2
    clear p0 p1 p2 p3 p4 p5
    refine (szPuzzle_any W H A n c a b A2 n2 c2 1048576 _ hn9 hn92 (by omega) (by omega)).mono ?_
    rw [if_pos hsz]
    rintro e wv ⟨rfl, hb⟩
    replace BA := Lib.hid (BA.out.keep hb)
    have hs1 := Lib.hid hb.size
    replace B := Lib.hid (below_next B.out hb)
    clear hb
    have hge : (0 : Int) ≤ 1048576 - n - n2 := by omega
    clear hsz
    have p0 : wv.cell? ⟨w.heap.size, 0, none⟩ = some (.int .i64 W) := BA.out.cell rfl
    have p1 : wv.cell? ⟨w.heap.size, 1, none⟩ = some (.int .i64 H) := BA.out.cell rfl
    have p2 : wv.cell? ⟨w.heap.size, 2, none⟩ = some (.slice A n c) := BA.out.cell rfl
    have p3 : wv.cell? ⟨w.heap.size, 3, none⟩ = some (.int .i64 a) := BA.out.cell rfl
    have p4 : wv.cell? ⟨w.heap.size, 4, none⟩ = some (.int .i64 b) := BA.out.cell rfl
    have p5 : wv.cell? ⟨w.heap.size, 5, none⟩ = some (.slice A2 n2 c2) := BA.out.cell rfl
    have pl : w.heap.size < wv.heap.size := BA.out.lt
    go_wp2_with fail
    refine (toPuzzle_any W H A n c a b A2 n2 c2 xs ns _ (RA0.out.keep B.out) (RN0.out.keep B.out) (by have := HZ.out; omega) (by have := HZ.out; omega)).mono ?_
    rintro e wv ⟨gs1, gs2, rfl, hlts, o1, o2, hb⟩
    replace BA := Lib.hid (BA.out.keep hb)
    have hs2 := Lib.hid hb.size
    replace B := Lib.hid (below_next B.out hb)
    have Os1 := Lib.hid o1; have Ss1 := Lib.hid o1.span; have Os2 := Lib.hid o2; have Ss2 := Lib.hid o2.span; have HLTs := Lib.hid hlts
    clear hb o1 o2 hlts
    go_wp2_with fail
    refine (spec_MirrorPuzzle W H _ _ _ a b _ _ _ xs ns  _ Os1.out.rd Os2.out.rd (Nat.le_refl _)).mono ?_
    rintro e wv ⟨AW, nW, cW, AW2, nW2, cW2, rfl, o1, o2, hap, hb⟩
    replace BA := Lib.hid (BA.out.keep hb)
    have hs3 := Lib.hid hb.size
    replace B := Lib.hid (below_next B.out hb)
    have OW1 := Lib.hid o1; have SW1 := Lib.hid o1.span; have OW2 := Lib.hid o2; have SW2 := Lib.hid o2.span; have HAW := Lib.hid hap
    clear o1 o2 hap
    clear hb
    clear Os1 Os2 Ss1 Ss2 HLTs
    clear p0 p1 p2 p3 p4 p5
    have p0 : wv.cell? ⟨w.heap.size, 0, none⟩ = some (.int .i64 W) := BA.out.cell rfl
    have p1 : wv.cell? ⟨w.heap.size, 1, none⟩ = some (.int .i64 H) := BA.out.cell rfl
    have p2 : wv.cell? ⟨w.heap.size, 2, none⟩ = some (.slice A n c) := BA.out.cell rfl
    have p3 : wv.cell? ⟨w.heap.size, 3, none⟩ = some (.int .i64 a) := BA.out.cell rfl
    have p4 : wv.cell? ⟨w.heap.size, 4, none⟩ = some (.int .i64 b) := BA.out.cell rfl
    have p5 : wv.cell? ⟨w.heap.size, 5, none⟩ = some (.slice A2 n2 c2) := BA.out.cell rfl
    have pl : w.heap.size < wv.heap.size := BA.out.lt
    go_wp2_with fail
    clear p0 p1 p2 p3 p4 p5
    obtain ⟨wv2, hWn⟩ : ∃ W5, W5 = wv.alloc (.cells #[.int .i64 (zi (MirrorPuzzle_ok W H xs a b ns) W), .int .i64 (zi (MirrorPuzzle_ok W H xs a b ns) H), .slice AW nW cW, .int .i64 (zi (MirrorPuzzle_ok W H xs a b ns) a), .int .i64 (zi (MirrorPuzzle_ok W H xs a b ns) b), .slice AW2 nW2 cW2] 34) := ⟨_, rfl⟩
    obtain ⟨kw, hkn⟩ : ∃ k5, k5 = wv.heap.size := ⟨_, rfl⟩
    have hb : Below wv.heap.size wv wv2 := by rw [hWn]; exact below_new (Below.refl _ _) _
    have BXw := Lib.hid (show Bx wv2 kw #[.int .i64 (zi (MirrorPuzzle_ok W H xs a b ns) W), .int .i64 (zi (MirrorPuzzle_ok W H xs a b ns) H), .slice AW nW cW, .int .i64 (zi (MirrorPuzzle_ok W H xs a b ns) a), .int .i64 (zi (MirrorPuzzle_ok W H xs a b ns) b), .slice AW2 nW2 cW2] 34 by rw [hWn, hkn]; exact Bx.new _ _ _)
    have hkw := Lib.hid hkn; have hlw := Lib.hid BXw.out.lt
    rw [← hWn, ← hkn]
    clear hWn hkn
    replace BA := Lib.hid (BA.out.keep hb)
    replace OW1 := Lib.hid (OW1.out.keep hb)
    replace OW2 := Lib.hid (OW2.out.keep hb)
    have hs4 := Lib.hid hb.size
    replace B := Lib.hid (below_next B.out hb)
    clear hb
    refine (toPuzzle_any W H A n c a b A2 n2 c2 xs ns _ (RA0.out.keep B.out) (RN0.out.keep B.out) (by have := HZ.out; omega) (by have := HZ.out; omega)).mono ?_
    rintro e wv ⟨gx1, gx2, rfl, hltx, o1, o2, hb⟩
    replace BA := Lib.hid (BA.out.keep hb)
    replace BXw := Lib.hid (BXw.out.keep hb)
    replace OW1 := Lib.hid (OW1.out.keep hb)
    replace OW2 := Lib.hid (OW2.out.keep hb)
    have hs5 := Lib.hid hb.size
    replace B := Lib.hid (below_next B.out hb)
    have Ox1 := Lib.hid o1; have Sx1 := Lib.hid o1.span; have Ox2 := Lib.hid o2; have Sx2 := Lib.hid o2.span; have HLTx := Lib.hid hltx
    clear hb o1 o2 hltx
    go_wp2_with fail
    obtain ⟨wv3, hWn⟩ : ∃ W5, W5 = wv.alloc (.cells #[.int .i64 W, .int .i64 H, .slice (some ⟨gx1, 0, none⟩) n n, .int .i64 a, .int .i64 b, .slice (some ⟨gx2, 0, none⟩) n2 n2] 34) := ⟨_, rfl⟩
    obtain ⟨kx, hkn⟩ : ∃ k5, k5 = wv.heap.size := ⟨_, rfl⟩
    have hb : Below wv.heap.size wv wv3 := by rw [hWn]; exact below_new (Below.refl _ _) _
    have BXx := Lib.hid (show Bx wv3 kx #[.int .i64 W, .int .i64 H, .slice (some ⟨gx1, 0, none⟩) n n, .int .i64 a, .int .i64 b, .slice (some ⟨gx2, 0, none⟩) n2 n2] 34 by rw [hWn, hkn]; exact Bx.new _ _ _)
    have hkx := Lib.hid hkn; have hlx := Lib.hid BXx.out.lt
    rw [← hWn, ← hkn]
    clear hWn hkn
    replace BA := Lib.hid (BA.out.keep hb)
    replace BXw := Lib.hid (BXw.out.keep hb)
    replace OW1 := Lib.hid (OW1.out.keep hb)
    replace OW2 := Lib.hid (OW2.out.keep hb)
    replace Ox1 := Lib.hid (Ox1.out.keep hb)
    replace Ox2 := Lib.hid (Ox2.out.keep hb)
    have hs6 := Lib.hid hb.size
    replace B := Lib.hid (below_next B.out hb)
    clear hb
    refine (impl_MirrorPuzzle W H _ _ _ a b _ _ _ xs ns  _ Ox1.out.rd Ox2.out.rd).mono ?_
    rintro e wv ⟨AG, nG, cG, AG2, nG2, cG2, rfl, o1, o2, hap, hb⟩
    replace BA := Lib.hid (BA.out.keep hb)
    replace BXw := Lib.hid (BXw.out.keep hb)
    replace BXx := Lib.hid (BXx.out.keep hb)
    replace OW1 := Lib.hid (OW1.out.keep hb)
    replace OW2 := Lib.hid (OW2.out.keep hb)
    replace Ox1 := Lib.hid (Ox1.out.keep hb)
    replace Ox2 := Lib.hid (Ox2.out.keep hb)
    have hs7 := Lib.hid hb.size
    replace B := Lib.hid (below_next B.out hb)
    have OG1 := Lib.hid o1; have SG1 := Lib.hid o1.span; have OG2 := Lib.hid o2; have SG2 := Lib.hid o2.span; have HAG := Lib.hid hap
    clear o1 o2 hap
    clear hb
    have LB := Lib.hid (len_MirrorPuzzle W H xs a b ns)
    have SG : nG ≤ 1000000 := by rw [← OG1.out.len]; exact LB.out.1
    have SG2 : nG2 ≤ 1000000 := by rw [← OG2.out.len]; exact LB.out.2
    have HSG := Lib.hid SG; have HSG2 := Lib.hid SG2
    clear SG SG2
    have u0 : wv.cell? ⟨kw, 0, none⟩ = some (.int .i64 (zi (MirrorPuzzle_ok W H xs a b ns) W)) := BXw.out.cell rfl
    have u1 : wv.cell? ⟨kw, 1, none⟩ = some (.int .i64 (zi (MirrorPuzzle_ok W H xs a b ns) H)) := BXw.out.cell rfl
    have u2 : wv.cell? ⟨kw, 2, none⟩ = some (.slice AW nW cW) := BXw.out.cell rfl
    have u3 : wv.cell? ⟨kw, 3, none⟩ = some (.int .i64 (zi (MirrorPuzzle_ok W H xs a b ns) a)) := BXw.out.cell rfl
    have u4 : wv.cell? ⟨kw, 4, none⟩ = some (.int .i64 (zi (MirrorPuzzle_ok W H xs a b ns) b)) := BXw.out.cell rfl
    have u5 : wv.cell? ⟨kw, 5, none⟩ = some (.slice AW2 nW2 cW2) := BXw.out.cell rfl
    have ul : kw < wv.heap.size := BXw.out.lt
    go_wp2_with fail
    clear u0 u1 u2 u3 u4 u5
    obtain ⟨wg, hWn⟩ : ∃ W5, W5 = wv.alloc (.cells #[.int .i64 (zi (MirrorPuzzle_ok W H xs a b ns) W), .int .i64 (zi (MirrorPuzzle_ok W H xs a b ns) H), .slice AG nG cG, .int .i64 (zi (MirrorPuzzle_ok W H xs a b ns) a), .int .i64 (zi (MirrorPuzzle_ok W H xs a b ns) b), .slice AG2 nG2 cG2] 34) := ⟨_, rfl⟩
    obtain ⟨kv, hkn⟩ : ∃ k5, k5 = wv.heap.size := ⟨_, rfl⟩
    have hb : Below wv.heap.size wv wg := by rw [hWn]; exact below_new (Below.refl _ _) _
    have BXv := Lib.hid (show Bx wg kv #[.int .i64 (zi (MirrorPuzzle_ok W H xs a b ns) W), .int .i64 (zi (MirrorPuzzle_ok W H xs a b ns) H), .slice AG nG cG, .int .i64 (zi (MirrorPuzzle_ok W H xs a b ns) a), .int .i64 (zi (MirrorPuzzle_ok W H xs a b ns) b), .slice AG2 nG2 cG2] 34 by rw [hWn, hkn]; exact Bx.new _ _ _)
    have hkv := Lib.hid hkn; have hlv := Lib.hid BXv.out.lt
    rw [← hWn, ← hkn]
    clear hWn hkn
    replace BA := Lib.hid (BA.out.keep hb)
    replace BXw := Lib.hid (BXw.out.keep hb)
    replace BXx := Lib.hid (BXx.out.keep hb)
    replace OW1 := Lib.hid (OW1.out.keep hb)
    replace OW2 := Lib.hid (OW2.out.keep hb)
    replace Ox1 := Lib.hid (Ox1.out.keep hb)
    replace Ox2 := Lib.hid (Ox2.out.keep hb)
    replace OG1 := Lib.hid (OG1.out.keep hb)
    replace OG2 := Lib.hid (OG2.out.keep hb)
    have hs8 := Lib.hid hb.size
    replace B := Lib.hid (below_next B.out hb)
    clear hb
    refine (eqPuzzle_any (zi (MirrorPuzzle_ok W H xs a b ns) W) (zi (MirrorPuzzle_ok W H xs a b ns) H) _ _ _ (zi (MirrorPuzzle_ok W H xs a b ns) a) (zi (MirrorPuzzle_ok W H xs a b ns) b) _ _ _ _ _ _ _ _ _ (zl (MirrorPuzzle_ok W H xs a b ns) (MirrorPuzzle_xs W H xs a b ns)) (zl (MirrorPuzzle_ok W H xs a b ns) (MirrorPuzzle_ns W H xs a b ns)) (zl (MirrorPuzzle_ok W H xs a b ns) (MirrorPuzzle_xs W H xs a b ns)) (zl (MirrorPuzzle_ok W H xs a b ns) (MirrorPuzzle_ns W H xs a b ns)) _ OG1.out.rd OG2.out.rd OW1.out.rd OW2.out.rd).mono ?_
    simp only [decide_true, Bool.and_self]
    rintro e wv ⟨rfl, hb⟩
    replace BA := Lib.hid (BA.out.keep hb)
    replace BXw := Lib.hid (BXw.out.keep hb)
    replace BXx := Lib.hid (BXx.out.keep hb)
    replace BXv := Lib.hid (BXv.out.keep hb)
    replace OW1 := Lib.hid (OW1.out.keep hb)
    replace OW2 := Lib.hid (OW2.out.keep hb)
    replace Ox1 := Lib.hid (Ox1.out.keep hb)
    replace Ox2 := Lib.hid (Ox2.out.keep hb)
    replace OG1 := Lib.hid (OG1.out.keep hb)
    replace OG2 := Lib.hid (OG2.out.keep hb)
    have hs9 := Lib.hid hb.size
    replace B := Lib.hid (below_next B.out hb)
    clear hb
    go_wp2_with fail
    refine wp_region_held_drew (S := fun w' => w'.cell? ⟨w.heap.size, 0, none⟩ = some (.int .i64 W) ∧ w'.cell? ⟨w.heap.size, 1, none⟩ = some (.int .i64 H) ∧ w'.cell? ⟨w.heap.size, 2, none⟩ = some (.slice A n c) ∧ w'.cell? ⟨w.heap.size, 3, none⟩ = some (.int .i64 a) ∧ w'.cell? ⟨w.heap.size, 4, none⟩ = some (.int .i64 b) ∧ w'.cell? ⟨w.heap.size, 5, none⟩ = some (.slice A2 n2 c2) ∧ w'.cell? ⟨kx, 0, none⟩ = some (.int .i64 W) ∧ w'.cell? ⟨kx, 1, none⟩ = some (.int .i64 H) ∧ w'.cell? ⟨kx, 2, none⟩ = some (.slice (some ⟨gx1, 0, none⟩) n n) ∧ w'.cell? ⟨kx, 3, none⟩ = some (.int .i64 a) ∧ w'.cell? ⟨kx, 4, none⟩ = some (.int .i64 b) ∧ w'.cell? ⟨kx, 5, none⟩ = some (.slice (some ⟨gx2, 0, none⟩) n2 n2)) (by kernel_rfl) ?_ (fun hHeld => ?_)
    · (try dsimp only)
      exact ⟨BA.out.cell rfl, BA.out.cell rfl, BA.out.cell rfl, BA.out.cell rfl, BA.out.cell rfl, BA.out.cell rfl, BXx.out.cell rfl, BXx.out.cell rfl, BXx.out.cell rfl, BXx.out.cell rfl, BXx.out.cell rfl, BXx.out.cell rfl⟩
    refine wpAnyH_take (i := 0) (oi := ⟨_, _, _, _, _, _⟩) (v := ?_) rfl (by kernel_rfl) (by kernel_rfl) (by kernel_rfl) (fun _ _ _ h => h) (Or.inl ⟨by rfl, ?_⟩) (by assumption) ?_
    rotate_left
    · intro w hSw
      (try dsimp only at hSw)
      go_simp
      (try with_reducible rfl)
    (try simp only [Act.put, List.setIfInBounds_toArray, List.set_cons_zero, List.set_cons_succ])
    refine wpAnyH_take (i := 1) (oi := ⟨_, _, _, _, _, _⟩) (v := ?_) rfl (by kernel_rfl) (by kernel_rfl) (by kernel_rfl) (fun _ _ _ h => h) (Or.inl ⟨by rfl, ?_⟩) (by assumption) ?_
    rotate_left
    · intro w hSw
      (try dsimp only at hSw)
      go_simp
      (try with_reducible rfl)
    (try simp only [Act.put, List.setIfInBounds_toArray, List.set_cons_zero, List.set_cons_succ])
    refine wpAnyH_ready (rs := [2]) (by kernel_rfl) (by simp) ?_
    refine AllReadyH.cons (o := ⟨_, _, _, _, _, _⟩) rfl (fun K hK => ?_) AllReadyH.nil
    go_simp
    (go_at_call 13; refine (toPuzzle_any W H A n c a b A2 n2 c2 xs ns _ (by exact ((RA0.out.keep B.out)).drew1) (by exact ((RN0.out.keep B.out)).drew1) (by have := HZ.out; omega) (by have := HZ.out; omega)).mono ?_; rintro e wv ⟨gy1, gy2, rfl, hlty, o1, o2, hb⟩; (repeat (first | replace hb := below_undrew hb | replace hb := below_undrewN hb)); replace BA := Lib.hid (BA.out.keep hb); replace BXw := Lib.hid (BXw.out.keep hb); replace BXx := Lib.hid (BXx.out.keep hb); replace BXv := Lib.hid (BXv.out.keep hb); replace OW1 := Lib.hid (OW1.out.keep hb); replace OW2 := Lib.hid (OW2.out.keep hb); replace Ox1 := Lib.hid (Ox1.out.keep hb); replace Ox2 := Lib.hid (Ox2.out.keep hb); replace OG1 := Lib.hid (OG1.out.keep hb); replace OG2 := Lib.hid (OG2.out.keep hb); have hs10 := Lib.hid hb.size; replace B := Lib.hid (below_next B.out hb); have Oy1 := Lib.hid o1; have Sy1 := Lib.hid o1.span; have Oy2 := Lib.hid o2; have Sy2 := Lib.hid o2.span; have HLTy := Lib.hid hlty; clear hb o1 o2 hlty)
    (try go_wp2_with fail)
    refine hK.out _ _ ?_ (fun hHeld => ?_)
    · (try dsimp only)
      exact ⟨BA.out.cell rfl, BA.out.cell rfl, BA.out.cell rfl, BA.out.cell rfl, BA.out.cell rfl, BA.out.cell rfl, BXx.out.cell rfl, BXx.out.cell rfl, BXx.out.cell rfl, BXx.out.cell rfl, BXx.out.cell rfl, BXx.out.cell rfl⟩
    clear hK K
    (try simp only [Act.put, List.setIfInBounds_toArray, List.set_cons_zero, List.set_cons_succ])
    refine wpAnyH_ready (rs := [3]) (by kernel_rfl) (by simp) ?_
    refine AllReadyH.cons (o := ⟨_, _, _, _, _, _⟩) rfl (fun K hK => ?_) AllReadyH.nil
    go_simp
    (go_at_call 15; refine (eqPuzzle_any W H _ _ _ a b _ _ _ _ _ _ _ _ _ xs ns xs ns _ Ox1.out.rd Ox2.out.rd Oy1.out.rd Oy2.out.rd).mono ?_; simp only [decide_true, Bool.and_self]; rintro e wv ⟨rfl, hb⟩; (repeat (first | replace hb := below_undrew hb | replace hb := below_undrewN hb)); replace BA := Lib.hid (BA.out.keep hb); replace BXw := Lib.hid (BXw.out.keep hb); replace BXx := Lib.hid (BXx.out.keep hb); replace BXv := Lib.hid (BXv.out.keep hb); replace OW1 := Lib.hid (OW1.out.keep hb); replace OW2 := Lib.hid (OW2.out.keep hb); replace Ox1 := Lib.hid (Ox1.out.keep hb); replace Ox2 := Lib.hid (Ox2.out.keep hb); replace OG1 := Lib.hid (OG1.out.keep hb); replace OG2 := Lib.hid (OG2.out.keep hb); have hs11 := Lib.hid hb.size; replace B := Lib.hid (below_next B.out hb); clear hb; clear Oy1 Oy2 Sy1 Sy2 HLTy)
    (try go_wp2_with fail)
    refine hK.out _ _ ?_ (fun hHeld => ?_)
    · (try dsimp only)
      exact ⟨BA.out.cell rfl, BA.out.cell rfl, BA.out.cell rfl, BA.out.cell rfl, BA.out.cell rfl, BA.out.cell rfl, BXx.out.cell rfl, BXx.out.cell rfl, BXx.out.cell rfl, BXx.out.cell rfl, BXx.out.cell rfl, BXx.out.cell rfl⟩
    clear hK K
    (try simp only [Act.put, List.setIfInBounds_toArray, List.set_cons_zero, List.set_cons_succ])
    refine wpAnyH_take (i := 4) (oi := ⟨_, _, _, _, _, _⟩) (v := ?_) rfl (by kernel_rfl) (by kernel_rfl) (by kernel_rfl) (fun _ _ _ h => h) (Or.inl ⟨by rfl, ?_⟩) (by assumption) ?_
    rotate_left
    · intro w hSw
      (try dsimp only at hSw)
      go_simp
      (try with_reducible rfl)
    (try simp only [Act.put, List.setIfInBounds_toArray, List.set_cons_zero, List.set_cons_succ])
    refine wpAnyH_done (by kernel_rfl) ?_ _
    clear hHeld
    have x0 : wv.cell? ⟨kx, 0, none⟩ = some (.int .i64 W) := BXx.out.cell rfl
    have x1 : wv.cell? ⟨kx, 1, none⟩ = some (.int .i64 H) := BXx.out.cell rfl
    have x2 : wv.cell? ⟨kx, 2, none⟩ = some (.slice (some ⟨gx1, 0, none⟩) n n) := BXx.out.cell rfl
    have x3 : wv.cell? ⟨kx, 3, none⟩ = some (.int .i64 a) := BXx.out.cell rfl
    have x4 : wv.cell? ⟨kx, 4, none⟩ = some (.int .i64 b) := BXx.out.cell rfl
    have x5 : wv.cell? ⟨kx, 5, none⟩ = some (.slice (some ⟨gx2, 0, none⟩) n2 n2) := BXx.out.cell rfl
    have xl : kx < wv.heap.size := BXx.out.lt
    go_wp2_with fail
    clear x0 x1 x2 x3 x4 x5
    refine (markPuzzle_any _ _ _ _ _ _ _ _ _ _ _ 1 _ _ _ Ox1.out Ox2.out (apart_of_lt HLTx.out).ne (apart_of_lt HLTx.out).ne2 (by omega) (by have := HZ.out; omega)).mono ?_
    rintro e wv' ⟨rfl, o1, o2, w9, hg1, hg2⟩
    replace BA := Lib.hid ((BA.out.grown hg1 (row_ne fun b hb => by have := Sx1.out b hb; have := hkw.out; have := hlw.out; have := hkx.out; have := hlx.out; have := hz.out; have := hkv.out; have := hlv.out; have := hs1.out; have := hs2.out; have := hs3.out; have := hs4.out; have := hs5.out; have := hs6.out; have := hs7.out; have := hs8.out; have := hs9.out; have := hs10.out; have := hs11.out; omega)).grown hg2 (row_ne fun b hb => by have := Sx2.out b hb; have := hkw.out; have := hlw.out; have := hkx.out; have := hlx.out; have := hz.out; have := hkv.out; have := hlv.out; have := hs1.out; have := hs2.out; have := hs3.out; have := hs4.out; have := hs5.out; have := hs6.out; have := hs7.out; have := hs8.out; have := hs9.out; have := hs10.out; have := hs11.out; omega))
    replace BXw := Lib.hid ((BXw.out.grown hg1 (row_ne fun b hb => by have := Sx1.out b hb; have := hkw.out; have := hlw.out; have := hkx.out; have := hlx.out; have := hz.out; have := hkv.out; have := hlv.out; have := hs1.out; have := hs2.out; have := hs3.out; have := hs4.out; have := hs5.out; have := hs6.out; have := hs7.out; have := hs8.out; have := hs9.out; have := hs10.out; have := hs11.out; omega)).grown hg2 (row_ne fun b hb => by have := Sx2.out b hb; have := hkw.out; have := hlw.out; have := hkx.out; have := hlx.out; have := hz.out; have := hkv.out; have := hlv.out; have := hs1.out; have := hs2.out; have := hs3.out; have := hs4.out; have := hs5.out; have := hs6.out; have := hs7.out; have := hs8.out; have := hs9.out; have := hs10.out; have := hs11.out; omega))
    replace BXx := Lib.hid ((BXx.out.grown hg1 (row_ne fun b hb => by have := Sx1.out b hb; have := hkw.out; have := hlw.out; have := hkx.out; have := hlx.out; have := hz.out; have := hkv.out; have := hlv.out; have := hs1.out; have := hs2.out; have := hs3.out; have := hs4.out; have := hs5.out; have := hs6.out; have := hs7.out; have := hs8.out; have := hs9.out; have := hs10.out; have := hs11.out; omega)).grown hg2 (row_ne fun b hb => by have := Sx2.out b hb; have := hkw.out; have := hlw.out; have := hkx.out; have := hlx.out; have := hz.out; have := hkv.out; have := hlv.out; have := hs1.out; have := hs2.out; have := hs3.out; have := hs4.out; have := hs5.out; have := hs6.out; have := hs7.out; have := hs8.out; have := hs9.out; have := hs10.out; have := hs11.out; omega))
    replace BXv := Lib.hid ((BXv.out.grown hg1 (row_ne fun b hb => by have := Sx1.out b hb; have := hkw.out; have := hlw.out; have := hkx.out; have := hlx.out; have := hz.out; have := hkv.out; have := hlv.out; have := hs1.out; have := hs2.out; have := hs3.out; have := hs4.out; have := hs5.out; have := hs6.out; have := hs7.out; have := hs8.out; have := hs9.out; have := hs10.out; have := hs11.out; omega)).grown hg2 (row_ne fun b hb => by have := Sx2.out b hb; have := hkw.out; have := hlw.out; have := hkx.out; have := hlx.out; have := hz.out; have := hkv.out; have := hlv.out; have := hs1.out; have := hs2.out; have := hs3.out; have := hs4.out; have := hs5.out; have := hs6.out; have := hs7.out; have := hs8.out; have := hs9.out; have := hs10.out; have := hs11.out; omega))
    replace OW1 := Lib.hid ((OW1.out.other hg1 (fun a ha => row_ne fun b hb => by have := SW1.out a ha; have := Sx1.out b hb; have := hkw.out; have := hlw.out; have := hkx.out; have := hlx.out; have := hz.out; have := hkv.out; have := hlv.out; have := hs1.out; have := hs2.out; have := hs3.out; have := hs4.out; have := hs5.out; have := hs6.out; have := hs7.out; have := hs8.out; have := hs9.out; have := hs10.out; have := hs11.out; omega)).other hg2 (fun a ha => row_ne fun b hb => by have := SW1.out a ha; have := Sx2.out b hb; have := hkw.out; have := hlw.out; have := hkx.out; have := hlx.out; have := hz.out; have := hkv.out; have := hlv.out; have := hs1.out; have := hs2.out; have := hs3.out; have := hs4.out; have := hs5.out; have := hs6.out; have := hs7.out; have := hs8.out; have := hs9.out; have := hs10.out; have := hs11.out; omega))
    replace OW2 := Lib.hid ((OW2.out.other hg1 (fun a ha => row_ne fun b hb => by have := SW2.out a ha; have := Sx1.out b hb; have := hkw.out; have := hlw.out; have := hkx.out; have := hlx.out; have := hz.out; have := hkv.out; have := hlv.out; have := hs1.out; have := hs2.out; have := hs3.out; have := hs4.out; have := hs5.out; have := hs6.out; have := hs7.out; have := hs8.out; have := hs9.out; have := hs10.out; have := hs11.out; omega)).other hg2 (fun a ha => row_ne fun b hb => by have := SW2.out a ha; have := Sx2.out b hb; have := hkw.out; have := hlw.out; have := hkx.out; have := hlx.out; have := hz.out; have := hkv.out; have := hlv.out; have := hs1.out; have := hs2.out; have := hs3.out; have := hs4.out; have := hs5.out; have := hs6.out; have := hs7.out; have := hs8.out; have := hs9.out; have := hs10.out; have := hs11.out; omega))
    replace OG1 := Lib.hid ((OG1.out.other hg1 (fun a ha => row_ne fun b hb => by have := SG1.out a ha; have := Sx1.out b hb; have := hkw.out; have := hlw.out; have := hkx.out; have := hlx.out; have := hz.out; have := hkv.out; have := hlv.out; have := hs1.out; have := hs2.out; have := hs3.out; have := hs4.out; have := hs5.out; have := hs6.out; have := hs7.out; have := hs8.out; have := hs9.out; have := hs10.out; have := hs11.out; omega)).other hg2 (fun a ha => row_ne fun b hb => by have := SG1.out a ha; have := Sx2.out b hb; have := hkw.out; have := hlw.out; have := hkx.out; have := hlx.out; have := hz.out; have := hkv.out; have := hlv.out; have := hs1.out; have := hs2.out; have := hs3.out; have := hs4.out; have := hs5.out; have := hs6.out; have := hs7.out; have := hs8.out; have := hs9.out; have := hs10.out; have := hs11.out; omega))
    replace OG2 := Lib.hid ((OG2.out.other hg1 (fun a ha => row_ne fun b hb => by have := SG2.out a ha; have := Sx1.out b hb; have := hkw.out; have := hlw.out; have := hkx.out; have := hlx.out; have := hz.out; have := hkv.out; have := hlv.out; have := hs1.out; have := hs2.out; have := hs3.out; have := hs4.out; have := hs5.out; have := hs6.out; have := hs7.out; have := hs8.out; have := hs9.out; have := hs10.out; have := hs11.out; omega)).other hg2 (fun a ha => row_ne fun b hb => by have := SG2.out a ha; have := Sx2.out b hb; have := hkw.out; have := hlw.out; have := hkx.out; have := hlx.out; have := hz.out; have := hkv.out; have := hlv.out; have := hs1.out; have := hs2.out; have := hs3.out; have := hs4.out; have := hs5.out; have := hs6.out; have := hs7.out; have := hs8.out; have := hs9.out; have := hs10.out; have := hs11.out; omega))
    replace B := Lib.hid ((B.out.grown hg1 B.out.size (row_ge fun b hb => by have := Sx1.out b hb; have := hkw.out; have := hlw.out; have := hkx.out; have := hlx.out; have := hz.out; have := hkv.out; have := hlv.out; have := hs1.out; have := hs2.out; have := hs3.out; have := hs4.out; have := hs5.out; have := hs6.out; have := hs7.out; have := hs8.out; have := hs9.out; have := hs10.out; have := hs11.out; omega)).grown hg2 (Nat.le_trans B.out.size hg1.size) (row_ge fun b hb => by have := Sx2.out b hb; have := hkw.out; have := hlw.out; have := hkx.out; have := hlx.out; have := hz.out; have := hkv.out; have := hlv.out; have := hs1.out; have := hs2.out; have := hs3.out; have := hs4.out; have := hs5.out; have := hs6.out; have := hs7.out; have := hs8.out; have := hs9.out; have := hs10.out; have := hs11.out; omega))
    have hs12 := Lib.hid (Nat.le_trans hg1.size hg2.size)
    replace Ox1 := Lib.hid o1; replace Ox2 := Lib.hid o2
    clear o1 o2 hg1 hg2
    clear Ox1 Ox2 BXx
    obtain ⟨wv, hwq⟩ : ∃ w5, w5 = wv' := ⟨_, rfl⟩
    subst hwq
    have hnz : ¬ ((1 : Int) + n + n2 < 0) := by omega
    have v0 : wv.cell? ⟨kv, 0, none⟩ = some (.int .i64 (zi (MirrorPuzzle_ok W H xs a b ns) W)) := BXv.out.cell rfl
    have v1 : wv.cell? ⟨kv, 1, none⟩ = some (.int .i64 (zi (MirrorPuzzle_ok W H xs a b ns) H)) := BXv.out.cell rfl
    have v2 : wv.cell? ⟨kv, 2, none⟩ = some (.slice AG nG cG) := BXv.out.cell rfl
    have v3 : wv.cell? ⟨kv, 3, none⟩ = some (.int .i64 (zi (MirrorPuzzle_ok W H xs a b ns) a)) := BXv.out.cell rfl
    have v4 : wv.cell? ⟨kv, 4, none⟩ = some (.int .i64 (zi (MirrorPuzzle_ok W H xs a b ns) b)) := BXv.out.cell rfl
    have v5 : wv.cell? ⟨kv, 5, none⟩ = some (.slice AG2 nG2 cG2) := BXv.out.cell rfl
    have vl : kv < wv.heap.size := BXv.out.lt
    have u0 : wv.cell? ⟨kw, 0, none⟩ = some (.int .i64 (zi (MirrorPuzzle_ok W H xs a b ns) W)) := BXw.out.cell rfl
    have u1 : wv.cell? ⟨kw, 1, none⟩ = some (.int .i64 (zi (MirrorPuzzle_ok W H xs a b ns) H)) := BXw.out.cell rfl
    have u2 : wv.cell? ⟨kw, 2, none⟩ = some (.slice AW nW cW) := BXw.out.cell rfl
    have u3 : wv.cell? ⟨kw, 3, none⟩ = some (.int .i64 (zi (MirrorPuzzle_ok W H xs a b ns) a)) := BXw.out.cell rfl
    have u4 : wv.cell? ⟨kw, 4, none⟩ = some (.int .i64 (zi (MirrorPuzzle_ok W H xs a b ns) b)) := BXw.out.cell rfl
    have u5 : wv.cell? ⟨kw, 5, none⟩ = some (.slice AW2 nW2 cW2) := BXw.out.cell rfl
    have ul : kw < wv.heap.size := BXw.out.lt
    go_wp2_with fail
    refine (eqPuzzle_any (zi (MirrorPuzzle_ok W H xs a b ns) W) (zi (MirrorPuzzle_ok W H xs a b ns) H) _ _ _ (zi (MirrorPuzzle_ok W H xs a b ns) a) (zi (MirrorPuzzle_ok W H xs a b ns) b) _ _ _ _ _ _ _ _ _ (zl (MirrorPuzzle_ok W H xs a b ns) (MirrorPuzzle_xs W H xs a b ns)) (zl (MirrorPuzzle_ok W H xs a b ns) (MirrorPuzzle_ns W H xs a b ns)) (zl (MirrorPuzzle_ok W H xs a b ns) (MirrorPuzzle_xs W H xs a b ns)) (zl (MirrorPuzzle_ok W H xs a b ns) (MirrorPuzzle_ns W H xs a b ns)) _ OG1.out.rd OG2.out.rd OW1.out.rd OW2.out.rd).mono ?_
    simp only [decide_true, Bool.and_self]
    rintro e wv ⟨rfl, hb⟩
    replace BA := Lib.hid (BA.out.keep hb)
    replace BXw := Lib.hid (BXw.out.keep hb)
    replace BXv := Lib.hid (BXv.out.keep hb)
    replace OW1 := Lib.hid (OW1.out.keep hb)
    replace OW2 := Lib.hid (OW2.out.keep hb)
    replace OG1 := Lib.hid (OG1.out.keep hb)
    replace OG2 := Lib.hid (OG2.out.keep hb)
    have hs13 := Lib.hid hb.size
    replace B := Lib.hid (below_next B.out hb)
    clear hb
    clear v0 v1 v2 v3 v4 v5
    clear u0 u1 u2 u3 u4 u5
    have v0 : wv.cell? ⟨kv, 0, none⟩ = some (.int .i64 (zi (MirrorPuzzle_ok W H xs a b ns) W)) := BXv.out.cell rfl
    have v1 : wv.cell? ⟨kv, 1, none⟩ = some (.int .i64 (zi (MirrorPuzzle_ok W H xs a b ns) H)) := BXv.out.cell rfl
    have v2 : wv.cell? ⟨kv, 2, none⟩ = some (.slice AG nG cG) := BXv.out.cell rfl
    have v3 : wv.cell? ⟨kv, 3, none⟩ = some (.int .i64 (zi (MirrorPuzzle_ok W H xs a b ns) a)) := BXv.out.cell rfl
    have v4 : wv.cell? ⟨kv, 4, none⟩ = some (.int .i64 (zi (MirrorPuzzle_ok W H xs a b ns) b)) := BXv.out.cell rfl
    have v5 : wv.cell? ⟨kv, 5, none⟩ = some (.slice AG2 nG2 cG2) := BXv.out.cell rfl
    have vl : kv < wv.heap.size := BXv.out.lt
    go_wp2_with fail
    clear v0 v1 v2 v3 v4 v5
    refine (markPuzzle_any _ _ _ _ _ _ _ _ _ _ _ 1 _ _ _ OG1.out OG2.out HAG.out.ne HAG.out.ne2 (by omega) (by have := HSG.out; have := HSG2.out; omega)).mono ?_
    rintro e wv' ⟨rfl, o1, o2, w9, hg1, hg2⟩
    replace BA := Lib.hid ((BA.out.grown hg1 (row_ne fun b hb => by have := SG1.out b hb; have := hkw.out; have := hlw.out; have := hkx.out; have := hlx.out; have := hz.out; have := hkv.out; have := hlv.out; have := hs1.out; have := hs2.out; have := hs3.out; have := hs4.out; have := hs5.out; have := hs6.out; have := hs7.out; have := hs8.out; have := hs9.out; have := hs10.out; have := hs11.out; have := hs12.out; have := hs13.out; omega)).grown hg2 (row_ne fun b hb => by have := SG2.out b hb; have := hkw.out; have := hlw.out; have := hkx.out; have := hlx.out; have := hz.out; have := hkv.out; have := hlv.out; have := hs1.out; have := hs2.out; have := hs3.out; have := hs4.out; have := hs5.out; have := hs6.out; have := hs7.out; have := hs8.out; have := hs9.out; have := hs10.out; have := hs11.out; have := hs12.out; have := hs13.out; omega))
    replace BXw := Lib.hid ((BXw.out.grown hg1 (row_ne fun b hb => by have := SG1.out b hb; have := hkw.out; have := hlw.out; have := hkx.out; have := hlx.out; have := hz.out; have := hkv.out; have := hlv.out; have := hs1.out; have := hs2.out; have := hs3.out; have := hs4.out; have := hs5.out; have := hs6.out; have := hs7.out; have := hs8.out; have := hs9.out; have := hs10.out; have := hs11.out; have := hs12.out; have := hs13.out; omega)).grown hg2 (row_ne fun b hb => by have := SG2.out b hb; have := hkw.out; have := hlw.out; have := hkx.out; have := hlx.out; have := hz.out; have := hkv.out; have := hlv.out; have := hs1.out; have := hs2.out; have := hs3.out; have := hs4.out; have := hs5.out; have := hs6.out; have := hs7.out; have := hs8.out; have := hs9.out; have := hs10.out; have := hs11.out; have := hs12.out; have := hs13.out; omega))
    replace BXv := Lib.hid ((BXv.out.grown hg1 (row_ne fun b hb => by have := SG1.out b hb; have := hkw.out; have := hlw.out; have := hkx.out; have := hlx.out; have := hz.out; have := hkv.out; have := hlv.out; have := hs1.out; have := hs2.out; have := hs3.out; have := hs4.out; have := hs5.out; have := hs6.out; have := hs7.out; have := hs8.out; have := hs9.out; have := hs10.out; have := hs11.out; have := hs12.out; have := hs13.out; omega)).grown hg2 (row_ne fun b hb => by have := SG2.out b hb; have := hkw.out; have := hlw.out; have := hkx.out; have := hlx.out; have := hz.out; have := hkv.out; have := hlv.out; have := hs1.out; have := hs2.out; have := hs3.out; have := hs4.out; have := hs5.out; have := hs6.out; have := hs7.out; have := hs8.out; have := hs9.out; have := hs10.out; have := hs11.out; have := hs12.out; have := hs13.out; omega))
    replace OW1 := Lib.hid ((OW1.out.other hg1 (fun a ha => row_ne fun b hb => by have := SW1.out a ha; have := SG1.out b hb; have := hkw.out; have := hlw.out; have := hkx.out; have := hlx.out; have := hz.out; have := hkv.out; have := hlv.out; have := hs1.out; have := hs2.out; have := hs3.out; have := hs4.out; have := hs5.out; have := hs6.out; have := hs7.out; have := hs8.out; have := hs9.out; have := hs10.out; have := hs11.out; have := hs12.out; have := hs13.out; omega)).other hg2 (fun a ha => row_ne fun b hb => by have := SW1.out a ha; have := SG2.out b hb; have := hkw.out; have := hlw.out; have := hkx.out; have := hlx.out; have := hz.out; have := hkv.out; have := hlv.out; have := hs1.out; have := hs2.out; have := hs3.out; have := hs4.out; have := hs5.out; have := hs6.out; have := hs7.out; have := hs8.out; have := hs9.out; have := hs10.out; have := hs11.out; have := hs12.out; have := hs13.out; omega))
    replace OW2 := Lib.hid ((OW2.out.other hg1 (fun a ha => row_ne fun b hb => by have := SW2.out a ha; have := SG1.out b hb; have := hkw.out; have := hlw.out; have := hkx.out; have := hlx.out; have := hz.out; have := hkv.out; have := hlv.out; have := hs1.out; have := hs2.out; have := hs3.out; have := hs4.out; have := hs5.out; have := hs6.out; have := hs7.out; have := hs8.out; have := hs9.out; have := hs10.out; have := hs11.out; have := hs12.out; have := hs13.out; omega)).other hg2 (fun a ha => row_ne fun b hb => by have := SW2.out a ha; have := SG2.out b hb; have := hkw.out; have := hlw.out; have := hkx.out; have := hlx.out; have := hz.out; have := hkv.out; have := hlv.out; have := hs1.out; have := hs2.out; have := hs3.out; have := hs4.out; have := hs5.out; have := hs6.out; have := hs7.out; have := hs8.out; have := hs9.out; have := hs10.out; have := hs11.out; have := hs12.out; have := hs13.out; omega))
    replace B := Lib.hid ((B.out.grown hg1 B.out.size (row_ge fun b hb => by have := SG1.out b hb; have := hkw.out; have := hlw.out; have := hkx.out; have := hlx.out; have := hz.out; have := hkv.out; have := hlv.out; have := hs1.out; have := hs2.out; have := hs3.out; have := hs4.out; have := hs5.out; have := hs6.out; have := hs7.out; have := hs8.out; have := hs9.out; have := hs10.out; have := hs11.out; have := hs12.out; have := hs13.out; omega)).grown hg2 (Nat.le_trans B.out.size hg1.size) (row_ge fun b hb => by have := SG2.out b hb; have := hkw.out; have := hlw.out; have := hkx.out; have := hlx.out; have := hz.out; have := hkv.out; have := hlv.out; have := hs1.out; have := hs2.out; have := hs3.out; have := hs4.out; have := hs5.out; have := hs6.out; have := hs7.out; have := hs8.out; have := hs9.out; have := hs10.out; have := hs11.out; have := hs12.out; have := hs13.out; omega))
    have hs14 := Lib.hid (Nat.le_trans hg1.size hg2.size)
    replace OG1 := Lib.hid o1; replace OG2 := Lib.hid o2
    clear o1 o2 hg1 hg2
    obtain ⟨wv, hwq⟩ : ∃ w5, w5 = wv' := ⟨_, rfl⟩
    subst hwq
    have v0 : wv.cell? ⟨kv, 0, none⟩ = some (.int .i64 (zi (MirrorPuzzle_ok W H xs a b ns) W)) := BXv.out.cell rfl
    have v1 : wv.cell? ⟨kv, 1, none⟩ = some (.int .i64 (zi (MirrorPuzzle_ok W H xs a b ns) H)) := BXv.out.cell rfl
    have v2 : wv.cell? ⟨kv, 2, none⟩ = some (.slice AG nG cG) := BXv.out.cell rfl
    have v3 : wv.cell? ⟨kv, 3, none⟩ = some (.int .i64 (zi (MirrorPuzzle_ok W H xs a b ns) a)) := BXv.out.cell rfl
    have v4 : wv.cell? ⟨kv, 4, none⟩ = some (.int .i64 (zi (MirrorPuzzle_ok W H xs a b ns) b)) := BXv.out.cell rfl
    have v5 : wv.cell? ⟨kv, 5, none⟩ = some (.slice AG2 nG2 cG2) := BXv.out.cell rfl
    have vl : kv < wv.heap.size := BXv.out.lt
    go_wp2_with fail
    clear v0 v1 v2 v3 v4 v5
    refine (heldPuzzle_any _ _ _ _ _ _ _ _ _ _ 1 _ OG1.out.rd OG2.out.rd (by omega) (by have := HSG.out; have := HSG2.out; omega)).mono ?_
    rintro e wv ⟨rfl, hb⟩
    replace BA := Lib.hid (BA.out.keep hb)
    replace BXw := Lib.hid (BXw.out.keep hb)
    replace BXv := Lib.hid (BXv.out.keep hb)
    replace OW1 := Lib.hid (OW1.out.keep hb)
    replace OW2 := Lib.hid (OW2.out.keep hb)
    replace OG1 := Lib.hid (OG1.out.keep hb)
    replace OG2 := Lib.hid (OG2.out.keep hb)
    have hs15 := Lib.hid hb.size
    replace B := Lib.hid (below_next B.out hb)
    clear hb
    have hny : ¬ ((1 : Int) + nG + nG2 < 0) := by omega
    have p0 : wv.cell? ⟨w.heap.size, 0, none⟩ = some (.int .i64 W) := BA.out.cell rfl
    have p1 : wv.cell? ⟨w.heap.size, 1, none⟩ = some (.int .i64 H) := BA.out.cell rfl
    have p2 : wv.cell? ⟨w.heap.size, 2, none⟩ = some (.slice A n c) := BA.out.cell rfl
    have p3 : wv.cell? ⟨w.heap.size, 3, none⟩ = some (.int .i64 a) := BA.out.cell rfl
    have p4 : wv.cell? ⟨w.heap.size, 4, none⟩ = some (.int .i64 b) := BA.out.cell rfl
    have p5 : wv.cell? ⟨w.heap.size, 5, none⟩ = some (.slice A2 n2 c2) := BA.out.cell rfl
    have pl : w.heap.size < wv.heap.size := BA.out.lt
    go_wp2_with fail
    refine (toPuzzle_any W H A n c a b A2 n2 c2 xs ns _ (RA0.out.keep B.out) (RN0.out.keep B.out) (by have := HZ.out; omega) (by have := HZ.out; omega)).mono ?_
    rintro e wv ⟨gz1, gz2, rfl, hltz, o1, o2, hb⟩
    replace BA := Lib.hid (BA.out.keep hb)
    replace BXw := Lib.hid (BXw.out.keep hb)
    replace BXv := Lib.hid (BXv.out.keep hb)
    replace OW1 := Lib.hid (OW1.out.keep hb)
    replace OW2 := Lib.hid (OW2.out.keep hb)
    replace OG1 := Lib.hid (OG1.out.keep hb)
    replace OG2 := Lib.hid (OG2.out.keep hb)
    have hs16 := Lib.hid hb.size
    replace B := Lib.hid (below_next B.out hb)
    have Oz1 := Lib.hid o1; have Sz1 := Lib.hid o1.span; have Oz2 := Lib.hid o2; have Sz2 := Lib.hid o2.span; have HLTz := Lib.hid hltz
    clear hb o1 o2 hltz
    clear p0 p1 p2 p3 p4 p5
    go_wp2_with fail
    refine (impl_MirrorPuzzle W H _ _ _ a b _ _ _ xs ns  _ Oz1.out.rd Oz2.out.rd).mono ?_
    rintro e wv ⟨AH, nH, cH, AH2, nH2, cH2, rfl, o1, o2, hap, hb⟩
    replace BA := Lib.hid (BA.out.keep hb)
    replace BXw := Lib.hid (BXw.out.keep hb)
    replace BXv := Lib.hid (BXv.out.keep hb)
    replace OW1 := Lib.hid (OW1.out.keep hb)
    replace OW2 := Lib.hid (OW2.out.keep hb)
    replace OG1 := Lib.hid (OG1.out.keep hb)
    replace OG2 := Lib.hid (OG2.out.keep hb)
    have hs17 := Lib.hid hb.size
    replace B := Lib.hid (below_next B.out hb)
    have OH1 := Lib.hid o1; have SH1 := Lib.hid o1.span; have OH2 := Lib.hid o2; have SH2 := Lib.hid o2.span; have HAH := Lib.hid hap
    clear o1 o2 hap
    clear hb
    clear Oz1 Oz2 Sz1 Sz2 HLTz
    have u0 : wv.cell? ⟨kw, 0, none⟩ = some (.int .i64 (zi (MirrorPuzzle_ok W H xs a b ns) W)) := BXw.out.cell rfl
    have u1 : wv.cell? ⟨kw, 1, none⟩ = some (.int .i64 (zi (MirrorPuzzle_ok W H xs a b ns) H)) := BXw.out.cell rfl
    have u2 : wv.cell? ⟨kw, 2, none⟩ = some (.slice AW nW cW) := BXw.out.cell rfl
    have u3 : wv.cell? ⟨kw, 3, none⟩ = some (.int .i64 (zi (MirrorPuzzle_ok W H xs a b ns) a)) := BXw.out.cell rfl
    have u4 : wv.cell? ⟨kw, 4, none⟩ = some (.int .i64 (zi (MirrorPuzzle_ok W H xs a b ns) b)) := BXw.out.cell rfl
    have u5 : wv.cell? ⟨kw, 5, none⟩ = some (.slice AW2 nW2 cW2) := BXw.out.cell rfl
    have ul : kw < wv.heap.size := BXw.out.lt
    go_wp2_with fail
    clear u0 u1 u2 u3 u4 u5
    obtain ⟨wh, hWn⟩ : ∃ W5, W5 = wv.alloc (.cells #[.int .i64 (zi (MirrorPuzzle_ok W H xs a b ns) W), .int .i64 (zi (MirrorPuzzle_ok W H xs a b ns) H), .slice AH nH cH, .int .i64 (zi (MirrorPuzzle_ok W H xs a b ns) a), .int .i64 (zi (MirrorPuzzle_ok W H xs a b ns) b), .slice AH2 nH2 cH2] 34) := ⟨_, rfl⟩
    obtain ⟨kh, hkn⟩ : ∃ k5, k5 = wv.heap.size := ⟨_, rfl⟩
    have hb : Below wv.heap.size wv wh := by rw [hWn]; exact below_new (Below.refl _ _) _
    have BXh := Lib.hid (show Bx wh kh #[.int .i64 (zi (MirrorPuzzle_ok W H xs a b ns) W), .int .i64 (zi (MirrorPuzzle_ok W H xs a b ns) H), .slice AH nH cH, .int .i64 (zi (MirrorPuzzle_ok W H xs a b ns) a), .int .i64 (zi (MirrorPuzzle_ok W H xs a b ns) b), .slice AH2 nH2 cH2] 34 by rw [hWn, hkn]; exact Bx.new _ _ _)
    have hkh := Lib.hid hkn; have hlh := Lib.hid BXh.out.lt
    rw [← hWn, ← hkn]
    clear hWn hkn
    replace BA := Lib.hid (BA.out.keep hb)
    replace BXw := Lib.hid (BXw.out.keep hb)
    replace BXv := Lib.hid (BXv.out.keep hb)
    replace OW1 := Lib.hid (OW1.out.keep hb)
    replace OW2 := Lib.hid (OW2.out.keep hb)
    replace OG1 := Lib.hid (OG1.out.keep hb)
    replace OG2 := Lib.hid (OG2.out.keep hb)
    replace OH1 := Lib.hid (OH1.out.keep hb)
    replace OH2 := Lib.hid (OH2.out.keep hb)
    have hs18 := Lib.hid hb.size
    replace B := Lib.hid (below_next B.out hb)
    clear hb
    refine (eqPuzzle_any (zi (MirrorPuzzle_ok W H xs a b ns) W) (zi (MirrorPuzzle_ok W H xs a b ns) H) _ _ _ (zi (MirrorPuzzle_ok W H xs a b ns) a) (zi (MirrorPuzzle_ok W H xs a b ns) b) _ _ _ _ _ _ _ _ _ (zl (MirrorPuzzle_ok W H xs a b ns) (MirrorPuzzle_xs W H xs a b ns)) (zl (MirrorPuzzle_ok W H xs a b ns) (MirrorPuzzle_ns W H xs a b ns)) (zl (MirrorPuzzle_ok W H xs a b ns) (MirrorPuzzle_xs W H xs a b ns)) (zl (MirrorPuzzle_ok W H xs a b ns) (MirrorPuzzle_ns W H xs a b ns)) _ OH1.out.rd OH2.out.rd OW1.out.rd OW2.out.rd).mono ?_
    simp only [decide_true, Bool.and_self]
    rintro e wv ⟨rfl, hb⟩
    replace BA := Lib.hid (BA.out.keep hb)
    replace BXw := Lib.hid (BXw.out.keep hb)
    replace BXv := Lib.hid (BXv.out.keep hb)
    replace BXh := Lib.hid (BXh.out.keep hb)
    replace OW1 := Lib.hid (OW1.out.keep hb)
    replace OW2 := Lib.hid (OW2.out.keep hb)
    replace OG1 := Lib.hid (OG1.out.keep hb)
    replace OG2 := Lib.hid (OG2.out.keep hb)
    replace OH1 := Lib.hid (OH1.out.keep hb)
    replace OH2 := Lib.hid (OH2.out.keep hb)
    have hs19 := Lib.hid hb.size
    replace B := Lib.hid (below_next B.out hb)
    clear hb
    have v0 : wv.cell? ⟨kv, 0, none⟩ = some (.int .i64 (zi (MirrorPuzzle_ok W H xs a b ns) W)) := BXv.out.cell rfl
    have v1 : wv.cell? ⟨kv, 1, none⟩ = some (.int .i64 (zi (MirrorPuzzle_ok W H xs a b ns) H)) := BXv.out.cell rfl
    have v2 : wv.cell? ⟨kv, 2, none⟩ = some (.slice AG nG cG) := BXv.out.cell rfl
    have v3 : wv.cell? ⟨kv, 3, none⟩ = some (.int .i64 (zi (MirrorPuzzle_ok W H xs a b ns) a)) := BXv.out.cell rfl
    have v4 : wv.cell? ⟨kv, 4, none⟩ = some (.int .i64 (zi (MirrorPuzzle_ok W H xs a b ns) b)) := BXv.out.cell rfl
    have v5 : wv.cell? ⟨kv, 5, none⟩ = some (.slice AG2 nG2 cG2) := BXv.out.cell rfl
    have vl : kv < wv.heap.size := BXv.out.lt
    go_wp2_with fail
    clear v0 v1 v2 v3 v4 v5
    refine (heldPuzzle_any _ _ _ _ _ _ _ _ _ _ 1 _ OG1.out.rd OG2.out.rd (by omega) (by have := HSG.out; have := HSG2.out; omega)).mono ?_
    rintro e wv ⟨rfl, hb⟩
    replace BXv := Lib.hid (BXv.out.keep hb)
    replace OW1 := Lib.hid (OW1.out.keep hb)
    replace OW2 := Lib.hid (OW2.out.keep hb)
    replace OG1 := Lib.hid (OG1.out.keep hb)
    replace OG2 := Lib.hid (OG2.out.keep hb)
    have hs20 := Lib.hid hb.size
    replace B := Lib.hid (below_next B.out hb)
    clear hb
    go_wp2
    go_ret
    exact ⟨rfl, B.out⟩

end Go.Proofs.Ytkdfilhiljfanaa
