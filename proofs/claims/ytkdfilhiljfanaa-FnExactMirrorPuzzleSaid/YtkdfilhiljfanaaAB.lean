/-
  Contracts: MirrorPuzzle.
-/
import Derived.Test.YtkdfilhiljfanaaAA
import Derived.Test.YtkdfilhiljfanaaU4
namespace Go.Proofs.Ytkdfilhiljfanaa
open Go.RowKit

theorem step_makeI {P : Program} {w : World} {ops : Array Oper} {o : Oper} {a : Act} {K : Act → World → Prop} {Q : Exit → Act → World → Prop} {E0 : Prop} (hgd : o.guard = none) (l c : Operand) (t e : TypeId)
    (hop : o.op = Op.makeSlice t l c) (i0 : TypeInfo) (hT : P.underlying t = some (.slice e)) (hi : P.info? e = some i0) (hz0 : i0.zero = some (.int .i64 0)) (hz1 : i0.size = 1) (hz2 : i0.bytes = 8)
    (n : Nat) (hl : a.eval l = .int .i64 (n : Int)) (hc : a.eval c = .int .i64 (n : Int)) (hn : n ≤ 1000)
    (h : ∀ w', OwnI e w' w.heap.size (some ⟨w.heap.size, 0, none⟩) n n (List.replicate n 0) → Below w.heap.size w w' → K (a.put o.dst (.slice (some ⟨w.heap.size, 0, none⟩) n n)) w') :
    if Region.wanted o (yielded ops a.tmps) = true then Oper.wp P o a w K Q else E0 := by
  have hw : Region.wanted o (yielded ops a.tmps) = true := by simp [Region.wanted, hgd]
  rw [if_pos hw]
  obtain ⟨w', hrun, r1, r2⟩ := run_make_full (P := P) w w.heap.size t e i0 (.int .i64 0) 1 hT hi hz0 hz1 .i64 .i64 n (by rw [hz2]; omega) (by unfold maxLen; omega) (Nat.le_refl _)
  unfold Oper.wp
  simp [execOp, hop, hl, hc, hrun, Result.andThen]
  refine h _ ?_ (below_of_grown r2 (Nat.le_refl _) (fun g h => by cases h))
  unfold OwnI
  rw [show n * 1 = n from by omega] at r1
  have e0 : (madeCells (Value.cells (.int .i64 0)) n).toList = List.replicate n (.int .i64 0) := toList_madeCells_one (.int .i64 0) n
  rw [e0] at r1
  simpa using r1

/-- The numbers from the index i on, each at the mirrored cell. -/
def mirL (W : Int) : Nat → List Int → List Int → List Int
  | _, [], L => L
  | i, x :: t, L => mirL W (i + 1) t (L.set (mirrorV W (i : Int)).toNat x)
theorem mirL_drop {W : Int} {ns L : List Int} {k : Nat} {x : Int} (hx : ns[k]? = some x) : mirL W k (ns.drop k) L = mirL W (k + 1) (ns.drop (k + 1)) (L.set (mirrorV W (k : Int)).toNat x) := by
  rw [drop_cons_of hx]; rfl
theorem mirL_len (W : Int) : ∀ (ns : List Int) (i : Nat) (L : List Int), (mirL W i ns L).length = L.length
  | [], _, _ => rfl
  | x :: t, i, L => by rw [mirL, mirL_len W t, List.length_set]
def MirrorPuzzle_ok (W H : Int) (xs : List Int) (a b : Int) (ns : List Int) : Bool := goodP W H xs a b ns
def MirrorPuzzle_xs (W _ : Int) (xs : List Int) (_ _ : Int) (_ : List Int) : List Int := movedL (xs.map (mirrorV W))
def MirrorPuzzle_ns (W _ : Int) (_ : List Int) (_ _ : Int) (ns : List Int) : List Int := mirL W 0 ns (List.replicate ns.length 0)
theorem moved_few {W H : Int} {xs : List Int} (h : goodB W H xs = true) : (movedL (xs.map (mirrorV W))).length ≤ 1000000 := by
  have := len_MirrorBoard W H xs
  rwa [MirrorBoard_l, if_pos h] at this
theorem len_MirrorPuzzle (W H : Int) (xs : List Int) (a b : Int) (ns : List Int) : (zl (MirrorPuzzle_ok W H xs a b ns) (MirrorPuzzle_xs W H xs a b ns)).length ≤ 1000000 ∧ (zl (MirrorPuzzle_ok W H xs a b ns) (MirrorPuzzle_ns W H xs a b ns)).length ≤ 1000000 := by
  constructor <;> refine zl_le fun h => ?_
  · exact moved_few (two_gK (goodP_two h))
  · have := good_sizes h
    simp only [MirrorPuzzle_ns, mirL_len, List.length_replicate]; omega
theorem mir_in {W H c : Int} (hW : 1 ≤ W ∧ W ≤ 8) (hc : 0 ≤ c ∧ c < W * H) : ∃ m : Nat, mirrorV W c = (m : Int) ∧ (m : Int) < W * H := by
  have h1 := num_ofU W c
  have h2 := mod_bd (c := c) hW
  have h3 := div_bd (H := H) hW hc
  obtain ⟨p, hp⟩ : ∃ p, c / W * W = p := ⟨_, rfl⟩
  have h5 : 0 ≤ c / W * W := Int.mul_nonneg h3.1 (by omega)
  have h6 : (c / W + 1) * W ≤ H * W := Int.mul_le_mul_of_nonneg_right (by omega) (by omega)
  rw [Int.add_mul, Int.one_mul, Int.mul_comm H W] at h6
  rw [hp] at h1 h5 h6
  unfold mirrorV
  exact ⟨(c - c % W + W - 1 - c % W).toNat, by omega, by omega⟩

set_option maxRecDepth 100000 in
set_option maxHeartbeats 1000000 in
theorem impl_MirrorPuzzle (W H : Int) (A : Option Addr) (n c : Nat) (a b : Int) (A2 : Option Addr) (n2 c2 : Nat) (xs ns : List Int) (w : World) (ha : Rd w A n xs) (hp : Rd w A2 n2 ns) :
    Calls Try.prog 31 #[pzv W H A n c a b A2 n2 c2] w fun e w' => ∃ A' n' c' A2' n2' c2', e = .returned (.tuple #[pzv (zi (MirrorPuzzle_ok W H xs a b ns) W) (zi (MirrorPuzzle_ok W H xs a b ns) H) A' n' c' (zi (MirrorPuzzle_ok W H xs a b ns) a) (zi (MirrorPuzzle_ok W H xs a b ns) b) A2' n2' c2', .bool (MirrorPuzzle_ok W H xs a b ns)]) ∧ OwnI 3 w' w.heap.size A' n' c' (zl (MirrorPuzzle_ok W H xs a b ns) (MirrorPuzzle_xs W H xs a b ns)) ∧ OwnI 3 w' w.heap.size A2' n2' c2' (zl (MirrorPuzzle_ok W H xs a b ns) (MirrorPuzzle_ns W H xs a b ns)) ∧ Apart A' A2' ∧ Below w.heap.size w w' := by
  obtain ⟨i0, hi, hz0, hz1, hz2⟩ := info_parts infoI
  have HI := Lib.hid hi; have HZ0 := Lib.hid hz0; have HZ1 := Lib.hid hz1; have HZ2 := Lib.hid hz2
  clear hi hz0 hz1 hz2
  have RA0 := Lib.hid ha; have RN0 := Lib.hid hp
  have HL := Lib.hid hp.1; have HLA := Lib.hid ha.1; have n9 := hp.2.1
  clear ha hp
  obtain ⟨W2, hW2⟩ : ∃ W2, W2 = (w.alloc (.cells #[.int .i64 W, .int .i64 H, .slice A n c, .int .i64 a, .int .i64 b, .slice A2 n2 c2] 34)).alloc (.cells #[.int .i64 0, .int .i64 0, .slice none 0 0, .int .i64 0, .int .i64 0, .slice none 0 0] 34) := ⟨_, rfl⟩
  have BP := Lib.hid (show Bx W2 (w.heap.size) #[.int .i64 W, .int .i64 H, .slice A n c, .int .i64 a, .int .i64 b, .slice A2 n2 c2] 34 by rw [hW2]; exact (Bx.new (w) #[.int .i64 W, .int .i64 H, .slice A n c, .int .i64 a, .int .i64 b, .slice A2 n2 c2] 34).keep (below_new (Below.refl _ _) (.cells #[.int .i64 0, .int .i64 0, .slice none 0 0, .int .i64 0, .int .i64 0, .slice none 0 0] 34)))
  have BR := Lib.hid (show Bx W2 (w.heap.size + 1) #[.int .i64 0, .int .i64 0, .slice none 0 0, .int .i64 0, .int .i64 0, .slice none 0 0] 34 by rw [hW2]; have := Bx.new (w.alloc (.cells #[.int .i64 W, .int .i64 H, .slice A n c, .int .i64 a, .int .i64 b, .slice A2 n2 c2] 34)) #[.int .i64 0, .int .i64 0, .slice none 0 0, .int .i64 0, .int .i64 0, .slice none 0 0] 34; simpa using this)
  have B := Lib.hid (show Below w.heap.size w W2 by rw [hW2]; repeat (first | exact Below.refl _ _ | refine below_new ?_ _))
  have HSZ := Lib.hid (show w.heap.size + 2 ≤ W2.heap.size by rw [hW2]; simp)
  by_cases hg : goodP W H xs a b ns = true
  rotate_left
  · have p0 : W2.cell? ⟨w.heap.size, 0, none⟩ = some (.int .i64 W) := BP.out.cell rfl
    have p1 : W2.cell? ⟨w.heap.size, 1, none⟩ = some (.int .i64 H) := BP.out.cell rfl
    have p2 : W2.cell? ⟨w.heap.size, 2, none⟩ = some (.slice A n c) := BP.out.cell rfl
    have p3 : W2.cell? ⟨w.heap.size, 3, none⟩ = some (.int .i64 a) := BP.out.cell rfl
    have p4 : W2.cell? ⟨w.heap.size, 4, none⟩ = some (.int .i64 b) := BP.out.cell rfl
    have p5 : W2.cell? ⟨w.heap.size, 5, none⟩ = some (.slice A2 n2 c2) := BP.out.cell rfl
    go_enter Try.func31, Try.ntmps31
    go_wp2_with fail
    rw [← hW2]
    clear hW2
    clear p0 p1 p2 p3 p4 p5
    refine (impl_IsPuzzle W H A n c a b A2 n2 c2 xs ns _ (RA0.out.keep B.out) (RN0.out.keep B.out)).mono ?_
    rw [show goodP W H xs a b ns = false by simpa using hg]
    rintro e wv ⟨rfl, hb⟩
    replace BP := Lib.hid (BP.out.keep hb)
    replace BR := Lib.hid (BR.out.keep hb)
    replace HSZ := Lib.hid (Nat.le_trans HSZ.out hb.size)
    replace B := Lib.hid (below_next B.out hb)
    clear hb
    have y0 : wv.cell? ⟨w.heap.size + 1, 0, none⟩ = some (.int .i64 0) := BR.out.cell rfl
    have y1 : wv.cell? ⟨w.heap.size + 1, 1, none⟩ = some (.int .i64 0) := BR.out.cell rfl
    have y2 : wv.cell? ⟨w.heap.size + 1, 2, none⟩ = some (.slice none 0 0) := BR.out.cell rfl
    have y3 : wv.cell? ⟨w.heap.size + 1, 3, none⟩ = some (.int .i64 0) := BR.out.cell rfl
    have y4 : wv.cell? ⟨w.heap.size + 1, 4, none⟩ = some (.int .i64 0) := BR.out.cell rfl
    have y5 : wv.cell? ⟨w.heap.size + 1, 5, none⟩ = some (.slice none 0 0) := BR.out.cell rfl
    have h0 : wv.frozen? ⟨w.heap.size + 1, 0, none⟩ = false := BR.out.frozen 0
    have h1 : wv.frozen? ⟨w.heap.size + 1, 1, none⟩ = false := BR.out.frozen 1
    have h2 : wv.frozen? ⟨w.heap.size + 1, 2, none⟩ = false := BR.out.frozen 2
    have h3 : wv.frozen? ⟨w.heap.size + 1, 3, none⟩ = false := BR.out.frozen 3
    have h4 : wv.frozen? ⟨w.heap.size + 1, 4, none⟩ = false := BR.out.frozen 4
    have h5 : wv.frozen? ⟨w.heap.size + 1, 5, none⟩ = false := BR.out.frozen 5
    have HNO := Lib.hid (show MirrorPuzzle_ok W H xs a b ns = false by rw [MirrorPuzzle_ok, show goodP W H xs a b ns = false by simpa using hg])
    go_wp2
    refine bodyPost_ret (v := .tuple #[pzv 0 0 none 0 0 0 0 none 0 0, .bool false]) (by simp [results, Try.results31, go_sem, y0, y1, y2, y3, y4, y5]) rfl ⟨none, 0, 0, none, 0, 0, by rw [HNO.out]; rfl, by rw [HNO.out]; exact OwnI.none_ _ _ _, by rw [HNO.out]; exact OwnI.none_ _ _ _, Apart.none_left _, ?_⟩
    repeat (first | refine below_setC ?_ (by omega) _ | exact B.out)
  · have HG := Lib.hid hg
    have HGB := Lib.hid (two_gK (goodP_two hg))
    have HNW := Lib.hid (goodP_len hg)
    have HW : Hid (1 ≤ W ∧ W ≤ 8) := Lib.hid (goodB_iff.1 HGB.out).1
    have hz1 : 1 ≤ n2 := by have := good_sizes hg; have := HL.out; omega
    have hz2 : n2 ≤ 64 := by have := good_sizes hg; have := HL.out; omega
    have hn : n ≤ 64 := by have := good_sizes hg; have := HLA.out; omega
    have p0 : W2.cell? ⟨w.heap.size, 0, none⟩ = some (.int .i64 W) := BP.out.cell rfl
    have p1 : W2.cell? ⟨w.heap.size, 1, none⟩ = some (.int .i64 H) := BP.out.cell rfl
    have p2 : W2.cell? ⟨w.heap.size, 2, none⟩ = some (.slice A n c) := BP.out.cell rfl
    have p3 : W2.cell? ⟨w.heap.size, 3, none⟩ = some (.int .i64 a) := BP.out.cell rfl
    have p4 : W2.cell? ⟨w.heap.size, 4, none⟩ = some (.int .i64 b) := BP.out.cell rfl
    have p5 : W2.cell? ⟨w.heap.size, 5, none⟩ = some (.slice A2 n2 c2) := BP.out.cell rfl
    go_enter Try.func31, Try.ntmps31
    go_wp2_with fail
    rw [← hW2]
    clear hW2
    clear p0 p1 p2 p3 p4 p5
    refine (impl_IsPuzzle W H A n c a b A2 n2 c2 xs ns _ (RA0.out.keep B.out) (RN0.out.keep B.out)).mono ?_
    rw [hg]
    rintro e wv ⟨rfl, hb⟩
    replace BP := Lib.hid (BP.out.keep hb)
    replace BR := Lib.hid (BR.out.keep hb)
    replace HSZ := Lib.hid (Nat.le_trans HSZ.out hb.size)
    replace B := Lib.hid (below_next B.out hb)
    clear hb
    clear hg
    have p0 : wv.cell? ⟨w.heap.size, 0, none⟩ = some (.int .i64 W) := BP.out.cell rfl
    have p1 : wv.cell? ⟨w.heap.size, 1, none⟩ = some (.int .i64 H) := BP.out.cell rfl
    have p2 : wv.cell? ⟨w.heap.size, 2, none⟩ = some (.slice A n c) := BP.out.cell rfl
    have pl : w.heap.size < wv.heap.size := BP.out.lt
    go_upto_region 4 with fail
    clear p0 p1 p2
    clear pl
    obtain ⟨wb, hWn⟩ : ∃ W5, W5 = wv.alloc (.cells #[.int .i64 W, .int .i64 H, .slice A n c] 31) := ⟨_, rfl⟩
    obtain ⟨kb, hkn⟩ : ∃ k5, k5 = wv.heap.size := ⟨_, rfl⟩
    have hb : Below wv.heap.size wv wb := by rw [hWn]; exact below_new (Below.refl _ _) _
    have BB := Lib.hid (show Bx wb kb #[.int .i64 W, .int .i64 H, .slice A n c] 31 by rw [hWn, hkn]; exact Bx.new _ _ _)
    have hkb : w.heap.size + 1 + 1 ≤ kb := by rw [hkn]; exact HSZ.out
    rw [← hWn, ← hkn]
    clear hWn hkn
    replace BP := Lib.hid (BP.out.keep hb)
    replace BR := Lib.hid (BR.out.keep hb)
    replace HSZ := Lib.hid (Nat.le_trans HSZ.out hb.size)
    replace B := Lib.hid (below_next B.out hb)
    clear hb
    have p5 : wb.cell? ⟨w.heap.size, 5, none⟩ = some (.slice A2 n2 c2) := BP.out.cell rfl
    go_upto_region 5 with (at_make; refine wpList_make_full _ rfl _ _ 22 rfl wb.heap.size 3 i0 (.int .i64 0) 1 Try.underlying22 HI.out HZ0.out HZ1.out .i64 .i64 _ _ n2 rfl rfl rfl rfl (by rw [HZ2.out]; omega) (by unfold maxLen; omega) (Nat.le_refl _) ?_; intro w1 hown1 hg1)
    clear p5
    have hO1 : OwnI 3 w1 wb.heap.size (some ⟨wb.heap.size, 0, none⟩) n2 n2 (List.replicate n2 0) := by
      unfold OwnI
      rw [show n2 * 1 = n2 from by omega] at hown1
      have e : (madeCells (Value.cells (.int .i64 0)) n2).toList = List.replicate n2 (.int .i64 0) := toList_madeCells_one (.int .i64 0) n2
      rw [e] at hown1
      simpa using hown1
    have hb : Below wb.heap.size wb w1 := below_of_grown hg1 (Nat.le_refl _) (by simp)
    clear hown1 hg1
    obtain ⟨gn, hgn⟩ : ∃ g, g = wb.heap.size := ⟨_, rfl⟩
    rw [← hgn] at hO1
    (try rw [← hgn])
    have HKG := Lib.hid (show kb < gn by rw [hgn]; exact BB.out.lt)
    have ON := Lib.hid (hO1.lower (show w.heap.size + 1 + 1 ≤ gn by have := HKG.out; omega))
    clear hO1 hgn
    replace BP := Lib.hid (BP.out.keep hb)
    replace BR := Lib.hid (BR.out.keep hb)
    replace BB := Lib.hid (BB.out.keep hb)
    replace HSZ := Lib.hid (Nat.le_trans HSZ.out hb.size)
    replace B := Lib.hid (below_next B.out hb)
    clear hb
    have p5 : w1.cell? ⟨w.heap.size, 5, none⟩ = some (.slice A2 n2 c2) := BP.out.cell rfl
    go_wp2
    clear p5
    go_loopw [21] (fun i wr => ∃ (k : Nat) (Lr : List Int), k ≤ n2 ∧ i = .int .i64 k ∧ OwnI 3 wr (w.heap.size + 1 + 1) (some ⟨gn, 0, none⟩) n2 n2 Lr ∧ MirrorPuzzle_ns W H xs a b ns = mirL W k (ns.drop k) Lr ∧ Bx wr kb #[.int .i64 W, .int .i64 H, .slice A n c] 31 ∧ Bx wr w.heap.size #[.int .i64 W, .int .i64 H, .slice A n c, .int .i64 a, .int .i64 b, .slice A2 n2 c2] 34 ∧ Bx wr (w.heap.size + 1) #[.int .i64 0, .int .i64 0, .slice none 0 0, .int .i64 0, .int .i64 0, .slice none 0 0] 34 ∧ w.heap.size + 1 + 1 ≤ wr.heap.size ∧ Below w.heap.size w wr) (fun i _ => n2 - (intOf i).toNat)
    case atStart => exact ⟨0, _, Nat.zero_le _, rfl, ON.out, by rw [MirrorPuzzle_ns, HL.out]; rfl, BB.out, BP.out, BR.out, HSZ.out, B.out⟩
    case round =>
      clear ON BB BP BR HSZ B
      obtain ⟨k, Lr, hk, rfl, own, hf, bb9, bp, br, hsz, hbw⟩ := hrel
      have ON := Lib.hid own; have HF := Lib.hid hf; have BB := Lib.hid bb9; have BP := Lib.hid bp; have BR := Lib.hid br; have HSZ := Lib.hid hsz; have B := Lib.hid hbw
      clear own hf bb9 bp br hsz hbw
      by_cases hlt : k < n2
      · obtain ⟨bb, oo, x, rfl, hgk, hx, x0⟩ := (RN0.out.keep B.out).at_ hlt
        have HX := Lib.hid hx
        clear hx
        have hkW : (0 : Int) ≤ (k : Int) ∧ (k : Int) < W * H := by have := HNW.out; have := HL.out; omega
        obtain ⟨jm, hjm, hjm2⟩ := mir_in HW.out hkW
        have HJ := Lib.hid hjm
        have hjn : jm < n2 := by have := HNW.out; have := HL.out; omega
        have hj0 : (0 : Int) ≤ (jm : Int) := by omega
        have hj2 : (jm : Int) < (n2 : Int) := by omega
        clear hjm hjm2
        obtain ⟨y9, hy9⟩ : ∃ y, Lr[jm]? = some y := ⟨_, List.getElem?_eq_getElem (show jm < Lr.length by have := ON.out.len; omega)⟩
        have p5 : wr.cell? ⟨w.heap.size, 5, none⟩ = some (.slice (some ⟨bb, oo, none⟩) n2 c2) := BP.out.cell rfl
        go_wp2_with fail
        clear p5
        refine wp_region_held_drew (S := fun w' => w'.cell? ⟨kb, 0, none⟩ = some (.int .i64 W) ∧ w'.cell? ⟨kb, 1, none⟩ = some (.int .i64 H) ∧ w'.cell? ⟨kb, 2, none⟩ = some (.slice A n c)) (by kernel_rfl) ?_ (fun hHeld => ?_)
        · (try dsimp only)
          exact ⟨BB.out.cell rfl, BB.out.cell rfl, BB.out.cell rfl⟩
        refine wpAnyH_take (i := 0) (oi := ⟨_, _, _, _, _, _⟩) (v := ?_) rfl (by kernel_rfl) (by kernel_rfl) (by kernel_rfl) (fun _ _ _ h => h) (Or.inl ⟨by rfl, ?_⟩) (by assumption) ?_
        rotate_left
        · intro w hSw
          (try dsimp only at hSw)
          go_simp
          (try with_reducible rfl)
        (try simp only [Act.put, List.setIfInBounds_toArray, List.set_cons_zero, List.set_cons_succ])
        refine wpAnyH_take (i := 1) (oi := ⟨_, _, _, _, _, _⟩) (v := ?_) rfl (by kernel_rfl) (by kernel_rfl) (by kernel_rfl) (fun _ _ _ h => h) (Or.inl ⟨by rfl, ?_⟩) (by assumption) ?_
        rotate_left
        · intro w hSw
          (try dsimp only at hSw)
          go_simp
          (try with_reducible rfl)
        (try simp only [Act.put, List.setIfInBounds_toArray, List.set_cons_zero, List.set_cons_succ])
        refine wpAnyH_take (i := 2) (oi := ⟨_, _, _, _, _, _⟩) (v := ?_) rfl (by kernel_rfl) (by kernel_rfl) (by kernel_rfl) (fun _ _ _ h => h) (Or.inl ⟨by rfl, ?_⟩) (by assumption) ?_
        rotate_left
        · intro w hSw
          (try dsimp only at hSw)
          go_simp
          (try with_reducible rfl)
        (try simp only [Act.put, List.setIfInBounds_toArray, List.set_cons_zero, List.set_cons_succ])
        refine wpAnyH_take (i := 4) (oi := ⟨_, _, _, _, _, _⟩) (v := ?_) rfl (by kernel_rfl) (by kernel_rfl) (by kernel_rfl) (fun _ _ _ h => h) (Or.inl ⟨by rfl, ?_⟩) (by assumption) ?_
        rotate_left
        · intro w hSw
          (try dsimp only at hSw)
          go_simp
          (try with_reducible rfl)
        (try simp only [Act.put, List.setIfInBounds_toArray, List.set_cons_zero, List.set_cons_succ])
        refine wpAnyH_take (i := 6) (oi := ⟨_, _, _, _, _, _⟩) (v := ?_) rfl (by kernel_rfl) (by kernel_rfl) (by kernel_rfl) (fun _ _ _ h => h) (Or.inl ⟨by rfl, ?_⟩) (by assumption) ?_
        rotate_left
        · intro w hSw
          (try dsimp only at hSw)
          go_simp
          (try with_reducible rfl)
        (try simp only [Act.put, List.setIfInBounds_toArray, List.set_cons_zero, List.set_cons_succ])
        refine wpAnyH_take (i := 9) (oi := ⟨_, _, _, _, _, _⟩) (v := ?_) rfl (by kernel_rfl) (by kernel_rfl) (by kernel_rfl) (fun _ _ _ h => h) (Or.inl ⟨by rfl, ?_⟩) (by assumption) ?_
        rotate_left
        · intro w hSw
          (try dsimp only at hSw)
          go_simp
          (try with_reducible rfl)
        (try simp only [Act.put, List.setIfInBounds_toArray, List.set_cons_zero, List.set_cons_succ])
        refine wpAnyH_take (i := 7) (oi := ⟨_, _, _, _, _, _⟩) (v := ?_) rfl (by kernel_rfl) (by kernel_rfl) (by kernel_rfl) (fun _ _ _ h => h) (Or.inl ⟨by rfl, ?_⟩) (by assumption) ?_
        rotate_left
        · intro w hSw
          (try dsimp only at hSw)
          go_simp
          (try with_reducible rfl)
        (try simp only [Act.put, List.setIfInBounds_toArray, List.set_cons_zero, List.set_cons_succ])
        refine wpAnyH_ready (rs := [3]) (by kernel_rfl) (by simp) ?_
        refine AllReadyH.cons (o := ⟨_, _, _, _, _, _⟩) rfl (fun K hK => ?_) AllReadyH.nil
        go_simp
        (go_at_call 61; refine (spotOf_any W H A n c (k : Int) _ HW.out (by omega)).mono ?_; rintro e wy ⟨rfl, hb⟩; (repeat (first | replace hb := below_undrew hb | replace hb := below_undrewN hb)); replace BP := Lib.hid (BP.out.keep hb); replace BR := Lib.hid (BR.out.keep hb); replace BB := Lib.hid (BB.out.keep hb); replace ON := Lib.hid (ON.out.keep hb); replace HSZ := Lib.hid (Nat.le_trans HSZ.out hb.size); replace B := Lib.hid (below_next B.out hb); clear hb)
        (try go_wp2_with fail)
        refine hK.out _ _ ?_ (fun hHeld => ?_)
        · (try dsimp only)
          exact ⟨BB.out.cell rfl, BB.out.cell rfl, BB.out.cell rfl⟩
        clear hK K
        (try simp only [Act.put, List.setIfInBounds_toArray, List.set_cons_zero, List.set_cons_succ])
        refine wpAnyH_ready (rs := [5]) (by kernel_rfl) (by simp) ?_
        refine AllReadyH.cons (o := ⟨_, _, _, _, _, _⟩) rfl (fun K hK => ?_) AllReadyH.nil
        go_simp
        (go_at_call 62; refine (mirrored_any ((k : Int) % W) ((k : Int) / W) W H A n c _ HW.out (by have := mod_bd (c := (k : Int)) HW.out; omega)).mono ?_; rintro e wy ⟨rfl, hb⟩; (repeat (first | replace hb := below_undrew hb | replace hb := below_undrewN hb)); replace BP := Lib.hid (BP.out.keep hb); replace BR := Lib.hid (BR.out.keep hb); replace BB := Lib.hid (BB.out.keep hb); replace ON := Lib.hid (ON.out.keep hb); replace HSZ := Lib.hid (Nat.le_trans HSZ.out hb.size); replace B := Lib.hid (below_next B.out hb); clear hb)
        (try go_wp2_with fail)
        refine hK.out _ _ ?_ (fun hHeld => ?_)
        · (try dsimp only)
          exact ⟨BB.out.cell rfl, BB.out.cell rfl, BB.out.cell rfl⟩
        clear hK K
        (try simp only [Act.put, List.setIfInBounds_toArray, List.set_cons_zero, List.set_cons_succ])
        refine wpAnyH_ready (rs := [8]) (by kernel_rfl) (by simp) ?_
        refine AllReadyH.cons (o := ⟨_, _, _, _, _, _⟩) rfl (fun K hK => ?_) AllReadyH.nil
        go_simp
        (go_at_call 63; refine (number_any (W - 1 - (k : Int) % W) ((k : Int) / W) W _ (by have := mod_bd (c := (k : Int)) HW.out; have := HW.out; omega) (by have h1 := num_ofU W (k : Int); have := mod_bd (c := (k : Int)) HW.out; have h2 := Int.mul_nonneg (div_bd (H := H) HW.out hkW).1 (show (0 : Int) ≤ W by have := HW.out; omega); omega)).mono ?_; rw [show (k : Int) / W * W + (W - 1 - (k : Int) % W) = (jm : Int) by rw [← HJ.out]; unfold mirrorV; have := num_ofU W (k : Int); omega]; rintro e wy ⟨rfl, hb⟩; (repeat (first | replace hb := below_undrew hb | replace hb := below_undrewN hb)); replace BP := Lib.hid (BP.out.keep hb); replace BR := Lib.hid (BR.out.keep hb); replace BB := Lib.hid (BB.out.keep hb); replace ON := Lib.hid (ON.out.keep hb); replace HSZ := Lib.hid (Nat.le_trans HSZ.out hb.size); replace B := Lib.hid (below_next B.out hb); clear hb)
        (try go_wp2_with fail)
        refine hK.out _ _ ?_ (fun hHeld => ?_)
        · (try dsimp only)
          exact ⟨BB.out.cell rfl, BB.out.cell rfl, BB.out.cell rfl⟩
        clear hK K
        (try simp only [Act.put, List.setIfInBounds_toArray, List.set_cons_zero, List.set_cons_succ])
        refine wpAnyH_take (i := 10) (oi := ⟨_, _, _, _, _, _⟩) (v := ?_) rfl (by kernel_rfl) (by kernel_rfl) (by kernel_rfl) (fun _ _ _ h => h) (Or.inl ⟨by rfl, ?_⟩) (by assumption) ?_
        rotate_left
        · intro w hSw
          (try dsimp only at hSw)
          go_simp
          (try with_reducible rfl)
        (try simp only [Act.put, List.setIfInBounds_toArray, List.set_cons_zero, List.set_cons_succ])
        refine wpAnyH_ready (rs := [11]) (by kernel_rfl) (by simp) ?_
        refine AllReadyH.cons (o := ⟨_, _, _, _, _, _⟩) rfl (fun K hK => ?_) AllReadyH.nil
        have c0 := ON.out.cell hy9; have f0 := ON.out.frozen jm
        obtain ⟨o9, g9⟩ := ON.out.stored jm x
        obtain ⟨w4, hW4⟩ : ∃ W5, W5 = wy.setCell ⟨gn, jm, none⟩ (.int .i64 x) := ⟨_, rfl⟩
        rw [← hW4] at o9 g9
        go_simp
        rw [← hW4]
        clear hW4 c0 f0
        replace ON := Lib.hid o9
        have hgn9 := (ON.out.span _ rfl).1
        dsimp only at hgn9
        replace BP := Lib.hid (BP.out.grown g9 (by simp; omega))
        replace BR := Lib.hid (BR.out.grown g9 (by simp; omega))
        replace HSZ := Lib.hid (Nat.le_trans HSZ.out g9.size)
        replace B := Lib.hid (B.out.grown g9 B.out.size (fun g8 h8 => by injection h8 with h8; omega))
        replace BB := Lib.hid (BB.out.grown g9 (by have := HKG.out; simp; omega))
        clear o9 g9 hgn9
        refine hK.out _ _ ?_ (fun hHeld => ?_)
        · (try dsimp only)
          exact ⟨BB.out.cell rfl, BB.out.cell rfl, BB.out.cell rfl⟩
        clear hK K
        (try simp only [Act.put, List.setIfInBounds_toArray, List.set_cons_zero, List.set_cons_succ])
        refine wpAnyH_done (by kernel_rfl) ?_ _
        clear hHeld
        (try go_wp2_with fail)
        go_roundw
        case rel => exact ⟨k + 1, Lr.set jm x, by omega, by go_num, ON.out, by rw [HF.out, mirL_drop HX.out, HJ.out, Int.toNat_natCast], BB.out, BP.out, BR.out, HSZ.out, B.out⟩
        case measure => simp [intOf]; omega
      · have HE := Lib.hid (show MirrorPuzzle_ns W H xs a b ns = Lr by rw [HF.out, List.drop_of_length_le (by have := HL.out; omega)]; rfl)
        rw [← HE.out] at ON
        have b0 : wr.cell? ⟨kb, 0, none⟩ = some (.int .i64 W) := BB.out.cell rfl; have b1 : wr.cell? ⟨kb, 1, none⟩ = some (.int .i64 H) := BB.out.cell rfl; have b2 : wr.cell? ⟨kb, 2, none⟩ = some (.slice A n c) := BB.out.cell rfl
        go_wp2_with fail
        clear b0 b1 b2
        refine (impl_MirrorBoard W H A n c xs _ (RA0.out.keep B.out)).mono ?_
        rw [show MirrorBoard_w W H xs = W by rw [MirrorBoard_w, if_pos HGB.out], show MirrorBoard_h W H xs = H by rw [MirrorBoard_h, if_pos HGB.out], show MirrorBoard_l W H xs = MirrorPuzzle_xs W H xs a b ns by rw [MirrorBoard_l, if_pos HGB.out]; rfl, HGB.out]
        rintro e wx ⟨A9, m9, c9, rfl, own, hb⟩
        have OM := Lib.hid (own.lower HSZ.out)
        clear own
        replace BP := Lib.hid (BP.out.keep hb)
        replace BR := Lib.hid (BR.out.keep hb)
        replace ON := Lib.hid (ON.out.keep hb)
        replace HSZ := Lib.hid (Nat.le_trans HSZ.out hb.size)
        replace B := Lib.hid (below_next B.out hb)
        clear hb
        have z0 : wx.cell? ⟨w.heap.size, 0, none⟩ = some (.int .i64 W) := BP.out.cell rfl
        have z1 : wx.cell? ⟨w.heap.size, 1, none⟩ = some (.int .i64 H) := BP.out.cell rfl
        have z2 : wx.cell? ⟨w.heap.size, 2, none⟩ = some (.slice A n c) := BP.out.cell rfl
        have f0 : wx.frozen? ⟨w.heap.size, 0, none⟩ = false := BP.out.frozen 0
        have f1 : wx.frozen? ⟨w.heap.size, 1, none⟩ = false := BP.out.frozen 1
        have f2 : wx.frozen? ⟨w.heap.size, 2, none⟩ = false := BP.out.frozen 2
        have p3 : wx.cell? ⟨w.heap.size, 3, none⟩ = some (.int .i64 a) := BP.out.cell rfl
        have p4 : wx.cell? ⟨w.heap.size, 4, none⟩ = some (.int .i64 b) := BP.out.cell rfl
        have p5 : wx.cell? ⟨w.heap.size, 5, none⟩ = some (.slice A2 n2 c2) := BP.out.cell rfl
        go_wp2_with fail
        clear p3 p4 p5
        obtain ⟨wy, hWn⟩ : ∃ W5, W5 = ((wx.setCell ⟨w.heap.size, 0, none⟩ (.int .i64 W)).setCell ⟨w.heap.size, 1, none⟩ (.int .i64 H)).setCell ⟨w.heap.size, 2, none⟩ (.slice A9 m9 c9) := ⟨_, rfl⟩
        have hgr : wx.grownBy wy (some (w.heap.size)) := by rw [hWn]; exact (grown_next (grown_next (grownSet1 wx ⟨w.heap.size, 0, none⟩ (.int .i64 W)) (grownSet1 _ ⟨w.heap.size, 1, none⟩ (.int .i64 H))) (grownSet1 _ ⟨w.heap.size, 2, none⟩ (.slice A9 m9 c9)))
        replace BP := Lib.hid (show Bx wy (w.heap.size) #[.int .i64 W, .int .i64 H, .slice A9 m9 c9, .int .i64 a, .int .i64 b, .slice A2 n2 c2] 34 by rw [hWn]; exact (((BP.out.set 0 (.int .i64 W)).set 1 (.int .i64 H)).set 2 (.slice A9 m9 c9)))
        replace BR := Lib.hid (BR.out.grown hgr (by simp))
        replace ON := Lib.hid (ON.out.other hgr (fun a9 ha9 he => by injection he with he; have := (ON.out.span a9 ha9).1; omega))
        replace OM := Lib.hid (OM.out.other hgr (fun a9 ha9 he => by injection he with he; have := (OM.out.span a9 ha9).1; omega))
        replace HSZ := Lib.hid (Nat.le_trans HSZ.out hgr.size)
        replace B := Lib.hid (B.out.grown hgr B.out.size (fun g9 h9 => by injection h9 with h9; omega))
        rw [← hWn]
        clear hWn hgr z0 f0 z1 f1 z2 f2
        refine (having_any W H A9 m9 c9 a b A2 n2 c2 (MirrorPuzzle_xs W H xs a b ns) (some ⟨gn, 0, none⟩) n2 n2 _ OM.out.rd (by rw [← OM.out.len]; exact moved_few HGB.out)).mono ?_
        rintro e wz ⟨A', c', rfl, own, hb⟩
        have HAP := Lib.hid (apart_lt own ON.out (Nat.le_refl _))
        have OH := Lib.hid (own.lower HSZ.out)
        clear own
        replace BR := Lib.hid (BR.out.keep hb)
        replace ON := Lib.hid (ON.out.keep hb)
        replace HSZ := Lib.hid (Nat.le_trans HSZ.out hb.size)
        replace B := Lib.hid (below_next B.out hb)
        clear hb
        have y0 : wz.cell? ⟨w.heap.size + 1, 0, none⟩ = some (.int .i64 0) := BR.out.cell rfl
        have y1 : wz.cell? ⟨w.heap.size + 1, 1, none⟩ = some (.int .i64 0) := BR.out.cell rfl
        have y2 : wz.cell? ⟨w.heap.size + 1, 2, none⟩ = some (.slice none 0 0) := BR.out.cell rfl
        have y3 : wz.cell? ⟨w.heap.size + 1, 3, none⟩ = some (.int .i64 0) := BR.out.cell rfl
        have y4 : wz.cell? ⟨w.heap.size + 1, 4, none⟩ = some (.int .i64 0) := BR.out.cell rfl
        have y5 : wz.cell? ⟨w.heap.size + 1, 5, none⟩ = some (.slice none 0 0) := BR.out.cell rfl
        have h0 : wz.frozen? ⟨w.heap.size + 1, 0, none⟩ = false := BR.out.frozen 0
        have h1 : wz.frozen? ⟨w.heap.size + 1, 1, none⟩ = false := BR.out.frozen 1
        have h2 : wz.frozen? ⟨w.heap.size + 1, 2, none⟩ = false := BR.out.frozen 2
        have h3 : wz.frozen? ⟨w.heap.size + 1, 3, none⟩ = false := BR.out.frozen 3
        have h4 : wz.frozen? ⟨w.heap.size + 1, 4, none⟩ = false := BR.out.frozen 4
        have h5 : wz.frozen? ⟨w.heap.size + 1, 5, none⟩ = false := BR.out.frozen 5
        have HOK := Lib.hid (show MirrorPuzzle_ok W H xs a b ns = true from HG.out)
        go_wp2
        refine bodyPost_ret (v := .tuple #[pzv W H A' m9 c' a b (some ⟨gn, 0, none⟩) n2 n2, .bool true]) (by simp [results, Try.results31, go_sem, y0, y1, y2, y3, y4, y5]) rfl ⟨A', m9, c', (some ⟨gn, 0, none⟩), n2, n2, by rw [HOK.out]; rfl, ?_, ?_, HAP.out, ?_⟩
        · rw [HOK.out]
          show OwnI _ _ _ _ _ _ _
          refine OwnI.lower (lo := w.heap.size + 1 + 1) ?_ (by omega)
          repeat (first | refine own_setC ?_ (by omega) _ | exact OH.out)
        · rw [HOK.out]
          show OwnI _ _ _ _ _ _ _
          refine OwnI.lower (lo := w.heap.size + 1 + 1) ?_ (by omega)
          repeat (first | refine own_setC ?_ (by omega) _ | exact ON.out)
        · repeat (first | refine below_setC ?_ (by omega) _ | exact B.out)

set_option maxRecDepth 100000 in
set_option maxHeartbeats 1000000 in
theorem spec_MirrorPuzzle (W H : Int) (A : Option Addr) (n c : Nat) (a b : Int) (A2 : Option Addr) (n2 c2 : Nat) (xs ns : List Int) (w : World) (ha : Rd w A n xs) (hp : Rd w A2 n2 ns) (hcap : n2 ≤ c2) :
    Calls Try.prog 30 #[pzv W H A n c a b A2 n2 c2] w fun e w' => ∃ A' n' c' A2' n2' c2', e = .returned (.tuple #[pzv (zi (MirrorPuzzle_ok W H xs a b ns) W) (zi (MirrorPuzzle_ok W H xs a b ns) H) A' n' c' (zi (MirrorPuzzle_ok W H xs a b ns) a) (zi (MirrorPuzzle_ok W H xs a b ns) b) A2' n2' c2', .bool (MirrorPuzzle_ok W H xs a b ns)]) ∧ OwnI 3 w' w.heap.size A' n' c' (zl (MirrorPuzzle_ok W H xs a b ns) (MirrorPuzzle_xs W H xs a b ns)) ∧ OwnI 3 w' w.heap.size A2' n2' c2' (zl (MirrorPuzzle_ok W H xs a b ns) (MirrorPuzzle_ns W H xs a b ns)) ∧ Apart A' A2' ∧ Below w.heap.size w w' := by
  obtain ⟨i0, hi, hz0, hz1, hz2⟩ := info_parts infoI
  have HI := Lib.hid hi; have HZ0 := Lib.hid hz0; have HZ1 := Lib.hid hz1; have HZ2 := Lib.hid hz2
  clear hi hz0 hz1 hz2
  have RA0 := Lib.hid ha; have RN0 := Lib.hid hp
  have HL := Lib.hid hp.1; have HLA := Lib.hid ha.1; have n9 := hp.2.1
  clear ha hp
  obtain ⟨W2, hW2⟩ : ∃ W2, W2 = (w.alloc (.cells #[.int .i64 W, .int .i64 H, .slice A n c, .int .i64 a, .int .i64 b, .slice A2 n2 c2] 34)).alloc (.cells #[.int .i64 0, .int .i64 0, .slice none 0 0, .int .i64 0, .int .i64 0, .slice none 0 0] 34) := ⟨_, rfl⟩
  have BP := Lib.hid (show Bx W2 (w.heap.size) #[.int .i64 W, .int .i64 H, .slice A n c, .int .i64 a, .int .i64 b, .slice A2 n2 c2] 34 by rw [hW2]; exact (Bx.new (w) #[.int .i64 W, .int .i64 H, .slice A n c, .int .i64 a, .int .i64 b, .slice A2 n2 c2] 34).keep (below_new (Below.refl _ _) (.cells #[.int .i64 0, .int .i64 0, .slice none 0 0, .int .i64 0, .int .i64 0, .slice none 0 0] 34)))
  have BR := Lib.hid (show Bx W2 (w.heap.size + 1) #[.int .i64 0, .int .i64 0, .slice none 0 0, .int .i64 0, .int .i64 0, .slice none 0 0] 34 by rw [hW2]; have := Bx.new (w.alloc (.cells #[.int .i64 W, .int .i64 H, .slice A n c, .int .i64 a, .int .i64 b, .slice A2 n2 c2] 34)) #[.int .i64 0, .int .i64 0, .slice none 0 0, .int .i64 0, .int .i64 0, .slice none 0 0] 34; simpa using this)
  have B := Lib.hid (show Below w.heap.size w W2 by rw [hW2]; repeat (first | exact Below.refl _ _ | refine below_new ?_ _))
  have HSZ := Lib.hid (show w.heap.size + 2 ≤ W2.heap.size by rw [hW2]; simp)
  by_cases hg : goodP W H xs a b ns = true
  rotate_left
  · have p0 : W2.cell? ⟨w.heap.size, 0, none⟩ = some (.int .i64 W) := BP.out.cell rfl
    have p1 : W2.cell? ⟨w.heap.size, 1, none⟩ = some (.int .i64 H) := BP.out.cell rfl
    have p2 : W2.cell? ⟨w.heap.size, 2, none⟩ = some (.slice A n c) := BP.out.cell rfl
    have p3 : W2.cell? ⟨w.heap.size, 3, none⟩ = some (.int .i64 a) := BP.out.cell rfl
    have p4 : W2.cell? ⟨w.heap.size, 4, none⟩ = some (.int .i64 b) := BP.out.cell rfl
    have p5 : W2.cell? ⟨w.heap.size, 5, none⟩ = some (.slice A2 n2 c2) := BP.out.cell rfl
    go_enter Try.func30, Try.ntmps30
    go_wp2_with fail
    rw [← hW2]
    clear hW2
    clear p0 p1 p2 p3 p4 p5
    refine (pzGood_any W H A n c a b A2 n2 c2 xs ns _ (RA0.out.keep B.out) (RN0.out.keep B.out) hcap).mono ?_
    rw [show goodP W H xs a b ns = false by simpa using hg]
    rintro e wv ⟨rfl, hb⟩
    replace BP := Lib.hid (BP.out.keep hb)
    replace BR := Lib.hid (BR.out.keep hb)
    replace HSZ := Lib.hid (Nat.le_trans HSZ.out hb.size)
    replace B := Lib.hid (below_next B.out hb)
    clear hb
    have y0 : wv.cell? ⟨w.heap.size + 1, 0, none⟩ = some (.int .i64 0) := BR.out.cell rfl
    have y1 : wv.cell? ⟨w.heap.size + 1, 1, none⟩ = some (.int .i64 0) := BR.out.cell rfl
    have y2 : wv.cell? ⟨w.heap.size + 1, 2, none⟩ = some (.slice none 0 0) := BR.out.cell rfl
    have y3 : wv.cell? ⟨w.heap.size + 1, 3, none⟩ = some (.int .i64 0) := BR.out.cell rfl
    have y4 : wv.cell? ⟨w.heap.size + 1, 4, none⟩ = some (.int .i64 0) := BR.out.cell rfl
    have y5 : wv.cell? ⟨w.heap.size + 1, 5, none⟩ = some (.slice none 0 0) := BR.out.cell rfl
    have h0 : wv.frozen? ⟨w.heap.size + 1, 0, none⟩ = false := BR.out.frozen 0
    have h1 : wv.frozen? ⟨w.heap.size + 1, 1, none⟩ = false := BR.out.frozen 1
    have h2 : wv.frozen? ⟨w.heap.size + 1, 2, none⟩ = false := BR.out.frozen 2
    have h3 : wv.frozen? ⟨w.heap.size + 1, 3, none⟩ = false := BR.out.frozen 3
    have h4 : wv.frozen? ⟨w.heap.size + 1, 4, none⟩ = false := BR.out.frozen 4
    have h5 : wv.frozen? ⟨w.heap.size + 1, 5, none⟩ = false := BR.out.frozen 5
    have HNO := Lib.hid (show MirrorPuzzle_ok W H xs a b ns = false by rw [MirrorPuzzle_ok, show goodP W H xs a b ns = false by simpa using hg])
    go_wp2
    refine bodyPost_ret (v := .tuple #[pzv 0 0 none 0 0 0 0 none 0 0, .bool false]) (by simp [results, Try.results30, go_sem, y0, y1, y2, y3, y4, y5]) rfl ⟨none, 0, 0, none, 0, 0, by rw [HNO.out]; rfl, by rw [HNO.out]; exact OwnI.none_ _ _ _, by rw [HNO.out]; exact OwnI.none_ _ _ _, Apart.none_left _, ?_⟩
    repeat (first | refine below_setC ?_ (by omega) _ | exact B.out)
  · have HG := Lib.hid hg
    have HGB := Lib.hid (two_gK (goodP_two hg))
    have HNW := Lib.hid (goodP_len hg)
    have HW : Hid (1 ≤ W ∧ W ≤ 8) := Lib.hid (goodB_iff.1 HGB.out).1
    have hz1 : 1 ≤ n2 := by have := good_sizes hg; have := HL.out; omega
    have hz2 : n2 ≤ 64 := by have := good_sizes hg; have := HL.out; omega
    have hn : n ≤ 64 := by have := good_sizes hg; have := HLA.out; omega
    have p0 : W2.cell? ⟨w.heap.size, 0, none⟩ = some (.int .i64 W) := BP.out.cell rfl
    have p1 : W2.cell? ⟨w.heap.size, 1, none⟩ = some (.int .i64 H) := BP.out.cell rfl
    have p2 : W2.cell? ⟨w.heap.size, 2, none⟩ = some (.slice A n c) := BP.out.cell rfl
    have p3 : W2.cell? ⟨w.heap.size, 3, none⟩ = some (.int .i64 a) := BP.out.cell rfl
    have p4 : W2.cell? ⟨w.heap.size, 4, none⟩ = some (.int .i64 b) := BP.out.cell rfl
    have p5 : W2.cell? ⟨w.heap.size, 5, none⟩ = some (.slice A2 n2 c2) := BP.out.cell rfl
    go_enter Try.func30, Try.ntmps30
    go_wp2_with fail
    rw [← hW2]
    clear hW2
    clear p0 p1 p2 p3 p4 p5
    refine (pzGood_any W H A n c a b A2 n2 c2 xs ns _ (RA0.out.keep B.out) (RN0.out.keep B.out) hcap).mono ?_
    rw [hg]
    rintro e wv ⟨rfl, hb⟩
    replace BP := Lib.hid (BP.out.keep hb)
    replace BR := Lib.hid (BR.out.keep hb)
    replace HSZ := Lib.hid (Nat.le_trans HSZ.out hb.size)
    replace B := Lib.hid (below_next B.out hb)
    clear hb
    clear hg
    go_upto_region 3 with fail
    go_cut [4] (fun s4 wx => ∃ (gb gn : Nat) (A' : Option Addr) (n' c' : Nat), s4 = .pointer (some ⟨gb, 0, none⟩) ∧ OwnI 3 wx (w.heap.size + 1 + 1) A' n' c' (MirrorPuzzle_xs W H xs a b ns) ∧ OwnI 3 wx (w.heap.size + 1 + 1) (some ⟨gn, 0, none⟩) n2 n2 (List.replicate n2 0) ∧ Apart A' (some ⟨gn, 0, none⟩) ∧ (∀ y, A' = some y → y.block ≠ gb) ∧ gn ≠ gb ∧ w.heap.size + 1 + 1 ≤ gb ∧ Bx wx gb #[.int .i64 W, .int .i64 H, .slice A' n' c', .int .i64 a, .int .i64 b, .slice (some ⟨gn, 0, none⟩) n2 n2] 34 ∧ Bx wx w.heap.size #[.int .i64 W, .int .i64 H, .slice A n c, .int .i64 a, .int .i64 b, .slice A2 n2 c2] 34 ∧ Bx wx (w.heap.size + 1) #[.int .i64 0, .int .i64 0, .slice none 0 0, .int .i64 0, .int .i64 0, .slice none 0 0] 34 ∧ w.heap.size + 1 + 1 ≤ wx.heap.size ∧ Below w.heap.size w wx)
    case first =>
      obtain ⟨B0, hB0⟩ : ∃ B0, B0 = wv.heap.size := ⟨_, rfl⟩
      have HB0 := Lib.hid (show B0 ≤ wv.heap.size by omega)
      have hB02 : w.heap.size + 1 + 1 ≤ B0 := by rw [hB0]; exact HSZ.out
      clear hB0
      refine wp_region_held_drew (S := fun w' => w'.cell? ⟨w.heap.size, 0, none⟩ = some (.int .i64 W) ∧ w'.cell? ⟨w.heap.size, 1, none⟩ = some (.int .i64 H) ∧ w'.cell? ⟨w.heap.size, 2, none⟩ = some (.slice A n c) ∧ w'.cell? ⟨w.heap.size, 3, none⟩ = some (.int .i64 a) ∧ w'.cell? ⟨w.heap.size, 4, none⟩ = some (.int .i64 b) ∧ w'.cell? ⟨w.heap.size, 5, none⟩ = some (.slice A2 n2 c2)) (by kernel_rfl) ?_ (fun hHeld => ?_)
      · (try dsimp only)
        exact ⟨BP.out.cell rfl, BP.out.cell rfl, BP.out.cell rfl, BP.out.cell rfl, BP.out.cell rfl, BP.out.cell rfl⟩
      refine wpAnyH_take (i := 0) (oi := ⟨_, _, _, _, _, _⟩) (v := ?_) rfl (by kernel_rfl) (by kernel_rfl) (by kernel_rfl) (fun _ _ _ h => h) (Or.inl ⟨by rfl, ?_⟩) (by assumption) ?_
      rotate_left
      · intro w hSw
        (try dsimp only at hSw)
        go_simp
        (try with_reducible rfl)
      (try simp only [Act.put, List.setIfInBounds_toArray, List.set_cons_zero, List.set_cons_succ])
      refine wpAnyH_take (i := 3) (oi := ⟨_, _, _, _, _, _⟩) (v := ?_) rfl (by kernel_rfl) (by kernel_rfl) (by kernel_rfl) (fun _ _ _ h => h) (Or.inl ⟨by rfl, ?_⟩) (by assumption) ?_
      rotate_left
      · intro w hSw
        (try dsimp only at hSw)
        go_simp
        (try with_reducible rfl)
      (try simp only [Act.put, List.setIfInBounds_toArray, List.set_cons_zero, List.set_cons_succ])
      refine wpAnyH_take (i := 5) (oi := ⟨_, _, _, _, _, _⟩) (v := ?_) rfl (by kernel_rfl) (by kernel_rfl) (by kernel_rfl) (fun _ _ _ h => h) (Or.inl ⟨by rfl, ?_⟩) (by assumption) ?_
      rotate_left
      · intro w hSw
        (try dsimp only at hSw)
        go_simp
        (try with_reducible rfl)
      (try simp only [Act.put, List.setIfInBounds_toArray, List.set_cons_zero, List.set_cons_succ])
      refine wpAnyH_take (i := 1) (oi := ⟨_, _, _, _, _, _⟩) (v := ?_) rfl (by kernel_rfl) (by kernel_rfl) (by kernel_rfl) (fun _ _ _ h => h) (Or.inl ⟨by rfl, ?_⟩) (by assumption) ?_
      rotate_left
      · intro w hSw
        (try dsimp only at hSw)
        go_simp
        (try with_reducible rfl)
      (try simp only [Act.put, List.setIfInBounds_toArray, List.set_cons_zero, List.set_cons_succ])
      refine wpAnyH_take (i := 4) (oi := ⟨_, _, _, _, _, _⟩) (v := ?_) rfl (by kernel_rfl) (by kernel_rfl) (by kernel_rfl) (fun _ _ _ h => h) (Or.inl ⟨by rfl, ?_⟩) (by assumption) ?_
      rotate_left
      · intro w hSw
        (try dsimp only at hSw)
        go_simp
        (try with_reducible rfl)
      (try simp only [Act.put, List.setIfInBounds_toArray, List.set_cons_zero, List.set_cons_succ])
      refine wpAnyH_take (i := 6) (oi := ⟨_, _, _, _, _, _⟩) (v := ?_) rfl (by kernel_rfl) (by kernel_rfl) (by kernel_rfl) (fun _ _ _ h => h) (Or.inl ⟨by rfl, ?_⟩) (by assumption) ?_
      rotate_left
      · intro w hSw
        (try dsimp only at hSw)
        go_simp
        (try with_reducible rfl)
      (try simp only [Act.put, List.setIfInBounds_toArray, List.set_cons_zero, List.set_cons_succ])
      refine wpAnyH_take (i := 7) (oi := ⟨_, _, _, _, _, _⟩) (v := ?_) rfl (by kernel_rfl) (by kernel_rfl) (by kernel_rfl) (fun _ _ _ h => h) (Or.inl ⟨by rfl, ?_⟩) (by assumption) ?_
      rotate_left
      · intro w hSw
        (try dsimp only at hSw)
        go_simp
        (try with_reducible rfl)
      (try simp only [Act.put, List.setIfInBounds_toArray, List.set_cons_zero, List.set_cons_succ])
      refine wpAnyH_ready (rs := [2, 8, 10]) (by kernel_rfl) (by simp) ?_
      refine AllReadyH.cons (o := ⟨_, _, _, _, _, _⟩) rfl (fun K hK => ?_) (AllReadyH.cons (o := ⟨_, _, _, _, _, _⟩) rfl (fun K hK => ?_) (AllReadyH.cons (o := ⟨_, _, _, _, _, _⟩) rfl (fun K hK => ?_) AllReadyH.nil))
      · go_simp
        (go_at_call 59; refine (boMirrored_any W H A n c xs _ (by exact (RA0.out.keep B.out).drew1) HGB.out).mono ?_; rintro e wy ⟨A', n', c', rfl, own, hb⟩; (repeat (first | replace hb := below_undrew hb | replace hb := below_undrewN hb)); have OH := Lib.hid (own.lower (show B0 ≤ wv.heap.size from HB0.out)); replace HB0 := Lib.hid (Nat.le_trans HB0.out hb.size); clear own; replace BP := Lib.hid (BP.out.keep hb); replace BR := Lib.hid (BR.out.keep hb); replace HSZ := Lib.hid (Nat.le_trans HSZ.out hb.size); replace B := Lib.hid (below_next B.out hb); clear hb)
        (try go_wp2_with fail)
        refine hK.out _ _ ?_ (fun hHeld => ?_)
        · (try dsimp only)
          exact ⟨BP.out.cell rfl, BP.out.cell rfl, BP.out.cell rfl, BP.out.cell rfl, BP.out.cell rfl, BP.out.cell rfl⟩
        clear hK K
        (try simp only [Act.put, List.setIfInBounds_toArray, List.set_cons_zero, List.set_cons_succ])
        refine wpAnyH_ready (rs := [8, 10]) (by kernel_rfl) (by simp) ?_
        refine AllReadyH.cons (o := ⟨_, _, _, _, _, _⟩) rfl (fun K hK => ?_) (AllReadyH.cons (o := ⟨_, _, _, _, _, _⟩) rfl (fun K hK => ?_) AllReadyH.nil)
        · (refine step_makeI rfl (.tmp 18) (.tmp 18) 22 3 rfl i0 Try.underlying22 HI.out HZ0.out HZ1.out HZ2.out n2 rfl rfl (by omega) ?_; intro w8 own8 hb)
          (repeat (first | replace hb := below_undrew hb | replace hb := below_undrewN hb))
          obtain ⟨gn, hgn⟩ : ∃ g, g = wy.heap.size := ⟨_, rfl⟩
          have own9 : OwnI 3 w8 gn (some ⟨gn, 0, none⟩) n2 n2 (List.replicate n2 0) := by rw [hgn]; exact own8
          have ON := Lib.hid (own9.lower (show B0 ≤ gn by rw [hgn]; exact HB0.out))
          have HAP := Lib.hid (show Apart A' (some ⟨gn, 0, none⟩) from fun y z hy hz => by injection hz with hz; have h8 := (OH.out.span y hy).2; rw [← hz]; dsimp only; omega)
          replace HB0 := Lib.hid (Nat.le_trans HB0.out hb.size)
          (try rw [show wy.drew.heap.size = gn from hgn.symm])
          (try rw [← hgn])
          clear own8 own9 hgn
          replace BP := Lib.hid (BP.out.keep hb)
          replace BR := Lib.hid (BR.out.keep hb)
          replace OH := Lib.hid (OH.out.keep hb)
          replace HSZ := Lib.hid (Nat.le_trans HSZ.out hb.size)
          replace B := Lib.hid (below_next B.out hb)
          clear hb
          refine hK.out _ _ ?_ (fun hHeld => ?_)
          · (try dsimp only)
            exact ⟨BP.out.cell rfl, BP.out.cell rfl, BP.out.cell rfl, BP.out.cell rfl, BP.out.cell rfl, BP.out.cell rfl⟩
          clear hK K
          (try simp only [Act.put, List.setIfInBounds_toArray, List.set_cons_zero, List.set_cons_succ])
          refine wpAnyH_take (i := 9) (oi := ⟨_, _, _, _, _, _⟩) (v := ?_) rfl (by kernel_rfl) (by kernel_rfl) (by kernel_rfl) (fun _ _ _ h => h) (Or.inl ⟨by rfl, ?_⟩) (by assumption) ?_
          rotate_left
          · intro w hSw
            (try dsimp only at hSw)
            go_simp
            (try with_reducible rfl)
          (try simp only [Act.put, List.setIfInBounds_toArray, List.set_cons_zero, List.set_cons_succ])
          refine wpAnyH_ready (rs := [10]) (by kernel_rfl) (by simp) ?_
          refine AllReadyH.cons (o := ⟨_, _, _, _, _, _⟩) rfl (fun K hK => ?_) AllReadyH.nil
          go_simp
          obtain ⟨wz, hWn⟩ : ∃ W5, W5 = w8.alloc (.cells #[.int .i64 0, .int .i64 0, .slice none 0 0, .int .i64 0, .int .i64 0, .slice none 0 0] 34) := ⟨_, rfl⟩
          have hb : Below w8.heap.size w8 wz := by rw [hWn]; exact below_new (Below.refl _ _) _
          obtain ⟨gb, hgp⟩ : ∃ gp, gp = w8.heap.size := ⟨_, rfl⟩
          have BB := Lib.hid (show Bx wz gb #[.int .i64 0, .int .i64 0, .slice none 0 0, .int .i64 0, .int .i64 0, .slice none 0 0] 34 by rw [hWn, hgp]; exact Bx.new _ _ _)
          have Hgb := Lib.hid (show B0 ≤ gb by rw [hgp]; exact HB0.out)
          replace HB0 := Lib.hid (Nat.le_trans HB0.out hb.size)
          have HNE1 := Lib.hid (show ∀ y, A' = some y → y.block ≠ gb from fun y hy => by have := (OH.out.span y hy).2; omega)
          have HNG := Lib.hid (show gn ≠ gb by have h9 := (ON.out.span _ rfl).2; dsimp only at h9; omega)
          rw [← hWn]
          (try rw [← hgp])
          clear hWn hgp
          replace BP := Lib.hid (BP.out.keep hb)
          replace BR := Lib.hid (BR.out.keep hb)
          replace OH := Lib.hid (OH.out.keep hb)
          replace ON := Lib.hid (ON.out.keep hb)
          replace HSZ := Lib.hid (Nat.le_trans HSZ.out hb.size)
          replace B := Lib.hid (below_next B.out hb)
          clear hb
          refine hK.out _ _ ?_ (fun hHeld => ?_)
          · (try dsimp only)
            exact ⟨BP.out.cell rfl, BP.out.cell rfl, BP.out.cell rfl, BP.out.cell rfl, BP.out.cell rfl, BP.out.cell rfl⟩
          clear hK K
          (try simp only [Act.put, List.setIfInBounds_toArray, List.set_cons_zero, List.set_cons_succ])
          refine wpAnyH_ready (rs := [11]) (by kernel_rfl) (by simp) ?_
          refine AllReadyH.cons (o := ⟨_, _, _, _, _, _⟩) rfl (fun K hK => ?_) AllReadyH.nil
          have z0 : wz.cell? ⟨gb, 0, none⟩ = some (.int .i64 0) := BB.out.cell rfl
          have z1 : wz.cell? ⟨gb, 1, none⟩ = some (.int .i64 0) := BB.out.cell rfl
          have z2 : wz.cell? ⟨gb, 2, none⟩ = some (.slice none 0 0) := BB.out.cell rfl
          have z3 : wz.cell? ⟨gb, 3, none⟩ = some (.int .i64 0) := BB.out.cell rfl
          have z4 : wz.cell? ⟨gb, 4, none⟩ = some (.int .i64 0) := BB.out.cell rfl
          have z5 : wz.cell? ⟨gb, 5, none⟩ = some (.slice none 0 0) := BB.out.cell rfl
          have f0 : wz.frozen? ⟨gb, 0, none⟩ = false := BB.out.frozen 0
          have f1 : wz.frozen? ⟨gb, 1, none⟩ = false := BB.out.frozen 1
          have f2 : wz.frozen? ⟨gb, 2, none⟩ = false := BB.out.frozen 2
          have f3 : wz.frozen? ⟨gb, 3, none⟩ = false := BB.out.frozen 3
          have f4 : wz.frozen? ⟨gb, 4, none⟩ = false := BB.out.frozen 4
          have f5 : wz.frozen? ⟨gb, 5, none⟩ = false := BB.out.frozen 5
          go_simp
          obtain ⟨wq, hWn⟩ : ∃ W5, W5 = (((((wz.setCell ⟨gb, 0, none⟩ (.int .i64 W)).setCell ⟨gb, 1, none⟩ (.int .i64 H)).setCell ⟨gb, 2, none⟩ (.slice A' n' c')).setCell ⟨gb, 3, none⟩ (.int .i64 a)).setCell ⟨gb, 4, none⟩ (.int .i64 b)).setCell ⟨gb, 5, none⟩ (.slice (some ⟨gn, 0, none⟩) n2 n2) := ⟨_, rfl⟩
          have hgr : wz.grownBy wq (some (gb)) := by rw [hWn]; exact (grown_next (grown_next (grown_next (grown_next (grown_next (grownSet1 wz ⟨gb, 0, none⟩ (.int .i64 W)) (grownSet1 _ ⟨gb, 1, none⟩ (.int .i64 H))) (grownSet1 _ ⟨gb, 2, none⟩ (.slice A' n' c'))) (grownSet1 _ ⟨gb, 3, none⟩ (.int .i64 a))) (grownSet1 _ ⟨gb, 4, none⟩ (.int .i64 b))) (grownSet1 _ ⟨gb, 5, none⟩ (.slice (some ⟨gn, 0, none⟩) n2 n2)))
          replace BB := Lib.hid (show Bx wq (gb) #[.int .i64 W, .int .i64 H, .slice A' n' c', .int .i64 a, .int .i64 b, .slice (some ⟨gn, 0, none⟩) n2 n2] 34 by rw [hWn]; exact ((((((BB.out.set 0 (.int .i64 W)).set 1 (.int .i64 H)).set 2 (.slice A' n' c')).set 3 (.int .i64 a)).set 4 (.int .i64 b)).set 5 (.slice (some ⟨gn, 0, none⟩) n2 n2)))
          replace BP := Lib.hid (BP.out.grown hgr (by have := Hgb.out; simp; omega))
          replace BR := Lib.hid (BR.out.grown hgr (by have := Hgb.out; simp; omega))
          replace ON := Lib.hid (ON.out.other hgr (fun a9 ha9 he => by injection he with he; injection ha9 with ha9; rw [← ha9] at he; exact HNG.out he))
          replace OH := Lib.hid (OH.out.other hgr (fun a9 ha9 he => by injection he with he; exact HNE1.out a9 ha9 he))
          replace HSZ := Lib.hid (Nat.le_trans HSZ.out hgr.size)
          replace B := Lib.hid (B.out.grown hgr B.out.size (fun g9 h9 => by injection h9 with h9; have := Hgb.out; omega))
          rw [← hWn]
          clear hWn hgr z0 f0 z1 f1 z2 f2 z3 f3 z4 f4 z5 f5
          refine hK.out _ _ ?_ (fun hHeld => ?_)
          · (try dsimp only)
            exact ⟨BP.out.cell rfl, BP.out.cell rfl, BP.out.cell rfl, BP.out.cell rfl, BP.out.cell rfl, BP.out.cell rfl⟩
          clear hK K
          (try simp only [Act.put, List.setIfInBounds_toArray, List.set_cons_zero, List.set_cons_succ])
          refine wpAnyH_done (by kernel_rfl) ?_ _
          clear hHeld
          (try go_wp2_with fail)
          go_meet
          exact ⟨gb, gn, A', n', c', rfl, OH.out.lower hB02, ON.out.lower hB02, HAP.out, HNE1.out, HNG.out, Nat.le_trans hB02 Hgb.out, BB.out, BP.out, BR.out, HSZ.out, B.out⟩
        · go_simp
          obtain ⟨wz, hWn⟩ : ∃ W5, W5 = wy.alloc (.cells #[.int .i64 0, .int .i64 0, .slice none 0 0, .int .i64 0, .int .i64 0, .slice none 0 0] 34) := ⟨_, rfl⟩
          have hb : Below wy.heap.size wy wz := by rw [hWn]; exact below_new (Below.refl _ _) _
          obtain ⟨gb, hgp⟩ : ∃ gp, gp = wy.heap.size := ⟨_, rfl⟩
          have BB := Lib.hid (show Bx wz gb #[.int .i64 0, .int .i64 0, .slice none 0 0, .int .i64 0, .int .i64 0, .slice none 0 0] 34 by rw [hWn, hgp]; exact Bx.new _ _ _)
          have Hgb := Lib.hid (show B0 ≤ gb by rw [hgp]; exact HB0.out)
          replace HB0 := Lib.hid (Nat.le_trans HB0.out hb.size)
          have HNE1 := Lib.hid (show ∀ y, A' = some y → y.block ≠ gb from fun y hy => by have := (OH.out.span y hy).2; omega)
          rw [← hWn]
          (try rw [← hgp])
          clear hWn hgp
          replace BP := Lib.hid (BP.out.keep hb)
          replace BR := Lib.hid (BR.out.keep hb)
          replace OH := Lib.hid (OH.out.keep hb)
          replace HSZ := Lib.hid (Nat.le_trans HSZ.out hb.size)
          replace B := Lib.hid (below_next B.out hb)
          clear hb
          refine hK.out _ _ ?_ (fun hHeld => ?_)
          · (try dsimp only)
            exact ⟨BP.out.cell rfl, BP.out.cell rfl, BP.out.cell rfl, BP.out.cell rfl, BP.out.cell rfl, BP.out.cell rfl⟩
          clear hK K
          (try simp only [Act.put, List.setIfInBounds_toArray, List.set_cons_zero, List.set_cons_succ])
          refine wpAnyH_ready (rs := [8]) (by kernel_rfl) (by simp) ?_
          refine AllReadyH.cons (o := ⟨_, _, _, _, _, _⟩) rfl (fun K hK => ?_) AllReadyH.nil
          (refine step_makeI rfl (.tmp 18) (.tmp 18) 22 3 rfl i0 Try.underlying22 HI.out HZ0.out HZ1.out HZ2.out n2 rfl rfl (by omega) ?_; intro w8 own8 hb)
          (repeat (first | replace hb := below_undrew hb | replace hb := below_undrewN hb))
          obtain ⟨gn, hgn⟩ : ∃ g, g = wz.heap.size := ⟨_, rfl⟩
          have own9 : OwnI 3 w8 gn (some ⟨gn, 0, none⟩) n2 n2 (List.replicate n2 0) := by rw [hgn]; exact own8
          have ON := Lib.hid (own9.lower (show B0 ≤ gn by rw [hgn]; exact HB0.out))
          have HNG := Lib.hid (show gn ≠ gb by have h9 := BB.out.lt; omega)
          have HAP := Lib.hid (show Apart A' (some ⟨gn, 0, none⟩) from fun y z hy hz => by injection hz with hz; have h8 := (OH.out.span y hy).2; rw [← hz]; dsimp only; omega)
          replace HB0 := Lib.hid (Nat.le_trans HB0.out hb.size)
          (try rw [show wz.drew.heap.size = gn from hgn.symm])
          (try rw [← hgn])
          clear own8 own9 hgn
          replace BP := Lib.hid (BP.out.keep hb)
          replace BR := Lib.hid (BR.out.keep hb)
          replace OH := Lib.hid (OH.out.keep hb)
          replace BB := Lib.hid (BB.out.keep hb)
          replace HSZ := Lib.hid (Nat.le_trans HSZ.out hb.size)
          replace B := Lib.hid (below_next B.out hb)
          clear hb
          refine hK.out _ _ ?_ (fun hHeld => ?_)
          · (try dsimp only)
            exact ⟨BP.out.cell rfl, BP.out.cell rfl, BP.out.cell rfl, BP.out.cell rfl, BP.out.cell rfl, BP.out.cell rfl⟩
          clear hK K
          (try simp only [Act.put, List.setIfInBounds_toArray, List.set_cons_zero, List.set_cons_succ])
          refine wpAnyH_take (i := 9) (oi := ⟨_, _, _, _, _, _⟩) (v := ?_) rfl (by kernel_rfl) (by kernel_rfl) (by kernel_rfl) (fun _ _ _ h => h) (Or.inl ⟨by rfl, ?_⟩) (by assumption) ?_
          rotate_left
          · intro w hSw
            (try dsimp only at hSw)
            go_simp
            (try with_reducible rfl)
          (try simp only [Act.put, List.setIfInBounds_toArray, List.set_cons_zero, List.set_cons_succ])
          refine wpAnyH_ready (rs := [11]) (by kernel_rfl) (by simp) ?_
          refine AllReadyH.cons (o := ⟨_, _, _, _, _, _⟩) rfl (fun K hK => ?_) AllReadyH.nil
          have z0 : w8.cell? ⟨gb, 0, none⟩ = some (.int .i64 0) := BB.out.cell rfl
          have z1 : w8.cell? ⟨gb, 1, none⟩ = some (.int .i64 0) := BB.out.cell rfl
          have z2 : w8.cell? ⟨gb, 2, none⟩ = some (.slice none 0 0) := BB.out.cell rfl
          have z3 : w8.cell? ⟨gb, 3, none⟩ = some (.int .i64 0) := BB.out.cell rfl
          have z4 : w8.cell? ⟨gb, 4, none⟩ = some (.int .i64 0) := BB.out.cell rfl
          have z5 : w8.cell? ⟨gb, 5, none⟩ = some (.slice none 0 0) := BB.out.cell rfl
          have f0 : w8.frozen? ⟨gb, 0, none⟩ = false := BB.out.frozen 0
          have f1 : w8.frozen? ⟨gb, 1, none⟩ = false := BB.out.frozen 1
          have f2 : w8.frozen? ⟨gb, 2, none⟩ = false := BB.out.frozen 2
          have f3 : w8.frozen? ⟨gb, 3, none⟩ = false := BB.out.frozen 3
          have f4 : w8.frozen? ⟨gb, 4, none⟩ = false := BB.out.frozen 4
          have f5 : w8.frozen? ⟨gb, 5, none⟩ = false := BB.out.frozen 5
          go_simp
          obtain ⟨wq, hWn⟩ : ∃ W5, W5 = (((((w8.setCell ⟨gb, 0, none⟩ (.int .i64 W)).setCell ⟨gb, 1, none⟩ (.int .i64 H)).setCell ⟨gb, 2, none⟩ (.slice A' n' c')).setCell ⟨gb, 3, none⟩ (.int .i64 a)).setCell ⟨gb, 4, none⟩ (.int .i64 b)).setCell ⟨gb, 5, none⟩ (.slice (some ⟨gn, 0, none⟩) n2 n2) := ⟨_, rfl⟩
          have hgr : w8.grownBy wq (some (gb)) := by rw [hWn]; exact (grown_next (grown_next (grown_next (grown_next (grown_next (grownSet1 w8 ⟨gb, 0, none⟩ (.int .i64 W)) (grownSet1 _ ⟨gb, 1, none⟩ (.int .i64 H))) (grownSet1 _ ⟨gb, 2, none⟩ (.slice A' n' c'))) (grownSet1 _ ⟨gb, 3, none⟩ (.int .i64 a))) (grownSet1 _ ⟨gb, 4, none⟩ (.int .i64 b))) (grownSet1 _ ⟨gb, 5, none⟩ (.slice (some ⟨gn, 0, none⟩) n2 n2)))
          replace BB := Lib.hid (show Bx wq (gb) #[.int .i64 W, .int .i64 H, .slice A' n' c', .int .i64 a, .int .i64 b, .slice (some ⟨gn, 0, none⟩) n2 n2] 34 by rw [hWn]; exact ((((((BB.out.set 0 (.int .i64 W)).set 1 (.int .i64 H)).set 2 (.slice A' n' c')).set 3 (.int .i64 a)).set 4 (.int .i64 b)).set 5 (.slice (some ⟨gn, 0, none⟩) n2 n2)))
          replace BP := Lib.hid (BP.out.grown hgr (by have := Hgb.out; simp; omega))
          replace BR := Lib.hid (BR.out.grown hgr (by have := Hgb.out; simp; omega))
          replace ON := Lib.hid (ON.out.other hgr (fun a9 ha9 he => by injection he with he; injection ha9 with ha9; rw [← ha9] at he; exact HNG.out he))
          replace OH := Lib.hid (OH.out.other hgr (fun a9 ha9 he => by injection he with he; exact HNE1.out a9 ha9 he))
          replace HSZ := Lib.hid (Nat.le_trans HSZ.out hgr.size)
          replace B := Lib.hid (B.out.grown hgr B.out.size (fun g9 h9 => by injection h9 with h9; have := Hgb.out; omega))
          rw [← hWn]
          clear hWn hgr z0 f0 z1 f1 z2 f2 z3 f3 z4 f4 z5 f5
          refine hK.out _ _ ?_ (fun hHeld => ?_)
          · (try dsimp only)
            exact ⟨BP.out.cell rfl, BP.out.cell rfl, BP.out.cell rfl, BP.out.cell rfl, BP.out.cell rfl, BP.out.cell rfl⟩
          clear hK K
          (try simp only [Act.put, List.setIfInBounds_toArray, List.set_cons_zero, List.set_cons_succ])
          refine wpAnyH_done (by kernel_rfl) ?_ _
          clear hHeld
          (try go_wp2_with fail)
          go_meet
          exact ⟨gb, gn, A', n', c', rfl, OH.out.lower hB02, ON.out.lower hB02, HAP.out, HNE1.out, HNG.out, Nat.le_trans hB02 Hgb.out, BB.out, BP.out, BR.out, HSZ.out, B.out⟩
      · (refine step_makeI rfl (.tmp 18) (.tmp 18) 22 3 rfl i0 Try.underlying22 HI.out HZ0.out HZ1.out HZ2.out n2 rfl rfl (by omega) ?_; intro w8 own8 hb)
        (repeat (first | replace hb := below_undrew hb | replace hb := below_undrewN hb))
        obtain ⟨gn, hgn⟩ : ∃ g, g = wv.heap.size := ⟨_, rfl⟩
        have own9 : OwnI 3 w8 gn (some ⟨gn, 0, none⟩) n2 n2 (List.replicate n2 0) := by rw [hgn]; exact own8
        have ON := Lib.hid (own9.lower (show B0 ≤ gn by rw [hgn]; exact HB0.out))
        replace HB0 := Lib.hid (Nat.le_trans HB0.out hb.size)
        (try rw [show wv.drew.heap.size = gn from hgn.symm])
        (try rw [← hgn])
        clear own8 own9 hgn
        replace BP := Lib.hid (BP.out.keep hb)
        replace BR := Lib.hid (BR.out.keep hb)
        replace HSZ := Lib.hid (Nat.le_trans HSZ.out hb.size)
        replace B := Lib.hid (below_next B.out hb)
        clear hb
        refine hK.out _ _ ?_ (fun hHeld => ?_)
        · (try dsimp only)
          exact ⟨BP.out.cell rfl, BP.out.cell rfl, BP.out.cell rfl, BP.out.cell rfl, BP.out.cell rfl, BP.out.cell rfl⟩
        clear hK K
        (try simp only [Act.put, List.setIfInBounds_toArray, List.set_cons_zero, List.set_cons_succ])
        refine wpAnyH_ready (rs := [2, 10]) (by kernel_rfl) (by simp) ?_
        refine AllReadyH.cons (o := ⟨_, _, _, _, _, _⟩) rfl (fun K hK => ?_) (AllReadyH.cons (o := ⟨_, _, _, _, _, _⟩) rfl (fun K hK => ?_) AllReadyH.nil)
        · go_simp
          (go_at_call 59; refine (boMirrored_any W H A n c xs _ (by exact (RA0.out.keep B.out).drew1) HGB.out).mono ?_; rintro e wy ⟨A', n', c', rfl, own, hb⟩; (repeat (first | replace hb := below_undrew hb | replace hb := below_undrewN hb)); have OH := Lib.hid (own.lower (show B0 ≤ w8.heap.size from HB0.out)); have HAP := Lib.hid (show Apart A' (some ⟨gn, 0, none⟩) from fun y z hy hz => by injection hz with hz; have h8 : w8.heap.size ≤ y.block := (own.span y hy).1; have h9 : gn < w8.heap.size := (ON.out.span _ rfl).2; rw [← hz]; dsimp only; omega); replace HB0 := Lib.hid (Nat.le_trans HB0.out hb.size); clear own; replace BP := Lib.hid (BP.out.keep hb); replace BR := Lib.hid (BR.out.keep hb); replace ON := Lib.hid (ON.out.keep hb); replace HSZ := Lib.hid (Nat.le_trans HSZ.out hb.size); replace B := Lib.hid (below_next B.out hb); clear hb)
          (try go_wp2_with fail)
          refine hK.out _ _ ?_ (fun hHeld => ?_)
          · (try dsimp only)
            exact ⟨BP.out.cell rfl, BP.out.cell rfl, BP.out.cell rfl, BP.out.cell rfl, BP.out.cell rfl, BP.out.cell rfl⟩
          clear hK K
          (try simp only [Act.put, List.setIfInBounds_toArray, List.set_cons_zero, List.set_cons_succ])
          refine wpAnyH_take (i := 9) (oi := ⟨_, _, _, _, _, _⟩) (v := ?_) rfl (by kernel_rfl) (by kernel_rfl) (by kernel_rfl) (fun _ _ _ h => h) (Or.inl ⟨by rfl, ?_⟩) (by assumption) ?_
          rotate_left
          · intro w hSw
            (try dsimp only at hSw)
            go_simp
            (try with_reducible rfl)
          (try simp only [Act.put, List.setIfInBounds_toArray, List.set_cons_zero, List.set_cons_succ])
          refine wpAnyH_ready (rs := [10]) (by kernel_rfl) (by simp) ?_
          refine AllReadyH.cons (o := ⟨_, _, _, _, _, _⟩) rfl (fun K hK => ?_) AllReadyH.nil
          go_simp
          obtain ⟨wz, hWn⟩ : ∃ W5, W5 = wy.alloc (.cells #[.int .i64 0, .int .i64 0, .slice none 0 0, .int .i64 0, .int .i64 0, .slice none 0 0] 34) := ⟨_, rfl⟩
          have hb : Below wy.heap.size wy wz := by rw [hWn]; exact below_new (Below.refl _ _) _
          obtain ⟨gb, hgp⟩ : ∃ gp, gp = wy.heap.size := ⟨_, rfl⟩
          have BB := Lib.hid (show Bx wz gb #[.int .i64 0, .int .i64 0, .slice none 0 0, .int .i64 0, .int .i64 0, .slice none 0 0] 34 by rw [hWn, hgp]; exact Bx.new _ _ _)
          have Hgb := Lib.hid (show B0 ≤ gb by rw [hgp]; exact HB0.out)
          replace HB0 := Lib.hid (Nat.le_trans HB0.out hb.size)
          have HNE1 := Lib.hid (show ∀ y, A' = some y → y.block ≠ gb from fun y hy => by have := (OH.out.span y hy).2; omega)
          have HNG := Lib.hid (show gn ≠ gb by have h9 := (ON.out.span _ rfl).2; dsimp only at h9; omega)
          rw [← hWn]
          (try rw [← hgp])
          clear hWn hgp
          replace BP := Lib.hid (BP.out.keep hb)
          replace BR := Lib.hid (BR.out.keep hb)
          replace OH := Lib.hid (OH.out.keep hb)
          replace ON := Lib.hid (ON.out.keep hb)
          replace HSZ := Lib.hid (Nat.le_trans HSZ.out hb.size)
          replace B := Lib.hid (below_next B.out hb)
          clear hb
          refine hK.out _ _ ?_ (fun hHeld => ?_)
          · (try dsimp only)
            exact ⟨BP.out.cell rfl, BP.out.cell rfl, BP.out.cell rfl, BP.out.cell rfl, BP.out.cell rfl, BP.out.cell rfl⟩
          clear hK K
          (try simp only [Act.put, List.setIfInBounds_toArray, List.set_cons_zero, List.set_cons_succ])
          refine wpAnyH_ready (rs := [11]) (by kernel_rfl) (by simp) ?_
          refine AllReadyH.cons (o := ⟨_, _, _, _, _, _⟩) rfl (fun K hK => ?_) AllReadyH.nil
          have z0 : wz.cell? ⟨gb, 0, none⟩ = some (.int .i64 0) := BB.out.cell rfl
          have z1 : wz.cell? ⟨gb, 1, none⟩ = some (.int .i64 0) := BB.out.cell rfl
          have z2 : wz.cell? ⟨gb, 2, none⟩ = some (.slice none 0 0) := BB.out.cell rfl
          have z3 : wz.cell? ⟨gb, 3, none⟩ = some (.int .i64 0) := BB.out.cell rfl
          have z4 : wz.cell? ⟨gb, 4, none⟩ = some (.int .i64 0) := BB.out.cell rfl
          have z5 : wz.cell? ⟨gb, 5, none⟩ = some (.slice none 0 0) := BB.out.cell rfl
          have f0 : wz.frozen? ⟨gb, 0, none⟩ = false := BB.out.frozen 0
          have f1 : wz.frozen? ⟨gb, 1, none⟩ = false := BB.out.frozen 1
          have f2 : wz.frozen? ⟨gb, 2, none⟩ = false := BB.out.frozen 2
          have f3 : wz.frozen? ⟨gb, 3, none⟩ = false := BB.out.frozen 3
          have f4 : wz.frozen? ⟨gb, 4, none⟩ = false := BB.out.frozen 4
          have f5 : wz.frozen? ⟨gb, 5, none⟩ = false := BB.out.frozen 5
          go_simp
          obtain ⟨wq, hWn⟩ : ∃ W5, W5 = (((((wz.setCell ⟨gb, 0, none⟩ (.int .i64 W)).setCell ⟨gb, 1, none⟩ (.int .i64 H)).setCell ⟨gb, 2, none⟩ (.slice A' n' c')).setCell ⟨gb, 3, none⟩ (.int .i64 a)).setCell ⟨gb, 4, none⟩ (.int .i64 b)).setCell ⟨gb, 5, none⟩ (.slice (some ⟨gn, 0, none⟩) n2 n2) := ⟨_, rfl⟩
          have hgr : wz.grownBy wq (some (gb)) := by rw [hWn]; exact (grown_next (grown_next (grown_next (grown_next (grown_next (grownSet1 wz ⟨gb, 0, none⟩ (.int .i64 W)) (grownSet1 _ ⟨gb, 1, none⟩ (.int .i64 H))) (grownSet1 _ ⟨gb, 2, none⟩ (.slice A' n' c'))) (grownSet1 _ ⟨gb, 3, none⟩ (.int .i64 a))) (grownSet1 _ ⟨gb, 4, none⟩ (.int .i64 b))) (grownSet1 _ ⟨gb, 5, none⟩ (.slice (some ⟨gn, 0, none⟩) n2 n2)))
          replace BB := Lib.hid (show Bx wq (gb) #[.int .i64 W, .int .i64 H, .slice A' n' c', .int .i64 a, .int .i64 b, .slice (some ⟨gn, 0, none⟩) n2 n2] 34 by rw [hWn]; exact ((((((BB.out.set 0 (.int .i64 W)).set 1 (.int .i64 H)).set 2 (.slice A' n' c')).set 3 (.int .i64 a)).set 4 (.int .i64 b)).set 5 (.slice (some ⟨gn, 0, none⟩) n2 n2)))
          replace BP := Lib.hid (BP.out.grown hgr (by have := Hgb.out; simp; omega))
          replace BR := Lib.hid (BR.out.grown hgr (by have := Hgb.out; simp; omega))
          replace ON := Lib.hid (ON.out.other hgr (fun a9 ha9 he => by injection he with he; injection ha9 with ha9; rw [← ha9] at he; exact HNG.out he))
          replace OH := Lib.hid (OH.out.other hgr (fun a9 ha9 he => by injection he with he; exact HNE1.out a9 ha9 he))
          replace HSZ := Lib.hid (Nat.le_trans HSZ.out hgr.size)
          replace B := Lib.hid (B.out.grown hgr B.out.size (fun g9 h9 => by injection h9 with h9; have := Hgb.out; omega))
          rw [← hWn]
          clear hWn hgr z0 f0 z1 f1 z2 f2 z3 f3 z4 f4 z5 f5
          refine hK.out _ _ ?_ (fun hHeld => ?_)
          · (try dsimp only)
            exact ⟨BP.out.cell rfl, BP.out.cell rfl, BP.out.cell rfl, BP.out.cell rfl, BP.out.cell rfl, BP.out.cell rfl⟩
          clear hK K
          (try simp only [Act.put, List.setIfInBounds_toArray, List.set_cons_zero, List.set_cons_succ])
          refine wpAnyH_done (by kernel_rfl) ?_ _
          clear hHeld
          (try go_wp2_with fail)
          go_meet
          exact ⟨gb, gn, A', n', c', rfl, OH.out.lower hB02, ON.out.lower hB02, HAP.out, HNE1.out, HNG.out, Nat.le_trans hB02 Hgb.out, BB.out, BP.out, BR.out, HSZ.out, B.out⟩
        · go_simp
          obtain ⟨wz, hWn⟩ : ∃ W5, W5 = w8.alloc (.cells #[.int .i64 0, .int .i64 0, .slice none 0 0, .int .i64 0, .int .i64 0, .slice none 0 0] 34) := ⟨_, rfl⟩
          have hb : Below w8.heap.size w8 wz := by rw [hWn]; exact below_new (Below.refl _ _) _
          obtain ⟨gb, hgp⟩ : ∃ gp, gp = w8.heap.size := ⟨_, rfl⟩
          have BB := Lib.hid (show Bx wz gb #[.int .i64 0, .int .i64 0, .slice none 0 0, .int .i64 0, .int .i64 0, .slice none 0 0] 34 by rw [hWn, hgp]; exact Bx.new _ _ _)
          have Hgb := Lib.hid (show B0 ≤ gb by rw [hgp]; exact HB0.out)
          replace HB0 := Lib.hid (Nat.le_trans HB0.out hb.size)
          have HNG := Lib.hid (show gn ≠ gb by have h9 := (ON.out.span _ rfl).2; dsimp only at h9; omega)
          rw [← hWn]
          (try rw [← hgp])
          clear hWn hgp
          replace BP := Lib.hid (BP.out.keep hb)
          replace BR := Lib.hid (BR.out.keep hb)
          replace ON := Lib.hid (ON.out.keep hb)
          replace HSZ := Lib.hid (Nat.le_trans HSZ.out hb.size)
          replace B := Lib.hid (below_next B.out hb)
          clear hb
          refine hK.out _ _ ?_ (fun hHeld => ?_)
          · (try dsimp only)
            exact ⟨BP.out.cell rfl, BP.out.cell rfl, BP.out.cell rfl, BP.out.cell rfl, BP.out.cell rfl, BP.out.cell rfl⟩
          clear hK K
          (try simp only [Act.put, List.setIfInBounds_toArray, List.set_cons_zero, List.set_cons_succ])
          refine wpAnyH_ready (rs := [2]) (by kernel_rfl) (by simp) ?_
          refine AllReadyH.cons (o := ⟨_, _, _, _, _, _⟩) rfl (fun K hK => ?_) AllReadyH.nil
          go_simp
          (go_at_call 59; refine (boMirrored_any W H A n c xs _ (by exact (RA0.out.keep B.out).drew1) HGB.out).mono ?_; rintro e wy ⟨A', n', c', rfl, own, hb⟩; (repeat (first | replace hb := below_undrew hb | replace hb := below_undrewN hb)); have OH := Lib.hid (own.lower (show B0 ≤ wz.heap.size from HB0.out)); have HNE1 := Lib.hid (show ∀ y, A' = some y → y.block ≠ gb from fun y hy => by have h8 : wz.heap.size ≤ y.block := (own.span y hy).1; have h9 := BB.out.lt; omega); have HAP := Lib.hid (show Apart A' (some ⟨gn, 0, none⟩) from fun y z hy hz => by injection hz with hz; have h8 : wz.heap.size ≤ y.block := (own.span y hy).1; have h9 : gn < wz.heap.size := (ON.out.span _ rfl).2; rw [← hz]; dsimp only; omega); replace HB0 := Lib.hid (Nat.le_trans HB0.out hb.size); clear own; replace BP := Lib.hid (BP.out.keep hb); replace BR := Lib.hid (BR.out.keep hb); replace ON := Lib.hid (ON.out.keep hb); replace BB := Lib.hid (BB.out.keep hb); replace HSZ := Lib.hid (Nat.le_trans HSZ.out hb.size); replace B := Lib.hid (below_next B.out hb); clear hb)
          (try go_wp2_with fail)
          refine hK.out _ _ ?_ (fun hHeld => ?_)
          · (try dsimp only)
            exact ⟨BP.out.cell rfl, BP.out.cell rfl, BP.out.cell rfl, BP.out.cell rfl, BP.out.cell rfl, BP.out.cell rfl⟩
          clear hK K
          (try simp only [Act.put, List.setIfInBounds_toArray, List.set_cons_zero, List.set_cons_succ])
          refine wpAnyH_take (i := 9) (oi := ⟨_, _, _, _, _, _⟩) (v := ?_) rfl (by kernel_rfl) (by kernel_rfl) (by kernel_rfl) (fun _ _ _ h => h) (Or.inl ⟨by rfl, ?_⟩) (by assumption) ?_
          rotate_left
          · intro w hSw
            (try dsimp only at hSw)
            go_simp
            (try with_reducible rfl)
          (try simp only [Act.put, List.setIfInBounds_toArray, List.set_cons_zero, List.set_cons_succ])
          refine wpAnyH_ready (rs := [11]) (by kernel_rfl) (by simp) ?_
          refine AllReadyH.cons (o := ⟨_, _, _, _, _, _⟩) rfl (fun K hK => ?_) AllReadyH.nil
          have z0 : wy.cell? ⟨gb, 0, none⟩ = some (.int .i64 0) := BB.out.cell rfl
          have z1 : wy.cell? ⟨gb, 1, none⟩ = some (.int .i64 0) := BB.out.cell rfl
          have z2 : wy.cell? ⟨gb, 2, none⟩ = some (.slice none 0 0) := BB.out.cell rfl
          have z3 : wy.cell? ⟨gb, 3, none⟩ = some (.int .i64 0) := BB.out.cell rfl
          have z4 : wy.cell? ⟨gb, 4, none⟩ = some (.int .i64 0) := BB.out.cell rfl
          have z5 : wy.cell? ⟨gb, 5, none⟩ = some (.slice none 0 0) := BB.out.cell rfl
          have f0 : wy.frozen? ⟨gb, 0, none⟩ = false := BB.out.frozen 0
          have f1 : wy.frozen? ⟨gb, 1, none⟩ = false := BB.out.frozen 1
          have f2 : wy.frozen? ⟨gb, 2, none⟩ = false := BB.out.frozen 2
          have f3 : wy.frozen? ⟨gb, 3, none⟩ = false := BB.out.frozen 3
          have f4 : wy.frozen? ⟨gb, 4, none⟩ = false := BB.out.frozen 4
          have f5 : wy.frozen? ⟨gb, 5, none⟩ = false := BB.out.frozen 5
          go_simp
          obtain ⟨wq, hWn⟩ : ∃ W5, W5 = (((((wy.setCell ⟨gb, 0, none⟩ (.int .i64 W)).setCell ⟨gb, 1, none⟩ (.int .i64 H)).setCell ⟨gb, 2, none⟩ (.slice A' n' c')).setCell ⟨gb, 3, none⟩ (.int .i64 a)).setCell ⟨gb, 4, none⟩ (.int .i64 b)).setCell ⟨gb, 5, none⟩ (.slice (some ⟨gn, 0, none⟩) n2 n2) := ⟨_, rfl⟩
          have hgr : wy.grownBy wq (some (gb)) := by rw [hWn]; exact (grown_next (grown_next (grown_next (grown_next (grown_next (grownSet1 wy ⟨gb, 0, none⟩ (.int .i64 W)) (grownSet1 _ ⟨gb, 1, none⟩ (.int .i64 H))) (grownSet1 _ ⟨gb, 2, none⟩ (.slice A' n' c'))) (grownSet1 _ ⟨gb, 3, none⟩ (.int .i64 a))) (grownSet1 _ ⟨gb, 4, none⟩ (.int .i64 b))) (grownSet1 _ ⟨gb, 5, none⟩ (.slice (some ⟨gn, 0, none⟩) n2 n2)))
          replace BB := Lib.hid (show Bx wq (gb) #[.int .i64 W, .int .i64 H, .slice A' n' c', .int .i64 a, .int .i64 b, .slice (some ⟨gn, 0, none⟩) n2 n2] 34 by rw [hWn]; exact ((((((BB.out.set 0 (.int .i64 W)).set 1 (.int .i64 H)).set 2 (.slice A' n' c')).set 3 (.int .i64 a)).set 4 (.int .i64 b)).set 5 (.slice (some ⟨gn, 0, none⟩) n2 n2)))
          replace BP := Lib.hid (BP.out.grown hgr (by have := Hgb.out; simp; omega))
          replace BR := Lib.hid (BR.out.grown hgr (by have := Hgb.out; simp; omega))
          replace ON := Lib.hid (ON.out.other hgr (fun a9 ha9 he => by injection he with he; injection ha9 with ha9; rw [← ha9] at he; exact HNG.out he))
          replace OH := Lib.hid (OH.out.other hgr (fun a9 ha9 he => by injection he with he; exact HNE1.out a9 ha9 he))
          replace HSZ := Lib.hid (Nat.le_trans HSZ.out hgr.size)
          replace B := Lib.hid (B.out.grown hgr B.out.size (fun g9 h9 => by injection h9 with h9; have := Hgb.out; omega))
          rw [← hWn]
          clear hWn hgr z0 f0 z1 f1 z2 f2 z3 f3 z4 f4 z5 f5
          refine hK.out _ _ ?_ (fun hHeld => ?_)
          · (try dsimp only)
            exact ⟨BP.out.cell rfl, BP.out.cell rfl, BP.out.cell rfl, BP.out.cell rfl, BP.out.cell rfl, BP.out.cell rfl⟩
          clear hK K
          (try simp only [Act.put, List.setIfInBounds_toArray, List.set_cons_zero, List.set_cons_succ])
          refine wpAnyH_done (by kernel_rfl) ?_ _
          clear hHeld
          (try go_wp2_with fail)
          go_meet
          exact ⟨gb, gn, A', n', c', rfl, OH.out.lower hB02, ON.out.lower hB02, HAP.out, HNE1.out, HNG.out, Nat.le_trans hB02 Hgb.out, BB.out, BP.out, BR.out, HSZ.out, B.out⟩
      · go_simp
        obtain ⟨wz, hWn⟩ : ∃ W5, W5 = wv.alloc (.cells #[.int .i64 0, .int .i64 0, .slice none 0 0, .int .i64 0, .int .i64 0, .slice none 0 0] 34) := ⟨_, rfl⟩
        have hb : Below wv.heap.size wv wz := by rw [hWn]; exact below_new (Below.refl _ _) _
        obtain ⟨gb, hgp⟩ : ∃ gp, gp = wv.heap.size := ⟨_, rfl⟩
        have BB := Lib.hid (show Bx wz gb #[.int .i64 0, .int .i64 0, .slice none 0 0, .int .i64 0, .int .i64 0, .slice none 0 0] 34 by rw [hWn, hgp]; exact Bx.new _ _ _)
        have Hgb := Lib.hid (show B0 ≤ gb by rw [hgp]; exact HB0.out)
        replace HB0 := Lib.hid (Nat.le_trans HB0.out hb.size)
        rw [← hWn]
        (try rw [← hgp])
        clear hWn hgp
        replace BP := Lib.hid (BP.out.keep hb)
        replace BR := Lib.hid (BR.out.keep hb)
        replace HSZ := Lib.hid (Nat.le_trans HSZ.out hb.size)
        replace B := Lib.hid (below_next B.out hb)
        clear hb
        refine hK.out _ _ ?_ (fun hHeld => ?_)
        · (try dsimp only)
          exact ⟨BP.out.cell rfl, BP.out.cell rfl, BP.out.cell rfl, BP.out.cell rfl, BP.out.cell rfl, BP.out.cell rfl⟩
        clear hK K
        (try simp only [Act.put, List.setIfInBounds_toArray, List.set_cons_zero, List.set_cons_succ])
        refine wpAnyH_ready (rs := [2, 8]) (by kernel_rfl) (by simp) ?_
        refine AllReadyH.cons (o := ⟨_, _, _, _, _, _⟩) rfl (fun K hK => ?_) (AllReadyH.cons (o := ⟨_, _, _, _, _, _⟩) rfl (fun K hK => ?_) AllReadyH.nil)
        · go_simp
          (go_at_call 59; refine (boMirrored_any W H A n c xs _ (by exact (RA0.out.keep B.out).drew1) HGB.out).mono ?_; rintro e wy ⟨A', n', c', rfl, own, hb⟩; (repeat (first | replace hb := below_undrew hb | replace hb := below_undrewN hb)); have OH := Lib.hid (own.lower (show B0 ≤ wz.heap.size from HB0.out)); have HNE1 := Lib.hid (show ∀ y, A' = some y → y.block ≠ gb from fun y hy => by have h8 : wz.heap.size ≤ y.block := (own.span y hy).1; have h9 := BB.out.lt; omega); replace HB0 := Lib.hid (Nat.le_trans HB0.out hb.size); clear own; replace BP := Lib.hid (BP.out.keep hb); replace BR := Lib.hid (BR.out.keep hb); replace BB := Lib.hid (BB.out.keep hb); replace HSZ := Lib.hid (Nat.le_trans HSZ.out hb.size); replace B := Lib.hid (below_next B.out hb); clear hb)
          (try go_wp2_with fail)
          refine hK.out _ _ ?_ (fun hHeld => ?_)
          · (try dsimp only)
            exact ⟨BP.out.cell rfl, BP.out.cell rfl, BP.out.cell rfl, BP.out.cell rfl, BP.out.cell rfl, BP.out.cell rfl⟩
          clear hK K
          (try simp only [Act.put, List.setIfInBounds_toArray, List.set_cons_zero, List.set_cons_succ])
          refine wpAnyH_ready (rs := [8]) (by kernel_rfl) (by simp) ?_
          refine AllReadyH.cons (o := ⟨_, _, _, _, _, _⟩) rfl (fun K hK => ?_) AllReadyH.nil
          (refine step_makeI rfl (.tmp 18) (.tmp 18) 22 3 rfl i0 Try.underlying22 HI.out HZ0.out HZ1.out HZ2.out n2 rfl rfl (by omega) ?_; intro w8 own8 hb)
          (repeat (first | replace hb := below_undrew hb | replace hb := below_undrewN hb))
          obtain ⟨gn, hgn⟩ : ∃ g, g = wy.heap.size := ⟨_, rfl⟩
          have own9 : OwnI 3 w8 gn (some ⟨gn, 0, none⟩) n2 n2 (List.replicate n2 0) := by rw [hgn]; exact own8
          have ON := Lib.hid (own9.lower (show B0 ≤ gn by rw [hgn]; exact HB0.out))
          have HNG := Lib.hid (show gn ≠ gb by have h9 := BB.out.lt; omega)
          have HAP := Lib.hid (show Apart A' (some ⟨gn, 0, none⟩) from fun y z hy hz => by injection hz with hz; have h8 := (OH.out.span y hy).2; rw [← hz]; dsimp only; omega)
          replace HB0 := Lib.hid (Nat.le_trans HB0.out hb.size)
          (try rw [show wy.drew.heap.size = gn from hgn.symm])
          (try rw [← hgn])
          clear own8 own9 hgn
          replace BP := Lib.hid (BP.out.keep hb)
          replace BR := Lib.hid (BR.out.keep hb)
          replace OH := Lib.hid (OH.out.keep hb)
          replace BB := Lib.hid (BB.out.keep hb)
          replace HSZ := Lib.hid (Nat.le_trans HSZ.out hb.size)
          replace B := Lib.hid (below_next B.out hb)
          clear hb
          refine hK.out _ _ ?_ (fun hHeld => ?_)
          · (try dsimp only)
            exact ⟨BP.out.cell rfl, BP.out.cell rfl, BP.out.cell rfl, BP.out.cell rfl, BP.out.cell rfl, BP.out.cell rfl⟩
          clear hK K
          (try simp only [Act.put, List.setIfInBounds_toArray, List.set_cons_zero, List.set_cons_succ])
          refine wpAnyH_take (i := 9) (oi := ⟨_, _, _, _, _, _⟩) (v := ?_) rfl (by kernel_rfl) (by kernel_rfl) (by kernel_rfl) (fun _ _ _ h => h) (Or.inl ⟨by rfl, ?_⟩) (by assumption) ?_
          rotate_left
          · intro w hSw
            (try dsimp only at hSw)
            go_simp
            (try with_reducible rfl)
          (try simp only [Act.put, List.setIfInBounds_toArray, List.set_cons_zero, List.set_cons_succ])
          refine wpAnyH_ready (rs := [11]) (by kernel_rfl) (by simp) ?_
          refine AllReadyH.cons (o := ⟨_, _, _, _, _, _⟩) rfl (fun K hK => ?_) AllReadyH.nil
          have z0 : w8.cell? ⟨gb, 0, none⟩ = some (.int .i64 0) := BB.out.cell rfl
          have z1 : w8.cell? ⟨gb, 1, none⟩ = some (.int .i64 0) := BB.out.cell rfl
          have z2 : w8.cell? ⟨gb, 2, none⟩ = some (.slice none 0 0) := BB.out.cell rfl
          have z3 : w8.cell? ⟨gb, 3, none⟩ = some (.int .i64 0) := BB.out.cell rfl
          have z4 : w8.cell? ⟨gb, 4, none⟩ = some (.int .i64 0) := BB.out.cell rfl
          have z5 : w8.cell? ⟨gb, 5, none⟩ = some (.slice none 0 0) := BB.out.cell rfl
          have f0 : w8.frozen? ⟨gb, 0, none⟩ = false := BB.out.frozen 0
          have f1 : w8.frozen? ⟨gb, 1, none⟩ = false := BB.out.frozen 1
          have f2 : w8.frozen? ⟨gb, 2, none⟩ = false := BB.out.frozen 2
          have f3 : w8.frozen? ⟨gb, 3, none⟩ = false := BB.out.frozen 3
          have f4 : w8.frozen? ⟨gb, 4, none⟩ = false := BB.out.frozen 4
          have f5 : w8.frozen? ⟨gb, 5, none⟩ = false := BB.out.frozen 5
          go_simp
          obtain ⟨wq, hWn⟩ : ∃ W5, W5 = (((((w8.setCell ⟨gb, 0, none⟩ (.int .i64 W)).setCell ⟨gb, 1, none⟩ (.int .i64 H)).setCell ⟨gb, 2, none⟩ (.slice A' n' c')).setCell ⟨gb, 3, none⟩ (.int .i64 a)).setCell ⟨gb, 4, none⟩ (.int .i64 b)).setCell ⟨gb, 5, none⟩ (.slice (some ⟨gn, 0, none⟩) n2 n2) := ⟨_, rfl⟩
          have hgr : w8.grownBy wq (some (gb)) := by rw [hWn]; exact (grown_next (grown_next (grown_next (grown_next (grown_next (grownSet1 w8 ⟨gb, 0, none⟩ (.int .i64 W)) (grownSet1 _ ⟨gb, 1, none⟩ (.int .i64 H))) (grownSet1 _ ⟨gb, 2, none⟩ (.slice A' n' c'))) (grownSet1 _ ⟨gb, 3, none⟩ (.int .i64 a))) (grownSet1 _ ⟨gb, 4, none⟩ (.int .i64 b))) (grownSet1 _ ⟨gb, 5, none⟩ (.slice (some ⟨gn, 0, none⟩) n2 n2)))
          replace BB := Lib.hid (show Bx wq (gb) #[.int .i64 W, .int .i64 H, .slice A' n' c', .int .i64 a, .int .i64 b, .slice (some ⟨gn, 0, none⟩) n2 n2] 34 by rw [hWn]; exact ((((((BB.out.set 0 (.int .i64 W)).set 1 (.int .i64 H)).set 2 (.slice A' n' c')).set 3 (.int .i64 a)).set 4 (.int .i64 b)).set 5 (.slice (some ⟨gn, 0, none⟩) n2 n2)))
          replace BP := Lib.hid (BP.out.grown hgr (by have := Hgb.out; simp; omega))
          replace BR := Lib.hid (BR.out.grown hgr (by have := Hgb.out; simp; omega))
          replace ON := Lib.hid (ON.out.other hgr (fun a9 ha9 he => by injection he with he; injection ha9 with ha9; rw [← ha9] at he; exact HNG.out he))
          replace OH := Lib.hid (OH.out.other hgr (fun a9 ha9 he => by injection he with he; exact HNE1.out a9 ha9 he))
          replace HSZ := Lib.hid (Nat.le_trans HSZ.out hgr.size)
          replace B := Lib.hid (B.out.grown hgr B.out.size (fun g9 h9 => by injection h9 with h9; have := Hgb.out; omega))
          rw [← hWn]
          clear hWn hgr z0 f0 z1 f1 z2 f2 z3 f3 z4 f4 z5 f5
          refine hK.out _ _ ?_ (fun hHeld => ?_)
          · (try dsimp only)
            exact ⟨BP.out.cell rfl, BP.out.cell rfl, BP.out.cell rfl, BP.out.cell rfl, BP.out.cell rfl, BP.out.cell rfl⟩
          clear hK K
          (try simp only [Act.put, List.setIfInBounds_toArray, List.set_cons_zero, List.set_cons_succ])
          refine wpAnyH_done (by kernel_rfl) ?_ _
          clear hHeld
          (try go_wp2_with fail)
          go_meet
          exact ⟨gb, gn, A', n', c', rfl, OH.out.lower hB02, ON.out.lower hB02, HAP.out, HNE1.out, HNG.out, Nat.le_trans hB02 Hgb.out, BB.out, BP.out, BR.out, HSZ.out, B.out⟩
        · (refine step_makeI rfl (.tmp 18) (.tmp 18) 22 3 rfl i0 Try.underlying22 HI.out HZ0.out HZ1.out HZ2.out n2 rfl rfl (by omega) ?_; intro w8 own8 hb)
          (repeat (first | replace hb := below_undrew hb | replace hb := below_undrewN hb))
          obtain ⟨gn, hgn⟩ : ∃ g, g = wz.heap.size := ⟨_, rfl⟩
          have own9 : OwnI 3 w8 gn (some ⟨gn, 0, none⟩) n2 n2 (List.replicate n2 0) := by rw [hgn]; exact own8
          have ON := Lib.hid (own9.lower (show B0 ≤ gn by rw [hgn]; exact HB0.out))
          have HNG := Lib.hid (show gn ≠ gb by have h9 := BB.out.lt; omega)
          replace HB0 := Lib.hid (Nat.le_trans HB0.out hb.size)
          (try rw [show wz.drew.heap.size = gn from hgn.symm])
          (try rw [← hgn])
          clear own8 own9 hgn
          replace BP := Lib.hid (BP.out.keep hb)
          replace BR := Lib.hid (BR.out.keep hb)
          replace BB := Lib.hid (BB.out.keep hb)
          replace HSZ := Lib.hid (Nat.le_trans HSZ.out hb.size)
          replace B := Lib.hid (below_next B.out hb)
          clear hb
          refine hK.out _ _ ?_ (fun hHeld => ?_)
          · (try dsimp only)
            exact ⟨BP.out.cell rfl, BP.out.cell rfl, BP.out.cell rfl, BP.out.cell rfl, BP.out.cell rfl, BP.out.cell rfl⟩
          clear hK K
          (try simp only [Act.put, List.setIfInBounds_toArray, List.set_cons_zero, List.set_cons_succ])
          refine wpAnyH_ready (rs := [2]) (by kernel_rfl) (by simp) ?_
          refine AllReadyH.cons (o := ⟨_, _, _, _, _, _⟩) rfl (fun K hK => ?_) AllReadyH.nil
          go_simp
          (go_at_call 59; refine (boMirrored_any W H A n c xs _ (by exact (RA0.out.keep B.out).drew1) HGB.out).mono ?_; rintro e wy ⟨A', n', c', rfl, own, hb⟩; (repeat (first | replace hb := below_undrew hb | replace hb := below_undrewN hb)); have OH := Lib.hid (own.lower (show B0 ≤ w8.heap.size from HB0.out)); have HNE1 := Lib.hid (show ∀ y, A' = some y → y.block ≠ gb from fun y hy => by have h8 : w8.heap.size ≤ y.block := (own.span y hy).1; have h9 := BB.out.lt; omega); have HAP := Lib.hid (show Apart A' (some ⟨gn, 0, none⟩) from fun y z hy hz => by injection hz with hz; have h8 : w8.heap.size ≤ y.block := (own.span y hy).1; have h9 : gn < w8.heap.size := (ON.out.span _ rfl).2; rw [← hz]; dsimp only; omega); replace HB0 := Lib.hid (Nat.le_trans HB0.out hb.size); clear own; replace BP := Lib.hid (BP.out.keep hb); replace BR := Lib.hid (BR.out.keep hb); replace ON := Lib.hid (ON.out.keep hb); replace BB := Lib.hid (BB.out.keep hb); replace HSZ := Lib.hid (Nat.le_trans HSZ.out hb.size); replace B := Lib.hid (below_next B.out hb); clear hb)
          (try go_wp2_with fail)
          refine hK.out _ _ ?_ (fun hHeld => ?_)
          · (try dsimp only)
            exact ⟨BP.out.cell rfl, BP.out.cell rfl, BP.out.cell rfl, BP.out.cell rfl, BP.out.cell rfl, BP.out.cell rfl⟩
          clear hK K
          (try simp only [Act.put, List.setIfInBounds_toArray, List.set_cons_zero, List.set_cons_succ])
          refine wpAnyH_take (i := 9) (oi := ⟨_, _, _, _, _, _⟩) (v := ?_) rfl (by kernel_rfl) (by kernel_rfl) (by kernel_rfl) (fun _ _ _ h => h) (Or.inl ⟨by rfl, ?_⟩) (by assumption) ?_
          rotate_left
          · intro w hSw
            (try dsimp only at hSw)
            go_simp
            (try with_reducible rfl)
          (try simp only [Act.put, List.setIfInBounds_toArray, List.set_cons_zero, List.set_cons_succ])
          refine wpAnyH_ready (rs := [11]) (by kernel_rfl) (by simp) ?_
          refine AllReadyH.cons (o := ⟨_, _, _, _, _, _⟩) rfl (fun K hK => ?_) AllReadyH.nil
          have z0 : wy.cell? ⟨gb, 0, none⟩ = some (.int .i64 0) := BB.out.cell rfl
          have z1 : wy.cell? ⟨gb, 1, none⟩ = some (.int .i64 0) := BB.out.cell rfl
          have z2 : wy.cell? ⟨gb, 2, none⟩ = some (.slice none 0 0) := BB.out.cell rfl
          have z3 : wy.cell? ⟨gb, 3, none⟩ = some (.int .i64 0) := BB.out.cell rfl
          have z4 : wy.cell? ⟨gb, 4, none⟩ = some (.int .i64 0) := BB.out.cell rfl
          have z5 : wy.cell? ⟨gb, 5, none⟩ = some (.slice none 0 0) := BB.out.cell rfl
          have f0 : wy.frozen? ⟨gb, 0, none⟩ = false := BB.out.frozen 0
          have f1 : wy.frozen? ⟨gb, 1, none⟩ = false := BB.out.frozen 1
          have f2 : wy.frozen? ⟨gb, 2, none⟩ = false := BB.out.frozen 2
          have f3 : wy.frozen? ⟨gb, 3, none⟩ = false := BB.out.frozen 3
          have f4 : wy.frozen? ⟨gb, 4, none⟩ = false := BB.out.frozen 4
          have f5 : wy.frozen? ⟨gb, 5, none⟩ = false := BB.out.frozen 5
          go_simp
          obtain ⟨wq, hWn⟩ : ∃ W5, W5 = (((((wy.setCell ⟨gb, 0, none⟩ (.int .i64 W)).setCell ⟨gb, 1, none⟩ (.int .i64 H)).setCell ⟨gb, 2, none⟩ (.slice A' n' c')).setCell ⟨gb, 3, none⟩ (.int .i64 a)).setCell ⟨gb, 4, none⟩ (.int .i64 b)).setCell ⟨gb, 5, none⟩ (.slice (some ⟨gn, 0, none⟩) n2 n2) := ⟨_, rfl⟩
          have hgr : wy.grownBy wq (some (gb)) := by rw [hWn]; exact (grown_next (grown_next (grown_next (grown_next (grown_next (grownSet1 wy ⟨gb, 0, none⟩ (.int .i64 W)) (grownSet1 _ ⟨gb, 1, none⟩ (.int .i64 H))) (grownSet1 _ ⟨gb, 2, none⟩ (.slice A' n' c'))) (grownSet1 _ ⟨gb, 3, none⟩ (.int .i64 a))) (grownSet1 _ ⟨gb, 4, none⟩ (.int .i64 b))) (grownSet1 _ ⟨gb, 5, none⟩ (.slice (some ⟨gn, 0, none⟩) n2 n2)))
          replace BB := Lib.hid (show Bx wq (gb) #[.int .i64 W, .int .i64 H, .slice A' n' c', .int .i64 a, .int .i64 b, .slice (some ⟨gn, 0, none⟩) n2 n2] 34 by rw [hWn]; exact ((((((BB.out.set 0 (.int .i64 W)).set 1 (.int .i64 H)).set 2 (.slice A' n' c')).set 3 (.int .i64 a)).set 4 (.int .i64 b)).set 5 (.slice (some ⟨gn, 0, none⟩) n2 n2)))
          replace BP := Lib.hid (BP.out.grown hgr (by have := Hgb.out; simp; omega))
          replace BR := Lib.hid (BR.out.grown hgr (by have := Hgb.out; simp; omega))
          replace ON := Lib.hid (ON.out.other hgr (fun a9 ha9 he => by injection he with he; injection ha9 with ha9; rw [← ha9] at he; exact HNG.out he))
          replace OH := Lib.hid (OH.out.other hgr (fun a9 ha9 he => by injection he with he; exact HNE1.out a9 ha9 he))
          replace HSZ := Lib.hid (Nat.le_trans HSZ.out hgr.size)
          replace B := Lib.hid (B.out.grown hgr B.out.size (fun g9 h9 => by injection h9 with h9; have := Hgb.out; omega))
          rw [← hWn]
          clear hWn hgr z0 f0 z1 f1 z2 f2 z3 f3 z4 f4 z5 f5
          refine hK.out _ _ ?_ (fun hHeld => ?_)
          · (try dsimp only)
            exact ⟨BP.out.cell rfl, BP.out.cell rfl, BP.out.cell rfl, BP.out.cell rfl, BP.out.cell rfl, BP.out.cell rfl⟩
          clear hK K
          (try simp only [Act.put, List.setIfInBounds_toArray, List.set_cons_zero, List.set_cons_succ])
          refine wpAnyH_done (by kernel_rfl) ?_ _
          clear hHeld
          (try go_wp2_with fail)
          go_meet
          exact ⟨gb, gn, A', n', c', rfl, OH.out.lower hB02, ON.out.lower hB02, HAP.out, HNE1.out, HNG.out, Nat.le_trans hB02 Hgb.out, BB.out, BP.out, BR.out, HSZ.out, B.out⟩
    case rest =>
      clear BP BR HSZ B
      obtain ⟨gb, gn, A', n', c', rfl, oh, own, hap, hne1, hng, hgb2, bb9, bp, br, hsz, hbw⟩ := hcut
      have OH := Lib.hid oh; have ON := Lib.hid own; have HAP := Lib.hid hap; have HNE1 := Lib.hid hne1; have HNG := Lib.hid hng; have HGB2 := Lib.hid hgb2; have BB := Lib.hid bb9; have BP := Lib.hid bp; have BR := Lib.hid br; have HSZ := Lib.hid hsz; have B := Lib.hid hbw
      clear oh own hap hne1 hng hgb2 bb9 bp br hsz hbw
      have p5 := BP.out.cell (j := 5) (v := .slice A2 n2 c2) rfl
      go_wp2
      clear p5
      go_loopw [24] (fun i wr => ∃ (k : Nat) (Lr : List Int), k ≤ n2 ∧ i = .int .i64 k ∧ OwnI 3 wr (w.heap.size + 1 + 1) (some ⟨gn, 0, none⟩) n2 n2 Lr ∧ MirrorPuzzle_ns W H xs a b ns = mirL W k (ns.drop k) Lr ∧ OwnI 3 wr (w.heap.size + 1 + 1) A' n' c' (MirrorPuzzle_xs W H xs a b ns) ∧ Bx wr gb #[.int .i64 W, .int .i64 H, .slice A' n' c', .int .i64 a, .int .i64 b, .slice (some ⟨gn, 0, none⟩) n2 n2] 34 ∧ Bx wr w.heap.size #[.int .i64 W, .int .i64 H, .slice A n c, .int .i64 a, .int .i64 b, .slice A2 n2 c2] 34 ∧ Bx wr (w.heap.size + 1) #[.int .i64 0, .int .i64 0, .slice none 0 0, .int .i64 0, .int .i64 0, .slice none 0 0] 34 ∧ w.heap.size + 1 + 1 ≤ wr.heap.size ∧ Below w.heap.size w wr) (fun i _ => n2 - (intOf i).toNat)
      case atStart => exact ⟨0, _, Nat.zero_le _, rfl, ON.out, by rw [MirrorPuzzle_ns, HL.out]; rfl, OH.out, BB.out, BP.out, BR.out, HSZ.out, B.out⟩
      case round =>
        clear ON OH BB BP BR HSZ B
        obtain ⟨k, Lr, hk, rfl, own, hf, oh, bb9, bp, br, hsz, hbw⟩ := hrel
        have OH := Lib.hid oh
        clear oh
        have ON := Lib.hid own; have HF := Lib.hid hf; have BB := Lib.hid bb9; have BP := Lib.hid bp; have BR := Lib.hid br; have HSZ := Lib.hid hsz; have B := Lib.hid hbw
        clear own hf bb9 bp br hsz hbw
        by_cases hlt : k < n2
        · obtain ⟨bb, oo, x, rfl, hgk, hx, x0⟩ := (RN0.out.keep B.out).at_ hlt
          have HX := Lib.hid hx
          clear hx
          have hkW : (0 : Int) ≤ (k : Int) ∧ (k : Int) < W * H := by have := HNW.out; have := HL.out; omega
          obtain ⟨jm, hjm, hjm2⟩ := mir_in HW.out hkW
          have HJ := Lib.hid hjm
          have hjn : jm < n2 := by have := HNW.out; have := HL.out; omega
          have hj0 : (0 : Int) ≤ (jm : Int) := by omega
          have hj2 : (jm : Int) < (n2 : Int) := by omega
          clear hjm hjm2
          obtain ⟨y9, hy9⟩ : ∃ y, Lr[jm]? = some y := ⟨_, List.getElem?_eq_getElem (show jm < Lr.length by have := ON.out.len; omega)⟩
          go_wp2_with fail
          refine wp_region_held_drew (S := fun w' => w'.cell? ⟨w.heap.size, 0, none⟩ = some (.int .i64 W) ∧ w'.cell? ⟨w.heap.size, 1, none⟩ = some (.int .i64 H) ∧ w'.cell? ⟨w.heap.size, 2, none⟩ = some (.slice A n c) ∧ w'.cell? ⟨gb, 5, none⟩ = some (.slice (some ⟨gn, 0, none⟩) n2 n2)) (by kernel_rfl) ?_ (fun hHeld => ?_)
          · (try dsimp only)
            exact ⟨BP.out.cell rfl, BP.out.cell rfl, BP.out.cell rfl, BB.out.cell rfl⟩
          refine wpAnyH_take (i := 0) (oi := ⟨_, _, _, _, _, _⟩) (v := ?_) rfl (by kernel_rfl) (by kernel_rfl) (by kernel_rfl) (fun _ _ _ h => h) (Or.inl ⟨by rfl, ?_⟩) (by assumption) ?_
          rotate_left
          · intro w hSw
            (try dsimp only at hSw)
            go_simp
            (try with_reducible rfl)
          (try simp only [Act.put, List.setIfInBounds_toArray, List.set_cons_zero, List.set_cons_succ])
          refine wpAnyH_take (i := 2) (oi := ⟨_, _, _, _, _, _⟩) (v := ?_) rfl (by kernel_rfl) (by kernel_rfl) (by kernel_rfl) (fun _ _ _ h => h) (Or.inl ⟨by rfl, ?_⟩) (by assumption) ?_
          rotate_left
          · intro w hSw
            (try dsimp only at hSw)
            go_simp
            (try with_reducible rfl)
          (try simp only [Act.put, List.setIfInBounds_toArray, List.set_cons_zero, List.set_cons_succ])
          refine wpAnyH_take (i := 4) (oi := ⟨_, _, _, _, _, _⟩) (v := ?_) rfl (by kernel_rfl) (by kernel_rfl) (by kernel_rfl) (fun _ _ _ h => h) (Or.inl ⟨by rfl, ?_⟩) (by assumption) ?_
          rotate_left
          · intro w hSw
            (try dsimp only at hSw)
            go_simp
            (try with_reducible rfl)
          (try simp only [Act.put, List.setIfInBounds_toArray, List.set_cons_zero, List.set_cons_succ])
          refine wpAnyH_take (i := 6) (oi := ⟨_, _, _, _, _, _⟩) (v := ?_) rfl (by kernel_rfl) (by kernel_rfl) (by kernel_rfl) (fun _ _ _ h => h) (Or.inl ⟨by rfl, ?_⟩) (by assumption) ?_
          rotate_left
          · intro w hSw
            (try dsimp only at hSw)
            go_simp
            (try with_reducible rfl)
          (try simp only [Act.put, List.setIfInBounds_toArray, List.set_cons_zero, List.set_cons_succ])
          refine wpAnyH_take (i := 1) (oi := ⟨_, _, _, _, _, _⟩) (v := ?_) rfl (by kernel_rfl) (by kernel_rfl) (by kernel_rfl) (fun _ _ _ h => h) (Or.inl ⟨by rfl, ?_⟩) (by assumption) ?_
          rotate_left
          · intro w hSw
            (try dsimp only at hSw)
            go_simp
            (try with_reducible rfl)
          (try simp only [Act.put, List.setIfInBounds_toArray, List.set_cons_zero, List.set_cons_succ])
          refine wpAnyH_take (i := 3) (oi := ⟨_, _, _, _, _, _⟩) (v := ?_) rfl (by kernel_rfl) (by kernel_rfl) (by kernel_rfl) (fun _ _ _ h => h) (Or.inl ⟨by rfl, ?_⟩) (by assumption) ?_
          rotate_left
          · intro w hSw
            (try dsimp only at hSw)
            go_simp
            (try with_reducible rfl)
          (try simp only [Act.put, List.setIfInBounds_toArray, List.set_cons_zero, List.set_cons_succ])
          refine wpAnyH_ready (rs := [5]) (by kernel_rfl) (by simp) ?_
          refine AllReadyH.cons (o := ⟨_, _, _, _, _, _⟩) rfl (fun K hK => ?_) AllReadyH.nil
          go_simp
          (go_at_call 60; refine (boMirror_any W H A n c (k : Int) _ HW.out (by omega)).mono ?_; rw [HJ.out]; rintro e wy ⟨rfl, hb⟩; (repeat (first | replace hb := below_undrew hb | replace hb := below_undrewN hb)); replace BP := Lib.hid (BP.out.keep hb); replace BR := Lib.hid (BR.out.keep hb); replace BB := Lib.hid (BB.out.keep hb); replace ON := Lib.hid (ON.out.keep hb); replace OH := Lib.hid (OH.out.keep hb); replace HSZ := Lib.hid (Nat.le_trans HSZ.out hb.size); replace B := Lib.hid (below_next B.out hb); clear hb)
          (try go_wp2_with fail)
          refine hK.out _ _ ?_ (fun hHeld => ?_)
          · (try dsimp only)
            exact ⟨BP.out.cell rfl, BP.out.cell rfl, BP.out.cell rfl, BB.out.cell rfl⟩
          clear hK K
          (try simp only [Act.put, List.setIfInBounds_toArray, List.set_cons_zero, List.set_cons_succ])
          refine wpAnyH_take (i := 7) (oi := ⟨_, _, _, _, _, _⟩) (v := ?_) rfl (by kernel_rfl) (by kernel_rfl) (by kernel_rfl) (fun _ _ _ h => h) (Or.inl ⟨by rfl, ?_⟩) (by assumption) ?_
          rotate_left
          · intro w hSw
            (try dsimp only at hSw)
            go_simp
            (try with_reducible rfl)
          (try simp only [Act.put, List.setIfInBounds_toArray, List.set_cons_zero, List.set_cons_succ])
          refine wpAnyH_ready (rs := [8]) (by kernel_rfl) (by simp) ?_
          refine AllReadyH.cons (o := ⟨_, _, _, _, _, _⟩) rfl (fun K hK => ?_) AllReadyH.nil
          have c0 := ON.out.cell hy9; have f0 := ON.out.frozen jm
          obtain ⟨o9, g9⟩ := ON.out.stored jm x
          obtain ⟨w4, hW4⟩ : ∃ W5, W5 = wy.setCell ⟨gn, jm, none⟩ (.int .i64 x) := ⟨_, rfl⟩
          rw [← hW4] at o9 g9
          go_simp
          rw [← hW4]
          clear hW4 c0 f0
          replace ON := Lib.hid o9
          have hgn9 := (ON.out.span _ rfl).1
          dsimp only at hgn9
          replace BP := Lib.hid (BP.out.grown g9 (by simp; omega))
          replace BR := Lib.hid (BR.out.grown g9 (by simp; omega))
          replace HSZ := Lib.hid (Nat.le_trans HSZ.out g9.size)
          replace B := Lib.hid (B.out.grown g9 B.out.size (fun g8 h8 => by injection h8 with h8; omega))
          replace BB := Lib.hid (BB.out.grown g9 (by have := HNG.out; simp; omega))
          replace OH := Lib.hid (OH.out.other g9 (fun a9 ha9 he => HAP.out a9 _ ha9 rfl (by injection he)))
          clear o9 g9 hgn9
          refine hK.out _ _ ?_ (fun hHeld => ?_)
          · (try dsimp only)
            exact ⟨BP.out.cell rfl, BP.out.cell rfl, BP.out.cell rfl, BB.out.cell rfl⟩
          clear hK K
          (try simp only [Act.put, List.setIfInBounds_toArray, List.set_cons_zero, List.set_cons_succ])
          refine wpAnyH_done (by kernel_rfl) ?_ _
          clear hHeld
          (try go_wp2_with fail)
          go_roundw
          case rel => exact ⟨k + 1, Lr.set jm x, by omega, by go_num, ON.out, by rw [HF.out, mirL_drop HX.out, HJ.out, Int.toNat_natCast], OH.out, BB.out, BP.out, BR.out, HSZ.out, B.out⟩
          case measure => simp [intOf]; omega
        · have HE := Lib.hid (show MirrorPuzzle_ns W H xs a b ns = Lr by rw [HF.out, List.drop_of_length_le (by have := HL.out; omega)]; rfl)
          rw [← HE.out] at ON
          have s0 : wr.cell? ⟨gb, 0, none⟩ = some (.int .i64 W) := BB.out.cell rfl
          have s1 : wr.cell? ⟨gb, 1, none⟩ = some (.int .i64 H) := BB.out.cell rfl
          have s2 : wr.cell? ⟨gb, 2, none⟩ = some (.slice A' n' c') := BB.out.cell rfl
          have s3 : wr.cell? ⟨gb, 3, none⟩ = some (.int .i64 a) := BB.out.cell rfl
          have s4 : wr.cell? ⟨gb, 4, none⟩ = some (.int .i64 b) := BB.out.cell rfl
          have s5 : wr.cell? ⟨gb, 5, none⟩ = some (.slice (some ⟨gn, 0, none⟩) n2 n2) := BB.out.cell rfl
          have y0 : wr.cell? ⟨w.heap.size + 1, 0, none⟩ = some (.int .i64 0) := BR.out.cell rfl
          have y1 : wr.cell? ⟨w.heap.size + 1, 1, none⟩ = some (.int .i64 0) := BR.out.cell rfl
          have y2 : wr.cell? ⟨w.heap.size + 1, 2, none⟩ = some (.slice none 0 0) := BR.out.cell rfl
          have y3 : wr.cell? ⟨w.heap.size + 1, 3, none⟩ = some (.int .i64 0) := BR.out.cell rfl
          have y4 : wr.cell? ⟨w.heap.size + 1, 4, none⟩ = some (.int .i64 0) := BR.out.cell rfl
          have y5 : wr.cell? ⟨w.heap.size + 1, 5, none⟩ = some (.slice none 0 0) := BR.out.cell rfl
          have h0 : wr.frozen? ⟨w.heap.size + 1, 0, none⟩ = false := BR.out.frozen 0
          have h1 : wr.frozen? ⟨w.heap.size + 1, 1, none⟩ = false := BR.out.frozen 1
          have h2 : wr.frozen? ⟨w.heap.size + 1, 2, none⟩ = false := BR.out.frozen 2
          have h3 : wr.frozen? ⟨w.heap.size + 1, 3, none⟩ = false := BR.out.frozen 3
          have h4 : wr.frozen? ⟨w.heap.size + 1, 4, none⟩ = false := BR.out.frozen 4
          have h5 : wr.frozen? ⟨w.heap.size + 1, 5, none⟩ = false := BR.out.frozen 5
          have HOK := Lib.hid (show MirrorPuzzle_ok W H xs a b ns = true from HG.out)
          go_wp2
          refine bodyPost_ret (v := .tuple #[pzv W H A' n' c' a b (some ⟨gn, 0, none⟩) n2 n2, .bool true]) (by simp [results, Try.results30, go_sem, y0, y1, y2, y3, y4, y5]) rfl ⟨A', n', c', (some ⟨gn, 0, none⟩), n2, n2, by rw [HOK.out]; rfl, ?_, ?_, HAP.out, ?_⟩
          · rw [HOK.out]
            show OwnI _ _ _ _ _ _ _
            refine OwnI.lower (lo := w.heap.size + 1 + 1) ?_ (by omega)
            repeat (first | refine own_setC ?_ (by omega) _ | exact OH.out)
          · rw [HOK.out]
            show OwnI _ _ _ _ _ _ _
            refine OwnI.lower (lo := w.heap.size + 1 + 1) ?_ (by omega)
            repeat (first | refine own_setC ?_ (by omega) _ | exact ON.out)
          · repeat (first | refine below_setC ?_ (by omega) _ | exact B.out)

end Go.Proofs.Ytkdfilhiljfanaa
