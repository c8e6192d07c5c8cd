/-
  Contracts: the sums of the numbers of a walk in rows and columns: RowSumsOf, ColumnSumsOf.
-/
import Derived.Test.YtphjkmikleldcaaZ3
import Derived.Test.YtphjkmikleldcaaK9a
namespace Go.Proofs.Ytphjkmikleldcaa
open Go.RowKit

/-- make of a row of ints as one step of a region that draws. -/
theorem step_makeI {P : Program} {w : World} {ops : Array Oper} {o : Oper} {a : Act} {K : Act → World → Prop} {Q : Exit → Act → World → Prop} {E0 : Prop} (hgd : o.guard = none) (l c : Operand) (t e : TypeId)
    (hop : o.op = Op.makeSlice t l c) (i0 : TypeInfo) (hT : P.underlying t = some (.slice e)) (hi : P.info? e = some i0) (hz0 : i0.zero = some (.int .i64 0)) (hz1 : i0.size = 1) (hz2 : i0.bytes = 8)
    (n : Nat) (hl : a.eval l = .int .i64 (n : Int)) (hc : a.eval c = .int .i64 (n : Int)) (hn : n ≤ 1000)
    (h : ∀ w', OwnI e w' w.heap.size (some ⟨w.heap.size, 0, none⟩) n n (List.replicate n 0) → Below w.heap.size w w' → K (a.put o.dst (.slice (some ⟨w.heap.size, 0, none⟩) n n)) w') :
    if Region.wanted o (yielded ops a.tmps) = true then Oper.wp P o a w K Q else E0 := by
  have hw : Region.wanted o (yielded ops a.tmps) = true := by simp [Region.wanted, hgd]
  rw [if_pos hw]
  obtain ⟨w', hrun, r1, r2⟩ := run_make_full (P := P) w w.heap.size t e i0 (.int .i64 0) 1 hT hi hz0 hz1 .i64 .i64 n (by rw [hz2]; omega) (by unfold maxLen; omega) (Nat.le_refl _)
  unfold Oper.wp
  simp [execOp, hop, hl, hc, hrun, Result.andThen]
  refine h _ ?_ (below_of_grown r2 (Nat.le_refl _) (fun g h => by cases h))
  unfold OwnI
  rw [show n * 1 = n from by omega] at r1
  have e0 : (madeCells (Value.cells (.int .i64 0)) n).toList = List.replicate n (.int .i64 0) := toList_madeCells_one (.int .i64 0) n
  rw [e0] at r1
  simpa using r1

theorem own_lt {E : TypeId} {w : World} {lo g n c : Nat} {xs : List Int} (h : OwnI E w lo (some ⟨g, 0, none⟩) n c xs) (hn : 0 < n) : g < w.heap.size := by
  rcases h.some_ (k := 0) hn with ⟨g9, h9, _, h8⟩
  injection h9 with h9
  injection h9 with h9
  omega
/-- The sums of the numbers of a list of cells by lines, from the index i on. -/
def lineL (f : Int → Nat) : Nat → List Int → List Int → List Int
  | _, [], L => L
  | i, x :: t, L => lineL f (i + 1) t (L.set (f x) (L.getD (f x) 0 + ((i : Int) + 1)))
theorem lineL_drop {f : Int → Nat} {ps L : List Int} {k : Nat} {x : Int} (hx : ps[k]? = some x) : lineL f k (ps.drop k) L = lineL f (k + 1) (ps.drop (k + 1)) (L.set (f x) (L.getD (f x) 0 + ((k : Int) + 1))) := by
  rw [drop_cons_of hx]; rfl
theorem lineL_len (f : Int → Nat) : ∀ (ps : List Int) (i : Nat) (L : List Int), (lineL f i ps L).length = L.length
  | [], _, _ => rfl
  | x :: t, i, L => by rw [lineL, lineL_len f t, List.length_set]
def bdL (k : Nat) (L : List Int) : Prop := ∀ v ∈ L, 0 ≤ v ∧ v ≤ 100 * (k : Int)
theorem bd_zero (n : Nat) : bdL 0 (List.replicate n 0) := fun v hv => by rw [(List.mem_replicate.1 hv).2]; omega
theorem bd_set {k j : Nat} {L : List Int} {y : Int} (h : bdL k L) (hy : 0 ≤ y ∧ y ≤ 100 * (k : Int)) (hk : k ≤ 64) : bdL (k + 1) (L.set j (y + ((k : Int) + 1))) := fun v hv => by
  rcases List.mem_or_eq_of_mem_set hv with h1 | rfl
  · have := h v h1; omega
  · omega
theorem bd_at {k j : Nat} {L : List Int} {y : Int} (h : bdL k L) (hy : L[j]? = some y) : 0 ≤ y ∧ y ≤ 100 * (k : Int) := h y (List.mem_of_getElem? hy)
def rowF (W : Int) (x : Int) : Nat := (x / W).toNat
def colF (W : Int) (x : Int) : Nat := (x % W).toNat
def rowsL (W H : Int) (ps : List Int) : List Int := lineL (rowF W) 0 ps (List.replicate H.toNat 0)
def colsL (W : Int) (ps : List Int) : List Int := lineL (colF W) 0 ps (List.replicate W.toNat 0)
theorem row_in {W H x : Int} (hW : 1 ≤ W ∧ W ≤ 8) (hx : 0 ≤ x ∧ x < W * H) : 0 ≤ x / W ∧ x / W < H :=
  ⟨Int.ediv_nonneg hx.1 (by omega), Int.ediv_lt_of_lt_mul (by omega) (by rw [Int.mul_comm]; exact hx.2)⟩
theorem col_in {W x : Int} (hW : 1 ≤ W ∧ W ≤ 8) : 0 ≤ x % W ∧ x % W < W := ⟨Int.emod_nonneg _ (by omega), Int.emod_lt_of_pos _ (by omega)⟩
theorem ok_H {W H a b : Int} {xs ps : List Int} (h : okWk W H xs a b ps = true) : 1 ≤ H ∧ H ≤ 8 := (goodB_iff.1 (two_gK (ok_two h))).2.1
theorem ok_in {W H a b : Int} {xs ps : List Int} (h : okWk W H xs a b ps = true) : ∀ x ∈ ps, 0 ≤ x ∧ x < W * H := fun x hx => (hasB_iff.1 (path_has (walk_path2 (ok_walk h)) x hx)).1

set_option maxHeartbeats 400000 in
theorem row_any (x y : Int) (w : World) : Calls Try.prog 77 #[lpr x y] w fun e w' => e = .returned (.int .i64 y) ∧ Below w.heap.size w w' := by
  go_enter Try.func77, Try.ntmps77
  go_wp2
  go_ret
  exact ⟨rfl, below_new (Below.refl _ _) _⟩

set_option maxHeartbeats 400000 in
theorem column_any (x y : Int) (w : World) : Calls Try.prog 78 #[lpr x y] w fun e w' => e = .returned (.int .i64 x) ∧ Below w.heap.size w w' := by
  go_enter Try.func78, Try.ntmps78
  go_wp2
  go_ret
  exact ⟨rfl, below_new (Below.refl _ _) _⟩

set_option maxRecDepth 100000 in
set_option maxHeartbeats 2000000 in
theorem sumsRow_any' (W : Int) (N : Nat) (A : Option Addr) (n c : Nat) (A2 : Option Addr) (m c2 : Nat) (ps : List Int) (w : World) (hp : Rd w A2 m ps) (hW : 1 ≤ W ∧ W ≤ 8) (hH : 1 ≤ (N : Int) ∧ (N : Int) ≤ 8) (hin : ∀ x ∈ ps, 0 ≤ x ∧ x < W * (N : Int)) (hm : m ≤ 64) :
    Calls Try.prog 76 #[brd W (N : Int) A n c, .slice A2 m c2, .int .i64 (N : Int), .func (.func 77) #[] #[]] w fun e w' => ∃ g, e = .returned (.slice (some ⟨g, 0, none⟩) (N : Int).toNat (N : Int).toNat) ∧ OwnI 3 w' w.heap.size (some ⟨g, 0, none⟩) (N : Int).toNat (N : Int).toNat (rowsL W (N : Int) ps) ∧ Below w.heap.size w w' := by
  obtain ⟨i0, hi, hz0, hz1, hz2⟩ := info_parts infoI
  have HI := Lib.hid hi; have HZ0 := Lib.hid hz0; have HZ1 := Lib.hid hz1; have HZ2 := Lib.hid hz2
  clear hi hz0 hz1 hz2
  have HPL := Lib.hid hp.1
  have m9 := hp.2.1
  have HIN := Lib.hid hin
  have HW := Lib.hid hW; have HH := Lib.hid hH
  have HWH := Lib.hid (cells_le hW hH)
  have HN := Lib.hid (show (N : Int) = (N : Int) from rfl)
  have hN8 : N ≤ 8 := by omega
  have hN1 : 1 ≤ N := by omega
  obtain ⟨W2, hW2⟩ : ∃ W2, W2 = w.alloc (.cells #[.int .i64 W, .int .i64 (N : Int), .slice A n c] 30) := ⟨_, rfl⟩
  have a0 : W2.cell? ⟨w.heap.size, 0, none⟩ = some (.int .i64 W) := by rw [hW2]; go_simp
  have a1 : W2.cell? ⟨w.heap.size, 1, none⟩ = some (.int .i64 (N : Int)) := by rw [hW2]; go_simp
  have a2 : W2.cell? ⟨w.heap.size, 2, none⟩ = some (.slice A n c) := by rw [hW2]; go_simp
  have hsz : W2.heap.size = w.heap.size + 1 := by rw [hW2]; simp
  have B := Lib.hid (show Below w.heap.size w W2 by rw [hW2]; exact below_new (Below.refl _ _) _)
  have RP := Lib.hid (hp.keep B.out)
  have AL := Lib.hid (show w.heap.size < W2.heap.size by omega)
  have HA := Lib.hid (⟨a0, a1, a2⟩ : W2.cell? ⟨w.heap.size, 0, none⟩ = some (.int .i64 W) ∧ W2.cell? ⟨w.heap.size, 1, none⟩ = some (.int .i64 (N : Int)) ∧ W2.cell? ⟨w.heap.size, 2, none⟩ = some (.slice A n c))
  have hBS := B.out.size
  clear hp hin hW hH a0 a1 a2
  go_enter Try.func76, Try.ntmps76
  go_wp2_with (at_make; refine wpList_make_full _ rfl _ _ 22 rfl W2.heap.size 3 i0 (.int .i64 0) 1 Try.underlying22 HI.out HZ0.out HZ1.out .i64 .i64 _ _ N rfl rfl rfl rfl (by rw [HZ2.out]; omega) (by unfold maxLen; omega) (by simp; omega) ?_; intro w1 hown1 hg1)
  rw [← hW2] at hown1 hg1
  have hO1 : OwnI 3 w1 W2.heap.size (some ⟨W2.heap.size, 0, none⟩) N N (List.replicate N 0) := by
    unfold OwnI
    rw [show N * 1 = N from by omega] at hown1
    have e : (madeCells (Value.cells (.int .i64 0)) N).toList = List.replicate N (.int .i64 0) := toList_madeCells_one (.int .i64 0) N
    rw [e] at hown1
    simpa using hown1
  obtain ⟨fb, hfb⟩ : ∃ fb, fb = W2.heap.size := ⟨_, rfl⟩
  have hfb9 : fb = w.heap.size + 1 := by omega
  rw [← hfb] at hO1
  rw [← hfb9]
  clear hfb9
  have hg2 : W2.grownBy w1 (some fb) := ⟨hg1.os, hg1.tape, hg1.output, hg1.size, fun i hi _ => hg1.block i hi (by simp)⟩
  have FAR := Lib.hid hO1; have G1 := Lib.hid hg2
  have HFB := Lib.hid hfb
  have hw8 := hg1.size
  clear hown1 hg1 hg2 hO1 hW2 hfb
  go_wp2
  go_loopw [16] (fun i wr => ∃ (k : Nat) (L : List Int), k ≤ m ∧ i = .int .i64 k ∧ OwnI 3 wr fb (some ⟨fb, 0, none⟩) N N L ∧ bdL k L ∧ lineL (rowF W) 0 ps (List.replicate N 0) = lineL (rowF W) k (ps.drop k) L ∧ W2.grownBy wr (some fb)) (fun i _ => m - (intOf i).toNat)
  case atStart => exact ⟨0, _, by omega, rfl, FAR.out, bd_zero N, by rw [List.drop_zero], G1.out⟩
  case round =>
    obtain ⟨k, L, hk, rfl, hown, hbd, hnum, hgw⟩ := hrel
    have HNUM := Lib.hid hnum
    clear hnum
    by_cases hlt : k < m
    · obtain ⟨bb, oo, x, rfl, hg1, hx, x0⟩ := RP.out.at_ hlt
      have HX := Lib.hid hx
      have hne : bb ≠ fb := by have := HFB.out; omega
      replace x0 := hgw.cell x0 (by simpa using hne)
      have b0 := hgw.cell HA.out.1 (by have := AL.out; have := HFB.out; simp; omega); have b1 := hgw.cell HA.out.2.1 (by have := AL.out; have := HFB.out; simp; omega); have b2 := hgw.cell HA.out.2.2 (by have := AL.out; have := HFB.out; simp; omega)
      have hxr := HIN.out x (List.mem_of_getElem? hx)
      have hx64 : 0 ≤ x ∧ x ≤ 64 := by have := HWH.out; omega
      have hdd := row_in HW.out (HIN.out x (List.mem_of_getElem? HX.out))
      have hS := spotOf_any W (N : Int) A n c x wr HW.out hx64
      obtain ⟨j, hj⟩ : ∃ j : Nat, x / W = (j : Int) := ⟨(x / W).toNat, by omega⟩
      have HJ := Lib.hid hj
      have hR := fun (u v : Int) (w' : World) => row_any u v w'
      have hjN : j < N := by have := HN.out; omega
      have hll := hown.len
      obtain ⟨y0, hy⟩ : ∃ y, L[j]? = some y := ⟨_, List.getElem?_eq_getElem (show j < L.length by omega)⟩
      have hyb := bd_at hbd hy
      have HO := Lib.hid hown; have HG := Lib.hid hgw; have HBD := Lib.hid hbd
      have HY := Lib.hid hy; have HYB := Lib.hid hyb
      have RS := Lib.hid hR
      have hwy : IntKind.i64.wrap ((k : Int) + 1) = (k : Int) + 1 := IntWalk.i64_in _ (by omega)
      have hwz : IntKind.i64.wrap (y0 + ((k : Int) + 1)) = y0 + ((k : Int) + 1) := IntWalk.i64_in _ (by omega)
      have HFX := Lib.hid (show rowF W x = j by rw [rowF, hj]; simp)
      clear hown hgw hbd hxr hx64 hdd hR hy hyb hx hll
      go_wp2_with fail
      refine hS.mono ?_
      rw [hj]
      rintro e wv ⟨rfl, hb⟩
      replace HO := Lib.hid (HO.out.keep hb)
      replace HG := Lib.hid (grown_next HG.out (grown_of_below hb _))
      clear hS hb hj b0 b1 b2 x0
      go_wp2_with fail
      refine (RS.out _ _ _).mono ?_
      rintro e wz ⟨rfl, hb⟩
      replace HO := Lib.hid (HO.out.keep hb)
      replace HG := Lib.hid (grown_next HG.out (grown_of_below hb _))
      clear hb
      have c0 := HO.out.cell HY.out
      have f0 := HO.out.frozen j
      have hl0 : fb < wz.heap.size := by rcases HO.out.some_ (k := 0) (by omega) with ⟨g9, h9, _, h8⟩; injection h9 with h9; injection h9 with h9; omega
      obtain ⟨o1, g1⟩ := HO.out.stored j (y0 + ((k : Int) + 1))
      have O1 := Lib.hid o1; have GW := Lib.hid (grown_next HG.out g1)
      clear o1 g1
      have hj0 : (0 : Int) ≤ (j : Int) := by omega
      have hj1 : (j : Int) < (N : Int) := by omega
      go_wp2
      go_roundw
      case rel => exact ⟨k + 1, L.set j (y0 + ((k : Int) + 1)), by omega, by go_num, O1.out, bd_set HBD.out HYB.out (by omega), by rw [HNUM.out, lineL_drop HX.out, HFX.out, List.getD_eq_getElem?_getD, HY.out]; rfl, GW.out⟩
      case measure => simp [intOf]; omega
    · have HE := Lib.hid (show lineL (rowF W) 0 ps (List.replicate N 0) = L by rw [HNUM.out, List.drop_of_length_le (by have := HPL.out; omega)]; rfl)
      have HO := Lib.hid hown
      have HG2 := Lib.hid hgw
      clear hown hgw hbd
      go_wp2
      go_ret
      have e9 : (N : Int).toNat = N := by simp
      rw [e9]
      exact ⟨_, rfl, by rw [show rowsL W (N : Int) ps = L from by rw [← HE.out, rowsL, e9]]; exact HO.out.lower (by have := HFB.out; omega), B.out.trans (below_of_grown HG2.out hBS (fun g h => by injection h with h; have := HFB.out; omega))⟩

theorem sumsRow_any (W H : Int) (A : Option Addr) (n c : Nat) (A2 : Option Addr) (m c2 : Nat) (ps : List Int) (w : World) (hp : Rd w A2 m ps) (hW : 1 ≤ W ∧ W ≤ 8) (hH : 1 ≤ H ∧ H ≤ 8) (hin : ∀ x ∈ ps, 0 ≤ x ∧ x < W * H) (hm : m ≤ 64) :
    Calls Try.prog 76 #[brd W H A n c, .slice A2 m c2, .int .i64 H, .func (.func 77) #[] #[]] w fun e w' => ∃ g, e = .returned (.slice (some ⟨g, 0, none⟩) H.toNat H.toNat) ∧ OwnI 3 w' w.heap.size (some ⟨g, 0, none⟩) H.toNat H.toNat (rowsL W H ps) ∧ Below w.heap.size w w' := by
  obtain ⟨N, rfl⟩ : ∃ N : Nat, H = (N : Int) := ⟨H.toNat, by omega⟩
  exact sumsRow_any' W N A n c A2 m c2 ps w hp hW hH hin hm

set_option maxRecDepth 100000 in
set_option maxHeartbeats 2000000 in
theorem sumsCol_any' (H : Int) (N : Nat) (A : Option Addr) (n c : Nat) (A2 : Option Addr) (m c2 : Nat) (ps : List Int) (w : World) (hp : Rd w A2 m ps) (hW : 1 ≤ (N : Int) ∧ (N : Int) ≤ 8) (hH : 1 ≤ H ∧ H ≤ 8) (hin : ∀ x ∈ ps, 0 ≤ x ∧ x < (N : Int) * H) (hm : m ≤ 64) :
    Calls Try.prog 76 #[brd (N : Int) H A n c, .slice A2 m c2, .int .i64 (N : Int), .func (.func 78) #[] #[]] w fun e w' => ∃ g, e = .returned (.slice (some ⟨g, 0, none⟩) (N : Int).toNat (N : Int).toNat) ∧ OwnI 3 w' w.heap.size (some ⟨g, 0, none⟩) (N : Int).toNat (N : Int).toNat (colsL (N : Int) ps) ∧ Below w.heap.size w w' := by
  obtain ⟨i0, hi, hz0, hz1, hz2⟩ := info_parts infoI
  have HI := Lib.hid hi; have HZ0 := Lib.hid hz0; have HZ1 := Lib.hid hz1; have HZ2 := Lib.hid hz2
  clear hi hz0 hz1 hz2
  have HPL := Lib.hid hp.1
  have m9 := hp.2.1
  have HIN := Lib.hid hin
  have HW := Lib.hid hW; have HH := Lib.hid hH
  have HWH := Lib.hid (cells_le hW hH)
  have HN := Lib.hid (show (N : Int) = (N : Int) from rfl)
  have hN8 : N ≤ 8 := by omega
  have hN1 : 1 ≤ N := by omega
  obtain ⟨W2, hW2⟩ : ∃ W2, W2 = w.alloc (.cells #[.int .i64 (N : Int), .int .i64 H, .slice A n c] 30) := ⟨_, rfl⟩
  have a0 : W2.cell? ⟨w.heap.size, 0, none⟩ = some (.int .i64 (N : Int)) := by rw [hW2]; go_simp
  have a1 : W2.cell? ⟨w.heap.size, 1, none⟩ = some (.int .i64 H) := by rw [hW2]; go_simp
  have a2 : W2.cell? ⟨w.heap.size, 2, none⟩ = some (.slice A n c) := by rw [hW2]; go_simp
  have hsz : W2.heap.size = w.heap.size + 1 := by rw [hW2]; simp
  have B := Lib.hid (show Below w.heap.size w W2 by rw [hW2]; exact below_new (Below.refl _ _) _)
  have RP := Lib.hid (hp.keep B.out)
  have AL := Lib.hid (show w.heap.size < W2.heap.size by omega)
  have HA := Lib.hid (⟨a0, a1, a2⟩ : W2.cell? ⟨w.heap.size, 0, none⟩ = some (.int .i64 (N : Int)) ∧ W2.cell? ⟨w.heap.size, 1, none⟩ = some (.int .i64 H) ∧ W2.cell? ⟨w.heap.size, 2, none⟩ = some (.slice A n c))
  have hBS := B.out.size
  clear hp hin hW hH a0 a1 a2
  go_enter Try.func76, Try.ntmps76
  go_wp2_with (at_make; refine wpList_make_full _ rfl _ _ 22 rfl W2.heap.size 3 i0 (.int .i64 0) 1 Try.underlying22 HI.out HZ0.out HZ1.out .i64 .i64 _ _ N rfl rfl rfl rfl (by rw [HZ2.out]; omega) (by unfold maxLen; omega) (by simp; omega) ?_; intro w1 hown1 hg1)
  rw [← hW2] at hown1 hg1
  have hO1 : OwnI 3 w1 W2.heap.size (some ⟨W2.heap.size, 0, none⟩) N N (List.replicate N 0) := by
    unfold OwnI
    rw [show N * 1 = N from by omega] at hown1
    have e : (madeCells (Value.cells (.int .i64 0)) N).toList = List.replicate N (.int .i64 0) := toList_madeCells_one (.int .i64 0) N
    rw [e] at hown1
    simpa using hown1
  obtain ⟨fb, hfb⟩ : ∃ fb, fb = W2.heap.size := ⟨_, rfl⟩
  have hfb9 : fb = w.heap.size + 1 := by omega
  rw [← hfb] at hO1
  rw [← hfb9]
  clear hfb9
  have hg2 : W2.grownBy w1 (some fb) := ⟨hg1.os, hg1.tape, hg1.output, hg1.size, fun i hi _ => hg1.block i hi (by simp)⟩
  have FAR := Lib.hid hO1; have G1 := Lib.hid hg2
  have HFB := Lib.hid hfb
  have hw8 := hg1.size
  clear hown1 hg1 hg2 hO1 hW2 hfb
  go_wp2
  go_loopw [16] (fun i wr => ∃ (k : Nat) (L : List Int), k ≤ m ∧ i = .int .i64 k ∧ OwnI 3 wr fb (some ⟨fb, 0, none⟩) N N L ∧ bdL k L ∧ lineL (colF (N : Int)) 0 ps (List.replicate N 0) = lineL (colF (N : Int)) k (ps.drop k) L ∧ W2.grownBy wr (some fb)) (fun i _ => m - (intOf i).toNat)
  case atStart => exact ⟨0, _, by omega, rfl, FAR.out, bd_zero N, by rw [List.drop_zero], G1.out⟩
  case round =>
    obtain ⟨k, L, hk, rfl, hown, hbd, hnum, hgw⟩ := hrel
    have HNUM := Lib.hid hnum
    clear hnum
    by_cases hlt : k < m
    · obtain ⟨bb, oo, x, rfl, hg1, hx, x0⟩ := RP.out.at_ hlt
      have HX := Lib.hid hx
      have hne : bb ≠ fb := by have := HFB.out; omega
      replace x0 := hgw.cell x0 (by simpa using hne)
      have b0 := hgw.cell HA.out.1 (by have := AL.out; have := HFB.out; simp; omega); have b1 := hgw.cell HA.out.2.1 (by have := AL.out; have := HFB.out; simp; omega); have b2 := hgw.cell HA.out.2.2 (by have := AL.out; have := HFB.out; simp; omega)
      have hxr := HIN.out x (List.mem_of_getElem? hx)
      have hx64 : 0 ≤ x ∧ x ≤ 64 := by have := HWH.out; omega
      have hdd := col_in (x := x) HW.out
      have hS := spotOf_any (N : Int) H A n c x wr HW.out hx64
      obtain ⟨j, hj⟩ : ∃ j : Nat, x % (N : Int) = (j : Int) := ⟨(x % (N : Int)).toNat, by omega⟩
      have HJ := Lib.hid hj
      have hR := fun (u v : Int) (w' : World) => column_any u v w'
      have hjN : j < N := by have := HN.out; omega
      have hll := hown.len
      obtain ⟨y0, hy⟩ : ∃ y, L[j]? = some y := ⟨_, List.getElem?_eq_getElem (show j < L.length by omega)⟩
      have hyb := bd_at hbd hy
      have HO := Lib.hid hown; have HG := Lib.hid hgw; have HBD := Lib.hid hbd
      have HY := Lib.hid hy; have HYB := Lib.hid hyb
      have RS := Lib.hid hR
      have hwy : IntKind.i64.wrap ((k : Int) + 1) = (k : Int) + 1 := IntWalk.i64_in _ (by omega)
      have hwz : IntKind.i64.wrap (y0 + ((k : Int) + 1)) = y0 + ((k : Int) + 1) := IntWalk.i64_in _ (by omega)
      have HFX := Lib.hid (show colF (N : Int) x = j by rw [colF, hj]; simp)
      clear hown hgw hbd hxr hx64 hdd hR hy hyb hx hll
      go_wp2_with fail
      refine hS.mono ?_
      rw [hj]
      rintro e wv ⟨rfl, hb⟩
      replace HO := Lib.hid (HO.out.keep hb)
      replace HG := Lib.hid (grown_next HG.out (grown_of_below hb _))
      clear hS hb hj b0 b1 b2 x0
      go_wp2_with fail
      refine (RS.out _ _ _).mono ?_
      rintro e wz ⟨rfl, hb⟩
      replace HO := Lib.hid (HO.out.keep hb)
      replace HG := Lib.hid (grown_next HG.out (grown_of_below hb _))
      clear hb
      have c0 := HO.out.cell HY.out
      have f0 := HO.out.frozen j
      have hl0 : fb < wz.heap.size := by rcases HO.out.some_ (k := 0) (by omega) with ⟨g9, h9, _, h8⟩; injection h9 with h9; injection h9 with h9; omega
      obtain ⟨o1, g1⟩ := HO.out.stored j (y0 + ((k : Int) + 1))
      have O1 := Lib.hid o1; have GW := Lib.hid (grown_next HG.out g1)
      clear o1 g1
      have hj0 : (0 : Int) ≤ (j : Int) := by omega
      have hj1 : (j : Int) < (N : Int) := by omega
      go_wp2
      go_roundw
      case rel => exact ⟨k + 1, L.set j (y0 + ((k : Int) + 1)), by omega, by go_num, O1.out, bd_set HBD.out HYB.out (by omega), by rw [HNUM.out, lineL_drop HX.out, HFX.out, List.getD_eq_getElem?_getD, HY.out]; rfl, GW.out⟩
      case measure => simp [intOf]; omega
    · have HE := Lib.hid (show lineL (colF (N : Int)) 0 ps (List.replicate N 0) = L by rw [HNUM.out, List.drop_of_length_le (by have := HPL.out; omega)]; rfl)
      have HO := Lib.hid hown
      have HG2 := Lib.hid hgw
      clear hown hgw hbd
      go_wp2
      go_ret
      have e9 : (N : Int).toNat = N := by simp
      rw [e9]
      exact ⟨_, rfl, by rw [show colsL (N : Int) ps = L from by rw [← HE.out, colsL, e9]]; exact HO.out.lower (by have := HFB.out; omega), B.out.trans (below_of_grown HG2.out hBS (fun g h => by injection h with h; have := HFB.out; omega))⟩

theorem sumsCol_any (W H : Int) (A : Option Addr) (n c : Nat) (A2 : Option Addr) (m c2 : Nat) (ps : List Int) (w : World) (hp : Rd w A2 m ps) (hW : 1 ≤ W ∧ W ≤ 8) (hH : 1 ≤ H ∧ H ≤ 8) (hin : ∀ x ∈ ps, 0 ≤ x ∧ x < W * H) (hm : m ≤ 64) :
    Calls Try.prog 76 #[brd W H A n c, .slice A2 m c2, .int .i64 W, .func (.func 78) #[] #[]] w fun e w' => ∃ g, e = .returned (.slice (some ⟨g, 0, none⟩) W.toNat W.toNat) ∧ OwnI 3 w' w.heap.size (some ⟨g, 0, none⟩) W.toNat W.toNat (colsL W ps) ∧ Below w.heap.size w w' := by
  obtain ⟨N, rfl⟩ : ∃ N : Nat, W = (N : Int) := ⟨W.toNat, by omega⟩
  exact sumsCol_any' H N A n c A2 m c2 ps w hp hW hH hin hm

set_option maxRecDepth 100000 in
set_option maxHeartbeats 4000000 in
theorem blSums_any' (V G : Nat) (A : Option Addr) (n c : Nat) (A2 : Option Addr) (m c2 : Nat) (ps : List Int) (w : World) (hp : Rd w A2 m ps) (hW : 1 ≤ (V : Int) ∧ (V : Int) ≤ 8) (hH : 1 ≤ (G : Int) ∧ (G : Int) ≤ 8) (hin : ∀ x ∈ ps, 0 ≤ x ∧ x < (V : Int) * (G : Int)) (hm : m ≤ 64) :
    Calls Try.prog 75 #[brd (V : Int) (G : Int) A n c, .slice A2 m c2] w fun e w' => ∃ g g', e = .returned (.tuple #[.slice (some ⟨g, 0, none⟩) G G, .slice (some ⟨g', 0, none⟩) V V]) ∧ OwnI 3 w' w.heap.size (some ⟨g, 0, none⟩) G G (rowsL V G ps) ∧ OwnI 3 w' w.heap.size (some ⟨g', 0, none⟩) V V (colsL V ps) ∧ Below w.heap.size w w' := by
  obtain ⟨i0, hi, hz0, hz1, hz2⟩ := info_parts infoI
  have HI := Lib.hid hi; have HZ0 := Lib.hid hz0; have HZ1 := Lib.hid hz1; have HZ2 := Lib.hid hz2
  clear hi hz0 hz1 hz2
  have HPL := Lib.hid hp.1
  have m9 := hp.2.1
  have HIN := Lib.hid hin
  have HW := Lib.hid hW; have HH := Lib.hid hH
  have HWH := Lib.hid (cells_le hW hH)
  have hV1 : 1 ≤ V := by omega
  have hV8 : V ≤ 8 := by omega
  have hG1 : 1 ≤ G := by omega
  have hG8 : G ≤ 8 := by omega
  obtain ⟨W2, hW2⟩ : ∃ W2, W2 = w.alloc (.cells #[.int .i64 (V : Int), .int .i64 (G : Int), .slice A n c] 30) := ⟨_, rfl⟩
  have a0 : W2.cell? ⟨w.heap.size, 0, none⟩ = some (.int .i64 (V : Int)) := by rw [hW2]; go_simp
  have a1 : W2.cell? ⟨w.heap.size, 1, none⟩ = some (.int .i64 (G : Int)) := by rw [hW2]; go_simp
  have hsz : W2.heap.size = w.heap.size + 1 := by rw [hW2]; simp
  have al : w.heap.size < W2.heap.size := by omega
  have AL := Lib.hid al; have A0 := Lib.hid a0
  have B := Lib.hid (show Below w.heap.size w W2 by rw [hW2]; exact below_new (Below.refl _ _) _)
  have RP := Lib.hid (hp.keep B.out)
  have HSZ := Lib.hid hsz
  clear hp hin hW hH hsz
  go_enter Try.func75, Try.ntmps75
  go_wp2_with fail
  rw [← hW2]
  clear hW2
  refine wp_region_held_drew (S := fun w' => w'.cell? ⟨w.heap.size, 0, none⟩ = some (.int .i64 (V : Int)) ∧ w'.cell? ⟨w.heap.size, 1, none⟩ = some (.int .i64 (G : Int))) (by kernel_rfl) ?_ (fun hHeld => ?_)
  · exact ⟨a0, a1⟩
  refine wpAnyH_take (i := 0) (oi := ⟨_, _, _, _, _, _⟩) (v := ?_) rfl (by kernel_rfl) (by kernel_rfl) (by kernel_rfl) (fun _ _ _ h => h) (Or.inl ⟨by rfl, ?_⟩) (by assumption) ?_
  rotate_left
  · intro w hSw
    (try dsimp only at hSw)
    go_simp
    (try with_reducible rfl)
  (try simp only [Act.put, List.setIfInBounds_toArray, List.set_cons_zero, List.set_cons_succ])
  refine wpAnyH_take (i := 1) (oi := ⟨_, _, _, _, _, _⟩) (v := ?_) rfl (by kernel_rfl) (by kernel_rfl) (by kernel_rfl) (fun _ _ _ h => h) (Or.inl ⟨by rfl, ?_⟩) (by assumption) ?_
  rotate_left
  · intro w hSw
    (try dsimp only at hSw)
    go_simp
    (try with_reducible rfl)
  (try simp only [Act.put, List.setIfInBounds_toArray, List.set_cons_zero, List.set_cons_succ])
  refine wpAnyH_take (i := 3) (oi := ⟨_, _, _, _, _, _⟩) (v := ?_) rfl (by kernel_rfl) (by kernel_rfl) (by kernel_rfl) (fun _ _ _ h => h) (Or.inl ⟨by rfl, ?_⟩) (by assumption) ?_
  rotate_left
  · intro w hSw
    (try dsimp only at hSw)
    go_simp
    (try with_reducible rfl)
  (try simp only [Act.put, List.setIfInBounds_toArray, List.set_cons_zero, List.set_cons_succ])
  refine wpAnyH_take (i := 4) (oi := ⟨_, _, _, _, _, _⟩) (v := ?_) rfl (by kernel_rfl) (by kernel_rfl) (by kernel_rfl) (fun _ _ _ h => h) (Or.inl ⟨by rfl, ?_⟩) (by assumption) ?_
  rotate_left
  · intro w hSw
    (try dsimp only at hSw)
    go_simp
    (try with_reducible rfl)
  (try simp only [Act.put, List.setIfInBounds_toArray, List.set_cons_zero, List.set_cons_succ])
  refine wpAnyH_ready (rs := [2, 5]) (by kernel_rfl) (by simp) ?_
  refine AllReadyH.cons (o := ⟨_, _, _, _, _, _⟩) rfl (fun K hK => ?_) (AllReadyH.cons (o := ⟨_, _, _, _, _, _⟩) rfl (fun K hK => ?_) AllReadyH.nil)
  · (refine step_makeI rfl (.tmp 11) (.tmp 11) 22 3 rfl i0 Try.underlying22 HI.out HZ0.out HZ1.out HZ2.out G rfl rfl (by omega) ?_; intro w1 hown hb; (repeat (first | replace hb := below_undrew hb | replace hb := below_undrewN hb)); replace a0 := cell_keep a0 al hb; replace a1 := cell_keep a1 al hb; replace al := lt_keep al hb; have hR : OwnI 3 w1 W2.heap.size (some ⟨W2.heap.size, 0, none⟩) G G (List.replicate G 0) := hown; have BW := Lib.hid hb; have hz1 : W2.heap.size < w1.heap.size := own_lt hR (by omega); clear hown hb)
    refine hK.out _ _ ?_ (fun hHeld => ?_)
    · (try dsimp only)
      exact ⟨a0, a1⟩
    clear hK K
    (try simp only [Act.put, List.setIfInBounds_toArray, List.set_cons_zero, List.set_cons_succ])
    refine wpAnyH_take (i := 6) (oi := ⟨_, _, _, _, _, _⟩) (v := ?_) rfl (by kernel_rfl) (by kernel_rfl) (by kernel_rfl) (fun _ _ _ h => h) (Or.inl ⟨by rfl, ?_⟩) (by assumption) ?_
    rotate_left
    · intro w hSw
      (try dsimp only at hSw)
      go_simp
      (try with_reducible rfl)
    (try simp only [Act.put, List.setIfInBounds_toArray, List.set_cons_zero, List.set_cons_succ])
    refine wpAnyH_ready (rs := [5]) (by kernel_rfl) (by simp) ?_
    refine AllReadyH.cons (o := ⟨_, _, _, _, _, _⟩) rfl (fun K hK => ?_) AllReadyH.nil
    (refine step_makeI rfl (.tmp 14) (.tmp 14) 22 3 rfl i0 Try.underlying22 HI.out HZ0.out HZ1.out HZ2.out V rfl rfl (by omega) ?_; intro w2 hown hb; (repeat (first | replace hb := below_undrew hb | replace hb := below_undrewN hb)); replace a0 := cell_keep a0 al hb; replace a1 := cell_keep a1 al hb; replace al := lt_keep al hb; have hC : OwnI 3 w2 W2.heap.size (some ⟨w1.heap.size, 0, none⟩) V V (List.replicate V 0) := hown.lower BW.out.size; replace hR := hR.keep hb; replace BW := Lib.hid (below_next BW.out hb); clear hown hb)
    refine hK.out _ _ ?_ (fun hHeld => ?_)
    · (try dsimp only)
      exact ⟨a0, a1⟩
    clear hK K
    (try simp only [Act.put, List.setIfInBounds_toArray, List.set_cons_zero, List.set_cons_succ])
    refine wpAnyH_take (i := 7) (oi := ⟨_, _, _, _, _, _⟩) (v := ?_) rfl (by kernel_rfl) (by kernel_rfl) (by kernel_rfl) (fun _ _ _ h => h) (Or.inl ⟨by rfl, ?_⟩) (by assumption) ?_
    rotate_left
    · intro w hSw
      (try dsimp only at hSw)
      go_simp
      (try with_reducible rfl)
    (try simp only [Act.put, List.setIfInBounds_toArray, List.set_cons_zero, List.set_cons_succ])
    refine wpAnyH_done (by kernel_rfl) ?_ _
    obtain ⟨gr, hgr⟩ : ∃ g, g = W2.heap.size := ⟨_, rfl⟩
    obtain ⟨gc, hgc⟩ : ∃ g, g = w1.heap.size := ⟨_, rfl⟩
    (try rw [show W2.drew.heap.size = W2.heap.size from rfl])
    rw [← hgr] at hR
    rw [← hgc] at hC
    (try rw [← hgr])
    (try rw [← hgc])
    have HNE := Lib.hid (show gr ≠ gc by omega)
    have HGR := Lib.hid (show W2.heap.size ≤ gr by omega)
    have HGC := Lib.hid (show W2.heap.size ≤ gc by omega)
    have OR' := Lib.hid (hR.lower (show W2.heap.size ≤ _ by omega)); have OC' := Lib.hid (hC.lower (show W2.heap.size ≤ _ by omega))
    clear hR hC hgr hgc hz1
    go_wp2
    go_loopw [18] (fun i wr => ∃ (k : Nat) (L M : List Int), k ≤ m ∧ i = .int .i64 k ∧ OwnI 3 wr W2.heap.size (some ⟨gr, 0, none⟩) G G L ∧ OwnI 3 wr W2.heap.size (some ⟨gc, 0, none⟩) V V M ∧ bdL k L ∧ bdL k M ∧ rowsL V G ps = lineL (rowF V) k (ps.drop k) L ∧ colsL V ps = lineL (colF V) k (ps.drop k) M ∧ Below W2.heap.size W2 wr) (fun i _ => m - (intOf i).toNat)
    case atStart => exact ⟨0, _, _, by omega, rfl, OR'.out, OC'.out, bd_zero G, bd_zero V, by rw [List.drop_zero, rowsL, Int.toNat_natCast], by rw [List.drop_zero, colsL, Int.toNat_natCast], BW.out⟩
    case round =>
      obtain ⟨k, L, M, hk, rfl, ho1, ho2, hbd1, hbd2, hn1, hn2, hbw⟩ := hrel
      have HN1 := Lib.hid hn1; have HN2 := Lib.hid hn2
      clear hn1 hn2
      by_cases hlt : k < m
      · obtain ⟨bb, oo, x, rfl, hg1, hx, x0⟩ := RP.out.at_ hlt
        have HX := Lib.hid hx
        replace x0 := cell_keep x0 hg1 hbw
        have b0 := cell_keep A0.out AL.out hbw
        have hxr := HIN.out x (List.mem_of_getElem? hx)
        have hx0 : 0 ≤ x := hxr.1
        have hx64 : x ≤ 64 := by have := HWH.out; omega
        have hV0 : (1 : Int) ≤ (V : Int) := by omega
        have hrr := row_in HW.out hxr
        have hcc := col_in (x := x) HW.out
        obtain ⟨j, hj⟩ : ∃ j : Nat, x / (V : Int) = (j : Int) := ⟨(x / (V : Int)).toNat, by omega⟩
        obtain ⟨i, hi⟩ : ∃ i : Nat, x % (V : Int) = (i : Int) := ⟨(x % (V : Int)).toNat, by omega⟩
        have hjG : j < G := by omega
        have hiV : i < V := by omega
        have hl1 := ho1.len; have hl2 := ho2.len
        obtain ⟨y, hy⟩ : ∃ y, L[j]? = some y := ⟨_, List.getElem?_eq_getElem (show j < L.length by omega)⟩
        obtain ⟨z, hz⟩ : ∃ z, M[i]? = some z := ⟨_, List.getElem?_eq_getElem (show i < M.length by omega)⟩
        have hyb := bd_at hbd1 hy; have hzb := bd_at hbd2 hz
        have HY := Lib.hid hy; have HZ := Lib.hid hz; have HYB := Lib.hid hyb; have HZB := Lib.hid hzb
        have HBD1 := Lib.hid hbd1; have HBD2 := Lib.hid hbd2
        have hwy : IntKind.i64.wrap ((k : Int) + 1) = (k : Int) + 1 := IntWalk.i64_in _ (by omega)
        have hwz1 : IntKind.i64.wrap (y + ((k : Int) + 1)) = y + ((k : Int) + 1) := IntWalk.i64_in _ (by omega)
        have hwz2 : IntKind.i64.wrap (z + ((k : Int) + 1)) = z + ((k : Int) + 1) := IntWalk.i64_in _ (by omega)
        have HF1 := Lib.hid (show rowF V x = j by rw [rowF, hj]; simp)
        have HF2 := Lib.hid (show colF V x = i by rw [colF, hi]; simp)
        have c0 := ho1.cell hy
        have f0 := ho1.frozen j
        have hlr : gr < wr.heap.size := by rcases ho1.some_ (k := 0) (by omega) with ⟨g9, h9, _, h8⟩; injection h9 with h9; injection h9 with h9; omega
        have hlc : gc < wr.heap.size := by rcases ho2.some_ (k := 0) (by omega) with ⟨g9, h9, _, h8⟩; injection h9 with h9; injection h9 with h9; omega
        obtain ⟨o1, e1⟩ := ho1.stored j (y + ((k : Int) + 1))
        have o2 := ho2.other e1 (fun a ha => by injection ha with ha; subst ha; intro h; injection h with h; exact HNE.out h.symm)
        have hb1 := hbw.grown e1 hbw.size (fun g h => by injection h with h; have := HGR.out; omega)
        obtain ⟨W5, hW5⟩ : ∃ W5, W5 = wr.setCell ⟨gr, j, none⟩ (.int .i64 (y + ((k : Int) + 1))) := ⟨_, rfl⟩
        rw [← hW5] at o1 o2 e1 hb1
        have O1 := Lib.hid o1; have O2 := Lib.hid o2; have HB1 := Lib.hid hb1
        have HE1 := Lib.hid e1
        have hj0 : (0 : Int) ≤ (j : Int) := by omega
        have hj1 : (j : Int) < (G : Int) := by omega
        have hi0 : (0 : Int) ≤ (i : Int) := by omega
        have hi1 : (i : Int) < (V : Int) := by omega
        have d0 := O2.out.cell HZ.out
        have d1 := O2.out.frozen i
        have b5 : W5.cell? ⟨w.heap.size, 0, none⟩ = some (.int .i64 (V : Int)) := cell_keep A0.out AL.out HB1.out
        have hlc5 : gc < W5.heap.size := Nat.lt_of_lt_of_le hlc HE1.out.size
        obtain ⟨o3, e3⟩ := O2.out.stored i (z + ((k : Int) + 1))
        have o4 := O1.out.other e3 (fun a ha => by injection ha with ha; subst ha; intro h; injection h with h; exact HNE.out h)
        have hb3 := HB1.out.grown e3 HB1.out.size (fun g h => by injection h with h; have := HGC.out; omega)
        have O3 := Lib.hid o3; have O4 := Lib.hid o4; have HB3 := Lib.hid hb3
        clear o1 o2 o3 o4 e1 e3 hb1 hb3 ho1 ho2 hbd1 hbd2 hbw hxr hrr hcc hy hz hyb hzb hl1 hl2 hx
        go_upto_region 6 with fail
        rw [← hW5]
        clear hW5 c0 f0 b0 x0
        go_wp2
        go_roundw
        case rel => exact ⟨k + 1, L.set j (y + ((k : Int) + 1)), M.set i (z + ((k : Int) + 1)), by omega, by go_num, O4.out, O3.out, bd_set HBD1.out HYB.out (by omega), bd_set HBD2.out HZB.out (by omega), by rw [HN1.out, lineL_drop HX.out, HF1.out, List.getD_eq_getElem?_getD, HY.out]; rfl, by rw [HN2.out, lineL_drop HX.out, HF2.out, List.getD_eq_getElem?_getD, HZ.out]; rfl, HB3.out⟩
        case measure => simp [intOf]; omega
      · have HE1 := Lib.hid (show rowsL V G ps = L by rw [HN1.out, List.drop_of_length_le (by have := HPL.out; omega)]; rfl)
        have HE2 := Lib.hid (show colsL V ps = M by rw [HN2.out, List.drop_of_length_le (by have := HPL.out; omega)]; rfl)
        have HO1 := Lib.hid (ho1.lower B.out.size); have HO2 := Lib.hid (ho2.lower B.out.size)
        have HB := Lib.hid hbw
        clear ho1 ho2 hbw hbd1 hbd2
        go_wp2
        go_ret2
        exact ⟨_, _, rfl, by rw [HE1.out]; exact HO1.out, by rw [HE2.out]; exact HO2.out, B.out.trans (HB.out.mono B.out.size)⟩
  · (refine step_makeI rfl (.tmp 14) (.tmp 14) 22 3 rfl i0 Try.underlying22 HI.out HZ0.out HZ1.out HZ2.out V rfl rfl (by omega) ?_; intro w1 hown hb; (repeat (first | replace hb := below_undrew hb | replace hb := below_undrewN hb)); replace a0 := cell_keep a0 al hb; replace a1 := cell_keep a1 al hb; replace al := lt_keep al hb; have hC : OwnI 3 w1 W2.heap.size (some ⟨W2.heap.size, 0, none⟩) V V (List.replicate V 0) := hown; have BW := Lib.hid hb; have hz1 : W2.heap.size < w1.heap.size := own_lt hC (by omega); clear hown hb)
    refine hK.out _ _ ?_ (fun hHeld => ?_)
    · (try dsimp only)
      exact ⟨a0, a1⟩
    clear hK K
    (try simp only [Act.put, List.setIfInBounds_toArray, List.set_cons_zero, List.set_cons_succ])
    refine wpAnyH_ready (rs := [2]) (by kernel_rfl) (by simp) ?_
    refine AllReadyH.cons (o := ⟨_, _, _, _, _, _⟩) rfl (fun K hK => ?_) AllReadyH.nil
    (refine step_makeI rfl (.tmp 11) (.tmp 11) 22 3 rfl i0 Try.underlying22 HI.out HZ0.out HZ1.out HZ2.out G rfl rfl (by omega) ?_; intro w2 hown hb; (repeat (first | replace hb := below_undrew hb | replace hb := below_undrewN hb)); replace a0 := cell_keep a0 al hb; replace a1 := cell_keep a1 al hb; replace al := lt_keep al hb; have hR : OwnI 3 w2 W2.heap.size (some ⟨w1.heap.size, 0, none⟩) G G (List.replicate G 0) := hown.lower BW.out.size; replace hC := hC.keep hb; replace BW := Lib.hid (below_next BW.out hb); clear hown hb)
    refine hK.out _ _ ?_ (fun hHeld => ?_)
    · (try dsimp only)
      exact ⟨a0, a1⟩
    clear hK K
    (try simp only [Act.put, List.setIfInBounds_toArray, List.set_cons_zero, List.set_cons_succ])
    refine wpAnyH_take (i := 6) (oi := ⟨_, _, _, _, _, _⟩) (v := ?_) rfl (by kernel_rfl) (by kernel_rfl) (by kernel_rfl) (fun _ _ _ h => h) (Or.inl ⟨by rfl, ?_⟩) (by assumption) ?_
    rotate_left
    · intro w hSw
      (try dsimp only at hSw)
      go_simp
      (try with_reducible rfl)
    (try simp only [Act.put, List.setIfInBounds_toArray, List.set_cons_zero, List.set_cons_succ])
    refine wpAnyH_take (i := 7) (oi := ⟨_, _, _, _, _, _⟩) (v := ?_) rfl (by kernel_rfl) (by kernel_rfl) (by kernel_rfl) (fun _ _ _ h => h) (Or.inl ⟨by rfl, ?_⟩) (by assumption) ?_
    rotate_left
    · intro w hSw
      (try dsimp only at hSw)
      go_simp
      (try with_reducible rfl)
    (try simp only [Act.put, List.setIfInBounds_toArray, List.set_cons_zero, List.set_cons_succ])
    refine wpAnyH_done (by kernel_rfl) ?_ _
    obtain ⟨gr, hgr⟩ : ∃ g, g = w1.heap.size := ⟨_, rfl⟩
    obtain ⟨gc, hgc⟩ : ∃ g, g = W2.heap.size := ⟨_, rfl⟩
    (try rw [show W2.drew.heap.size = W2.heap.size from rfl])
    rw [← hgr] at hR
    rw [← hgc] at hC
    (try rw [← hgr])
    (try rw [← hgc])
    have HNE := Lib.hid (show gr ≠ gc by omega)
    have HGR := Lib.hid (show W2.heap.size ≤ gr by omega)
    have HGC := Lib.hid (show W2.heap.size ≤ gc by omega)
    have OR' := Lib.hid (hR.lower (show W2.heap.size ≤ _ by omega)); have OC' := Lib.hid (hC.lower (show W2.heap.size ≤ _ by omega))
    clear hR hC hgr hgc hz1
    go_wp2
    go_loopw [18] (fun i wr => ∃ (k : Nat) (L M : List Int), k ≤ m ∧ i = .int .i64 k ∧ OwnI 3 wr W2.heap.size (some ⟨gr, 0, none⟩) G G L ∧ OwnI 3 wr W2.heap.size (some ⟨gc, 0, none⟩) V V M ∧ bdL k L ∧ bdL k M ∧ rowsL V G ps = lineL (rowF V) k (ps.drop k) L ∧ colsL V ps = lineL (colF V) k (ps.drop k) M ∧ Below W2.heap.size W2 wr) (fun i _ => m - (intOf i).toNat)
    case atStart => exact ⟨0, _, _, by omega, rfl, OR'.out, OC'.out, bd_zero G, bd_zero V, by rw [List.drop_zero, rowsL, Int.toNat_natCast], by rw [List.drop_zero, colsL, Int.toNat_natCast], BW.out⟩
    case round =>
      obtain ⟨k, L, M, hk, rfl, ho1, ho2, hbd1, hbd2, hn1, hn2, hbw⟩ := hrel
      have HN1 := Lib.hid hn1; have HN2 := Lib.hid hn2
      clear hn1 hn2
      by_cases hlt : k < m
      · obtain ⟨bb, oo, x, rfl, hg1, hx, x0⟩ := RP.out.at_ hlt
        have HX := Lib.hid hx
        replace x0 := cell_keep x0 hg1 hbw
        have b0 := cell_keep A0.out AL.out hbw
        have hxr := HIN.out x (List.mem_of_getElem? hx)
        have hx0 : 0 ≤ x := hxr.1
        have hx64 : x ≤ 64 := by have := HWH.out; omega
        have hV0 : (1 : Int) ≤ (V : Int) := by omega
        have hrr := row_in HW.out hxr
        have hcc := col_in (x := x) HW.out
        obtain ⟨j, hj⟩ : ∃ j : Nat, x / (V : Int) = (j : Int) := ⟨(x / (V : Int)).toNat, by omega⟩
        obtain ⟨i, hi⟩ : ∃ i : Nat, x % (V : Int) = (i : Int) := ⟨(x % (V : Int)).toNat, by omega⟩
        have hjG : j < G := by omega
        have hiV : i < V := by omega
        have hl1 := ho1.len; have hl2 := ho2.len
        obtain ⟨y, hy⟩ : ∃ y, L[j]? = some y := ⟨_, List.getElem?_eq_getElem (show j < L.length by omega)⟩
        obtain ⟨z, hz⟩ : ∃ z, M[i]? = some z := ⟨_, List.getElem?_eq_getElem (show i < M.length by omega)⟩
        have hyb := bd_at hbd1 hy; have hzb := bd_at hbd2 hz
        have HY := Lib.hid hy; have HZ := Lib.hid hz; have HYB := Lib.hid hyb; have HZB := Lib.hid hzb
        have HBD1 := Lib.hid hbd1; have HBD2 := Lib.hid hbd2
        have hwy : IntKind.i64.wrap ((k : Int) + 1) = (k : Int) + 1 := IntWalk.i64_in _ (by omega)
        have hwz1 : IntKind.i64.wrap (y + ((k : Int) + 1)) = y + ((k : Int) + 1) := IntWalk.i64_in _ (by omega)
        have hwz2 : IntKind.i64.wrap (z + ((k : Int) + 1)) = z + ((k : Int) + 1) := IntWalk.i64_in _ (by omega)
        have HF1 := Lib.hid (show rowF V x = j by rw [rowF, hj]; simp)
        have HF2 := Lib.hid (show colF V x = i by rw [colF, hi]; simp)
        have c0 := ho1.cell hy
        have f0 := ho1.frozen j
        have hlr : gr < wr.heap.size := by rcases ho1.some_ (k := 0) (by omega) with ⟨g9, h9, _, h8⟩; injection h9 with h9; injection h9 with h9; omega
        have hlc : gc < wr.heap.size := by rcases ho2.some_ (k := 0) (by omega) with ⟨g9, h9, _, h8⟩; injection h9 with h9; injection h9 with h9; omega
        obtain ⟨o1, e1⟩ := ho1.stored j (y + ((k : Int) + 1))
        have o2 := ho2.other e1 (fun a ha => by injection ha with ha; subst ha; intro h; injection h with h; exact HNE.out h.symm)
        have hb1 := hbw.grown e1 hbw.size (fun g h => by injection h with h; have := HGR.out; omega)
        obtain ⟨W5, hW5⟩ : ∃ W5, W5 = wr.setCell ⟨gr, j, none⟩ (.int .i64 (y + ((k : Int) + 1))) := ⟨_, rfl⟩
        rw [← hW5] at o1 o2 e1 hb1
        have O1 := Lib.hid o1; have O2 := Lib.hid o2; have HB1 := Lib.hid hb1
        have HE1 := Lib.hid e1
        have hj0 : (0 : Int) ≤ (j : Int) := by omega
        have hj1 : (j : Int) < (G : Int) := by omega
        have hi0 : (0 : Int) ≤ (i : Int) := by omega
        have hi1 : (i : Int) < (V : Int) := by omega
        have d0 := O2.out.cell HZ.out
        have d1 := O2.out.frozen i
        have b5 : W5.cell? ⟨w.heap.size, 0, none⟩ = some (.int .i64 (V : Int)) := cell_keep A0.out AL.out HB1.out
        have hlc5 : gc < W5.heap.size := Nat.lt_of_lt_of_le hlc HE1.out.size
        obtain ⟨o3, e3⟩ := O2.out.stored i (z + ((k : Int) + 1))
        have o4 := O1.out.other e3 (fun a ha => by injection ha with ha; subst ha; intro h; injection h with h; exact HNE.out h)
        have hb3 := HB1.out.grown e3 HB1.out.size (fun g h => by injection h with h; have := HGC.out; omega)
        have O3 := Lib.hid o3; have O4 := Lib.hid o4; have HB3 := Lib.hid hb3
        clear o1 o2 o3 o4 e1 e3 hb1 hb3 ho1 ho2 hbd1 hbd2 hbw hxr hrr hcc hy hz hyb hzb hl1 hl2 hx
        go_upto_region 6 with fail
        rw [← hW5]
        clear hW5 c0 f0 b0 x0
        go_wp2
        go_roundw
        case rel => exact ⟨k + 1, L.set j (y + ((k : Int) + 1)), M.set i (z + ((k : Int) + 1)), by omega, by go_num, O4.out, O3.out, bd_set HBD1.out HYB.out (by omega), bd_set HBD2.out HZB.out (by omega), by rw [HN1.out, lineL_drop HX.out, HF1.out, List.getD_eq_getElem?_getD, HY.out]; rfl, by rw [HN2.out, lineL_drop HX.out, HF2.out, List.getD_eq_getElem?_getD, HZ.out]; rfl, HB3.out⟩
        case measure => simp [intOf]; omega
      · have HE1 := Lib.hid (show rowsL V G ps = L by rw [HN1.out, List.drop_of_length_le (by have := HPL.out; omega)]; rfl)
        have HE2 := Lib.hid (show colsL V ps = M by rw [HN2.out, List.drop_of_length_le (by have := HPL.out; omega)]; rfl)
        have HO1 := Lib.hid (ho1.lower B.out.size); have HO2 := Lib.hid (ho2.lower B.out.size)
        have HB := Lib.hid hbw
        clear ho1 ho2 hbw hbd1 hbd2
        go_wp2
        go_ret2
        exact ⟨_, _, rfl, by rw [HE1.out]; exact HO1.out, by rw [HE2.out]; exact HO2.out, B.out.trans (HB.out.mono B.out.size)⟩

end Go.Proofs.Ytphjkmikleldcaa
