/-
  Contracts: MakePuzzle.
-/
import Derived.Test.YtkdfilhiljfanaaAA
import Derived.Test.YtkdfilhiljfanaaA7
namespace Go.Proofs.Ytkdfilhiljfanaa
open Go.RowKit

def mkV (e x : Int) : Int := if (x - 1).tmod e = 0 then x else 0
/-- The numbers of a list's cells that are not asked for are taken away. -/
def mkL (e : Int) : Nat → List Int → List Int → List Int
  | _, [], L => L
  | i, c :: t, L => mkL e (i + 1) t (if (i : Int) % e = 0 then L else L.set c.toNat 0)
theorem mkL_drop {e : Int} {ps L : List Int} {k : Nat} {c : Int} (hx : ps[k]? = some c) : mkL e k (ps.drop k) L = mkL e (k + 1) (ps.drop (k + 1)) (if (k : Int) % e = 0 then L else L.set c.toNat 0) := by
  rw [drop_cons_of hx]; rfl
theorem mkL_len (e : Int) : ∀ (ps : List Int) (i : Nat) (L : List Int), (mkL e i ps L).length = L.length
  | [], _, _ => rfl
  | c :: t, i, L => by rw [mkL, mkL_len e t]; split <;> simp
theorem mkL_miss (e : Int) (c : Nat) : ∀ (ps : List Int) (i : Nat) (L : List Int), (∀ x ∈ ps, 0 ≤ x) → (c : Int) ∉ ps → (mkL e i ps L)[c]? = L[c]?
  | [], _, _, _, _ => rfl
  | x :: t, i, L, hr, h => by
    rw [mkL, mkL_miss e c t (i + 1) _ (fun y hy => hr y (List.mem_cons_of_mem _ hy)) (fun hm => h (List.mem_cons_of_mem _ hm))]
    have h0 := hr x List.mem_cons_self
    have h1 : (c : Int) ≠ x := fun e => h (e ▸ List.mem_cons_self)
    split
    · rfl
    · rw [List.getElem?_set_ne (by omega)]
theorem mkL_hit (e : Int) (c : Nat) : ∀ (ps : List Int) (i j : Nat) (L : List Int), (∀ x ∈ ps, 0 ≤ x) → ps.Nodup → ps[j]? = some (c : Int) → (mkL e i ps L)[c]? = if ((i + j : Nat) : Int) % e = 0 then L[c]? else L[c]?.map fun _ => 0
  | [], _, _, _, _, _, h => by simp at h
  | x :: t, i, 0, L, hr, hn, h => by
    simp at h; subst h
    rw [List.nodup_cons] at hn
    rw [mkL, mkL_miss e c t (i + 1) _ (fun y hy => hr y (List.mem_cons_of_mem _ hy)) hn.1, Nat.add_zero, Int.toNat_natCast]
    split
    · rfl
    · rw [List.getElem?_set]
      by_cases hc : c < L.length
      · rw [if_pos rfl, if_pos hc, List.getElem?_eq_getElem hc]; rfl
      · rw [if_pos rfl, if_neg hc, List.getElem?_eq_none (by omega)]; rfl
  | x :: t, i, j + 1, L, hr, hn, h => by
    rw [List.nodup_cons] at hn
    have ht : t[j]? = some (c : Int) := by simpa using h
    have h0 := hr x List.mem_cons_self
    have h1 : (c : Int) ≠ x := fun e => hn.1 (e ▸ List.mem_of_getElem? ht)
    rw [mkL, mkL_hit e c t (i + 1) j _ (fun y hy => hr y (List.mem_cons_of_mem _ hy)) hn.2 ht, show i + 1 + j = i + (j + 1) by omega]
    have h2 : (if (i : Int) % e = 0 then L else L.set x.toNat 0)[c]? = L[c]? := by
      split
      · rfl
      · rw [List.getElem?_set_ne (by omega)]
    rw [h2]
theorem mk_eq {W H a b e : Int} {xs ps : List Int} (hN : 1 ≤ W * H) (ht : tourB W H xs a b ps = true) : mkL e 0 ps (numsL W H ps) = (numsL W H ps).map (mkV e) := by
  have T := tour_tells ht hN
  have hr : ∀ x ∈ ps, 0 ≤ x := fun x hx => (tour_in ht x hx).1
  refine List.ext_getElem? fun c => ?_
  rw [List.getElem?_map]
  by_cases hc : c < (W * H).toNat
  · rcases T.at_ hc with h | ⟨i, h1, h2⟩
    · by_cases hm : (c : Int) ∈ ps
      · obtain ⟨i, hi⟩ := List.mem_iff_getElem?.1 hm
        have := T.num i _ hi
        rw [Int.toNat_natCast, h] at this
        injection this with this; omega
      · rw [mkL_miss e c ps 0 _ hr hm, h]
        simp [mkV]
    · rw [mkL_hit e c ps 0 i _ hr T.nodup h1, h2, Nat.zero_add]
      have h3 : ((i : Int) + 1 - 1).tmod e = (i : Int) % e := by
        rw [show (i : Int) + 1 - 1 = (i : Int) by omega]; exact Int.tmod_eq_emod_of_nonneg (by omega)
      simp only [Option.map_some, mkV, h3]
      split <;> rfl
  · have h1 : (numsL W H ps).length = (W * H).toNat := T.len
    rw [List.getElem?_eq_none (by rw [mkL_len]; omega), List.getElem?_eq_none (by omega)]; rfl
theorem nums_rng {W H a b x : Int} {xs ps : List Int} {k : Nat} (hN : 1 ≤ W * H ∧ W * H ≤ 64) (ht : tourB W H xs a b ps = true) (hx : (numsL W H ps)[k]? = some x) : 0 ≤ x ∧ x ≤ 64 := by
  have T := tour_tells ht hN.1
  have hk : k < (W * H).toNat := by have := (List.getElem?_eq_some_iff.1 hx).1; have := T.len; omega
  rcases T.at_ hk with h | ⟨i, h1, h2⟩
  · rw [hx] at h; injection h with h; omega
  · rw [hx] at h2; injection h2 with h2
    have h3 := (List.getElem?_eq_some_iff.1 h1).1
    have h4 := T.le
    omega
def MakePuzzle_ok (W H : Int) (xs : List Int) (a b : Int) (ps : List Int) (e : Int) : Bool := pzB W H xs a b && (tourB W H xs a b ps && inB e 1 20)
def MakePuzzle_xs (_ _ : Int) (xs : List Int) (_ _ : Int) (_ : List Int) (_ : Int) : List Int := xs
def MakePuzzle_ns (W H : Int) (_ : List Int) (_ _ : Int) (ps : List Int) (e : Int) : List Int := (numsL W H ps).map (mkV e)
theorem pzB_two {W H a b : Int} {xs : List Int} (h : pzB W H xs a b = true) : twoV W H xs a b = true := by simp only [pzB, Bool.and_eq_true] at h; exact h.1
theorem pzB_sizes {W H a b : Int} {xs : List Int} (h : pzB W H xs a b = true) : (1 ≤ W * H ∧ W * H ≤ 64) ∧ xs.length ≤ 64 := by
  have h3 := good_N (two_gK (pzB_two h))
  have h4 := cellsL_len (two_gK (pzB_two h))
  exact ⟨h3, by omega⟩
theorem len_MakePuzzle (W H : Int) (xs : List Int) (a b : Int) (ps : List Int) (e : Int) : (zl (MakePuzzle_ok W H xs a b ps e) (MakePuzzle_xs W H xs a b ps e)).length ≤ 1000000 ∧ (zl (MakePuzzle_ok W H xs a b ps e) (MakePuzzle_ns W H xs a b ps e)).length ≤ 1000000 := by
  constructor <;> refine zl_le fun h => ?_ <;> simp only [MakePuzzle_ok, Bool.and_eq_true] at h <;> have := pzB_sizes h.1
  · simp only [MakePuzzle_xs]; omega
  · simp only [MakePuzzle_ns, List.length_map, numsL, numL_len, List.length_replicate]; omega

set_option maxRecDepth 100000 in
set_option maxHeartbeats 2000000 in
theorem pzNumbers0_any (W H : Int) (A : Option Addr) (n c : Nat) (A2 : Option Addr) (m c2 : Nat) (ps : List Int) (w : World) (hp : Rd w A2 m ps) (hN : 1 ≤ W * H ∧ W * H ≤ 64) (hin : ∀ x ∈ ps, 0 ≤ x ∧ x < W * H) :
    Calls Try.prog 68 #[brd W H A n c, .slice A2 m c2] w fun e w' => ∃ g, e = .returned (.slice (some ⟨g, 0, none⟩) (W * H).toNat (W * H).toNat) ∧ OwnI 3 w' w.heap.size (some ⟨g, 0, none⟩) (W * H).toNat (W * H).toNat (numsL W H ps) ∧ Below w.heap.size w w' := by
  obtain ⟨i0, hi, hz0, hz1, hz2⟩ := info_parts infoI
  have HI := Lib.hid hi; have HZ0 := Lib.hid hz0; have HZ1 := Lib.hid hz1; have HZ2 := Lib.hid hz2
  clear hi hz0 hz1 hz2
  have HPL := Lib.hid hp.1
  have m9 := hp.2.1
  obtain ⟨N, hWH⟩ : ∃ N : Nat, W * H = (N : Int) := ⟨(W * H).toNat, by omega⟩
  rw [hWH] at hin hN
  obtain ⟨hN1, hN2⟩ := hN
  have hN0 : (0 : Int) ≤ (N : Int) := by omega
  have HIN := Lib.hid hin
  have HWH := Lib.hid (show (W * H).toNat = N by omega)
  clear hin
  obtain ⟨W2, hW2⟩ : ∃ W2, W2 = w.alloc (.cells #[.int .i64 W, .int .i64 H, .slice A n c] 31) := ⟨_, rfl⟩
  have a0 : W2.cell? ⟨w.heap.size, 0, none⟩ = some (.int .i64 W) := by rw [hW2]; go_simp
  have a1 : W2.cell? ⟨w.heap.size, 1, none⟩ = some (.int .i64 H) := by rw [hW2]; go_simp
  have hsz : W2.heap.size = w.heap.size + 1 := by rw [hW2]; simp
  have B := Lib.hid (show Below w.heap.size w W2 by rw [hW2]; exact below_new (Below.refl _ _) _)
  have RP := Lib.hid (hp.keep B.out)
  clear hp
  go_enter Try.func68, Try.ntmps68
  go_wp2_with (at_make; refine wpList_make_full _ rfl _ _ 22 rfl W2.heap.size 3 i0 (.int .i64 0) 1 Try.underlying22 HI.out HZ0.out HZ1.out .i64 .i64 _ _ N rfl rfl rfl rfl (by rw [HZ2.out]; omega) (by unfold maxLen; omega) (by simp; omega) ?_; intro w1 hown1 hg1)
  rw [← hW2] at hown1 hg1
  have hO1 : OwnI 3 w1 W2.heap.size (some ⟨W2.heap.size, 0, none⟩) N N (List.replicate N 0) := by
    unfold OwnI
    rw [show N * 1 = N from by omega] at hown1
    have e : (madeCells (Value.cells (.int .i64 0)) N).toList = List.replicate N (.int .i64 0) := toList_madeCells_one (.int .i64 0) N
    rw [e] at hown1
    simpa using hown1
  obtain ⟨fb, hfb⟩ : ∃ fb, fb = W2.heap.size := ⟨_, rfl⟩
  rw [hsz] at hO1 hfb
  rw [hsz] at hown1
  have hfb9 : fb = w.heap.size + 1 := hfb
  rw [← hfb9] at hO1 ⊢
  rw [← hsz] at hfb
  clear hW2 hfb9
  have hg2 : W2.grownBy w1 (some fb) := ⟨hg1.os, hg1.tape, hg1.output, hg1.size, fun i hi _ => hg1.block i hi (by simp)⟩
  have FAR := Lib.hid hO1; have G1 := Lib.hid hg2
  have HFB := Lib.hid hfb
  have hw8 := hg1.size
  clear hfb hown1 hg1 hg2 hO1 hWH
  go_loopw [16] (fun i wr => ∃ (k : Nat) (L : List Int), k ≤ m ∧ i = .int .i64 k ∧ OwnI 3 wr fb (some ⟨fb, 0, none⟩) N N L ∧ numsL W H ps = numL k (ps.drop k) L ∧ W2.grownBy wr (some fb)) (fun i _ => m - (intOf i).toNat)
  case atStart => exact ⟨0, _, by omega, rfl, FAR.out, by rw [numsL, HWH.out]; simp, G1.out⟩
  case round =>
    obtain ⟨k, L, hk, rfl, hown, hnum, hgw⟩ := hrel
    have HNUM := Lib.hid hnum
    clear hnum
    by_cases hlt : k < m
    · obtain ⟨bb, oo, x, rfl, hg1, hx, x0⟩ := RP.out.at_ hlt
      have HX := Lib.hid hx
      obtain ⟨hx0, hx1⟩ := HIN.out x (List.mem_of_getElem? hx)
      have hne : bb ≠ fb := by have := HFB.out; omega
      replace x0 := hgw.cell x0 (by simpa using hne)
      clear hx
      obtain ⟨j, rfl⟩ : ∃ j : Nat, x = (j : Int) := ⟨x.toNat, by omega⟩
      have hll := hown.len
      obtain ⟨y0, hy⟩ : ∃ y, L[j]? = some y := ⟨_, List.getElem?_eq_getElem (show j < L.length by omega)⟩
      have c0 := hown.cell hy
      have f0 := hown.frozen j
      have hl0 : fb < wr.heap.size := by rcases hown.some_ (k := 0) (by omega) with ⟨g9, h9, _, h8⟩; injection h9 with h9; injection h9 with h9; omega
      obtain ⟨o1, g1⟩ := hown.stored j ((k : Int) + 1)
      have O1 := Lib.hid o1; have GW := Lib.hid (grown_next hgw g1)
      clear o1 g1 hgw hown hll hy hne
      go_wp2
      go_roundw
      case rel => exact ⟨k + 1, L.set j ((k : Int) + 1), by omega, by go_num, O1.out, by rw [HNUM.out, numL_drop HX.out]; rfl, GW.out⟩
      case measure => simp [intOf]; omega
    · have HE := Lib.hid (show numsL W H ps = L by rw [HNUM.out, List.drop_of_length_le (by have := HPL.out; omega)]; rfl)
      have HO := Lib.hid hown
      have HG2 := Lib.hid hgw
      clear hown hgw
      go_wp2
      go_ret
      rw [HWH.out]
      exact ⟨_, rfl, by rw [HE.out]; exact HO.out.lower (by have := HFB.out; have := B.out.size; omega), B.out.trans (below_of_grown HG2.out B.out.size (fun g h => by injection h with h; have := HFB.out; have := B.out.size; omega))⟩

theorem pzNumbers_any (W H : Int) (A : Option Addr) (n c : Nat) (A2 : Option Addr) (m c2 k : Nat) (ps : List Int) (w : World) (hp : Rd w A2 m ps) (hN : 1 ≤ W * H ∧ W * H ≤ 64) (hin : ∀ x ∈ ps, 0 ≤ x ∧ x < W * H) (hk : (W * H).toNat = k) :
    Calls Try.prog 68 #[brd W H A n c, .slice A2 m c2] w fun e w' => ∃ g, e = .returned (.slice (some ⟨g, 0, none⟩) k k) ∧ OwnI 3 w' w.heap.size (some ⟨g, 0, none⟩) k k (numsL W H ps) ∧ Below w.heap.size w w' := by
  subst hk; exact pzNumbers0_any W H A n c A2 m c2 ps w hp hN hin

set_option maxRecDepth 100000 in
set_option maxHeartbeats 1000000 in
theorem impl_MakePuzzle (W H : Int) (A : Option Addr) (n c : Nat) (xs : List Int) (a b : Int) (A3 : Option Addr) (m3 c3 : Nat) (ps : List Int) (q : Int) (w : World) (ha : Rd w A n xs) (hq : Rd w A3 m3 ps) :
    Calls Try.prog 36 #[brd W H A n c, lpr a b, .slice A3 m3 c3, .int .i64 q] w fun e w' => ∃ A' n' c' A2' n2' c2', e = .returned (.tuple #[pzv (zi (MakePuzzle_ok W H xs a b ps q) W) (zi (MakePuzzle_ok W H xs a b ps q) H) A' n' c' (zi (MakePuzzle_ok W H xs a b ps q) a) (zi (MakePuzzle_ok W H xs a b ps q) b) A2' n2' c2', .bool (MakePuzzle_ok W H xs a b ps q)]) ∧ OwnI 3 w' w.heap.size A' n' c' (zl (MakePuzzle_ok W H xs a b ps q) (MakePuzzle_xs W H xs a b ps q)) ∧ OwnI 3 w' w.heap.size A2' n2' c2' (zl (MakePuzzle_ok W H xs a b ps q) (MakePuzzle_ns W H xs a b ps q)) ∧ Apart A' A2' ∧ Below w.heap.size w w' := by
  have RA0 := Lib.hid ha; have RQ0 := Lib.hid hq
  have HLA := Lib.hid ha.1; have HPL := Lib.hid hq.1; have m9 := hq.2.1
  clear ha hq
  obtain ⟨W2, hW2⟩ : ∃ W2, W2 = ((w.alloc (.cells #[.int .i64 W, .int .i64 H, .slice A n c] 31)).alloc (.cells #[.int .i64 a, .int .i64 b] 32)).alloc (.cells #[.int .i64 0, .int .i64 0, .slice none 0 0, .int .i64 0, .int .i64 0, .slice none 0 0] 34) := ⟨_, rfl⟩
  have BB := Lib.hid (show Bx W2 (w.heap.size) #[.int .i64 W, .int .i64 H, .slice A n c] 31 by rw [hW2]; exact ((Bx.new (w) #[.int .i64 W, .int .i64 H, .slice A n c] 31).keep (below_new (Below.refl _ _) (.cells #[.int .i64 a, .int .i64 b] 32))).keep (below_new (Below.refl _ _) (.cells #[.int .i64 0, .int .i64 0, .slice none 0 0, .int .i64 0, .int .i64 0, .slice none 0 0] 34)))
  have BL := Lib.hid (show Bx W2 (w.heap.size + 1) #[.int .i64 a, .int .i64 b] 32 by rw [hW2]; have := (Bx.new (w.alloc (.cells #[.int .i64 W, .int .i64 H, .slice A n c] 31)) #[.int .i64 a, .int .i64 b] 32).keep (below_new (Below.refl _ _) (.cells #[.int .i64 0, .int .i64 0, .slice none 0 0, .int .i64 0, .int .i64 0, .slice none 0 0] 34)); simpa using this)
  have BR := Lib.hid (show Bx W2 (w.heap.size + 1 + 1) #[.int .i64 0, .int .i64 0, .slice none 0 0, .int .i64 0, .int .i64 0, .slice none 0 0] 34 by rw [hW2]; have := Bx.new ((w.alloc (.cells #[.int .i64 W, .int .i64 H, .slice A n c] 31)).alloc (.cells #[.int .i64 a, .int .i64 b] 32)) #[.int .i64 0, .int .i64 0, .slice none 0 0, .int .i64 0, .int .i64 0, .slice none 0 0] 34; simpa using this)
  have B := Lib.hid (show Below w.heap.size w W2 by rw [hW2]; repeat (first | exact Below.refl _ _ | refine below_new ?_ _))
  have HSZ := Lib.hid (show w.heap.size + 3 ≤ W2.heap.size by rw [hW2]; simp)
  by_cases hpb : pzB W H xs a b = true
  rotate_left
  · have p0 : W2.cell? ⟨w.heap.size, 0, none⟩ = some (.int .i64 W) := BB.out.cell rfl
    have p1 : W2.cell? ⟨w.heap.size, 1, none⟩ = some (.int .i64 H) := BB.out.cell rfl
    have p2 : W2.cell? ⟨w.heap.size, 2, none⟩ = some (.slice A n c) := BB.out.cell rfl
    have l0 : W2.cell? ⟨w.heap.size + 1, 0, none⟩ = some (.int .i64 a) := BL.out.cell rfl
    have l1 : W2.cell? ⟨w.heap.size + 1, 1, none⟩ = some (.int .i64 b) := BL.out.cell rfl
    go_enter Try.func36, Try.ntmps36
    go_wp2_with fail
    rw [← hW2]
    clear hW2
    clear p0 p1 p2
    clear l0 l1
    refine (isPuzzleBoard_any W H A n c xs a b _ (RA0.out.keep B.out)).mono ?_
    rw [show pzB W H xs a b = false by simpa using hpb]
    rintro e wv ⟨rfl, hb⟩
    replace BB := Lib.hid (BB.out.keep hb)
    replace BL := Lib.hid (BL.out.keep hb)
    replace BR := Lib.hid (BR.out.keep hb)
    replace HSZ := Lib.hid (Nat.le_trans HSZ.out hb.size)
    replace B := Lib.hid (below_next B.out hb)
    clear hb
    have y0 : wv.cell? ⟨w.heap.size + 1 + 1, 0, none⟩ = some (.int .i64 0) := BR.out.cell rfl
    have y1 : wv.cell? ⟨w.heap.size + 1 + 1, 1, none⟩ = some (.int .i64 0) := BR.out.cell rfl
    have y2 : wv.cell? ⟨w.heap.size + 1 + 1, 2, none⟩ = some (.slice none 0 0) := BR.out.cell rfl
    have y3 : wv.cell? ⟨w.heap.size + 1 + 1, 3, none⟩ = some (.int .i64 0) := BR.out.cell rfl
    have y4 : wv.cell? ⟨w.heap.size + 1 + 1, 4, none⟩ = some (.int .i64 0) := BR.out.cell rfl
    have y5 : wv.cell? ⟨w.heap.size + 1 + 1, 5, none⟩ = some (.slice none 0 0) := BR.out.cell rfl
    have h0 : wv.frozen? ⟨w.heap.size + 1 + 1, 0, none⟩ = false := BR.out.frozen 0
    have h1 : wv.frozen? ⟨w.heap.size + 1 + 1, 1, none⟩ = false := BR.out.frozen 1
    have h2 : wv.frozen? ⟨w.heap.size + 1 + 1, 2, none⟩ = false := BR.out.frozen 2
    have h3 : wv.frozen? ⟨w.heap.size + 1 + 1, 3, none⟩ = false := BR.out.frozen 3
    have h4 : wv.frozen? ⟨w.heap.size + 1 + 1, 4, none⟩ = false := BR.out.frozen 4
    have h5 : wv.frozen? ⟨w.heap.size + 1 + 1, 5, none⟩ = false := BR.out.frozen 5
    have HNO := Lib.hid (show MakePuzzle_ok W H xs a b ps q = false by rw [MakePuzzle_ok, show pzB W H xs a b = false by simpa using hpb]; simp)
    go_wp2
    refine bodyPost_ret (v := .tuple #[pzv 0 0 none 0 0 0 0 none 0 0, .bool false]) (by simp [results, Try.results36, go_sem, y0, y1, y2, y3, y4, y5]) rfl ⟨none, 0, 0, none, 0, 0, by rw [HNO.out]; rfl, by rw [HNO.out]; exact OwnI.none_ _ _ _, by rw [HNO.out]; exact OwnI.none_ _ _ _, Apart.none_left _, ?_⟩
    repeat (first | refine below_setC ?_ (by omega) _ | exact B.out)
  · have HGB0 := Lib.hid (two_gK (pzB_two hpb))
    by_cases ht : tourB W H xs a b ps = true
    rotate_left
    · have p0 : W2.cell? ⟨w.heap.size, 0, none⟩ = some (.int .i64 W) := BB.out.cell rfl
      have p1 : W2.cell? ⟨w.heap.size, 1, none⟩ = some (.int .i64 H) := BB.out.cell rfl
      have p2 : W2.cell? ⟨w.heap.size, 2, none⟩ = some (.slice A n c) := BB.out.cell rfl
      have l0 : W2.cell? ⟨w.heap.size + 1, 0, none⟩ = some (.int .i64 a) := BL.out.cell rfl
      have l1 : W2.cell? ⟨w.heap.size + 1, 1, none⟩ = some (.int .i64 b) := BL.out.cell rfl
      go_enter Try.func36, Try.ntmps36
      go_wp2_with fail
      rw [← hW2]
      clear hW2
      clear p0 p1 p2
      clear l0 l1
      refine (isPuzzleBoard_any W H A n c xs a b _ (RA0.out.keep B.out)).mono ?_
      rw [hpb]
      rintro e wv ⟨rfl, hb⟩
      replace BB := Lib.hid (BB.out.keep hb)
      replace BL := Lib.hid (BL.out.keep hb)
      replace BR := Lib.hid (BR.out.keep hb)
      replace HSZ := Lib.hid (Nat.le_trans HSZ.out hb.size)
      replace B := Lib.hid (below_next B.out hb)
      clear hb
      have p0 : wv.cell? ⟨w.heap.size, 0, none⟩ = some (.int .i64 W) := BB.out.cell rfl
      have p1 : wv.cell? ⟨w.heap.size, 1, none⟩ = some (.int .i64 H) := BB.out.cell rfl
      have p2 : wv.cell? ⟨w.heap.size, 2, none⟩ = some (.slice A n c) := BB.out.cell rfl
      have l0 : wv.cell? ⟨w.heap.size + 1, 0, none⟩ = some (.int .i64 a) := BL.out.cell rfl
      have l1 : wv.cell? ⟨w.heap.size + 1, 1, none⟩ = some (.int .i64 b) := BL.out.cell rfl
      go_wp2_with fail
      clear p0 p1 p2
      clear l0 l1
      refine (isTour_any W H A n c xs a b A3 m3 c3 ps _ (RA0.out.keep B.out) (RQ0.out.keep B.out) HGB0.out).mono ?_
      rw [show tourB W H xs a b ps = false by simpa using ht]
      rintro e wv ⟨rfl, hb⟩
      replace BB := Lib.hid (BB.out.keep hb)
      replace BL := Lib.hid (BL.out.keep hb)
      replace BR := Lib.hid (BR.out.keep hb)
      replace HSZ := Lib.hid (Nat.le_trans HSZ.out hb.size)
      replace B := Lib.hid (below_next B.out hb)
      clear hb
      have y0 : wv.cell? ⟨w.heap.size + 1 + 1, 0, none⟩ = some (.int .i64 0) := BR.out.cell rfl
      have y1 : wv.cell? ⟨w.heap.size + 1 + 1, 1, none⟩ = some (.int .i64 0) := BR.out.cell rfl
      have y2 : wv.cell? ⟨w.heap.size + 1 + 1, 2, none⟩ = some (.slice none 0 0) := BR.out.cell rfl
      have y3 : wv.cell? ⟨w.heap.size + 1 + 1, 3, none⟩ = some (.int .i64 0) := BR.out.cell rfl
      have y4 : wv.cell? ⟨w.heap.size + 1 + 1, 4, none⟩ = some (.int .i64 0) := BR.out.cell rfl
      have y5 : wv.cell? ⟨w.heap.size + 1 + 1, 5, none⟩ = some (.slice none 0 0) := BR.out.cell rfl
      have h0 : wv.frozen? ⟨w.heap.size + 1 + 1, 0, none⟩ = false := BR.out.frozen 0
      have h1 : wv.frozen? ⟨w.heap.size + 1 + 1, 1, none⟩ = false := BR.out.frozen 1
      have h2 : wv.frozen? ⟨w.heap.size + 1 + 1, 2, none⟩ = false := BR.out.frozen 2
      have h3 : wv.frozen? ⟨w.heap.size + 1 + 1, 3, none⟩ = false := BR.out.frozen 3
      have h4 : wv.frozen? ⟨w.heap.size + 1 + 1, 4, none⟩ = false := BR.out.frozen 4
      have h5 : wv.frozen? ⟨w.heap.size + 1 + 1, 5, none⟩ = false := BR.out.frozen 5
      have HNO := Lib.hid (show MakePuzzle_ok W H xs a b ps q = false by rw [MakePuzzle_ok, show tourB W H xs a b ps = false by simpa using ht]; simp)
      go_wp2
      refine bodyPost_ret (v := .tuple #[pzv 0 0 none 0 0 0 0 none 0 0, .bool false]) (by simp [results, Try.results36, go_sem, y0, y1, y2, y3, y4, y5]) rfl ⟨none, 0, 0, none, 0, 0, by rw [HNO.out]; rfl, by rw [HNO.out]; exact OwnI.none_ _ _ _, by rw [HNO.out]; exact OwnI.none_ _ _ _, Apart.none_left _, ?_⟩
      repeat (first | refine below_setC ?_ (by omega) _ | exact B.out)
    · by_cases he1 : q < 1
      · have p0 : W2.cell? ⟨w.heap.size, 0, none⟩ = some (.int .i64 W) := BB.out.cell rfl
        have p1 : W2.cell? ⟨w.heap.size, 1, none⟩ = some (.int .i64 H) := BB.out.cell rfl
        have p2 : W2.cell? ⟨w.heap.size, 2, none⟩ = some (.slice A n c) := BB.out.cell rfl
        have l0 : W2.cell? ⟨w.heap.size + 1, 0, none⟩ = some (.int .i64 a) := BL.out.cell rfl
        have l1 : W2.cell? ⟨w.heap.size + 1, 1, none⟩ = some (.int .i64 b) := BL.out.cell rfl
        go_enter Try.func36, Try.ntmps36
        go_wp2_with fail
        rw [← hW2]
        clear hW2
        clear p0 p1 p2
        clear l0 l1
        refine (isPuzzleBoard_any W H A n c xs a b _ (RA0.out.keep B.out)).mono ?_
        rw [hpb]
        rintro e wv ⟨rfl, hb⟩
        replace BB := Lib.hid (BB.out.keep hb)
        replace BL := Lib.hid (BL.out.keep hb)
        replace BR := Lib.hid (BR.out.keep hb)
        replace HSZ := Lib.hid (Nat.le_trans HSZ.out hb.size)
        replace B := Lib.hid (below_next B.out hb)
        clear hb
        have p0 : wv.cell? ⟨w.heap.size, 0, none⟩ = some (.int .i64 W) := BB.out.cell rfl
        have p1 : wv.cell? ⟨w.heap.size, 1, none⟩ = some (.int .i64 H) := BB.out.cell rfl
        have p2 : wv.cell? ⟨w.heap.size, 2, none⟩ = some (.slice A n c) := BB.out.cell rfl
        have l0 : wv.cell? ⟨w.heap.size + 1, 0, none⟩ = some (.int .i64 a) := BL.out.cell rfl
        have l1 : wv.cell? ⟨w.heap.size + 1, 1, none⟩ = some (.int .i64 b) := BL.out.cell rfl
        go_wp2_with fail
        clear p0 p1 p2
        clear l0 l1
        refine (isTour_any W H A n c xs a b A3 m3 c3 ps _ (RA0.out.keep B.out) (RQ0.out.keep B.out) HGB0.out).mono ?_
        rw [ht]
        rintro e wv ⟨rfl, hb⟩
        replace BB := Lib.hid (BB.out.keep hb)
        replace BL := Lib.hid (BL.out.keep hb)
        replace BR := Lib.hid (BR.out.keep hb)
        replace HSZ := Lib.hid (Nat.le_trans HSZ.out hb.size)
        replace B := Lib.hid (below_next B.out hb)
        clear hb
        have y0 : wv.cell? ⟨w.heap.size + 1 + 1, 0, none⟩ = some (.int .i64 0) := BR.out.cell rfl
        have y1 : wv.cell? ⟨w.heap.size + 1 + 1, 1, none⟩ = some (.int .i64 0) := BR.out.cell rfl
        have y2 : wv.cell? ⟨w.heap.size + 1 + 1, 2, none⟩ = some (.slice none 0 0) := BR.out.cell rfl
        have y3 : wv.cell? ⟨w.heap.size + 1 + 1, 3, none⟩ = some (.int .i64 0) := BR.out.cell rfl
        have y4 : wv.cell? ⟨w.heap.size + 1 + 1, 4, none⟩ = some (.int .i64 0) := BR.out.cell rfl
        have y5 : wv.cell? ⟨w.heap.size + 1 + 1, 5, none⟩ = some (.slice none 0 0) := BR.out.cell rfl
        have h0 : wv.frozen? ⟨w.heap.size + 1 + 1, 0, none⟩ = false := BR.out.frozen 0
        have h1 : wv.frozen? ⟨w.heap.size + 1 + 1, 1, none⟩ = false := BR.out.frozen 1
        have h2 : wv.frozen? ⟨w.heap.size + 1 + 1, 2, none⟩ = false := BR.out.frozen 2
        have h3 : wv.frozen? ⟨w.heap.size + 1 + 1, 3, none⟩ = false := BR.out.frozen 3
        have h4 : wv.frozen? ⟨w.heap.size + 1 + 1, 4, none⟩ = false := BR.out.frozen 4
        have h5 : wv.frozen? ⟨w.heap.size + 1 + 1, 5, none⟩ = false := BR.out.frozen 5
        have HNO := Lib.hid (show MakePuzzle_ok W H xs a b ps q = false by rw [MakePuzzle_ok, show inB q 1 20 = false by rw [Bool.eq_false_iff]; intro h9; have := inB_iff.1 h9; omega]; simp)
        go_wp2
        refine bodyPost_ret (v := .tuple #[pzv 0 0 none 0 0 0 0 none 0 0, .bool false]) (by simp [results, Try.results36, go_sem, y0, y1, y2, y3, y4, y5]) rfl ⟨none, 0, 0, none, 0, 0, by rw [HNO.out]; rfl, by rw [HNO.out]; exact OwnI.none_ _ _ _, by rw [HNO.out]; exact OwnI.none_ _ _ _, Apart.none_left _, ?_⟩
        repeat (first | refine below_setC ?_ (by omega) _ | exact B.out)
      · by_cases he2 : 20 < q
        · have p0 : W2.cell? ⟨w.heap.size, 0, none⟩ = some (.int .i64 W) := BB.out.cell rfl
          have p1 : W2.cell? ⟨w.heap.size, 1, none⟩ = some (.int .i64 H) := BB.out.cell rfl
          have p2 : W2.cell? ⟨w.heap.size, 2, none⟩ = some (.slice A n c) := BB.out.cell rfl
          have l0 : W2.cell? ⟨w.heap.size + 1, 0, none⟩ = some (.int .i64 a) := BL.out.cell rfl
          have l1 : W2.cell? ⟨w.heap.size + 1, 1, none⟩ = some (.int .i64 b) := BL.out.cell rfl
          go_enter Try.func36, Try.ntmps36
          go_wp2_with fail
          rw [← hW2]
          clear hW2
          clear p0 p1 p2
          clear l0 l1
          refine (isPuzzleBoard_any W H A n c xs a b _ (RA0.out.keep B.out)).mono ?_
          rw [hpb]
          rintro e wv ⟨rfl, hb⟩
          replace BB := Lib.hid (BB.out.keep hb)
          replace BL := Lib.hid (BL.out.keep hb)
          replace BR := Lib.hid (BR.out.keep hb)
          replace HSZ := Lib.hid (Nat.le_trans HSZ.out hb.size)
          replace B := Lib.hid (below_next B.out hb)
          clear hb
          have p0 : wv.cell? ⟨w.heap.size, 0, none⟩ = some (.int .i64 W) := BB.out.cell rfl
          have p1 : wv.cell? ⟨w.heap.size, 1, none⟩ = some (.int .i64 H) := BB.out.cell rfl
          have p2 : wv.cell? ⟨w.heap.size, 2, none⟩ = some (.slice A n c) := BB.out.cell rfl
          have l0 : wv.cell? ⟨w.heap.size + 1, 0, none⟩ = some (.int .i64 a) := BL.out.cell rfl
          have l1 : wv.cell? ⟨w.heap.size + 1, 1, none⟩ = some (.int .i64 b) := BL.out.cell rfl
          go_wp2_with fail
          clear p0 p1 p2
          clear l0 l1
          refine (isTour_any W H A n c xs a b A3 m3 c3 ps _ (RA0.out.keep B.out) (RQ0.out.keep B.out) HGB0.out).mono ?_
          rw [ht]
          rintro e wv ⟨rfl, hb⟩
          replace BB := Lib.hid (BB.out.keep hb)
          replace BL := Lib.hid (BL.out.keep hb)
          replace BR := Lib.hid (BR.out.keep hb)
          replace HSZ := Lib.hid (Nat.le_trans HSZ.out hb.size)
          replace B := Lib.hid (below_next B.out hb)
          clear hb
          have y0 : wv.cell? ⟨w.heap.size + 1 + 1, 0, none⟩ = some (.int .i64 0) := BR.out.cell rfl
          have y1 : wv.cell? ⟨w.heap.size + 1 + 1, 1, none⟩ = some (.int .i64 0) := BR.out.cell rfl
          have y2 : wv.cell? ⟨w.heap.size + 1 + 1, 2, none⟩ = some (.slice none 0 0) := BR.out.cell rfl
          have y3 : wv.cell? ⟨w.heap.size + 1 + 1, 3, none⟩ = some (.int .i64 0) := BR.out.cell rfl
          have y4 : wv.cell? ⟨w.heap.size + 1 + 1, 4, none⟩ = some (.int .i64 0) := BR.out.cell rfl
          have y5 : wv.cell? ⟨w.heap.size + 1 + 1, 5, none⟩ = some (.slice none 0 0) := BR.out.cell rfl
          have h0 : wv.frozen? ⟨w.heap.size + 1 + 1, 0, none⟩ = false := BR.out.frozen 0
          have h1 : wv.frozen? ⟨w.heap.size + 1 + 1, 1, none⟩ = false := BR.out.frozen 1
          have h2 : wv.frozen? ⟨w.heap.size + 1 + 1, 2, none⟩ = false := BR.out.frozen 2
          have h3 : wv.frozen? ⟨w.heap.size + 1 + 1, 3, none⟩ = false := BR.out.frozen 3
          have h4 : wv.frozen? ⟨w.heap.size + 1 + 1, 4, none⟩ = false := BR.out.frozen 4
          have h5 : wv.frozen? ⟨w.heap.size + 1 + 1, 5, none⟩ = false := BR.out.frozen 5
          have HNO := Lib.hid (show MakePuzzle_ok W H xs a b ps q = false by rw [MakePuzzle_ok, show inB q 1 20 = false by rw [Bool.eq_false_iff]; intro h9; have := inB_iff.1 h9; omega]; simp)
          go_wp2
          refine bodyPost_ret (v := .tuple #[pzv 0 0 none 0 0 0 0 none 0 0, .bool false]) (by simp [results, Try.results36, go_sem, y0, y1, y2, y3, y4, y5]) rfl ⟨none, 0, 0, none, 0, 0, by rw [HNO.out]; rfl, by rw [HNO.out]; exact OwnI.none_ _ _ _, by rw [HNO.out]; exact OwnI.none_ _ _ _, Apart.none_left _, ?_⟩
          repeat (first | refine below_setC ?_ (by omega) _ | exact B.out)
        · have HPB := Lib.hid hpb; have HT := Lib.hid ht
          have HNN := Lib.hid (pzB_sizes hpb).1
          have HGB := Lib.hid (two_gK (pzB_two hpb))
          have hn : n ≤ 64 := by have := (pzB_sizes hpb).2; have := HLA.out; omega
          obtain ⟨N, hWH⟩ : ∃ N : Nat, W * H = (N : Int) := ⟨(W * H).toNat, by have := HNN.out; omega⟩
          have HWH := Lib.hid hWH
          have hN1 : 1 ≤ N := by have := HNN.out; omega
          have hN64 : N ≤ 64 := by have := HNN.out; omega
          have HK := Lib.hid (show (W * H).toNat = N by omega)
          have HTI := Lib.hid (tour_in ht)
          clear hWH
          have HIN := Lib.hid (show inB q 1 20 = true from inB_iff.2 (by omega))
          have hq1 : 1 ≤ q := by omega
          have hq0 : ¬ q = 0 := by omega
          have p0 : W2.cell? ⟨w.heap.size, 0, none⟩ = some (.int .i64 W) := BB.out.cell rfl
          have p1 : W2.cell? ⟨w.heap.size, 1, none⟩ = some (.int .i64 H) := BB.out.cell rfl
          have p2 : W2.cell? ⟨w.heap.size, 2, none⟩ = some (.slice A n c) := BB.out.cell rfl
          have l0 : W2.cell? ⟨w.heap.size + 1, 0, none⟩ = some (.int .i64 a) := BL.out.cell rfl
          have l1 : W2.cell? ⟨w.heap.size + 1, 1, none⟩ = some (.int .i64 b) := BL.out.cell rfl
          go_enter Try.func36, Try.ntmps36
          go_wp2_with fail
          rw [← hW2]
          clear hW2
          clear p0 p1 p2
          clear l0 l1
          refine (isPuzzleBoard_any W H A n c xs a b _ (RA0.out.keep B.out)).mono ?_
          rw [hpb]
          rintro e wv ⟨rfl, hb⟩
          replace BB := Lib.hid (BB.out.keep hb)
          replace BL := Lib.hid (BL.out.keep hb)
          replace BR := Lib.hid (BR.out.keep hb)
          replace HSZ := Lib.hid (Nat.le_trans HSZ.out hb.size)
          replace B := Lib.hid (below_next B.out hb)
          clear hb
          have p0 : wv.cell? ⟨w.heap.size, 0, none⟩ = some (.int .i64 W) := BB.out.cell rfl
          have p1 : wv.cell? ⟨w.heap.size, 1, none⟩ = some (.int .i64 H) := BB.out.cell rfl
          have p2 : wv.cell? ⟨w.heap.size, 2, none⟩ = some (.slice A n c) := BB.out.cell rfl
          have l0 : wv.cell? ⟨w.heap.size + 1, 0, none⟩ = some (.int .i64 a) := BL.out.cell rfl
          have l1 : wv.cell? ⟨w.heap.size + 1, 1, none⟩ = some (.int .i64 b) := BL.out.cell rfl
          go_wp2_with fail
          clear p0 p1 p2
          clear l0 l1
          refine (isTour_any W H A n c xs a b A3 m3 c3 ps _ (RA0.out.keep B.out) (RQ0.out.keep B.out) HGB0.out).mono ?_
          rw [ht]
          rintro e wv ⟨rfl, hb⟩
          replace BB := Lib.hid (BB.out.keep hb)
          replace BL := Lib.hid (BL.out.keep hb)
          replace BR := Lib.hid (BR.out.keep hb)
          replace HSZ := Lib.hid (Nat.le_trans HSZ.out hb.size)
          replace B := Lib.hid (below_next B.out hb)
          clear hb
          clear hpb ht
          have p0 : wv.cell? ⟨w.heap.size, 0, none⟩ = some (.int .i64 W) := BB.out.cell rfl
          have p1 : wv.cell? ⟨w.heap.size, 1, none⟩ = some (.int .i64 H) := BB.out.cell rfl
          have p2 : wv.cell? ⟨w.heap.size, 2, none⟩ = some (.slice A n c) := BB.out.cell rfl
          go_wp2_with fail
          clear p0 p1 p2
          refine (numbersN_any W H A n c A3 m3 c3 N ps _ (RQ0.out.keep B.out) HNN.out HTI.out HK.out).mono ?_
          rintro e wy ⟨gn, rfl, own, hb⟩
          have ON := Lib.hid (own.lower HSZ.out)
          clear own
          replace BB := Lib.hid (BB.out.keep hb)
          replace BL := Lib.hid (BL.out.keep hb)
          replace BR := Lib.hid (BR.out.keep hb)
          replace HSZ := Lib.hid (Nat.le_trans HSZ.out hb.size)
          replace B := Lib.hid (below_next B.out hb)
          clear hb
          go_wp2
          go_loopw [38] (fun i wr => ∃ (k : Nat) (Lr : List Int), k ≤ m3 ∧ i = .int .i64 k ∧ OwnI 3 wr (w.heap.size + 1 + 1 + 1) (some ⟨gn, 0, none⟩) N N Lr ∧ mkL q 0 ps (numsL W H ps) = mkL q k (ps.drop k) Lr ∧ Bx wr w.heap.size #[.int .i64 W, .int .i64 H, .slice A n c] 31 ∧ Bx wr (w.heap.size + 1) #[.int .i64 a, .int .i64 b] 32 ∧ Bx wr (w.heap.size + 1 + 1) #[.int .i64 0, .int .i64 0, .slice none 0 0, .int .i64 0, .int .i64 0, .slice none 0 0] 34 ∧ w.heap.size + 1 + 1 + 1 ≤ wr.heap.size ∧ Below w.heap.size w wr) (fun i _ => m3 - (intOf i).toNat)
          case atStart => exact ⟨0, _, Nat.zero_le _, rfl, ON.out, rfl, BB.out, BL.out, BR.out, HSZ.out, B.out⟩
          case round =>
            clear ON BB BL BR HSZ B
            obtain ⟨k, Lr, hk, rfl, own, hf, bb9, bl9, br, hsz, hbw⟩ := hrel
            have ON := Lib.hid own; have HF := Lib.hid hf; have BB := Lib.hid bb9; have BL := Lib.hid bl9; have BR := Lib.hid br; have HSZ := Lib.hid hsz; have B := Lib.hid hbw
            clear own hf bb9 bl9 br hsz hbw
            by_cases hlt : k < m3
            · obtain ⟨bq, oq, x, rfl, hgk, hx, x0⟩ := (RQ0.out.keep B.out).at_ hlt
              have HX := Lib.hid hx
              obtain ⟨j, rfl⟩ : ∃ j : Nat, x = (j : Int) := ⟨x.toNat, by have := HTI.out x (List.mem_of_getElem? hx); omega⟩
              have hj : j < N := by have := HTI.out _ (List.mem_of_getElem? hx); have := HWH.out; omega
              clear hx
              have hk0 : (0 : Int) ≤ (k : Int) := by omega
              have hj0 : (0 : Int) ≤ (j : Int) := by omega
              have hj2 : (j : Int) < (N : Int) := by omega
              by_cases hm : (k : Int) % q = 0
              · have HM0 := Lib.hid hm
                go_wp2
                go_roundw
                case rel => exact ⟨k + 1, Lr, by omega, by go_num, ON.out, by rw [HF.out, mkL_drop HX.out, if_pos HM0.out], BB.out, BL.out, BR.out, HSZ.out, B.out⟩
                case measure => simp [intOf]; omega
              · have HM0 := Lib.hid hm
                have hne0 : ((k : Int) % q != 0) = true := by simpa using hm
                obtain ⟨y9, hy9⟩ : ∃ y, Lr[j]? = some y := ⟨_, List.getElem?_eq_getElem (show j < Lr.length by have := ON.out.len; omega)⟩
                have c0 := ON.out.cell hy9; have f0 := ON.out.frozen j
                obtain ⟨o9, g9⟩ := ON.out.stored j 0
                obtain ⟨w4, hW4⟩ : ∃ W5, W5 = wr.setCell ⟨gn, j, none⟩ (.int .i64 0) := ⟨_, rfl⟩
                rw [← hW4] at o9 g9
                go_wp2
                rw [← hW4]
                clear hW4 c0 f0
                replace ON := Lib.hid o9
                have hgn9 := (ON.out.span _ rfl).1
                dsimp only at hgn9
                replace BB := Lib.hid (BB.out.grown g9 (by simp; omega))
                replace BL := Lib.hid (BL.out.grown g9 (by simp; omega))
                replace BR := Lib.hid (BR.out.grown g9 (by simp; omega))
                replace HSZ := Lib.hid (Nat.le_trans HSZ.out g9.size)
                replace B := Lib.hid (B.out.grown g9 B.out.size (fun g8 h8 => by injection h8 with h8; omega))
                clear o9 g9 hgn9
                go_roundw
                case rel => exact ⟨k + 1, Lr.set j 0, by omega, by go_num, ON.out, by rw [HF.out, mkL_drop HX.out, if_neg HM0.out, Int.toNat_natCast], BB.out, BL.out, BR.out, HSZ.out, B.out⟩
                case measure => simp [intOf]; omega
            · have HE := Lib.hid (show MakePuzzle_ns W H xs a b ps q = Lr by rw [MakePuzzle_ns, ← mk_eq HNN.out.1 HT.out, HF.out, List.drop_of_length_le (by have := HPL.out; omega)]; rfl)
              rw [← HE.out] at ON
              have p0 : wr.cell? ⟨w.heap.size, 0, none⟩ = some (.int .i64 W) := BB.out.cell rfl
              have p1 : wr.cell? ⟨w.heap.size, 1, none⟩ = some (.int .i64 H) := BB.out.cell rfl
              have p2 : wr.cell? ⟨w.heap.size, 2, none⟩ = some (.slice A n c) := BB.out.cell rfl
              have l0 : wr.cell? ⟨w.heap.size + 1, 0, none⟩ = some (.int .i64 a) := BL.out.cell rfl
              have l1 : wr.cell? ⟨w.heap.size + 1, 1, none⟩ = some (.int .i64 b) := BL.out.cell rfl
              go_wp2_with fail
              clear p0 p1 p2
              clear l0 l1
              refine (having_any W H A n c a b none 0 0 xs (some ⟨gn, 0, none⟩) N N _ (RA0.out.keep B.out) (by omega)).mono ?_
              rintro e wz ⟨A', c', rfl, own, hb⟩
              have HAP := Lib.hid (apart_lt own ON.out (Nat.le_refl _))
              have OH := Lib.hid (own.lower HSZ.out)
              clear own
              replace BR := Lib.hid (BR.out.keep hb)
              replace ON := Lib.hid (ON.out.keep hb)
              replace HSZ := Lib.hid (Nat.le_trans HSZ.out hb.size)
              replace B := Lib.hid (below_next B.out hb)
              clear hb
              have y0 : wz.cell? ⟨w.heap.size + 1 + 1, 0, none⟩ = some (.int .i64 0) := BR.out.cell rfl
              have y1 : wz.cell? ⟨w.heap.size + 1 + 1, 1, none⟩ = some (.int .i64 0) := BR.out.cell rfl
              have y2 : wz.cell? ⟨w.heap.size + 1 + 1, 2, none⟩ = some (.slice none 0 0) := BR.out.cell rfl
              have y3 : wz.cell? ⟨w.heap.size + 1 + 1, 3, none⟩ = some (.int .i64 0) := BR.out.cell rfl
              have y4 : wz.cell? ⟨w.heap.size + 1 + 1, 4, none⟩ = some (.int .i64 0) := BR.out.cell rfl
              have y5 : wz.cell? ⟨w.heap.size + 1 + 1, 5, none⟩ = some (.slice none 0 0) := BR.out.cell rfl
              have h0 : wz.frozen? ⟨w.heap.size + 1 + 1, 0, none⟩ = false := BR.out.frozen 0
              have h1 : wz.frozen? ⟨w.heap.size + 1 + 1, 1, none⟩ = false := BR.out.frozen 1
              have h2 : wz.frozen? ⟨w.heap.size + 1 + 1, 2, none⟩ = false := BR.out.frozen 2
              have h3 : wz.frozen? ⟨w.heap.size + 1 + 1, 3, none⟩ = false := BR.out.frozen 3
              have h4 : wz.frozen? ⟨w.heap.size + 1 + 1, 4, none⟩ = false := BR.out.frozen 4
              have h5 : wz.frozen? ⟨w.heap.size + 1 + 1, 5, none⟩ = false := BR.out.frozen 5
              have HOK := Lib.hid (show MakePuzzle_ok W H xs a b ps q = true by rw [MakePuzzle_ok, HPB.out, HT.out, HIN.out]; rfl)
              go_wp2
              refine bodyPost_ret (v := .tuple #[pzv W H A' n c' a b (some ⟨gn, 0, none⟩) N N, .bool true]) (by simp [results, Try.results36, go_sem, y0, y1, y2, y3, y4, y5]) rfl ⟨A', n, c', some ⟨gn, 0, none⟩, N, N, by rw [HOK.out]; rfl, ?_, ?_, HAP.out, ?_⟩
              · rw [HOK.out]
                show OwnI _ _ _ _ _ _ _
                refine OwnI.lower (lo := w.heap.size + 1 + 1 + 1) ?_ (by omega)
                repeat (first | refine own_setC ?_ (by omega) _ | exact OH.out)
              · rw [HOK.out]
                show OwnI _ _ _ _ _ _ _
                refine OwnI.lower (lo := w.heap.size + 1 + 1 + 1) ?_ (by omega)
                repeat (first | refine own_setC ?_ (by omega) _ | exact ON.out)
              · repeat (first | refine below_setC ?_ (by omega) _ | exact B.out)

set_option maxRecDepth 100000 in
set_option maxHeartbeats 1000000 in
theorem spec_MakePuzzle (W H : Int) (A : Option Addr) (n c : Nat) (xs : List Int) (a b : Int) (A3 : Option Addr) (m3 c3 : Nat) (ps : List Int) (q : Int) (w : World) (ha : Rd w A n xs) (hq : Rd w A3 m3 ps) (hcap3 : m3 ≤ c3) :
    Calls Try.prog 33 #[brd W H A n c, lpr a b, .slice A3 m3 c3, .int .i64 q] w fun e w' => ∃ A' n' c' A2' n2' c2', e = .returned (.tuple #[pzv (zi (MakePuzzle_ok W H xs a b ps q) W) (zi (MakePuzzle_ok W H xs a b ps q) H) A' n' c' (zi (MakePuzzle_ok W H xs a b ps q) a) (zi (MakePuzzle_ok W H xs a b ps q) b) A2' n2' c2', .bool (MakePuzzle_ok W H xs a b ps q)]) ∧ OwnI 3 w' w.heap.size A' n' c' (zl (MakePuzzle_ok W H xs a b ps q) (MakePuzzle_xs W H xs a b ps q)) ∧ OwnI 3 w' w.heap.size A2' n2' c2' (zl (MakePuzzle_ok W H xs a b ps q) (MakePuzzle_ns W H xs a b ps q)) ∧ Apart A' A2' ∧ Below w.heap.size w w' := by
  have RA0 := Lib.hid ha; have RQ0 := Lib.hid hq
  have HLA := Lib.hid ha.1; have HPL := Lib.hid hq.1; have m9 := hq.2.1
  clear ha hq
  obtain ⟨W2, hW2⟩ : ∃ W2, W2 = ((w.alloc (.cells #[.int .i64 W, .int .i64 H, .slice A n c] 31)).alloc (.cells #[.int .i64 a, .int .i64 b] 32)).alloc (.cells #[.int .i64 0, .int .i64 0, .slice none 0 0, .int .i64 0, .int .i64 0, .slice none 0 0] 34) := ⟨_, rfl⟩
  have BB := Lib.hid (show Bx W2 (w.heap.size) #[.int .i64 W, .int .i64 H, .slice A n c] 31 by rw [hW2]; exact ((Bx.new (w) #[.int .i64 W, .int .i64 H, .slice A n c] 31).keep (below_new (Below.refl _ _) (.cells #[.int .i64 a, .int .i64 b] 32))).keep (below_new (Below.refl _ _) (.cells #[.int .i64 0, .int .i64 0, .slice none 0 0, .int .i64 0, .int .i64 0, .slice none 0 0] 34)))
  have BL := Lib.hid (show Bx W2 (w.heap.size + 1) #[.int .i64 a, .int .i64 b] 32 by rw [hW2]; have := (Bx.new (w.alloc (.cells #[.int .i64 W, .int .i64 H, .slice A n c] 31)) #[.int .i64 a, .int .i64 b] 32).keep (below_new (Below.refl _ _) (.cells #[.int .i64 0, .int .i64 0, .slice none 0 0, .int .i64 0, .int .i64 0, .slice none 0 0] 34)); simpa using this)
  have BR := Lib.hid (show Bx W2 (w.heap.size + 1 + 1) #[.int .i64 0, .int .i64 0, .slice none 0 0, .int .i64 0, .int .i64 0, .slice none 0 0] 34 by rw [hW2]; have := Bx.new ((w.alloc (.cells #[.int .i64 W, .int .i64 H, .slice A n c] 31)).alloc (.cells #[.int .i64 a, .int .i64 b] 32)) #[.int .i64 0, .int .i64 0, .slice none 0 0, .int .i64 0, .int .i64 0, .slice none 0 0] 34; simpa using this)
  have B := Lib.hid (show Below w.heap.size w W2 by rw [hW2]; repeat (first | exact Below.refl _ _ | refine below_new ?_ _))
  have HSZ := Lib.hid (show w.heap.size + 3 ≤ W2.heap.size by rw [hW2]; simp)
  by_cases htw : twoV W H xs a b = true
  rotate_left
  · have p0 : W2.cell? ⟨w.heap.size, 0, none⟩ = some (.int .i64 W) := BB.out.cell rfl
    have p1 : W2.cell? ⟨w.heap.size, 1, none⟩ = some (.int .i64 H) := BB.out.cell rfl
    have p2 : W2.cell? ⟨w.heap.size, 2, none⟩ = some (.slice A n c) := BB.out.cell rfl
    have l0 : W2.cell? ⟨w.heap.size + 1, 0, none⟩ = some (.int .i64 a) := BL.out.cell rfl
    have l1 : W2.cell? ⟨w.heap.size + 1, 1, none⟩ = some (.int .i64 b) := BL.out.cell rfl
    go_enter Try.func33, Try.ntmps33
    go_wp2_with fail
    rw [← hW2]
    clear hW2
    clear p0 p1 p2
    clear l0 l1
    refine (boTwoV_any W H A n c xs a b _ (RA0.out.keep B.out)).mono ?_
    rw [show twoV W H xs a b = false by simpa using htw]
    rintro e wv ⟨rfl, hb⟩
    replace BB := Lib.hid (BB.out.keep hb)
    replace BL := Lib.hid (BL.out.keep hb)
    replace BR := Lib.hid (BR.out.keep hb)
    replace HSZ := Lib.hid (Nat.le_trans HSZ.out hb.size)
    replace B := Lib.hid (below_next B.out hb)
    clear hb
    have y0 : wv.cell? ⟨w.heap.size + 1 + 1, 0, none⟩ = some (.int .i64 0) := BR.out.cell rfl
    have y1 : wv.cell? ⟨w.heap.size + 1 + 1, 1, none⟩ = some (.int .i64 0) := BR.out.cell rfl
    have y2 : wv.cell? ⟨w.heap.size + 1 + 1, 2, none⟩ = some (.slice none 0 0) := BR.out.cell rfl
    have y3 : wv.cell? ⟨w.heap.size + 1 + 1, 3, none⟩ = some (.int .i64 0) := BR.out.cell rfl
    have y4 : wv.cell? ⟨w.heap.size + 1 + 1, 4, none⟩ = some (.int .i64 0) := BR.out.cell rfl
    have y5 : wv.cell? ⟨w.heap.size + 1 + 1, 5, none⟩ = some (.slice none 0 0) := BR.out.cell rfl
    have h0 : wv.frozen? ⟨w.heap.size + 1 + 1, 0, none⟩ = false := BR.out.frozen 0
    have h1 : wv.frozen? ⟨w.heap.size + 1 + 1, 1, none⟩ = false := BR.out.frozen 1
    have h2 : wv.frozen? ⟨w.heap.size + 1 + 1, 2, none⟩ = false := BR.out.frozen 2
    have h3 : wv.frozen? ⟨w.heap.size + 1 + 1, 3, none⟩ = false := BR.out.frozen 3
    have h4 : wv.frozen? ⟨w.heap.size + 1 + 1, 4, none⟩ = false := BR.out.frozen 4
    have h5 : wv.frozen? ⟨w.heap.size + 1 + 1, 5, none⟩ = false := BR.out.frozen 5
    have HNO := Lib.hid (show MakePuzzle_ok W H xs a b ps q = false by rw [MakePuzzle_ok, pzB, show twoV W H xs a b = false by simpa using htw]; simp)
    go_wp2
    refine bodyPost_ret (v := .tuple #[pzv 0 0 none 0 0 0 0 none 0 0, .bool false]) (by simp [results, Try.results33, go_sem, y0, y1, y2, y3, y4, y5]) rfl ⟨none, 0, 0, none, 0, 0, by rw [HNO.out]; rfl, by rw [HNO.out]; exact OwnI.none_ _ _ _, by rw [HNO.out]; exact OwnI.none_ _ _ _, Apart.none_left _, ?_⟩
    repeat (first | refine below_setC ?_ (by omega) _ | exact B.out)
  · by_cases hf : (cellsL W H xs).length ≤ 16
    rotate_left
    · have p0 : W2.cell? ⟨w.heap.size, 0, none⟩ = some (.int .i64 W) := BB.out.cell rfl
      have p1 : W2.cell? ⟨w.heap.size, 1, none⟩ = some (.int .i64 H) := BB.out.cell rfl
      have p2 : W2.cell? ⟨w.heap.size, 2, none⟩ = some (.slice A n c) := BB.out.cell rfl
      have l0 : W2.cell? ⟨w.heap.size + 1, 0, none⟩ = some (.int .i64 a) := BL.out.cell rfl
      have l1 : W2.cell? ⟨w.heap.size + 1, 1, none⟩ = some (.int .i64 b) := BL.out.cell rfl
      go_enter Try.func33, Try.ntmps33
      go_wp2_with fail
      rw [← hW2]
      clear hW2
      clear p0 p1 p2
      clear l0 l1
      refine (boTwoV_any W H A n c xs a b _ (RA0.out.keep B.out)).mono ?_
      rw [htw]
      rintro e wv ⟨rfl, hb⟩
      replace BB := Lib.hid (BB.out.keep hb)
      replace BL := Lib.hid (BL.out.keep hb)
      replace BR := Lib.hid (BR.out.keep hb)
      replace HSZ := Lib.hid (Nat.le_trans HSZ.out hb.size)
      replace B := Lib.hid (below_next B.out hb)
      clear hb
      have p0 : wv.cell? ⟨w.heap.size, 0, none⟩ = some (.int .i64 W) := BB.out.cell rfl
      have p1 : wv.cell? ⟨w.heap.size, 1, none⟩ = some (.int .i64 H) := BB.out.cell rfl
      have p2 : wv.cell? ⟨w.heap.size, 2, none⟩ = some (.slice A n c) := BB.out.cell rfl
      go_wp2_with fail
      clear p0 p1 p2
      refine (boCells_any _ _ _ _ _ _ _ (RA0.out.keep B.out) (good_N (two_gK htw))).mono ?_
      rintro e wv ⟨A', M, c', rfl, own, hb⟩
      have HM := Lib.hid own.len
      clear own
      replace BB := Lib.hid (BB.out.keep hb)
      replace BL := Lib.hid (BL.out.keep hb)
      replace BR := Lib.hid (BR.out.keep hb)
      replace HSZ := Lib.hid (Nat.le_trans HSZ.out hb.size)
      replace B := Lib.hid (below_next B.out hb)
      clear hb
      have hM2 : (16 : Int) < (M : Int) := by have := HM.out; omega
      have y0 : wv.cell? ⟨w.heap.size + 1 + 1, 0, none⟩ = some (.int .i64 0) := BR.out.cell rfl
      have y1 : wv.cell? ⟨w.heap.size + 1 + 1, 1, none⟩ = some (.int .i64 0) := BR.out.cell rfl
      have y2 : wv.cell? ⟨w.heap.size + 1 + 1, 2, none⟩ = some (.slice none 0 0) := BR.out.cell rfl
      have y3 : wv.cell? ⟨w.heap.size + 1 + 1, 3, none⟩ = some (.int .i64 0) := BR.out.cell rfl
      have y4 : wv.cell? ⟨w.heap.size + 1 + 1, 4, none⟩ = some (.int .i64 0) := BR.out.cell rfl
      have y5 : wv.cell? ⟨w.heap.size + 1 + 1, 5, none⟩ = some (.slice none 0 0) := BR.out.cell rfl
      have h0 : wv.frozen? ⟨w.heap.size + 1 + 1, 0, none⟩ = false := BR.out.frozen 0
      have h1 : wv.frozen? ⟨w.heap.size + 1 + 1, 1, none⟩ = false := BR.out.frozen 1
      have h2 : wv.frozen? ⟨w.heap.size + 1 + 1, 2, none⟩ = false := BR.out.frozen 2
      have h3 : wv.frozen? ⟨w.heap.size + 1 + 1, 3, none⟩ = false := BR.out.frozen 3
      have h4 : wv.frozen? ⟨w.heap.size + 1 + 1, 4, none⟩ = false := BR.out.frozen 4
      have h5 : wv.frozen? ⟨w.heap.size + 1 + 1, 5, none⟩ = false := BR.out.frozen 5
      have HNO := Lib.hid (show MakePuzzle_ok W H xs a b ps q = false by rw [MakePuzzle_ok, pzB, fewB, show decide ((cellsL W H xs).length ≤ 16) = false by simpa using hf]; simp)
      go_wp2
      refine bodyPost_ret (v := .tuple #[pzv 0 0 none 0 0 0 0 none 0 0, .bool false]) (by simp [results, Try.results33, go_sem, y0, y1, y2, y3, y4, y5]) rfl ⟨none, 0, 0, none, 0, 0, by rw [HNO.out]; rfl, by rw [HNO.out]; exact OwnI.none_ _ _ _, by rw [HNO.out]; exact OwnI.none_ _ _ _, Apart.none_left _, ?_⟩
      repeat (first | refine below_setC ?_ (by omega) _ | exact B.out)
    have hpb : pzB W H xs a b = true := by rw [pzB, fewB, htw, show decide ((cellsL W H xs).length ≤ 16) = true by simpa using hf]; rfl
    by_cases ht : tourB W H xs a b ps = true
    rotate_left
    · have p0 : W2.cell? ⟨w.heap.size, 0, none⟩ = some (.int .i64 W) := BB.out.cell rfl
      have p1 : W2.cell? ⟨w.heap.size, 1, none⟩ = some (.int .i64 H) := BB.out.cell rfl
      have p2 : W2.cell? ⟨w.heap.size, 2, none⟩ = some (.slice A n c) := BB.out.cell rfl
      have l0 : W2.cell? ⟨w.heap.size + 1, 0, none⟩ = some (.int .i64 a) := BL.out.cell rfl
      have l1 : W2.cell? ⟨w.heap.size + 1, 1, none⟩ = some (.int .i64 b) := BL.out.cell rfl
      go_enter Try.func33, Try.ntmps33
      go_wp2_with fail
      rw [← hW2]
      clear hW2
      clear p0 p1 p2
      clear l0 l1
      refine (boTwoV_any W H A n c xs a b _ (RA0.out.keep B.out)).mono ?_
      rw [htw]
      rintro e wv ⟨rfl, hb⟩
      replace BB := Lib.hid (BB.out.keep hb)
      replace BL := Lib.hid (BL.out.keep hb)
      replace BR := Lib.hid (BR.out.keep hb)
      replace HSZ := Lib.hid (Nat.le_trans HSZ.out hb.size)
      replace B := Lib.hid (below_next B.out hb)
      clear hb
      have p0 : wv.cell? ⟨w.heap.size, 0, none⟩ = some (.int .i64 W) := BB.out.cell rfl
      have p1 : wv.cell? ⟨w.heap.size, 1, none⟩ = some (.int .i64 H) := BB.out.cell rfl
      have p2 : wv.cell? ⟨w.heap.size, 2, none⟩ = some (.slice A n c) := BB.out.cell rfl
      go_wp2_with fail
      clear p0 p1 p2
      refine (boCells_any _ _ _ _ _ _ _ (RA0.out.keep B.out) (good_N (two_gK htw))).mono ?_
      rintro e wv ⟨A', M, c', rfl, own, hb⟩
      have HM := Lib.hid own.len
      clear own
      replace BB := Lib.hid (BB.out.keep hb)
      replace BL := Lib.hid (BL.out.keep hb)
      replace BR := Lib.hid (BR.out.keep hb)
      replace HSZ := Lib.hid (Nat.le_trans HSZ.out hb.size)
      replace B := Lib.hid (below_next B.out hb)
      clear hb
      have hM2 : ¬ (16 : Int) < (M : Int) := by have := HM.out; omega
      have hM3 : (M : Int) ≤ 16 := by omega
      have p0 : wv.cell? ⟨w.heap.size, 0, none⟩ = some (.int .i64 W) := BB.out.cell rfl
      have p1 : wv.cell? ⟨w.heap.size, 1, none⟩ = some (.int .i64 H) := BB.out.cell rfl
      have p2 : wv.cell? ⟨w.heap.size, 2, none⟩ = some (.slice A n c) := BB.out.cell rfl
      have l0 : wv.cell? ⟨w.heap.size + 1, 0, none⟩ = some (.int .i64 a) := BL.out.cell rfl
      have l1 : wv.cell? ⟨w.heap.size + 1, 1, none⟩ = some (.int .i64 b) := BL.out.cell rfl
      go_wp2_with fail
      clear p0 p1 p2
      clear l0 l1
      refine (toTour_any W H A n c xs a b A3 m3 c3 ps _ (RA0.out.keep B.out) (RQ0.out.keep B.out) hcap3 (two_gK htw)).mono ?_
      rw [show tourB W H xs a b ps = false by simpa using ht]
      rintro e wv ⟨rfl, hb⟩
      replace BB := Lib.hid (BB.out.keep hb)
      replace BL := Lib.hid (BL.out.keep hb)
      replace BR := Lib.hid (BR.out.keep hb)
      replace HSZ := Lib.hid (Nat.le_trans HSZ.out hb.size)
      replace B := Lib.hid (below_next B.out hb)
      clear hb
      have y0 : wv.cell? ⟨w.heap.size + 1 + 1, 0, none⟩ = some (.int .i64 0) := BR.out.cell rfl
      have y1 : wv.cell? ⟨w.heap.size + 1 + 1, 1, none⟩ = some (.int .i64 0) := BR.out.cell rfl
      have y2 : wv.cell? ⟨w.heap.size + 1 + 1, 2, none⟩ = some (.slice none 0 0) := BR.out.cell rfl
      have y3 : wv.cell? ⟨w.heap.size + 1 + 1, 3, none⟩ = some (.int .i64 0) := BR.out.cell rfl
      have y4 : wv.cell? ⟨w.heap.size + 1 + 1, 4, none⟩ = some (.int .i64 0) := BR.out.cell rfl
      have y5 : wv.cell? ⟨w.heap.size + 1 + 1, 5, none⟩ = some (.slice none 0 0) := BR.out.cell rfl
      have h0 : wv.frozen? ⟨w.heap.size + 1 + 1, 0, none⟩ = false := BR.out.frozen 0
      have h1 : wv.frozen? ⟨w.heap.size + 1 + 1, 1, none⟩ = false := BR.out.frozen 1
      have h2 : wv.frozen? ⟨w.heap.size + 1 + 1, 2, none⟩ = false := BR.out.frozen 2
      have h3 : wv.frozen? ⟨w.heap.size + 1 + 1, 3, none⟩ = false := BR.out.frozen 3
      have h4 : wv.frozen? ⟨w.heap.size + 1 + 1, 4, none⟩ = false := BR.out.frozen 4
      have h5 : wv.frozen? ⟨w.heap.size + 1 + 1, 5, none⟩ = false := BR.out.frozen 5
      have HNO := Lib.hid (show MakePuzzle_ok W H xs a b ps q = false by rw [MakePuzzle_ok, show tourB W H xs a b ps = false by simpa using ht]; simp)
      go_wp2
      refine bodyPost_ret (v := .tuple #[pzv 0 0 none 0 0 0 0 none 0 0, .bool false]) (by simp [results, Try.results33, go_sem, y0, y1, y2, y3, y4, y5]) rfl ⟨none, 0, 0, none, 0, 0, by rw [HNO.out]; rfl, by rw [HNO.out]; exact OwnI.none_ _ _ _, by rw [HNO.out]; exact OwnI.none_ _ _ _, Apart.none_left _, ?_⟩
      repeat (first | refine below_setC ?_ (by omega) _ | exact B.out)
    by_cases hin : inB q 1 20 = true
    rotate_left
    · have p0 : W2.cell? ⟨w.heap.size, 0, none⟩ = some (.int .i64 W) := BB.out.cell rfl
      have p1 : W2.cell? ⟨w.heap.size, 1, none⟩ = some (.int .i64 H) := BB.out.cell rfl
      have p2 : W2.cell? ⟨w.heap.size, 2, none⟩ = some (.slice A n c) := BB.out.cell rfl
      have l0 : W2.cell? ⟨w.heap.size + 1, 0, none⟩ = some (.int .i64 a) := BL.out.cell rfl
      have l1 : W2.cell? ⟨w.heap.size + 1, 1, none⟩ = some (.int .i64 b) := BL.out.cell rfl
      go_enter Try.func33, Try.ntmps33
      go_wp2_with fail
      rw [← hW2]
      clear hW2
      clear p0 p1 p2
      clear l0 l1
      refine (boTwoV_any W H A n c xs a b _ (RA0.out.keep B.out)).mono ?_
      rw [htw]
      rintro e wv ⟨rfl, hb⟩
      replace BB := Lib.hid (BB.out.keep hb)
      replace BL := Lib.hid (BL.out.keep hb)
      replace BR := Lib.hid (BR.out.keep hb)
      replace HSZ := Lib.hid (Nat.le_trans HSZ.out hb.size)
      replace B := Lib.hid (below_next B.out hb)
      clear hb
      have p0 : wv.cell? ⟨w.heap.size, 0, none⟩ = some (.int .i64 W) := BB.out.cell rfl
      have p1 : wv.cell? ⟨w.heap.size, 1, none⟩ = some (.int .i64 H) := BB.out.cell rfl
      have p2 : wv.cell? ⟨w.heap.size, 2, none⟩ = some (.slice A n c) := BB.out.cell rfl
      go_wp2_with fail
      clear p0 p1 p2
      refine (boCells_any _ _ _ _ _ _ _ (RA0.out.keep B.out) (good_N (two_gK htw))).mono ?_
      rintro e wv ⟨A', M, c', rfl, own, hb⟩
      have HM := Lib.hid own.len
      clear own
      replace BB := Lib.hid (BB.out.keep hb)
      replace BL := Lib.hid (BL.out.keep hb)
      replace BR := Lib.hid (BR.out.keep hb)
      replace HSZ := Lib.hid (Nat.le_trans HSZ.out hb.size)
      replace B := Lib.hid (below_next B.out hb)
      clear hb
      have hM2 : ¬ (16 : Int) < (M : Int) := by have := HM.out; omega
      have hM3 : (M : Int) ≤ 16 := by omega
      have p0 : wv.cell? ⟨w.heap.size, 0, none⟩ = some (.int .i64 W) := BB.out.cell rfl
      have p1 : wv.cell? ⟨w.heap.size, 1, none⟩ = some (.int .i64 H) := BB.out.cell rfl
      have p2 : wv.cell? ⟨w.heap.size, 2, none⟩ = some (.slice A n c) := BB.out.cell rfl
      have l0 : wv.cell? ⟨w.heap.size + 1, 0, none⟩ = some (.int .i64 a) := BL.out.cell rfl
      have l1 : wv.cell? ⟨w.heap.size + 1, 1, none⟩ = some (.int .i64 b) := BL.out.cell rfl
      go_wp2_with fail
      clear p0 p1 p2
      clear l0 l1
      refine (toTour_any W H A n c xs a b A3 m3 c3 ps _ (RA0.out.keep B.out) (RQ0.out.keep B.out) hcap3 (two_gK htw)).mono ?_
      rw [ht]
      rintro e wv ⟨rfl, hb⟩
      replace BB := Lib.hid (BB.out.keep hb)
      replace BL := Lib.hid (BL.out.keep hb)
      replace BR := Lib.hid (BR.out.keep hb)
      replace HSZ := Lib.hid (Nat.le_trans HSZ.out hb.size)
      replace B := Lib.hid (below_next B.out hb)
      clear hb
      go_wp2_with fail
      refine (l1In_any _ _ _ _).mono ?_
      rw [show inB q 1 20 = false by simpa using hin]
      rintro e wu ⟨rfl, rfl⟩
      have y0 : wv.cell? ⟨w.heap.size + 1 + 1, 0, none⟩ = some (.int .i64 0) := BR.out.cell rfl
      have y1 : wv.cell? ⟨w.heap.size + 1 + 1, 1, none⟩ = some (.int .i64 0) := BR.out.cell rfl
      have y2 : wv.cell? ⟨w.heap.size + 1 + 1, 2, none⟩ = some (.slice none 0 0) := BR.out.cell rfl
      have y3 : wv.cell? ⟨w.heap.size + 1 + 1, 3, none⟩ = some (.int .i64 0) := BR.out.cell rfl
      have y4 : wv.cell? ⟨w.heap.size + 1 + 1, 4, none⟩ = some (.int .i64 0) := BR.out.cell rfl
      have y5 : wv.cell? ⟨w.heap.size + 1 + 1, 5, none⟩ = some (.slice none 0 0) := BR.out.cell rfl
      have h0 : wv.frozen? ⟨w.heap.size + 1 + 1, 0, none⟩ = false := BR.out.frozen 0
      have h1 : wv.frozen? ⟨w.heap.size + 1 + 1, 1, none⟩ = false := BR.out.frozen 1
      have h2 : wv.frozen? ⟨w.heap.size + 1 + 1, 2, none⟩ = false := BR.out.frozen 2
      have h3 : wv.frozen? ⟨w.heap.size + 1 + 1, 3, none⟩ = false := BR.out.frozen 3
      have h4 : wv.frozen? ⟨w.heap.size + 1 + 1, 4, none⟩ = false := BR.out.frozen 4
      have h5 : wv.frozen? ⟨w.heap.size + 1 + 1, 5, none⟩ = false := BR.out.frozen 5
      have HNO := Lib.hid (show MakePuzzle_ok W H xs a b ps q = false by rw [MakePuzzle_ok, show inB q 1 20 = false by simpa using hin]; simp)
      go_wp2
      refine bodyPost_ret (v := .tuple #[pzv 0 0 none 0 0 0 0 none 0 0, .bool false]) (by simp [results, Try.results33, go_sem, y0, y1, y2, y3, y4, y5]) rfl ⟨none, 0, 0, none, 0, 0, by rw [HNO.out]; rfl, by rw [HNO.out]; exact OwnI.none_ _ _ _, by rw [HNO.out]; exact OwnI.none_ _ _ _, Apart.none_left _, ?_⟩
      repeat (first | refine below_setC ?_ (by omega) _ | exact B.out)
    have HPB := Lib.hid hpb; have HT := Lib.hid ht
    have HNN := Lib.hid (pzB_sizes hpb).1
    have HGB := Lib.hid (two_gK (pzB_two hpb))
    have hn : n ≤ 64 := by have := (pzB_sizes hpb).2; have := HLA.out; omega
    obtain ⟨N, hWH⟩ : ∃ N : Nat, W * H = (N : Int) := ⟨(W * H).toNat, by have := HNN.out; omega⟩
    have HWH := Lib.hid hWH
    have hN1 : 1 ≤ N := by have := HNN.out; omega
    have hN64 : N ≤ 64 := by have := HNN.out; omega
    have HK := Lib.hid (show (W * H).toNat = N by omega)
    have HTI := Lib.hid (tour_in ht)
    clear hWH
    have HIN := Lib.hid hin
    have hq1 : 1 ≤ q := (inB_iff.1 hin).1
    have hq2 : q ≤ 20 := (inB_iff.1 hin).2
    have hq0 : ¬ q = 0 := by omega
    have p0 : W2.cell? ⟨w.heap.size, 0, none⟩ = some (.int .i64 W) := BB.out.cell rfl
    have p1 : W2.cell? ⟨w.heap.size, 1, none⟩ = some (.int .i64 H) := BB.out.cell rfl
    have p2 : W2.cell? ⟨w.heap.size, 2, none⟩ = some (.slice A n c) := BB.out.cell rfl
    have l0 : W2.cell? ⟨w.heap.size + 1, 0, none⟩ = some (.int .i64 a) := BL.out.cell rfl
    have l1 : W2.cell? ⟨w.heap.size + 1, 1, none⟩ = some (.int .i64 b) := BL.out.cell rfl
    go_enter Try.func33, Try.ntmps33
    go_wp2_with fail
    rw [← hW2]
    clear hW2
    clear p0 p1 p2
    clear l0 l1
    refine (boTwoV_any W H A n c xs a b _ (RA0.out.keep B.out)).mono ?_
    rw [htw]
    rintro e wv ⟨rfl, hb⟩
    replace BB := Lib.hid (BB.out.keep hb)
    replace BL := Lib.hid (BL.out.keep hb)
    replace BR := Lib.hid (BR.out.keep hb)
    replace HSZ := Lib.hid (Nat.le_trans HSZ.out hb.size)
    replace B := Lib.hid (below_next B.out hb)
    clear hb
    have p0 : wv.cell? ⟨w.heap.size, 0, none⟩ = some (.int .i64 W) := BB.out.cell rfl
    have p1 : wv.cell? ⟨w.heap.size, 1, none⟩ = some (.int .i64 H) := BB.out.cell rfl
    have p2 : wv.cell? ⟨w.heap.size, 2, none⟩ = some (.slice A n c) := BB.out.cell rfl
    go_wp2_with fail
    clear p0 p1 p2
    refine (boCells_any _ _ _ _ _ _ _ (RA0.out.keep B.out) (good_N (two_gK htw))).mono ?_
    rintro e wv ⟨A', M, c', rfl, own, hb⟩
    have HM := Lib.hid own.len
    clear own
    replace BB := Lib.hid (BB.out.keep hb)
    replace BL := Lib.hid (BL.out.keep hb)
    replace BR := Lib.hid (BR.out.keep hb)
    replace HSZ := Lib.hid (Nat.le_trans HSZ.out hb.size)
    replace B := Lib.hid (below_next B.out hb)
    clear hb
    have hM2 : ¬ (16 : Int) < (M : Int) := by have := HM.out; omega
    have hM3 : (M : Int) ≤ 16 := by omega
    have p0 : wv.cell? ⟨w.heap.size, 0, none⟩ = some (.int .i64 W) := BB.out.cell rfl
    have p1 : wv.cell? ⟨w.heap.size, 1, none⟩ = some (.int .i64 H) := BB.out.cell rfl
    have p2 : wv.cell? ⟨w.heap.size, 2, none⟩ = some (.slice A n c) := BB.out.cell rfl
    have l0 : wv.cell? ⟨w.heap.size + 1, 0, none⟩ = some (.int .i64 a) := BL.out.cell rfl
    have l1 : wv.cell? ⟨w.heap.size + 1, 1, none⟩ = some (.int .i64 b) := BL.out.cell rfl
    go_wp2_with fail
    clear p0 p1 p2
    clear l0 l1
    refine (toTour_any W H A n c xs a b A3 m3 c3 ps _ (RA0.out.keep B.out) (RQ0.out.keep B.out) hcap3 (two_gK htw)).mono ?_
    rw [ht]
    rintro e wv ⟨rfl, hb⟩
    replace BB := Lib.hid (BB.out.keep hb)
    replace BL := Lib.hid (BL.out.keep hb)
    replace BR := Lib.hid (BR.out.keep hb)
    replace HSZ := Lib.hid (Nat.le_trans HSZ.out hb.size)
    replace B := Lib.hid (below_next B.out hb)
    clear hb
    go_wp2_with fail
    refine (l1In_any _ _ _ _).mono ?_
    rw [hin]
    rintro e wu ⟨rfl, rfl⟩
    clear hpb ht htw hf hin
    go_upto_region 3 with fail
    go_cut [10] (fun s10 wx => ∃ (gb gn : Nat) (A' : Option Addr) (c' : Nat), s10 = .pointer (some ⟨gb, 0, none⟩) ∧ OwnI 3 wx (w.heap.size + 1 + 1 + 1) A' n c' xs ∧ OwnI 3 wx (w.heap.size + 1 + 1 + 1) (some ⟨gn, 0, none⟩) N N (numsL W H ps) ∧ Apart A' (some ⟨gn, 0, none⟩) ∧ (∀ y, A' = some y → y.block ≠ gb) ∧ gn ≠ gb ∧ w.heap.size + 1 + 1 + 1 ≤ gb ∧ Bx wx gb #[.int .i64 W, .int .i64 H, .slice A' n c', .int .i64 a, .int .i64 b, .slice (some ⟨gn, 0, none⟩) N N] 34 ∧ Bx wx w.heap.size #[.int .i64 W, .int .i64 H, .slice A n c] 31 ∧ Bx wx (w.heap.size + 1) #[.int .i64 a, .int .i64 b] 32 ∧ Bx wx (w.heap.size + 1 + 1) #[.int .i64 0, .int .i64 0, .slice none 0 0, .int .i64 0, .int .i64 0, .slice none 0 0] 34 ∧ w.heap.size + 1 + 1 + 1 ≤ wx.heap.size ∧ Below w.heap.size w wx)
    case first =>
      obtain ⟨B0, hB0⟩ : ∃ B0, B0 = wv.heap.size := ⟨_, rfl⟩
      have HB0 := Lib.hid (show B0 ≤ wv.heap.size by omega)
      have hB02 : w.heap.size + 1 + 1 + 1 ≤ B0 := by rw [hB0]; exact HSZ.out
      clear hB0
      refine wp_region_held_drew (S := fun w' => w'.cell? ⟨w.heap.size, 0, none⟩ = some (.int .i64 W) ∧ w'.cell? ⟨w.heap.size, 1, none⟩ = some (.int .i64 H) ∧ w'.cell? ⟨w.heap.size, 2, none⟩ = some (.slice A n c) ∧ w'.cell? ⟨w.heap.size + 1, 0, none⟩ = some (.int .i64 a) ∧ w'.cell? ⟨w.heap.size + 1, 1, none⟩ = some (.int .i64 b)) (by kernel_rfl) ?_ (fun hHeld => ?_)
      · (try dsimp only)
        exact ⟨BB.out.cell rfl, BB.out.cell rfl, BB.out.cell rfl, BL.out.cell rfl, BL.out.cell rfl⟩
      refine wpAnyH_take (i := 0) (oi := ⟨_, _, _, _, _, _⟩) (v := ?_) rfl (by kernel_rfl) (by kernel_rfl) (by kernel_rfl) (fun _ _ _ h => h) (Or.inl ⟨by rfl, ?_⟩) (by assumption) ?_
      rotate_left
      · intro w hSw
        (try dsimp only at hSw)
        go_simp
        (try with_reducible rfl)
      (try simp only [Act.put, List.setIfInBounds_toArray, List.set_cons_zero, List.set_cons_succ])
      refine wpAnyH_take (i := 2) (oi := ⟨_, _, _, _, _, _⟩) (v := ?_) rfl (by kernel_rfl) (by kernel_rfl) (by kernel_rfl) (fun _ _ _ h => h) (Or.inl ⟨by rfl, ?_⟩) (by assumption) ?_
      rotate_left
      · intro w hSw
        (try dsimp only at hSw)
        go_simp
        (try with_reducible rfl)
      (try simp only [Act.put, List.setIfInBounds_toArray, List.set_cons_zero, List.set_cons_succ])
      refine wpAnyH_take (i := 4) (oi := ⟨_, _, _, _, _, _⟩) (v := ?_) rfl (by kernel_rfl) (by kernel_rfl) (by kernel_rfl) (fun _ _ _ h => h) (Or.inl ⟨by rfl, ?_⟩) (by assumption) ?_
      rotate_left
      · intro w hSw
        (try dsimp only at hSw)
        go_simp
        (try with_reducible rfl)
      (try simp only [Act.put, List.setIfInBounds_toArray, List.set_cons_zero, List.set_cons_succ])
      refine wpAnyH_take (i := 8) (oi := ⟨_, _, _, _, _, _⟩) (v := ?_) rfl (by kernel_rfl) (by kernel_rfl) (by kernel_rfl) (fun _ _ _ h => h) (Or.inl ⟨by rfl, ?_⟩) (by assumption) ?_
      rotate_left
      · intro w hSw
        (try dsimp only at hSw)
        go_simp
        (try with_reducible rfl)
      (try simp only [Act.put, List.setIfInBounds_toArray, List.set_cons_zero, List.set_cons_succ])
      refine wpAnyH_take (i := 9) (oi := ⟨_, _, _, _, _, _⟩) (v := ?_) rfl (by kernel_rfl) (by kernel_rfl) (by kernel_rfl) (fun _ _ _ h => h) (Or.inl ⟨by rfl, ?_⟩) (by assumption) ?_
      rotate_left
      · intro w hSw
        (try dsimp only at hSw)
        go_simp
        (try with_reducible rfl)
      (try simp only [Act.put, List.setIfInBounds_toArray, List.set_cons_zero, List.set_cons_succ])
      refine wpAnyH_take (i := 10) (oi := ⟨_, _, _, _, _, _⟩) (v := ?_) rfl (by kernel_rfl) (by kernel_rfl) (by kernel_rfl) (fun _ _ _ h => h) (Or.inl ⟨by rfl, ?_⟩) (by assumption) ?_
      rotate_left
      · intro w hSw
        (try dsimp only at hSw)
        go_simp
        (try with_reducible rfl)
      (try simp only [Act.put, List.setIfInBounds_toArray, List.set_cons_zero, List.set_cons_succ])
      refine wpAnyH_take (i := 1) (oi := ⟨_, _, _, _, _, _⟩) (v := ?_) rfl (by kernel_rfl) (by kernel_rfl) (by kernel_rfl) (fun _ _ _ h => h) (Or.inl ⟨by rfl, ?_⟩) (by assumption) ?_
      rotate_left
      · intro w hSw
        (try dsimp only at hSw)
        go_simp
        (try with_reducible rfl)
      (try simp only [Act.put, List.setIfInBounds_toArray, List.set_cons_zero, List.set_cons_succ])
      refine wpAnyH_take (i := 3) (oi := ⟨_, _, _, _, _, _⟩) (v := ?_) rfl (by kernel_rfl) (by kernel_rfl) (by kernel_rfl) (fun _ _ _ h => h) (Or.inl ⟨by rfl, ?_⟩) (by assumption) ?_
      rotate_left
      · intro w hSw
        (try dsimp only at hSw)
        go_simp
        (try with_reducible rfl)
      (try simp only [Act.put, List.setIfInBounds_toArray, List.set_cons_zero, List.set_cons_succ])
      refine wpAnyH_take (i := 5) (oi := ⟨_, _, _, _, _, _⟩) (v := ?_) rfl (by kernel_rfl) (by kernel_rfl) (by kernel_rfl) (fun _ _ _ h => h) (Or.inl ⟨by rfl, ?_⟩) (by assumption) ?_
      rotate_left
      · intro w hSw
        (try dsimp only at hSw)
        go_simp
        (try with_reducible rfl)
      (try simp only [Act.put, List.setIfInBounds_toArray, List.set_cons_zero, List.set_cons_succ])
      refine wpAnyH_ready (rs := [6, 13]) (by kernel_rfl) (by simp) ?_
      refine AllReadyH.cons (o := ⟨_, _, _, _, _, _⟩) rfl (fun K hK => ?_) (AllReadyH.cons (o := ⟨_, _, _, _, _, _⟩) rfl (fun K hK => ?_) AllReadyH.nil)
      · go_simp
        (go_at_call 67; refine (l1Own_all A n c xs _ (by exact (RA0.out.keep B.out).drew1) (by omega)).mono ?_; rintro e wy ⟨A', c', rfl, own, hb⟩; (repeat (first | replace hb := below_undrew hb | replace hb := below_undrewN hb)); have OH := Lib.hid (own.lower (show B0 ≤ wv.heap.size from HB0.out)); replace HB0 := Lib.hid (Nat.le_trans HB0.out hb.size); clear own; replace BB := Lib.hid (BB.out.keep hb); replace BL := Lib.hid (BL.out.keep hb); replace BR := Lib.hid (BR.out.keep hb); replace HSZ := Lib.hid (Nat.le_trans HSZ.out hb.size); replace B := Lib.hid (below_next B.out hb); clear hb)
        (try go_wp2_with fail)
        refine hK.out _ _ ?_ (fun hHeld => ?_)
        · (try dsimp only)
          exact ⟨BB.out.cell rfl, BB.out.cell rfl, BB.out.cell rfl, BL.out.cell rfl, BL.out.cell rfl⟩
        clear hK K
        (try simp only [Act.put, List.setIfInBounds_toArray, List.set_cons_zero, List.set_cons_succ])
        refine wpAnyH_take (i := 7) (oi := ⟨_, _, _, _, _, _⟩) (v := ?_) rfl (by kernel_rfl) (by kernel_rfl) (by kernel_rfl) (fun _ _ _ h => h) (Or.inl ⟨by rfl, ?_⟩) (by assumption) ?_
        rotate_left
        · intro w hSw
          (try dsimp only at hSw)
          go_simp
          (try with_reducible rfl)
        (try simp only [Act.put, List.setIfInBounds_toArray, List.set_cons_zero, List.set_cons_succ])
        refine wpAnyH_ready (rs := [11, 13]) (by kernel_rfl) (by simp) ?_
        refine AllReadyH.cons (o := ⟨_, _, _, _, _, _⟩) rfl (fun K hK => ?_) (AllReadyH.cons (o := ⟨_, _, _, _, _, _⟩) rfl (fun K hK => ?_) AllReadyH.nil)
        · go_simp
          (go_at_call 68; refine (pzNumbers_any W H A n c A3 m3 c3 N ps _ (by exact (RQ0.out.keep B.out).drew1) HNN.out HTI.out HK.out).mono ?_; rintro e wz ⟨gn, rfl, own, hb⟩; (repeat (first | replace hb := below_undrew hb | replace hb := below_undrewN hb)); have ON := Lib.hid (own.lower (show B0 ≤ wy.heap.size from HB0.out)); have HAP := Lib.hid (show Apart A' (some ⟨gn, 0, none⟩) from fun y z hy hz => by injection hz with hz; have h8 := (OH.out.span y hy).2; have h9 : wy.heap.size ≤ gn := (own.span _ rfl).1; rw [← hz]; dsimp only; omega); replace HB0 := Lib.hid (Nat.le_trans HB0.out hb.size); clear own; replace BB := Lib.hid (BB.out.keep hb); replace BL := Lib.hid (BL.out.keep hb); replace BR := Lib.hid (BR.out.keep hb); replace OH := Lib.hid (OH.out.keep hb); replace HSZ := Lib.hid (Nat.le_trans HSZ.out hb.size); replace B := Lib.hid (below_next B.out hb); clear hb)
          (try go_wp2_with fail)
          refine hK.out _ _ ?_ (fun hHeld => ?_)
          · (try dsimp only)
            exact ⟨BB.out.cell rfl, BB.out.cell rfl, BB.out.cell rfl, BL.out.cell rfl, BL.out.cell rfl⟩
          clear hK K
          (try simp only [Act.put, List.setIfInBounds_toArray, List.set_cons_zero, List.set_cons_succ])
          refine wpAnyH_take (i := 12) (oi := ⟨_, _, _, _, _, _⟩) (v := ?_) rfl (by kernel_rfl) (by kernel_rfl) (by kernel_rfl) (fun _ _ _ h => h) (Or.inl ⟨by rfl, ?_⟩) (by assumption) ?_
          rotate_left
          · intro w hSw
            (try dsimp only at hSw)
            go_simp
            (try with_reducible rfl)
          (try simp only [Act.put, List.setIfInBounds_toArray, List.set_cons_zero, List.set_cons_succ])
          refine wpAnyH_ready (rs := [13]) (by kernel_rfl) (by simp) ?_
          refine AllReadyH.cons (o := ⟨_, _, _, _, _, _⟩) rfl (fun K hK => ?_) AllReadyH.nil
          go_simp
          obtain ⟨wt, hWn⟩ : ∃ W5, W5 = wz.alloc (.cells #[.int .i64 0, .int .i64 0, .slice none 0 0, .int .i64 0, .int .i64 0, .slice none 0 0] 34) := ⟨_, rfl⟩
          have hb : Below wz.heap.size wz wt := by rw [hWn]; exact below_new (Below.refl _ _) _
          obtain ⟨gb, hgp⟩ : ∃ gp, gp = wz.heap.size := ⟨_, rfl⟩
          have BZ := Lib.hid (show Bx wt gb #[.int .i64 0, .int .i64 0, .slice none 0 0, .int .i64 0, .int .i64 0, .slice none 0 0] 34 by rw [hWn, hgp]; exact Bx.new _ _ _)
          have Hgb := Lib.hid (show B0 ≤ gb by rw [hgp]; exact HB0.out)
          replace HB0 := Lib.hid (Nat.le_trans HB0.out hb.size)
          have HNE1 := Lib.hid (show ∀ y, A' = some y → y.block ≠ gb from fun y hy => by have := (OH.out.span y hy).2; omega)
          have HNG := Lib.hid (show gn ≠ gb by have h9 := (ON.out.span _ rfl).2; dsimp only at h9; omega)
          rw [← hWn]
          (try rw [← hgp])
          clear hWn hgp
          replace BB := Lib.hid (BB.out.keep hb)
          replace BL := Lib.hid (BL.out.keep hb)
          replace BR := Lib.hid (BR.out.keep hb)
          replace OH := Lib.hid (OH.out.keep hb)
          replace ON := Lib.hid (ON.out.keep hb)
          replace HSZ := Lib.hid (Nat.le_trans HSZ.out hb.size)
          replace B := Lib.hid (below_next B.out hb)
          clear hb
          refine hK.out _ _ ?_ (fun hHeld => ?_)
          · (try dsimp only)
            exact ⟨BB.out.cell rfl, BB.out.cell rfl, BB.out.cell rfl, BL.out.cell rfl, BL.out.cell rfl⟩
          clear hK K
          (try simp only [Act.put, List.setIfInBounds_toArray, List.set_cons_zero, List.set_cons_succ])
          refine wpAnyH_ready (rs := [14]) (by kernel_rfl) (by simp) ?_
          refine AllReadyH.cons (o := ⟨_, _, _, _, _, _⟩) rfl (fun K hK => ?_) AllReadyH.nil
          have z0 : wt.cell? ⟨gb, 0, none⟩ = some (.int .i64 0) := BZ.out.cell rfl
          have z1 : wt.cell? ⟨gb, 1, none⟩ = some (.int .i64 0) := BZ.out.cell rfl
          have z2 : wt.cell? ⟨gb, 2, none⟩ = some (.slice none 0 0) := BZ.out.cell rfl
          have z3 : wt.cell? ⟨gb, 3, none⟩ = some (.int .i64 0) := BZ.out.cell rfl
          have z4 : wt.cell? ⟨gb, 4, none⟩ = some (.int .i64 0) := BZ.out.cell rfl
          have z5 : wt.cell? ⟨gb, 5, none⟩ = some (.slice none 0 0) := BZ.out.cell rfl
          have f0 : wt.frozen? ⟨gb, 0, none⟩ = false := BZ.out.frozen 0
          have f1 : wt.frozen? ⟨gb, 1, none⟩ = false := BZ.out.frozen 1
          have f2 : wt.frozen? ⟨gb, 2, none⟩ = false := BZ.out.frozen 2
          have f3 : wt.frozen? ⟨gb, 3, none⟩ = false := BZ.out.frozen 3
          have f4 : wt.frozen? ⟨gb, 4, none⟩ = false := BZ.out.frozen 4
          have f5 : wt.frozen? ⟨gb, 5, none⟩ = false := BZ.out.frozen 5
          go_simp
          obtain ⟨wq, hWn⟩ : ∃ W5, W5 = (((((wt.setCell ⟨gb, 0, none⟩ (.int .i64 W)).setCell ⟨gb, 1, none⟩ (.int .i64 H)).setCell ⟨gb, 2, none⟩ (.slice A' n c')).setCell ⟨gb, 3, none⟩ (.int .i64 a)).setCell ⟨gb, 4, none⟩ (.int .i64 b)).setCell ⟨gb, 5, none⟩ (.slice (some ⟨gn, 0, none⟩) N N) := ⟨_, rfl⟩
          have hgr : wt.grownBy wq (some (gb)) := by rw [hWn]; exact (grown_next (grown_next (grown_next (grown_next (grown_next (grownSet1 wt ⟨gb, 0, none⟩ (.int .i64 W)) (grownSet1 _ ⟨gb, 1, none⟩ (.int .i64 H))) (grownSet1 _ ⟨gb, 2, none⟩ (.slice A' n c'))) (grownSet1 _ ⟨gb, 3, none⟩ (.int .i64 a))) (grownSet1 _ ⟨gb, 4, none⟩ (.int .i64 b))) (grownSet1 _ ⟨gb, 5, none⟩ (.slice (some ⟨gn, 0, none⟩) N N)))
          replace BZ := Lib.hid (show Bx wq (gb) #[.int .i64 W, .int .i64 H, .slice A' n c', .int .i64 a, .int .i64 b, .slice (some ⟨gn, 0, none⟩) N N] 34 by rw [hWn]; exact ((((((BZ.out.set 0 (.int .i64 W)).set 1 (.int .i64 H)).set 2 (.slice A' n c')).set 3 (.int .i64 a)).set 4 (.int .i64 b)).set 5 (.slice (some ⟨gn, 0, none⟩) N N)))
          replace BB := Lib.hid (BB.out.grown hgr (by have := Hgb.out; simp; omega))
          replace BL := Lib.hid (BL.out.grown hgr (by have := Hgb.out; simp; omega))
          replace BR := Lib.hid (BR.out.grown hgr (by have := Hgb.out; simp; omega))
          replace ON := Lib.hid (ON.out.other hgr (fun a9 ha9 he => by injection he with he; injection ha9 with ha9; rw [← ha9] at he; exact HNG.out he))
          replace OH := Lib.hid (OH.out.other hgr (fun a9 ha9 he => by injection he with he; exact HNE1.out a9 ha9 he))
          replace HSZ := Lib.hid (Nat.le_trans HSZ.out hgr.size)
          replace B := Lib.hid (B.out.grown hgr B.out.size (fun g9 h9 => by injection h9 with h9; have := Hgb.out; omega))
          rw [← hWn]
          clear hWn hgr z0 f0 z1 f1 z2 f2 z3 f3 z4 f4 z5 f5
          refine hK.out _ _ ?_ (fun hHeld => ?_)
          · (try dsimp only)
            exact ⟨BB.out.cell rfl, BB.out.cell rfl, BB.out.cell rfl, BL.out.cell rfl, BL.out.cell rfl⟩
          clear hK K
          (try simp only [Act.put, List.setIfInBounds_toArray, List.set_cons_zero, List.set_cons_succ])
          refine wpAnyH_done (by kernel_rfl) ?_ _
          clear hHeld
          (try go_wp2_with fail)
          go_meet
          exact ⟨gb, gn, A', c', rfl, OH.out.lower hB02, ON.out.lower hB02, HAP.out, HNE1.out, HNG.out, Nat.le_trans hB02 Hgb.out, BZ.out, BB.out, BL.out, BR.out, HSZ.out, B.out⟩
        · go_simp
          obtain ⟨wt, hWn⟩ : ∃ W5, W5 = wy.alloc (.cells #[.int .i64 0, .int .i64 0, .slice none 0 0, .int .i64 0, .int .i64 0, .slice none 0 0] 34) := ⟨_, rfl⟩
          have hb : Below wy.heap.size wy wt := by rw [hWn]; exact below_new (Below.refl _ _) _
          obtain ⟨gb, hgp⟩ : ∃ gp, gp = wy.heap.size := ⟨_, rfl⟩
          have BZ := Lib.hid (show Bx wt gb #[.int .i64 0, .int .i64 0, .slice none 0 0, .int .i64 0, .int .i64 0, .slice none 0 0] 34 by rw [hWn, hgp]; exact Bx.new _ _ _)
          have Hgb := Lib.hid (show B0 ≤ gb by rw [hgp]; exact HB0.out)
          replace HB0 := Lib.hid (Nat.le_trans HB0.out hb.size)
          have HNE1 := Lib.hid (show ∀ y, A' = some y → y.block ≠ gb from fun y hy => by have := (OH.out.span y hy).2; omega)
          rw [← hWn]
          (try rw [← hgp])
          clear hWn hgp
          replace BB := Lib.hid (BB.out.keep hb)
          replace BL := Lib.hid (BL.out.keep hb)
          replace BR := Lib.hid (BR.out.keep hb)
          replace OH := Lib.hid (OH.out.keep hb)
          replace HSZ := Lib.hid (Nat.le_trans HSZ.out hb.size)
          replace B := Lib.hid (below_next B.out hb)
          clear hb
          refine hK.out _ _ ?_ (fun hHeld => ?_)
          · (try dsimp only)
            exact ⟨BB.out.cell rfl, BB.out.cell rfl, BB.out.cell rfl, BL.out.cell rfl, BL.out.cell rfl⟩
          clear hK K
          (try simp only [Act.put, List.setIfInBounds_toArray, List.set_cons_zero, List.set_cons_succ])
          refine wpAnyH_ready (rs := [11]) (by kernel_rfl) (by simp) ?_
          refine AllReadyH.cons (o := ⟨_, _, _, _, _, _⟩) rfl (fun K hK => ?_) AllReadyH.nil
          go_simp
          (go_at_call 68; refine (pzNumbers_any W H A n c A3 m3 c3 N ps _ (by exact (RQ0.out.keep B.out).drew1) HNN.out HTI.out HK.out).mono ?_; rintro e wz ⟨gn, rfl, own, hb⟩; (repeat (first | replace hb := below_undrew hb | replace hb := below_undrewN hb)); have ON := Lib.hid (own.lower (show B0 ≤ wt.heap.size from HB0.out)); have HNG := Lib.hid (show gn ≠ gb by have h8 : wt.heap.size ≤ gn := (own.span _ rfl).1; have h9 := BZ.out.lt; omega); have HAP := Lib.hid (show Apart A' (some ⟨gn, 0, none⟩) from fun y z hy hz => by injection hz with hz; have h8 := (OH.out.span y hy).2; have h9 : wt.heap.size ≤ gn := (own.span _ rfl).1; rw [← hz]; dsimp only; omega); replace HB0 := Lib.hid (Nat.le_trans HB0.out hb.size); clear own; replace BB := Lib.hid (BB.out.keep hb); replace BL := Lib.hid (BL.out.keep hb); replace BR := Lib.hid (BR.out.keep hb); replace OH := Lib.hid (OH.out.keep hb); replace BZ := Lib.hid (BZ.out.keep hb); replace HSZ := Lib.hid (Nat.le_trans HSZ.out hb.size); replace B := Lib.hid (below_next B.out hb); clear hb)
          (try go_wp2_with fail)
          refine hK.out _ _ ?_ (fun hHeld => ?_)
          · (try dsimp only)
            exact ⟨BB.out.cell rfl, BB.out.cell rfl, BB.out.cell rfl, BL.out.cell rfl, BL.out.cell rfl⟩
          clear hK K
          (try simp only [Act.put, List.setIfInBounds_toArray, List.set_cons_zero, List.set_cons_succ])
          refine wpAnyH_take (i := 12) (oi := ⟨_, _, _, _, _, _⟩) (v := ?_) rfl (by kernel_rfl) (by kernel_rfl) (by kernel_rfl) (fun _ _ _ h => h) (Or.inl ⟨by rfl, ?_⟩) (by assumption) ?_
          rotate_left
          · intro w hSw
            (try dsimp only at hSw)
            go_simp
            (try with_reducible rfl)
          (try simp only [Act.put, List.setIfInBounds_toArray, List.set_cons_zero, List.set_cons_succ])
          refine wpAnyH_ready (rs := [14]) (by kernel_rfl) (by simp) ?_
          refine AllReadyH.cons (o := ⟨_, _, _, _, _, _⟩) rfl (fun K hK => ?_) AllReadyH.nil
          have z0 : wz.cell? ⟨gb, 0, none⟩ = some (.int .i64 0) := BZ.out.cell rfl
          have z1 : wz.cell? ⟨gb, 1, none⟩ = some (.int .i64 0) := BZ.out.cell rfl
          have z2 : wz.cell? ⟨gb, 2, none⟩ = some (.slice none 0 0) := BZ.out.cell rfl
          have z3 : wz.cell? ⟨gb, 3, none⟩ = some (.int .i64 0) := BZ.out.cell rfl
          have z4 : wz.cell? ⟨gb, 4, none⟩ = some (.int .i64 0) := BZ.out.cell rfl
          have z5 : wz.cell? ⟨gb, 5, none⟩ = some (.slice none 0 0) := BZ.out.cell rfl
          have f0 : wz.frozen? ⟨gb, 0, none⟩ = false := BZ.out.frozen 0
          have f1 : wz.frozen? ⟨gb, 1, none⟩ = false := BZ.out.frozen 1
          have f2 : wz.frozen? ⟨gb, 2, none⟩ = false := BZ.out.frozen 2
          have f3 : wz.frozen? ⟨gb, 3, none⟩ = false := BZ.out.frozen 3
          have f4 : wz.frozen? ⟨gb, 4, none⟩ = false := BZ.out.frozen 4
          have f5 : wz.frozen? ⟨gb, 5, none⟩ = false := BZ.out.frozen 5
          go_simp
          obtain ⟨wq, hWn⟩ : ∃ W5, W5 = (((((wz.setCell ⟨gb, 0, none⟩ (.int .i64 W)).setCell ⟨gb, 1, none⟩ (.int .i64 H)).setCell ⟨gb, 2, none⟩ (.slice A' n c')).setCell ⟨gb, 3, none⟩ (.int .i64 a)).setCell ⟨gb, 4, none⟩ (.int .i64 b)).setCell ⟨gb, 5, none⟩ (.slice (some ⟨gn, 0, none⟩) N N) := ⟨_, rfl⟩
          have hgr : wz.grownBy wq (some (gb)) := by rw [hWn]; exact (grown_next (grown_next (grown_next (grown_next (grown_next (grownSet1 wz ⟨gb, 0, none⟩ (.int .i64 W)) (grownSet1 _ ⟨gb, 1, none⟩ (.int .i64 H))) (grownSet1 _ ⟨gb, 2, none⟩ (.slice A' n c'))) (grownSet1 _ ⟨gb, 3, none⟩ (.int .i64 a))) (grownSet1 _ ⟨gb, 4, none⟩ (.int .i64 b))) (grownSet1 _ ⟨gb, 5, none⟩ (.slice (some ⟨gn, 0, none⟩) N N)))
          replace BZ := Lib.hid (show Bx wq (gb) #[.int .i64 W, .int .i64 H, .slice A' n c', .int .i64 a, .int .i64 b, .slice (some ⟨gn, 0, none⟩) N N] 34 by rw [hWn]; exact ((((((BZ.out.set 0 (.int .i64 W)).set 1 (.int .i64 H)).set 2 (.slice A' n c')).set 3 (.int .i64 a)).set 4 (.int .i64 b)).set 5 (.slice (some ⟨gn, 0, none⟩) N N)))
          replace BB := Lib.hid (BB.out.grown hgr (by have := Hgb.out; simp; omega))
          replace BL := Lib.hid (BL.out.grown hgr (by have := Hgb.out; simp; omega))
          replace BR := Lib.hid (BR.out.grown hgr (by have := Hgb.out; simp; omega))
          replace ON := Lib.hid (ON.out.other hgr (fun a9 ha9 he => by injection he with he; injection ha9 with ha9; rw [← ha9] at he; exact HNG.out he))
          replace OH := Lib.hid (OH.out.other hgr (fun a9 ha9 he => by injection he with he; exact HNE1.out a9 ha9 he))
          replace HSZ := Lib.hid (Nat.le_trans HSZ.out hgr.size)
          replace B := Lib.hid (B.out.grown hgr B.out.size (fun g9 h9 => by injection h9 with h9; have := Hgb.out; omega))
          rw [← hWn]
          clear hWn hgr z0 f0 z1 f1 z2 f2 z3 f3 z4 f4 z5 f5
          refine hK.out _ _ ?_ (fun hHeld => ?_)
          · (try dsimp only)
            exact ⟨BB.out.cell rfl, BB.out.cell rfl, BB.out.cell rfl, BL.out.cell rfl, BL.out.cell rfl⟩
          clear hK K
          (try simp only [Act.put, List.setIfInBounds_toArray, List.set_cons_zero, List.set_cons_succ])
          refine wpAnyH_done (by kernel_rfl) ?_ _
          clear hHeld
          (try go_wp2_with fail)
          go_meet
          exact ⟨gb, gn, A', c', rfl, OH.out.lower hB02, ON.out.lower hB02, HAP.out, HNE1.out, HNG.out, Nat.le_trans hB02 Hgb.out, BZ.out, BB.out, BL.out, BR.out, HSZ.out, B.out⟩
      · go_simp
        obtain ⟨wt, hWn⟩ : ∃ W5, W5 = wv.alloc (.cells #[.int .i64 0, .int .i64 0, .slice none 0 0, .int .i64 0, .int .i64 0, .slice none 0 0] 34) := ⟨_, rfl⟩
        have hb : Below wv.heap.size wv wt := by rw [hWn]; exact below_new (Below.refl _ _) _
        obtain ⟨gb, hgp⟩ : ∃ gp, gp = wv.heap.size := ⟨_, rfl⟩
        have BZ := Lib.hid (show Bx wt gb #[.int .i64 0, .int .i64 0, .slice none 0 0, .int .i64 0, .int .i64 0, .slice none 0 0] 34 by rw [hWn, hgp]; exact Bx.new _ _ _)
        have Hgb := Lib.hid (show B0 ≤ gb by rw [hgp]; exact HB0.out)
        replace HB0 := Lib.hid (Nat.le_trans HB0.out hb.size)
        rw [← hWn]
        (try rw [← hgp])
        clear hWn hgp
        replace BB := Lib.hid (BB.out.keep hb)
        replace BL := Lib.hid (BL.out.keep hb)
        replace BR := Lib.hid (BR.out.keep hb)
        replace HSZ := Lib.hid (Nat.le_trans HSZ.out hb.size)
        replace B := Lib.hid (below_next B.out hb)
        clear hb
        refine hK.out _ _ ?_ (fun hHeld => ?_)
        · (try dsimp only)
          exact ⟨BB.out.cell rfl, BB.out.cell rfl, BB.out.cell rfl, BL.out.cell rfl, BL.out.cell rfl⟩
        clear hK K
        (try simp only [Act.put, List.setIfInBounds_toArray, List.set_cons_zero, List.set_cons_succ])
        refine wpAnyH_ready (rs := [6]) (by kernel_rfl) (by simp) ?_
        refine AllReadyH.cons (o := ⟨_, _, _, _, _, _⟩) rfl (fun K hK => ?_) AllReadyH.nil
        go_simp
        (go_at_call 67; refine (l1Own_all A n c xs _ (by exact (RA0.out.keep B.out).drew1) (by omega)).mono ?_; rintro e wy ⟨A', c', rfl, own, hb⟩; (repeat (first | replace hb := below_undrew hb | replace hb := below_undrewN hb)); have OH := Lib.hid (own.lower (show B0 ≤ wt.heap.size from HB0.out)); have HNE1 := Lib.hid (show ∀ y, A' = some y → y.block ≠ gb from fun y hy => by have h8 : wt.heap.size ≤ y.block := (own.span y hy).1; have h9 := BZ.out.lt; omega); replace HB0 := Lib.hid (Nat.le_trans HB0.out hb.size); clear own; replace BB := Lib.hid (BB.out.keep hb); replace BL := Lib.hid (BL.out.keep hb); replace BR := Lib.hid (BR.out.keep hb); replace BZ := Lib.hid (BZ.out.keep hb); replace HSZ := Lib.hid (Nat.le_trans HSZ.out hb.size); replace B := Lib.hid (below_next B.out hb); clear hb)
        (try go_wp2_with fail)
        refine hK.out _ _ ?_ (fun hHeld => ?_)
        · (try dsimp only)
          exact ⟨BB.out.cell rfl, BB.out.cell rfl, BB.out.cell rfl, BL.out.cell rfl, BL.out.cell rfl⟩
        clear hK K
        (try simp only [Act.put, List.setIfInBounds_toArray, List.set_cons_zero, List.set_cons_succ])
        refine wpAnyH_take (i := 7) (oi := ⟨_, _, _, _, _, _⟩) (v := ?_) rfl (by kernel_rfl) (by kernel_rfl) (by kernel_rfl) (fun _ _ _ h => h) (Or.inl ⟨by rfl, ?_⟩) (by assumption) ?_
        rotate_left
        · intro w hSw
          (try dsimp only at hSw)
          go_simp
          (try with_reducible rfl)
        (try simp only [Act.put, List.setIfInBounds_toArray, List.set_cons_zero, List.set_cons_succ])
        refine wpAnyH_ready (rs := [11]) (by kernel_rfl) (by simp) ?_
        refine AllReadyH.cons (o := ⟨_, _, _, _, _, _⟩) rfl (fun K hK => ?_) AllReadyH.nil
        go_simp
        (go_at_call 68; refine (pzNumbers_any W H A n c A3 m3 c3 N ps _ (by exact (RQ0.out.keep B.out).drew1) HNN.out HTI.out HK.out).mono ?_; rintro e wz ⟨gn, rfl, own, hb⟩; (repeat (first | replace hb := below_undrew hb | replace hb := below_undrewN hb)); have ON := Lib.hid (own.lower (show B0 ≤ wy.heap.size from HB0.out)); have HNG := Lib.hid (show gn ≠ gb by have h8 : wy.heap.size ≤ gn := (own.span _ rfl).1; have h9 := BZ.out.lt; omega); have HAP := Lib.hid (show Apart A' (some ⟨gn, 0, none⟩) from fun y z hy hz => by injection hz with hz; have h8 := (OH.out.span y hy).2; have h9 : wy.heap.size ≤ gn := (own.span _ rfl).1; rw [← hz]; dsimp only; omega); replace HB0 := Lib.hid (Nat.le_trans HB0.out hb.size); clear own; replace BB := Lib.hid (BB.out.keep hb); replace BL := Lib.hid (BL.out.keep hb); replace BR := Lib.hid (BR.out.keep hb); replace OH := Lib.hid (OH.out.keep hb); replace BZ := Lib.hid (BZ.out.keep hb); replace HSZ := Lib.hid (Nat.le_trans HSZ.out hb.size); replace B := Lib.hid (below_next B.out hb); clear hb)
        (try go_wp2_with fail)
        refine hK.out _ _ ?_ (fun hHeld => ?_)
        · (try dsimp only)
          exact ⟨BB.out.cell rfl, BB.out.cell rfl, BB.out.cell rfl, BL.out.cell rfl, BL.out.cell rfl⟩
        clear hK K
        (try simp only [Act.put, List.setIfInBounds_toArray, List.set_cons_zero, List.set_cons_succ])
        refine wpAnyH_take (i := 12) (oi := ⟨_, _, _, _, _, _⟩) (v := ?_) rfl (by kernel_rfl) (by kernel_rfl) (by kernel_rfl) (fun _ _ _ h => h) (Or.inl ⟨by rfl, ?_⟩) (by assumption) ?_
        rotate_left
        · intro w hSw
          (try dsimp only at hSw)
          go_simp
          (try with_reducible rfl)
        (try simp only [Act.put, List.setIfInBounds_toArray, List.set_cons_zero, List.set_cons_succ])
        refine wpAnyH_ready (rs := [14]) (by kernel_rfl) (by simp) ?_
        refine AllReadyH.cons (o := ⟨_, _, _, _, _, _⟩) rfl (fun K hK => ?_) AllReadyH.nil
        have z0 : wz.cell? ⟨gb, 0, none⟩ = some (.int .i64 0) := BZ.out.cell rfl
        have z1 : wz.cell? ⟨gb, 1, none⟩ = some (.int .i64 0) := BZ.out.cell rfl
        have z2 : wz.cell? ⟨gb, 2, none⟩ = some (.slice none 0 0) := BZ.out.cell rfl
        have z3 : wz.cell? ⟨gb, 3, none⟩ = some (.int .i64 0) := BZ.out.cell rfl
        have z4 : wz.cell? ⟨gb, 4, none⟩ = some (.int .i64 0) := BZ.out.cell rfl
        have z5 : wz.cell? ⟨gb, 5, none⟩ = some (.slice none 0 0) := BZ.out.cell rfl
        have f0 : wz.frozen? ⟨gb, 0, none⟩ = false := BZ.out.frozen 0
        have f1 : wz.frozen? ⟨gb, 1, none⟩ = false := BZ.out.frozen 1
        have f2 : wz.frozen? ⟨gb, 2, none⟩ = false := BZ.out.frozen 2
        have f3 : wz.frozen? ⟨gb, 3, none⟩ = false := BZ.out.frozen 3
        have f4 : wz.frozen? ⟨gb, 4, none⟩ = false := BZ.out.frozen 4
        have f5 : wz.frozen? ⟨gb, 5, none⟩ = false := BZ.out.frozen 5
        go_simp
        obtain ⟨wq, hWn⟩ : ∃ W5, W5 = (((((wz.setCell ⟨gb, 0, none⟩ (.int .i64 W)).setCell ⟨gb, 1, none⟩ (.int .i64 H)).setCell ⟨gb, 2, none⟩ (.slice A' n c')).setCell ⟨gb, 3, none⟩ (.int .i64 a)).setCell ⟨gb, 4, none⟩ (.int .i64 b)).setCell ⟨gb, 5, none⟩ (.slice (some ⟨gn, 0, none⟩) N N) := ⟨_, rfl⟩
        have hgr : wz.grownBy wq (some (gb)) := by rw [hWn]; exact (grown_next (grown_next (grown_next (grown_next (grown_next (grownSet1 wz ⟨gb, 0, none⟩ (.int .i64 W)) (grownSet1 _ ⟨gb, 1, none⟩ (.int .i64 H))) (grownSet1 _ ⟨gb, 2, none⟩ (.slice A' n c'))) (grownSet1 _ ⟨gb, 3, none⟩ (.int .i64 a))) (grownSet1 _ ⟨gb, 4, none⟩ (.int .i64 b))) (grownSet1 _ ⟨gb, 5, none⟩ (.slice (some ⟨gn, 0, none⟩) N N)))
        replace BZ := Lib.hid (show Bx wq (gb) #[.int .i64 W, .int .i64 H, .slice A' n c', .int .i64 a, .int .i64 b, .slice (some ⟨gn, 0, none⟩) N N] 34 by rw [hWn]; exact ((((((BZ.out.set 0 (.int .i64 W)).set 1 (.int .i64 H)).set 2 (.slice A' n c')).set 3 (.int .i64 a)).set 4 (.int .i64 b)).set 5 (.slice (some ⟨gn, 0, none⟩) N N)))
        replace BB := Lib.hid (BB.out.grown hgr (by have := Hgb.out; simp; omega))
        replace BL := Lib.hid (BL.out.grown hgr (by have := Hgb.out; simp; omega))
        replace BR := Lib.hid (BR.out.grown hgr (by have := Hgb.out; simp; omega))
        replace ON := Lib.hid (ON.out.other hgr (fun a9 ha9 he => by injection he with he; injection ha9 with ha9; rw [← ha9] at he; exact HNG.out he))
        replace OH := Lib.hid (OH.out.other hgr (fun a9 ha9 he => by injection he with he; exact HNE1.out a9 ha9 he))
        replace HSZ := Lib.hid (Nat.le_trans HSZ.out hgr.size)
        replace B := Lib.hid (B.out.grown hgr B.out.size (fun g9 h9 => by injection h9 with h9; have := Hgb.out; omega))
        rw [← hWn]
        clear hWn hgr z0 f0 z1 f1 z2 f2 z3 f3 z4 f4 z5 f5
        refine hK.out _ _ ?_ (fun hHeld => ?_)
        · (try dsimp only)
          exact ⟨BB.out.cell rfl, BB.out.cell rfl, BB.out.cell rfl, BL.out.cell rfl, BL.out.cell rfl⟩
        clear hK K
        (try simp only [Act.put, List.setIfInBounds_toArray, List.set_cons_zero, List.set_cons_succ])
        refine wpAnyH_done (by kernel_rfl) ?_ _
        clear hHeld
        (try go_wp2_with fail)
        go_meet
        exact ⟨gb, gn, A', c', rfl, OH.out.lower hB02, ON.out.lower hB02, HAP.out, HNE1.out, HNG.out, Nat.le_trans hB02 Hgb.out, BZ.out, BB.out, BL.out, BR.out, HSZ.out, B.out⟩
    case rest =>
      clear BB BL BR HSZ B
      obtain ⟨gb, gn, A', c', rfl, oh, own, hap, hne1, hng, hgb2, bz9, bb9, bl9, br, hsz, hbw⟩ := hcut
      have OH := Lib.hid oh; have ON := Lib.hid own; have HAP := Lib.hid hap; have HNE1 := Lib.hid hne1; have HNG := Lib.hid hng; have HGB2 := Lib.hid hgb2; have BZ := Lib.hid bz9; have BB := Lib.hid bb9; have BL := Lib.hid bl9; have BR := Lib.hid br; have HSZ := Lib.hid hsz; have B := Lib.hid hbw
      clear oh own hap hne1 hng hgb2 bz9 bb9 bl9 br hsz hbw
      have p5 := BZ.out.cell (j := 5) (v := .slice (some ⟨gn, 0, none⟩) N N) rfl
      go_wp2
      clear p5
      go_loopw [52] (fun i wr => ∃ k : Nat, k ≤ N ∧ i = .int .i64 k ∧ OwnI 3 wr (w.heap.size + 1 + 1 + 1) (some ⟨gn, 0, none⟩) N N (mapTo (mkV q) (numsL W H ps) k) ∧ OwnI 3 wr (w.heap.size + 1 + 1 + 1) A' n c' xs ∧ Bx wr gb #[.int .i64 W, .int .i64 H, .slice A' n c', .int .i64 a, .int .i64 b, .slice (some ⟨gn, 0, none⟩) N N] 34 ∧ Bx wr w.heap.size #[.int .i64 W, .int .i64 H, .slice A n c] 31 ∧ Bx wr (w.heap.size + 1) #[.int .i64 a, .int .i64 b] 32 ∧ Bx wr (w.heap.size + 1 + 1) #[.int .i64 0, .int .i64 0, .slice none 0 0, .int .i64 0, .int .i64 0, .slice none 0 0] 34 ∧ w.heap.size + 1 + 1 + 1 ≤ wr.heap.size ∧ Below w.heap.size w wr) (fun i _ => N - (intOf i).toNat)
      case atStart => exact ⟨0, Nat.zero_le _, rfl, ON.out, OH.out, BZ.out, BB.out, BL.out, BR.out, HSZ.out, B.out⟩
      case round =>
        clear ON OH BZ BB BL BR HSZ B
        obtain ⟨k, hk, rfl, own, oh, bz9, bb9, bl9, br, hsz, hbw⟩ := hrel
        have OH := Lib.hid oh; have ON := Lib.hid own; have BZ := Lib.hid bz9; have BB := Lib.hid bb9; have BL := Lib.hid bl9; have BR := Lib.hid br; have HSZ := Lib.hid hsz; have B := Lib.hid hbw
        clear oh own bz9 bb9 bl9 br hsz hbw
        by_cases hlt : k < N
        · obtain ⟨x, hx⟩ : ∃ x, (numsL W H ps)[k]? = some x := ⟨_, List.getElem?_eq_getElem (show k < (numsL W H ps).length by have := ON.out.len; rw [mapTo_len] at this; omega)⟩
          have hr := nums_rng HNN.out HT.out hx
          obtain ⟨hr1, hr2⟩ := hr
          have HX := Lib.hid hx
          clear hx
          have hk0 : (0 : Int) ≤ (k : Int) := by omega
          have hk2 : (k : Int) < (N : Int) := by omega
          have c0 := ON.out.cell (mapTo_at (f := mkV q) HX.out); have f0 := ON.out.frozen k
          have htm := Int.lt_tmod_of_pos (x - 1) (show 0 < q by omega)
          have htm2 := Int.tmod_lt_of_pos (x - 1) (show 0 < q by omega)
          by_cases hm : (x - 1).tmod q = 0
          · have HM0 := Lib.hid hm
            go_wp2
            go_roundw
            case rel => exact ⟨k + 1, by omega, by go_num, by rw [mapTo_same HX.out (show mkV q x = x by rw [mkV, if_pos HM0.out])]; exact ON.out, OH.out, BZ.out, BB.out, BL.out, BR.out, HSZ.out, B.out⟩
            case measure => simp [intOf]; omega
          · have HM0 := Lib.hid hm
            have hne0 : ((x - 1).tmod q != 0) = true := by simpa using hm
            obtain ⟨o9, g9⟩ := ON.out.stored k 0
            rw [show (mapTo (mkV q) (numsL W H ps) k).set k 0 = mapTo (mkV q) (numsL W H ps) (k + 1) by rw [← mapTo_set HX.out, mkV, if_neg HM0.out]] at o9
            obtain ⟨w4, hW4⟩ : ∃ W5, W5 = wr.setCell ⟨gn, k, none⟩ (.int .i64 0) := ⟨_, rfl⟩
            rw [← hW4] at o9 g9
            have p5 := BZ.out.cell (j := 5) (v := .slice (some ⟨gn, 0, none⟩) N N) rfl
            go_wp2
            rw [← hW4]
            clear hW4 c0 f0 p5
            replace ON := Lib.hid o9
            have hgn9 := (ON.out.span _ rfl).1
            dsimp only at hgn9
            replace BB := Lib.hid (BB.out.grown g9 (by simp; omega))
            replace BL := Lib.hid (BL.out.grown g9 (by simp; omega))
            replace BR := Lib.hid (BR.out.grown g9 (by simp; omega))
            replace HSZ := Lib.hid (Nat.le_trans HSZ.out g9.size)
            replace B := Lib.hid (B.out.grown g9 B.out.size (fun g8 h8 => by injection h8 with h8; omega))
            replace BZ := Lib.hid (BZ.out.grown g9 (by have := HNG.out; simp; omega))
            replace OH := Lib.hid (OH.out.other g9 (fun a9 ha9 he => HAP.out a9 _ ha9 rfl (by injection he)))
            clear o9 g9 hgn9
            go_roundw
            case rel => exact ⟨k + 1, by omega, by go_num, by rw [show mapTo (mkV q) (numsL W H ps) (k + 1) = mapTo (mkV q) (numsL W H ps) (k + 1) from rfl]; exact ON.out, OH.out, BZ.out, BB.out, BL.out, BR.out, HSZ.out, B.out⟩
            case measure => simp [intOf]; omega
        · have HE := Lib.hid (show mapTo (mkV q) (numsL W H ps) k = MakePuzzle_ns W H xs a b ps q by rw [mapTo_all _ _ (by have := ON.out.len; rw [mapTo_len] at this; omega), MakePuzzle_ns])
          rw [HE.out] at ON
          have s0 := BZ.out.cell (j := 0) (v := .int .i64 W) rfl
          have s1 := BZ.out.cell (j := 1) (v := .int .i64 H) rfl
          have s2 := BZ.out.cell (j := 2) (v := .slice A' n c') rfl
          have s3 := BZ.out.cell (j := 3) (v := .int .i64 a) rfl
          have s4 := BZ.out.cell (j := 4) (v := .int .i64 b) rfl
          have s5 := BZ.out.cell (j := 5) (v := .slice (some ⟨gn, 0, none⟩) N N) rfl
          have y0 : wr.cell? ⟨w.heap.size + 1 + 1, 0, none⟩ = some (.int .i64 0) := BR.out.cell rfl
          have y1 : wr.cell? ⟨w.heap.size + 1 + 1, 1, none⟩ = some (.int .i64 0) := BR.out.cell rfl
          have y2 : wr.cell? ⟨w.heap.size + 1 + 1, 2, none⟩ = some (.slice none 0 0) := BR.out.cell rfl
          have y3 : wr.cell? ⟨w.heap.size + 1 + 1, 3, none⟩ = some (.int .i64 0) := BR.out.cell rfl
          have y4 : wr.cell? ⟨w.heap.size + 1 + 1, 4, none⟩ = some (.int .i64 0) := BR.out.cell rfl
          have y5 : wr.cell? ⟨w.heap.size + 1 + 1, 5, none⟩ = some (.slice none 0 0) := BR.out.cell rfl
          have h0 : wr.frozen? ⟨w.heap.size + 1 + 1, 0, none⟩ = false := BR.out.frozen 0
          have h1 : wr.frozen? ⟨w.heap.size + 1 + 1, 1, none⟩ = false := BR.out.frozen 1
          have h2 : wr.frozen? ⟨w.heap.size + 1 + 1, 2, none⟩ = false := BR.out.frozen 2
          have h3 : wr.frozen? ⟨w.heap.size + 1 + 1, 3, none⟩ = false := BR.out.frozen 3
          have h4 : wr.frozen? ⟨w.heap.size + 1 + 1, 4, none⟩ = false := BR.out.frozen 4
          have h5 : wr.frozen? ⟨w.heap.size + 1 + 1, 5, none⟩ = false := BR.out.frozen 5
          have HOK := Lib.hid (show MakePuzzle_ok W H xs a b ps q = true by rw [MakePuzzle_ok, HPB.out, HT.out, HIN.out]; rfl)
          go_wp2
          refine bodyPost_ret (v := .tuple #[pzv W H A' n c' a b (some ⟨gn, 0, none⟩) N N, .bool true]) (by simp [results, Try.results33, go_sem, y0, y1, y2, y3, y4, y5]) rfl ⟨A', n, c', some ⟨gn, 0, none⟩, N, N, by rw [HOK.out]; rfl, ?_, ?_, HAP.out, ?_⟩
          · rw [HOK.out]
            show OwnI _ _ _ _ _ _ _
            refine OwnI.lower (lo := w.heap.size + 1 + 1 + 1) ?_ (by omega)
            repeat (first | refine own_setC ?_ (by omega) _ | exact OH.out)
          · rw [HOK.out]
            show OwnI _ _ _ _ _ _ _
            refine OwnI.lower (lo := w.heap.size + 1 + 1 + 1) ?_ (by omega)
            repeat (first | refine own_setC ?_ (by omega) _ | exact ON.out)
          · repeat (first | refine below_setC ?_ (by omega) _ | exact B.out)

end Go.Proofs.Ytkdfilhiljfanaa
