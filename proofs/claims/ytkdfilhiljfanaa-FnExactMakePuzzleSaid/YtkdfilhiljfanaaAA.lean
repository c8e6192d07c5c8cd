/-
  Contracts: BackPuzzle.
-/
import Derived.Test.YtkdfilhiljfanaaA9
namespace Go.Proofs.Ytkdfilhiljfanaa
open Go.RowKit

/-- The numbers before the k-th one are turned. -/
def mapTo (f : Int → Int) (l : List Int) (k : Nat) : List Int := (l.take k).map f ++ l.drop k
theorem mapTo_zero (f : Int → Int) (l : List Int) : mapTo f l 0 = l := rfl
theorem mapTo_all (f : Int → Int) (l : List Int) {k : Nat} (h : l.length ≤ k) : mapTo f l k = l.map f := by
  rw [mapTo, List.take_of_length_le h, List.drop_of_length_le h, List.append_nil]
theorem mapTo_len (f : Int → Int) (l : List Int) (k : Nat) : (mapTo f l k).length = l.length := by
  simp only [mapTo, List.length_append, List.length_map, List.length_take, List.length_drop]; omega
theorem mapTo_get (f : Int → Int) (l : List Int) (k i : Nat) : (mapTo f l k)[i]? = l[i]?.map fun x => if i < k then f x else x := by
  unfold mapTo
  by_cases h : i < k
  · by_cases h2 : i < l.length
    · rw [List.getElem?_append_left (by simp; omega), List.getElem?_map, List.getElem?_take, if_pos h]; simp [h]
    · rw [List.getElem?_append_right (by simp; omega), List.getElem?_drop, List.getElem?_eq_none (by simp; omega), List.getElem?_eq_none (by omega)]; rfl
  · by_cases h2 : k ≤ l.length
    · rw [List.getElem?_append_right (by simp; omega), List.getElem?_drop]
      simp only [List.length_map, List.length_take]
      rw [show k + (i - min k l.length) = i by omega]; simp [h]
    · rw [List.getElem?_append_right (by simp; omega), List.getElem?_drop, List.getElem?_eq_none (by omega), List.getElem?_eq_none (by omega)]; rfl
theorem mapTo_at {f : Int → Int} {l : List Int} {k : Nat} {x : Int} (h : l[k]? = some x) : (mapTo f l k)[k]? = some x := by
  rw [mapTo_get, h]; simp
theorem mapTo_set {f : Int → Int} {l : List Int} {k : Nat} {x : Int} (h : l[k]? = some x) : (mapTo f l k).set k (f x) = mapTo f l (k + 1) := by
  have hk : k < l.length := (List.getElem?_eq_some_iff.1 h).1
  refine List.ext_getElem? fun i => ?_
  rw [List.getElem?_set, mapTo_get, mapTo_get, mapTo_len]
  by_cases e : k = i
  · subst e; rw [if_pos rfl, if_pos hk, h]; simp
  · rw [if_neg e]
    cases l[i]? with
    | none => rfl
    | some t => have : i < k + 1 ↔ i < k := by omega
                simp only [Option.map_some, this]
theorem mapTo_same {f : Int → Int} {l : List Int} {k : Nat} {x : Int} (h : l[k]? = some x) (hf : f x = x) : mapTo f l (k + 1) = mapTo f l k := by
  rw [← mapTo_set h, hf]
  refine List.ext_getElem? fun i => ?_
  rw [List.getElem?_set]
  split
  · rename_i e; subst e
    split
    · exact (mapTo_at h).symm
    · rename_i h2; exact absurd (by rw [mapTo_len]; exact (List.getElem?_eq_some_iff.1 h).1) h2
  · rfl
theorem set_same {l : List Int} {k : Nat} {x : Int} (h : l[k]? = some x) : l.set k x = l := by
  refine List.ext_getElem? fun i => ?_
  rw [List.getElem?_set]
  split
  · rename_i e; subst e
    rw [if_pos (List.getElem?_eq_some_iff.1 h).1, h]
  · rfl
theorem wrap_small {n : Int} (h1 : -1000 ≤ n) (h2 : n ≤ 1000) : IntKind.i64.wrap n = n := by rw [IntKind.wrap_i64]; omega
theorem back_wrap {M : Nat} {x : Int} (hM : M ≤ 16) (h1 : 0 ≤ x) (h2 : x ≤ (M : Int)) : IntKind.i64.wrap (IntKind.i64.wrap ((M : Int) + 1) - x) = (M : Int) + 1 - x := by
  rw [wrap_small (n := (M : Int) + 1) (by omega) (by omega), wrap_small (by omega) (by omega)]
def backV (m x : Int) : Int := if x = 0 then 0 else m + 1 - x
def BackPuzzle_ok (W H : Int) (xs : List Int) (a b : Int) (ns : List Int) : Bool := goodP W H xs a b ns
def BackPuzzle_xs (_ _ : Int) (xs : List Int) (_ _ : Int) (_ : List Int) : List Int := xs
def BackPuzzle_ns (W H : Int) (xs : List Int) (_ _ : Int) (ns : List Int) : List Int := ns.map (backV ((cellsL W H xs).length : Int))
theorem good_sizes {W H a b : Int} {xs ns : List Int} (h : goodP W H xs a b ns = true) : 1 ≤ ns.length ∧ ns.length ≤ 64 ∧ xs.length ≤ 64 := by
  have h2 := goodP_len h
  have h3 := good_N (two_gK (goodP_two h))
  have h4 := cellsL_len (two_gK (goodP_two h))
  omega
theorem len_BackPuzzle (W H : Int) (xs : List Int) (a b : Int) (ns : List Int) : (zl (BackPuzzle_ok W H xs a b ns) (BackPuzzle_xs W H xs a b ns)).length ≤ 1000000 ∧ (zl (BackPuzzle_ok W H xs a b ns) (BackPuzzle_ns W H xs a b ns)).length ≤ 1000000 := by
  constructor <;> refine zl_le fun h => ?_ <;> have := good_sizes h
  · simp only [BackPuzzle_xs]; omega
  · simp only [BackPuzzle_ns, List.length_map]; omega
theorem pzWith0_any (W H : Int) (A : Option Addr) (n c : Nat) (a b : Int) (A2 : Option Addr) (n2 c2 : Nat) (xs ns : List Int) (v : Int) (w : World) (ha : Rd w A n xs) (hp : Rd w A2 n2 ns) (hj : 0 < n2) (hn : n ≤ 1000) (hn2 : n2 ≤ 1000) (hv : ns[0]? = some v) :
    Calls Try.prog 52 #[pzv W H A n c a b A2 n2 c2, .int .i64 0, .int .i64 v] w fun e w' => ∃ A' c' A2' c2', e = .returned (pzv W H A' n c' a b A2' n2 c2') ∧ OwnI 3 w' w.heap.size A' n c' xs ∧ OwnI 3 w' w.heap.size A2' n2 c2' ns ∧ Apart A' A2' ∧ Below w.heap.size w w' := by
  have h := pzWith_any W H A n c a b A2 n2 c2 xs ns 0 v w ha hp hj hn hn2
  rw [set_same hv] at h
  exact h

set_option maxRecDepth 100000 in
set_option maxHeartbeats 600000 in
theorem impl_BackPuzzle (W H : Int) (A : Option Addr) (n c : Nat) (a b : Int) (A2 : Option Addr) (n2 c2 : Nat) (xs ns : List Int) (w : World) (ha : Rd w A n xs) (hp : Rd w A2 n2 ns) :
    Calls Try.prog 29 #[pzv W H A n c a b A2 n2 c2] w fun e w' => ∃ A' n' c' A2' n2' c2', e = .returned (.tuple #[pzv (zi (BackPuzzle_ok W H xs a b ns) W) (zi (BackPuzzle_ok W H xs a b ns) H) A' n' c' (zi (BackPuzzle_ok W H xs a b ns) a) (zi (BackPuzzle_ok W H xs a b ns) b) A2' n2' c2', .bool (BackPuzzle_ok W H xs a b ns)]) ∧ OwnI 3 w' w.heap.size A' n' c' (zl (BackPuzzle_ok W H xs a b ns) (BackPuzzle_xs W H xs a b ns)) ∧ OwnI 3 w' w.heap.size A2' n2' c2' (zl (BackPuzzle_ok W H xs a b ns) (BackPuzzle_ns W H xs a b ns)) ∧ Apart A' A2' ∧ Below w.heap.size w w' := by
  have RA0 := Lib.hid ha; have RN0 := Lib.hid hp
  have HL := Lib.hid hp.1; have HLA := Lib.hid ha.1; have n9 := hp.2.1
  clear ha hp
  obtain ⟨W2, hW2⟩ : ∃ W2, W2 = (w.alloc (.cells #[.int .i64 W, .int .i64 H, .slice A n c, .int .i64 a, .int .i64 b, .slice A2 n2 c2] 34)).alloc (.cells #[.int .i64 0, .int .i64 0, .slice none 0 0, .int .i64 0, .int .i64 0, .slice none 0 0] 34) := ⟨_, rfl⟩
  have BP := Lib.hid (show Bx W2 (w.heap.size) #[.int .i64 W, .int .i64 H, .slice A n c, .int .i64 a, .int .i64 b, .slice A2 n2 c2] 34 by rw [hW2]; exact (Bx.new (w) #[.int .i64 W, .int .i64 H, .slice A n c, .int .i64 a, .int .i64 b, .slice A2 n2 c2] 34).keep (below_new (Below.refl _ _) (.cells #[.int .i64 0, .int .i64 0, .slice none 0 0, .int .i64 0, .int .i64 0, .slice none 0 0] 34)))
  have BR := Lib.hid (show Bx W2 (w.heap.size + 1) #[.int .i64 0, .int .i64 0, .slice none 0 0, .int .i64 0, .int .i64 0, .slice none 0 0] 34 by rw [hW2]; have := Bx.new (w.alloc (.cells #[.int .i64 W, .int .i64 H, .slice A n c, .int .i64 a, .int .i64 b, .slice A2 n2 c2] 34)) #[.int .i64 0, .int .i64 0, .slice none 0 0, .int .i64 0, .int .i64 0, .slice none 0 0] 34; simpa using this)
  have B := Lib.hid (show Below w.heap.size w W2 by rw [hW2]; repeat (first | exact Below.refl _ _ | refine below_new ?_ _))
  have HSZ := Lib.hid (show w.heap.size + 2 ≤ W2.heap.size by rw [hW2]; simp)
  by_cases hg : goodP W H xs a b ns = true
  rotate_left
  · have p0 : W2.cell? ⟨w.heap.size, 0, none⟩ = some (.int .i64 W) := BP.out.cell rfl
    have p1 : W2.cell? ⟨w.heap.size, 1, none⟩ = some (.int .i64 H) := BP.out.cell rfl
    have p2 : W2.cell? ⟨w.heap.size, 2, none⟩ = some (.slice A n c) := BP.out.cell rfl
    have p3 : W2.cell? ⟨w.heap.size, 3, none⟩ = some (.int .i64 a) := BP.out.cell rfl
    have p4 : W2.cell? ⟨w.heap.size, 4, none⟩ = some (.int .i64 b) := BP.out.cell rfl
    have p5 : W2.cell? ⟨w.heap.size, 5, none⟩ = some (.slice A2 n2 c2) := BP.out.cell rfl
    go_enter Try.func29, Try.ntmps29
    go_wp2_with fail
    rw [← hW2]
    clear hW2
    clear p0 p1 p2 p3 p4 p5
    refine (impl_IsPuzzle W H A n c a b A2 n2 c2 xs ns _ (RA0.out.keep B.out) (RN0.out.keep B.out)).mono ?_
    rw [show goodP W H xs a b ns = false by simpa using hg]
    rintro e wv ⟨rfl, hb⟩
    replace BP := Lib.hid (BP.out.keep hb)
    replace BR := Lib.hid (BR.out.keep hb)
    replace HSZ := Lib.hid (Nat.le_trans HSZ.out hb.size)
    replace B := Lib.hid (below_next B.out hb)
    clear hb
    have y0 : wv.cell? ⟨w.heap.size + 1, 0, none⟩ = some (.int .i64 0) := BR.out.cell rfl
    have y1 : wv.cell? ⟨w.heap.size + 1, 1, none⟩ = some (.int .i64 0) := BR.out.cell rfl
    have y2 : wv.cell? ⟨w.heap.size + 1, 2, none⟩ = some (.slice none 0 0) := BR.out.cell rfl
    have y3 : wv.cell? ⟨w.heap.size + 1, 3, none⟩ = some (.int .i64 0) := BR.out.cell rfl
    have y4 : wv.cell? ⟨w.heap.size + 1, 4, none⟩ = some (.int .i64 0) := BR.out.cell rfl
    have y5 : wv.cell? ⟨w.heap.size + 1, 5, none⟩ = some (.slice none 0 0) := BR.out.cell rfl
    have h0 : wv.frozen? ⟨w.heap.size + 1, 0, none⟩ = false := BR.out.frozen 0
    have h1 : wv.frozen? ⟨w.heap.size + 1, 1, none⟩ = false := BR.out.frozen 1
    have h2 : wv.frozen? ⟨w.heap.size + 1, 2, none⟩ = false := BR.out.frozen 2
    have h3 : wv.frozen? ⟨w.heap.size + 1, 3, none⟩ = false := BR.out.frozen 3
    have h4 : wv.frozen? ⟨w.heap.size + 1, 4, none⟩ = false := BR.out.frozen 4
    have h5 : wv.frozen? ⟨w.heap.size + 1, 5, none⟩ = false := BR.out.frozen 5
    have HNO := Lib.hid (show BackPuzzle_ok W H xs a b ns = false by rw [BackPuzzle_ok, show goodP W H xs a b ns = false by simpa using hg])
    go_wp2
    refine bodyPost_ret (v := .tuple #[pzv 0 0 none 0 0 0 0 none 0 0, .bool false]) (by simp [results, Try.results29, go_sem, y0, y1, y2, y3, y4, y5]) rfl ⟨none, 0, 0, none, 0, 0, by rw [HNO.out]; rfl, by rw [HNO.out]; exact OwnI.none_ _ _ _, by rw [HNO.out]; exact OwnI.none_ _ _ _, Apart.none_left _, ?_⟩
    repeat (first | refine below_setC ?_ (by omega) _ | exact B.out)
  · have HG := Lib.hid hg
    have hz1 : 1 ≤ n2 := by have := good_sizes hg; have := HL.out; omega
    have hz2 : n2 ≤ 64 := by have := good_sizes hg; have := HL.out; omega
    have hn : n ≤ 64 := by have := good_sizes hg; have := HLA.out; omega
    have p0 : W2.cell? ⟨w.heap.size, 0, none⟩ = some (.int .i64 W) := BP.out.cell rfl
    have p1 : W2.cell? ⟨w.heap.size, 1, none⟩ = some (.int .i64 H) := BP.out.cell rfl
    have p2 : W2.cell? ⟨w.heap.size, 2, none⟩ = some (.slice A n c) := BP.out.cell rfl
    have p3 : W2.cell? ⟨w.heap.size, 3, none⟩ = some (.int .i64 a) := BP.out.cell rfl
    have p4 : W2.cell? ⟨w.heap.size, 4, none⟩ = some (.int .i64 b) := BP.out.cell rfl
    have p5 : W2.cell? ⟨w.heap.size, 5, none⟩ = some (.slice A2 n2 c2) := BP.out.cell rfl
    go_enter Try.func29, Try.ntmps29
    go_wp2_with fail
    rw [← hW2]
    clear hW2
    clear p0 p1 p2 p3 p4 p5
    refine (impl_IsPuzzle W H A n c a b A2 n2 c2 xs ns _ (RA0.out.keep B.out) (RN0.out.keep B.out)).mono ?_
    rw [hg]
    rintro e wv ⟨rfl, hb⟩
    replace BP := Lib.hid (BP.out.keep hb)
    replace BR := Lib.hid (BR.out.keep hb)
    replace HSZ := Lib.hid (Nat.le_trans HSZ.out hb.size)
    replace B := Lib.hid (below_next B.out hb)
    clear hb
    clear hg
    have p5 : wv.cell? ⟨w.heap.size, 5, none⟩ = some (.slice A2 n2 c2) := BP.out.cell rfl
    go_wp2_with fail
    clear p5
    refine (cloneI_any A2 n2 c2 ns _ (RN0.out.keep B.out) (by omega)).mono ?_
    rintro e wy ⟨AN, cN, rfl, own, hb⟩
    have ON := Lib.hid (own.lower HSZ.out)
    clear own
    replace BP := Lib.hid (BP.out.keep hb)
    replace BR := Lib.hid (BR.out.keep hb)
    replace HSZ := Lib.hid (Nat.le_trans HSZ.out hb.size)
    replace B := Lib.hid (below_next B.out hb)
    clear hb
    obtain ⟨gn, rfl, hgn1, hgn2⟩ := ON.out.some_ (k := 0) (by omega)
    have p0 : wy.cell? ⟨w.heap.size, 0, none⟩ = some (.int .i64 W) := BP.out.cell rfl
    have p1 : wy.cell? ⟨w.heap.size, 1, none⟩ = some (.int .i64 H) := BP.out.cell rfl
    have p2 : wy.cell? ⟨w.heap.size, 2, none⟩ = some (.slice A n c) := BP.out.cell rfl
    go_wp2_with fail
    clear p0 p1 p2
    refine (cellsThere_any _ _ _ _ _ _ _ (RA0.out.keep B.out) (two_gK (goodP_two HG.out))).mono ?_
    rintro e wz ⟨A', M, c', rfl, own, hb⟩
    have HM := Lib.hid own.len
    have hM : M ≤ 16 := by rw [← HM.out]; exact goodP_few HG.out
    clear own
    replace BP := Lib.hid (BP.out.keep hb)
    replace BR := Lib.hid (BR.out.keep hb)
    replace ON := Lib.hid (ON.out.keep hb)
    replace HSZ := Lib.hid (Nat.le_trans HSZ.out hb.size)
    replace B := Lib.hid (below_next B.out hb)
    clear hb
    go_wp2
    go_loopw [21] (fun i wr => ∃ k : Nat, k ≤ n2 ∧ i = .int .i64 k ∧ OwnI 3 wr (w.heap.size + 1 + 1) (some ⟨gn, 0, none⟩) n2 cN (mapTo (backV (M : Int)) ns k) ∧ Bx wr w.heap.size #[.int .i64 W, .int .i64 H, .slice A n c, .int .i64 a, .int .i64 b, .slice A2 n2 c2] 34 ∧ Bx wr (w.heap.size + 1) #[.int .i64 0, .int .i64 0, .slice none 0 0, .int .i64 0, .int .i64 0, .slice none 0 0] 34 ∧ w.heap.size + 1 + 1 ≤ wr.heap.size ∧ Below w.heap.size w wr) (fun i _ => n2 - (intOf i).toNat)
    case atStart => exact ⟨0, Nat.zero_le _, rfl, ON.out, BP.out, BR.out, HSZ.out, B.out⟩
    case round =>
      clear ON BP BR HSZ B
      obtain ⟨k, hk, rfl, own, bp, br, hsz, hbw⟩ := hrel
      have ON := Lib.hid own; have BP := Lib.hid bp; have BR := Lib.hid br; have HSZ := Lib.hid hsz; have B := Lib.hid hbw
      clear own bp br hsz hbw
      by_cases hlt : k < n2
      · obtain ⟨x, hx⟩ : ∃ x, ns[k]? = some x := ⟨_, List.getElem?_eq_getElem (show k < ns.length by have := HL.out; omega)⟩
        have hr := numOk_rng (goodP_at HG.out hx)
        rw [HM.out] at hr
        obtain ⟨hr1, hr2⟩ := hr
        have HX := Lib.hid hx
        clear hx
        have hk0 : (0 : Int) ≤ (k : Int) := by omega
        have hk2 : (k : Int) < (n2 : Int) := by omega
        have c0 := ON.out.cell (mapTo_at (f := backV (M : Int)) HX.out); have f0 := ON.out.frozen k
        by_cases h0 : x = 0
        · subst h0
          go_wp2
          clear c0 f0
          go_roundw
          case rel => exact ⟨k + 1, by omega, by go_num, by rw [mapTo_same HX.out (show backV (M : Int) 0 = 0 from rfl)]; exact ON.out, BP.out, BR.out, HSZ.out, B.out⟩
          case measure => simp [intOf]; omega
        · have hne0 : (x != 0) = true := by simpa using h0
          obtain ⟨o9, g9⟩ := ON.out.stored k ((M : Int) + 1 - x)
          rw [show (mapTo (backV (M : Int)) ns k).set k ((M : Int) + 1 - x) = mapTo (backV (M : Int)) ns (k + 1) by rw [← mapTo_set HX.out, backV, if_neg h0]] at o9
          obtain ⟨w4, hW4⟩ : ∃ W5, W5 = wr.setCell ⟨gn, k, none⟩ (.int .i64 ((M : Int) + 1 - x)) := ⟨_, rfl⟩
          rw [← hW4] at o9 g9
          go_wp2
          rw [← hW4]
          clear hW4 c0 f0
          replace ON := Lib.hid o9
          have hgn9 := (ON.out.span _ rfl).1
          dsimp only at hgn9
          replace BP := Lib.hid (BP.out.grown g9 (by simp; omega))
          replace BR := Lib.hid (BR.out.grown g9 (by simp; omega))
          replace HSZ := Lib.hid (Nat.le_trans HSZ.out g9.size)
          replace B := Lib.hid (B.out.grown g9 B.out.size (fun g8 h8 => by injection h8 with h8; omega))
          clear o9 g9 hgn9
          go_roundw
          case rel => exact ⟨k + 1, by omega, by go_num, by rw [show mapTo (backV (M : Int)) ns (k + 1) = mapTo (backV (M : Int)) ns (k + 1) from rfl]; exact ON.out, BP.out, BR.out, HSZ.out, B.out⟩
          case measure => simp [intOf]; omega
      · have HE := Lib.hid (show mapTo (backV (M : Int)) ns k = BackPuzzle_ns W H xs a b ns by rw [mapTo_all _ _ (by have := HL.out; omega), BackPuzzle_ns, HM.out])
        have p0 : wr.cell? ⟨w.heap.size, 0, none⟩ = some (.int .i64 W) := BP.out.cell rfl
        have p1 : wr.cell? ⟨w.heap.size, 1, none⟩ = some (.int .i64 H) := BP.out.cell rfl
        have p2 : wr.cell? ⟨w.heap.size, 2, none⟩ = some (.slice A n c) := BP.out.cell rfl
        have p3 : wr.cell? ⟨w.heap.size, 3, none⟩ = some (.int .i64 a) := BP.out.cell rfl
        have p4 : wr.cell? ⟨w.heap.size, 4, none⟩ = some (.int .i64 b) := BP.out.cell rfl
        have p5 : wr.cell? ⟨w.heap.size, 5, none⟩ = some (.slice A2 n2 c2) := BP.out.cell rfl
        go_wp2_with fail
        clear p0 p1 p2 p3 p4 p5
        rw [HE.out] at ON
        refine (having_any W H A n c a b A2 n2 c2 xs (some ⟨gn, 0, none⟩) n2 cN _ (RA0.out.keep B.out) (by omega)).mono ?_
        rintro e wx ⟨A', c', rfl, own, hb⟩
        have HAP := Lib.hid (apart_lt own ON.out (Nat.le_refl _))
        have OH := Lib.hid (own.lower HSZ.out)
        clear own
        replace BP := Lib.hid (BP.out.keep hb)
        replace BR := Lib.hid (BR.out.keep hb)
        replace ON := Lib.hid (ON.out.keep hb)
        replace HSZ := Lib.hid (Nat.le_trans HSZ.out hb.size)
        replace B := Lib.hid (below_next B.out hb)
        clear hb
        have y0 : wx.cell? ⟨w.heap.size + 1, 0, none⟩ = some (.int .i64 0) := BR.out.cell rfl
        have y1 : wx.cell? ⟨w.heap.size + 1, 1, none⟩ = some (.int .i64 0) := BR.out.cell rfl
        have y2 : wx.cell? ⟨w.heap.size + 1, 2, none⟩ = some (.slice none 0 0) := BR.out.cell rfl
        have y3 : wx.cell? ⟨w.heap.size + 1, 3, none⟩ = some (.int .i64 0) := BR.out.cell rfl
        have y4 : wx.cell? ⟨w.heap.size + 1, 4, none⟩ = some (.int .i64 0) := BR.out.cell rfl
        have y5 : wx.cell? ⟨w.heap.size + 1, 5, none⟩ = some (.slice none 0 0) := BR.out.cell rfl
        have h0 : wx.frozen? ⟨w.heap.size + 1, 0, none⟩ = false := BR.out.frozen 0
        have h1 : wx.frozen? ⟨w.heap.size + 1, 1, none⟩ = false := BR.out.frozen 1
        have h2 : wx.frozen? ⟨w.heap.size + 1, 2, none⟩ = false := BR.out.frozen 2
        have h3 : wx.frozen? ⟨w.heap.size + 1, 3, none⟩ = false := BR.out.frozen 3
        have h4 : wx.frozen? ⟨w.heap.size + 1, 4, none⟩ = false := BR.out.frozen 4
        have h5 : wx.frozen? ⟨w.heap.size + 1, 5, none⟩ = false := BR.out.frozen 5
        have HOK := Lib.hid (show BackPuzzle_ok W H xs a b ns = true from HG.out)
        go_wp2
        refine bodyPost_ret (v := .tuple #[pzv W H A' n c' a b (some ⟨gn, 0, none⟩) n2 cN, .bool true]) (by simp [results, Try.results29, go_sem, y0, y1, y2, y3, y4, y5]) rfl ⟨A', n, c', (some ⟨gn, 0, none⟩), n2, cN, by rw [HOK.out]; rfl, ?_, ?_, HAP.out, ?_⟩
        · rw [HOK.out]
          show OwnI _ _ _ _ _ _ _
          refine OwnI.lower (lo := w.heap.size + 1 + 1) ?_ (by omega)
          repeat (first | refine own_setC ?_ (by omega) _ | exact OH.out)
        · rw [HOK.out]
          show OwnI _ _ _ _ _ _ _
          refine OwnI.lower (lo := w.heap.size + 1 + 1) ?_ (by omega)
          repeat (first | refine own_setC ?_ (by omega) _ | exact ON.out)
        · repeat (first | refine below_setC ?_ (by omega) _ | exact B.out)

set_option maxRecDepth 100000 in
set_option maxHeartbeats 600000 in
theorem spec_BackPuzzle (W H : Int) (A : Option Addr) (n c : Nat) (a b : Int) (A2 : Option Addr) (n2 c2 : Nat) (xs ns : List Int) (w : World) (ha : Rd w A n xs) (hp : Rd w A2 n2 ns) (hcap : n2 ≤ c2) :
    Calls Try.prog 28 #[pzv W H A n c a b A2 n2 c2] w fun e w' => ∃ A' n' c' A2' n2' c2', e = .returned (.tuple #[pzv (zi (BackPuzzle_ok W H xs a b ns) W) (zi (BackPuzzle_ok W H xs a b ns) H) A' n' c' (zi (BackPuzzle_ok W H xs a b ns) a) (zi (BackPuzzle_ok W H xs a b ns) b) A2' n2' c2', .bool (BackPuzzle_ok W H xs a b ns)]) ∧ OwnI 3 w' w.heap.size A' n' c' (zl (BackPuzzle_ok W H xs a b ns) (BackPuzzle_xs W H xs a b ns)) ∧ OwnI 3 w' w.heap.size A2' n2' c2' (zl (BackPuzzle_ok W H xs a b ns) (BackPuzzle_ns W H xs a b ns)) ∧ Apart A' A2' ∧ Below w.heap.size w w' := by
  have RA0 := Lib.hid ha; have RN0 := Lib.hid hp
  have HL := Lib.hid hp.1; have HLA := Lib.hid ha.1; have n9 := hp.2.1
  clear ha hp
  obtain ⟨W2, hW2⟩ : ∃ W2, W2 = (w.alloc (.cells #[.int .i64 W, .int .i64 H, .slice A n c, .int .i64 a, .int .i64 b, .slice A2 n2 c2] 34)).alloc (.cells #[.int .i64 0, .int .i64 0, .slice none 0 0, .int .i64 0, .int .i64 0, .slice none 0 0] 34) := ⟨_, rfl⟩
  have BP := Lib.hid (show Bx W2 (w.heap.size) #[.int .i64 W, .int .i64 H, .slice A n c, .int .i64 a, .int .i64 b, .slice A2 n2 c2] 34 by rw [hW2]; exact (Bx.new (w) #[.int .i64 W, .int .i64 H, .slice A n c, .int .i64 a, .int .i64 b, .slice A2 n2 c2] 34).keep (below_new (Below.refl _ _) (.cells #[.int .i64 0, .int .i64 0, .slice none 0 0, .int .i64 0, .int .i64 0, .slice none 0 0] 34)))
  have BR := Lib.hid (show Bx W2 (w.heap.size + 1) #[.int .i64 0, .int .i64 0, .slice none 0 0, .int .i64 0, .int .i64 0, .slice none 0 0] 34 by rw [hW2]; have := Bx.new (w.alloc (.cells #[.int .i64 W, .int .i64 H, .slice A n c, .int .i64 a, .int .i64 b, .slice A2 n2 c2] 34)) #[.int .i64 0, .int .i64 0, .slice none 0 0, .int .i64 0, .int .i64 0, .slice none 0 0] 34; simpa using this)
  have B := Lib.hid (show Below w.heap.size w W2 by rw [hW2]; repeat (first | exact Below.refl _ _ | refine below_new ?_ _))
  have HSZ := Lib.hid (show w.heap.size + 2 ≤ W2.heap.size by rw [hW2]; simp)
  by_cases hg : goodP W H xs a b ns = true
  rotate_left
  · have p0 : W2.cell? ⟨w.heap.size, 0, none⟩ = some (.int .i64 W) := BP.out.cell rfl
    have p1 : W2.cell? ⟨w.heap.size, 1, none⟩ = some (.int .i64 H) := BP.out.cell rfl
    have p2 : W2.cell? ⟨w.heap.size, 2, none⟩ = some (.slice A n c) := BP.out.cell rfl
    have p3 : W2.cell? ⟨w.heap.size, 3, none⟩ = some (.int .i64 a) := BP.out.cell rfl
    have p4 : W2.cell? ⟨w.heap.size, 4, none⟩ = some (.int .i64 b) := BP.out.cell rfl
    have p5 : W2.cell? ⟨w.heap.size, 5, none⟩ = some (.slice A2 n2 c2) := BP.out.cell rfl
    go_enter Try.func28, Try.ntmps28
    go_wp2_with fail
    rw [← hW2]
    clear hW2
    clear p0 p1 p2 p3 p4 p5
    refine (pzGood_any W H A n c a b A2 n2 c2 xs ns _ (RA0.out.keep B.out) (RN0.out.keep B.out) hcap).mono ?_
    rw [show goodP W H xs a b ns = false by simpa using hg]
    rintro e wv ⟨rfl, hb⟩
    replace BP := Lib.hid (BP.out.keep hb)
    replace BR := Lib.hid (BR.out.keep hb)
    replace HSZ := Lib.hid (Nat.le_trans HSZ.out hb.size)
    replace B := Lib.hid (below_next B.out hb)
    clear hb
    have y0 : wv.cell? ⟨w.heap.size + 1, 0, none⟩ = some (.int .i64 0) := BR.out.cell rfl
    have y1 : wv.cell? ⟨w.heap.size + 1, 1, none⟩ = some (.int .i64 0) := BR.out.cell rfl
    have y2 : wv.cell? ⟨w.heap.size + 1, 2, none⟩ = some (.slice none 0 0) := BR.out.cell rfl
    have y3 : wv.cell? ⟨w.heap.size + 1, 3, none⟩ = some (.int .i64 0) := BR.out.cell rfl
    have y4 : wv.cell? ⟨w.heap.size + 1, 4, none⟩ = some (.int .i64 0) := BR.out.cell rfl
    have y5 : wv.cell? ⟨w.heap.size + 1, 5, none⟩ = some (.slice none 0 0) := BR.out.cell rfl
    have h0 : wv.frozen? ⟨w.heap.size + 1, 0, none⟩ = false := BR.out.frozen 0
    have h1 : wv.frozen? ⟨w.heap.size + 1, 1, none⟩ = false := BR.out.frozen 1
    have h2 : wv.frozen? ⟨w.heap.size + 1, 2, none⟩ = false := BR.out.frozen 2
    have h3 : wv.frozen? ⟨w.heap.size + 1, 3, none⟩ = false := BR.out.frozen 3
    have h4 : wv.frozen? ⟨w.heap.size + 1, 4, none⟩ = false := BR.out.frozen 4
    have h5 : wv.frozen? ⟨w.heap.size + 1, 5, none⟩ = false := BR.out.frozen 5
    have HNO := Lib.hid (show BackPuzzle_ok W H xs a b ns = false by rw [BackPuzzle_ok, show goodP W H xs a b ns = false by simpa using hg])
    go_wp2
    refine bodyPost_ret (v := .tuple #[pzv 0 0 none 0 0 0 0 none 0 0, .bool false]) (by simp [results, Try.results28, go_sem, y0, y1, y2, y3, y4, y5]) rfl ⟨none, 0, 0, none, 0, 0, by rw [HNO.out]; rfl, by rw [HNO.out]; exact OwnI.none_ _ _ _, by rw [HNO.out]; exact OwnI.none_ _ _ _, Apart.none_left _, ?_⟩
    repeat (first | refine below_setC ?_ (by omega) _ | exact B.out)
  · obtain ⟨x1, hx1⟩ : ∃ x, ns[0]? = some x := ⟨_, List.getElem?_eq_getElem (show 0 < ns.length by have := good_sizes hg; omega)⟩
    have HX1 := Lib.hid hx1
    have HG := Lib.hid hg
    have hz1 : 1 ≤ n2 := by have := good_sizes hg; have := HL.out; omega
    have hz2 : n2 ≤ 64 := by have := good_sizes hg; have := HL.out; omega
    have hn : n ≤ 64 := by have := good_sizes hg; have := HLA.out; omega
    obtain ⟨bb, oo, y1, rfl, hg1, hy1, x0⟩ := RN0.out.at_ (k := 0) (by omega)
    obtain rfl : x1 = y1 := by rw [hx1] at hy1; injection hy1
    clear hx1 hy1
    rw [Nat.add_zero] at x0
    have hz0 : (0 : Int) < (n2 : Int) := by omega
    have hz00 : 0 < n2 := by omega
    have p0 : W2.cell? ⟨w.heap.size, 0, none⟩ = some (.int .i64 W) := BP.out.cell rfl
    have p1 : W2.cell? ⟨w.heap.size, 1, none⟩ = some (.int .i64 H) := BP.out.cell rfl
    have p2 : W2.cell? ⟨w.heap.size, 2, none⟩ = some (.slice A n c) := BP.out.cell rfl
    have p3 : W2.cell? ⟨w.heap.size, 3, none⟩ = some (.int .i64 a) := BP.out.cell rfl
    have p4 : W2.cell? ⟨w.heap.size, 4, none⟩ = some (.int .i64 b) := BP.out.cell rfl
    have p5 : W2.cell? ⟨w.heap.size, 5, none⟩ = some (.slice (some ⟨bb, oo, none⟩) n2 c2) := BP.out.cell rfl
    go_enter Try.func28, Try.ntmps28
    go_wp2_with fail
    rw [← hW2]
    clear hW2
    clear p0 p1 p2 p3 p4 p5
    refine (pzGood_any W H A n c a b _ n2 c2 xs ns _ (RA0.out.keep B.out) (RN0.out.keep B.out) hcap).mono ?_
    rw [hg]
    rintro e wv ⟨rfl, hb⟩
    replace BP := Lib.hid (BP.out.keep hb)
    replace BR := Lib.hid (BR.out.keep hb)
    replace HSZ := Lib.hid (Nat.le_trans HSZ.out hb.size)
    replace B := Lib.hid (below_next B.out hb)
    clear hb
    clear hg
    replace x0 := cell_keep x0 hg1 B.out
    have p0 : wv.cell? ⟨w.heap.size, 0, none⟩ = some (.int .i64 W) := BP.out.cell rfl
    have p1 : wv.cell? ⟨w.heap.size, 1, none⟩ = some (.int .i64 H) := BP.out.cell rfl
    have p2 : wv.cell? ⟨w.heap.size, 2, none⟩ = some (.slice A n c) := BP.out.cell rfl
    have p3 : wv.cell? ⟨w.heap.size, 3, none⟩ = some (.int .i64 a) := BP.out.cell rfl
    have p4 : wv.cell? ⟨w.heap.size, 4, none⟩ = some (.int .i64 b) := BP.out.cell rfl
    have p5 : wv.cell? ⟨w.heap.size, 5, none⟩ = some (.slice (some ⟨bb, oo, none⟩) n2 c2) := BP.out.cell rfl
    go_wp2_with fail
    clear p0 p1 p2 p3 p4 p5
    obtain ⟨B0, hB0⟩ : ∃ B0, B0 = wv.heap.size := ⟨_, rfl⟩
    have HB0 := Lib.hid (show B0 ≤ wv.heap.size by omega)
    have hB02 : w.heap.size + 1 + 1 ≤ B0 := by rw [hB0]; exact HSZ.out
    clear hB0
    refine wp_region_held_drew (S := fun w' => w'.cell? ⟨w.heap.size, 0, none⟩ = some (.int .i64 W) ∧ w'.cell? ⟨w.heap.size, 1, none⟩ = some (.int .i64 H) ∧ w'.cell? ⟨w.heap.size, 2, none⟩ = some (.slice A n c) ∧ w'.cell? ⟨w.heap.size, 3, none⟩ = some (.int .i64 a) ∧ w'.cell? ⟨w.heap.size, 4, none⟩ = some (.int .i64 b) ∧ w'.cell? ⟨w.heap.size, 5, none⟩ = some (.slice (some ⟨bb, oo, none⟩) n2 c2) ∧ w'.cell? ⟨bb, oo, none⟩ = some (.int .i64 x1)) (by kernel_rfl) ?_ (fun hHeld => ?_)
    · (try dsimp only)
      exact ⟨BP.out.cell rfl, BP.out.cell rfl, BP.out.cell rfl, BP.out.cell rfl, BP.out.cell rfl, BP.out.cell rfl, x0⟩
    refine wpAnyH_take (i := 0) (oi := ⟨_, _, _, _, _, _⟩) (v := ?_) rfl (by kernel_rfl) (by kernel_rfl) (by kernel_rfl) (fun _ _ _ h => h) (Or.inl ⟨by rfl, ?_⟩) (by assumption) ?_
    rotate_left
    · intro w hSw
      (try dsimp only at hSw)
      go_simp
      (try with_reducible rfl)
    (try simp only [Act.put, List.setIfInBounds_toArray, List.set_cons_zero, List.set_cons_succ])
    refine wpAnyH_take (i := 1) (oi := ⟨_, _, _, _, _, _⟩) (v := ?_) rfl (by kernel_rfl) (by kernel_rfl) (by kernel_rfl) (fun _ _ _ h => h) (Or.inl ⟨by rfl, ?_⟩) (by assumption) ?_
    rotate_left
    · intro w hSw
      (try dsimp only at hSw)
      go_simp
      (try with_reducible rfl)
    (try simp only [Act.put, List.setIfInBounds_toArray, List.set_cons_zero, List.set_cons_succ])
    refine wpAnyH_take (i := 2) (oi := ⟨_, _, _, _, _, _⟩) (v := ?_) rfl (by kernel_rfl) (by kernel_rfl) (by kernel_rfl) (fun _ _ _ h => h) (Or.inl ⟨by rfl, ?_⟩) (by assumption) ?_
    rotate_left
    · intro w hSw
      (try dsimp only at hSw)
      go_simp
      (try with_reducible rfl)
    (try simp only [Act.put, List.setIfInBounds_toArray, List.set_cons_zero, List.set_cons_succ])
    refine wpAnyH_take (i := 3) (oi := ⟨_, _, _, _, _, _⟩) (v := ?_) rfl (by kernel_rfl) (by kernel_rfl) (by kernel_rfl) (fun _ _ _ h => h) (Or.inl ⟨by rfl, ?_⟩) (by assumption) ?_
    rotate_left
    · intro w hSw
      (try dsimp only at hSw)
      go_simp
      (try with_reducible rfl)
    (try simp only [Act.put, List.setIfInBounds_toArray, List.set_cons_zero, List.set_cons_succ])
    refine wpAnyH_take (i := 4) (oi := ⟨_, _, _, _, _, _⟩) (v := ?_) rfl (by kernel_rfl) (by kernel_rfl) (by kernel_rfl) (fun _ _ _ h => h) (Or.inl ⟨by rfl, ?_⟩) (by assumption) ?_
    rotate_left
    · intro w hSw
      (try dsimp only at hSw)
      go_simp
      (try with_reducible rfl)
    (try simp only [Act.put, List.setIfInBounds_toArray, List.set_cons_zero, List.set_cons_succ])
    refine wpAnyH_ready (rs := [5, 6]) (by kernel_rfl) (by simp) ?_
    refine AllReadyH.cons (o := ⟨_, _, _, _, _, _⟩) rfl (fun K hK => ?_) (AllReadyH.cons (o := ⟨_, _, _, _, _, _⟩) rfl (fun K hK => ?_) AllReadyH.nil)
    · go_simp
      (go_at_call 52; refine (pzWith0_any W H A n c a b _ n2 c2 xs ns x1 _ (by exact (RA0.out.keep B.out).drew1) (by exact (RN0.out.keep B.out).drew1) (by omega) (by omega) (by omega) HX1.out).mono ?_; rintro e wy ⟨A', c', A2', c2', rfl, o1, o2, hap, hb⟩; (repeat (first | replace hb := below_undrew hb | replace hb := below_undrewN hb)); have OH := Lib.hid (o1.lower (show B0 ≤ wv.heap.size from HB0.out)); have ON := Lib.hid (o2.lower (show B0 ≤ wv.heap.size from HB0.out)); have HAP := Lib.hid hap; replace HB0 := Lib.hid (Nat.le_trans HB0.out hb.size); replace x0 := cell_keep x0 (Nat.lt_of_lt_of_le hg1 B.out.size) hb; clear o1 o2 hap; replace BP := Lib.hid (BP.out.keep hb); replace BR := Lib.hid (BR.out.keep hb); replace HSZ := Lib.hid (Nat.le_trans HSZ.out hb.size); replace B := Lib.hid (below_next B.out hb); clear hb)
      (try go_wp2_with fail)
      refine hK.out _ _ ?_ (fun hHeld => ?_)
      · (try dsimp only)
        exact ⟨BP.out.cell rfl, BP.out.cell rfl, BP.out.cell rfl, BP.out.cell rfl, BP.out.cell rfl, BP.out.cell rfl, x0⟩
      clear hK K
      (try simp only [Act.put, List.setIfInBounds_toArray, List.set_cons_zero, List.set_cons_succ])
      refine wpAnyH_ready (rs := [6]) (by kernel_rfl) (by simp) ?_
      refine AllReadyH.cons (o := ⟨_, _, _, _, _, _⟩) rfl (fun K hK => ?_) AllReadyH.nil
      go_simp
      obtain ⟨wz, hWn⟩ : ∃ W5, W5 = wy.alloc (.cells #[.int .i64 0, .int .i64 0, .slice none 0 0, .int .i64 0, .int .i64 0, .slice none 0 0] 34) := ⟨_, rfl⟩
      have hb : Below wy.heap.size wy wz := by rw [hWn]; exact below_new (Below.refl _ _) _
      obtain ⟨gb, hgp⟩ : ∃ gp, gp = wy.heap.size := ⟨_, rfl⟩
      have BB := Lib.hid (show Bx wz gb #[.int .i64 0, .int .i64 0, .slice none 0 0, .int .i64 0, .int .i64 0, .slice none 0 0] 34 by rw [hWn, hgp]; exact Bx.new _ _ _)
      have Hgb := Lib.hid (show B0 ≤ gb by rw [hgp]; exact HB0.out)
      replace HB0 := Lib.hid (Nat.le_trans HB0.out hb.size)
      replace x0 := cell_keep x0 (Nat.lt_of_lt_of_le hg1 B.out.size) hb
      have HNE1 := Lib.hid (show ∀ y, A' = some y → y.block ≠ gb from fun y hy => by have := (OH.out.span y hy).2; omega)
      have HNE2 := Lib.hid (show ∀ y, A2' = some y → y.block ≠ gb from fun y hy => by have := (ON.out.span y hy).2; omega)
      rw [← hWn]
      (try rw [← hgp])
      clear hWn hgp
      replace BP := Lib.hid (BP.out.keep hb)
      replace BR := Lib.hid (BR.out.keep hb)
      replace OH := Lib.hid (OH.out.keep hb)
      replace ON := Lib.hid (ON.out.keep hb)
      replace HSZ := Lib.hid (Nat.le_trans HSZ.out hb.size)
      replace B := Lib.hid (below_next B.out hb)
      clear hb
      refine hK.out _ _ ?_ (fun hHeld => ?_)
      · (try dsimp only)
        exact ⟨BP.out.cell rfl, BP.out.cell rfl, BP.out.cell rfl, BP.out.cell rfl, BP.out.cell rfl, BP.out.cell rfl, x0⟩
      clear hK K
      (try simp only [Act.put, List.setIfInBounds_toArray, List.set_cons_zero, List.set_cons_succ])
      refine wpAnyH_ready (rs := [7]) (by kernel_rfl) (by simp) ?_
      refine AllReadyH.cons (o := ⟨_, _, _, _, _, _⟩) rfl (fun K hK => ?_) AllReadyH.nil
      have HBB9 := Lib.hid (show bb < w.heap.size from hg1)
      have z0 : wz.cell? ⟨gb, 0, none⟩ = some (.int .i64 0) := BB.out.cell rfl
      have z1 : wz.cell? ⟨gb, 1, none⟩ = some (.int .i64 0) := BB.out.cell rfl
      have z2 : wz.cell? ⟨gb, 2, none⟩ = some (.slice none 0 0) := BB.out.cell rfl
      have z3 : wz.cell? ⟨gb, 3, none⟩ = some (.int .i64 0) := BB.out.cell rfl
      have z4 : wz.cell? ⟨gb, 4, none⟩ = some (.int .i64 0) := BB.out.cell rfl
      have z5 : wz.cell? ⟨gb, 5, none⟩ = some (.slice none 0 0) := BB.out.cell rfl
      have f0 : wz.frozen? ⟨gb, 0, none⟩ = false := BB.out.frozen 0
      have f1 : wz.frozen? ⟨gb, 1, none⟩ = false := BB.out.frozen 1
      have f2 : wz.frozen? ⟨gb, 2, none⟩ = false := BB.out.frozen 2
      have f3 : wz.frozen? ⟨gb, 3, none⟩ = false := BB.out.frozen 3
      have f4 : wz.frozen? ⟨gb, 4, none⟩ = false := BB.out.frozen 4
      have f5 : wz.frozen? ⟨gb, 5, none⟩ = false := BB.out.frozen 5
      go_simp
      obtain ⟨wq, hWn⟩ : ∃ W5, W5 = (((((wz.setCell ⟨gb, 0, none⟩ (.int .i64 W)).setCell ⟨gb, 1, none⟩ (.int .i64 H)).setCell ⟨gb, 2, none⟩ (.slice A' n c')).setCell ⟨gb, 3, none⟩ (.int .i64 a)).setCell ⟨gb, 4, none⟩ (.int .i64 b)).setCell ⟨gb, 5, none⟩ (.slice A2' n2 c2') := ⟨_, rfl⟩
      have hgr : wz.grownBy wq (some (gb)) := by rw [hWn]; exact (grown_next (grown_next (grown_next (grown_next (grown_next (grownSet1 wz ⟨gb, 0, none⟩ (.int .i64 W)) (grownSet1 _ ⟨gb, 1, none⟩ (.int .i64 H))) (grownSet1 _ ⟨gb, 2, none⟩ (.slice A' n c'))) (grownSet1 _ ⟨gb, 3, none⟩ (.int .i64 a))) (grownSet1 _ ⟨gb, 4, none⟩ (.int .i64 b))) (grownSet1 _ ⟨gb, 5, none⟩ (.slice A2' n2 c2')))
      replace BB := Lib.hid (show Bx wq (gb) #[.int .i64 W, .int .i64 H, .slice A' n c', .int .i64 a, .int .i64 b, .slice A2' n2 c2'] 34 by rw [hWn]; exact ((((((BB.out.set 0 (.int .i64 W)).set 1 (.int .i64 H)).set 2 (.slice A' n c')).set 3 (.int .i64 a)).set 4 (.int .i64 b)).set 5 (.slice A2' n2 c2')))
      replace BP := Lib.hid (BP.out.grown hgr (by have := Hgb.out; simp; omega))
      replace BR := Lib.hid (BR.out.grown hgr (by have := Hgb.out; simp; omega))
      replace ON := Lib.hid (ON.out.other hgr (fun a9 ha9 he => by injection he with he; exact HNE2.out a9 ha9 he))
      replace OH := Lib.hid (OH.out.other hgr (fun a9 ha9 he => by injection he with he; exact HNE1.out a9 ha9 he))
      replace HSZ := Lib.hid (Nat.le_trans HSZ.out hgr.size)
      replace B := Lib.hid (B.out.grown hgr B.out.size (fun g9 h9 => by injection h9 with h9; have := Hgb.out; omega))
      replace x0 := cell_mark x0 hgr (by have := Hgb.out; have := HBB9.out; simp; omega)
      rw [← hWn]
      clear hWn hgr z0 f0 z1 f1 z2 f2 z3 f3 z4 f4 z5 f5
      refine hK.out _ _ ?_ (fun hHeld => ?_)
      · (try dsimp only)
        exact ⟨BP.out.cell rfl, BP.out.cell rfl, BP.out.cell rfl, BP.out.cell rfl, BP.out.cell rfl, BP.out.cell rfl, x0⟩
      clear hK K
      (try simp only [Act.put, List.setIfInBounds_toArray, List.set_cons_zero, List.set_cons_succ])
      refine wpAnyH_done (by kernel_rfl) ?_ _
      clear hHeld x0
      replace OH := Lib.hid (OH.out.lower hB02); replace ON := Lib.hid (ON.out.lower hB02)
      obtain ⟨gn, rfl, hgn1, hgn2⟩ := ON.out.some_ (k := 0) (by omega)
      have HGB2 := Lib.hid (Nat.le_trans hB02 Hgb.out)
      have HNG := Lib.hid (show gn ≠ gb from HNE2.out _ rfl)
      have p5 : wq.cell? ⟨w.heap.size, 5, none⟩ = some (.slice (some ⟨bb, oo, none⟩) n2 c2) := BP.out.cell rfl
      go_wp2
      clear p5
      go_loopw [20] (fun i wr => ∃ k : Nat, k ≤ n2 ∧ i = .int .i64 k ∧ OwnI 3 wr (w.heap.size + 1 + 1) (some ⟨gn, 0, none⟩) n2 c2' (mapTo (backV ((cellsL W H xs).length : Int)) ns k) ∧ OwnI 3 wr (w.heap.size + 1 + 1) A' n c' xs ∧ Bx wr gb #[.int .i64 W, .int .i64 H, .slice A' n c', .int .i64 a, .int .i64 b, .slice (some ⟨gn, 0, none⟩) n2 c2'] 34 ∧ Bx wr w.heap.size #[.int .i64 W, .int .i64 H, .slice A n c, .int .i64 a, .int .i64 b, .slice (some ⟨bb, oo, none⟩) n2 c2] 34 ∧ Bx wr (w.heap.size + 1) #[.int .i64 0, .int .i64 0, .slice none 0 0, .int .i64 0, .int .i64 0, .slice none 0 0] 34 ∧ w.heap.size + 1 + 1 ≤ wr.heap.size ∧ Below w.heap.size w wr) (fun i _ => n2 - (intOf i).toNat)
      case atStart => exact ⟨0, Nat.zero_le _, rfl, ON.out, OH.out, BB.out, BP.out, BR.out, HSZ.out, B.out⟩
      case round =>
        clear ON OH BB BP BR HSZ B HB0
        obtain ⟨k, hk, rfl, own, oh, bb9, bp, br, hsz, hbw⟩ := hrel
        have OH := Lib.hid oh; have BB := Lib.hid bb9
        clear oh bb9
        have ON := Lib.hid own; have BP := Lib.hid bp; have BR := Lib.hid br; have HSZ := Lib.hid hsz; have B := Lib.hid hbw
        clear own bp br hsz hbw
        obtain ⟨M, hM9⟩ : ∃ M, (cellsL W H xs).length = M := ⟨_, rfl⟩
        have HM := Lib.hid hM9
        have hM : M ≤ 16 := by rw [← hM9]; exact goodP_few HG.out
        rw [hM9] at ON
        clear hM9
        by_cases hlt : k < n2
        · obtain ⟨x, hx⟩ : ∃ x, ns[k]? = some x := ⟨_, List.getElem?_eq_getElem (show k < ns.length by have := HL.out; omega)⟩
          have hr := numOk_rng (goodP_at HG.out hx)
          rw [HM.out] at hr
          obtain ⟨hr1, hr2⟩ := hr
          have HX := Lib.hid hx
          clear hx
          have hk0 : (0 : Int) ≤ (k : Int) := by omega
          have hk2 : (k : Int) < (n2 : Int) := by omega
          obtain ⟨b1, o1, y1, e1, hgk, hy1, x0⟩ := (RN0.out.keep B.out).at_ hlt
          cases e1
          obtain rfl : x = y1 := by rw [HX.out] at hy1; injection hy1
          clear hy1
          by_cases h0 : x = 0
          · subst h0
            go_wp2
            go_roundw
            case rel => exact ⟨k + 1, by omega, by go_num, by rw [HM.out, mapTo_same HX.out (show backV (M : Int) 0 = 0 from rfl)]; exact ON.out, OH.out, BB.out, BP.out, BR.out, HSZ.out, B.out⟩
            case measure => simp [intOf]; omega
          · have hpos : (0 : Int) < x := by omega
            go_wp2_with fail
            refine wp_region_held_drew (S := fun w' => w'.cell? ⟨w.heap.size, 0, none⟩ = some (.int .i64 W) ∧ w'.cell? ⟨w.heap.size, 1, none⟩ = some (.int .i64 H) ∧ w'.cell? ⟨w.heap.size, 2, none⟩ = some (.slice A n c) ∧ w'.cell? ⟨gb, 5, none⟩ = some (.slice (some ⟨gn, 0, none⟩) n2 c2')) (by kernel_rfl) ?_ (fun hHeld => ?_)
            · (try dsimp only)
              exact ⟨BP.out.cell rfl, BP.out.cell rfl, BP.out.cell rfl, BB.out.cell rfl⟩
            refine wpAnyH_take (i := 0) (oi := ⟨_, _, _, _, _, _⟩) (v := ?_) rfl (by kernel_rfl) (by kernel_rfl) (by kernel_rfl) (fun _ _ _ h => h) (Or.inl ⟨by rfl, ?_⟩) (by assumption) ?_
            rotate_left
            · intro w hSw
              (try dsimp only at hSw)
              go_simp
              (try with_reducible rfl)
            (try simp only [Act.put, List.setIfInBounds_toArray, List.set_cons_zero, List.set_cons_succ])
            refine wpAnyH_take (i := 2) (oi := ⟨_, _, _, _, _, _⟩) (v := ?_) rfl (by kernel_rfl) (by kernel_rfl) (by kernel_rfl) (fun _ _ _ h => h) (Or.inl ⟨by rfl, ?_⟩) (by assumption) ?_
            rotate_left
            · intro w hSw
              (try dsimp only at hSw)
              go_simp
              (try with_reducible rfl)
            (try simp only [Act.put, List.setIfInBounds_toArray, List.set_cons_zero, List.set_cons_succ])
            refine wpAnyH_take (i := 3) (oi := ⟨_, _, _, _, _, _⟩) (v := ?_) rfl (by kernel_rfl) (by kernel_rfl) (by kernel_rfl) (fun _ _ _ h => h) (Or.inl ⟨by rfl, ?_⟩) (by assumption) ?_
            rotate_left
            · intro w hSw
              (try dsimp only at hSw)
              go_simp
              (try with_reducible rfl)
            (try simp only [Act.put, List.setIfInBounds_toArray, List.set_cons_zero, List.set_cons_succ])
            refine wpAnyH_take (i := 8) (oi := ⟨_, _, _, _, _, _⟩) (v := ?_) rfl (by kernel_rfl) (by kernel_rfl) (by kernel_rfl) (fun _ _ _ h => h) (Or.inl ⟨by rfl, ?_⟩) (by assumption) ?_
            rotate_left
            · intro w hSw
              (try dsimp only at hSw)
              go_simp
              (try with_reducible rfl)
            (try simp only [Act.put, List.setIfInBounds_toArray, List.set_cons_zero, List.set_cons_succ])
            refine wpAnyH_take (i := 1) (oi := ⟨_, _, _, _, _, _⟩) (v := ?_) rfl (by kernel_rfl) (by kernel_rfl) (by kernel_rfl) (fun _ _ _ h => h) (Or.inl ⟨by rfl, ?_⟩) (by assumption) ?_
            rotate_left
            · intro w hSw
              (try dsimp only at hSw)
              go_simp
              (try with_reducible rfl)
            (try simp only [Act.put, List.setIfInBounds_toArray, List.set_cons_zero, List.set_cons_succ])
            refine wpAnyH_take (i := 4) (oi := ⟨_, _, _, _, _, _⟩) (v := ?_) rfl (by kernel_rfl) (by kernel_rfl) (by kernel_rfl) (fun _ _ _ h => h) (Or.inl ⟨by rfl, ?_⟩) (by assumption) ?_
            rotate_left
            · intro w hSw
              (try dsimp only at hSw)
              go_simp
              (try with_reducible rfl)
            (try simp only [Act.put, List.setIfInBounds_toArray, List.set_cons_zero, List.set_cons_succ])
            refine wpAnyH_ready (rs := [5]) (by kernel_rfl) (by simp) ?_
            refine AllReadyH.cons (o := ⟨_, _, _, _, _, _⟩) rfl (fun K hK => ?_) AllReadyH.nil
            go_simp
            (go_at_call 44; refine (boCells_any _ _ _ _ _ _ _ (by exact (RA0.out.keep B.out).drew1) (good_N (two_gK (goodP_two HG.out)))).mono ?_; rintro e wy ⟨A9, M9, c9, rfl, own9, hb⟩; (repeat (first | replace hb := below_undrew hb | replace hb := below_undrewN hb)); obtain rfl : M = M9 := (by have h8 := own9.len; have h9 := HM.out; omega); clear own9; replace BP := Lib.hid (BP.out.keep hb); replace BR := Lib.hid (BR.out.keep hb); replace BB := Lib.hid (BB.out.keep hb); replace OH := Lib.hid (OH.out.keep hb); replace ON := Lib.hid (ON.out.keep hb); replace HSZ := Lib.hid (Nat.le_trans HSZ.out hb.size); replace B := Lib.hid (below_next B.out hb); clear hb)
            (try go_wp2_with fail)
            refine hK.out _ _ ?_ (fun hHeld => ?_)
            · (try dsimp only)
              exact ⟨BP.out.cell rfl, BP.out.cell rfl, BP.out.cell rfl, BB.out.cell rfl⟩
            clear hK K
            (try simp only [Act.put, List.setIfInBounds_toArray, List.set_cons_zero, List.set_cons_succ])
            refine wpAnyH_take (i := 6) (oi := ⟨_, _, _, _, _, _⟩) (v := ?_) rfl (by kernel_rfl) (by kernel_rfl) (by kernel_rfl) (fun _ _ _ h => h) (Or.inl ⟨by rfl, ?_⟩) (by assumption) ?_
            rotate_left
            · intro w hSw
              (try dsimp only at hSw)
              go_simp
              (try with_reducible rfl)
            (try simp only [Act.put, List.setIfInBounds_toArray, List.set_cons_zero, List.set_cons_succ])
            refine wpAnyH_take (i := 7) (oi := ⟨_, _, _, _, _, _⟩) (v := ?_) rfl (by kernel_rfl) (by kernel_rfl) (by kernel_rfl) (fun _ _ _ h => h) (Or.inl ⟨by rfl, ?_⟩) (by assumption) ?_
            rotate_left
            · intro w hSw
              (try dsimp only at hSw)
              go_simp
              (try with_reducible rfl)
            (try simp only [Act.put, List.setIfInBounds_toArray, List.set_cons_zero, List.set_cons_succ])
            refine wpAnyH_take (i := 9) (oi := ⟨_, _, _, _, _, _⟩) (v := ?_) rfl (by kernel_rfl) (by kernel_rfl) (by kernel_rfl) (fun _ _ _ h => h) (Or.inl ⟨by rfl, ?_⟩) (by assumption) ?_
            rotate_left
            · intro w hSw
              (try dsimp only at hSw)
              go_simp
              (try with_reducible rfl)
            (try simp only [Act.put, List.setIfInBounds_toArray, List.set_cons_zero, List.set_cons_succ])
            refine wpAnyH_take (i := 10) (oi := ⟨_, _, _, _, _, _⟩) (v := ?_) rfl (by kernel_rfl) (by kernel_rfl) (by kernel_rfl) (fun _ _ _ h => h) (Or.inl ⟨by rfl, ?_⟩) (by assumption) ?_
            rotate_left
            · intro w hSw
              (try dsimp only at hSw)
              go_simp
              (try with_reducible rfl)
            (try simp only [Act.put, List.setIfInBounds_toArray, List.set_cons_zero, List.set_cons_succ])
            refine wpAnyH_ready (rs := [11]) (by kernel_rfl) (by simp) ?_
            refine AllReadyH.cons (o := ⟨_, _, _, _, _, _⟩) rfl (fun K hK => ?_) AllReadyH.nil
            have c0 := ON.out.cell (mapTo_at (f := backV (M : Int)) HX.out); have f0 := ON.out.frozen k
            obtain ⟨o9, g9⟩ := ON.out.stored k ((M : Int) + 1 - x)
            rw [show (mapTo (backV (M : Int)) ns k).set k ((M : Int) + 1 - x) = mapTo (backV (M : Int)) ns (k + 1) by rw [← mapTo_set HX.out, backV, if_neg h0]] at o9
            obtain ⟨w4, hW4⟩ : ∃ W5, W5 = wy.setCell ⟨gn, k, none⟩ (.int .i64 ((M : Int) + 1 - x)) := ⟨_, rfl⟩
            rw [← hW4] at o9 g9
            go_simp
            (try rw [back_wrap hM hr1 hr2])
            rw [← hW4]
            clear hW4 c0 f0
            replace ON := Lib.hid o9
            have hgn9 := (ON.out.span _ rfl).1
            dsimp only at hgn9
            replace BP := Lib.hid (BP.out.grown g9 (by simp; omega))
            replace BR := Lib.hid (BR.out.grown g9 (by simp; omega))
            replace HSZ := Lib.hid (Nat.le_trans HSZ.out g9.size)
            replace B := Lib.hid (B.out.grown g9 B.out.size (fun g8 h8 => by injection h8 with h8; omega))
            replace BB := Lib.hid (BB.out.grown g9 (by have := HNG.out; simp; omega))
            replace OH := Lib.hid (OH.out.other g9 (fun a9 ha9 he => HAP.out a9 _ ha9 rfl (by injection he)))
            clear o9 g9 hgn9
            refine hK.out _ _ ?_ (fun hHeld => ?_)
            · (try dsimp only)
              exact ⟨BP.out.cell rfl, BP.out.cell rfl, BP.out.cell rfl, BB.out.cell rfl⟩
            clear hK K
            (try simp only [Act.put, List.setIfInBounds_toArray, List.set_cons_zero, List.set_cons_succ])
            refine wpAnyH_done (by kernel_rfl) ?_ _
            clear hHeld
            (try go_wp2_with fail)
            go_roundw
            case rel => exact ⟨k + 1, by omega, by go_num, by rw [HM.out, show mapTo (backV (M : Int)) ns (k + 1) = mapTo (backV (M : Int)) ns (k + 1) from rfl]; exact ON.out, OH.out, BB.out, BP.out, BR.out, HSZ.out, B.out⟩
            case measure => simp [intOf]; omega
        · have HE := Lib.hid (show mapTo (backV (M : Int)) ns k = BackPuzzle_ns W H xs a b ns by rw [mapTo_all _ _ (by have := HL.out; omega), BackPuzzle_ns, HM.out])
          rw [HE.out] at ON
          have s0 : wr.cell? ⟨gb, 0, none⟩ = some (.int .i64 W) := BB.out.cell rfl
          have s1 : wr.cell? ⟨gb, 1, none⟩ = some (.int .i64 H) := BB.out.cell rfl
          have s2 : wr.cell? ⟨gb, 2, none⟩ = some (.slice A' n c') := BB.out.cell rfl
          have s3 : wr.cell? ⟨gb, 3, none⟩ = some (.int .i64 a) := BB.out.cell rfl
          have s4 : wr.cell? ⟨gb, 4, none⟩ = some (.int .i64 b) := BB.out.cell rfl
          have s5 : wr.cell? ⟨gb, 5, none⟩ = some (.slice (some ⟨gn, 0, none⟩) n2 c2') := BB.out.cell rfl
          have y0 : wr.cell? ⟨w.heap.size + 1, 0, none⟩ = some (.int .i64 0) := BR.out.cell rfl
          have y1 : wr.cell? ⟨w.heap.size + 1, 1, none⟩ = some (.int .i64 0) := BR.out.cell rfl
          have y2 : wr.cell? ⟨w.heap.size + 1, 2, none⟩ = some (.slice none 0 0) := BR.out.cell rfl
          have y3 : wr.cell? ⟨w.heap.size + 1, 3, none⟩ = some (.int .i64 0) := BR.out.cell rfl
          have y4 : wr.cell? ⟨w.heap.size + 1, 4, none⟩ = some (.int .i64 0) := BR.out.cell rfl
          have y5 : wr.cell? ⟨w.heap.size + 1, 5, none⟩ = some (.slice none 0 0) := BR.out.cell rfl
          have h0 : wr.frozen? ⟨w.heap.size + 1, 0, none⟩ = false := BR.out.frozen 0
          have h1 : wr.frozen? ⟨w.heap.size + 1, 1, none⟩ = false := BR.out.frozen 1
          have h2 : wr.frozen? ⟨w.heap.size + 1, 2, none⟩ = false := BR.out.frozen 2
          have h3 : wr.frozen? ⟨w.heap.size + 1, 3, none⟩ = false := BR.out.frozen 3
          have h4 : wr.frozen? ⟨w.heap.size + 1, 4, none⟩ = false := BR.out.frozen 4
          have h5 : wr.frozen? ⟨w.heap.size + 1, 5, none⟩ = false := BR.out.frozen 5
          have HOK := Lib.hid (show BackPuzzle_ok W H xs a b ns = true from HG.out)
          go_wp2
          refine bodyPost_ret (v := .tuple #[pzv W H A' n c' a b (some ⟨gn, 0, none⟩) n2 c2', .bool true]) (by simp [results, Try.results28, go_sem, y0, y1, y2, y3, y4, y5]) rfl ⟨A', n, c', (some ⟨gn, 0, none⟩), n2, c2', by rw [HOK.out]; rfl, ?_, ?_, HAP.out, ?_⟩
          · rw [HOK.out]
            show OwnI _ _ _ _ _ _ _
            refine OwnI.lower (lo := w.heap.size + 1 + 1) ?_ (by omega)
            repeat (first | refine own_setC ?_ (by omega) _ | exact OH.out)
          · rw [HOK.out]
            show OwnI _ _ _ _ _ _ _
            refine OwnI.lower (lo := w.heap.size + 1 + 1) ?_ (by omega)
            repeat (first | refine own_setC ?_ (by omega) _ | exact ON.out)
          · repeat (first | refine below_setC ?_ (by omega) _ | exact B.out)
    · go_simp
      obtain ⟨wz, hWn⟩ : ∃ W5, W5 = wv.alloc (.cells #[.int .i64 0, .int .i64 0, .slice none 0 0, .int .i64 0, .int .i64 0, .slice none 0 0] 34) := ⟨_, rfl⟩
      have hb : Below wv.heap.size wv wz := by rw [hWn]; exact below_new (Below.refl _ _) _
      obtain ⟨gb, hgp⟩ : ∃ gp, gp = wv.heap.size := ⟨_, rfl⟩
      have BB := Lib.hid (show Bx wz gb #[.int .i64 0, .int .i64 0, .slice none 0 0, .int .i64 0, .int .i64 0, .slice none 0 0] 34 by rw [hWn, hgp]; exact Bx.new _ _ _)
      have Hgb := Lib.hid (show B0 ≤ gb by rw [hgp]; exact HB0.out)
      replace HB0 := Lib.hid (Nat.le_trans HB0.out hb.size)
      replace x0 := cell_keep x0 (Nat.lt_of_lt_of_le hg1 B.out.size) hb
      rw [← hWn]
      (try rw [← hgp])
      clear hWn hgp
      replace BP := Lib.hid (BP.out.keep hb)
      replace BR := Lib.hid (BR.out.keep hb)
      replace HSZ := Lib.hid (Nat.le_trans HSZ.out hb.size)
      replace B := Lib.hid (below_next B.out hb)
      clear hb
      refine hK.out _ _ ?_ (fun hHeld => ?_)
      · (try dsimp only)
        exact ⟨BP.out.cell rfl, BP.out.cell rfl, BP.out.cell rfl, BP.out.cell rfl, BP.out.cell rfl, BP.out.cell rfl, x0⟩
      clear hK K
      (try simp only [Act.put, List.setIfInBounds_toArray, List.set_cons_zero, List.set_cons_succ])
      refine wpAnyH_ready (rs := [5]) (by kernel_rfl) (by simp) ?_
      refine AllReadyH.cons (o := ⟨_, _, _, _, _, _⟩) rfl (fun K hK => ?_) AllReadyH.nil
      go_simp
      (go_at_call 52; refine (pzWith0_any W H A n c a b _ n2 c2 xs ns x1 _ (by exact (RA0.out.keep B.out).drew1) (by exact (RN0.out.keep B.out).drew1) (by omega) (by omega) (by omega) HX1.out).mono ?_; rintro e wy ⟨A', c', A2', c2', rfl, o1, o2, hap, hb⟩; (repeat (first | replace hb := below_undrew hb | replace hb := below_undrewN hb)); have HNE1 := Lib.hid (show ∀ y, A' = some y → y.block ≠ gb from fun y hy => by have h8 : wz.heap.size ≤ y.block := (o1.span y hy).1; have h9 := BB.out.lt; omega); have HNE2 := Lib.hid (show ∀ y, A2' = some y → y.block ≠ gb from fun y hy => by have h8 : wz.heap.size ≤ y.block := (o2.span y hy).1; have h9 := BB.out.lt; omega); have OH := Lib.hid (o1.lower (show B0 ≤ wz.heap.size from HB0.out)); have ON := Lib.hid (o2.lower (show B0 ≤ wz.heap.size from HB0.out)); have HAP := Lib.hid hap; replace HB0 := Lib.hid (Nat.le_trans HB0.out hb.size); replace x0 := cell_keep x0 (Nat.lt_of_lt_of_le hg1 B.out.size) hb; clear o1 o2 hap; replace BP := Lib.hid (BP.out.keep hb); replace BR := Lib.hid (BR.out.keep hb); replace BB := Lib.hid (BB.out.keep hb); replace HSZ := Lib.hid (Nat.le_trans HSZ.out hb.size); replace B := Lib.hid (below_next B.out hb); clear hb)
      (try go_wp2_with fail)
      refine hK.out _ _ ?_ (fun hHeld => ?_)
      · (try dsimp only)
        exact ⟨BP.out.cell rfl, BP.out.cell rfl, BP.out.cell rfl, BP.out.cell rfl, BP.out.cell rfl, BP.out.cell rfl, x0⟩
      clear hK K
      (try simp only [Act.put, List.setIfInBounds_toArray, List.set_cons_zero, List.set_cons_succ])
      refine wpAnyH_ready (rs := [7]) (by kernel_rfl) (by simp) ?_
      refine AllReadyH.cons (o := ⟨_, _, _, _, _, _⟩) rfl (fun K hK => ?_) AllReadyH.nil
      have HBB9 := Lib.hid (show bb < w.heap.size from hg1)
      have z0 : wy.cell? ⟨gb, 0, none⟩ = some (.int .i64 0) := BB.out.cell rfl
      have z1 : wy.cell? ⟨gb, 1, none⟩ = some (.int .i64 0) := BB.out.cell rfl
      have z2 : wy.cell? ⟨gb, 2, none⟩ = some (.slice none 0 0) := BB.out.cell rfl
      have z3 : wy.cell? ⟨gb, 3, none⟩ = some (.int .i64 0) := BB.out.cell rfl
      have z4 : wy.cell? ⟨gb, 4, none⟩ = some (.int .i64 0) := BB.out.cell rfl
      have z5 : wy.cell? ⟨gb, 5, none⟩ = some (.slice none 0 0) := BB.out.cell rfl
      have f0 : wy.frozen? ⟨gb, 0, none⟩ = false := BB.out.frozen 0
      have f1 : wy.frozen? ⟨gb, 1, none⟩ = false := BB.out.frozen 1
      have f2 : wy.frozen? ⟨gb, 2, none⟩ = false := BB.out.frozen 2
      have f3 : wy.frozen? ⟨gb, 3, none⟩ = false := BB.out.frozen 3
      have f4 : wy.frozen? ⟨gb, 4, none⟩ = false := BB.out.frozen 4
      have f5 : wy.frozen? ⟨gb, 5, none⟩ = false := BB.out.frozen 5
      go_simp
      obtain ⟨wq, hWn⟩ : ∃ W5, W5 = (((((wy.setCell ⟨gb, 0, none⟩ (.int .i64 W)).setCell ⟨gb, 1, none⟩ (.int .i64 H)).setCell ⟨gb, 2, none⟩ (.slice A' n c')).setCell ⟨gb, 3, none⟩ (.int .i64 a)).setCell ⟨gb, 4, none⟩ (.int .i64 b)).setCell ⟨gb, 5, none⟩ (.slice A2' n2 c2') := ⟨_, rfl⟩
      have hgr : wy.grownBy wq (some (gb)) := by rw [hWn]; exact (grown_next (grown_next (grown_next (grown_next (grown_next (grownSet1 wy ⟨gb, 0, none⟩ (.int .i64 W)) (grownSet1 _ ⟨gb, 1, none⟩ (.int .i64 H))) (grownSet1 _ ⟨gb, 2, none⟩ (.slice A' n c'))) (grownSet1 _ ⟨gb, 3, none⟩ (.int .i64 a))) (grownSet1 _ ⟨gb, 4, none⟩ (.int .i64 b))) (grownSet1 _ ⟨gb, 5, none⟩ (.slice A2' n2 c2')))
      replace BB := Lib.hid (show Bx wq (gb) #[.int .i64 W, .int .i64 H, .slice A' n c', .int .i64 a, .int .i64 b, .slice A2' n2 c2'] 34 by rw [hWn]; exact ((((((BB.out.set 0 (.int .i64 W)).set 1 (.int .i64 H)).set 2 (.slice A' n c')).set 3 (.int .i64 a)).set 4 (.int .i64 b)).set 5 (.slice A2' n2 c2')))
      replace BP := Lib.hid (BP.out.grown hgr (by have := Hgb.out; simp; omega))
      replace BR := Lib.hid (BR.out.grown hgr (by have := Hgb.out; simp; omega))
      replace ON := Lib.hid (ON.out.other hgr (fun a9 ha9 he => by injection he with he; exact HNE2.out a9 ha9 he))
      replace OH := Lib.hid (OH.out.other hgr (fun a9 ha9 he => by injection he with he; exact HNE1.out a9 ha9 he))
      replace HSZ := Lib.hid (Nat.le_trans HSZ.out hgr.size)
      replace B := Lib.hid (B.out.grown hgr B.out.size (fun g9 h9 => by injection h9 with h9; have := Hgb.out; omega))
      replace x0 := cell_mark x0 hgr (by have := Hgb.out; have := HBB9.out; simp; omega)
      rw [← hWn]
      clear hWn hgr z0 f0 z1 f1 z2 f2 z3 f3 z4 f4 z5 f5
      refine hK.out _ _ ?_ (fun hHeld => ?_)
      · (try dsimp only)
        exact ⟨BP.out.cell rfl, BP.out.cell rfl, BP.out.cell rfl, BP.out.cell rfl, BP.out.cell rfl, BP.out.cell rfl, x0⟩
      clear hK K
      (try simp only [Act.put, List.setIfInBounds_toArray, List.set_cons_zero, List.set_cons_succ])
      refine wpAnyH_done (by kernel_rfl) ?_ _
      clear hHeld x0
      replace OH := Lib.hid (OH.out.lower hB02); replace ON := Lib.hid (ON.out.lower hB02)
      obtain ⟨gn, rfl, hgn1, hgn2⟩ := ON.out.some_ (k := 0) (by omega)
      have HGB2 := Lib.hid (Nat.le_trans hB02 Hgb.out)
      have HNG := Lib.hid (show gn ≠ gb from HNE2.out _ rfl)
      have p5 : wq.cell? ⟨w.heap.size, 5, none⟩ = some (.slice (some ⟨bb, oo, none⟩) n2 c2) := BP.out.cell rfl
      go_wp2
      clear p5
      go_loopw [20] (fun i wr => ∃ k : Nat, k ≤ n2 ∧ i = .int .i64 k ∧ OwnI 3 wr (w.heap.size + 1 + 1) (some ⟨gn, 0, none⟩) n2 c2' (mapTo (backV ((cellsL W H xs).length : Int)) ns k) ∧ OwnI 3 wr (w.heap.size + 1 + 1) A' n c' xs ∧ Bx wr gb #[.int .i64 W, .int .i64 H, .slice A' n c', .int .i64 a, .int .i64 b, .slice (some ⟨gn, 0, none⟩) n2 c2'] 34 ∧ Bx wr w.heap.size #[.int .i64 W, .int .i64 H, .slice A n c, .int .i64 a, .int .i64 b, .slice (some ⟨bb, oo, none⟩) n2 c2] 34 ∧ Bx wr (w.heap.size + 1) #[.int .i64 0, .int .i64 0, .slice none 0 0, .int .i64 0, .int .i64 0, .slice none 0 0] 34 ∧ w.heap.size + 1 + 1 ≤ wr.heap.size ∧ Below w.heap.size w wr) (fun i _ => n2 - (intOf i).toNat)
      case atStart => exact ⟨0, Nat.zero_le _, rfl, ON.out, OH.out, BB.out, BP.out, BR.out, HSZ.out, B.out⟩
      case round =>
        clear ON OH BB BP BR HSZ B HB0
        obtain ⟨k, hk, rfl, own, oh, bb9, bp, br, hsz, hbw⟩ := hrel
        have OH := Lib.hid oh; have BB := Lib.hid bb9
        clear oh bb9
        have ON := Lib.hid own; have BP := Lib.hid bp; have BR := Lib.hid br; have HSZ := Lib.hid hsz; have B := Lib.hid hbw
        clear own bp br hsz hbw
        obtain ⟨M, hM9⟩ : ∃ M, (cellsL W H xs).length = M := ⟨_, rfl⟩
        have HM := Lib.hid hM9
        have hM : M ≤ 16 := by rw [← hM9]; exact goodP_few HG.out
        rw [hM9] at ON
        clear hM9
        by_cases hlt : k < n2
        · obtain ⟨x, hx⟩ : ∃ x, ns[k]? = some x := ⟨_, List.getElem?_eq_getElem (show k < ns.length by have := HL.out; omega)⟩
          have hr := numOk_rng (goodP_at HG.out hx)
          rw [HM.out] at hr
          obtain ⟨hr1, hr2⟩ := hr
          have HX := Lib.hid hx
          clear hx
          have hk0 : (0 : Int) ≤ (k : Int) := by omega
          have hk2 : (k : Int) < (n2 : Int) := by omega
          obtain ⟨b1, o1, y1, e1, hgk, hy1, x0⟩ := (RN0.out.keep B.out).at_ hlt
          cases e1
          obtain rfl : x = y1 := by rw [HX.out] at hy1; injection hy1
          clear hy1
          by_cases h0 : x = 0
          · subst h0
            go_wp2
            go_roundw
            case rel => exact ⟨k + 1, by omega, by go_num, by rw [HM.out, mapTo_same HX.out (show backV (M : Int) 0 = 0 from rfl)]; exact ON.out, OH.out, BB.out, BP.out, BR.out, HSZ.out, B.out⟩
            case measure => simp [intOf]; omega
          · have hpos : (0 : Int) < x := by omega
            go_wp2_with fail
            refine wp_region_held_drew (S := fun w' => w'.cell? ⟨w.heap.size, 0, none⟩ = some (.int .i64 W) ∧ w'.cell? ⟨w.heap.size, 1, none⟩ = some (.int .i64 H) ∧ w'.cell? ⟨w.heap.size, 2, none⟩ = some (.slice A n c) ∧ w'.cell? ⟨gb, 5, none⟩ = some (.slice (some ⟨gn, 0, none⟩) n2 c2')) (by kernel_rfl) ?_ (fun hHeld => ?_)
            · (try dsimp only)
              exact ⟨BP.out.cell rfl, BP.out.cell rfl, BP.out.cell rfl, BB.out.cell rfl⟩
            refine wpAnyH_take (i := 0) (oi := ⟨_, _, _, _, _, _⟩) (v := ?_) rfl (by kernel_rfl) (by kernel_rfl) (by kernel_rfl) (fun _ _ _ h => h) (Or.inl ⟨by rfl, ?_⟩) (by assumption) ?_
            rotate_left
            · intro w hSw
              (try dsimp only at hSw)
              go_simp
              (try with_reducible rfl)
            (try simp only [Act.put, List.setIfInBounds_toArray, List.set_cons_zero, List.set_cons_succ])
            refine wpAnyH_take (i := 2) (oi := ⟨_, _, _, _, _, _⟩) (v := ?_) rfl (by kernel_rfl) (by kernel_rfl) (by kernel_rfl) (fun _ _ _ h => h) (Or.inl ⟨by rfl, ?_⟩) (by assumption) ?_
            rotate_left
            · intro w hSw
              (try dsimp only at hSw)
              go_simp
              (try with_reducible rfl)
            (try simp only [Act.put, List.setIfInBounds_toArray, List.set_cons_zero, List.set_cons_succ])
            refine wpAnyH_take (i := 3) (oi := ⟨_, _, _, _, _, _⟩) (v := ?_) rfl (by kernel_rfl) (by kernel_rfl) (by kernel_rfl) (fun _ _ _ h => h) (Or.inl ⟨by rfl, ?_⟩) (by assumption) ?_
            rotate_left
            · intro w hSw
              (try dsimp only at hSw)
              go_simp
              (try with_reducible rfl)
            (try simp only [Act.put, List.setIfInBounds_toArray, List.set_cons_zero, List.set_cons_succ])
            refine wpAnyH_take (i := 8) (oi := ⟨_, _, _, _, _, _⟩) (v := ?_) rfl (by kernel_rfl) (by kernel_rfl) (by kernel_rfl) (fun _ _ _ h => h) (Or.inl ⟨by rfl, ?_⟩) (by assumption) ?_
            rotate_left
            · intro w hSw
              (try dsimp only at hSw)
              go_simp
              (try with_reducible rfl)
            (try simp only [Act.put, List.setIfInBounds_toArray, List.set_cons_zero, List.set_cons_succ])
            refine wpAnyH_take (i := 1) (oi := ⟨_, _, _, _, _, _⟩) (v := ?_) rfl (by kernel_rfl) (by kernel_rfl) (by kernel_rfl) (fun _ _ _ h => h) (Or.inl ⟨by rfl, ?_⟩) (by assumption) ?_
            rotate_left
            · intro w hSw
              (try dsimp only at hSw)
              go_simp
              (try with_reducible rfl)
            (try simp only [Act.put, List.setIfInBounds_toArray, List.set_cons_zero, List.set_cons_succ])
            refine wpAnyH_take (i := 4) (oi := ⟨_, _, _, _, _, _⟩) (v := ?_) rfl (by kernel_rfl) (by kernel_rfl) (by kernel_rfl) (fun _ _ _ h => h) (Or.inl ⟨by rfl, ?_⟩) (by assumption) ?_
            rotate_left
            · intro w hSw
              (try dsimp only at hSw)
              go_simp
              (try with_reducible rfl)
            (try simp only [Act.put, List.setIfInBounds_toArray, List.set_cons_zero, List.set_cons_succ])
            refine wpAnyH_ready (rs := [5]) (by kernel_rfl) (by simp) ?_
            refine AllReadyH.cons (o := ⟨_, _, _, _, _, _⟩) rfl (fun K hK => ?_) AllReadyH.nil
            go_simp
            (go_at_call 44; refine (boCells_any _ _ _ _ _ _ _ (by exact (RA0.out.keep B.out).drew1) (good_N (two_gK (goodP_two HG.out)))).mono ?_; rintro e wy ⟨A9, M9, c9, rfl, own9, hb⟩; (repeat (first | replace hb := below_undrew hb | replace hb := below_undrewN hb)); obtain rfl : M = M9 := (by have h8 := own9.len; have h9 := HM.out; omega); clear own9; replace BP := Lib.hid (BP.out.keep hb); replace BR := Lib.hid (BR.out.keep hb); replace BB := Lib.hid (BB.out.keep hb); replace OH := Lib.hid (OH.out.keep hb); replace ON := Lib.hid (ON.out.keep hb); replace HSZ := Lib.hid (Nat.le_trans HSZ.out hb.size); replace B := Lib.hid (below_next B.out hb); clear hb)
            (try go_wp2_with fail)
            refine hK.out _ _ ?_ (fun hHeld => ?_)
            · (try dsimp only)
              exact ⟨BP.out.cell rfl, BP.out.cell rfl, BP.out.cell rfl, BB.out.cell rfl⟩
            clear hK K
            (try simp only [Act.put, List.setIfInBounds_toArray, List.set_cons_zero, List.set_cons_succ])
            refine wpAnyH_take (i := 6) (oi := ⟨_, _, _, _, _, _⟩) (v := ?_) rfl (by kernel_rfl) (by kernel_rfl) (by kernel_rfl) (fun _ _ _ h => h) (Or.inl ⟨by rfl, ?_⟩) (by assumption) ?_
            rotate_left
            · intro w hSw
              (try dsimp only at hSw)
              go_simp
              (try with_reducible rfl)
            (try simp only [Act.put, List.setIfInBounds_toArray, List.set_cons_zero, List.set_cons_succ])
            refine wpAnyH_take (i := 7) (oi := ⟨_, _, _, _, _, _⟩) (v := ?_) rfl (by kernel_rfl) (by kernel_rfl) (by kernel_rfl) (fun _ _ _ h => h) (Or.inl ⟨by rfl, ?_⟩) (by assumption) ?_
            rotate_left
            · intro w hSw
              (try dsimp only at hSw)
              go_simp
              (try with_reducible rfl)
            (try simp only [Act.put, List.setIfInBounds_toArray, List.set_cons_zero, List.set_cons_succ])
            refine wpAnyH_take (i := 9) (oi := ⟨_, _, _, _, _, _⟩) (v := ?_) rfl (by kernel_rfl) (by kernel_rfl) (by kernel_rfl) (fun _ _ _ h => h) (Or.inl ⟨by rfl, ?_⟩) (by assumption) ?_
            rotate_left
            · intro w hSw
              (try dsimp only at hSw)
              go_simp
              (try with_reducible rfl)
            (try simp only [Act.put, List.setIfInBounds_toArray, List.set_cons_zero, List.set_cons_succ])
            refine wpAnyH_take (i := 10) (oi := ⟨_, _, _, _, _, _⟩) (v := ?_) rfl (by kernel_rfl) (by kernel_rfl) (by kernel_rfl) (fun _ _ _ h => h) (Or.inl ⟨by rfl, ?_⟩) (by assumption) ?_
            rotate_left
            · intro w hSw
              (try dsimp only at hSw)
              go_simp
              (try with_reducible rfl)
            (try simp only [Act.put, List.setIfInBounds_toArray, List.set_cons_zero, List.set_cons_succ])
            refine wpAnyH_ready (rs := [11]) (by kernel_rfl) (by simp) ?_
            refine AllReadyH.cons (o := ⟨_, _, _, _, _, _⟩) rfl (fun K hK => ?_) AllReadyH.nil
            have c0 := ON.out.cell (mapTo_at (f := backV (M : Int)) HX.out); have f0 := ON.out.frozen k
            obtain ⟨o9, g9⟩ := ON.out.stored k ((M : Int) + 1 - x)
            rw [show (mapTo (backV (M : Int)) ns k).set k ((M : Int) + 1 - x) = mapTo (backV (M : Int)) ns (k + 1) by rw [← mapTo_set HX.out, backV, if_neg h0]] at o9
            obtain ⟨w4, hW4⟩ : ∃ W5, W5 = wy.setCell ⟨gn, k, none⟩ (.int .i64 ((M : Int) + 1 - x)) := ⟨_, rfl⟩
            rw [← hW4] at o9 g9
            go_simp
            (try rw [back_wrap hM hr1 hr2])
            rw [← hW4]
            clear hW4 c0 f0
            replace ON := Lib.hid o9
            have hgn9 := (ON.out.span _ rfl).1
            dsimp only at hgn9
            replace BP := Lib.hid (BP.out.grown g9 (by simp; omega))
            replace BR := Lib.hid (BR.out.grown g9 (by simp; omega))
            replace HSZ := Lib.hid (Nat.le_trans HSZ.out g9.size)
            replace B := Lib.hid (B.out.grown g9 B.out.size (fun g8 h8 => by injection h8 with h8; omega))
            replace BB := Lib.hid (BB.out.grown g9 (by have := HNG.out; simp; omega))
            replace OH := Lib.hid (OH.out.other g9 (fun a9 ha9 he => HAP.out a9 _ ha9 rfl (by injection he)))
            clear o9 g9 hgn9
            refine hK.out _ _ ?_ (fun hHeld => ?_)
            · (try dsimp only)
              exact ⟨BP.out.cell rfl, BP.out.cell rfl, BP.out.cell rfl, BB.out.cell rfl⟩
            clear hK K
            (try simp only [Act.put, List.setIfInBounds_toArray, List.set_cons_zero, List.set_cons_succ])
            refine wpAnyH_done (by kernel_rfl) ?_ _
            clear hHeld
            (try go_wp2_with fail)
            go_roundw
            case rel => exact ⟨k + 1, by omega, by go_num, by rw [HM.out, show mapTo (backV (M : Int)) ns (k + 1) = mapTo (backV (M : Int)) ns (k + 1) from rfl]; exact ON.out, OH.out, BB.out, BP.out, BR.out, HSZ.out, B.out⟩
            case measure => simp [intOf]; omega
        · have HE := Lib.hid (show mapTo (backV (M : Int)) ns k = BackPuzzle_ns W H xs a b ns by rw [mapTo_all _ _ (by have := HL.out; omega), BackPuzzle_ns, HM.out])
          rw [HE.out] at ON
          have s0 : wr.cell? ⟨gb, 0, none⟩ = some (.int .i64 W) := BB.out.cell rfl
          have s1 : wr.cell? ⟨gb, 1, none⟩ = some (.int .i64 H) := BB.out.cell rfl
          have s2 : wr.cell? ⟨gb, 2, none⟩ = some (.slice A' n c') := BB.out.cell rfl
          have s3 : wr.cell? ⟨gb, 3, none⟩ = some (.int .i64 a) := BB.out.cell rfl
          have s4 : wr.cell? ⟨gb, 4, none⟩ = some (.int .i64 b) := BB.out.cell rfl
          have s5 : wr.cell? ⟨gb, 5, none⟩ = some (.slice (some ⟨gn, 0, none⟩) n2 c2') := BB.out.cell rfl
          have y0 : wr.cell? ⟨w.heap.size + 1, 0, none⟩ = some (.int .i64 0) := BR.out.cell rfl
          have y1 : wr.cell? ⟨w.heap.size + 1, 1, none⟩ = some (.int .i64 0) := BR.out.cell rfl
          have y2 : wr.cell? ⟨w.heap.size + 1, 2, none⟩ = some (.slice none 0 0) := BR.out.cell rfl
          have y3 : wr.cell? ⟨w.heap.size + 1, 3, none⟩ = some (.int .i64 0) := BR.out.cell rfl
          have y4 : wr.cell? ⟨w.heap.size + 1, 4, none⟩ = some (.int .i64 0) := BR.out.cell rfl
          have y5 : wr.cell? ⟨w.heap.size + 1, 5, none⟩ = some (.slice none 0 0) := BR.out.cell rfl
          have h0 : wr.frozen? ⟨w.heap.size + 1, 0, none⟩ = false := BR.out.frozen 0
          have h1 : wr.frozen? ⟨w.heap.size + 1, 1, none⟩ = false := BR.out.frozen 1
          have h2 : wr.frozen? ⟨w.heap.size + 1, 2, none⟩ = false := BR.out.frozen 2
          have h3 : wr.frozen? ⟨w.heap.size + 1, 3, none⟩ = false := BR.out.frozen 3
          have h4 : wr.frozen? ⟨w.heap.size + 1, 4, none⟩ = false := BR.out.frozen 4
          have h5 : wr.frozen? ⟨w.heap.size + 1, 5, none⟩ = false := BR.out.frozen 5
          have HOK := Lib.hid (show BackPuzzle_ok W H xs a b ns = true from HG.out)
          go_wp2
          refine bodyPost_ret (v := .tuple #[pzv W H A' n c' a b (some ⟨gn, 0, none⟩) n2 c2', .bool true]) (by simp [results, Try.results28, go_sem, y0, y1, y2, y3, y4, y5]) rfl ⟨A', n, c', (some ⟨gn, 0, none⟩), n2, c2', by rw [HOK.out]; rfl, ?_, ?_, HAP.out, ?_⟩
          · rw [HOK.out]
            show OwnI _ _ _ _ _ _ _
            refine OwnI.lower (lo := w.heap.size + 1 + 1) ?_ (by omega)
            repeat (first | refine own_setC ?_ (by omega) _ | exact OH.out)
          · rw [HOK.out]
            show OwnI _ _ _ _ _ _ _
            refine OwnI.lower (lo := w.heap.size + 1 + 1) ?_ (by omega)
            repeat (first | refine own_setC ?_ (by omega) _ | exact ON.out)
          · repeat (first | refine below_setC ?_ (by omega) _ | exact B.out)

end Go.Proofs.Ytkdfilhiljfanaa
