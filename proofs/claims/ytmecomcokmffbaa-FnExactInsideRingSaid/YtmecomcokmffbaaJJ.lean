/-
  Contracts: spots inside a ring, in the program.
-/
import Derived.Test.YtmecomcokmffbaaJI
namespace Go.Proofs.Ytmecomcokmffbaa
open Go.RowKit

theorem parB_snoc (L : List Ln) (l : Ln) (s : Int × Int) : parB (L ++ [l]) s = xor (parB L s) (rightS s l) := by
  rw [parB, List.map_append, xorL_append, List.map_cons, List.map_nil, xorL_one]; rfl
theorem take_snoc {α : Type} {L : List α} {k : Nat} {l : α} (h : L[k]? = some l) : L.take (k + 1) = L.take k ++ [l] := by rw [List.take_add_one, h]; rfl
def freeB (L : List Ln) (s : Int × Int) : Bool := L.all (fun l => !hitS l s)
theorem insB_eq (L : List Ln) (s : Int × Int) : insB L s = (freeB L s && parB L s) := rfl
theorem free_hit {L : List Ln} {k : Nat} {l : Ln} {s : Int × Int} (h : L[k]? = some l) (hh : hitS l s = true) : freeB L s = false := by
  rw [freeB, List.all_eq_false]; exact ⟨l, List.mem_of_getElem? h, by simp [hh]⟩
theorem free_snoc {L : List Ln} {k : Nat} {l : Ln} {s : Int × Int} (h : L[k]? = some l) (hf : freeB (L.take k) s = true) (hh : hitS l s = false) : freeB (L.take (k + 1)) s = true := by
  rw [freeB] at hf ⊢; rw [take_snoc h, List.all_append, hf]; simp [hh]

set_option maxRecDepth 100000 in
set_option maxHeartbeats 2000000 in
theorem isInside_any (lo : Nat) (A : Option Addr) (n c : Nat) (L : List Ln) (s t : Int) (w : World) (hown : OwnN w lo A n c L) (hco : ∀ l ∈ L, CoL l) (hs : Co s) (ht : Co t) (hn : n ≤ 1000) :
    Calls Try.prog 64 #[.slice A n c, lpr s t] w fun e w' => e = .returned (.bool (insB L (s, t))) ∧ Below w.heap.size w w' := by
  have HL := Lib.hid hown.len
  have HC := Lib.hid hco
  have HS := Lib.hid hs; have HT := Lib.hid ht
  obtain ⟨W2, hW2⟩ : ∃ W2, W2 = w.alloc (.cells #[.int .i64 s, .int .i64 t] 52) := ⟨_, rfl⟩
  have d0 : W2.cell? ⟨w.heap.size, 0, none⟩ = some (.int .i64 s) := by rw [hW2]; go_simp
  have d1 : W2.cell? ⟨w.heap.size, 1, none⟩ = some (.int .i64 t) := by rw [hW2]; go_simp
  have dl : w.heap.size < W2.heap.size := by rw [hW2]; simp
  have B := Lib.hid (show Below w.heap.size w W2 by rw [hW2]; exact below_new (Below.refl _ _) _)
  have HO := Lib.hid (hown.keep B.out)
  clear hown hco hs ht
  go_enter Try.func64, Try.ntmps64
  go_wp2_with fail
  rw [← hW2]
  clear hW2
  go_loopw [5, 10] (fun iv i wr => ∃ k : Nat, k ≤ n ∧ i = .int .i64 k ∧ iv = .bool (parB (L.take k) (s, t)) ∧ freeB (L.take k) (s, t) = true ∧ Below W2.heap.size W2 wr) (fun _ i _ => n - (intOf i).toNat)
  case atStart => exact ⟨0, Nat.zero_le _, rfl, rfl, rfl, Below.refl _ _⟩
  case round =>
    obtain ⟨k, hk, rfl, rfl, hfree, hbw⟩ := hrel
    have HB := Lib.hid hbw; have HF := Lib.hid hfree
    by_cases hlt : k < n
    · obtain ⟨l, hx⟩ : ∃ l, L[k]? = some l := ⟨_, List.getElem?_eq_getElem (by rw [HL.out]; exact hlt)⟩
      have OK := HO.out.keep hbw
      obtain ⟨g, rfl, _, gl⟩ := OK.some_ hlt
      obtain ⟨x0, x1, x2, x3⟩ := line_at OK hx
      have HX := Lib.hid hx
      have HCL := Lib.hid (HC.out l (List.mem_of_getElem? hx))
      have HP := Lib.hid (show parB (L.take (k + 1)) (s, t) = xor (parB (L.take k) (s, t)) (rightS (s, t) l) by rw [take_snoc hx, parB_snoc])
      have e0 := cell_keep d0 dl hbw; have e1 := cell_keep d1 dl hbw; have el := lt_keep dl hbw
      have k0 : (0 : Int) ≤ (k : Int) := by omega
      have kn : (k : Int) < (n : Int) := by omega
      clear hx OK hbw hfree
      cases h1 : endsS l (s, t) with
      | true =>
        have H1 := Lib.hid h1
        clear h1
        go_upto_region 5 with fail
        obtain ⟨W4, hW4⟩ : ∃ W4, W4 = wr.alloc (.cells #[.int .i64 l.1.1, .int .i64 l.1.2, .int .i64 l.2.1, .int .i64 l.2.2] 54) := ⟨_, rfl⟩
        have p0 : W4.cell? ⟨wr.heap.size, 0, none⟩ = some (.int .i64 l.1.1) := by rw [hW4]; go_simp
        have p1 : W4.cell? ⟨wr.heap.size, 1, none⟩ = some (.int .i64 l.1.2) := by rw [hW4]; go_simp
        have p2 : W4.cell? ⟨wr.heap.size, 2, none⟩ = some (.int .i64 l.2.1) := by rw [hW4]; go_simp
        have p3 : W4.cell? ⟨wr.heap.size, 3, none⟩ = some (.int .i64 l.2.2) := by rw [hW4]; go_simp
        have pl : wr.heap.size < W4.heap.size := by rw [hW4]; simp
        have hb4 : Below wr.heap.size wr W4 := by rw [hW4]; exact below_new (Below.refl _ _) _
        replace e0 := cell_keep e0 el hb4; replace e1 := cell_keep e1 el hb4; replace el := lt_keep el hb4
        replace HB := Lib.hid (below_next HB.out hb4)
        rw [← hW4]
        clear hW4 hb4 x0 x1 x2 x3
        go_wp2_with fail
        refine (endsAt_any l.1.1 l.1.2 l.2.1 l.2.2 s t _).mono ?_
        rw [show endsS ((l.1.1, l.1.2), (l.2.1, l.2.2)) (s, t) = _ from H1.out]
        rintro e wz ⟨rfl, hb⟩
        replace e0 := cell_keep e0 el hb; replace e1 := cell_keep e1 el hb; replace el := lt_keep el hb; replace p0 := cell_keep p0 pl hb; replace p1 := cell_keep p1 pl hb; replace p2 := cell_keep p2 pl hb; replace p3 := cell_keep p3 pl hb; replace pl := lt_keep pl hb; replace HB := Lib.hid (below_next HB.out hb)
        clear hb
        clear e0 e1 p0 p1 p2 p3
        go_wp2
        go_ret
        exact ⟨ret_bool (by rw [insB_eq, free_hit HX.out (by rw [hitS, H1.out]; rfl)]; rfl), below_next B.out HB.out⟩
      | false =>
        have H1 := Lib.hid h1
        clear h1
        cases h2 : passS l.1 l.2 (s, t) with
        | true =>
          have H2 := Lib.hid h2
          clear h2
          go_upto_region 5 with fail
          obtain ⟨W4, hW4⟩ : ∃ W4, W4 = wr.alloc (.cells #[.int .i64 l.1.1, .int .i64 l.1.2, .int .i64 l.2.1, .int .i64 l.2.2] 54) := ⟨_, rfl⟩
          have p0 : W4.cell? ⟨wr.heap.size, 0, none⟩ = some (.int .i64 l.1.1) := by rw [hW4]; go_simp
          have p1 : W4.cell? ⟨wr.heap.size, 1, none⟩ = some (.int .i64 l.1.2) := by rw [hW4]; go_simp
          have p2 : W4.cell? ⟨wr.heap.size, 2, none⟩ = some (.int .i64 l.2.1) := by rw [hW4]; go_simp
          have p3 : W4.cell? ⟨wr.heap.size, 3, none⟩ = some (.int .i64 l.2.2) := by rw [hW4]; go_simp
          have pl : wr.heap.size < W4.heap.size := by rw [hW4]; simp
          have hb4 : Below wr.heap.size wr W4 := by rw [hW4]; exact below_new (Below.refl _ _) _
          replace e0 := cell_keep e0 el hb4; replace e1 := cell_keep e1 el hb4; replace el := lt_keep el hb4
          replace HB := Lib.hid (below_next HB.out hb4)
          rw [← hW4]
          clear hW4 hb4 x0 x1 x2 x3
          go_wp2_with fail
          refine (endsAt_any l.1.1 l.1.2 l.2.1 l.2.2 s t _).mono ?_
          rw [show endsS ((l.1.1, l.1.2), (l.2.1, l.2.2)) (s, t) = _ from H1.out]
          rintro e wz ⟨rfl, hb⟩
          replace e0 := cell_keep e0 el hb; replace e1 := cell_keep e1 el hb; replace el := lt_keep el hb; replace p0 := cell_keep p0 pl hb; replace p1 := cell_keep p1 pl hb; replace p2 := cell_keep p2 pl hb; replace p3 := cell_keep p3 pl hb; replace pl := lt_keep pl hb; replace HB := Lib.hid (below_next HB.out hb)
          clear hb
          go_wp2_with fail
          refine (passes_any l.1.1 l.1.2 l.2.1 l.2.2 s t _ HCL.out.1.1 HCL.out.1.2 HCL.out.2.1 HCL.out.2.2 HS.out HT.out).mono ?_
          rw [show passS (l.1.1, l.1.2) (l.2.1, l.2.2) (s, t) = _ from H2.out]
          rintro e wz ⟨rfl, hb⟩
          replace e0 := cell_keep e0 el hb; replace e1 := cell_keep e1 el hb; replace el := lt_keep el hb; replace p0 := cell_keep p0 pl hb; replace p1 := cell_keep p1 pl hb; replace p2 := cell_keep p2 pl hb; replace p3 := cell_keep p3 pl hb; replace pl := lt_keep pl hb; replace HB := Lib.hid (below_next HB.out hb)
          clear hb
          clear e0 e1 p0 p1 p2 p3
          go_wp2
          go_ret
          exact ⟨ret_bool (by rw [insB_eq, free_hit HX.out (by rw [hitS, H1.out, H2.out]; rfl)]; rfl), below_next B.out HB.out⟩
        | false =>
          have H2 := Lib.hid h2
          clear h2
          cases h3 : rightS (s, t) l with
          | true =>
            have H3 := Lib.hid h3
            clear h3
            go_upto_region 5 with fail
            obtain ⟨W4, hW4⟩ : ∃ W4, W4 = wr.alloc (.cells #[.int .i64 l.1.1, .int .i64 l.1.2, .int .i64 l.2.1, .int .i64 l.2.2] 54) := ⟨_, rfl⟩
            have p0 : W4.cell? ⟨wr.heap.size, 0, none⟩ = some (.int .i64 l.1.1) := by rw [hW4]; go_simp
            have p1 : W4.cell? ⟨wr.heap.size, 1, none⟩ = some (.int .i64 l.1.2) := by rw [hW4]; go_simp
            have p2 : W4.cell? ⟨wr.heap.size, 2, none⟩ = some (.int .i64 l.2.1) := by rw [hW4]; go_simp
            have p3 : W4.cell? ⟨wr.heap.size, 3, none⟩ = some (.int .i64 l.2.2) := by rw [hW4]; go_simp
            have pl : wr.heap.size < W4.heap.size := by rw [hW4]; simp
            have hb4 : Below wr.heap.size wr W4 := by rw [hW4]; exact below_new (Below.refl _ _) _
            replace e0 := cell_keep e0 el hb4; replace e1 := cell_keep e1 el hb4; replace el := lt_keep el hb4
            replace HB := Lib.hid (below_next HB.out hb4)
            rw [← hW4]
            clear hW4 hb4 x0 x1 x2 x3
            go_wp2_with fail
            refine (endsAt_any l.1.1 l.1.2 l.2.1 l.2.2 s t _).mono ?_
            rw [show endsS ((l.1.1, l.1.2), (l.2.1, l.2.2)) (s, t) = _ from H1.out]
            rintro e wz ⟨rfl, hb⟩
            replace e0 := cell_keep e0 el hb; replace e1 := cell_keep e1 el hb; replace el := lt_keep el hb; replace p0 := cell_keep p0 pl hb; replace p1 := cell_keep p1 pl hb; replace p2 := cell_keep p2 pl hb; replace p3 := cell_keep p3 pl hb; replace pl := lt_keep pl hb; replace HB := Lib.hid (below_next HB.out hb)
            clear hb
            go_wp2_with fail
            refine (passes_any l.1.1 l.1.2 l.2.1 l.2.2 s t _ HCL.out.1.1 HCL.out.1.2 HCL.out.2.1 HCL.out.2.2 HS.out HT.out).mono ?_
            rw [show passS (l.1.1, l.1.2) (l.2.1, l.2.2) (s, t) = _ from H2.out]
            rintro e wz ⟨rfl, hb⟩
            replace e0 := cell_keep e0 el hb; replace e1 := cell_keep e1 el hb; replace el := lt_keep el hb; replace p0 := cell_keep p0 pl hb; replace p1 := cell_keep p1 pl hb; replace p2 := cell_keep p2 pl hb; replace p3 := cell_keep p3 pl hb; replace pl := lt_keep pl hb; replace HB := Lib.hid (below_next HB.out hb)
            clear hb
            go_wp2_with fail
            refine (isRightOf_any l.1.1 l.1.2 l.2.1 l.2.2 s t _ HCL.out.1.1 HCL.out.1.2 HCL.out.2.1 HCL.out.2.2 HS.out HT.out).mono ?_
            rw [show rightS (s, t) ((l.1.1, l.1.2), (l.2.1, l.2.2)) = _ from H3.out]
            rintro e wz ⟨rfl, hb⟩
            replace e0 := cell_keep e0 el hb; replace e1 := cell_keep e1 el hb; replace el := lt_keep el hb; replace p0 := cell_keep p0 pl hb; replace p1 := cell_keep p1 pl hb; replace p2 := cell_keep p2 pl hb; replace p3 := cell_keep p3 pl hb; replace pl := lt_keep pl hb; replace HB := Lib.hid (below_next HB.out hb)
            clear hb
            clear e0 e1 p0 p1 p2 p3
            go_wp2
            go_roundw
            case rel => exact ⟨k + 1, by omega, by go_num, by rw [HP.out, H3.out]; simp, free_snoc HX.out HF.out (by rw [hitS, H1.out, H2.out]; rfl), HB.out⟩
            case measure => simp [intOf]; omega
          | false =>
            have H3 := Lib.hid h3
            clear h3
            go_upto_region 5 with fail
            obtain ⟨W4, hW4⟩ : ∃ W4, W4 = wr.alloc (.cells #[.int .i64 l.1.1, .int .i64 l.1.2, .int .i64 l.2.1, .int .i64 l.2.2] 54) := ⟨_, rfl⟩
            have p0 : W4.cell? ⟨wr.heap.size, 0, none⟩ = some (.int .i64 l.1.1) := by rw [hW4]; go_simp
            have p1 : W4.cell? ⟨wr.heap.size, 1, none⟩ = some (.int .i64 l.1.2) := by rw [hW4]; go_simp
            have p2 : W4.cell? ⟨wr.heap.size, 2, none⟩ = some (.int .i64 l.2.1) := by rw [hW4]; go_simp
            have p3 : W4.cell? ⟨wr.heap.size, 3, none⟩ = some (.int .i64 l.2.2) := by rw [hW4]; go_simp
            have pl : wr.heap.size < W4.heap.size := by rw [hW4]; simp
            have hb4 : Below wr.heap.size wr W4 := by rw [hW4]; exact below_new (Below.refl _ _) _
            replace e0 := cell_keep e0 el hb4; replace e1 := cell_keep e1 el hb4; replace el := lt_keep el hb4
            replace HB := Lib.hid (below_next HB.out hb4)
            rw [← hW4]
            clear hW4 hb4 x0 x1 x2 x3
            go_wp2_with fail
            refine (endsAt_any l.1.1 l.1.2 l.2.1 l.2.2 s t _).mono ?_
            rw [show endsS ((l.1.1, l.1.2), (l.2.1, l.2.2)) (s, t) = _ from H1.out]
            rintro e wz ⟨rfl, hb⟩
            replace e0 := cell_keep e0 el hb; replace e1 := cell_keep e1 el hb; replace el := lt_keep el hb; replace p0 := cell_keep p0 pl hb; replace p1 := cell_keep p1 pl hb; replace p2 := cell_keep p2 pl hb; replace p3 := cell_keep p3 pl hb; replace pl := lt_keep pl hb; replace HB := Lib.hid (below_next HB.out hb)
            clear hb
            go_wp2_with fail
            refine (passes_any l.1.1 l.1.2 l.2.1 l.2.2 s t _ HCL.out.1.1 HCL.out.1.2 HCL.out.2.1 HCL.out.2.2 HS.out HT.out).mono ?_
            rw [show passS (l.1.1, l.1.2) (l.2.1, l.2.2) (s, t) = _ from H2.out]
            rintro e wz ⟨rfl, hb⟩
            replace e0 := cell_keep e0 el hb; replace e1 := cell_keep e1 el hb; replace el := lt_keep el hb; replace p0 := cell_keep p0 pl hb; replace p1 := cell_keep p1 pl hb; replace p2 := cell_keep p2 pl hb; replace p3 := cell_keep p3 pl hb; replace pl := lt_keep pl hb; replace HB := Lib.hid (below_next HB.out hb)
            clear hb
            go_wp2_with fail
            refine (isRightOf_any l.1.1 l.1.2 l.2.1 l.2.2 s t _ HCL.out.1.1 HCL.out.1.2 HCL.out.2.1 HCL.out.2.2 HS.out HT.out).mono ?_
            rw [show rightS (s, t) ((l.1.1, l.1.2), (l.2.1, l.2.2)) = _ from H3.out]
            rintro e wz ⟨rfl, hb⟩
            replace e0 := cell_keep e0 el hb; replace e1 := cell_keep e1 el hb; replace el := lt_keep el hb; replace p0 := cell_keep p0 pl hb; replace p1 := cell_keep p1 pl hb; replace p2 := cell_keep p2 pl hb; replace p3 := cell_keep p3 pl hb; replace pl := lt_keep pl hb; replace HB := Lib.hid (below_next HB.out hb)
            clear hb
            clear e0 e1 p0 p1 p2 p3
            go_wp2
            go_roundw
            case rel => exact ⟨k + 1, by omega, by go_num, by rw [HP.out, H3.out]; simp, free_snoc HX.out HF.out (by rw [hitS, H1.out, H2.out]; rfl), HB.out⟩
            case measure => simp [intOf]; omega
    · have HE := Lib.hid (show L.take k = L from List.take_of_length_le (by rw [HL.out]; omega))
      have kn : ¬ (k : Int) < (n : Int) := by omega
      clear hbw hfree
      go_wp2
      go_ret
      exact ⟨ret_bool (by have h := HF.out; rw [HE.out] at h; rw [insB_eq, h, HE.out]; rfl), below_next B.out HB.out⟩

def insTo (f : Int → Bool) (k : Nat) : List Int := ((List.range k).map fun i : Nat => (i : Int)).filter f
theorem insTo_yes {f : Int → Bool} {k : Nat} (h : f (k : Int) = true) : insTo f (k + 1) = insTo f k ++ [(k : Int)] := by
  rw [insTo, List.range_succ, List.map_append, List.filter_append]; simp [h, insTo]
theorem insTo_no {f : Int → Bool} {k : Nat} (h : f (k : Int) = false) : insTo f (k + 1) = insTo f k := by
  rw [insTo, List.range_succ, List.map_append, List.filter_append]; simp [h, insTo]
theorem insTo_len (f : Int → Bool) (k : Nat) : (insTo f k).length ≤ k := by
  rw [insTo]; have := List.length_filter_le f ((List.range k).map fun i : Nat => (i : Int)); rw [List.length_map, List.length_range] at this; exact this
def insF (W : Int) (ps : List Int) (c : Int) : Bool := insB (linesL W (roundP ps)) (spotS W c)
def insideR (W H : Int) (xs : List Int) (a b : Int) (ps : List Int) : List Int := if okRg W H xs a b ps then insTo (insF W ps) (W * H).toNat else []
theorem rg_N {W H a b : Int} {xs ps : List Int} (h : okRg W H xs a b ps = true) : 1 ≤ W * H ∧ W * H ≤ 64 := cells_le (rg_W h) (rg_H h)
theorem len_InsideRing (W H : Int) (xs : List Int) (a b : Int) (ps : List Int) : (insideR W H xs a b ps).length ≤ 1000000 := by
  unfold insideR; split
  · rename_i h; have := rg_N h; have := insTo_len (insF W ps) (W * H).toNat; omega
  · simp

set_option maxRecDepth 100000 in
set_option maxHeartbeats 2000000 in
theorem impl_InsideRing (W H : Int) (A : Option Addr) (n c : Nat) (xs : List Int) (a b : Int) (A2 : Option Addr) (m c2 : Nat) (ps : List Int) (w : World) (ha : Rd w A n xs) (hp : Rd w A2 m ps) (hcap : m ≤ c2) :
    Calls Try.prog 35 #[brd W H A n c, lpr a b, .slice A2 m c2] w fun e w' => ∃ A' n' c', e = .returned (.tuple #[.slice A' n' c', .bool (okRg W H xs a b ps)]) ∧ OwnI 3 w' w.heap.size A' n' c' (insideR W H xs a b ps) ∧ Below w.heap.size w w' := by
  by_cases ht : okRg W H xs a b ps = true
  · go_enter Try.func35, Try.ntmps35
    go_wp2_with fail
    refine (isRingOn_any W H A n c xs a b A2 m c2 ps _ ((ha.alloc _).alloc _) ((hp.alloc _).alloc _) hcap).mono ?_
    rw [ht]
    rintro e wv ⟨rfl, hb⟩
    have hbx0 := below_box hb
    have a0 : wv.cell? ⟨w.heap.size, 0, none⟩ = some (.int .i64 W) := by simpa using newbox hbx0 0
    have a1 : wv.cell? ⟨w.heap.size, 1, none⟩ = some (.int .i64 H) := by simpa using newbox hbx0 1
    have a2 : wv.cell? ⟨w.heap.size, 2, none⟩ = some (.slice A n c) := by simpa using newbox hbx0 2
    have al : w.heap.size < wv.heap.size := by simpa using newbox_lt hbx0
    have l0 : wv.cell? ⟨w.heap.size + 1, 0, none⟩ = some (.int .i64 a) := by simpa using newbox hb 0
    have l1 : wv.cell? ⟨w.heap.size + 1, 1, none⟩ = some (.int .i64 b) := by simpa using newbox hb 1
    have ll : w.heap.size + 1 < wv.heap.size := by simpa using newbox_lt hb
    have B := Lib.hid (below_box hbx0)
    clear hb hbx0
    have HT := Lib.hid ht
    clear ht
    obtain ⟨i0, hi, hz0, hz1, hz2⟩ := info_parts infoI
    have HI := Lib.hid hi; have HZ0 := Lib.hid hz0; have HZ1 := Lib.hid hz1; have HZ2 := Lib.hid hz2
    clear hi hz0 hz1 hz2
    have HPL := Lib.hid hp.1
    obtain ⟨N, hN⟩ : ∃ N : Nat, (N : Int) = W * H := ⟨(W * H).toNat, by have := rg_N HT.out; omega⟩
    have HN := Lib.hid (show (W * H).toNat = N by omega)
    have hN64 : N ≤ 64 := by have := rg_N HT.out; omega
    have hwN : IntKind.i64.wrap (W * H) = (N : Int) := by rw [← hN]; exact IntWalk.i64_in _ (by omega)
    have HWW := Lib.hid (rg_W HT.out); have H64 := Lib.hid (rg_64 HT.out)
    have HML := Lib.hid (show 3 ≤ m ∧ m ≤ 16 by have := rg_len HT.out; have := hp.1; omega)
    clear hN
    go_wp2_with fail
    refine (linesAround_any W H A n c A2 m c2 ps _ (hp.keep B.out) hcap HWW.out H64.out (by have := HML.out; omega)).mono ?_
    rintro e w3 ⟨A1, n1, c1, rfl, hown, hb⟩
    replace a0 := cell_keep a0 al hb; replace a1 := cell_keep a1 al hb; replace a2 := cell_keep a2 al hb; replace al := lt_keep al hb
    replace B := Lib.hid (below_next B.out hb)
    have HO := Lib.hid hown
    have HCO := Lib.hid (co_lines HWW.out (round_64 H64.out (by have := HML.out; have := HPL.out; omega)))
    have hn1 : n1 ≤ 1000 := by have := hown.len; rw [linesL_len, roundP_len] at this; have := HML.out; have := HPL.out; omega
    clear hb hown hp l0 l1 ll
    go_wp2
    go_loopw [9, 24] (fun v i wr => ∃ (K n' c' : Nat) (A' : Option Addr), K ≤ N ∧ i = .int .i64 K ∧ v = .slice A' n' c' ∧ OwnI 3 wr w3.heap.size A' n' c' (insTo (insF W ps) K) ∧ Below w3.heap.size w3 wr) (fun _ i _ => N - (intOf i).toNat)
    case atStart => exact ⟨0, 0, 0, none, Nat.zero_le _, rfl, rfl, OwnI.none_ _ _ _, Below.refl _ _⟩
    case round =>
      obtain ⟨K, n', c', A', hK, rfl, rfl, hwn, hbw⟩ := hrel
      have HB := Lib.hid hbw; have HW9 := Lib.hid hwn
      have hn' : n' ≤ 64 := by have := hwn.len; have := insTo_len (insF W ps) K; omega
      by_cases hlt : K < N
      · have b0 := cell_keep a0 al hbw; have b1 := cell_keep a1 al hbw; have b2 := cell_keep a2 al hbw; have bl := lt_keep al hbw
        have HK64 := Lib.hid (show 0 ≤ (K : Int) ∧ (K : Int) ≤ 64 by omega)
        have HOK := Lib.hid (HO.out.keep hbw)
        have hsw := Lib.hid hbw.size
        have kn : (K : Int) < (N : Int) := by omega
        clear hbw hwn
        cases hf : insF W ps K with
        | true =>
          have HF := Lib.hid hf
          have HV := Lib.hid (insTo_yes hf)
          clear hf
          go_wp2_with fail
          refine (spotOf_any W H A n c (K : Int) _ HWW.out HK64.out).mono ?_
          rintro e w4 ⟨rfl, hb⟩
          replace HOK := Lib.hid (HOK.out.keep hb); replace HW9 := Lib.hid (HW9.out.keep hb); replace HB := Lib.hid (below_next HB.out hb); replace hsw := Lib.hid (Nat.le_trans hsw.out hb.size)
          clear hb b0 b1 b2 bl
          go_wp2_with fail
          refine (isInside_any _ A1 n1 c1 _ ((K : Int) % W) ((K : Int) / W) _ HOK.out HCO.out (cell_bd HWW.out HK64.out).1 (cell_bd HWW.out HK64.out).2 hn1).mono ?_
          rw [show insB (linesL W (roundP ps)) ((K : Int) % W, (K : Int) / W) = _ from HF.out]
          rintro e w4 ⟨rfl, hb⟩
          replace HW9 := Lib.hid (HW9.out.keep hb); replace HB := Lib.hid (below_next HB.out hb); replace hsw := Lib.hid (Nat.le_trans hsw.out hb.size)
          clear hb HOK
          go_wp2_with (at_builtin; refine wpList_app1 rfl (.tmp 32) (.tmp 34) 22 3 rfl i0 Try.underlying22 HI.out HZ0.out HZ1.out HZ2.out w3.heap.size A' n' c' (insTo (insF W ps) K) (K : Int) rfl HW9.out rfl (by omega) hsw.out ?_; intro A5 c5 w5 hown5 hb5)
          have O5 := Lib.hid hown5
          have B5 := Lib.hid (HB.out.trans hb5)
          clear hown5 hb5
          go_wp2
          go_roundw
          case rel => exact ⟨K + 1, n' + 1, c5, A5, by omega, by go_num, rfl, by rw [HV.out]; exact O5.out, B5.out⟩
          case measure => simp [intOf]; omega
        | false =>
          have HF := Lib.hid hf
          have HV := Lib.hid (insTo_no hf)
          clear hf
          go_wp2_with fail
          refine (spotOf_any W H A n c (K : Int) _ HWW.out HK64.out).mono ?_
          rintro e w4 ⟨rfl, hb⟩
          replace HOK := Lib.hid (HOK.out.keep hb); replace HW9 := Lib.hid (HW9.out.keep hb); replace HB := Lib.hid (below_next HB.out hb); replace hsw := Lib.hid (Nat.le_trans hsw.out hb.size)
          clear hb b0 b1 b2 bl
          go_wp2_with fail
          refine (isInside_any _ A1 n1 c1 _ ((K : Int) % W) ((K : Int) / W) _ HOK.out HCO.out (cell_bd HWW.out HK64.out).1 (cell_bd HWW.out HK64.out).2 hn1).mono ?_
          rw [show insB (linesL W (roundP ps)) ((K : Int) % W, (K : Int) / W) = _ from HF.out]
          rintro e w4 ⟨rfl, hb⟩
          replace HW9 := Lib.hid (HW9.out.keep hb); replace HB := Lib.hid (below_next HB.out hb); replace hsw := Lib.hid (Nat.le_trans hsw.out hb.size)
          clear hb HOK
          go_wp2
          go_roundw
          case rel => exact ⟨K + 1, n', c', A', by omega, by go_num, rfl, by rw [HV.out]; exact HW9.out, HB.out⟩
          case measure => simp [intOf]; omega
      · have HE := Lib.hid (show insideR W H xs a b ps = insTo (insF W ps) K by rw [insideR, HT.out, if_pos rfl, HN.out, show K = N by omega])
        have kn : ¬ (K : Int) < (N : Int) := by omega
        have HX := Lib.hid (hwn.lower B.out.size)
        clear hbw hwn
        go_wp2
        go_ret2
        exact ⟨_, _, _, by rw [HT.out]; rfl, by rw [HE.out]; exact HX.out, below_next B.out HB.out⟩
  · have ht' : okRg W H xs a b ps = false := by simpa using ht
    go_enter Try.func35, Try.ntmps35
    go_wp2_with fail
    refine (isRingOn_any W H A n c xs a b A2 m c2 ps _ ((ha.alloc _).alloc _) ((hp.alloc _).alloc _) hcap).mono ?_
    rw [ht']
    rintro e wv ⟨rfl, hb⟩
    have hbx0 := below_box hb
    have a0 : wv.cell? ⟨w.heap.size, 0, none⟩ = some (.int .i64 W) := by simpa using newbox hbx0 0
    have a1 : wv.cell? ⟨w.heap.size, 1, none⟩ = some (.int .i64 H) := by simpa using newbox hbx0 1
    have a2 : wv.cell? ⟨w.heap.size, 2, none⟩ = some (.slice A n c) := by simpa using newbox hbx0 2
    have al : w.heap.size < wv.heap.size := by simpa using newbox_lt hbx0
    have l0 : wv.cell? ⟨w.heap.size + 1, 0, none⟩ = some (.int .i64 a) := by simpa using newbox hb 0
    have l1 : wv.cell? ⟨w.heap.size + 1, 1, none⟩ = some (.int .i64 b) := by simpa using newbox hb 1
    have ll : w.heap.size + 1 < wv.heap.size := by simpa using newbox_lt hb
    have B := Lib.hid (below_box hbx0)
    clear hb hbx0
    go_wp2
    go_ret2
    exact ⟨none, 0, 0, by rw [ht']; rfl, by rw [insideR, ht']; exact OwnI.none_ _ _ _, B.out⟩

end Go.Proofs.Ytmecomcokmffbaa
